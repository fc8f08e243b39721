/-
  LinesPlays: for every input the statement's function returns true, with no condition; each argument reads behind the call as before. By contracts of the program's and the document's functions.
-/
import Derived.Test.YtifniogldinbdaaLnLaw
namespace Go.Proofs.Ytifniogldinbdaa.linesPlays
open Go.ChangeShapes Go.WideShapes Go.ChangeAt Go.RowKit
set_option linter.unusedVariables false
set_option linter.unusedSimpArgs false

set_option maxRecDepth 100000 in
set_option maxHeartbeats 4000000 in
theorem walk_bad (w : World) (a0 a1 : Int) (hs : Ev.i64B a0) (hw : Ev.i64B a1) (hm : Ln.mayB a0 a1 = false) (a2 : Option Addr) (n2 c2 : Nat) :
    Calls Try.prog 4 #[.int .i64 a0, .int .i64 a1, .slice a2 n2 c2] w fun e w' => e = .returned (.bool true) ∧ Below w.heap.size w w' := by
  have RG := Lib.hid (hm ▸ right_any a0 a1 hs hw w)
  clear hs hw
  go_enter Try.func4, Try.ntmps4
  go_wp2_with (first
    | (go_at_call 20; (with_reducible refine RG.out.mono ?_); rintro e W1 ⟨rfl, hw⟩; subst hw)
    | (go_at_call 21; (with_reducible refine (works_any _).mono ?_); rintro e W2 ⟨rfl, hb⟩; have B2 := Lib.hid hb; clear hb))
  go_ret
  exact ⟨rfl, B2.out⟩
set_option maxRecDepth 100000 in
set_option maxHeartbeats 4000000 in
theorem walk_long (w : World) (a0 a1 : Int) (hs : Ev.i64B a0) (hw : Ev.i64B a1) (hm : Ln.mayB a0 a1 = true) (a2 : Option Addr) (n2 c2 : Nat) (hn : (100 : Int) < (n2 : Int)) :
    Calls Try.prog 4 #[.int .i64 a0, .int .i64 a1, .slice a2 n2 c2] w fun e w' => e = .returned (.bool true) ∧ Below w.heap.size w w' := by
  have RG := Lib.hid (hm ▸ right_any a0 a1 hs hw w)
  clear hs hw
  go_enter Try.func4, Try.ntmps4
  go_wp2_with (first
    | (go_at_call 20; (with_reducible refine RG.out.mono ?_); rintro e W1 ⟨rfl, hw⟩; subst hw)
    | (go_at_call 21; (with_reducible refine (works_any _).mono ?_); rintro e W2 ⟨rfl, hb⟩; have B2 := Lib.hid hb; clear hb))
  go_ret
  exact ⟨rfl, B2.out⟩
set_option maxRecDepth 100000 in
set_option maxHeartbeats 4000000 in
theorem walk_good (w : World) (s ways : Nat) (hm : Ln.mayB s ways = true) (h0 : 0 < s) (h1 : s ≤ 64) (h2 : 0 < ways) (h3 : ways ≤ 8) (a2 : Option Addr) (c2 : Nat) (x2 : List Ln.Act) (b2 : Ln.AsIn w a2 c2 x2) (hx : x2.length ≤ 100) :
    Calls Try.prog 4 #[.int .i64 (s : Int), .int .i64 (ways : Int), .slice a2 x2.length c2] w fun e w' => e = .returned (.bool true) ∧ Below w.heap.size w w' := by
  have RG := Lib.hid (hm ▸ right_any s ways (by unfold Ev.i64B; omega) (by unfold Ev.i64B; omega) w)
  have PL := Lib.hid (played_any s ways hm a2 c2 x2 hx w b2)
  obtain ⟨hrl, hll⟩ := Ln.playL_rl (s := s) (ways := ways) h0 h1 h2 h3 b2.ok x2.length (Nat.le_refl _)
  rw [List.take_length] at hrl hll
  unfold Ln.Played at PL
  obtain ⟨l, hl⟩ : ∃ l, Ln.playL s ways x2 = l := ⟨_, rfl⟩
  rw [hl] at PL hrl hll
  have hn : ¬ (100 : Int) < (x2.length : Int) := by omega
  have RL := Lib.hid hrl
  clear hl hrl b2 hm
  go_enter Try.func4, Try.ntmps4
  go_wp2_with (first
    | (go_at_call 20; (with_reducible refine RG.out.mono ?_); rintro e W1 ⟨rfl, hw⟩; subst hw)
    | (go_at_call 22; (with_reducible refine PL.out.mono ?_); rintro e W1 ⟨p, F, a, c, rfl, hca, hb, hf, ho, hnf⟩
       have CA := Lib.hid hca; have HB := Lib.hid hb; have HF := Lib.hid hf; have HO := Lib.hid ho; have HN := Lib.hid hnf
       clear hca hb hf ho hnf)
    | ((with_reducible show wpList _ _ _ (Oper.mk none (Op.store 46 _ _) _ _ _ _ :: _) _ _); refine wpList_store_own rfl 46 (.tmp 8) (.tmp 26) rfl W1.heap.size #[.int .i64 (s : Int), .int .i64 (ways : Int), .slice a l.length c] rfl rfl 46 _ (heap_alloc_new W1 _) (by kernel_rfl) rfl (by kernel_rfl) ?_
       intro W2 HW2
       have P2 := Lib.hid (Ln.Pl.of_played CA.out HB.out HF.out HO.out HN.out HW2)
       have KI := Lib.hid (is_any s ways a c l W2 (P2.out.rin RL.out (by omega)) RL.out P2.out.cache)
       clear HW2)
    | ((with_reducible show wpList _ _ _ (Oper.mk (some 31) _ _ _ _ _ :: _) _ _); refine Ev.load_row_g 46 (.tmp 8) rfl rfl W1.heap.size rfl 46 _ (0, 0) _ P2.out.want Try.underlying46 rfl (by kernel_rfl) ?_)
    | (go_at_call 23; (with_reducible refine KI.out.mono ?_); rintro e W3 ⟨rfl, hb⟩; have B3 := Lib.hid (P2.out.bel.trans (hb.mono P2.out.bel.size)); clear hb)
    | (go_at_call 21; (with_reducible refine (works_any _).mono ?_); rintro e W4 ⟨rfl, hb⟩; have B4 := Lib.hid (B3.out.trans (hb.mono B3.out.size)); clear hb))
  go_ret
  exact ⟨rfl, B4.out⟩
/-! THE WALK: the Go text returns true; of memory nothing that stood there has turned. -/
set_option maxRecDepth 100000 in
set_option maxHeartbeats 8000000 in
theorem walk (w : World) (a0 : Int) (w0 : (Lit.int .i64 a0).wf = true) (a1 : Int) (w1 : (Lit.int .i64 a1).wf = true) (a2 : Option Addr) (n2 c2 : Nat) (x2 : List Ln.Act) (l2 : x2.length = n2) (b2 : Ln.AsIn w a2 c2 x2) :
    Calls Try.prog 4 #[.int .i64 a0, .int .i64 a1, .slice a2 n2 c2] w fun e w' => e = .returned (.bool true) ∧ Below w.heap.size w w' := by
  cases hm : Ln.mayB a0 a1
  · exact walk_bad w a0 a1 (i64_of_wf w0) (i64_of_wf w1) hm a2 n2 c2
  · by_cases hn : (100 : Int) < (n2 : Int)
    · exact walk_long w a0 a1 (i64_of_wf w0) (i64_of_wf w1) hm a2 n2 c2 hn
    · obtain ⟨s, ways, rfl, rfl, h0, h1, h2, h3⟩ := Ln.may_nat hm
      subst l2
      exact walk_good w s ways hm h0 h1 h2 h3 a2 c2 x2 b2 (by omega)

/-! THE ROW -/
set_option maxRecDepth 100000 in
theorem lifted (os : Os) (started : os.Started) (H : Type) (enc : TypeId × Value → H) :
    ReturnsInHanded {} Try.checked os 4 .any (Rows.linesPlaysSpec.pre6 enc Try.prog Try.f4 Rows.linesPlaysRow.domain false) (Rows.linesPlaysSpec.post enc Try.prog Try.f4 false true false false) := by
  refine returnsInHanded_of_change (C := Try.checked) own started (by kernel_rfl) Try.func4
    (ChangeSpec.witness6 (enc := enc) (C := Try.checked) false ⟨#[], #[.int .i64 0, .int .i64 0, .slice none 0 0], []⟩ 8 (by kernel_rfl) (by kernel_rfl) (by kernel_rfl) (by kernel_rfl)) ?_
  intro W base args ds gs before hval0 hW hcnd _
  have hval : ∀ (j : Nat) t v, Try.f4.params[j]? = some t → args[j]? = some v → Value.okWide Try.prog W .any base t v := hval0
  have hW' := hW
  obtain ⟨p, q, hA0, hV, rfl, hfz, hnd⟩ := hW
  have hA : DataW.TrodAll enc Try.prog W 0 (fun _ => true) true Try.f4.params.toList args.toList ds p := hA0
  rw [Try.params4] at hA hval
  obtain ⟨v0, vs0, d0, ds0, p0, q0, hargs, rfl, rfl, h0, r0⟩ := trodAll_cons hA
  obtain ⟨v1, vs1, d1, ds1, p1, q1, rfl, rfl, rfl, h1, r1⟩ := trodAll_cons r0
  obtain ⟨v2, vs2, d2, ds2, p2, q2, rfl, rfl, rfl, h2, r2⟩ := trodAll_cons r1
  obtain ⟨rfl, rfl, rfl⟩ := trodAll_nil r2
  obtain rfl : args = #[v0, v1, v2] := by cases args; simp_all
  obtain ⟨rfl, rfl⟩ := trodVars_none hV
  clear hA0 hval0
  simp only [List.append_nil] at hW'
  have hlt : ∀ x ∈ p0 ++ (p1 ++ (p2)), x.block < W.heap.size := fun x hx => by simpa using hW'.lt x (by simpa using hx)
  have h0k := h0
  obtain ⟨a0, rfl, rfl, rfl, w0⟩ := open_int Try.underlying3 (hval 0 3 v0 rfl rfl) h0
  have h1k := h1
  obtain ⟨a1, rfl, rfl, rfl, w1⟩ := open_int Try.underlying3 (hval 1 3 v1 rfl rfl) h1
  obtain ⟨a2, n2, c2, rfl⟩ := okWide_slice Try.underlying44 (hval 2 44 v2 rfl rfl)
  obtain ⟨x2, l2, b2⟩ := open_acts h2
  refine (walk W a0 w0 a1 w1 a2 n2 c2 x2 l2 b2).mono fun e W' ⟨he, hb⟩ => ?_
  subst he
  have harg0 : DataW.Trod enc Try.prog W' 0 (fun b => decide (b < W.heap.size)) true 3 _ _ _ := Below.trod laidOut (by kernel_rfl) (of_decide_eq_true (by kernel_rfl)) h0k hb (fun x hx => by cases hx)
  have harg1 : DataW.Trod enc Try.prog W' 0 (fun b => decide (b < W.heap.size)) true 3 _ _ _ := Below.trod laidOut (by kernel_rfl) (of_decide_eq_true (by kernel_rfl)) h1k hb (fun x hx => by cases hx)
  have harg2 : DataW.Trod enc Try.prog W' 0 (fun b => decide (b < W.heap.size)) true 44 _ _ _ := Below.trod laidOut (by kernel_rfl) (of_decide_eq_true (by kernel_rfl)) h2 hb (fun x hx => hlt x (by simp [hx]))
  exact ⟨_, rfl, _, _, _, [], _, [], hW', trodAll_mk1 (shut_bool Try.underlying4 _), (trodAll_cons_mk harg0 (trodAll_cons_mk harg1 (trodAll_cons_mk harg2 trodAll_mk0))), rfl, hb.frame _, fun h => by cases h⟩

theorem over : Rows.linesPlaysRow.holds Try.pinned (OpenSpec.ofChange Rows.linesPlaysSpec) :=
  OpenClaim.holds_of_wide 4 Try.f4 rfl rfl rfl rfl rfl rfl rfl ⟨rfl, rfl, rfl, rfl, rfl⟩ rfl rfl rfl rfl rfl (by kernel_rfl) Try.func4 (by kernel_rfl)
    (of_decide_eq_true (by kernel_rfl)) (by unfold Func.isWrapper; first | (rw [if_pos (by decide +kernel)]; kernel_rfl) | (rw [if_neg (by decide +kernel)]; exact ⟨rfl, rfl⟩))
    (fun os started H enc _ => lifted os started H enc)

/-- THE STATEMENT -/
theorem proved : Rows.LinesPlaysSaid :=
  over
end Go.Proofs.Ytifniogldinbdaa.linesPlays
