/-
  NetPlays: for every input the statement's function returns true, with no condition; each argument reads behind the call as before. By contracts of the program's and the document's functions.
-/
import Derived.Test.YtnfpcklpmfemiaaNtLaw
namespace Go.Proofs.Ytnfpcklpmfemiaa.netPlays
open Go.ChangeShapes Go.WideShapes Go.ChangeAt Go.RowKit
set_option linter.unusedVariables false
set_option linter.unusedSimpArgs false

set_option maxRecDepth 100000 in
set_option maxHeartbeats 8000000 in
theorem walk_bad (w : World) (a0 : Int) (a1 : Option Addr) (n1 c1 : Nat) (h : a0 < 1 ∨ 1024 < a0 ∨ (1 ≤ a0 ∧ a0 ≤ 1024 ∧ 100 < n1)) :
    Calls Try.prog 6 #[.int .i64 a0, .slice a1 n1 c1] w fun e w' => e = .returned (.bool true) ∧ Below w.heap.size w w' := by
  rcases h with h1 | h1 | ⟨h1, h2, h3⟩
  · go_enter Try.func6, Try.ntmps6
    go_wp2_with (go_at_call 28; (with_reducible refine (Nt.works_any _).mono ?_); rintro e W9 ⟨rfl, hb⟩; have B9 := Lib.hid hb; clear hb)
    go_ret
    exact ⟨rfl, B9.out⟩
  · have h2 : ¬ a0 < 1 := by omega
    go_enter Try.func6, Try.ntmps6
    go_wp2_with (go_at_call 28; (with_reducible refine (Nt.works_any _).mono ?_); rintro e W9 ⟨rfl, hb⟩; have B9 := Lib.hid hb; clear hb)
    go_ret
    exact ⟨rfl, B9.out⟩
  · have h4 : ¬ a0 < 1 := by omega
    have h5 : ¬ 1024 < a0 := by omega
    have h6 : (100 : Int) < (n1 : Int) := by omega
    clear h1 h2 h3
    go_enter Try.func6, Try.ntmps6
    go_wp2_with (go_at_call 28; (with_reducible refine (Nt.works_any _).mono ?_); rintro e W9 ⟨rfl, hb⟩; have B9 := Lib.hid hb; clear hb)
    go_ret
    exact ⟨rfl, B9.out⟩
set_option maxRecDepth 100000 in
set_option maxHeartbeats 8000000 in
theorem walk_good (w : World) (k : Nat) (h0 : 1 ≤ k) (h9 : k ≤ 1024) (a1 : Option Addr) (c1 : Nat) (x1 : List Nt.Act) (b1 : Nt.AsIn w a1 c1 x1) (hx : x1.length ≤ 100) :
    Calls Try.prog 6 #[.int .i64 (k : Int), .slice a1 x1.length c1] w fun e w' => e = .returned (.bool true) ∧ Below w.heap.size w w' := by
  have KP := Lib.hid (Nt.played_any k h0 h9 a1 c1 x1 hx w b1)
  have h1 : ¬ (k : Int) < 1 := by omega
  have h2 : ¬ 1024 < (k : Int) := by omega
  have h3 : ¬ (100 : Int) < (x1.length : Int) := by omega
  clear h0 h9 b1
  go_enter Try.func6, Try.ntmps6
  go_wp2_with (first
    | (go_at_call 37; (with_reducible refine KP.out.mono ?_); rintro e W1 ⟨p, F, a, c, rfl, hn, hb, hf, ho⟩
       have N1 := Lib.hid hn; have B1 := Lib.hid hb; have O1 := Lib.hid ho
       clear hn hb hf ho)
    | ((with_reducible show wpList _ _ _ (Oper.mk none (Op.store 76 _ _) _ _ _ _ :: _) _ _); refine wpList_store_own rfl 76 (.tmp 6) (.tmp 25) rfl W1.heap.size #[.int .i64 (k : Int), .slice a (Nt.playL k x1).length c] rfl rfl 76 _ (heap_alloc_new W1 _) (by kernel_rfl) rfl (by kernel_rfl) ?_
       intro W2 HW2
       have hb2 : Below W1.heap.size W1 W2 := ((Below.refl W1.heap.size W1).alloc (Nat.le_refl _) _).trans HW2.below
       have B2 := Lib.hid (B1.out.trans (hb2.mono B1.out.size)); have N2 := Lib.hid (N1.out.kp hb2); have R2 := Lib.hid HW2.row; have O2 := Lib.hid (O1.out.kp hb2)
       have KI := Lib.hid (Nt.is_any k a c (Nt.playL k x1) W2 (O2.out.ls N2.out.ok) N2.out.len N2.out)
       clear hb2 HW2)
    | ((with_reducible show wpList _ _ _ (Oper.mk (some 30) _ _ _ _ _ :: _) _ _); refine Ev.load_row_g 76 (.tmp 6) rfl rfl W1.heap.size rfl 76 _ (0, 0) _ R2.out Try.underlying76 rfl (by kernel_rfl) ?_)
    | (go_at_call 38; (with_reducible refine KI.out.mono ?_); rintro e' W8 ⟨rfl, hb⟩; have B8 := Lib.hid (B2.out.trans (hb.mono B2.out.size)); clear hb)
    | (go_at_call 28; (with_reducible refine (Nt.works_any _).mono ?_); rintro e W9 ⟨rfl, hb⟩; have B9 := Lib.hid (B8.out.trans (hb.mono B8.out.size)); clear hb))
  go_ret
  exact ⟨rfl, B9.out⟩
/-! THE WALK: the Go text returns true; of memory nothing that stood there has turned. -/
set_option maxRecDepth 100000 in
set_option maxHeartbeats 400000 in
theorem walk (w : World) (a0 : Int) (w0 : (Lit.int .i64 a0).wf = true) (a1 : Option Addr) (n1 c1 : Nat) (x1 : List Nt.Act) (l1 : x1.length = n1) (b1 : Nt.AsIn w a1 c1 x1) :
    Calls Try.prog 6 #[.int .i64 a0, .slice a1 n1 c1] w fun e w' => e = .returned (.bool true) ∧ Below w.heap.size w w' := by
  by_cases h : (1 ≤ a0 ∧ a0 ≤ 1024) ∧ n1 ≤ 100
  · obtain ⟨⟨h1, h2⟩, h3⟩ := h
    obtain ⟨k, rfl, h4, h5⟩ := Nt.may_nat h1 h2
    subst l1
    exact walk_good w k h4 h5 a1 c1 x1 b1 h3
  · exact walk_bad w a0 a1 n1 c1 (by omega)

/-! THE ROW -/
set_option maxRecDepth 100000 in
theorem lifted (os : Os) (started : os.Started) (H : Type) (enc : TypeId × Value → H) :
    ReturnsInHanded {} Try.checked os 6 .any (Rows.netPlaysSpec.pre6 enc Try.prog Try.f6 Rows.netPlaysRow.domain false) (Rows.netPlaysSpec.post enc Try.prog Try.f6 false true false false) := by
  refine returnsInHanded_of_change (C := Try.checked) own started (by kernel_rfl) Try.func6
    (ChangeSpec.witness6 (enc := enc) (C := Try.checked) false ⟨#[], #[.int .i64 0, .slice none 0 0], []⟩ 8 (by kernel_rfl) (by kernel_rfl) (by kernel_rfl) (by kernel_rfl)) ?_
  intro W base args ds gs before hval0 hW hcnd _
  have hval : ∀ (j : Nat) t v, Try.f6.params[j]? = some t → args[j]? = some v → Value.okWide Try.prog W .any base t v := hval0
  have hW' := hW
  obtain ⟨p, q, hA0, hV, rfl, hfz, hnd⟩ := hW
  have hA : DataW.TrodAll enc Try.prog W 0 (fun _ => true) true Try.f6.params.toList args.toList ds p := hA0
  rw [Try.params6] at hA hval
  obtain ⟨v0, vs0, d0, ds0, p0, q0, hargs, rfl, rfl, h0, r0⟩ := trodAll_cons hA
  obtain ⟨v1, vs1, d1, ds1, p1, q1, rfl, rfl, rfl, h1, r1⟩ := trodAll_cons r0
  obtain ⟨rfl, rfl, rfl⟩ := trodAll_nil r1
  obtain rfl : args = #[v0, v1] := by cases args; simp_all
  obtain ⟨rfl, rfl⟩ := trodVars_none hV
  clear hA0 hval0
  simp only [List.append_nil] at hW'
  have hlt : ∀ x ∈ p0 ++ (p1), x.block < W.heap.size := fun x hx => by simpa using hW'.lt x (by simpa using hx)
  have h0k := h0
  obtain ⟨a0, rfl, rfl, rfl, w0⟩ := open_int Try.underlying3 (hval 0 3 v0 rfl rfl) h0
  obtain ⟨a1, n1, c1, rfl⟩ := okWide_slice Try.underlying74 (hval 1 74 v1 rfl rfl)
  obtain ⟨x1, l1, b1⟩ := open_acts h1
  refine (walk W a0 w0 a1 n1 c1 x1 l1 b1).mono fun e W' ⟨he, hb⟩ => ?_
  subst he
  have harg0 : DataW.Trod enc Try.prog W' 0 (fun b => decide (b < W.heap.size)) true 3 _ _ _ := Below.trod laidOut (by kernel_rfl) (of_decide_eq_true (by kernel_rfl)) h0k hb (fun x hx => by cases hx)
  have harg1 : DataW.Trod enc Try.prog W' 0 (fun b => decide (b < W.heap.size)) true 74 _ _ _ := Below.trod laidOut (by kernel_rfl) (of_decide_eq_true (by kernel_rfl)) h1 hb (fun x hx => hlt x (by simp [hx]))
  exact ⟨_, rfl, _, _, _, [], _, [], hW', trodAll_mk1 (shut_bool Try.underlying4 _), (trodAll_cons_mk harg0 (trodAll_cons_mk harg1 trodAll_mk0)), rfl, hb.frame _, fun h => by cases h⟩

theorem over : Rows.netPlaysRow.holds Try.pinned (OpenSpec.ofChange Rows.netPlaysSpec) :=
  OpenClaim.holds_of_wide 6 Try.f6 rfl rfl rfl rfl rfl rfl rfl ⟨rfl, rfl, rfl, rfl, rfl⟩ rfl rfl rfl rfl rfl (by kernel_rfl) Try.func6 (by kernel_rfl)
    (of_decide_eq_true (by kernel_rfl)) (by unfold Func.isWrapper; first | (rw [if_pos (by decide +kernel)]; kernel_rfl) | (rw [if_neg (by decide +kernel)]; exact ⟨rfl, rfl⟩))
    (fun os started H enc _ => lifted os started H enc)

/-- THE STATEMENT -/
theorem proved : Rows.NetPlaysSaid :=
  over
end Go.Proofs.Ytnfpcklpmfemiaa.netPlays
