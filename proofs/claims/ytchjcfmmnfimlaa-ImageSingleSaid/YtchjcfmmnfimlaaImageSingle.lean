/-
  ImageSingle: for every input the statement's function returns true, with no condition; each argument reads behind the call as before. By contracts of the program's and the document's functions.
-/
import Derived.Test.YtchjcfmmnfimlaaImEq
namespace Go.Proofs.Ytchjcfmmnfimlaa.imageSingle
open Go.ChangeShapes Go.WideShapes Go.ChangeAt Go.RowKit
set_option linter.unusedVariables false

/-! THE WALK: the Go text returns true; of memory nothing that stood there has turned. -/
set_option maxHeartbeats 400000 in
theorem walk (w : World) (a0 : Option Addr) (n0 c0 : Nat) (x0 : List Int) (l0 : x0.length = n0) (m0 : n0 ≤ 9223372036854775807) (b0 : BIn w a0 x0) (a1 : Int) (w1 : (Lit.int .i64 a1).wf = true) (a2 : Int) (w2 : (Lit.int .u32 a2).wf = true) :
    Calls Try.prog 8 #[.slice a0 n0 c0, .int .i64 a1, .int .u32 a2] w fun e w' => e = .returned (.bool true) ∧ Below w.heap.size w w' := by
  have B0 := Lib.hid b0; clear b0
  by_cases hbig : 10000 < n0
  · go_enter Try.func8, Try.ntmps8
    go_wp2_with (go_at_call 11; refine (works_any _).mono ?_; rintro e wz ⟨rfl, hbz⟩)
    go_ret
    exact ⟨rfl, hbz⟩
  · obtain ⟨addr, rfl⟩ := Int.eq_ofNat_of_zero_le (wf_u32 w2).1
    have ha := (wf_u32 w2).2
    clear w2
    go_enter Try.func8, Try.ntmps8
    go_wp2_with fail
    refine (sized_any a0 n0 c0 x0 a1 _ B0.out l0 (by omega) (wf_i64 w1)).mono ?_
    rintro e wa ⟨g, ys, rfl, hr, hok, hyb, hg, hba⟩
    have hbd := Im.okB_bd hok
    have HR := Lib.hid hr; have HOK := Lib.hid hok; have HY := Lib.hid hyb; have HG := Lib.hid hg; have HBA := Lib.hid hba; clear hr hok hyb hg hba
    go_wp2_with fail
    refine (of_yes ys.length ys.length _ ys HOK.out rfl HY.out _ (Sl.of_row HR.out)).mono ?_
    rintro e wb ⟨p, h, rfl, hi, hp, hh, hbb⟩
    have HI := Lib.hid hi; have HP := Lib.hid hp; have HH := Lib.hid hh; have HBB := Lib.hid hbb; clear hi hp hh hbb
    have HRB := Lib.hid (HR.out.old HBB.out)
    by_cases hlt : addr < ys.length
    · go_wp2_with fail
      refine (read_goes p h ys addr 1 _ (by omega) HI.out (by omega) (by omega) hlt).mono ?_
      rw [Im.win1 (by omega), Im.val1]
      rintro e wc ⟨rfl, hbc⟩
      have HBC := Lib.hid hbc; clear hbc
      have hcell := (HRB.out.old HBC.out).cell hlt
      obtain ⟨x, ex⟩ : ∃ x, x = ys.getD addr 0 := ⟨_, rfl⟩
      have hx := Im.getD_byt HY.out addr
      rw [← ex] at hcell hx ⊢
      clear ex
      go_wp2_with (first
        | (go_at_call 14; refine (num_any _ _).mono ?_; rintro e w' ⟨rfl, rfl⟩)
        | (go_at_call 11; refine (works_any _).mono ?_; rintro e wz ⟨rfl, hbz⟩))
      go_ret
      exact ⟨rfl, below_tr (below_tr (below_tr HBA.out HBB.out) HBC.out) hbz⟩
    · go_wp2_with fail
      refine (read_no p h ys addr 1 4 _ HI.out (by omega) (by decide) (.inr ⟨1, rfl, by omega, .inr ⟨rfl, by omega, by omega⟩⟩)).mono ?_
      rintro e wc ⟨rfl, hbc⟩
      have HBC := Lib.hid hbc; clear hbc
      go_wp2_with (first
        | (go_at_call 14; refine (num_any _ _).mono ?_; rintro e w' ⟨rfl, rfl⟩)
        | (go_at_call 11; refine (works_any _).mono ?_; rintro e wz ⟨rfl, hbz⟩))
      go_ret
      exact ⟨rfl, below_tr (below_tr (below_tr HBA.out HBB.out) HBC.out) hbz⟩

/-! THE ROW -/
set_option maxRecDepth 100000 in
theorem lifted (os : Os) (started : os.Started) (H : Type) (enc : TypeId × Value → H) :
    ReturnsInHanded {} Try.checked os 8 .any (Rows.imageSingleSpec.pre6 enc Try.prog Try.f8 Rows.imageSingleRow.domain false) (Rows.imageSingleSpec.post enc Try.prog Try.f8 false true false false) := by
  refine returnsInHanded_of_change (C := Try.checked) own started (by kernel_rfl) Try.func8
    (ChangeSpec.witness6 (enc := enc) (C := Try.checked) false ⟨#[], #[.slice none 0 0, .int .i64 0, .int .u32 0], []⟩ 8 (by kernel_rfl) (by kernel_rfl) (by kernel_rfl) (by kernel_rfl)) ?_
  intro W base args ds gs before hval0 hW hcnd _
  have hval : ∀ (j : Nat) t v, Try.f8.params[j]? = some t → args[j]? = some v → Value.okWide Try.prog W .any base t v := hval0
  have hW' := hW
  obtain ⟨p, q, hA0, hV, rfl, hfz, hnd⟩ := hW
  have hA : DataW.TrodAll enc Try.prog W 0 (fun _ => true) true Try.f8.params.toList args.toList ds p := hA0
  rw [Try.params8] at hA hval
  obtain ⟨v0, vs0, d0, ds0, p0, q0, hargs, rfl, rfl, h0, r0⟩ := trodAll_cons hA
  obtain ⟨v1, vs1, d1, ds1, p1, q1, rfl, rfl, rfl, h1, r1⟩ := trodAll_cons r0
  obtain ⟨v2, vs2, d2, ds2, p2, q2, rfl, rfl, rfl, h2, r2⟩ := trodAll_cons r1
  obtain ⟨rfl, rfl, rfl⟩ := trodAll_nil r2
  obtain rfl : args = #[v0, v1, v2] := by cases args; simp_all
  obtain ⟨rfl, rfl⟩ := trodVars_none hV
  clear hA0 hval0
  simp only [List.append_nil] at hW'
  have hlt : ∀ x ∈ p0 ++ (p1 ++ (p2)), x.block < W.heap.size := fun x hx => by simpa using hW'.lt x (by simpa using hx)
  obtain ⟨a0, n0, c0, rfl⟩ := okWide_slice Try.underlying22 (hval 0 22 v0 rfl rfl)
  obtain ⟨x0, l0, m0, b0⟩ := open_bytes h0
  have h1k := h1
  obtain ⟨a1, rfl, rfl, rfl, w1⟩ := open_int Try.underlying3 (hval 1 3 v1 rfl rfl) h1
  have h2k := h2
  obtain ⟨a2, rfl, rfl, rfl, w2⟩ := open_int Try.underlying34 (hval 2 34 v2 rfl rfl) h2
  refine (walk W a0 n0 c0 x0 l0 m0 b0 a1 w1 a2 w2).mono fun e W' ⟨he, hb⟩ => ?_
  subst he
  have harg0 : DataW.Trod enc Try.prog W' 0 (fun b => decide (b < W.heap.size)) true 22 _ _ _ := Below.trod laidOut (by kernel_rfl) (of_decide_eq_true (by kernel_rfl)) h0 hb (fun x hx => hlt x (by simp [hx]))
  have harg1 : DataW.Trod enc Try.prog W' 0 (fun b => decide (b < W.heap.size)) true 3 _ _ _ := Below.trod laidOut (by kernel_rfl) (of_decide_eq_true (by kernel_rfl)) h1k hb (fun x hx => by cases hx)
  have harg2 : DataW.Trod enc Try.prog W' 0 (fun b => decide (b < W.heap.size)) true 34 _ _ _ := Below.trod laidOut (by kernel_rfl) (of_decide_eq_true (by kernel_rfl)) h2k hb (fun x hx => by cases hx)
  exact ⟨_, rfl, _, _, _, [], _, [], hW', trodAll_mk1 (shut_bool Try.underlying4 _), (trodAll_cons_mk harg0 (trodAll_cons_mk harg1 (trodAll_cons_mk harg2 trodAll_mk0))), rfl, hb.frame _, fun h => by cases h⟩

theorem over : Rows.imageSingleRow.holds Try.pinned (OpenSpec.ofChange Rows.imageSingleSpec) :=
  OpenClaim.holds_of_wide 8 Try.f8 rfl rfl rfl rfl rfl rfl rfl ⟨rfl, rfl, rfl, rfl, rfl⟩ rfl rfl rfl rfl rfl (by kernel_rfl) Try.func8 (by kernel_rfl)
    (of_decide_eq_true (by kernel_rfl)) (by unfold Func.isWrapper; first | (rw [if_pos (by decide +kernel)]; kernel_rfl) | (rw [if_neg (by decide +kernel)]; exact ⟨rfl, rfl⟩))
    (fun os started H enc _ => lifted os started H enc)

/-- THE STATEMENT -/
theorem proved : Rows.ImageSingleSaid :=
  over
end Go.Proofs.Ytchjcfmmnfimlaa.imageSingle
