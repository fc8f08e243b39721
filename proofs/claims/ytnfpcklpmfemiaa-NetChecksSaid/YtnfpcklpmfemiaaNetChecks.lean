/-
  NetChecks: for every input the statement's function returns true, with no condition; each argument reads behind the call as before. By contracts of the program's and the document's functions.
-/
import Derived.Test.YtnfpcklpmfemiaaNtWorks
namespace Go.Proofs.Ytnfpcklpmfemiaa.netChecks
open Go.ChangeShapes Go.WideShapes Go.ChangeAt Go.RowKit
set_option linter.unusedVariables false
set_option linter.unusedSimpArgs false

set_option maxRecDepth 100000 in
set_option maxHeartbeats 8000000 in
theorem walk_all (w : World) (x0 : Nt.E) (b0 : Nt.Ok x0) :
    Calls Try.prog 4 #[.agg (Nt.cells x0).toArray] w fun e w' => e = .returned (.bool true) ∧ Below w.heap.size w w' := by
  obtain ⟨mb, hmb⟩ : ∃ mb, mb = w.heap.size := ⟨_, rfl⟩
  obtain ⟨B, hB⟩ : ∃ B, B = w.alloc (.cells (Nt.cells x0).toArray 57) := ⟨_, rfl⟩
  have HB := Lib.hid hB; have HMB := Lib.hid hmb
  have B0 := Lib.hid (show Below w.heap.size w B by rw [hB]; exact (Below.refl w.heap.size w).alloc (Nat.le_refl _) _)
  have R0 := Lib.hid (show B.heap[mb]? = some (.cells (Nt.cells x0).toArray 57 (0, 0)) by rw [hB, hmb]; exact heap_alloc_new _ _)
  have HOK := Lib.hid b0
  clear hB hmb b0
  go_enter Try.func4, Try.ntmps4
  go_wp2_with fail
  rw [← HB.out, ← HMB.out]
  refine Og.region3 (by kernel_rfl) (fun t => ([(3, 0), (4, 1), (5, 2), (6, 3), (7, 4), (8, 5), (9, 6), (10, 7), (11, 8), (2, 9)] : List (Nat × Nat)).lookup t) [.is (.agg (Nt.cells x0).toArray), .is (.int .i64 (Nt.chk x0)), .is (.int .i64 (Nt.chk x0)), .is (.agg (Nt.cells x0).toArray), .is (.int .i64 (Nt.chk x0)), .is (.bool true), .is (.bool true), .is (.bool true), .is (.bool true), .is (.bool true)] [true, true, true, true, true, true, true, true, true, true] (by kernel_rfl) ?_ ?_
  · refine ⟨?_, ?_, ?_, ?_, ?_, ?_, ?_, ?_, ?_, ?_, trivial⟩
    · refine ⟨rfl, fun ρ w1 hr hd => ?_⟩
      obtain ⟨d0, _⟩ := hd
      have d0 : ρ (.tmp 1) = .pointer (some ⟨mb, 0, none⟩) := d0
      refine (if_pos (by rfl)).mpr ?_
      refine Og.gives_is (.agg (Nt.cells x0).toArray) ?_ (And.intro (Below.refl _ _) rfl)
      exact Og.load_run 57 (.tmp 1) rfl ⟨mb, 0, none⟩ d0 (run_loadVar_row w1 mb 57 57 _ (0, 0) _ ((hr.block mb (Array.getElem?_eq_some_iff.1 R0.out).1).trans R0.out) Try.underlying57 rfl (by rw [HOK.out.size]; exact Nt.size_msg))
    · refine ⟨rfl, fun ρ w1 hr hd => ?_⟩
      obtain ⟨d0, d1, _⟩ := hd
      have d0 : ρ (.func 26) = .func (.func 26) #[] #[] := d0
      have d1 : ρ (.tmp 3) = .agg (Nt.cells x0).toArray := d1
      refine (if_pos (by rfl)).mpr ?_
      refine Og.gives_call 26 #[.agg (Nt.cells x0).toArray] ?_ ?_
      · go_simp
      · refine (Nt.check_any x0 HOK.out w1).mono ?_
        rintro e' w3 ⟨rfl, hb⟩
        exact ⟨_, rfl, hb, rfl⟩
    · refine ⟨rfl, fun ρ w1 hr hd => ?_⟩
      obtain ⟨d0, d1, _⟩ := hd
      have d0 : ρ (.func 25) = .func (.func 25) #[] #[] := d0
      have d1 : ρ (.tmp 4) = .int .i64 (Nt.chk x0) := d1
      refine (if_pos (by rfl)).mpr ?_
      refine Og.gives_call 25 #[.int .i64 (Nt.chk x0)] ?_ ?_
      · go_simp
      · refine (Nt.num_any _ w1).mono ?_
        rintro e' w3 ⟨rfl, hw⟩
        subst hw
        exact ⟨_, rfl, Below.refl _ _, rfl⟩
    · refine ⟨rfl, fun ρ w1 hr hd => ?_⟩
      obtain ⟨d0, _⟩ := hd
      have d0 : ρ (.tmp 1) = .pointer (some ⟨mb, 0, none⟩) := d0
      refine (if_pos (by rfl)).mpr ?_
      refine Og.gives_is (.agg (Nt.cells x0).toArray) ?_ (And.intro (Below.refl _ _) rfl)
      exact Og.load_run 57 (.tmp 1) rfl ⟨mb, 0, none⟩ d0 (run_loadVar_row w1 mb 57 57 _ (0, 0) _ ((hr.block mb (Array.getElem?_eq_some_iff.1 R0.out).1).trans R0.out) Try.underlying57 rfl (by rw [HOK.out.size]; exact Nt.size_msg))
    · refine ⟨rfl, fun ρ w1 hr hd => ?_⟩
      obtain ⟨d0, d1, _⟩ := hd
      have d0 : ρ (.func 27) = .func (.func 27) #[] #[] := d0
      have d1 : ρ (.tmp 6) = .agg (Nt.cells x0).toArray := d1
      refine (if_pos (by rfl)).mpr ?_
      refine Og.gives_call 27 #[.agg (Nt.cells x0).toArray] ?_ ?_
      · go_simp
      · refine (Nt.rcheck_any x0 HOK.out w1).mono ?_
        rintro e' w3 ⟨rfl, hb⟩
        exact ⟨_, rfl, hb, rfl⟩
    · refine ⟨rfl, fun ρ w1 hr hd => ?_⟩
      obtain ⟨d0, d1, _⟩ := hd
      have d0 : ρ (.tmp 5) = .int .i64 (Nt.chk x0) := d0
      have d1 : ρ (.tmp 7) = .int .i64 (Nt.chk x0) := d1
      refine (if_pos (by rfl)).mpr ?_
      refine Og.gives_is (.bool true) ?_ (And.intro (Below.refl _ _) rfl)
      simp only [execOp, d0, d1]; go_simp; try simp
    · refine ⟨rfl, fun ρ w1 hr hd => ?_⟩
      obtain ⟨d0, _⟩ := hd
      have d0 : ρ (.tmp 8) = .bool true := d0
      refine (if_pos (by rfl)).mpr ?_
      refine Og.gives_is (.bool true) ?_ (And.intro (Below.refl _ _) rfl)
      go_simp
    · refine ⟨fun v w hv => by (have hv' : v = .bool true := hv); subst hv'; exact (if_pos rfl).mpr rfl, fun ρ w1 hr hd => ?_⟩
      obtain ⟨d0, _⟩ := hd
      have d0 : ρ (.func 28) = .func (.func 28) #[] #[] := d0
      refine (if_pos (by rfl)).mpr ?_
      refine Og.gives_call 28 #[] ?_ ?_
      · go_simp
      · refine (Nt.works_any w1).mono ?_
        rintro e' w3 ⟨rfl, hb⟩
        exact ⟨_, rfl, hb, rfl⟩
    · refine ⟨rfl, fun ρ w1 hr hd => ?_⟩
      obtain ⟨d0, d1, d2, _⟩ := hd
      have d0 : ρ (.tmp 9) = .bool true := d0
      have d1 : ρ (.tmp 10) = .bool true := d1
      have d2 : ρ (.const (Value.bool false)) = (Value.bool false) := d2
      refine (if_pos (by rfl)).mpr ?_
      refine Og.gives_is (.bool true) ?_ (And.intro (Below.refl _ _) rfl)
      go_simp
    · refine ⟨rfl, fun ρ w1 hr hd => ?_⟩
      obtain ⟨d0, _⟩ := hd
      have d0 : ρ (.tmp 11) = .bool true := d0
      refine (if_pos (by rfl)).mpr ?_
      refine Og.gives_is (.bool true) ?_ (And.intro (Below.refl _ _) rfl)
      go_simp
  · intro vs w1 hbz hall
    have e0 : vs 0 = .agg (Nt.cells x0).toArray := hall 0 _ 3 rfl rfl
    have e1 : vs 1 = .int .i64 (Nt.chk x0) := hall 1 _ 4 rfl rfl
    have e2 : vs 2 = .int .i64 (Nt.chk x0) := hall 2 _ 5 rfl rfl
    have e3 : vs 3 = .agg (Nt.cells x0).toArray := hall 3 _ 6 rfl rfl
    have e4 : vs 4 = .int .i64 (Nt.chk x0) := hall 4 _ 7 rfl rfl
    have e5 : vs 5 = .bool true := hall 5 _ 8 rfl rfl
    have e6 : vs 6 = .bool true := hall 6 _ 9 rfl rfl
    have e7 : vs 7 = .bool true := hall 7 _ 10 rfl rfl
    have e8 : vs 8 = .bool true := hall 8 _ 11 rfl rfl
    have e9 : vs 9 = .bool true := hall 9 _ 2 rfl rfl
    have HBZ := Lib.hid hbz
    simp only [Og.putAll, Act.put, List.setIfInBounds_toArray, List.set_cons_zero, List.set_cons_succ, Nat.zero_add, Nat.reduceAdd, e0, e1, e2, e3, e4, e5, e6, e7, e8, e9]
    clear hall hbz
    go_wp2_with fail
    go_ret
    exact ⟨rfl, B0.out.trans (HBZ.out.mono B0.out.size)⟩
/-! THE WALK: the Go text returns true; of memory nothing that stood there has turned. -/
set_option maxRecDepth 100000 in
set_option maxHeartbeats 400000 in
theorem walk (w : World) (x0 : Nt.E) (b0 : Nt.Ok x0) :
    Calls Try.prog 4 #[Nt.EV x0] w fun e w' => e = .returned (.bool true) ∧ Below w.heap.size w w' := by
  exact walk_all w x0 b0

/-! THE ROW -/
set_option maxRecDepth 100000 in
theorem lifted (os : Os) (started : os.Started) (H : Type) (enc : TypeId × Value → H) :
    ReturnsInHanded {} Try.checked os 4 .any (Rows.netChecksSpec.pre6 enc Try.prog Try.f4 Rows.netChecksRow.domain false) (Rows.netChecksSpec.post enc Try.prog Try.f4 false true false false) := by
  refine returnsInHanded_of_change (C := Try.checked) own started (by kernel_rfl) Try.func4
    (ChangeSpec.witness6 (enc := enc) (C := Try.checked) false ⟨#[], #[.agg #[.int .i64 0, .int .i64 0, .int .i64 0, .int .u32 0, .int .u8 0, .int .u8 0, .int .u8 0, .int .u8 0, .int .u8 0, .int .u8 0, .int .u8 0, .int .u8 0, .int .u8 0, .int .u8 0, .int .u8 0, .int .u8 0, .int .u8 0, .int .u8 0, .int .u8 0, .int .u8 0]], []⟩ 8 (by kernel_rfl) (by kernel_rfl) (by kernel_rfl) (by kernel_rfl)) ?_
  intro W base args ds gs before hval0 hW hcnd _
  have hval : ∀ (j : Nat) t v, Try.f4.params[j]? = some t → args[j]? = some v → Value.okWide Try.prog W .any base t v := hval0
  have hW' := hW
  obtain ⟨p, q, hA0, hV, rfl, hfz, hnd⟩ := hW
  have hA : DataW.TrodAll enc Try.prog W 0 (fun _ => true) true Try.f4.params.toList args.toList ds p := hA0
  rw [Try.params4] at hA hval
  obtain ⟨v0, vs0, d0, ds0, p0, q0, hargs, rfl, rfl, h0, r0⟩ := trodAll_cons hA
  obtain ⟨rfl, rfl, rfl⟩ := trodAll_nil r0
  obtain rfl : args = #[v0] := by cases args; simp_all
  obtain ⟨rfl, rfl⟩ := trodVars_none hV
  clear hA0 hval0
  simp only [List.append_nil] at hW'
  have hlt : ∀ x ∈ p0, x.block < W.heap.size := fun x hx => by simpa using hW'.lt x (by simpa using hx)
  obtain ⟨x0, rfl, b0⟩ := open_msg (hval 0 57 v0 rfl rfl) h0
  refine (walk W x0 b0).mono fun e W' ⟨he, hb⟩ => ?_
  subst he
  have harg0 : DataW.Trod enc Try.prog W' 0 (fun b => decide (b < W.heap.size)) true 57 _ _ _ := Below.trod laidOut (by kernel_rfl) (of_decide_eq_true (by kernel_rfl)) h0 hb (fun x hx => hlt x (by simp [hx]))
  exact ⟨_, rfl, _, _, _, [], _, [], hW', trodAll_mk1 (shut_bool Try.underlying4 _), (trodAll_cons_mk harg0 trodAll_mk0), rfl, hb.frame _, fun h => by cases h⟩

theorem over : Rows.netChecksRow.holds Try.pinned (OpenSpec.ofChange Rows.netChecksSpec) :=
  OpenClaim.holds_of_wide 4 Try.f4 rfl rfl rfl rfl rfl rfl rfl ⟨rfl, rfl, rfl, rfl, rfl⟩ rfl rfl rfl rfl rfl (by kernel_rfl) Try.func4 (by kernel_rfl)
    (of_decide_eq_true (by kernel_rfl)) (by unfold Func.isWrapper; first | (rw [if_pos (by decide +kernel)]; kernel_rfl) | (rw [if_neg (by decide +kernel)]; exact ⟨rfl, rfl⟩))
    (fun os started H enc _ => lifted os started H enc)

/-- THE STATEMENT -/
theorem proved : Rows.NetChecksSaid :=
  over
end Go.Proofs.Ytnfpcklpmfemiaa.netChecks
