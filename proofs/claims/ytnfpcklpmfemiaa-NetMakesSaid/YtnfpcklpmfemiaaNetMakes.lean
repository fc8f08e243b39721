/-
  NetMakes: for every input the statement's function returns true, with no condition; each argument reads behind the call as before. By contracts of the program's and the document's functions.
-/
import Derived.Test.YtnfpcklpmfemiaaNtLaw
namespace Go.Proofs.Ytnfpcklpmfemiaa.netMakes
open Go.ChangeShapes Go.WideShapes Go.ChangeAt Go.RowKit
set_option linter.unusedVariables false
set_option linter.unusedSimpArgs false

set_option maxRecDepth 100000 in
set_option maxHeartbeats 8000000 in
theorem walk_no (w : World) (a0 : Int) (h : ¬ (1 ≤ a0 ∧ a0 ≤ 1024)) :
    Calls Try.prog 5 #[.int .i64 a0] w fun e w' => e = .returned (.bool true) ∧ Below w.heap.size w w' := by
  have NW := Lib.hid (Nt.new_no a0 h w)
  obtain ⟨zc, hz⟩ : ∃ zc, zc = (Nt.cells Nt.E0).toArray := ⟨_, rfl⟩
  have KD := Lib.hid (show ∀ W : World, Calls Try.prog 30 #[.pointer none, .int .i64 0] W fun e w' => e = .returned (.tuple #[.agg zc, .bool false]) ∧ Below W.heap.size W w' from fun W => by rw [hz]; exact Nt.deliver_nil 0 W)
  have KS := Lib.hid (show ∀ W : World, Calls Try.prog 31 #[.pointer none, .agg zc] W fun e w' => e = .returned (.int .i64 1) ∧ Below W.heap.size W w' from fun W => by rw [hz]; exact Nt.send_nil Nt.E0 Nt.E0_ok W)
  have HZ := Lib.hid hz
  have HZE := Lib.hid (show Value.agg zc = Nt.EV Nt.E0 by rw [hz]; rfl)
  clear hz
  have B1 := Lib.hid (Below.refl w.heap.size w)
  by_cases h1 : a0 < 1
  · clear h
    go_enter Try.func5, Try.ntmps5
    go_wp2_with (first
      | (go_at_call 29; (with_reducible refine NW.out.mono ?_); rintro e W1 ⟨rfl, hw⟩; subst hw)
      | (go_at_call 30; (with_reducible refine (KD.out _).mono ?_); rintro e W2 ⟨rfl, hb⟩; have B2 := Lib.hid (B1.out.trans (hb.mono B1.out.size)); clear hb)
      | ((with_reducible show wpList _ _ _ (Oper.mk none (Op.store 57 _ _) _ _ _ _ :: _) _ _); refine wpList_store_own rfl 57 (.tmp 6) (.tmp 16) rfl W2.heap.size zc rfl rfl 57 _ (heap_alloc_new W2 _) (by rw [HZ.out]; exact Nt.size_msg) (by rw [HZ.out]; rfl) (by rw [HZ.out]; exact Nt.cells_all _) ?_
         intro W3 HW3
         have hb23 : Below W2.heap.size W2 W3 := ((Below.refl W2.heap.size W2).alloc (Nat.le_refl _) _).trans HW3.below
         have B3 := Lib.hid (B2.out.trans (hb23.mono B2.out.size)); have R3 := Lib.hid HW3.row
         clear hb23 HW3)
      | ((with_reducible show wpList _ _ _ (Oper.mk (some 18) _ _ _ _ _ :: _) _ _); refine wpList_load_row rfl 57 (.tmp 6) rfl W2.heap.size rfl 57 zc (0, 0) _ R3.out Try.underlying57 rfl (by rw [HZ.out]; exact Nt.size_msg) ?_)
      | ((with_reducible show wpList _ _ _ (Oper.mk (some 19) _ _ _ _ _ :: _) _ _); refine Nt.wpList_val (v := .agg zc) rfl (by rw [HZ.out]; kernel_rfl) ?_)
      | ((with_reducible show wpList _ _ _ (Oper.mk (some 20) _ _ _ _ _ :: _) _ _); refine Nt.wpList_val rfl (Nt.neq_op (a := Nt.E0) (b := Nt.E0) (.tmp 18) (.tmp 19) rfl Nt.E0_ok Nt.E0_ok HZE.out HZE.out false (by kernel_rfl) _) ?_)
      | ((with_reducible show wpList _ _ _ (Oper.mk (some 26) _ _ _ _ _ :: _) _ _); refine Nt.wpList_val_g (v := .agg zc) rfl (by rw [HZ.out]; kernel_rfl) ?_)
      | (go_at_call 31; (with_reducible refine (KS.out _).mono ?_); rintro e W4 ⟨rfl, hb⟩; have B4 := Lib.hid (B3.out.trans (hb.mono B3.out.size)); clear hb)
      | (go_at_call 25; (with_reducible refine (Nt.num_any _ _).mono ?_); rintro e W10 ⟨rfl, hw⟩; subst hw)
      | (go_at_call 32; (with_reducible refine (Nt.len_nil _).mono ?_); rintro e W10 ⟨rfl, hw⟩; subst hw)
      | (go_at_call 33; (with_reducible refine (Nt.ready_nil _).mono ?_); rintro e W10 ⟨rfl, hw⟩; subst hw)
      | (go_at_call 34; (with_reducible refine (Nt.to_nil 0 _).mono ?_); rintro e W5 ⟨ta, tc, rfl, _, _, hb⟩; have B5 := Lib.hid (B4.out.trans (hb.mono B4.out.size)); clear hb)
      | (go_at_call 35; (with_reducible refine (Nt.copy_nil _).mono ?_); rintro e W10 ⟨rfl, hw⟩; subst hw)
      | (go_at_call 36; (with_reducible refine (Nt.same_nn _).mono ?_); rintro e W10 ⟨rfl, hw⟩; subst hw)
      | (go_at_call 28; (with_reducible refine (Nt.works_any _).mono ?_); rintro e W9 ⟨rfl, hb⟩; have B9 := Lib.hid (B5.out.trans (hb.mono B5.out.size)); clear hb))
    go_ret
    exact ⟨rfl, B9.out⟩
  · have h2 : 1024 < a0 := by omega
    clear h
    go_enter Try.func5, Try.ntmps5
    go_wp2_with (first
      | (go_at_call 29; (with_reducible refine NW.out.mono ?_); rintro e W1 ⟨rfl, hw⟩; subst hw)
      | (go_at_call 30; (with_reducible refine (KD.out _).mono ?_); rintro e W2 ⟨rfl, hb⟩; have B2 := Lib.hid (B1.out.trans (hb.mono B1.out.size)); clear hb)
      | ((with_reducible show wpList _ _ _ (Oper.mk none (Op.store 57 _ _) _ _ _ _ :: _) _ _); refine wpList_store_own rfl 57 (.tmp 6) (.tmp 16) rfl W2.heap.size zc rfl rfl 57 _ (heap_alloc_new W2 _) (by rw [HZ.out]; exact Nt.size_msg) (by rw [HZ.out]; rfl) (by rw [HZ.out]; exact Nt.cells_all _) ?_
         intro W3 HW3
         have hb23 : Below W2.heap.size W2 W3 := ((Below.refl W2.heap.size W2).alloc (Nat.le_refl _) _).trans HW3.below
         have B3 := Lib.hid (B2.out.trans (hb23.mono B2.out.size)); have R3 := Lib.hid HW3.row
         clear hb23 HW3)
      | ((with_reducible show wpList _ _ _ (Oper.mk (some 18) _ _ _ _ _ :: _) _ _); refine wpList_load_row rfl 57 (.tmp 6) rfl W2.heap.size rfl 57 zc (0, 0) _ R3.out Try.underlying57 rfl (by rw [HZ.out]; exact Nt.size_msg) ?_)
      | ((with_reducible show wpList _ _ _ (Oper.mk (some 19) _ _ _ _ _ :: _) _ _); refine Nt.wpList_val (v := .agg zc) rfl (by rw [HZ.out]; kernel_rfl) ?_)
      | ((with_reducible show wpList _ _ _ (Oper.mk (some 20) _ _ _ _ _ :: _) _ _); refine Nt.wpList_val rfl (Nt.neq_op (a := Nt.E0) (b := Nt.E0) (.tmp 18) (.tmp 19) rfl Nt.E0_ok Nt.E0_ok HZE.out HZE.out false (by kernel_rfl) _) ?_)
      | ((with_reducible show wpList _ _ _ (Oper.mk (some 26) _ _ _ _ _ :: _) _ _); refine Nt.wpList_val_g (v := .agg zc) rfl (by rw [HZ.out]; kernel_rfl) ?_)
      | (go_at_call 31; (with_reducible refine (KS.out _).mono ?_); rintro e W4 ⟨rfl, hb⟩; have B4 := Lib.hid (B3.out.trans (hb.mono B3.out.size)); clear hb)
      | (go_at_call 25; (with_reducible refine (Nt.num_any _ _).mono ?_); rintro e W10 ⟨rfl, hw⟩; subst hw)
      | (go_at_call 32; (with_reducible refine (Nt.len_nil _).mono ?_); rintro e W10 ⟨rfl, hw⟩; subst hw)
      | (go_at_call 33; (with_reducible refine (Nt.ready_nil _).mono ?_); rintro e W10 ⟨rfl, hw⟩; subst hw)
      | (go_at_call 34; (with_reducible refine (Nt.to_nil 0 _).mono ?_); rintro e W5 ⟨ta, tc, rfl, _, _, hb⟩; have B5 := Lib.hid (B4.out.trans (hb.mono B4.out.size)); clear hb)
      | (go_at_call 35; (with_reducible refine (Nt.copy_nil _).mono ?_); rintro e W10 ⟨rfl, hw⟩; subst hw)
      | (go_at_call 36; (with_reducible refine (Nt.same_nn _).mono ?_); rintro e W10 ⟨rfl, hw⟩; subst hw)
      | (go_at_call 28; (with_reducible refine (Nt.works_any _).mono ?_); rintro e W9 ⟨rfl, hb⟩; have B9 := Lib.hid (B5.out.trans (hb.mono B5.out.size)); clear hb))
    go_ret
    exact ⟨rfl, B9.out⟩
set_option maxRecDepth 100000 in
set_option maxHeartbeats 8000000 in
theorem walk_yes (w : World) (k : Nat) (h0 : 1 ≤ k) (h9 : k ≤ 1024) :
    Calls Try.prog 5 #[.int .i64 (k : Int)] w fun e w' => e = .returned (.bool true) ∧ Below w.heap.size w w' := by
  have NW := Lib.hid (Nt.new_yes k h0 h9 w)
  obtain ⟨zc, hz⟩ : ∃ zc, zc = (Nt.cells Nt.E0).toArray := ⟨_, rfl⟩
  have KD := Lib.hid (show ∀ W : World, Calls Try.prog 30 #[.pointer none, .int .i64 0] W fun e w' => e = .returned (.tuple #[.agg zc, .bool false]) ∧ Below W.heap.size W w' from fun W => by rw [hz]; exact Nt.deliver_nil 0 W)
  have KS := Lib.hid (show ∀ W : World, Calls Try.prog 31 #[.pointer none, .agg zc] W fun e w' => e = .returned (.int .i64 1) ∧ Below W.heap.size W w' from fun W => by rw [hz]; exact Nt.send_nil Nt.E0 Nt.E0_ok W)
  have HZ := Lib.hid hz
  have HZE := Lib.hid (show Value.agg zc = Nt.EV Nt.E0 by rw [hz]; rfl)
  clear hz
  have h1 : ¬ (k : Int) < 1 := by omega
  have h2 : ¬ 1024 < (k : Int) := by omega
  clear h0 h9
  go_enter Try.func5, Try.ntmps5
  go_wp2_with (first
    | (go_at_call 29; (with_reducible refine NW.out.mono ?_); rintro e W1 ⟨p, rfl, hb1, F, hn1, hf1⟩
       have B1 := Lib.hid hb1; have N1 := Lib.hid hn1
       clear hb1 hn1 hf1)
    | (go_at_call 30; (with_reducible refine (KD.out _).mono ?_); rintro e W2 ⟨rfl, hb⟩; have B2 := Lib.hid (B1.out.trans (hb.mono B1.out.size)); have N2 := Lib.hid (N1.out.kp hb); clear hb)
    | ((with_reducible show wpList _ _ _ (Oper.mk none (Op.store 57 _ _) _ _ _ _ :: _) _ _); refine wpList_store_own rfl 57 (.tmp 6) (.tmp 16) rfl W2.heap.size zc rfl rfl 57 _ (heap_alloc_new W2 _) (by rw [HZ.out]; exact Nt.size_msg) (by rw [HZ.out]; rfl) (by rw [HZ.out]; exact Nt.cells_all _) ?_
       intro W3 HW3
       have hb23 : Below W2.heap.size W2 W3 := ((Below.refl W2.heap.size W2).alloc (Nat.le_refl _) _).trans HW3.below
       have B3 := Lib.hid (B2.out.trans (hb23.mono B2.out.size)); have N3 := Lib.hid (N2.out.kp hb23); have R3 := Lib.hid HW3.row
       clear hb23 HW3)
    | ((with_reducible show wpList _ _ _ (Oper.mk (some 18) _ _ _ _ _ :: _) _ _); refine wpList_load_row rfl 57 (.tmp 6) rfl W2.heap.size rfl 57 zc (0, 0) _ R3.out Try.underlying57 rfl (by rw [HZ.out]; exact Nt.size_msg) ?_)
    | ((with_reducible show wpList _ _ _ (Oper.mk (some 19) _ _ _ _ _ :: _) _ _); refine Nt.wpList_val (v := .agg zc) rfl (by rw [HZ.out]; kernel_rfl) ?_)
    | ((with_reducible show wpList _ _ _ (Oper.mk (some 20) _ _ _ _ _ :: _) _ _); refine Nt.wpList_val rfl (Nt.neq_op (a := Nt.E0) (b := Nt.E0) (.tmp 18) (.tmp 19) rfl Nt.E0_ok Nt.E0_ok HZE.out HZE.out false (by kernel_rfl) _) ?_)
    | ((with_reducible show wpList _ _ _ (Oper.mk (some 26) _ _ _ _ _ :: _) _ _); refine Nt.wpList_val_g (v := .agg zc) rfl (by rw [HZ.out]; kernel_rfl) ?_)
    | (go_at_call 31; (with_reducible refine (KS.out _).mono ?_); rintro e W4 ⟨rfl, hb⟩; have B4 := Lib.hid (B3.out.trans (hb.mono B3.out.size)); have N4 := Lib.hid (N3.out.kp hb); clear hb)
    | (go_at_call 25; (with_reducible refine (Nt.num_any _ _).mono ?_); rintro e W10 ⟨rfl, hw⟩; subst hw)
    | (go_at_call 32; (with_reducible refine (Nt.len_nil _).mono ?_); rintro e W10 ⟨rfl, hw⟩; subst hw)
    | (go_at_call 33; (with_reducible refine (Nt.ready_nil _).mono ?_); rintro e W10 ⟨rfl, hw⟩; subst hw)
    | (go_at_call 34; (with_reducible refine (Nt.to_nil 0 _).mono ?_); rintro e W5 ⟨ta, tc, rfl, _, _, hb⟩; have B5 := Lib.hid (B4.out.trans (hb.mono B4.out.size)); have N5 := Lib.hid (N4.out.kp hb); clear hb)
    | (go_at_call 35; (with_reducible refine (Nt.copy_nil _).mono ?_); rintro e W10 ⟨rfl, hw⟩; subst hw)
    | (go_at_call 36; (with_reducible refine (Nt.same_nn _).mono ?_); rintro e W10 ⟨rfl, hw⟩; subst hw)
    | (go_at_call 32; (with_reducible refine (Nt.len_any _ N5.out).mono ?_); rintro e W10 ⟨rfl, hw⟩; subst hw)
    | (go_at_call 36; (with_reducible refine (Nt.same_cn _ N5.out).mono ?_); rintro e W10 ⟨rfl, hw⟩; subst hw)
    | (go_at_call 36; (with_reducible refine (Nt.same_nc _ N5.out).mono ?_); rintro e W10 ⟨rfl, hw⟩; subst hw)
    | (go_at_call 28; (with_reducible refine (Nt.works_any _).mono ?_); rintro e W9 ⟨rfl, hb⟩; have B9 := Lib.hid (B5.out.trans (hb.mono B5.out.size)); clear hb))
  go_ret
  exact ⟨rfl, B9.out⟩
/-! THE WALK: the Go text returns true; of memory nothing that stood there has turned. -/
set_option maxRecDepth 100000 in
set_option maxHeartbeats 400000 in
theorem walk (w : World) (a0 : Int) (w0 : (Lit.int .i64 a0).wf = true) :
    Calls Try.prog 5 #[.int .i64 a0] w fun e w' => e = .returned (.bool true) ∧ Below w.heap.size w w' := by
  by_cases h : 1 ≤ a0 ∧ a0 ≤ 1024
  · obtain ⟨k, hk⟩ : ∃ k : Nat, a0 = (k : Int) := ⟨a0.toNat, by omega⟩
    subst hk
    exact walk_yes w k (by omega) (by omega)
  · exact walk_no w a0 h

/-! THE ROW -/
set_option maxRecDepth 100000 in
theorem lifted (os : Os) (started : os.Started) (H : Type) (enc : TypeId × Value → H) :
    ReturnsInHanded {} Try.checked os 5 .any (Rows.netMakesSpec.pre6 enc Try.prog Try.f5 Rows.netMakesRow.domain false) (Rows.netMakesSpec.post enc Try.prog Try.f5 false true false false) := by
  refine returnsInHanded_of_change (C := Try.checked) own started (by kernel_rfl) Try.func5
    (ChangeSpec.witness6 (enc := enc) (C := Try.checked) false ⟨#[], #[.int .i64 0], []⟩ 8 (by kernel_rfl) (by kernel_rfl) (by kernel_rfl) (by kernel_rfl)) ?_
  intro W base args ds gs before hval0 hW hcnd _
  have hval : ∀ (j : Nat) t v, Try.f5.params[j]? = some t → args[j]? = some v → Value.okWide Try.prog W .any base t v := hval0
  have hW' := hW
  obtain ⟨p, q, hA0, hV, rfl, hfz, hnd⟩ := hW
  have hA : DataW.TrodAll enc Try.prog W 0 (fun _ => true) true Try.f5.params.toList args.toList ds p := hA0
  rw [Try.params5] at hA hval
  obtain ⟨v0, vs0, d0, ds0, p0, q0, hargs, rfl, rfl, h0, r0⟩ := trodAll_cons hA
  obtain ⟨rfl, rfl, rfl⟩ := trodAll_nil r0
  obtain rfl : args = #[v0] := by cases args; simp_all
  obtain ⟨rfl, rfl⟩ := trodVars_none hV
  clear hA0 hval0
  simp only [List.append_nil] at hW'
  have hlt : ∀ x ∈ p0, x.block < W.heap.size := fun x hx => by simpa using hW'.lt x (by simpa using hx)
  have h0k := h0
  obtain ⟨a0, rfl, rfl, rfl, w0⟩ := open_int Try.underlying3 (hval 0 3 v0 rfl rfl) h0
  refine (walk W a0 w0).mono fun e W' ⟨he, hb⟩ => ?_
  subst he
  have harg0 : DataW.Trod enc Try.prog W' 0 (fun b => decide (b < W.heap.size)) true 3 _ _ _ := Below.trod laidOut (by kernel_rfl) (of_decide_eq_true (by kernel_rfl)) h0k hb (fun x hx => by cases hx)
  exact ⟨_, rfl, _, _, _, [], _, [], hW', trodAll_mk1 (shut_bool Try.underlying4 _), (trodAll_cons_mk harg0 trodAll_mk0), rfl, hb.frame _, fun h => by cases h⟩

theorem over : Rows.netMakesRow.holds Try.pinned (OpenSpec.ofChange Rows.netMakesSpec) :=
  OpenClaim.holds_of_wide 5 Try.f5 rfl rfl rfl rfl rfl rfl rfl ⟨rfl, rfl, rfl, rfl, rfl⟩ rfl rfl rfl rfl rfl (by kernel_rfl) Try.func5 (by kernel_rfl)
    (of_decide_eq_true (by kernel_rfl)) (by unfold Func.isWrapper; first | (rw [if_pos (by decide +kernel)]; kernel_rfl) | (rw [if_neg (by decide +kernel)]; exact ⟨rfl, rfl⟩))
    (fun os started H enc _ => lifted os started H enc)

/-- THE STATEMENT -/
theorem proved : Rows.NetMakesSaid :=
  over
end Go.Proofs.Ytnfpcklpmfemiaa.netMakes
