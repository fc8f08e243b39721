/-
  LinesMakes: for every input the statement's function returns true, with no condition; each argument reads behind the call as before. By contracts of the program's and the document's functions.
-/
import Derived.Test.YtifniogldinbdaaLnOpen
namespace Go.Proofs.Ytifniogldinbdaa.linesMakes
open Go.ChangeShapes Go.WideShapes Go.ChangeAt Go.RowKit
set_option linter.unusedVariables false
set_option linter.unusedSimpArgs false

set_option maxRecDepth 100000 in
set_option maxHeartbeats 8000000 in
theorem walk_no (w : World) (a0 a1 : Int) (hs : Ev.i64B a0) (hw : Ev.i64B a1) (hm : Ln.mayB a0 a1 = false) :
    Calls Try.prog 3 #[.int .i64 a0, .int .i64 a1] w fun e w' => e = .returned (.bool true) ∧ Below w.heap.size w w' := by
  have RG := Lib.hid (fun W => right_any a0 a1 hs hw W)
  obtain ⟨zc, hz⟩ : ∃ zc, zc = (Ln.cells Ln.E0).toArray := ⟨_, rfl⟩
  obtain ⟨z1, hz1⟩ : ∃ z1, z1 = (Ln.cells ⟨0, 1, Ln.E0.b⟩).toArray := ⟨_, rfl⟩
  have KF := Lib.hid (show ∀ W : World, Calls Try.prog 11 #[.pointer none, .int .u32 1] W fun e w' => e = .returned (.tuple #[.agg zc, .bool false]) ∧ Below W.heap.size W w' from fun W => by rw [hz]; exact find_nil 1 W)
  have KV := Lib.hid (show ∀ W : World, Calls Try.prog 12 #[.pointer none, .int .u32 1, .int .i64 0] W fun e w' => e = .returned (.tuple #[.agg zc, .bool false]) ∧ Below W.heap.size W w' from fun W => by rw [hz]; exact victim_nil 1 0 W)
  have KP := Lib.hid (show ∀ W : World, Calls Try.prog 14 #[.pointer none, .agg z1] W fun e w' => e = .returned (.int .i64 1) ∧ Below W.heap.size W w' from fun W => by rw [hz1]; exact put_nil ⟨0, 1, Ln.E0.b⟩ W)
  have HZ := Lib.hid hz; have HZ1 := Lib.hid hz1
  have HZE := Lib.hid (show Value.agg zc = Ln.EV Ln.E0 by rw [hz]; rfl)
  clear hz hz1
  have NW := Lib.hid (new_no a0 a1 hs hw hm w)
  have RG2 := Lib.hid (fun W => hm ▸ RG.out W)
  clear hs hw RG
  go_enter Try.func3, Try.ntmps3
  go_wp2_with (first
      | (go_at_call 10; (with_reducible refine (NW.out).mono ?_); rintro e W1 ⟨rfl, hw⟩; subst hw)
      | (go_at_call 11; (with_reducible refine (KF.out _).mono ?_); rintro e W2 ⟨rfl, hb⟩; have B2 := Lib.hid (hb); clear hb)
      | ((with_reducible show wpList _ _ _ (Oper.mk none (Op.store 30 _ _) _ _ _ _ :: _) _ _); refine wpList_store_own rfl 30 (.tmp 8) (.tmp 21) rfl W2.heap.size zc rfl rfl 30 _ (heap_alloc_new W2 _) (by rw [HZ.out]; exact Ln.size_line) (by rw [HZ.out]; rfl) (by rw [HZ.out]; kernel_rfl) ?_; intro V3 HW; have B3 := Lib.hid ((B2.out.alloc B2.out.size _).trans (HW.below.mono B2.out.size)); have R3 := Lib.hid HW.row; clear HW; refine Ln.Stop.out ?_))
  refine ⟨?_⟩
  as_aux_lemma =>
    go_wp2_with (first
        | (go_at_call 12; (with_reducible refine (KV.out _).mono ?_); rintro e W4 ⟨rfl, hb⟩; have B4 := Lib.hid (Ln.bel_trans B3.out hb); have R34 := Lib.hid ((hb.block _ (Array.getElem?_eq_some_iff.1 R3.out).1).trans R3.out); clear hb)
        | ((with_reducible show wpList _ _ _ (Oper.mk none (Op.store 30 _ _) _ _ _ _ :: _) _ _); refine wpList_store_own rfl 30 (.tmp 10) (.tmp 26) rfl W4.heap.size zc rfl rfl 30 _ (heap_alloc_new W4 _) (by rw [HZ.out]; exact Ln.size_line) (by rw [HZ.out]; rfl) (by rw [HZ.out]; kernel_rfl) ?_; intro V5 HW; have B5 := Lib.hid ((B4.out.alloc B4.out.size _).trans (HW.below.mono B4.out.size)); have R5 := Lib.hid HW.row; have HWX := HW; clear HW; have R35 := Lib.hid ((HWX.block _ (fun e => by have := (Array.getElem?_eq_some_iff.1 R34.out).1; omega)).trans ((((Below.refl W4.heap.size W4).alloc (Nat.le_refl _) _).block _ (Array.getElem?_eq_some_iff.1 R34.out).1).trans R34.out)); clear HWX; refine Ln.Stop.out ?_))
    refine ⟨?_⟩
    as_aux_lemma =>
      go_wp2_with (first
          | ((with_reducible show wpList _ _ _ (Oper.mk (some 28) _ _ _ _ _ :: _) _ _); refine wpList_load_row rfl 30 (.tmp 8) rfl W2.heap.size rfl 30 zc (0, 0) _ R35.out Try.underlying30 rfl (by rw [HZ.out]; exact Ln.size_line) ?_)
          | ((with_reducible show wpList _ _ _ (Oper.mk (some 29) _ _ _ _ _ :: _) _ _); refine Ln.wpList_val (v := .agg zc) rfl (by rw [HZ.out]; kernel_rfl) ?_)
          | ((with_reducible show wpList _ _ _ (Oper.mk (some 30) _ _ _ _ _ :: _) _ _); refine Ln.wpList_val rfl (Ln.neq_op (a := Ln.E0) (b := Ln.E0) (.tmp 28) (.tmp 29) rfl Ln.E0_ok Ln.E0_ok HZE.out HZE.out false (by kernel_rfl) _) ?_)
          | ((with_reducible show wpList _ _ _ (Oper.mk (some 35) _ _ _ _ _ :: _) _ _); refine Ev.load_row_g 30 (.tmp 10) rfl rfl W4.heap.size rfl 30 zc (0, 0) _ R5.out Try.underlying30 rfl (by rw [HZ.out]; exact Ln.size_line) ?_)
          | ((with_reducible show wpList _ _ _ (Oper.mk (some 36) _ _ _ _ _ :: _) _ _); refine Ln.wpList_val_g (v := .agg zc) rfl (by rw [HZ.out]; kernel_rfl) ?_)
          | ((with_reducible show wpList _ _ _ (Oper.mk (some 37) _ _ _ _ _ :: _) _ _); refine Ln.wpList_val_g rfl (Ln.neq_op (a := Ln.E0) (b := Ln.E0) (.tmp 35) (.tmp 36) rfl Ln.E0_ok Ln.E0_ok HZE.out HZE.out false (by kernel_rfl) _) ?_)
          | ((with_reducible show wpList _ _ _ (Oper.mk (some 44) _ _ _ _ _ :: _) _ _); refine Ln.wpList_val_g (v := .agg z1) rfl (by rw [HZ1.out]; kernel_rfl) ?_; refine Ln.Stop.out ?_))
      refine ⟨?_⟩
      as_aux_lemma =>
        go_wp2_with (first
            | (go_at_call 14; (with_reducible refine (KP.out _).mono ?_); rintro e W6 ⟨rfl, hb⟩; have B6 := Lib.hid (Ln.bel_trans B5.out hb); clear hb)
            | (go_at_call 13; (with_reducible refine (num_any _ _).mono ?_); rintro e W10 ⟨rfl, hw⟩; subst hw)
            | (go_at_call 15; (with_reducible refine (drop_nil _ _).mono ?_); rintro e W10 ⟨rfl, hw⟩; subst hw; refine Ln.Stop.out ?_))
        refine ⟨?_⟩
        as_aux_lemma =>
          go_wp2_with (first
              | (go_at_call 16; (with_reducible refine (len_nil _).mono ?_); rintro e W7 ⟨rfl, hb⟩; have B7 := Lib.hid (Ln.bel_trans B6.out hb); clear hb)
              | (go_at_call 17; (with_reducible refine (gather_nil _).mono ?_); rintro e W8 ⟨ga, gc, rfl, _, _, hb⟩; have B8 := Lib.hid (Ln.bel_trans B7.out hb); clear hb; refine Ln.Stop.out ?_))
          refine ⟨?_⟩
          as_aux_lemma =>
            go_wp2_with (first
                | (go_at_call 18; (with_reducible refine (copy_nil _).mono ?_); rintro e W10 ⟨rfl, hw⟩; subst hw)
                | (go_at_call 19; (with_reducible refine (same_nn _).mono ?_); rintro e W10 ⟨rfl, hw⟩; subst hw; refine Ln.Stop.out ?_))
            refine ⟨?_⟩
            as_aux_lemma =>
              go_wp2_with (first
                  | (go_at_call 20; (with_reducible refine (RG2.out _).mono ?_); rintro e W11 ⟨rfl, hw⟩; subst hw; refine Ln.Stop.out ?_))
              refine ⟨?_⟩
              as_aux_lemma =>
                go_wp2_with (first
                    | (go_at_call 13; (with_reducible refine (num_any _ _).mono ?_); rintro e W10 ⟨rfl, hw⟩; subst hw)
                    | (go_at_call 21; (with_reducible refine (works_any _).mono ?_); rintro e W12 ⟨rfl, hb⟩; have B12 := Lib.hid (Ln.bel_trans B8.out hb); clear hb))
                go_ret
                exact ⟨rfl, B12.out⟩
set_option maxRecDepth 100000 in
set_option maxHeartbeats 8000000 in
theorem walk_yes (w : World) (a0 a1 : Int) (hs : Ev.i64B a0) (hw : Ev.i64B a1) (hm : Ln.mayB a0 a1 = true) :
    Calls Try.prog 3 #[.int .i64 a0, .int .i64 a1] w fun e w' => e = .returned (.bool true) ∧ Below w.heap.size w w' := by
  have RG := Lib.hid (fun W => right_any a0 a1 hs hw W)
  obtain ⟨zc, hz⟩ : ∃ zc, zc = (Ln.cells Ln.E0).toArray := ⟨_, rfl⟩
  obtain ⟨z1, hz1⟩ : ∃ z1, z1 = (Ln.cells ⟨0, 1, Ln.E0.b⟩).toArray := ⟨_, rfl⟩
  have KF := Lib.hid (show ∀ W : World, Calls Try.prog 11 #[.pointer none, .int .u32 1] W fun e w' => e = .returned (.tuple #[.agg zc, .bool false]) ∧ Below W.heap.size W w' from fun W => by rw [hz]; exact find_nil 1 W)
  have KV := Lib.hid (show ∀ W : World, Calls Try.prog 12 #[.pointer none, .int .u32 1, .int .i64 0] W fun e w' => e = .returned (.tuple #[.agg zc, .bool false]) ∧ Below W.heap.size W w' from fun W => by rw [hz]; exact victim_nil 1 0 W)
  have KP := Lib.hid (show ∀ W : World, Calls Try.prog 14 #[.pointer none, .agg z1] W fun e w' => e = .returned (.int .i64 1) ∧ Below W.heap.size W w' from fun W => by rw [hz1]; exact put_nil ⟨0, 1, Ln.E0.b⟩ W)
  have HZ := Lib.hid hz; have HZ1 := Lib.hid hz1
  have HZE := Lib.hid (show Value.agg zc = Ln.EV Ln.E0 by rw [hz]; rfl)
  clear hz hz1
  obtain ⟨s, hs1⟩ : ∃ s : Nat, a0 = (s : Int) := ⟨a0.toNat, by unfold Ln.mayB at hm; rw [Bool.and_eq_true] at hm; have := Ln.pow2_in hm.1; omega⟩
  obtain ⟨ways, hw1⟩ : ∃ s : Nat, a1 = (s : Int) := ⟨a1.toNat, by unfold Ln.mayB at hm; rw [Bool.and_eq_true, Bool.and_eq_true] at hm; have := of_decide_eq_true hm.2.1; omega⟩
  subst hs1; subst hw1
  have NW := Lib.hid (new_yes s ways hm w)
  have RG2 := Lib.hid (fun W => hm ▸ RG.out W)
  have hfl : (List.replicate s ([] : List Ln.E)).flatten = [] := by simp
  have HFL := Lib.hid hfl
  clear hs hw RG hfl
  go_enter Try.func3, Try.ntmps3
  go_wp2_with (first
      | (go_at_call 10; (with_reducible refine (NW.out).mono ?_); rintro e W1 ⟨p, rfl, hb, F, hca, hf⟩; have B1 := Lib.hid hb; have CA1 := Lib.hid hca; clear hb hca hf)
      | (go_at_call 11; (with_reducible refine (KF.out _).mono ?_); rintro e W2 ⟨rfl, hb⟩; have B2 := Lib.hid (Ln.bel_trans B1.out hb); have CA2 := Lib.hid (CA1.out.kp hb); clear hb)
      | ((with_reducible show wpList _ _ _ (Oper.mk none (Op.store 30 _ _) _ _ _ _ :: _) _ _); refine wpList_store_own rfl 30 (.tmp 8) (.tmp 21) rfl W2.heap.size zc rfl rfl 30 _ (heap_alloc_new W2 _) (by rw [HZ.out]; exact Ln.size_line) (by rw [HZ.out]; rfl) (by rw [HZ.out]; kernel_rfl) ?_; intro V3 HW; have B3 := Lib.hid ((B2.out.alloc B2.out.size _).trans (HW.below.mono B2.out.size)); have R3 := Lib.hid HW.row; have CA3 := Lib.hid ((CA2.out.kp ((Below.refl _ _).alloc (Nat.le_refl _) _)).kp2 HW.size (fun k hk => HW.block k (fun e => by subst e; have := CA2.out.lt _ hk; omega))); clear HW; refine Ln.Stop.out ?_))
  refine ⟨?_⟩
  as_aux_lemma =>
    go_wp2_with (first
        | (go_at_call 12; (with_reducible refine (KV.out _).mono ?_); rintro e W4 ⟨rfl, hb⟩; have B4 := Lib.hid (Ln.bel_trans B3.out hb); have R34 := Lib.hid ((hb.block _ (Array.getElem?_eq_some_iff.1 R3.out).1).trans R3.out); have CA4 := Lib.hid (CA3.out.kp hb); clear hb)
        | ((with_reducible show wpList _ _ _ (Oper.mk none (Op.store 30 _ _) _ _ _ _ :: _) _ _); refine wpList_store_own rfl 30 (.tmp 10) (.tmp 26) rfl W4.heap.size zc rfl rfl 30 _ (heap_alloc_new W4 _) (by rw [HZ.out]; exact Ln.size_line) (by rw [HZ.out]; rfl) (by rw [HZ.out]; kernel_rfl) ?_; intro V5 HW; have B5 := Lib.hid ((B4.out.alloc B4.out.size _).trans (HW.below.mono B4.out.size)); have R5 := Lib.hid HW.row; have CA5 := Lib.hid ((CA4.out.kp ((Below.refl _ _).alloc (Nat.le_refl _) _)).kp2 HW.size (fun k hk => HW.block k (fun e => by subst e; have := CA4.out.lt _ hk; omega))); have HWX := HW; clear HW; have R35 := Lib.hid ((HWX.block _ (fun e => by have := (Array.getElem?_eq_some_iff.1 R34.out).1; omega)).trans ((((Below.refl W4.heap.size W4).alloc (Nat.le_refl _) _).block _ (Array.getElem?_eq_some_iff.1 R34.out).1).trans R34.out)); clear HWX; refine Ln.Stop.out ?_))
    refine ⟨?_⟩
    as_aux_lemma =>
      go_wp2_with (first
          | ((with_reducible show wpList _ _ _ (Oper.mk (some 28) _ _ _ _ _ :: _) _ _); refine wpList_load_row rfl 30 (.tmp 8) rfl W2.heap.size rfl 30 zc (0, 0) _ R35.out Try.underlying30 rfl (by rw [HZ.out]; exact Ln.size_line) ?_)
          | ((with_reducible show wpList _ _ _ (Oper.mk (some 29) _ _ _ _ _ :: _) _ _); refine Ln.wpList_val (v := .agg zc) rfl (by rw [HZ.out]; kernel_rfl) ?_)
          | ((with_reducible show wpList _ _ _ (Oper.mk (some 30) _ _ _ _ _ :: _) _ _); refine Ln.wpList_val rfl (Ln.neq_op (a := Ln.E0) (b := Ln.E0) (.tmp 28) (.tmp 29) rfl Ln.E0_ok Ln.E0_ok HZE.out HZE.out false (by kernel_rfl) _) ?_)
          | ((with_reducible show wpList _ _ _ (Oper.mk (some 35) _ _ _ _ _ :: _) _ _); refine Ev.load_row_g 30 (.tmp 10) rfl rfl W4.heap.size rfl 30 zc (0, 0) _ R5.out Try.underlying30 rfl (by rw [HZ.out]; exact Ln.size_line) ?_)
          | ((with_reducible show wpList _ _ _ (Oper.mk (some 36) _ _ _ _ _ :: _) _ _); refine Ln.wpList_val_g (v := .agg zc) rfl (by rw [HZ.out]; kernel_rfl) ?_)
          | ((with_reducible show wpList _ _ _ (Oper.mk (some 37) _ _ _ _ _ :: _) _ _); refine Ln.wpList_val_g rfl (Ln.neq_op (a := Ln.E0) (b := Ln.E0) (.tmp 35) (.tmp 36) rfl Ln.E0_ok Ln.E0_ok HZE.out HZE.out false (by kernel_rfl) _) ?_)
          | ((with_reducible show wpList _ _ _ (Oper.mk (some 44) _ _ _ _ _ :: _) _ _); refine Ln.wpList_val_g (v := .agg z1) rfl (by rw [HZ1.out]; kernel_rfl) ?_; refine Ln.Stop.out ?_))
      refine ⟨?_⟩
      as_aux_lemma =>
        go_wp2_with (first
            | (go_at_call 14; (with_reducible refine (KP.out _).mono ?_); rintro e W6 ⟨rfl, hb⟩; have B6 := Lib.hid (Ln.bel_trans B5.out hb); have CA6 := Lib.hid (CA5.out.kp hb); clear hb)
            | (go_at_call 13; (with_reducible refine (num_any _ _).mono ?_); rintro e W10 ⟨rfl, hw⟩; subst hw)
            | (go_at_call 15; (with_reducible refine (drop_nil _ _).mono ?_); rintro e W10 ⟨rfl, hw⟩; subst hw; refine Ln.Stop.out ?_))
        refine ⟨?_⟩
        as_aux_lemma =>
          go_wp2_with (first
              | (go_at_call 16; (with_reducible refine (len_nil _).mono ?_); rintro e W7 ⟨rfl, hb⟩; have B7 := Lib.hid (Ln.bel_trans B6.out hb); have CA7 := Lib.hid (CA6.out.kp hb); clear hb)
              | (go_at_call 17; (with_reducible refine (gather_nil _).mono ?_); rintro e W8 ⟨ga, gc, rfl, _, _, hb⟩; have B8 := Lib.hid (Ln.bel_trans B7.out hb); have CA8 := Lib.hid (CA7.out.kp hb); clear hb; refine Ln.Stop.out ?_))
          refine ⟨?_⟩
          as_aux_lemma =>
            go_wp2_with (first
                | (go_at_call 18; (with_reducible refine (copy_nil _).mono ?_); rintro e W10 ⟨rfl, hw⟩; subst hw)
                | (go_at_call 19; (with_reducible refine (same_nn _).mono ?_); rintro e W10 ⟨rfl, hw⟩; subst hw; refine Ln.Stop.out ?_))
            refine ⟨?_⟩
            as_aux_lemma =>
              go_wp2_with (first
                  | (go_at_call 20; (with_reducible refine (RG2.out _).mono ?_); rintro e W11 ⟨rfl, hw⟩; subst hw; refine Ln.Stop.out ?_))
              refine ⟨?_⟩
              as_aux_lemma =>
                go_wp2_with (first
                    | (go_at_call 13; (with_reducible refine (num_any _ _).mono ?_); rintro e W10 ⟨rfl, hw⟩; subst hw)
                    | (go_at_call 16; (with_reducible refine (len_any W8 CA8.out).mono ?_); rw [HFL.out]; rintro e W9 ⟨rfl, hb⟩; have B9 := Lib.hid (Ln.bel_trans B8.out hb); have CA9 := Lib.hid (CA8.out.kp hb); clear hb)
                    | (go_at_call 17; (with_reducible refine (gather_any W9 CA9.out).mono ?_); rw [HFL.out]; rintro e W10 ⟨gb, gd, rfl, _, _, hb⟩; have B10 := Lib.hid (Ln.bel_trans B9.out hb); have CA10 := Lib.hid (CA9.out.kp hb); clear hb; refine Ln.Stop.out ?_))
                refine ⟨?_⟩
                as_aux_lemma =>
                  go_wp2_with (first
                      | (go_at_call 19; (with_reducible refine (same_cn W10 CA10.out).mono ?_); rintro e W11 ⟨rfl, hw⟩; subst hw)
                      | (go_at_call 19; (with_reducible refine (same_nc W10 CA10.out).mono ?_); rintro e W11 ⟨rfl, hw⟩; subst hw; refine Ln.Stop.out ?_))
                  refine ⟨?_⟩
                  as_aux_lemma =>
                    go_wp2_with (first
                        | (go_at_call 21; (with_reducible refine (works_any W10).mono ?_); rintro e W12 ⟨rfl, hb⟩; have B12 := Lib.hid (Ln.bel_trans B10.out hb); clear hb))
                    go_ret
                    exact ⟨rfl, B12.out⟩
/-! THE WALK: the Go text returns true; of memory nothing that stood there has turned. -/
set_option maxRecDepth 100000 in
set_option maxHeartbeats 8000000 in
theorem walk (w : World) (a0 : Int) (w0 : (Lit.int .i64 a0).wf = true) (a1 : Int) (w1 : (Lit.int .i64 a1).wf = true) :
    Calls Try.prog 3 #[.int .i64 a0, .int .i64 a1] w fun e w' => e = .returned (.bool true) ∧ Below w.heap.size w w' := by
  cases hm : Ln.mayB a0 a1
  · exact walk_no w a0 a1 (i64_of_wf w0) (i64_of_wf w1) hm
  · exact walk_yes w a0 a1 (i64_of_wf w0) (i64_of_wf w1) hm

/-! THE ROW -/
set_option maxRecDepth 100000 in
theorem lifted (os : Os) (started : os.Started) (H : Type) (enc : TypeId × Value → H) :
    ReturnsInHanded {} Try.checked os 3 .any (Rows.linesMakesSpec.pre6 enc Try.prog Try.f3 Rows.linesMakesRow.domain false) (Rows.linesMakesSpec.post enc Try.prog Try.f3 false true false false) := by
  refine returnsInHanded_of_change (C := Try.checked) own started (by kernel_rfl) Try.func3
    (ChangeSpec.witness6 (enc := enc) (C := Try.checked) false ⟨#[], #[.int .i64 0, .int .i64 0], []⟩ 8 (by kernel_rfl) (by kernel_rfl) (by kernel_rfl) (by kernel_rfl)) ?_
  intro W base args ds gs before hval0 hW hcnd _
  have hval : ∀ (j : Nat) t v, Try.f3.params[j]? = some t → args[j]? = some v → Value.okWide Try.prog W .any base t v := hval0
  have hW' := hW
  obtain ⟨p, q, hA0, hV, rfl, hfz, hnd⟩ := hW
  have hA : DataW.TrodAll enc Try.prog W 0 (fun _ => true) true Try.f3.params.toList args.toList ds p := hA0
  rw [Try.params3] at hA hval
  obtain ⟨v0, vs0, d0, ds0, p0, q0, hargs, rfl, rfl, h0, r0⟩ := trodAll_cons hA
  obtain ⟨v1, vs1, d1, ds1, p1, q1, rfl, rfl, rfl, h1, r1⟩ := trodAll_cons r0
  obtain ⟨rfl, rfl, rfl⟩ := trodAll_nil r1
  obtain rfl : args = #[v0, v1] := by cases args; simp_all
  obtain ⟨rfl, rfl⟩ := trodVars_none hV
  clear hA0 hval0
  simp only [List.append_nil] at hW'
  have hlt : ∀ x ∈ p0 ++ (p1), x.block < W.heap.size := fun x hx => by simpa using hW'.lt x (by simpa using hx)
  have h0k := h0
  obtain ⟨a0, rfl, rfl, rfl, w0⟩ := open_int Try.underlying3 (hval 0 3 v0 rfl rfl) h0
  have h1k := h1
  obtain ⟨a1, rfl, rfl, rfl, w1⟩ := open_int Try.underlying3 (hval 1 3 v1 rfl rfl) h1
  refine (walk W a0 w0 a1 w1).mono fun e W' ⟨he, hb⟩ => ?_
  subst he
  have harg0 : DataW.Trod enc Try.prog W' 0 (fun b => decide (b < W.heap.size)) true 3 _ _ _ := Below.trod laidOut (by kernel_rfl) (of_decide_eq_true (by kernel_rfl)) h0k hb (fun x hx => by cases hx)
  have harg1 : DataW.Trod enc Try.prog W' 0 (fun b => decide (b < W.heap.size)) true 3 _ _ _ := Below.trod laidOut (by kernel_rfl) (of_decide_eq_true (by kernel_rfl)) h1k hb (fun x hx => by cases hx)
  exact ⟨_, rfl, _, _, _, [], _, [], hW', trodAll_mk1 (shut_bool Try.underlying4 _), (trodAll_cons_mk harg0 (trodAll_cons_mk harg1 trodAll_mk0)), rfl, hb.frame _, fun h => by cases h⟩

theorem over : Rows.linesMakesRow.holds Try.pinned (OpenSpec.ofChange Rows.linesMakesSpec) :=
  OpenClaim.holds_of_wide 3 Try.f3 rfl rfl rfl rfl rfl rfl rfl ⟨rfl, rfl, rfl, rfl, rfl⟩ rfl rfl rfl rfl rfl (by kernel_rfl) Try.func3 (by kernel_rfl)
    (of_decide_eq_true (by kernel_rfl)) (by unfold Func.isWrapper; first | (rw [if_pos (by decide +kernel)]; kernel_rfl) | (rw [if_neg (by decide +kernel)]; exact ⟨rfl, rfl⟩))
    (fun os started H enc _ => lifted os started H enc)

/-- THE STATEMENT -/
theorem proved : Rows.LinesMakesSaid :=
  over
end Go.Proofs.Ytifniogldinbdaa.linesMakes
