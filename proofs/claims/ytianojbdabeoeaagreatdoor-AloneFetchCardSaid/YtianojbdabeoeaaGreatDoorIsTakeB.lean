/-
  What stands in a word, by its form: the program's method take.
-/
import Derived.Test.YtianojbdabeoeaaGreatDoorIsForms
import Derived.Test.YtianojbdabeoeaaGreatDoorIsParts
namespace Go.Proofs.YtianojbdabeoeaaGreatDoor
open Go.RowKit Go.Maps
set_option linter.unusedVariables false
set_option linter.unusedSimpArgs false

set_option maxHeartbeats 1000000 in
theorem take5 (x : Int) (hx : Is.Wd x) (w : World) :
    Calls Tryz.prog 103 #[fo 5, .int .u32 x] w fun e w' => e = .returned (inst 0 (Is.rdO 5 x) (Is.rs1O 5 x) (Is.rs2O 5 x) (Is.immO 5 x) (Is.aqO 5 x) (Is.rlO 5 x)) ∧ Below w.heap.size w w' := by
  have HX := Lib.hid hx; clear hx
  have b1 := Is.bd_11_7 x
  have b2 := Is.bd_19_15 x
  have b3 := Is.bd_24_20 x
  rw [fo5]
  go_enter Tryz.func103, Tryz.ntmps103
  go_wp2_with (first
    | (go_at_call 201; refine (bitsOf_any x _).mono ?_; rintro e w' ⟨rfl, rfl⟩)
    | (go_at_call 239; refine (shiftImm_any x _ _ HX.out ?_).mono ?_; (· go_simp); rintro e w' ⟨rfl, rfl⟩)
    | (go_at_call 256; refine (bits1_any x _ _ _ _ (by decide) (by decide) (by decide) HX.out ?_).mono ?_; (· go_simp); rintro e w' ⟨rfl, rfl⟩))
  refine bodyPost_ret (v := .agg #[.int .i64 0, .int .i64 (Is.bt x 11 7), .int .i64 (Is.bt x 19 15), .int .i64 0, .int .u32 (Is.shiftImm x), .bool false, .bool false]) (by simp [results, Tryz.results103, go_sem]) rfl ⟨?_, ?_⟩
  · simp [inst, Is.rdO, Is.rs1O, Is.rs2O, Is.immO, Is.aqO, Is.rlO, Is.hasRd, Is.hasRs1, Is.hasRs2, Is.hasOrd, Is.noImm, Is.bt_11_7, Is.bt_19_15, Is.bt_24_20, Is.bt_26_26, Is.bt_25_25]
  · exact ((((Below.refl _ _).alloc (Nat.le_refl _) _).alloc (by simp) _).alloc (by simp; omega) _).alloc (by simp; omega) _

set_option maxHeartbeats 1000000 in
theorem take6 (x : Int) (hx : Is.Wd x) (w : World) :
    Calls Tryz.prog 103 #[fo 6, .int .u32 x] w fun e w' => e = .returned (inst 0 (Is.rdO 6 x) (Is.rs1O 6 x) (Is.rs2O 6 x) (Is.immO 6 x) (Is.aqO 6 x) (Is.rlO 6 x)) ∧ Below w.heap.size w w' := by
  have HX := Lib.hid hx; clear hx
  have b1 := Is.bd_11_7 x
  have b2 := Is.bd_19_15 x
  have b3 := Is.bd_24_20 x
  rw [fo6]
  go_enter Tryz.func103, Tryz.ntmps103
  go_wp2_with (first
    | (go_at_call 201; refine (bitsOf_any x _).mono ?_; rintro e w' ⟨rfl, rfl⟩)
    | (go_at_call 241; refine (branchImm_any x _ _ HX.out ?_).mono ?_; (· go_simp); rintro e w' ⟨rfl, rfl⟩)
    | (go_at_call 256; refine (bits1_any x _ _ _ _ (by decide) (by decide) (by decide) HX.out ?_).mono ?_; (· go_simp); rintro e w' ⟨rfl, rfl⟩))
  refine bodyPost_ret (v := .agg #[.int .i64 0, .int .i64 0, .int .i64 (Is.bt x 19 15), .int .i64 (Is.bt x 24 20), .int .u32 (Is.branchImm x), .bool false, .bool false]) (by simp [results, Tryz.results103, go_sem]) rfl ⟨?_, ?_⟩
  · simp [inst, Is.rdO, Is.rs1O, Is.rs2O, Is.immO, Is.aqO, Is.rlO, Is.hasRd, Is.hasRs1, Is.hasRs2, Is.hasOrd, Is.noImm, Is.bt_11_7, Is.bt_19_15, Is.bt_24_20, Is.bt_26_26, Is.bt_25_25]
  · exact ((((Below.refl _ _).alloc (Nat.le_refl _) _).alloc (by simp) _).alloc (by simp; omega) _).alloc (by simp; omega) _

set_option maxHeartbeats 1000000 in
theorem take7 (x : Int) (hx : Is.Wd x) (w : World) :
    Calls Tryz.prog 103 #[fo 7, .int .u32 x] w fun e w' => e = .returned (inst 0 (Is.rdO 7 x) (Is.rs1O 7 x) (Is.rs2O 7 x) (Is.immO 7 x) (Is.aqO 7 x) (Is.rlO 7 x)) ∧ Below w.heap.size w w' := by
  have HX := Lib.hid hx; clear hx
  have b1 := Is.bd_11_7 x
  have b2 := Is.bd_19_15 x
  have b3 := Is.bd_24_20 x
  rw [fo7]
  go_enter Tryz.func103, Tryz.ntmps103
  go_wp2_with (first
    | (go_at_call 201; refine (bitsOf_any x _).mono ?_; rintro e w' ⟨rfl, rfl⟩)
    | (go_at_call 244; refine (storeImm_any x _ _ HX.out ?_).mono ?_; (· go_simp); rintro e w' ⟨rfl, rfl⟩)
    | (go_at_call 256; refine (bits1_any x _ _ _ _ (by decide) (by decide) (by decide) HX.out ?_).mono ?_; (· go_simp); rintro e w' ⟨rfl, rfl⟩))
  refine bodyPost_ret (v := .agg #[.int .i64 0, .int .i64 0, .int .i64 (Is.bt x 19 15), .int .i64 (Is.bt x 24 20), .int .u32 (Is.storeImm x), .bool false, .bool false]) (by simp [results, Tryz.results103, go_sem]) rfl ⟨?_, ?_⟩
  · simp [inst, Is.rdO, Is.rs1O, Is.rs2O, Is.immO, Is.aqO, Is.rlO, Is.hasRd, Is.hasRs1, Is.hasRs2, Is.hasOrd, Is.noImm, Is.bt_11_7, Is.bt_19_15, Is.bt_24_20, Is.bt_26_26, Is.bt_25_25]
  · exact ((((Below.refl _ _).alloc (Nat.le_refl _) _).alloc (by simp) _).alloc (by simp; omega) _).alloc (by simp; omega) _

set_option maxHeartbeats 1000000 in
theorem take8 (x : Int) (hx : Is.Wd x) (w : World) :
    Calls Tryz.prog 103 #[fo 8, .int .u32 x] w fun e w' => e = .returned (inst 0 (Is.rdO 8 x) (Is.rs1O 8 x) (Is.rs2O 8 x) (Is.immO 8 x) (Is.aqO 8 x) (Is.rlO 8 x)) ∧ Below w.heap.size w w' := by
  have HX := Lib.hid hx; clear hx
  have b1 := Is.bd_11_7 x
  have b2 := Is.bd_19_15 x
  have b3 := Is.bd_24_20 x
  rw [fo8]
  go_enter Tryz.func103, Tryz.ntmps103
  go_wp2_with (first
    | (go_at_call 201; refine (bitsOf_any x _).mono ?_; rintro e w' ⟨rfl, rfl⟩)
    | (go_at_call 247; refine (noImm_any x _ _ HX.out ?_).mono ?_; (· go_simp); rintro e w' ⟨rfl, rfl⟩)
    | (go_at_call 256; refine (bits1_any x _ _ _ _ (by decide) (by decide) (by decide) HX.out ?_).mono ?_; (· go_simp); rintro e w' ⟨rfl, rfl⟩))
  refine bodyPost_ret (v := .agg #[.int .i64 0, .int .i64 (Is.bt x 11 7), .int .i64 (Is.bt x 19 15), .int .i64 (Is.bt x 24 20), .int .u32 (Is.noImm x), .bool false, .bool false]) (by simp [results, Tryz.results103, go_sem]) rfl ⟨?_, ?_⟩
  · simp [inst, Is.rdO, Is.rs1O, Is.rs2O, Is.immO, Is.aqO, Is.rlO, Is.hasRd, Is.hasRs1, Is.hasRs2, Is.hasOrd, Is.noImm, Is.bt_11_7, Is.bt_19_15, Is.bt_24_20, Is.bt_26_26, Is.bt_25_25]
  · exact ((((Below.refl _ _).alloc (Nat.le_refl _) _).alloc (by simp) _).alloc (by simp; omega) _).alloc (by simp; omega) _

set_option maxHeartbeats 1000000 in
theorem take9 (x : Int) (hx : Is.Wd x) (w : World) :
    Calls Tryz.prog 103 #[fo 9, .int .u32 x] w fun e w' => e = .returned (inst 0 (Is.rdO 9 x) (Is.rs1O 9 x) (Is.rs2O 9 x) (Is.immO 9 x) (Is.aqO 9 x) (Is.rlO 9 x)) ∧ Below w.heap.size w w' := by
  have HX := Lib.hid hx; clear hx
  have b1 := Is.bd_11_7 x
  have b2 := Is.bd_19_15 x
  have b3 := Is.bd_24_20 x
  rw [fo9]
  go_enter Tryz.func103, Tryz.ntmps103
  go_wp2_with (first
    | (go_at_call 201; refine (bitsOf_any x _).mono ?_; rintro e w' ⟨rfl, rfl⟩)
    | (go_at_call 249; refine (fenceImm_any x _ _ HX.out ?_).mono ?_; (· go_simp); rintro e w' ⟨rfl, rfl⟩)
    | (go_at_call 256; refine (bits1_any x _ _ _ _ (by decide) (by decide) (by decide) HX.out ?_).mono ?_; (· go_simp); rintro e w' ⟨rfl, rfl⟩))
  refine bodyPost_ret (v := .agg #[.int .i64 0, .int .i64 0, .int .i64 0, .int .i64 0, .int .u32 (Is.fenceImm x), .bool false, .bool false]) (by simp [results, Tryz.results103, go_sem]) rfl ⟨?_, ?_⟩
  · simp [inst, Is.rdO, Is.rs1O, Is.rs2O, Is.immO, Is.aqO, Is.rlO, Is.hasRd, Is.hasRs1, Is.hasRs2, Is.hasOrd, Is.noImm, Is.bt_11_7, Is.bt_19_15, Is.bt_24_20, Is.bt_26_26, Is.bt_25_25]
  · exact ((((Below.refl _ _).alloc (Nat.le_refl _) _).alloc (by simp) _).alloc (by simp; omega) _).alloc (by simp; omega) _
end Go.Proofs.YtianojbdabeoeaaGreatDoor
