/-
  What stands in a word, by its form: the program's method take.
-/
import Derived.Test.YtianojbdabeoeaaGreatDoorIsForms
import Derived.Test.YtianojbdabeoeaaGreatDoorIsParts
namespace Go.Proofs.YtianojbdabeoeaaGreatDoor
open Go.RowKit Go.Maps
set_option linter.unusedVariables false
set_option linter.unusedSimpArgs false

set_option maxHeartbeats 1000000 in
theorem take1 (x : Int) (hx : Is.Wd x) (w : World) :
    Calls Tryz.prog 103 #[fo 1, .int .u32 x] w fun e w' => e = .returned (inst 0 (Is.rdO 1 x) (Is.rs1O 1 x) (Is.rs2O 1 x) (Is.immO 1 x) (Is.aqO 1 x) (Is.rlO 1 x)) ∧ Below w.heap.size w w' := by
  have HX := Lib.hid hx; clear hx
  have b1 := Is.bd_11_7 x
  have b2 := Is.bd_19_15 x
  have b3 := Is.bd_24_20 x
  rw [fo1]
  go_enter Tryz.func103, Tryz.ntmps103
  go_wp2_with (first
    | (go_at_call 201; refine (bitsOf_any x _).mono ?_; rintro e w' ⟨rfl, rfl⟩)
    | (go_at_call 230; refine (upperImm_any x _ _ HX.out ?_).mono ?_; (· go_simp); rintro e w' ⟨rfl, rfl⟩)
    | (go_at_call 256; refine (bits1_any x _ _ _ _ (by decide) (by decide) (by decide) HX.out ?_).mono ?_; (· go_simp); rintro e w' ⟨rfl, rfl⟩))
  refine bodyPost_ret (v := .agg #[.int .i64 0, .int .i64 (Is.bt x 11 7), .int .i64 0, .int .i64 0, .int .u32 (Is.upperImm x), .bool false, .bool false]) (by simp [results, Tryz.results103, go_sem]) rfl ⟨?_, ?_⟩
  · simp [inst, Is.rdO, Is.rs1O, Is.rs2O, Is.immO, Is.aqO, Is.rlO, Is.hasRd, Is.hasRs1, Is.hasRs2, Is.hasOrd, Is.noImm, Is.bt_11_7, Is.bt_19_15, Is.bt_24_20, Is.bt_26_26, Is.bt_25_25]
  · exact ((((Below.refl _ _).alloc (Nat.le_refl _) _).alloc (by simp) _).alloc (by simp; omega) _).alloc (by simp; omega) _

set_option maxHeartbeats 1000000 in
theorem take2 (x : Int) (hx : Is.Wd x) (w : World) :
    Calls Tryz.prog 103 #[fo 2, .int .u32 x] w fun e w' => e = .returned (inst 0 (Is.rdO 2 x) (Is.rs1O 2 x) (Is.rs2O 2 x) (Is.immO 2 x) (Is.aqO 2 x) (Is.rlO 2 x)) ∧ Below w.heap.size w w' := by
  have HX := Lib.hid hx; clear hx
  have b1 := Is.bd_11_7 x
  have b2 := Is.bd_19_15 x
  have b3 := Is.bd_24_20 x
  rw [fo2]
  go_enter Tryz.func103, Tryz.ntmps103
  go_wp2_with (first
    | (go_at_call 201; refine (bitsOf_any x _).mono ?_; rintro e w' ⟨rfl, rfl⟩)
    | (go_at_call 232; refine (jumpImm_any x _ _ HX.out ?_).mono ?_; (· go_simp); rintro e w' ⟨rfl, rfl⟩)
    | (go_at_call 256; refine (bits1_any x _ _ _ _ (by decide) (by decide) (by decide) HX.out ?_).mono ?_; (· go_simp); rintro e w' ⟨rfl, rfl⟩))
  refine bodyPost_ret (v := .agg #[.int .i64 0, .int .i64 (Is.bt x 11 7), .int .i64 0, .int .i64 0, .int .u32 (Is.jumpImm x), .bool false, .bool false]) (by simp [results, Tryz.results103, go_sem]) rfl ⟨?_, ?_⟩
  · simp [inst, Is.rdO, Is.rs1O, Is.rs2O, Is.immO, Is.aqO, Is.rlO, Is.hasRd, Is.hasRs1, Is.hasRs2, Is.hasOrd, Is.noImm, Is.bt_11_7, Is.bt_19_15, Is.bt_24_20, Is.bt_26_26, Is.bt_25_25]
  · exact ((((Below.refl _ _).alloc (Nat.le_refl _) _).alloc (by simp) _).alloc (by simp; omega) _).alloc (by simp; omega) _

set_option maxHeartbeats 1000000 in
theorem take3 (x : Int) (hx : Is.Wd x) (w : World) :
    Calls Tryz.prog 103 #[fo 3, .int .u32 x] w fun e w' => e = .returned (inst 0 (Is.rdO 3 x) (Is.rs1O 3 x) (Is.rs2O 3 x) (Is.immO 3 x) (Is.aqO 3 x) (Is.rlO 3 x)) ∧ Below w.heap.size w w' := by
  have HX := Lib.hid hx; clear hx
  have b1 := Is.bd_11_7 x
  have b2 := Is.bd_19_15 x
  have b3 := Is.bd_24_20 x
  rw [fo3]
  go_enter Tryz.func103, Tryz.ntmps103
  go_wp2_with (first
    | (go_at_call 201; refine (bitsOf_any x _).mono ?_; rintro e w' ⟨rfl, rfl⟩)
    | (go_at_call 235; refine (shortImm_any x _ _ HX.out ?_).mono ?_; (· go_simp); rintro e w' ⟨rfl, rfl⟩)
    | (go_at_call 256; refine (bits1_any x _ _ _ _ (by decide) (by decide) (by decide) HX.out ?_).mono ?_; (· go_simp); rintro e w' ⟨rfl, rfl⟩))
  refine bodyPost_ret (v := .agg #[.int .i64 0, .int .i64 (Is.bt x 11 7), .int .i64 (Is.bt x 19 15), .int .i64 0, .int .u32 (Is.shortImm x), .bool false, .bool false]) (by simp [results, Tryz.results103, go_sem]) rfl ⟨?_, ?_⟩
  · simp [inst, Is.rdO, Is.rs1O, Is.rs2O, Is.immO, Is.aqO, Is.rlO, Is.hasRd, Is.hasRs1, Is.hasRs2, Is.hasOrd, Is.noImm, Is.bt_11_7, Is.bt_19_15, Is.bt_24_20, Is.bt_26_26, Is.bt_25_25]
  · exact ((((Below.refl _ _).alloc (Nat.le_refl _) _).alloc (by simp) _).alloc (by simp; omega) _).alloc (by simp; omega) _

set_option maxHeartbeats 1000000 in
theorem take4 (x : Int) (hx : Is.Wd x) (w : World) :
    Calls Tryz.prog 103 #[fo 4, .int .u32 x] w fun e w' => e = .returned (inst 0 (Is.rdO 4 x) (Is.rs1O 4 x) (Is.rs2O 4 x) (Is.immO 4 x) (Is.aqO 4 x) (Is.rlO 4 x)) ∧ Below w.heap.size w w' := by
  have HX := Lib.hid hx; clear hx
  have b1 := Is.bd_11_7 x
  have b2 := Is.bd_19_15 x
  have b3 := Is.bd_24_20 x
  rw [fo4]
  go_enter Tryz.func103, Tryz.ntmps103
  go_wp2_with (first
    | (go_at_call 201; refine (bitsOf_any x _).mono ?_; rintro e w' ⟨rfl, rfl⟩)
    | (go_at_call 235; refine (shortImm_any x _ _ HX.out ?_).mono ?_; (· go_simp); rintro e w' ⟨rfl, rfl⟩)
    | (go_at_call 256; refine (bits1_any x _ _ _ _ (by decide) (by decide) (by decide) HX.out ?_).mono ?_; (· go_simp); rintro e w' ⟨rfl, rfl⟩))
  refine bodyPost_ret (v := .agg #[.int .i64 0, .int .i64 (Is.bt x 11 7), .int .i64 (Is.bt x 19 15), .int .i64 0, .int .u32 (Is.shortImm x), .bool false, .bool false]) (by simp [results, Tryz.results103, go_sem]) rfl ⟨?_, ?_⟩
  · simp [inst, Is.rdO, Is.rs1O, Is.rs2O, Is.immO, Is.aqO, Is.rlO, Is.hasRd, Is.hasRs1, Is.hasRs2, Is.hasOrd, Is.noImm, Is.bt_11_7, Is.bt_19_15, Is.bt_24_20, Is.bt_26_26, Is.bt_25_25]
  · exact ((((Below.refl _ _).alloc (Nat.le_refl _) _).alloc (by simp) _).alloc (by simp; omega) _).alloc (by simp; omega) _
end Go.Proofs.YtianojbdabeoeaaGreatDoor
