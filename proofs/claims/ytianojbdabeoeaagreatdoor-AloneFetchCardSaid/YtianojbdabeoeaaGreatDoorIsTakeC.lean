/-
  What stands in a word, by its form: the program's method take.
-/
import Derived.Test.YtianojbdabeoeaaGreatDoorIsForms
import Derived.Test.YtianojbdabeoeaaGreatDoorIsParts
namespace Go.Proofs.YtianojbdabeoeaaGreatDoor
open Go.RowKit Go.Maps
set_option linter.unusedVariables false
set_option linter.unusedSimpArgs false

set_option maxHeartbeats 1000000 in
theorem take10 (x : Int) (hx : Is.Wd x) (w : World) :
    Calls Tryz.prog 103 #[fo 10, .int .u32 x] w fun e w' => e = .returned (inst 0 (Is.rdO 10 x) (Is.rs1O 10 x) (Is.rs2O 10 x) (Is.immO 10 x) (Is.aqO 10 x) (Is.rlO 10 x)) ∧ Below w.heap.size w w' := by
  have HX := Lib.hid hx; clear hx
  have b1 := Is.bd_11_7 x
  have b2 := Is.bd_19_15 x
  have b3 := Is.bd_24_20 x
  rw [fo10]
  go_enter Tryz.func103, Tryz.ntmps103
  go_wp2_with (first
    | (go_at_call 201; refine (bitsOf_any x _).mono ?_; rintro e w' ⟨rfl, rfl⟩)
    | (go_at_call 247; refine (noImm_any x _ _ HX.out ?_).mono ?_; (· go_simp); rintro e w' ⟨rfl, rfl⟩)
    | (go_at_call 256; refine (bits1_any x _ _ _ _ (by decide) (by decide) (by decide) HX.out ?_).mono ?_; (· go_simp); rintro e w' ⟨rfl, rfl⟩))
  refine bodyPost_ret (v := .agg #[.int .i64 0, .int .i64 0, .int .i64 0, .int .i64 0, .int .u32 (Is.noImm x), .bool false, .bool false]) (by simp [results, Tryz.results103, go_sem]) rfl ⟨?_, ?_⟩
  · simp [inst, Is.rdO, Is.rs1O, Is.rs2O, Is.immO, Is.aqO, Is.rlO, Is.hasRd, Is.hasRs1, Is.hasRs2, Is.hasOrd, Is.noImm, Is.bt_11_7, Is.bt_19_15, Is.bt_24_20, Is.bt_26_26, Is.bt_25_25]
  · exact ((((Below.refl _ _).alloc (Nat.le_refl _) _).alloc (by simp) _).alloc (by simp; omega) _).alloc (by simp; omega) _

set_option maxHeartbeats 1000000 in
theorem take11 (x : Int) (hx : Is.Wd x) (w : World) :
    Calls Tryz.prog 103 #[fo 11, .int .u32 x] w fun e w' => e = .returned (inst 0 (Is.rdO 11 x) (Is.rs1O 11 x) (Is.rs2O 11 x) (Is.immO 11 x) (Is.aqO 11 x) (Is.rlO 11 x)) ∧ Below w.heap.size w w' := by
  have HX := Lib.hid hx; clear hx
  have b1 := Is.bd_11_7 x
  have b2 := Is.bd_19_15 x
  have b3 := Is.bd_24_20 x
  rw [fo11]
  go_enter Tryz.func103, Tryz.ntmps103
  go_wp2_with (first
    | (go_at_call 201; refine (bitsOf_any x _).mono ?_; rintro e w' ⟨rfl, rfl⟩)
    | (go_at_call 247; refine (noImm_any x _ _ HX.out ?_).mono ?_; (· go_simp); rintro e w' ⟨rfl, rfl⟩)
    | (go_at_call 256; refine (bits1_any x _ _ _ _ (by decide) (by decide) (by decide) HX.out ?_).mono ?_; (· go_simp); rintro e w' ⟨rfl, rfl⟩))
  refine bodyPost_ret (v := .agg #[.int .i64 0, .int .i64 (Is.bt x 11 7), .int .i64 (Is.bt x 19 15), .int .i64 (Is.bt x 24 20), .int .u32 (Is.noImm x), .bool (Is.bt x 26 26 == 1), .bool (Is.bt x 25 25 == 1)]) (by simp [results, Tryz.results103, go_sem]) rfl ⟨?_, ?_⟩
  · simp [inst, Is.rdO, Is.rs1O, Is.rs2O, Is.immO, Is.aqO, Is.rlO, Is.hasRd, Is.hasRs1, Is.hasRs2, Is.hasOrd, Is.noImm, Is.bt_11_7, Is.bt_19_15, Is.bt_24_20, Is.bt_26_26, Is.bt_25_25]
  · exact ((((Below.refl _ _).alloc (Nat.le_refl _) _).alloc (by simp) _).alloc (by simp; omega) _).alloc (by simp; omega) _

set_option maxHeartbeats 1000000 in
theorem take12 (x : Int) (hx : Is.Wd x) (w : World) :
    Calls Tryz.prog 103 #[fo 12, .int .u32 x] w fun e w' => e = .returned (inst 0 (Is.rdO 12 x) (Is.rs1O 12 x) (Is.rs2O 12 x) (Is.immO 12 x) (Is.aqO 12 x) (Is.rlO 12 x)) ∧ Below w.heap.size w w' := by
  have HX := Lib.hid hx; clear hx
  have b1 := Is.bd_11_7 x
  have b2 := Is.bd_19_15 x
  have b3 := Is.bd_24_20 x
  rw [fo12]
  go_enter Tryz.func103, Tryz.ntmps103
  go_wp2_with (first
    | (go_at_call 201; refine (bitsOf_any x _).mono ?_; rintro e w' ⟨rfl, rfl⟩)
    | (go_at_call 247; refine (noImm_any x _ _ HX.out ?_).mono ?_; (· go_simp); rintro e w' ⟨rfl, rfl⟩)
    | (go_at_call 256; refine (bits1_any x _ _ _ _ (by decide) (by decide) (by decide) HX.out ?_).mono ?_; (· go_simp); rintro e w' ⟨rfl, rfl⟩))
  refine bodyPost_ret (v := .agg #[.int .i64 0, .int .i64 (Is.bt x 11 7), .int .i64 (Is.bt x 19 15), .int .i64 0, .int .u32 (Is.noImm x), .bool (Is.bt x 26 26 == 1), .bool (Is.bt x 25 25 == 1)]) (by simp [results, Tryz.results103, go_sem]) rfl ⟨?_, ?_⟩
  · simp [inst, Is.rdO, Is.rs1O, Is.rs2O, Is.immO, Is.aqO, Is.rlO, Is.hasRd, Is.hasRs1, Is.hasRs2, Is.hasOrd, Is.noImm, Is.bt_11_7, Is.bt_19_15, Is.bt_24_20, Is.bt_26_26, Is.bt_25_25]
  · exact ((((Below.refl _ _).alloc (Nat.le_refl _) _).alloc (by simp) _).alloc (by simp; omega) _).alloc (by simp; omega) _

set_option maxHeartbeats 1000000 in
theorem take13 (x : Int) (hx : Is.Wd x) (w : World) :
    Calls Tryz.prog 103 #[fo 13, .int .u32 x] w fun e w' => e = .returned (inst 0 (Is.rdO 13 x) (Is.rs1O 13 x) (Is.rs2O 13 x) (Is.immO 13 x) (Is.aqO 13 x) (Is.rlO 13 x)) ∧ Below w.heap.size w w' := by
  have HX := Lib.hid hx; clear hx
  have b1 := Is.bd_11_7 x
  have b2 := Is.bd_19_15 x
  have b3 := Is.bd_24_20 x
  rw [fo13]
  go_enter Tryz.func103, Tryz.ntmps103
  go_wp2_with (first
    | (go_at_call 201; refine (bitsOf_any x _).mono ?_; rintro e w' ⟨rfl, rfl⟩)
    | (go_at_call 247; refine (noImm_any x _ _ HX.out ?_).mono ?_; (· go_simp); rintro e w' ⟨rfl, rfl⟩)
    | (go_at_call 256; refine (bits1_any x _ _ _ _ (by decide) (by decide) (by decide) HX.out ?_).mono ?_; (· go_simp); rintro e w' ⟨rfl, rfl⟩))
  refine bodyPost_ret (v := .agg #[.int .i64 0, .int .i64 (Is.bt x 11 7), .int .i64 0, .int .i64 0, .int .u32 (Is.noImm x), .bool false, .bool false]) (by simp [results, Tryz.results103, go_sem]) rfl ⟨?_, ?_⟩
  · simp [inst, Is.rdO, Is.rs1O, Is.rs2O, Is.immO, Is.aqO, Is.rlO, Is.hasRd, Is.hasRs1, Is.hasRs2, Is.hasOrd, Is.noImm, Is.bt_11_7, Is.bt_19_15, Is.bt_24_20, Is.bt_26_26, Is.bt_25_25]
  · exact ((((Below.refl _ _).alloc (Nat.le_refl _) _).alloc (by simp) _).alloc (by simp; omega) _).alloc (by simp; omega) _
end Go.Proofs.YtianojbdabeoeaaGreatDoor
