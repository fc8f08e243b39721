/-
  Each Op's meaning, by number.
-/
import Derived.Test.YtccacgknmddanaaGreatDoorHtMapA
import Derived.Test.YtccacgknmddanaaGreatDoorHtMapB
namespace Go.Proofs.YtccacgknmddanaaGreatDoor
open Go.RowKit Go.Maps
set_option linter.unusedVariables false
theorem mo1 (w : World) : Calls Tryz.prog 35 #[.int .i64 1] w fun e w' => e = .returned (.func (.func 143) #[] #[]) ∧ Below w.heap.size w w' := by
  go_enter Tryz.func35, Tryz.ntmps35
  go_wp2_with fail
  refine (others_any _).mono ?_
  rintro e w1 ⟨r, rfl, hown, hb⟩
  have hl := (others_at hown).1
  have HB := Lib.hid hb; clear hown hb
  go_wp2
  go_ret
  exact ⟨rfl, HB.out⟩
theorem mo2 (w : World) : Calls Tryz.prog 35 #[.int .i64 2] w fun e w' => e = .returned (.func (.func 144) #[] #[]) ∧ Below w.heap.size w w' := by
  go_enter Tryz.func35, Tryz.ntmps35
  go_wp2_with fail
  refine (others_any _).mono ?_
  rintro e w1 ⟨r, rfl, hown, hb⟩
  have hl := (others_at hown).2.1
  have HB := Lib.hid hb; clear hown hb
  go_wp2
  go_ret
  exact ⟨rfl, HB.out⟩
theorem mo3 (w : World) : Calls Tryz.prog 35 #[.int .i64 3] w fun e w' => e = .returned (.func (.func 79) #[] #[]) ∧ Below w.heap.size w w' := by
  go_enter Tryz.func35, Tryz.ntmps35
  go_wp2_with fail
  refine (jumps_any _).mono ?_
  rintro e w1 ⟨r, rfl, hown, hb⟩
  have hl := (jumps_at hown).1
  have HB := Lib.hid hb; clear hown hb
  go_wp2
  go_ret
  exact ⟨rfl, HB.out⟩
theorem mo4 (w : World) : Calls Tryz.prog 35 #[.int .i64 4] w fun e w' => e = .returned (.func (.func 82) #[] #[]) ∧ Below w.heap.size w w' := by
  go_enter Tryz.func35, Tryz.ntmps35
  go_wp2_with fail
  refine (jumps_any _).mono ?_
  rintro e w1 ⟨r, rfl, hown, hb⟩
  have hl := (jumps_at hown).2.1
  have HB := Lib.hid hb; clear hown hb
  go_wp2
  go_ret
  exact ⟨rfl, HB.out⟩
theorem mo5 (w : World) : Calls Tryz.prog 35 #[.int .i64 5] w fun e w' => e = .returned (.func (.func 84) #[] #[]) ∧ Below w.heap.size w w' := by
  go_enter Tryz.func35, Tryz.ntmps35
  go_wp2_with fail
  refine (jumps_any _).mono ?_
  rintro e w1 ⟨r, rfl, hown, hb⟩
  have hl := (jumps_at hown).2.2.1
  have HB := Lib.hid hb; clear hown hb
  go_wp2
  go_ret
  exact ⟨rfl, HB.out⟩
theorem mo6 (w : World) : Calls Tryz.prog 35 #[.int .i64 6] w fun e w' => e = .returned (.func (.func 87) #[] #[]) ∧ Below w.heap.size w w' := by
  go_enter Tryz.func35, Tryz.ntmps35
  go_wp2_with fail
  refine (jumps_any _).mono ?_
  rintro e w1 ⟨r, rfl, hown, hb⟩
  have hl := (jumps_at hown).2.2.2.1
  have HB := Lib.hid hb; clear hown hb
  go_wp2
  go_ret
  exact ⟨rfl, HB.out⟩
theorem mo7 (w : World) : Calls Tryz.prog 35 #[.int .i64 7] w fun e w' => e = .returned (.func (.func 88) #[] #[]) ∧ Below w.heap.size w w' := by
  go_enter Tryz.func35, Tryz.ntmps35
  go_wp2_with fail
  refine (jumps_any _).mono ?_
  rintro e w1 ⟨r, rfl, hown, hb⟩
  have hl := (jumps_at hown).2.2.2.2.1
  have HB := Lib.hid hb; clear hown hb
  go_wp2
  go_ret
  exact ⟨rfl, HB.out⟩
theorem mo8 (w : World) : Calls Tryz.prog 35 #[.int .i64 8] w fun e w' => e = .returned (.func (.func 89) #[] #[]) ∧ Below w.heap.size w w' := by
  go_enter Tryz.func35, Tryz.ntmps35
  go_wp2_with fail
  refine (jumps_any _).mono ?_
  rintro e w1 ⟨r, rfl, hown, hb⟩
  have hl := (jumps_at hown).2.2.2.2.2.1
  have HB := Lib.hid hb; clear hown hb
  go_wp2
  go_ret
  exact ⟨rfl, HB.out⟩
theorem mo9 (w : World) : Calls Tryz.prog 35 #[.int .i64 9] w fun e w' => e = .returned (.func (.func 90) #[] #[]) ∧ Below w.heap.size w w' := by
  go_enter Tryz.func35, Tryz.ntmps35
  go_wp2_with fail
  refine (jumps_any _).mono ?_
  rintro e w1 ⟨r, rfl, hown, hb⟩
  have hl := (jumps_at hown).2.2.2.2.2.2.1
  have HB := Lib.hid hb; clear hown hb
  go_wp2
  go_ret
  exact ⟨rfl, HB.out⟩
theorem mo10 (w : World) : Calls Tryz.prog 35 #[.int .i64 10] w fun e w' => e = .returned (.func (.func 91) #[] #[]) ∧ Below w.heap.size w w' := by
  go_enter Tryz.func35, Tryz.ntmps35
  go_wp2_with fail
  refine (jumps_any _).mono ?_
  rintro e w1 ⟨r, rfl, hown, hb⟩
  have hl := (jumps_at hown).2.2.2.2.2.2.2
  have HB := Lib.hid hb; clear hown hb
  go_wp2
  go_ret
  exact ⟨rfl, HB.out⟩
theorem mo11 (w : World) : Calls Tryz.prog 35 #[.int .i64 11] w fun e w' => e = .returned (.func (.func 92) #[] #[]) ∧ Below w.heap.size w w' := by
  go_enter Tryz.func35, Tryz.ntmps35
  go_wp2_with fail
  refine (accesses_any _).mono ?_
  rintro e w1 ⟨r, rfl, hown, hb⟩
  have hl := (accesses_at hown).1
  have HB := Lib.hid hb; clear hown hb
  go_wp2
  go_ret
  exact ⟨rfl, HB.out⟩
theorem mo12 (w : World) : Calls Tryz.prog 35 #[.int .i64 12] w fun e w' => e = .returned (.func (.func 95) #[] #[]) ∧ Below w.heap.size w w' := by
  go_enter Tryz.func35, Tryz.ntmps35
  go_wp2_with fail
  refine (accesses_any _).mono ?_
  rintro e w1 ⟨r, rfl, hown, hb⟩
  have hl := (accesses_at hown).2.1
  have HB := Lib.hid hb; clear hown hb
  go_wp2
  go_ret
  exact ⟨rfl, HB.out⟩
theorem mo13 (w : World) : Calls Tryz.prog 35 #[.int .i64 13] w fun e w' => e = .returned (.func (.func 96) #[] #[]) ∧ Below w.heap.size w w' := by
  go_enter Tryz.func35, Tryz.ntmps35
  go_wp2_with fail
  refine (accesses_any _).mono ?_
  rintro e w1 ⟨r, rfl, hown, hb⟩
  have hl := (accesses_at hown).2.2.1
  have HB := Lib.hid hb; clear hown hb
  go_wp2
  go_ret
  exact ⟨rfl, HB.out⟩
theorem mo14 (w : World) : Calls Tryz.prog 35 #[.int .i64 14] w fun e w' => e = .returned (.func (.func 97) #[] #[]) ∧ Below w.heap.size w w' := by
  go_enter Tryz.func35, Tryz.ntmps35
  go_wp2_with fail
  refine (accesses_any _).mono ?_
  rintro e w1 ⟨r, rfl, hown, hb⟩
  have hl := (accesses_at hown).2.2.2.1
  have HB := Lib.hid hb; clear hown hb
  go_wp2
  go_ret
  exact ⟨rfl, HB.out⟩
theorem mo15 (w : World) : Calls Tryz.prog 35 #[.int .i64 15] w fun e w' => e = .returned (.func (.func 98) #[] #[]) ∧ Below w.heap.size w w' := by
  go_enter Tryz.func35, Tryz.ntmps35
  go_wp2_with fail
  refine (accesses_any _).mono ?_
  rintro e w1 ⟨r, rfl, hown, hb⟩
  have hl := (accesses_at hown).2.2.2.2.1
  have HB := Lib.hid hb; clear hown hb
  go_wp2
  go_ret
  exact ⟨rfl, HB.out⟩
theorem mo16 (w : World) : Calls Tryz.prog 35 #[.int .i64 16] w fun e w' => e = .returned (.func (.func 99) #[] #[]) ∧ Below w.heap.size w w' := by
  go_enter Tryz.func35, Tryz.ntmps35
  go_wp2_with fail
  refine (accesses_any _).mono ?_
  rintro e w1 ⟨r, rfl, hown, hb⟩
  have hl := (accesses_at hown).2.2.2.2.2.1
  have HB := Lib.hid hb; clear hown hb
  go_wp2
  go_ret
  exact ⟨rfl, HB.out⟩
theorem mo17 (w : World) : Calls Tryz.prog 35 #[.int .i64 17] w fun e w' => e = .returned (.func (.func 101) #[] #[]) ∧ Below w.heap.size w w' := by
  go_enter Tryz.func35, Tryz.ntmps35
  go_wp2_with fail
  refine (accesses_any _).mono ?_
  rintro e w1 ⟨r, rfl, hown, hb⟩
  have hl := (accesses_at hown).2.2.2.2.2.2.1
  have HB := Lib.hid hb; clear hown hb
  go_wp2
  go_ret
  exact ⟨rfl, HB.out⟩
theorem mo18 (w : World) : Calls Tryz.prog 35 #[.int .i64 18] w fun e w' => e = .returned (.func (.func 102) #[] #[]) ∧ Below w.heap.size w w' := by
  go_enter Tryz.func35, Tryz.ntmps35
  go_wp2_with fail
  refine (accesses_any _).mono ?_
  rintro e w1 ⟨r, rfl, hown, hb⟩
  have hl := (accesses_at hown).2.2.2.2.2.2.2
  have HB := Lib.hid hb; clear hown hb
  go_wp2
  go_ret
  exact ⟨rfl, HB.out⟩
theorem mo19 (w : World) : Calls Tryz.prog 35 #[.int .i64 19] w fun e w' => e = .returned (.func (.func 103) #[] #[]) ∧ Below w.heap.size w w' := by
  go_enter Tryz.func35, Tryz.ntmps35
  go_wp2_with fail
  refine (withImms_any _).mono ?_
  rintro e w1 ⟨r, rfl, hown, hb⟩
  have hl := (withImms_at hown).1
  have HB := Lib.hid hb; clear hown hb
  go_wp2
  go_ret
  exact ⟨rfl, HB.out⟩
end Go.Proofs.YtccacgknmddanaaGreatDoor
