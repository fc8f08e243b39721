/-
  Each Op's meaning, by number.
-/
import Derived.Test.YtccacgknmddanaaGreatDoorHtMapA
import Derived.Test.YtccacgknmddanaaGreatDoorHtMapB
namespace Go.Proofs.YtccacgknmddanaaGreatDoor
open Go.RowKit Go.Maps
set_option linter.unusedVariables false
theorem mo20 (w : World) : Calls Tryz.prog 35 #[.int .i64 20] w fun e w' => e = .returned (.func (.func 104) #[] #[]) ∧ Below w.heap.size w w' := by
  go_enter Tryz.func35, Tryz.ntmps35
  go_wp2_with fail
  refine (withImms_any _).mono ?_
  rintro e w1 ⟨r, rfl, hown, hb⟩
  have hl := (withImms_at hown).2.1
  have HB := Lib.hid hb; clear hown hb
  go_wp2
  go_ret
  exact ⟨rfl, HB.out⟩
theorem mo21 (w : World) : Calls Tryz.prog 35 #[.int .i64 21] w fun e w' => e = .returned (.func (.func 106) #[] #[]) ∧ Below w.heap.size w w' := by
  go_enter Tryz.func35, Tryz.ntmps35
  go_wp2_with fail
  refine (withImms_any _).mono ?_
  rintro e w1 ⟨r, rfl, hown, hb⟩
  have hl := (withImms_at hown).2.2.1
  have HB := Lib.hid hb; clear hown hb
  go_wp2
  go_ret
  exact ⟨rfl, HB.out⟩
theorem mo22 (w : World) : Calls Tryz.prog 35 #[.int .i64 22] w fun e w' => e = .returned (.func (.func 107) #[] #[]) ∧ Below w.heap.size w w' := by
  go_enter Tryz.func35, Tryz.ntmps35
  go_wp2_with fail
  refine (withImms_any _).mono ?_
  rintro e w1 ⟨r, rfl, hown, hb⟩
  have hl := (withImms_at hown).2.2.2.1
  have HB := Lib.hid hb; clear hown hb
  go_wp2
  go_ret
  exact ⟨rfl, HB.out⟩
theorem mo23 (w : World) : Calls Tryz.prog 35 #[.int .i64 23] w fun e w' => e = .returned (.func (.func 108) #[] #[]) ∧ Below w.heap.size w w' := by
  go_enter Tryz.func35, Tryz.ntmps35
  go_wp2_with fail
  refine (withImms_any _).mono ?_
  rintro e w1 ⟨r, rfl, hown, hb⟩
  have hl := (withImms_at hown).2.2.2.2.1
  have HB := Lib.hid hb; clear hown hb
  go_wp2
  go_ret
  exact ⟨rfl, HB.out⟩
theorem mo24 (w : World) : Calls Tryz.prog 35 #[.int .i64 24] w fun e w' => e = .returned (.func (.func 109) #[] #[]) ∧ Below w.heap.size w w' := by
  go_enter Tryz.func35, Tryz.ntmps35
  go_wp2_with fail
  refine (withImms_any _).mono ?_
  rintro e w1 ⟨r, rfl, hown, hb⟩
  have hl := (withImms_at hown).2.2.2.2.2.1
  have HB := Lib.hid hb; clear hown hb
  go_wp2
  go_ret
  exact ⟨rfl, HB.out⟩
theorem mo25 (w : World) : Calls Tryz.prog 35 #[.int .i64 25] w fun e w' => e = .returned (.func (.func 110) #[] #[]) ∧ Below w.heap.size w w' := by
  go_enter Tryz.func35, Tryz.ntmps35
  go_wp2_with fail
  refine (withImms_any _).mono ?_
  rintro e w1 ⟨r, rfl, hown, hb⟩
  have hl := (withImms_at hown).2.2.2.2.2.2.1
  have HB := Lib.hid hb; clear hown hb
  go_wp2
  go_ret
  exact ⟨rfl, HB.out⟩
theorem mo26 (w : World) : Calls Tryz.prog 35 #[.int .i64 26] w fun e w' => e = .returned (.func (.func 112) #[] #[]) ∧ Below w.heap.size w w' := by
  go_enter Tryz.func35, Tryz.ntmps35
  go_wp2_with fail
  refine (withImms_any _).mono ?_
  rintro e w1 ⟨r, rfl, hown, hb⟩
  have hl := (withImms_at hown).2.2.2.2.2.2.2.1
  have HB := Lib.hid hb; clear hown hb
  go_wp2
  go_ret
  exact ⟨rfl, HB.out⟩
theorem mo27 (w : World) : Calls Tryz.prog 35 #[.int .i64 27] w fun e w' => e = .returned (.func (.func 114) #[] #[]) ∧ Below w.heap.size w w' := by
  go_enter Tryz.func35, Tryz.ntmps35
  go_wp2_with fail
  refine (withImms_any _).mono ?_
  rintro e w1 ⟨r, rfl, hown, hb⟩
  have hl := (withImms_at hown).2.2.2.2.2.2.2.2
  have HB := Lib.hid hb; clear hown hb
  go_wp2
  go_ret
  exact ⟨rfl, HB.out⟩
theorem mo28 (w : World) : Calls Tryz.prog 35 #[.int .i64 28] w fun e w' => e = .returned (.func (.func 116) #[] #[]) ∧ Below w.heap.size w w' := by
  go_enter Tryz.func35, Tryz.ntmps35
  go_wp2_with fail
  refine (ofRegisters_any _).mono ?_
  rintro e w1 ⟨r, rfl, hown, hb⟩
  have hl := (ofRegisters_at hown).1
  have HB := Lib.hid hb; clear hown hb
  go_wp2
  go_ret
  exact ⟨rfl, HB.out⟩
theorem mo29 (w : World) : Calls Tryz.prog 35 #[.int .i64 29] w fun e w' => e = .returned (.func (.func 117) #[] #[]) ∧ Below w.heap.size w w' := by
  go_enter Tryz.func35, Tryz.ntmps35
  go_wp2_with fail
  refine (ofRegisters_any _).mono ?_
  rintro e w1 ⟨r, rfl, hown, hb⟩
  have hl := (ofRegisters_at hown).2.1
  have HB := Lib.hid hb; clear hown hb
  go_wp2
  go_ret
  exact ⟨rfl, HB.out⟩
theorem mo30 (w : World) : Calls Tryz.prog 35 #[.int .i64 30] w fun e w' => e = .returned (.func (.func 119) #[] #[]) ∧ Below w.heap.size w w' := by
  go_enter Tryz.func35, Tryz.ntmps35
  go_wp2_with fail
  refine (ofRegisters_any _).mono ?_
  rintro e w1 ⟨r, rfl, hown, hb⟩
  have hl := (ofRegisters_at hown).2.2.1
  have HB := Lib.hid hb; clear hown hb
  go_wp2
  go_ret
  exact ⟨rfl, HB.out⟩
theorem mo31 (w : World) : Calls Tryz.prog 35 #[.int .i64 31] w fun e w' => e = .returned (.func (.func 120) #[] #[]) ∧ Below w.heap.size w w' := by
  go_enter Tryz.func35, Tryz.ntmps35
  go_wp2_with fail
  refine (ofRegisters_any _).mono ?_
  rintro e w1 ⟨r, rfl, hown, hb⟩
  have hl := (ofRegisters_at hown).2.2.2.1
  have HB := Lib.hid hb; clear hown hb
  go_wp2
  go_ret
  exact ⟨rfl, HB.out⟩
theorem mo32 (w : World) : Calls Tryz.prog 35 #[.int .i64 32] w fun e w' => e = .returned (.func (.func 121) #[] #[]) ∧ Below w.heap.size w w' := by
  go_enter Tryz.func35, Tryz.ntmps35
  go_wp2_with fail
  refine (ofRegisters_any _).mono ?_
  rintro e w1 ⟨r, rfl, hown, hb⟩
  have hl := (ofRegisters_at hown).2.2.2.2.1
  have HB := Lib.hid hb; clear hown hb
  go_wp2
  go_ret
  exact ⟨rfl, HB.out⟩
theorem mo33 (w : World) : Calls Tryz.prog 35 #[.int .i64 33] w fun e w' => e = .returned (.func (.func 122) #[] #[]) ∧ Below w.heap.size w w' := by
  go_enter Tryz.func35, Tryz.ntmps35
  go_wp2_with fail
  refine (ofRegisters_any _).mono ?_
  rintro e w1 ⟨r, rfl, hown, hb⟩
  have hl := (ofRegisters_at hown).2.2.2.2.2.1
  have HB := Lib.hid hb; clear hown hb
  go_wp2
  go_ret
  exact ⟨rfl, HB.out⟩
theorem mo34 (w : World) : Calls Tryz.prog 35 #[.int .i64 34] w fun e w' => e = .returned (.func (.func 123) #[] #[]) ∧ Below w.heap.size w w' := by
  go_enter Tryz.func35, Tryz.ntmps35
  go_wp2_with fail
  refine (ofRegisters_any _).mono ?_
  rintro e w1 ⟨r, rfl, hown, hb⟩
  have hl := (ofRegisters_at hown).2.2.2.2.2.2.1
  have HB := Lib.hid hb; clear hown hb
  go_wp2
  go_ret
  exact ⟨rfl, HB.out⟩
theorem mo35 (w : World) : Calls Tryz.prog 35 #[.int .i64 35] w fun e w' => e = .returned (.func (.func 124) #[] #[]) ∧ Below w.heap.size w w' := by
  go_enter Tryz.func35, Tryz.ntmps35
  go_wp2_with fail
  refine (ofRegisters_any _).mono ?_
  rintro e w1 ⟨r, rfl, hown, hb⟩
  have hl := (ofRegisters_at hown).2.2.2.2.2.2.2.1
  have HB := Lib.hid hb; clear hown hb
  go_wp2
  go_ret
  exact ⟨rfl, HB.out⟩
theorem mo36 (w : World) : Calls Tryz.prog 35 #[.int .i64 36] w fun e w' => e = .returned (.func (.func 125) #[] #[]) ∧ Below w.heap.size w w' := by
  go_enter Tryz.func35, Tryz.ntmps35
  go_wp2_with fail
  refine (ofRegisters_any _).mono ?_
  rintro e w1 ⟨r, rfl, hown, hb⟩
  have hl := (ofRegisters_at hown).2.2.2.2.2.2.2.2.1
  have HB := Lib.hid hb; clear hown hb
  go_wp2
  go_ret
  exact ⟨rfl, HB.out⟩
theorem mo37 (w : World) : Calls Tryz.prog 35 #[.int .i64 37] w fun e w' => e = .returned (.func (.func 126) #[] #[]) ∧ Below w.heap.size w w' := by
  go_enter Tryz.func35, Tryz.ntmps35
  go_wp2_with fail
  refine (ofRegisters_any _).mono ?_
  rintro e w1 ⟨r, rfl, hown, hb⟩
  have hl := (ofRegisters_at hown).2.2.2.2.2.2.2.2.2
  have HB := Lib.hid hb; clear hown hb
  go_wp2
  go_ret
  exact ⟨rfl, HB.out⟩
theorem mo38 (w : World) : Calls Tryz.prog 35 #[.int .i64 38] w fun e w' => e = .returned (.func (.func 145) #[] #[]) ∧ Below w.heap.size w w' := by
  go_enter Tryz.func35, Tryz.ntmps35
  go_wp2_with fail
  refine (others_any _).mono ?_
  rintro e w1 ⟨r, rfl, hown, hb⟩
  have hl := (others_at hown).2.2.1
  have HB := Lib.hid hb; clear hown hb
  go_wp2
  go_ret
  exact ⟨rfl, HB.out⟩
theorem mo39 (w : World) : Calls Tryz.prog 35 #[.int .i64 39] w fun e w' => e = .returned (.func (.func 146) #[] #[]) ∧ Below w.heap.size w w' := by
  go_enter Tryz.func35, Tryz.ntmps35
  go_wp2_with fail
  refine (others_any _).mono ?_
  rintro e w1 ⟨r, rfl, hown, hb⟩
  have hl := (others_at hown).2.2.2.1
  have HB := Lib.hid hb; clear hown hb
  go_wp2
  go_ret
  exact ⟨rfl, HB.out⟩
end Go.Proofs.YtccacgknmddanaaGreatDoor
