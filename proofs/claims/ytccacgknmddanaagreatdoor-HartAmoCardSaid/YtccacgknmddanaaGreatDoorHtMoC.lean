/-
  Each Op's meaning, by number.
-/
import Derived.Test.YtccacgknmddanaaGreatDoorHtMapA
import Derived.Test.YtccacgknmddanaaGreatDoorHtMapB
namespace Go.Proofs.YtccacgknmddanaaGreatDoor
open Go.RowKit Go.Maps
set_option linter.unusedVariables false
theorem mo40 (w : World) : Calls Tryz.prog 35 #[.int .i64 40] w fun e w' => e = .returned (.func (.func 127) #[] #[]) ∧ Below w.heap.size w w' := by
  go_enter Tryz.func35, Tryz.ntmps35
  go_wp2_with fail
  refine (products_any _).mono ?_
  rintro e w1 ⟨r, rfl, hown, hb⟩
  have hl := (products_at hown).1
  have HB := Lib.hid hb; clear hown hb
  go_wp2
  go_ret
  exact ⟨rfl, HB.out⟩
theorem mo41 (w : World) : Calls Tryz.prog 35 #[.int .i64 41] w fun e w' => e = .returned (.func (.func 129) #[] #[]) ∧ Below w.heap.size w w' := by
  go_enter Tryz.func35, Tryz.ntmps35
  go_wp2_with fail
  refine (products_any _).mono ?_
  rintro e w1 ⟨r, rfl, hown, hb⟩
  have hl := (products_at hown).2.1
  have HB := Lib.hid hb; clear hown hb
  go_wp2
  go_ret
  exact ⟨rfl, HB.out⟩
theorem mo42 (w : World) : Calls Tryz.prog 35 #[.int .i64 42] w fun e w' => e = .returned (.func (.func 131) #[] #[]) ∧ Below w.heap.size w w' := by
  go_enter Tryz.func35, Tryz.ntmps35
  go_wp2_with fail
  refine (products_any _).mono ?_
  rintro e w1 ⟨r, rfl, hown, hb⟩
  have hl := (products_at hown).2.2.1
  have HB := Lib.hid hb; clear hown hb
  go_wp2
  go_ret
  exact ⟨rfl, HB.out⟩
theorem mo43 (w : World) : Calls Tryz.prog 35 #[.int .i64 43] w fun e w' => e = .returned (.func (.func 133) #[] #[]) ∧ Below w.heap.size w w' := by
  go_enter Tryz.func35, Tryz.ntmps35
  go_wp2_with fail
  refine (products_any _).mono ?_
  rintro e w1 ⟨r, rfl, hown, hb⟩
  have hl := (products_at hown).2.2.2.1
  have HB := Lib.hid hb; clear hown hb
  go_wp2
  go_ret
  exact ⟨rfl, HB.out⟩
theorem mo44 (w : World) : Calls Tryz.prog 35 #[.int .i64 44] w fun e w' => e = .returned (.func (.func 135) #[] #[]) ∧ Below w.heap.size w w' := by
  go_enter Tryz.func35, Tryz.ntmps35
  go_wp2_with fail
  refine (products_any _).mono ?_
  rintro e w1 ⟨r, rfl, hown, hb⟩
  have hl := (products_at hown).2.2.2.2.1
  have HB := Lib.hid hb; clear hown hb
  go_wp2
  go_ret
  exact ⟨rfl, HB.out⟩
theorem mo45 (w : World) : Calls Tryz.prog 35 #[.int .i64 45] w fun e w' => e = .returned (.func (.func 137) #[] #[]) ∧ Below w.heap.size w w' := by
  go_enter Tryz.func35, Tryz.ntmps35
  go_wp2_with fail
  refine (products_any _).mono ?_
  rintro e w1 ⟨r, rfl, hown, hb⟩
  have hl := (products_at hown).2.2.2.2.2.1
  have HB := Lib.hid hb; clear hown hb
  go_wp2
  go_ret
  exact ⟨rfl, HB.out⟩
theorem mo46 (w : World) : Calls Tryz.prog 35 #[.int .i64 46] w fun e w' => e = .returned (.func (.func 139) #[] #[]) ∧ Below w.heap.size w w' := by
  go_enter Tryz.func35, Tryz.ntmps35
  go_wp2_with fail
  refine (products_any _).mono ?_
  rintro e w1 ⟨r, rfl, hown, hb⟩
  have hl := (products_at hown).2.2.2.2.2.2.1
  have HB := Lib.hid hb; clear hown hb
  go_wp2
  go_ret
  exact ⟨rfl, HB.out⟩
theorem mo47 (w : World) : Calls Tryz.prog 35 #[.int .i64 47] w fun e w' => e = .returned (.func (.func 141) #[] #[]) ∧ Below w.heap.size w w' := by
  go_enter Tryz.func35, Tryz.ntmps35
  go_wp2_with fail
  refine (products_any _).mono ?_
  rintro e w1 ⟨r, rfl, hown, hb⟩
  have hl := (products_at hown).2.2.2.2.2.2.2
  have HB := Lib.hid hb; clear hown hb
  go_wp2
  go_ret
  exact ⟨rfl, HB.out⟩
theorem mo48 (w : World) : Calls Tryz.prog 35 #[.int .i64 48] w fun e w' => e = .returned (.func (.func 147) #[] #[]) ∧ Below w.heap.size w w' := by
  go_enter Tryz.func35, Tryz.ntmps35
  go_wp2_with fail
  refine (others_any _).mono ?_
  rintro e w1 ⟨r, rfl, hown, hb⟩
  have hl := (others_at hown).2.2.2.2.1
  have HB := Lib.hid hb; clear hown hb
  go_wp2
  go_ret
  exact ⟨rfl, HB.out⟩
theorem mo49 (w : World) : Calls Tryz.prog 35 #[.int .i64 49] w fun e w' => e = .returned (.func (.func 149) #[] #[]) ∧ Below w.heap.size w w' := by
  go_enter Tryz.func35, Tryz.ntmps35
  go_wp2_with fail
  refine (others_any _).mono ?_
  rintro e w1 ⟨r, rfl, hown, hb⟩
  have hl := (others_at hown).2.2.2.2.2.1
  have HB := Lib.hid hb; clear hown hb
  go_wp2
  go_ret
  exact ⟨rfl, HB.out⟩
theorem mo50 (w : World) : Calls Tryz.prog 35 #[.int .i64 50] w fun e w' => e = .returned (.func (.func 65) #[] #[]) ∧ Below w.heap.size w w' := by
  go_enter Tryz.func35, Tryz.ntmps35
  go_wp2
  go_ret
  exact ⟨rfl, Below.refl _ _⟩
theorem mo51 (w : World) : Calls Tryz.prog 35 #[.int .i64 51] w fun e w' => e = .returned (.func (.func 65) #[] #[]) ∧ Below w.heap.size w w' := by
  go_enter Tryz.func35, Tryz.ntmps35
  go_wp2
  go_ret
  exact ⟨rfl, Below.refl _ _⟩
theorem mo52 (w : World) : Calls Tryz.prog 35 #[.int .i64 52] w fun e w' => e = .returned (.func (.func 65) #[] #[]) ∧ Below w.heap.size w w' := by
  go_enter Tryz.func35, Tryz.ntmps35
  go_wp2
  go_ret
  exact ⟨rfl, Below.refl _ _⟩
theorem mo53 (w : World) : Calls Tryz.prog 35 #[.int .i64 53] w fun e w' => e = .returned (.func (.func 65) #[] #[]) ∧ Below w.heap.size w w' := by
  go_enter Tryz.func35, Tryz.ntmps35
  go_wp2
  go_ret
  exact ⟨rfl, Below.refl _ _⟩
theorem mo54 (w : World) : Calls Tryz.prog 35 #[.int .i64 54] w fun e w' => e = .returned (.func (.func 65) #[] #[]) ∧ Below w.heap.size w w' := by
  go_enter Tryz.func35, Tryz.ntmps35
  go_wp2
  go_ret
  exact ⟨rfl, Below.refl _ _⟩
theorem mo55 (w : World) : Calls Tryz.prog 35 #[.int .i64 55] w fun e w' => e = .returned (.func (.func 65) #[] #[]) ∧ Below w.heap.size w w' := by
  go_enter Tryz.func35, Tryz.ntmps35
  go_wp2
  go_ret
  exact ⟨rfl, Below.refl _ _⟩
theorem mo56 (w : World) : Calls Tryz.prog 35 #[.int .i64 56] w fun e w' => e = .returned (.func (.func 65) #[] #[]) ∧ Below w.heap.size w w' := by
  go_enter Tryz.func35, Tryz.ntmps35
  go_wp2
  go_ret
  exact ⟨rfl, Below.refl _ _⟩
theorem mo57 (w : World) : Calls Tryz.prog 35 #[.int .i64 57] w fun e w' => e = .returned (.func (.func 65) #[] #[]) ∧ Below w.heap.size w w' := by
  go_enter Tryz.func35, Tryz.ntmps35
  go_wp2
  go_ret
  exact ⟨rfl, Below.refl _ _⟩
theorem mo58 (w : World) : Calls Tryz.prog 35 #[.int .i64 58] w fun e w' => e = .returned (.func (.func 65) #[] #[]) ∧ Below w.heap.size w w' := by
  go_enter Tryz.func35, Tryz.ntmps35
  go_wp2
  go_ret
  exact ⟨rfl, Below.refl _ _⟩
theorem mo59 (w : World) : Calls Tryz.prog 35 #[.int .i64 59] w fun e w' => e = .returned (.func (.func 150) #[] #[]) ∧ Below w.heap.size w w' := by
  go_enter Tryz.func35, Tryz.ntmps35
  go_wp2_with fail
  refine (others_any _).mono ?_
  rintro e w1 ⟨r, rfl, hown, hb⟩
  have hl := (others_at hown).2.2.2.2.2.2
  have HB := Lib.hid hb; clear hown hb
  go_wp2
  go_ret
  exact ⟨rfl, HB.out⟩
end Go.Proofs.YtccacgknmddanaaGreatDoor
