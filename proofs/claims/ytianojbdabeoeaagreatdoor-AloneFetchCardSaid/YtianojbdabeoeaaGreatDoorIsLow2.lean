/-
  More of the program's smallest functions of layer 3.
-/
import Derived.Test.YtianojbdabeoeaaGreatDoorIsLow
import Derived.Test.YtianojbdabeoeaaGreatDoorIsParts
namespace Go.Proofs.YtianojbdabeoeaaGreatDoor
open Go.RowKit
set_option linter.unusedVariables false
theorem below_drewN {B n : Nat} {a w : World} (h : Below B a w) : Below B a (w.drewN n) := ⟨h.os, h.tape, h.output, h.size, h.block⟩
theorem register_any (n : Int) (w : World) (h : -9223372036854775808 ≤ n ∧ n ≤ 9223372036854775807) :
    Calls Tryz.prog 202 #[.int .i64 n] w fun e w' => e = .returned (.int .u32 (n % 32)) ∧ w' = w.alloc (.cells #[.int .u32 (n % 4294967296)] 22) := by
  have hx : Is.Wd (n % 4294967296) := by unfold Is.Wd; omega
  have HX := Lib.hid hx; clear hx
  go_enter Tryz.func202, Tryz.ntmps202
  go_wp2_with (first
    | (go_at_call 201; refine (bitsOf_any (n % 4294967296) _).mono ?_; rintro e w' ⟨rfl, rfl⟩)
    | (go_at_call 256; refine (bits1_any (n % 4294967296) _ _ _ _ (by decide) (by decide) (by decide) HX.out ?_).mono ?_; (· go_simp); rintro e w' ⟨rfl, rfl⟩))
  go_ret
  exact ⟨ret_int (by rw [Is.bt_4_0]; omega), rfl⟩
theorem bit_any (b : Bool) (w : World) :
    Calls Tryz.prog 203 #[.bool b] w fun e w' => e = .returned (.int .u32 (Is.b01 b)) ∧ w = w' := by
  cases b
  all_goals
    go_enter Tryz.func203, Tryz.ntmps203
    go_wp2
    go_ret
    exact ⟨rfl, rfl⟩
theorem opcodeOf_any (x : Int) (w : World) (hx : Is.Wd x) :
    Calls Tryz.prog 200 #[.int .u32 x] w fun e w' => e = .returned (.int .u32 (x % 128)) ∧ w' = w.alloc (.cells #[.int .u32 x] 22) := by
  have HX := Lib.hid hx; clear hx
  go_enter Tryz.func200, Tryz.ntmps200
  go_wp2_with (first
    | (go_at_call 201; refine (bitsOf_any x _).mono ?_; rintro e w' ⟨rfl, rfl⟩)
    | (go_at_call 256; refine (bits1_any x _ _ _ _ (by decide) (by decide) (by decide) HX.out ?_).mono ?_; (· go_simp); rintro e w' ⟨rfl, rfl⟩))
  go_ret
  exact ⟨ret_int (by rw [Is.bt_6_0]), rfl⟩
end Go.Proofs.YtianojbdabeoeaaGreatDoor
