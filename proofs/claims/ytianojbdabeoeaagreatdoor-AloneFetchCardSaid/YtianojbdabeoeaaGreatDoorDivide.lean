/-
  The contract of the program's divide: told by sizes and signs.
-/
import Derived.Test.YtianojbdabeoeaaGreatDoorArith
import Derived.Deep.QuietTactic
import Derived.BigQuiet
namespace Go.Proofs.YtianojbdabeoeaaGreatDoor
open Go.RowKit

theorem word_parts_any (a : Int) (w : World) :
    Calls Tryz.prog 214 #[.int .u32 a] w fun e w' => e = .returned (.tuple #[.int .u32 a, .bool false]) ∧ w = w' := by
  go_enter Tryz.func214, Tryz.ntmps214
  go_wp2
  go_ret2
  exact ⟨rfl, rfl⟩
theorem signed_parts_pos (a : Int) (h0 : 0 ≤ a) (h : a < 2147483648) (w : World) :
    Calls Tryz.prog 213 #[.int .u32 a] w fun e w' => e = .returned (.tuple #[.int .u32 a, .bool false]) ∧ w = w' := by
  go_enter Tryz.func213, Tryz.ntmps213
  go_wp2
  go_ret2
  exact ⟨rfl, rfl⟩
theorem signed_parts_neg (a : Int) (h : 2147483648 ≤ a) (h1 : a ≤ 4294967295) (w : World) :
    Calls Tryz.prog 213 #[.int .u32 a] w fun e w' => e = .returned (.tuple #[.int .u32 (4294967296 - a), .bool true]) ∧ w = w' := by
  have e1 : wrap32 a < 0 := by unfold wrap32; omega
  have e2 := Lib.hid (show -(wrap32 a % 4294967296) % 4294967296 = 4294967296 - a by unfold wrap32; omega)
  go_enter Tryz.func213, Tryz.ntmps213
  go_wp2
  go_ret2
  exact ⟨by rw [← e2.out]; rfl, rfl⟩

set_option maxHeartbeats 4000000 in
theorem divide_gen (F : Nat) (hF : F = 213 ∨ F = 214) (a b sa sb : Int) (ma mb : Bool) (hb : 1 ≤ b)
    (hA : ∀ w, Calls Tryz.prog F #[.int .u32 a] w fun e w' => e = .returned (.tuple #[.int .u32 sa, .bool ma]) ∧ w = w')
    (hB : ∀ w, Calls Tryz.prog F #[.int .u32 b] w fun e w' => e = .returned (.tuple #[.int .u32 sb, .bool mb]) ∧ w = w')
    (s0 : 0 ≤ sa ∧ sa ≤ 4294967295) (s1 : 1 ≤ sb ∧ sb ≤ 4294967295) (w : World) :
    Calls Tryz.prog 212 #[.int .u32 a, .int .u32 b, .func (.func F) #[] #[]] w fun e w' => e = .returned (.tuple #[.int .u32 (if ma = mb then sa / sb else -(sa / sb) % 4294967296), .int .u32 (if ma then -(sa % sb) % 4294967296 else sa % sb)]) ∧ ∃ n, w' = w.drewN n := by
  have hb0 : (b == 0) = false := by simp; omega
  have HA := Lib.hid hA; have HB := Lib.hid hB; clear hA hB
  have d0 : 0 ≤ sa / sb := Int.ediv_nonneg s0.1 (by omega)
  have d1 : sa / sb ≤ sa := Int.ediv_le_self _ s0.1
  have m0 : 0 ≤ sa % sb := Int.emod_nonneg _ (by omega)
  have m1 : sa % sb < sb := Int.emod_lt_of_pos _ (by omega)
  rcases hF with rfl | rfl <;> cases ma <;> cases mb
  all_goals
    go_enter Tryz.func212, Tryz.ntmps212
    go_wp2_with fail
    refine (HA.out _).mono ?_
    rintro e w' ⟨rfl, rfl⟩
    go_wp2_with fail
    refine (HB.out _).mono ?_
    rintro e w' ⟨rfl, rfl⟩
    go_wp2
    go_quiet (fail)
    go_wp2
    go_ret2
    exact ⟨rfl, _, rfl⟩

end Go.Proofs.YtianojbdabeoeaaGreatDoor
