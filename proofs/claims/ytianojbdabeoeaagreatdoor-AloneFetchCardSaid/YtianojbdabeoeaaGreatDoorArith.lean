/-
  The contracts of the program's layer 1 (package arith): each function, called with any words, tells what Math says; of memory nothing that stood there turns.
-/
import Derived.Test.YtianojbdabeoeaaGreatDoorProg
import Derived.Test.YtianojbdabeoeaaGreatDoorMath
import Derived.WalkKit
import Derived.WalkSpells
import Derived.WalkLawsBesides
import Derived.Handy
import Derived.Lib.Hide
namespace Go.Proofs.YtianojbdabeoeaaGreatDoor
open Go.RowKit

theorem ret_int {k : IntKind} {a b : Int} (h : a = b) : Ending.returned (.int k a) = .returned (.int k b) := by rw [h]

theorem add_any (a b : Int) (w : World) :
    Calls Tryz.prog 133 #[.int .u32 a, .int .u32 b] w fun e w' => e = .returned (.int .u32 (Ar.add a b)) ∧ w = w' := by
  go_enter Tryz.func133, Tryz.ntmps133
  go_wp2
  go_ret
  exact ⟨rfl, rfl⟩
theorem sub_any (a b : Int) (w : World) :
    Calls Tryz.prog 148 #[.int .u32 a, .int .u32 b] w fun e w' => e = .returned (.int .u32 (Ar.sub a b)) ∧ w = w' := by
  go_enter Tryz.func148, Tryz.ntmps148
  go_wp2
  go_ret
  exact ⟨rfl, rfl⟩

theorem i64_of (a : Int) (h : -9223372036854775808 ≤ a ∧ a ≤ 9223372036854775807) : wrap64 a = a := by unfold wrap64; omega

theorem halves_uu (a b : Int) (ha : Ar.Wd a) (hb : Ar.Wd b) (w : World) :
    Calls Tryz.prog 209 #[.int .u32 a, .int .u32 b] w fun e w' => e = .returned (.agg #[.int .u32 (Ar.lo (a * b)), .int .u32 (Ar.hi (a * b))]) ∧ ∃ c t, w' = w.alloc (.cells c t) := by
  unfold Ar.Wd at ha hb
  go_enter Tryz.func209, Tryz.ntmps209
  go_wp2
  refine bodyPost_ret (v := .agg #[.int .u32 (Ar.lo (a * b)), .int .u32 (Ar.hi (a * b))]) (by simp [results, Tryz.results209, go_sem, Ar.lo_of, Ar.hi_of]) rfl ⟨rfl, _, _, rfl⟩
theorem halves_ss (a b : Int) (ha : -2147483648 ≤ a ∧ a ≤ 2147483647) (hb : -2147483648 ≤ b ∧ b ≤ 2147483647) (w : World) :
    Calls Tryz.prog 210 #[.int .i32 a, .int .i32 b] w fun e w' => e = .returned (.agg #[.int .u32 (Ar.lo (a * b)), .int .u32 (Ar.hi (a * b))]) ∧ ∃ c t, w' = w.alloc (.cells c t) := by
  go_enter Tryz.func210, Tryz.ntmps210
  go_wp2
  refine bodyPost_ret (v := .agg #[.int .u32 (Ar.lo (a * b)), .int .u32 (Ar.hi (a * b))]) (by simp [results, Tryz.results210, go_sem, Ar.lo_of, Ar.hi_of]) rfl ⟨rfl, _, _, rfl⟩
theorem halves_su (a b : Int) (ha : -2147483648 ≤ a ∧ a ≤ 2147483647) (hb : Ar.Wd b) (w : World) :
    Calls Tryz.prog 211 #[.int .i32 a, .int .u32 b] w fun e w' => e = .returned (.agg #[.int .u32 (Ar.lo (a * b)), .int .u32 (Ar.hi (a * b))]) ∧ ∃ c t, w' = w.alloc (.cells c t) := by
  unfold Ar.Wd at hb
  go_enter Tryz.func211, Tryz.ntmps211
  go_wp2
  refine bodyPost_ret (v := .agg #[.int .u32 (Ar.lo (a * b)), .int .u32 (Ar.hi (a * b))]) (by simp [results, Tryz.results211, go_sem, Ar.lo_of, Ar.hi_of]) rfl ⟨rfl, _, _, rfl⟩

theorem index0 (x y : Value) (w : World) : (Instr.index 197 (.agg #[x, y]) (.int .i64 0)).run Tryz.prog w = .ok x w := by kernel_rfl
theorem index1 (x y : Value) (w : World) : (Instr.index 197 (.agg #[x, y]) (.int .i64 1)).run Tryz.prog w = .ok y w := by kernel_rfl

theorem mul_any (a b : Int) (ha : Ar.Wd a) (hb : Ar.Wd b) (w : World) :
    Calls Tryz.prog 158 #[.int .u32 a, .int .u32 b] w fun e w' => e = .returned (.int .u32 (Ar.mul a b)) ∧ ∃ c t, w' = w.alloc (.cells c t) := by
  have hA := Lib.hid ha; have hB := Lib.hid hb; clear ha hb
  have hi := index0
  go_enter Tryz.func158, Tryz.ntmps158
  go_wp2_with (go_at_call 209; refine (halves_uu _ _ hA.out hB.out _).mono ?_; rintro e w' ⟨rfl, c, t, rfl⟩)
  go_ret
  exact ⟨rfl, _, _, rfl⟩
theorem mulhu_any (a b : Int) (ha : Ar.Wd a) (hb : Ar.Wd b) (w : World) :
    Calls Tryz.prog 164 #[.int .u32 a, .int .u32 b] w fun e w' => e = .returned (.int .u32 (Ar.mulhu a b)) ∧ ∃ c t, w' = w.alloc (.cells c t) := by
  have hA := Lib.hid ha; have hB := Lib.hid hb; clear ha hb
  have hi := index1
  go_enter Tryz.func164, Tryz.ntmps164
  go_wp2_with (go_at_call 209; refine (halves_uu _ _ hA.out hB.out _).mono ?_; rintro e w' ⟨rfl, c, t, rfl⟩)
  go_ret
  exact ⟨rfl, _, _, rfl⟩
theorem mulh_any (a b : Int) (ha : Ar.Wd a) (hb : Ar.Wd b) (w : World) :
    Calls Tryz.prog 160 #[.int .u32 a, .int .u32 b] w fun e w' => e = .returned (.int .u32 (Ar.mulh a b)) ∧ ∃ c t, w' = w.alloc (.cells c t) := by
  have hA := Lib.hid ha; have hB := Lib.hid hb; clear ha hb
  have ea := Lib.hid (Ar.wrap32_sg hA.out)
  have eb := Lib.hid (Ar.wrap32_sg hB.out)
  have hi := index1
  go_enter Tryz.func160, Tryz.ntmps160
  go_wp2_with fail
  rw [ea.out, eb.out]
  refine (halves_ss _ _ (Ar.sg_bd hA.out) (Ar.sg_bd hB.out) _).mono ?_
  rintro e w' ⟨rfl, c, t, rfl⟩
  go_wp2
  go_ret
  exact ⟨rfl, _, _, rfl⟩
theorem mulhsu_any (a b : Int) (ha : Ar.Wd a) (hb : Ar.Wd b) (w : World) :
    Calls Tryz.prog 162 #[.int .u32 a, .int .u32 b] w fun e w' => e = .returned (.int .u32 (Ar.mulhsu a b)) ∧ ∃ c t, w' = w.alloc (.cells c t) := by
  have hA := Lib.hid ha; have hB := Lib.hid hb; clear ha hb
  have ea := Lib.hid (Ar.wrap32_sg hA.out)
  have hi := index1
  go_enter Tryz.func162, Tryz.ntmps162
  go_wp2_with fail
  rw [ea.out]
  refine (halves_su _ _ (Ar.sg_bd hA.out) hB.out _).mono ?_
  rintro e w' ⟨rfl, c, t, rfl⟩
  go_wp2
  go_ret
  exact ⟨rfl, _, _, rfl⟩

theorem shl_any (a b : Int) (hb : Ar.Wd b) (w : World) :
    Calls Tryz.prog 141 #[.int .u32 a, .int .u32 b] w fun e w' => e = .returned (.int .u32 (Ar.shl a b)) ∧ w = w' := by
  unfold Ar.Wd at hb
  go_enter Tryz.func141, Tryz.ntmps141
  go_wp2
  go_ret
  exact ⟨rfl, rfl⟩
theorem shr_any (a b : Int) (hb : Ar.Wd b) (w : World) :
    Calls Tryz.prog 143 #[.int .u32 a, .int .u32 b] w fun e w' => e = .returned (.int .u32 (Ar.shr a b)) ∧ w = w' := by
  unfold Ar.Wd at hb
  go_enter Tryz.func143, Tryz.ntmps143
  go_wp2
  go_ret
  exact ⟨rfl, rfl⟩
theorem sar_any (a b : Int) (ha : Ar.Wd a) (hb : Ar.Wd b) (w : World) :
    Calls Tryz.prog 145 #[.int .u32 a, .int .u32 b] w fun e w' => e = .returned (.int .u32 (Ar.sar a b)) ∧ w = w' := by
  have ea := Lib.hid (Ar.wrap32_sg ha)
  unfold Ar.Wd at ha hb
  go_enter Tryz.func145, Tryz.ntmps145
  go_wp2
  go_ret
  exact ⟨ret_int (by simp only [Ar.sar, ← ea.out]; rfl), rfl⟩
theorem less_any (a b : Int) (ha : Ar.Wd a) (hb : Ar.Wd b) (w : World) :
    Calls Tryz.prog 116 #[.int .u32 a, .int .u32 b] w fun e w' => e = .returned (.bool (Ar.less a b)) ∧ w = w' := by
  have ea := Lib.hid (Ar.wrap32_sg ha)
  have eb := Lib.hid (Ar.wrap32_sg hb)
  unfold Ar.Wd at ha hb
  go_enter Tryz.func116, Tryz.ntmps116
  go_wp2
  go_ret
  exact ⟨by simp only [Ar.less, ← ea.out, ← eb.out]; rfl, rfl⟩
theorem lessu_any (a b : Int) (w : World) :
    Calls Tryz.prog 119 #[.int .u32 a, .int .u32 b] w fun e w' => e = .returned (.bool (Ar.lessu a b)) ∧ w = w' := by
  go_enter Tryz.func119, Tryz.ntmps119
  go_wp2
  go_ret
  exact ⟨rfl, rfl⟩
end Go.Proofs.YtianojbdabeoeaaGreatDoor
