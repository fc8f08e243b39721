/-
  The contracts of the program's layer 1 (package arith): each function, called with any words, tells what Math says; of memory nothing that stood there turns.
-/
import Derived.Test.YtdabchnfagkemaaProg
import Derived.Test.YtdabchnfagkemaaMath
import Derived.WalkKit
import Derived.WalkSpells
import Derived.WalkLawsBesides
import Derived.Handy
import Derived.Lib.Hide
namespace Go.Proofs.Ytdabchnfagkemaa
open Go.RowKit

theorem ret_int {k : IntKind} {a b : Int} (h : a = b) : Ending.returned (.int k a) = .returned (.int k b) := by rw [h]

theorem add_any (a b : Int) (w : World) :
    Calls Try.prog 12 #[.int .u32 a, .int .u32 b] w fun e w' => e = .returned (.int .u32 (Ar.add a b)) ∧ w = w' := by
  go_enter Try.func12, Try.ntmps12
  go_wp2
  go_ret
  exact ⟨rfl, rfl⟩
theorem sub_any (a b : Int) (w : World) :
    Calls Try.prog 14 #[.int .u32 a, .int .u32 b] w fun e w' => e = .returned (.int .u32 (Ar.sub a b)) ∧ w = w' := by
  go_enter Try.func14, Try.ntmps14
  go_wp2
  go_ret
  exact ⟨rfl, rfl⟩

theorem i64_of (a : Int) (h : -9223372036854775808 ≤ a ∧ a ≤ 9223372036854775807) : wrap64 a = a := by unfold wrap64; omega

theorem halves_uu (a b : Int) (ha : Ar.Wd a) (hb : Ar.Wd b) (w : World) :
    Calls Try.prog 48 #[.int .u32 a, .int .u32 b] w fun e w' => e = .returned (.agg #[.int .u32 (Ar.lo (a * b)), .int .u32 (Ar.hi (a * b))]) ∧ ∃ c t, w' = w.alloc (.cells c t) := by
  unfold Ar.Wd at ha hb
  go_enter Try.func48, Try.ntmps48
  go_wp2
  refine bodyPost_ret (v := .agg #[.int .u32 (Ar.lo (a * b)), .int .u32 (Ar.hi (a * b))]) (by simp [results, Try.results48, go_sem, Ar.lo_of, Ar.hi_of]) rfl ⟨rfl, _, _, rfl⟩
theorem halves_ss (a b : Int) (ha : -2147483648 ≤ a ∧ a ≤ 2147483647) (hb : -2147483648 ≤ b ∧ b ≤ 2147483647) (w : World) :
    Calls Try.prog 49 #[.int .i32 a, .int .i32 b] w fun e w' => e = .returned (.agg #[.int .u32 (Ar.lo (a * b)), .int .u32 (Ar.hi (a * b))]) ∧ ∃ c t, w' = w.alloc (.cells c t) := by
  go_enter Try.func49, Try.ntmps49
  go_wp2
  refine bodyPost_ret (v := .agg #[.int .u32 (Ar.lo (a * b)), .int .u32 (Ar.hi (a * b))]) (by simp [results, Try.results49, go_sem, Ar.lo_of, Ar.hi_of]) rfl ⟨rfl, _, _, rfl⟩
theorem halves_su (a b : Int) (ha : -2147483648 ≤ a ∧ a ≤ 2147483647) (hb : Ar.Wd b) (w : World) :
    Calls Try.prog 51 #[.int .i32 a, .int .u32 b] w fun e w' => e = .returned (.agg #[.int .u32 (Ar.lo (a * b)), .int .u32 (Ar.hi (a * b))]) ∧ ∃ c t, w' = w.alloc (.cells c t) := by
  unfold Ar.Wd at hb
  go_enter Try.func51, Try.ntmps51
  go_wp2
  refine bodyPost_ret (v := .agg #[.int .u32 (Ar.lo (a * b)), .int .u32 (Ar.hi (a * b))]) (by simp [results, Try.results51, go_sem, Ar.lo_of, Ar.hi_of]) rfl ⟨rfl, _, _, rfl⟩

theorem index0 (x y : Value) (w : World) : (Instr.index 33 (.agg #[x, y]) (.int .i64 0)).run Try.prog w = .ok x w := by kernel_rfl
theorem index1 (x y : Value) (w : World) : (Instr.index 33 (.agg #[x, y]) (.int .i64 1)).run Try.prog w = .ok y w := by kernel_rfl

theorem mul_any (a b : Int) (ha : Ar.Wd a) (hb : Ar.Wd b) (w : World) :
    Calls Try.prog 16 #[.int .u32 a, .int .u32 b] w fun e w' => e = .returned (.int .u32 (Ar.mul a b)) ∧ ∃ c t, w' = w.alloc (.cells c t) := by
  have hA := Lib.hid ha; have hB := Lib.hid hb; clear ha hb
  have hi := index0
  go_enter Try.func16, Try.ntmps16
  go_wp2_with (go_at_call 48; refine (halves_uu _ _ hA.out hB.out _).mono ?_; rintro e w' ⟨rfl, c, t, rfl⟩)
  go_ret
  exact ⟨rfl, _, _, rfl⟩
theorem mulhu_any (a b : Int) (ha : Ar.Wd a) (hb : Ar.Wd b) (w : World) :
    Calls Try.prog 21 #[.int .u32 a, .int .u32 b] w fun e w' => e = .returned (.int .u32 (Ar.mulhu a b)) ∧ ∃ c t, w' = w.alloc (.cells c t) := by
  have hA := Lib.hid ha; have hB := Lib.hid hb; clear ha hb
  have hi := index1
  go_enter Try.func21, Try.ntmps21
  go_wp2_with (go_at_call 48; refine (halves_uu _ _ hA.out hB.out _).mono ?_; rintro e w' ⟨rfl, c, t, rfl⟩)
  go_ret
  exact ⟨rfl, _, _, rfl⟩
theorem mulh_any (a b : Int) (ha : Ar.Wd a) (hb : Ar.Wd b) (w : World) :
    Calls Try.prog 19 #[.int .u32 a, .int .u32 b] w fun e w' => e = .returned (.int .u32 (Ar.mulh a b)) ∧ ∃ c t, w' = w.alloc (.cells c t) := by
  have hA := Lib.hid ha; have hB := Lib.hid hb; clear ha hb
  have ea := Lib.hid (Ar.wrap32_sg hA.out)
  have eb := Lib.hid (Ar.wrap32_sg hB.out)
  have hi := index1
  go_enter Try.func19, Try.ntmps19
  go_wp2_with fail
  rw [ea.out, eb.out]
  refine (halves_ss _ _ (Ar.sg_bd hA.out) (Ar.sg_bd hB.out) _).mono ?_
  rintro e w' ⟨rfl, c, t, rfl⟩
  go_wp2
  go_ret
  exact ⟨rfl, _, _, rfl⟩
theorem mulhsu_any (a b : Int) (ha : Ar.Wd a) (hb : Ar.Wd b) (w : World) :
    Calls Try.prog 23 #[.int .u32 a, .int .u32 b] w fun e w' => e = .returned (.int .u32 (Ar.mulhsu a b)) ∧ ∃ c t, w' = w.alloc (.cells c t) := by
  have hA := Lib.hid ha; have hB := Lib.hid hb; clear ha hb
  have ea := Lib.hid (Ar.wrap32_sg hA.out)
  have hi := index1
  go_enter Try.func23, Try.ntmps23
  go_wp2_with fail
  rw [ea.out]
  refine (halves_su _ _ (Ar.sg_bd hA.out) hB.out _).mono ?_
  rintro e w' ⟨rfl, c, t, rfl⟩
  go_wp2
  go_ret
  exact ⟨rfl, _, _, rfl⟩

theorem shl_any (a b : Int) (hb : Ar.Wd b) (w : World) :
    Calls Try.prog 33 #[.int .u32 a, .int .u32 b] w fun e w' => e = .returned (.int .u32 (Ar.shl a b)) ∧ w = w' := by
  unfold Ar.Wd at hb
  go_enter Try.func33, Try.ntmps33
  go_wp2
  go_ret
  exact ⟨rfl, rfl⟩
theorem shr_any (a b : Int) (hb : Ar.Wd b) (w : World) :
    Calls Try.prog 35 #[.int .u32 a, .int .u32 b] w fun e w' => e = .returned (.int .u32 (Ar.shr a b)) ∧ w = w' := by
  unfold Ar.Wd at hb
  go_enter Try.func35, Try.ntmps35
  go_wp2
  go_ret
  exact ⟨rfl, rfl⟩
theorem sar_any (a b : Int) (ha : Ar.Wd a) (hb : Ar.Wd b) (w : World) :
    Calls Try.prog 37 #[.int .u32 a, .int .u32 b] w fun e w' => e = .returned (.int .u32 (Ar.sar a b)) ∧ w = w' := by
  have ea := Lib.hid (Ar.wrap32_sg ha)
  unfold Ar.Wd at ha hb
  go_enter Try.func37, Try.ntmps37
  go_wp2
  go_ret
  exact ⟨ret_int (by simp only [Ar.sar, ← ea.out]; rfl), rfl⟩
theorem less_any (a b : Int) (ha : Ar.Wd a) (hb : Ar.Wd b) (w : World) :
    Calls Try.prog 41 #[.int .u32 a, .int .u32 b] w fun e w' => e = .returned (.bool (Ar.less a b)) ∧ w = w' := by
  have ea := Lib.hid (Ar.wrap32_sg ha)
  have eb := Lib.hid (Ar.wrap32_sg hb)
  unfold Ar.Wd at ha hb
  go_enter Try.func41, Try.ntmps41
  go_wp2
  go_ret
  exact ⟨by simp only [Ar.less, ← ea.out, ← eb.out]; rfl, rfl⟩
theorem lessu_any (a b : Int) (w : World) :
    Calls Try.prog 43 #[.int .u32 a, .int .u32 b] w fun e w' => e = .returned (.bool (Ar.lessu a b)) ∧ w = w' := by
  go_enter Try.func43, Try.ntmps43
  go_wp2
  go_ret
  exact ⟨rfl, rfl⟩
theorem sign_any (a : Int) (ha : Ar.Wd a) (w : World) :
    Calls Try.prog 45 #[.int .u32 a] w fun e w' => e = .returned (.int .i64 (Ar.sg a)) ∧ w = w' := by
  have ea := Lib.hid (Ar.wrap32_sg ha)
  have es := Lib.hid (Ar.sg_bd ha)
  unfold Ar.Wd at ha
  go_enter Try.func45, Try.ntmps45
  go_wp2
  go_ret
  exact ⟨ret_int (by have h1 := ea.out; have h2 := es.out; rw [h1]; exact i64_of _ (by omega)), rfl⟩
end Go.Proofs.Ytdabchnfagkemaa
