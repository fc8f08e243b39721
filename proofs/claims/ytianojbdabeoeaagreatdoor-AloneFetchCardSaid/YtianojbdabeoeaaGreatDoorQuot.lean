/-
  The contracts of the program's quotients and of Extend: as Math says.
-/
import Derived.Test.YtianojbdabeoeaaGreatDoorDivide
namespace Go.Proofs.YtianojbdabeoeaaGreatDoor
open Go.RowKit

theorem divide_zero (F : Nat) (hF : F = 213 ∨ F = 214) (a : Int) (w : World) :
    Calls Tryz.prog 212 #[.int .u32 a, .int .u32 0, .func (.func F) #[] #[]] w fun e w' => e = .returned (.tuple #[.int .u32 4294967295, .int .u32 a]) ∧ ∃ n, w' = w.drewN n := by
  rcases hF with rfl | rfl
  all_goals
    go_enter Tryz.func212, Tryz.ntmps212
    go_wp2
    go_ret2
    exact ⟨rfl, 0, rfl⟩

theorem divide_s (a b : Int) (ha : Ar.Wd a) (hb : Ar.Wd b) (w : World) :
    Calls Tryz.prog 212 #[.int .u32 a, .int .u32 b, .func (.func 213) #[] #[]] w fun e w' => e = .returned (.tuple #[.int .u32 (Ar.div a b), .int .u32 (Ar.rem a b)]) ∧ ∃ n, w' = w.drewN n := by
  obtain ⟨a0, a1⟩ := ha
  obtain ⟨b0, b1⟩ := hb
  by_cases hz : b = 0
  · subst hz
    rw [show Ar.div a 0 = 4294967295 from by unfold Ar.div; rw [if_pos rfl], show Ar.rem a 0 = a from by unfold Ar.rem; rw [if_pos rfl]]
    exact divide_zero _ (.inl rfl) a w
  by_cases ca : a < 2147483648 <;> by_cases cb : b < 2147483648
  · have h := divide_gen _ (.inl rfl) a b a b false false (by omega) (fun w => signed_parts_pos a a0 ca w) (fun w => signed_parts_pos b b0 cb w) ⟨a0, a1⟩ ⟨by omega, b1⟩ w
    rw [← Ar.div_pp a0 (by omega) ca cb, ← Ar.rem_pp a0 (by omega) ca cb]
    exact h
  · have h := divide_gen _ (.inl rfl) a b a (4294967296 - b) false true (by omega) (fun w => signed_parts_pos a a0 ca w) (fun w => signed_parts_neg b (by omega) b1 w) ⟨a0, a1⟩ (by omega) w
    rw [← Ar.div_pn a0 ca (by omega), ← Ar.rem_pn a0 b1 ca (by omega)]
    exact h
  · have h := divide_gen _ (.inl rfl) a b (4294967296 - a) b true false (by omega) (fun w => signed_parts_neg a (by omega) a1 w) (fun w => signed_parts_pos b b0 cb w) (by omega) ⟨by omega, b1⟩ w
    rw [← Ar.div_np a1 (by omega) (by omega) cb, ← Ar.rem_np a1 (by omega) (by omega) cb]
    exact h
  · have h := divide_gen _ (.inl rfl) a b (4294967296 - a) (4294967296 - b) true true (by omega) (fun w => signed_parts_neg a (by omega) a1 w) (fun w => signed_parts_neg b (by omega) b1 w) (by omega) (by omega) w
    rw [← Ar.div_nn a1 b1 (by omega) (by omega), ← Ar.rem_nn a1 (by omega) (by omega)]
    exact h
theorem divide_w (a b : Int) (ha : Ar.Wd a) (hb : Ar.Wd b) (w : World) :
    Calls Tryz.prog 212 #[.int .u32 a, .int .u32 b, .func (.func 214) #[] #[]] w fun e w' => e = .returned (.tuple #[.int .u32 (Ar.divu a b), .int .u32 (Ar.remu a b)]) ∧ ∃ n, w' = w.drewN n := by
  obtain ⟨a0, a1⟩ := ha
  obtain ⟨b0, b1⟩ := hb
  unfold Ar.divu Ar.remu
  by_cases hz : b = 0
  · subst hz
    rw [if_pos rfl, if_pos rfl]
    exact divide_zero _ (.inr rfl) a w
  rw [if_neg hz, if_neg hz]
  exact divide_gen _ (.inr rfl) a b a b false false (by omega) (fun w => word_parts_any a w) (fun w => word_parts_any b w) ⟨a0, a1⟩ ⟨by omega, b1⟩ w

theorem div_any (a b : Int) (ha : Ar.Wd a) (hb : Ar.Wd b) (w : World) :
    Calls Tryz.prog 166 #[.int .u32 a, .int .u32 b] w fun e w' => e = .returned (.int .u32 (Ar.div a b)) ∧ ∃ n, w' = w.drewN n := by
  have hA := Lib.hid ha; have hB := Lib.hid hb; clear ha hb
  go_enter Tryz.func166, Tryz.ntmps166
  go_wp2_with fail
  refine (divide_s a b hA.out hB.out _).mono ?_
  rintro e w' ⟨rfl, n, rfl⟩
  go_wp2
  go_ret
  exact ⟨rfl, _, rfl⟩
theorem divu_any (a b : Int) (ha : Ar.Wd a) (hb : Ar.Wd b) (w : World) :
    Calls Tryz.prog 168 #[.int .u32 a, .int .u32 b] w fun e w' => e = .returned (.int .u32 (Ar.divu a b)) ∧ ∃ n, w' = w.drewN n := by
  have hA := Lib.hid ha; have hB := Lib.hid hb; clear ha hb
  go_enter Tryz.func168, Tryz.ntmps168
  go_wp2_with fail
  refine (divide_w a b hA.out hB.out _).mono ?_
  rintro e w' ⟨rfl, n, rfl⟩
  go_wp2
  go_ret
  exact ⟨rfl, _, rfl⟩
theorem rem_any (a b : Int) (ha : Ar.Wd a) (hb : Ar.Wd b) (w : World) :
    Calls Tryz.prog 170 #[.int .u32 a, .int .u32 b] w fun e w' => e = .returned (.int .u32 (Ar.rem a b)) ∧ ∃ n, w' = w.drewN n := by
  have hA := Lib.hid ha; have hB := Lib.hid hb; clear ha hb
  go_enter Tryz.func170, Tryz.ntmps170
  go_wp2_with fail
  refine (divide_s a b hA.out hB.out _).mono ?_
  rintro e w' ⟨rfl, n, rfl⟩
  go_wp2
  go_ret
  exact ⟨rfl, _, rfl⟩
theorem remu_any (a b : Int) (ha : Ar.Wd a) (hb : Ar.Wd b) (w : World) :
    Calls Tryz.prog 172 #[.int .u32 a, .int .u32 b] w fun e w' => e = .returned (.int .u32 (Ar.remu a b)) ∧ ∃ n, w' = w.drewN n := by
  have hA := Lib.hid ha; have hB := Lib.hid hb; clear ha hb
  go_enter Tryz.func172, Tryz.ntmps172
  go_wp2_with fail
  refine (divide_w a b hA.out hB.out _).mono ?_
  rintro e w' ⟨rfl, n, rfl⟩
  go_wp2
  go_ret
  exact ⟨rfl, _, rfl⟩

theorem extend_any (n b : Int) (hn : Ar.Wd n) (hb : -9223372036854775808 ≤ b ∧ b ≤ 9223372036854775807) (w : World) :
    Calls Tryz.prog 122 #[.int .u32 n, .int .i64 b] w fun e w' => e = .returned (.int .u32 (Ar.ext n b)) ∧ w = w' := by
  have hN := Lib.hid hn; clear hn
  by_cases h : 1 ≤ b ∧ b ≤ 32
  · have he := Lib.hid (Ar.ext_any hN.out h)
    obtain ⟨h1, h2⟩ := h
    clear hb
    go_enter Tryz.func122, Tryz.ntmps122
    go_wp2_with fail
    refine (shl_any n (32 - b) (by unfold Ar.Wd; omega) _).mono ?_
    rintro e w' ⟨rfl, rfl⟩
    go_wp2_with fail
    refine (sar_any _ (32 - b) (Ar.md_wd _) (by unfold Ar.Wd; omega) _).mono ?_
    rintro e w' ⟨rfl, rfl⟩
    go_wp2
    go_ret
    exact ⟨ret_int he.out, rfl⟩
  · have he := Lib.hid (Ar.ext_all hN.out (show b < 1 ∨ 32 < b by omega))
    have h1 : b < 1 ∨ 32 < b := by omega
    clear h
    rcases h1 with h1 | h1
    all_goals
      go_enter Tryz.func122, Tryz.ntmps122
      go_wp2_with fail
      refine (shl_any n 0 (by unfold Ar.Wd; omega) _).mono ?_
      rintro e w' ⟨rfl, rfl⟩
      go_wp2_with fail
      refine (sar_any _ 0 (Ar.md_wd _) (by unfold Ar.Wd; omega) _).mono ?_
      rintro e w' ⟨rfl, rfl⟩
      go_wp2
      go_ret
      exact ⟨ret_int he.out, rfl⟩
end Go.Proofs.YtianojbdabeoeaaGreatDoor
