/-
  The document's own answers of layer 3, their smallest functions: pow, bits, Signed, Word, sign, Form, opcode, f3, f7.
-/
import Derived.Test.YtianojbdabeoeaaGreatDoorIsLow2
import Derived.StillTailTactics
namespace Go.Proofs.YtianojbdabeoeaaGreatDoor
open Go.RowKit
set_option linter.unusedVariables false
set_option linter.unusedSimpArgs false
namespace Is
def pw (n : Int) : Int := 2 ^ n.toNat
theorem pw_pos (n : Int) : 1 ≤ pw n := by
  unfold pw
  have : (0 : Int) < 2 ^ n.toNat := Int.pow_pos (by decide)
  omega
theorem pw_nat (n : Int) : pw n = ((2 ^ n.toNat : Nat) : Int) := by simp [pw]
theorem pw_le {n : Int} (h : n ≤ 31) : pw n ≤ 2147483648 := by
  rw [pw_nat]
  have : 2 ^ n.toNat ≤ 2 ^ 31 := Nat.pow_le_pow_right (by decide) (by omega)
  omega
theorem pw_succ {n : Int} (h : 0 ≤ n) : pw (n + 1) = pw n * 2 := by
  unfold pw
  rw [show (n + 1).toNat = n.toNat + 1 by omega, Int.pow_succ]
/-- d bits of a word, the lowest of them bit number l -/
def seg (x l d : Int) : Int := x / pw l % pw d
theorem seg_bd (x l d : Int) (hd : d ≤ 31) : 0 ≤ seg x l d ∧ seg x l d ≤ 2147483647 := by
  unfold seg
  have h1 := pw_pos d
  have h2 := pw_le hd
  have h3 := Int.emod_nonneg (x / pw l) (show pw d ≠ 0 by omega)
  have h4 := Int.emod_lt_of_pos (x / pw l) (show 0 < pw d by omega)
  omega
theorem seg_step {x l d : Int} (hx : 0 ≤ x) (hl : 0 ≤ l) (hd : 0 ≤ d) : seg x l (d + 1) = 2 * seg x (l + 1) d + x / pw l % 2 := by
  unfold seg
  obtain ⟨y, rfl⟩ := Int.eq_ofNat_of_zero_le hx
  rw [pw_succ hd, pw_succ hl]
  rw [pw_nat l, pw_nat d]
  generalize 2 ^ l.toNat = a
  generalize 2 ^ d.toNat = b
  have e := Nat.mod_mul (x := y / a) (a := 2) (b := b)
  rw [Nat.div_div_eq_div_mul] at e
  norm_cast
  rw [Nat.mul_comm b 2, e]; omega
/-- a word with its sign -/
def sg (n : Int) : Int := if n < 2147483648 then n else n - 4294967296
/-- a number of m bits, with its sign, as a word -/
def sgn (n m : Int) : Int := if pw (m - 1) ≤ n then (n - pw (m - 1) * 2) % 4294967296 else n
theorem seg_bt {x hi lo : Int} : seg x lo (hi - lo + 1) = bt x hi lo := rfl
end Is
set_option maxHeartbeats 400000 in
theorem rpow_any (n : Int) (hn : 0 ≤ n ∧ n ≤ 31) (w : World) :
    Calls Tryz.prog 60 #[.int .i64 n] w fun e w' => e = .returned (.int .u32 (Is.pw n)) ∧ w = w' := by
  obtain ⟨m, rfl⟩ := Int.eq_ofNat_of_zero_le hn.1
  go_enter Tryz.func60, Tryz.ntmps60
  go_wp2
  go_loop [3, 4] (fun p i => ∃ k : Nat, k ≤ m ∧ i = .int .i64 (k : Int) ∧ p = .int .u32 (Is.pw k)) (fun _ i => m - (intOf i).toNat)
  case atStart => exact ⟨0, Nat.zero_le _, rfl, rfl⟩
  case round =>
    obtain ⟨k, hk, rfl, rfl⟩ := hrel
    have h1 := Is.pw_pos k
    by_cases hlt : k < m
    · have h2 := Is.pw_le (n := (k : Int) + 1) (by omega)
      have hs := Lib.hid (Is.pw_succ (n := (k : Int)) (by omega))
      have h3 : Is.pw k * 2 ≤ 2147483648 := by rw [← hs.out]; exact h2
      go_wp2
      go_round
      case rel => exact ⟨k + 1, by omega, by go_num, by rw [← hs.out]; rfl⟩
      case measure => simp [intOf]; omega
    · obtain rfl : k = m := by omega
      go_wp2
      go_ret
      exact ⟨rfl, rfl⟩
set_option maxHeartbeats 1000000 in
theorem rbits_any (x hi lo : Int) (hx : Is.Wd x) (h0 : 0 ≤ lo) (h1 : lo ≤ hi) (h2 : hi ≤ 31) (w : World) :
    Calls Tryz.prog 58 #[.int .u32 x, .int .i64 hi, .int .i64 lo] w fun e w' => e = .returned (.int .u32 (Is.bt x hi lo)) ∧ w = w' := by
  have HX := Lib.hid hx
  unfold Is.Wd at hx
  go_enter Tryz.func58, Tryz.ntmps58
  go_wp2
  go_loop [7, 8] (fun n i => ∃ d : Nat, (d : Int) ≤ hi - lo + 1 ∧ i = .int .i64 (hi - (d : Int)) ∧ n = .int .u32 (Is.seg x (hi - (d : Int) + 1) d)) (fun _ i => (intOf i + 1).toNat)
  case atStart => exact ⟨0, by omega, by simp, by simp [Is.seg, Is.pw]⟩
  case round =>
    obtain ⟨d, hd, rfl, rfl⟩ := hrel
    by_cases hlt : (d : Int) ≤ hi - lo
    · have hb := Is.seg_bd x (hi - (d : Int) + 1) d (by omega)
      have hs := Lib.hid (Is.seg_step (x := x) (l := hi - (d : Int)) (d := d) hx.1 (by omega) (by omega))
      have hp := Is.pw_pos (hi - (d : Int))
      have hp' : ¬ Is.pw (hi - (d : Int)) = 0 := by omega
      have hq : 0 ≤ x / Is.pw (hi - (d : Int)) ∧ x / Is.pw (hi - (d : Int)) ≤ 4294967295 := ⟨Int.ediv_nonneg hx.1 (by omega), Int.le_trans (Int.ediv_le_self _ hx.1) hx.2⟩
      go_wp2_with (go_at_call 60; refine (rpow_any _ (by omega) _).mono ?_; rintro e w' ⟨rfl, rfl⟩)
      go_round
      case rel => exact ⟨d + 1, by omega, by go_num, by rw [show hi - ((d + 1 : Nat) : Int) + 1 = hi - (d : Int) by omega, show ((d + 1 : Nat) : Int) = (d : Int) + 1 by omega, hs.out]⟩
      case measure => simp [intOf]; omega
    · obtain hdd : (d : Int) = hi - lo + 1 := by omega
      go_wp2
      go_ret
      exact ⟨ret_int (by rw [← Is.seg_bt]; congr 1; omega), rfl⟩
theorem rsigned_any (x : Int) (hx : Is.Wd x) (w : World) :
    Calls Tryz.prog 48 #[.int .u32 x] w fun e w' => e = .returned (.int .i64 (Is.sg x)) ∧ w = w' := by
  unfold Is.Wd at hx
  by_cases h : 2147483648 ≤ x
  · go_enter Tryz.func48, Tryz.ntmps48
    go_wp2
    go_ret
    exact ⟨ret_int (by unfold Is.sg; rw [if_neg (by omega)]), rfl⟩
  · go_enter Tryz.func48, Tryz.ntmps48
    go_wp2
    go_ret
    exact ⟨ret_int (by unfold Is.sg; rw [if_pos (by omega)]), rfl⟩
theorem rword_any (n : Int) (hn : -4294967296 ≤ n ∧ n ≤ 4294967295) (w : World) :
    Calls Tryz.prog 88 #[.int .i64 n] w fun e w' => e = .returned (.int .u32 (n % 4294967296)) ∧ w = w' := by
  by_cases h : n < 0
  · go_enter Tryz.func88, Tryz.ntmps88
    go_wp2
    go_ret
    exact ⟨ret_int (by omega), rfl⟩
  · go_enter Tryz.func88, Tryz.ntmps88
    go_wp2
    go_ret
    exact ⟨ret_int (by omega), rfl⟩
theorem rsign_any (n m : Int) (hm : 1 ≤ m ∧ m ≤ 31) (hn : 0 ≤ n ∧ n ≤ 2147483647) (w : World) :
    Calls Tryz.prog 59 #[.int .u32 n, .int .i64 m] w fun e w' => e = .returned (.int .u32 (Is.sgn n m)) ∧ w = w' := by
  have hp := Is.pw_pos (m - 1)
  have hq := Is.pw_le (n := m - 1) (by omega)
  by_cases h : Is.pw (m - 1) ≤ n
  · go_enter Tryz.func59, Tryz.ntmps59
    go_wp2_with (first
      | (go_at_call 60; refine (rpow_any _ (by omega) _).mono ?_; rintro e w' ⟨rfl, rfl⟩)
      | (go_at_call 88; refine (rword_any _ (by omega) _).mono ?_; rintro e w' ⟨rfl, rfl⟩))
    go_ret
    exact ⟨ret_int (by unfold Is.sgn; rw [if_pos h]), rfl⟩
  · go_enter Tryz.func59, Tryz.ntmps59
    go_wp2_with (go_at_call 60; refine (rpow_any _ (by omega) _).mono ?_; rintro e w' ⟨rfl, rfl⟩)
    go_ret
    exact ⟨ret_int (by unfold Is.sgn; rw [if_neg (by omega)]), rfl⟩
end Go.Proofs.YtianojbdabeoeaaGreatDoor
