/-
  IsPM: IsPure, IsOwn in one text.
-/
import Derived.Test.YtianojbdabeoeaaGreatDoorIsDec
import Derived.Test.YtianojbdabeoeaaGreatDoorIsRef

section
namespace Go.Proofs.YtianojbdabeoeaaGreatDoor
set_option linter.unusedVariables false
set_option linter.unusedSimpArgs false
namespace Is
open Go.RowKit
/-- which Imm a form has room for -/
def immOk (k : Nat) (imm : Int) : Prop := match k with
  | 1 => imm % 4096 = 0
  | 2 => imm % 2 = 0 ∧ (imm ≤ 1048574 ∨ 4293918720 ≤ imm)
  | 3 => imm ≤ 2047 ∨ 4294965248 ≤ imm
  | 4 => imm ≤ 2047 ∨ 4294965248 ≤ imm
  | 5 => imm ≤ 31
  | 6 => imm % 2 = 0 ∧ (imm ≤ 4094 ∨ 4294963200 ≤ imm)
  | 7 => imm ≤ 2047 ∨ 4294965248 ≤ imm
  | 9 => imm ≤ 255
  | _ => imm = 0
/-- an instruction that may be -/
def mayP (k : Nat) (rd rs1 rs2 imm : Int) (aq rl : Bool) : Prop :=
  (0 ≤ rd ∧ rd ≤ 31) ∧ (0 ≤ rs1 ∧ rs1 ≤ 31) ∧ (0 ≤ rs2 ∧ rs2 ≤ 31) ∧ (hasRd k = false → rd = 0) ∧ (hasRs1 k = false → rs1 = 0) ∧ (hasRs2 k = false → rs2 = 0) ∧ (hasOrd k = false → aq = false ∧ rl = false) ∧ immOk k imm
/-- the parts of a word's instruction are all that its word has of a form -/
def pl (k : Nat) (x : Int) : Int := layO k (rdO k x) (rs1O k x) (rs2O k x) (immO k x) (aqO k x) (rlO k x)
theorem fields2 {c0 : Int} {d0 d1 d2 d3 : Int} {rd rs1 rs2 x : Int} {aq rl : Bool} (hc0 : 0 ≤ c0 ∧ c0 ≤ 127) (hd0 : 0 ≤ d0 ∧ d0 ≤ 1) (hd1 : 0 ≤ d1 ∧ d1 ≤ 1023) (hd2 : 0 ≤ d2 ∧ d2 ≤ 1) (hd3 : 0 ≤ d3 ∧ d3 ≤ 255) (hx : x = (c0) + (d0 * 2147483648 + d1 * 2097152 + d2 * 1048576 + d3 * 4096 + rd % 32 * 128)) : x / 128 % 32 = rd % 32 ∧ immO 2 x = d3 * 4096 + d2 * 2048 + d1 * 2 + d0 * 4293918720 ∧ 0 ≤ x ∧ x ≤ 4294967295 := by
  have r1 : 0 ≤ rd % 32 ∧ rd % 32 ≤ 31 := by omega
  have r2 : 0 ≤ rs1 % 32 ∧ rs1 % 32 ≤ 31 := by omega
  have r3 : 0 ≤ rs2 % 32 ∧ rs2 % 32 ≤ 31 := by omega
  generalize rd % 32 = y1 at *
  generalize rs1 % 32 = y2 at *
  generalize rs2 % 32 = y3 at *
  simp only [immO, jumpImm, sx]
  refine ⟨?_, ?_, ?_⟩
  all_goals (try split) <;> omega
theorem fields3 {c0 c1 : Int} {d0 : Int} {rd rs1 rs2 x : Int} {aq rl : Bool} (hc0 : 0 ≤ c0 ∧ c0 ≤ 127) (hc1 : 0 ≤ c1 ∧ c1 ≤ 7) (hd0 : 0 ≤ d0 ∧ d0 ≤ 4095) (hx : x = (c0 + c1 * 4096) + (d0 * 1048576 + rd % 32 * 128 + rs1 % 32 * 32768)) : x / 128 % 32 = rd % 32 ∧ x / 32768 % 32 = rs1 % 32 ∧ immO 3 x = d0 % 2048 + d0 / 2048 * 4294965248 ∧ 0 ≤ x ∧ x ≤ 4294967295 := by
  have r1 : 0 ≤ rd % 32 ∧ rd % 32 ≤ 31 := by omega
  have r2 : 0 ≤ rs1 % 32 ∧ rs1 % 32 ≤ 31 := by omega
  have r3 : 0 ≤ rs2 % 32 ∧ rs2 % 32 ≤ 31 := by omega
  generalize rd % 32 = y1 at *
  generalize rs1 % 32 = y2 at *
  generalize rs2 % 32 = y3 at *
  simp only [immO, shortImm, sx]
  refine ⟨?_, ?_, ?_, ?_⟩
  all_goals (try split) <;> omega
theorem fields4 {c0 c1 : Int} {d0 : Int} {rd rs1 rs2 x : Int} {aq rl : Bool} (hc0 : 0 ≤ c0 ∧ c0 ≤ 127) (hc1 : 0 ≤ c1 ∧ c1 ≤ 7) (hd0 : 0 ≤ d0 ∧ d0 ≤ 4095) (hx : x = (c0 + c1 * 4096) + (d0 * 1048576 + rd % 32 * 128 + rs1 % 32 * 32768)) : x / 128 % 32 = rd % 32 ∧ x / 32768 % 32 = rs1 % 32 ∧ immO 4 x = d0 % 2048 + d0 / 2048 * 4294965248 ∧ 0 ≤ x ∧ x ≤ 4294967295 := by
  have r1 : 0 ≤ rd % 32 ∧ rd % 32 ≤ 31 := by omega
  have r2 : 0 ≤ rs1 % 32 ∧ rs1 % 32 ≤ 31 := by omega
  have r3 : 0 ≤ rs2 % 32 ∧ rs2 % 32 ≤ 31 := by omega
  generalize rd % 32 = y1 at *
  generalize rs1 % 32 = y2 at *
  generalize rs2 % 32 = y3 at *
  simp only [immO, shortImm, sx]
  refine ⟨?_, ?_, ?_, ?_⟩
  all_goals (try split) <;> omega
theorem xor_assoc {a b c : Int} (ha : Wd a) (hb : Wd b) (hc : Wd c) : bits .xor .u32 a (bits .xor .u32 b c) = bits .xor .u32 (bits .xor .u32 a b) c := by
  unfold Wd at *
  obtain ⟨x, rfl⟩ := Int.eq_ofNat_of_zero_le ha.1
  obtain ⟨y, rfl⟩ := Int.eq_ofNat_of_zero_le hb.1
  obtain ⟨z, rfl⟩ := Int.eq_ofNat_of_zero_le hc.1
  have l1 : y ^^^ z < 2 ^ 32 := Nat.xor_lt_two_pow (by omega) (by omega)
  have l2 : x ^^^ y < 2 ^ 32 := Nat.xor_lt_two_pow (by omega) (by omega)
  rw [u32_xor_nat y z (by omega) (by omega), u32_xor_nat x y (by omega) (by omega), u32_xor_nat x _ (by omega) (by omega), u32_xor_nat _ z (by omega) (by omega), Nat.xor_assoc]
theorem xorD (k m : Nat) {x y : Int} (hx : Wd x) (hy : Wd y) (h2 : y % 2 ^ k = 0) (h3 : x / 2 ^ k % 2 ^ m = y / 2 ^ k) : bits .xor .u32 x y = x - y := by
  unfold Wd at hx hy
  obtain ⟨a, rfl⟩ := Int.eq_ofNat_of_zero_le hx.1
  obtain ⟨b, rfl⟩ := Int.eq_ofNat_of_zero_le hy.1
  have p1 : ∀ k : Nat, (2 : Int) ^ k = ((2 ^ k : Nat) : Int) := fun k => by simp
  rw [p1] at h2
  rw [p1, p1] at h3
  norm_cast at h2 h3
  obtain ⟨c, rfl⟩ := Nat.dvd_of_mod_eq_zero h2
  rw [Nat.mul_div_cancel_left _ (Nat.two_pow_pos k)] at h3
  have hle : 2 ^ k * c ≤ a := by
    rw [← h3]
    exact Nat.le_trans (Nat.mul_le_mul_left _ (Nat.mod_le _ _)) (Nat.mul_div_le _ _)
  rw [u32_xor_nat _ _ (by omega) (by omega), Nat.mul_comm, xor_drop h3, Nat.mul_comm]
  omega
theorem xor2D (q m p n : Nat) {x z v : Int} (hx : Wd x) (hz : Wd z) (hv : Wd v) (hs : z ≤ x) (a1 : x / 2 ^ q % 2 ^ m = z / 2 ^ q) (a2 : z % 2 ^ q = 0)
    (b0 : z / 2 ^ p % 2 ^ n = 0) (b1 : (x - z) / 2 ^ p % 2 ^ n = v / 2 ^ p) (b2 : v % 2 ^ p = 0) (b3 : v / 2 ^ p < 2 ^ n) : bits .xor .u32 x (z + v) = x - (z + v) := by
  rw [← xorI p n hz hv b0 b2 b3, xor_assoc hx hz hv, xorD q m hx hz a2 a1, xorD p n (show Wd (x - z) by unfold Wd at *; omega) hv b2 b1, xorI p n hz hv b0 b2 b3]; omega
theorem sg_bd (n : Int) (h : 0 ≤ n ∧ n ≤ 4294967295) : -2147483648 ≤ sg n ∧ sg n ≤ 2147483647 := by unfold sg; split <;> omega
end Is
end Go.Proofs.YtianojbdabeoeaaGreatDoor
end

section
namespace Go.Proofs.YtianojbdabeoeaaGreatDoor
set_option linter.unusedVariables false
set_option linter.unusedSimpArgs false
namespace Is
open Go.RowKit
theorem b01_mod2 (a : Int) : b01 (a % 2 == 1) = a % 2 := by
  rcases (show a % 2 = 0 ∨ a % 2 = 1 by omega) with h | h <;> rw [h] <;> rfl
theorem jp {p q r : Int} (b1 : 0 ≤ p ∧ p ≤ 255) (b2 : 0 ≤ q ∧ q ≤ 1) (b3 : 0 ≤ r ∧ r ≤ 1023) (t c : Int) (ht : (t = 0 ∧ c = 0) ∨ (t = 1 ∧ c = 4293918720)) : jumpPlace (p * 4096 + q * 2048 + r * 2 + c) = (p + 256 * q + 512 * r + 524288 * t) * 4096 := by
  have h1 : (p * 4096 + q * 2048 + r * 2 + c) / 1048576 % 2 = t := by omega
  have h2 : (p * 4096 + q * 2048 + r * 2 + c) / 2 % 1024 = r := by omega
  have h3 : (p * 4096 + q * 2048 + r * 2 + c) / 2048 % 2 = q := by omega
  have h4 : (p * 4096 + q * 2048 + r * 2 + c) / 4096 % 256 = p := by omega
  unfold jumpPlace
  rw [h1, h2, h3, h4]; omega
theorem bp {a b d : Int} (b1 : 0 ≤ a ∧ a ≤ 1) (b2 : 0 ≤ b ∧ b ≤ 63) (b3 : 0 ≤ d ∧ d ≤ 15) (t c : Int) (ht : (t = 0 ∧ c = 0) ∨ (t = 1 ∧ c = 4294963200)) : branchPlace (a * 2048 + b * 32 + d * 2 + c) = (b + 64 * t) * 33554432 + (a + 2 * d) * 128 := by
  have h1 : (a * 2048 + b * 32 + d * 2 + c) / 4096 % 2 = t := by omega
  have h2 : (a * 2048 + b * 32 + d * 2 + c) / 32 % 64 = b := by omega
  have h3 : (a * 2048 + b * 32 + d * 2 + c) / 2 % 16 = d := by omega
  have h4 : (a * 2048 + b * 32 + d * 2 + c) / 2048 % 2 = a := by omega
  unfold branchPlace
  rw [h1, h2, h3, h4]; omega
theorem pl1 {x : Int} (hx : Wd x) : pl 1 x = x / 128 * 128 := by
  unfold Wd at hx
  simp only [pl, layO, placeO, rdO, rs1O, rs2O, aqO, rlO, immO, hasRd, hasRs1, hasRs2, hasOrd, Nat.reduceBEq, Bool.or_false, Bool.or_true, Bool.false_or, Bool.not_false, Bool.not_true, Bool.true_or, Bool.or_self, if_true, if_false, Bool.false_eq_true, Int.add_zero, Int.zero_add, Bool.true_and, Bool.false_and]
  have key : upperImm (upperImm x) = x / 4096 * 4096 := by
    unfold upperImm
    omega
  rw [key]; try omega
theorem own1 {x : Int} (hx : Wd x) : ownO 1 x = x - pl 1 x := by
  show bits .xor .u32 x (pl 1 x) = _
  rw [pl1 hx]
  have hw := hx
  unfold Wd at hx
  exact xorD 7 25 hw (by unfold Wd; omega) (by omega) (by omega)
theorem pl2 {x : Int} (hx : Wd x) : pl 2 x = x / 128 * 128 := by
  unfold Wd at hx
  simp only [pl, layO, placeO, rdO, rs1O, rs2O, aqO, rlO, immO, hasRd, hasRs1, hasRs2, hasOrd, Nat.reduceBEq, Bool.or_false, Bool.or_true, Bool.false_or, Bool.not_false, Bool.not_true, Bool.true_or, Bool.or_self, if_true, if_false, Bool.false_eq_true, Int.add_zero, Int.zero_add, Bool.true_and, Bool.false_and]
  have key : jumpPlace (jumpImm x) = x / 4096 * 4096 := by
    have e : x / 4096 = x / 4096 % 256 + 256 * (x / 1048576 % 2) + 512 * (x / 2097152 % 1024) + 524288 * (x / 2147483648) := by omega
    have b1 : 0 ≤ x / 4096 % 256 ∧ x / 4096 % 256 ≤ 255 := by omega
    have b2 : 0 ≤ x / 1048576 % 2 ∧ x / 1048576 % 2 ≤ 1 := by omega
    have b3 : 0 ≤ x / 2097152 % 1024 ∧ x / 2097152 % 1024 ≤ 1023 := by omega
    rw [e]
    unfold jumpImm sx
    by_cases h : x < 2147483648
    · rw [if_pos h, show x / 2147483648 = 0 by omega]
      have q := jp b1 b2 b3 0 0 (by omega)
      simp only [Int.add_zero] at q
      exact q
    · rw [if_neg h, show x / 2147483648 = 1 by omega]
      exact jp b1 b2 b3 1 4293918720 (by omega)
  rw [key]; omega
theorem own2 {x : Int} (hx : Wd x) : ownO 2 x = x - pl 2 x := by
  show bits .xor .u32 x (pl 2 x) = _
  rw [pl2 hx]
  have hw := hx
  unfold Wd at hx
  exact xorD 7 25 hw (by unfold Wd; omega) (by omega) (by omega)
theorem pl3 {x : Int} (hx : Wd x) : pl 3 x = x / 128 % 32 * 128 + x / 32768 * 32768 := by
  unfold Wd at hx
  simp only [pl, layO, placeO, rdO, rs1O, rs2O, aqO, rlO, immO, hasRd, hasRs1, hasRs2, hasOrd, Nat.reduceBEq, Bool.or_false, Bool.or_true, Bool.false_or, Bool.not_false, Bool.not_true, Bool.true_or, Bool.or_self, if_true, if_false, Bool.false_eq_true, Int.add_zero, Int.zero_add, Bool.true_and, Bool.false_and]
  have key : shortPlace (shortImm x) = x / 1048576 * 1048576 := by
    unfold shortImm shortPlace sx
    (try split) <;> omega
  rw [key]; try omega
theorem own3 {x : Int} (hx : Wd x) : ownO 3 x = x - pl 3 x := by
  show bits .xor .u32 x (pl 3 x) = _
  rw [pl3 hx]
  have hw := hx
  unfold Wd at hx
  exact xor2D 7 5 15 17 hw (by unfold Wd; omega) (by unfold Wd; omega) (by omega) (by omega) (by omega) (by omega) (by omega) (by omega) (by omega)
theorem pl4 {x : Int} (hx : Wd x) : pl 4 x = x / 128 % 32 * 128 + x / 32768 * 32768 := by
  unfold Wd at hx
  simp only [pl, layO, placeO, rdO, rs1O, rs2O, aqO, rlO, immO, hasRd, hasRs1, hasRs2, hasOrd, Nat.reduceBEq, Bool.or_false, Bool.or_true, Bool.false_or, Bool.not_false, Bool.not_true, Bool.true_or, Bool.or_self, if_true, if_false, Bool.false_eq_true, Int.add_zero, Int.zero_add, Bool.true_and, Bool.false_and]
  have key : shortPlace (shortImm x) = x / 1048576 * 1048576 := by
    unfold shortImm shortPlace sx
    (try split) <;> omega
  rw [key]; try omega
theorem own4 {x : Int} (hx : Wd x) : ownO 4 x = x - pl 4 x := by
  show bits .xor .u32 x (pl 4 x) = _
  rw [pl4 hx]
  have hw := hx
  unfold Wd at hx
  exact xor2D 7 5 15 17 hw (by unfold Wd; omega) (by unfold Wd; omega) (by omega) (by omega) (by omega) (by omega) (by omega) (by omega) (by omega)
theorem pl5 {x : Int} (hx : Wd x) : pl 5 x = x / 128 % 32 * 128 + x / 32768 % 1024 * 32768 := by
  unfold Wd at hx
  simp only [pl, layO, placeO, rdO, rs1O, rs2O, aqO, rlO, immO, hasRd, hasRs1, hasRs2, hasOrd, Nat.reduceBEq, Bool.or_false, Bool.or_true, Bool.false_or, Bool.not_false, Bool.not_true, Bool.true_or, Bool.or_self, if_true, if_false, Bool.false_eq_true, Int.add_zero, Int.zero_add, Bool.true_and, Bool.false_and]
  have key : shiftPlace (shiftImm x) = x / 1048576 % 32 * 1048576 := by
    unfold shiftImm shiftPlace
    omega
  rw [key]; try omega
theorem own5 {x : Int} (hx : Wd x) : ownO 5 x = x - pl 5 x := by
  show bits .xor .u32 x (pl 5 x) = _
  rw [pl5 hx]
  have hw := hx
  unfold Wd at hx
  exact xor2D 7 5 15 10 hw (by unfold Wd; omega) (by unfold Wd; omega) (by omega) (by omega) (by omega) (by omega) (by omega) (by omega) (by omega)
theorem pl6 {x : Int} (hx : Wd x) : pl 6 x = x / 128 % 32 * 128 + x / 32768 * 32768 := by
  unfold Wd at hx
  simp only [pl, layO, placeO, rdO, rs1O, rs2O, aqO, rlO, immO, hasRd, hasRs1, hasRs2, hasOrd, Nat.reduceBEq, Bool.or_false, Bool.or_true, Bool.false_or, Bool.not_false, Bool.not_true, Bool.true_or, Bool.or_self, if_true, if_false, Bool.false_eq_true, Int.add_zero, Int.zero_add, Bool.true_and, Bool.false_and]
  have key : branchPlace (branchImm x) = x / 33554432 * 33554432 + x / 128 % 32 * 128 := by
    have e : x / 33554432 = x / 33554432 % 64 + 64 * (x / 2147483648) := by omega
    have e2 : x / 128 % 32 = x / 128 % 2 + 2 * (x / 256 % 16) := by omega
    have b1 : 0 ≤ x / 128 % 2 ∧ x / 128 % 2 ≤ 1 := by omega
    have b2 : 0 ≤ x / 33554432 % 64 ∧ x / 33554432 % 64 ≤ 63 := by omega
    have b3 : 0 ≤ x / 256 % 16 ∧ x / 256 % 16 ≤ 15 := by omega
    rw [e, e2]
    unfold branchImm sx
    by_cases h : x < 2147483648
    · rw [if_pos h, show x / 2147483648 = 0 by omega]
      have q := bp b1 b2 b3 0 0 (by omega)
      simp only [Int.add_zero] at q
      exact q
    · rw [if_neg h, show x / 2147483648 = 1 by omega]
      exact bp b1 b2 b3 1 4294963200 (by omega)
  rw [key]; omega
theorem own6 {x : Int} (hx : Wd x) : ownO 6 x = x - pl 6 x := by
  show bits .xor .u32 x (pl 6 x) = _
  rw [pl6 hx]
  have hw := hx
  unfold Wd at hx
  exact xor2D 7 5 15 17 hw (by unfold Wd; omega) (by unfold Wd; omega) (by omega) (by omega) (by omega) (by omega) (by omega) (by omega) (by omega)
theorem pl7 {x : Int} (hx : Wd x) : pl 7 x = x / 128 % 32 * 128 + x / 32768 * 32768 := by
  unfold Wd at hx
  simp only [pl, layO, placeO, rdO, rs1O, rs2O, aqO, rlO, immO, hasRd, hasRs1, hasRs2, hasOrd, Nat.reduceBEq, Bool.or_false, Bool.or_true, Bool.false_or, Bool.not_false, Bool.not_true, Bool.true_or, Bool.or_self, if_true, if_false, Bool.false_eq_true, Int.add_zero, Int.zero_add, Bool.true_and, Bool.false_and]
  have key : storePlace (storeImm x) = x / 33554432 * 33554432 + x / 128 % 32 * 128 := by
    unfold storeImm storePlace sx
    (try split) <;> omega
  rw [key]; try omega
theorem own7 {x : Int} (hx : Wd x) : ownO 7 x = x - pl 7 x := by
  show bits .xor .u32 x (pl 7 x) = _
  rw [pl7 hx]
  have hw := hx
  unfold Wd at hx
  exact xor2D 7 5 15 17 hw (by unfold Wd; omega) (by unfold Wd; omega) (by omega) (by omega) (by omega) (by omega) (by omega) (by omega) (by omega)
theorem pl8 {x : Int} (hx : Wd x) : pl 8 x = x / 128 % 32 * 128 + x / 32768 % 1024 * 32768 := by
  unfold Wd at hx
  simp only [pl, layO, placeO, rdO, rs1O, rs2O, aqO, rlO, immO, hasRd, hasRs1, hasRs2, hasOrd, Nat.reduceBEq, Bool.or_false, Bool.or_true, Bool.false_or, Bool.not_false, Bool.not_true, Bool.true_or, Bool.or_self, if_true, if_false, Bool.false_eq_true, Int.add_zero, Int.zero_add, Bool.true_and, Bool.false_and]
  omega
theorem own8 {x : Int} (hx : Wd x) : ownO 8 x = x - pl 8 x := by
  show bits .xor .u32 x (pl 8 x) = _
  rw [pl8 hx]
  have hw := hx
  unfold Wd at hx
  exact xor2D 7 5 15 10 hw (by unfold Wd; omega) (by unfold Wd; omega) (by omega) (by omega) (by omega) (by omega) (by omega) (by omega) (by omega)
theorem pl9 {x : Int} (hx : Wd x) : pl 9 x = x / 1048576 % 256 * 1048576 := by
  unfold Wd at hx
  simp only [pl, layO, placeO, rdO, rs1O, rs2O, aqO, rlO, immO, hasRd, hasRs1, hasRs2, hasOrd, Nat.reduceBEq, Bool.or_false, Bool.or_true, Bool.false_or, Bool.not_false, Bool.not_true, Bool.true_or, Bool.or_self, if_true, if_false, Bool.false_eq_true, Int.add_zero, Int.zero_add, Bool.true_and, Bool.false_and]
  have key : fencePlace (fenceImm x) = x / 1048576 % 256 * 1048576 := by
    unfold fenceImm fencePlace
    omega
  rw [key]; try omega
theorem own9 {x : Int} (hx : Wd x) : ownO 9 x = x - pl 9 x := by
  show bits .xor .u32 x (pl 9 x) = _
  rw [pl9 hx]
  have hw := hx
  unfold Wd at hx
  exact xorD 20 8 hw (by unfold Wd; omega) (by omega) (by omega)
theorem pl10 {x : Int} (hx : Wd x) : pl 10 x = 0 := by
  unfold Wd at hx
  simp only [pl, layO, placeO, rdO, rs1O, rs2O, aqO, rlO, immO, hasRd, hasRs1, hasRs2, hasOrd, Nat.reduceBEq, Bool.or_false, Bool.or_true, Bool.false_or, Bool.not_false, Bool.not_true, Bool.true_or, Bool.or_self, if_true, if_false, Bool.false_eq_true, Int.add_zero, Int.zero_add, Bool.true_and, Bool.false_and]
theorem own10 {x : Int} (hx : Wd x) : ownO 10 x = x - pl 10 x := by
  show bits .xor .u32 x (pl 10 x) = _
  rw [pl10 hx]
  have hw := hx
  unfold Wd at hx
  exact xorD 0 0 hw (by unfold Wd; omega) (by omega) (by omega)
theorem pl11 {x : Int} (hx : Wd x) : pl 11 x = x / 128 % 32 * 128 + x / 32768 % 4096 * 32768 := by
  unfold Wd at hx
  simp only [pl, layO, placeO, rdO, rs1O, rs2O, aqO, rlO, immO, hasRd, hasRs1, hasRs2, hasOrd, Nat.reduceBEq, Bool.or_false, Bool.or_true, Bool.false_or, Bool.not_false, Bool.not_true, Bool.true_or, Bool.or_self, if_true, if_false, Bool.false_eq_true, Int.add_zero, Int.zero_add, Bool.true_and, Bool.false_and]
  rw [b01_mod2, b01_mod2]
  omega
theorem own11 {x : Int} (hx : Wd x) : ownO 11 x = x - pl 11 x := by
  show bits .xor .u32 x (pl 11 x) = _
  rw [pl11 hx]
  have hw := hx
  unfold Wd at hx
  exact xor2D 7 5 15 12 hw (by unfold Wd; omega) (by unfold Wd; omega) (by omega) (by omega) (by omega) (by omega) (by omega) (by omega) (by omega)
theorem pl12 {x : Int} (hx : Wd x) : pl 12 x = x / 128 % 32 * 128 + x / 32768 % 32 * 32768 + x / 33554432 % 4 * 33554432 := by
  unfold Wd at hx
  simp only [pl, layO, placeO, rdO, rs1O, rs2O, aqO, rlO, immO, hasRd, hasRs1, hasRs2, hasOrd, Nat.reduceBEq, Bool.or_false, Bool.or_true, Bool.false_or, Bool.not_false, Bool.not_true, Bool.true_or, Bool.or_self, if_true, if_false, Bool.false_eq_true, Int.add_zero, Int.zero_add, Bool.true_and, Bool.false_and]
  rw [b01_mod2, b01_mod2]
  omega
theorem own12 {x : Int} (hx : Wd x) : ownO 12 x = x - pl 12 x := by
  show bits .xor .u32 x (pl 12 x) = _
  rw [pl12 hx]
  have hw := hx
  unfold Wd at hx
  have hz : Wd (x / 128 % 32 * 128 + x / 32768 % 32 * 32768) := by unfold Wd; omega
  have hv : Wd (x / 33554432 % 4 * 33554432) := by unfold Wd; omega
  have ht : Wd (x - (x / 128 % 32 * 128 + x / 32768 % 32 * 32768)) := by unfold Wd; omega
  have hl1 : x / 128 % 32 * 128 + x / 32768 % 32 * 32768 ≤ x % 33554432 := by omega
  have hl2 : (x - (x / 128 % 32 * 128 + x / 32768 % 32 * 32768)) / 33554432 = x / 33554432 := by
    generalize x / 128 % 32 * 128 + x / 32768 % 32 * 32768 = y at hl1 hz
    unfold Wd at hz
    omega
  have hl3 : (x - (x / 128 % 32 * 128 + x / 32768 % 32 * 32768)) / 2 ^ 25 % 2 ^ 2 = x / 33554432 % 4 * 33554432 / 2 ^ 25 := by
    show (x - (x / 128 % 32 * 128 + x / 32768 % 32 * 32768)) / 33554432 % 4 = x / 33554432 % 4 * 33554432 / 33554432
    rw [hl2]; omega
  rw [← xorI 25 2 hz hv (by omega) (by omega) (by omega), xor_assoc hw hz hv, xor2D 7 5 15 5 hw (by unfold Wd; omega) (by unfold Wd; omega) (by omega) (by omega) (by omega) (by omega) (by omega) (by omega) (by omega), xorD 25 2 ht hv (by omega) hl3, xorI 25 2 hz hv (by omega) (by omega) (by omega)]
  omega
theorem pl13 {x : Int} (hx : Wd x) : pl 13 x = x / 128 % 32 * 128 := by
  unfold Wd at hx
  simp only [pl, layO, placeO, rdO, rs1O, rs2O, aqO, rlO, immO, hasRd, hasRs1, hasRs2, hasOrd, Nat.reduceBEq, Bool.or_false, Bool.or_true, Bool.false_or, Bool.not_false, Bool.not_true, Bool.true_or, Bool.or_self, if_true, if_false, Bool.false_eq_true, Int.add_zero, Int.zero_add, Bool.true_and, Bool.false_and]
  omega
theorem own13 {x : Int} (hx : Wd x) : ownO 13 x = x - pl 13 x := by
  show bits .xor .u32 x (pl 13 x) = _
  rw [pl13 hx]
  have hw := hx
  unfold Wd at hx
  exact xorD 7 5 hw (by unfold Wd; omega) (by omega) (by omega)
theorem own_eq (k : Nat) (hk : 1 ≤ k ∧ k ≤ 13) {x : Int} (hx : Wd x) : ownO k x = x - pl k x := by
  rcases (show k = 1 ∨ k = 2 ∨ k = 3 ∨ k = 4 ∨ k = 5 ∨ k = 6 ∨ k = 7 ∨ k = 8 ∨ k = 9 ∨ k = 10 ∨ k = 11 ∨ k = 12 ∨ k = 13 by omega) with rfl | rfl | rfl | rfl | rfl | rfl | rfl | rfl | rfl | rfl | rfl | rfl | rfl
  · exact own1 hx
  · exact own2 hx
  · exact own3 hx
  · exact own4 hx
  · exact own5 hx
  · exact own6 hx
  · exact own7 hx
  · exact own8 hx
  · exact own9 hx
  · exact own10 hx
  · exact own11 hx
  · exact own12 hx
  · exact own13 hx
theorem fm_in (op : Nat) (h : 1 ≤ op ∧ op ≤ 59) : 1 ≤ fm op ∧ fm op ≤ 13 := by
  rcases fm_ok op (by omega) with h0 | h0
  · omega
  · exact h0
end Is
end Go.Proofs.YtianojbdabeoeaaGreatDoor
end
