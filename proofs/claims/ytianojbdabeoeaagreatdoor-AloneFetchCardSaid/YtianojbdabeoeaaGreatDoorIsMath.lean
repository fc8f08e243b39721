/-
  The plain mathematics of instructions as words: bits of a word, what each form's parts are, and why a word is just one instruction's. Nothing of the program stands here.
-/
import Derived.RowKit
import Derived.WalkKit
namespace Go.Proofs.YtianojbdabeoeaaGreatDoor
namespace Is
open Go.RowKit
set_option linter.unusedVariables false

/-- the bits hi to lo of a word -/
def bt (w hi lo : Int) : Int := w / 2 ^ lo.toNat % 2 ^ (hi - lo + 1).toNat
/-- a word -/
def Wd (n : Int) : Prop := 0 ≤ n ∧ n ≤ 4294967295

theorem xor_high {c k : Nat} (y b : Nat) (hc : c < 2 ^ k) : (2 ^ k * y + c) ^^^ (2 ^ k * b) = 2 ^ k * (y ^^^ b) + c := by
  apply Nat.eq_of_testBit_eq
  intro i
  have e : 2 ^ k * b = 2 ^ k * b + 0 := rfl
  rw [Nat.testBit_xor, e, Nat.testBit_two_pow_mul_add _ hc, Nat.testBit_two_pow_mul_add _ (Nat.two_pow_pos k), Nat.testBit_two_pow_mul_add _ hc]
  split
  · simp
  · rw [Nat.testBit_xor]
theorem or_high {c k : Nat} (y b : Nat) (hc : c < 2 ^ k) : (2 ^ k * y + c) ||| (2 ^ k * b) = 2 ^ k * (y ||| b) + c := by
  apply Nat.eq_of_testBit_eq
  intro i
  have e : 2 ^ k * b = 2 ^ k * b + 0 := rfl
  rw [Nat.testBit_or, e, Nat.testBit_two_pow_mul_add _ hc, Nat.testBit_two_pow_mul_add _ (Nat.two_pow_pos k), Nat.testBit_two_pow_mul_add _ hc]
  split
  · simp
  · rw [Nat.testBit_or]
theorem xor_low {b m : Nat} (z : Nat) (hb : b < 2 ^ m) : (2 ^ m * z) ^^^ b = 2 ^ m * z + b := by
  apply Nat.eq_of_testBit_eq
  intro i
  have e : 2 ^ m * z = 2 ^ m * z + 0 := rfl
  rw [Nat.testBit_xor, Nat.testBit_two_pow_mul_add _ hb, e, Nat.testBit_two_pow_mul_add _ (Nat.two_pow_pos m)]
  split
  · simp
  · rw [Nat.testBit_lt_two_pow (Nat.lt_of_lt_of_le hb (Nat.pow_le_pow_right (by decide) (by omega)))]; simp
theorem or_low {b m : Nat} (z : Nat) (hb : b < 2 ^ m) : (2 ^ m * z) ||| b = 2 ^ m * z + b := (Nat.two_pow_add_eq_or_of_lt hb z).symm
/-- a number whose bits k to k + m - 1 are free -/
theorem free_eq {x k m : Nat} (h : x / 2 ^ k % 2 ^ m = 0) : x = 2 ^ k * (2 ^ m * (x / 2 ^ (k + m))) + x % 2 ^ k := by
  have h1 := Nat.div_add_mod x (2 ^ k)
  have h2 := Nat.div_add_mod (x / 2 ^ k) (2 ^ m)
  rw [h, Nat.div_div_eq_div_mul, ← Nat.pow_add, Nat.add_zero] at h2
  rw [h2]; exact h1.symm
theorem xor_free {x b k m : Nat} (h : x / 2 ^ k % 2 ^ m = 0) (hb : b < 2 ^ m) : x ^^^ (b * 2 ^ k) = x + b * 2 ^ k := by
  have e := free_eq h
  have hc : x % 2 ^ k < 2 ^ k := Nat.mod_lt _ (Nat.two_pow_pos k)
  generalize x / 2 ^ (k + m) = z at e
  generalize x % 2 ^ k = c at e hc
  subst e
  rw [Nat.mul_comm b, xor_high _ _ hc, xor_low _ hb, Nat.mul_add]; omega
theorem or_free {x b k m : Nat} (h : x / 2 ^ k % 2 ^ m = 0) (hb : b < 2 ^ m) : x ||| (b * 2 ^ k) = x + b * 2 ^ k := by
  have e := free_eq h
  have hc : x % 2 ^ k < 2 ^ k := Nat.mod_lt _ (Nat.two_pow_pos k)
  generalize x / 2 ^ (k + m) = z at e
  generalize x % 2 ^ k = c at e hc
  subst e
  rw [Nat.mul_comm b, or_high _ _ hc, or_low _ hb, Nat.mul_add]; omega
/-- bits that stand there are taken out -/
theorem xor_drop {x b k m : Nat} (h : x / 2 ^ k % 2 ^ m = b) : x ^^^ (b * 2 ^ k) = x - b * 2 ^ k := by
  have hb : b < 2 ^ m := h ▸ Nat.mod_lt _ (Nat.two_pow_pos m)
  have h1 := Nat.div_add_mod x (2 ^ k)
  have h2 := Nat.div_add_mod (x / 2 ^ k) (2 ^ m)
  rw [h] at h2
  have hc : x % 2 ^ k < 2 ^ k := Nat.mod_lt _ (Nat.two_pow_pos k)
  generalize x / 2 ^ k / 2 ^ m = z at h2
  generalize x % 2 ^ k = c at h1 hc
  have e : x = (2 ^ k * (2 ^ m * z) + c) + b * 2 ^ k := by rw [← h1, ← h2, Nat.mul_add, Nat.mul_comm b]; omega
  have hf : (2 ^ k * (2 ^ m * z) + c) / 2 ^ k % 2 ^ m = 0 := by
    rw [Nat.mul_add_div (Nat.two_pow_pos k), Nat.div_eq_of_lt hc]; simp
  have h3 := xor_free hf hb
  rw [e, ← h3, Nat.xor_assoc, Nat.xor_self, Nat.xor_zero, h3]; omega
theorem bt_walk {x hi lo : Int} (hx : Wd x) (h0 : 0 ≤ lo) (h1 : lo ≤ hi) (h2 : hi ≤ 31) : x * 2 ^ (31 - hi).toNat % 4294967296 / 2 ^ (31 - hi + lo).toNat = bt x hi lo := by
  unfold bt Wd at *
  obtain ⟨a, rfl⟩ := Int.eq_ofNat_of_zero_le h0
  obtain ⟨b, rfl⟩ := Int.eq_ofNat_of_zero_le (show 0 ≤ hi by omega)
  obtain ⟨y, rfl⟩ := Int.eq_ofNat_of_zero_le hx.1
  obtain ⟨n, rfl⟩ : ∃ n, b = a + n := ⟨b - a, by omega⟩
  rw [show (31 - ((a + n : Nat) : Int)).toNat = 31 - (a + n) by omega, show (31 - ((a + n : Nat) : Int) + (a : Int)).toNat = 31 - n by omega, show (((a + n : Nat) : Int) - (a : Int) + 1).toNat = n + 1 by omega, show ((a : Int)).toNat = a by omega]
  have e : (4294967296 : Int) = ((2 ^ (31 - (a + n)) * 2 ^ (a + n + 1) : Nat) : Int) := by
    rw [← Nat.pow_add, show 31 - (a + n) + (a + n + 1) = 32 by omega]; rfl
  rw [e]
  have p1 : ∀ k : Nat, (2 : Int) ^ k = ((2 ^ k : Nat) : Int) := fun k => by simp
  rw [p1, p1, p1, p1]
  norm_cast
  rw [Nat.mul_comm y, Nat.mul_mod_mul_left, show 31 - n = (31 - (a + n)) + a by omega, Nat.pow_add 2 (31 - (a + n)) a, ← Nat.div_div_eq_div_mul, Nat.mul_div_cancel_left _ (Nat.two_pow_pos _),
    show a + n + 1 = a + (n + 1) by omega, Nat.pow_add, Nat.mod_mul_right_div_self]
theorem bt_31_12 (x : Int) : bt x 31 12 = x / 4096 % 1048576 := by simp [bt]
theorem bt_31_31 (x : Int) : bt x 31 31 = x / 2147483648 % 2 := by simp [bt]
theorem bt_19_12 (x : Int) : bt x 19 12 = x / 4096 % 256 := by simp [bt]
theorem bt_20_20 (x : Int) : bt x 20 20 = x / 1048576 % 2 := by simp [bt]
theorem bt_30_21 (x : Int) : bt x 30 21 = x / 2097152 % 1024 := by simp [bt]
theorem bt_10_1 (x : Int) : bt x 10 1 = x / 2 % 1024 := by simp [bt]
theorem bt_11_11 (x : Int) : bt x 11 11 = x / 2048 % 2 := by simp [bt]
theorem bt_30_20 (x : Int) : bt x 30 20 = x / 1048576 % 2048 := by simp [bt]
theorem bt_11_0 (x : Int) : bt x 11 0 = x % 4096 := by simp [bt]
theorem bt_24_20 (x : Int) : bt x 24 20 = x / 1048576 % 32 := by simp [bt]
theorem bt_4_0 (x : Int) : bt x 4 0 = x % 32 := by simp [bt]
theorem bt_7_7 (x : Int) : bt x 7 7 = x / 128 % 2 := by simp [bt]
theorem bt_30_25 (x : Int) : bt x 30 25 = x / 33554432 % 64 := by simp [bt]
theorem bt_11_8 (x : Int) : bt x 11 8 = x / 256 % 16 := by simp [bt]
theorem bt_12_12 (x : Int) : bt x 12 12 = x / 4096 % 2 := by simp [bt]
theorem bt_10_5 (x : Int) : bt x 10 5 = x / 32 % 64 := by simp [bt]
theorem bt_4_1 (x : Int) : bt x 4 1 = x / 2 % 16 := by simp [bt]
theorem bt_11_7 (x : Int) : bt x 11 7 = x / 128 % 32 := by simp [bt]
theorem bt_11_5 (x : Int) : bt x 11 5 = x / 32 % 128 := by simp [bt]
theorem bt_27_20 (x : Int) : bt x 27 20 = x / 1048576 % 256 := by simp [bt]
theorem bt_7_0 (x : Int) : bt x 7 0 = x % 256 := by simp [bt]
theorem bt_19_15 (x : Int) : bt x 19 15 = x / 32768 % 32 := by simp [bt]
theorem bt_26_26 (x : Int) : bt x 26 26 = x / 67108864 % 2 := by simp [bt]
theorem bt_25_25 (x : Int) : bt x 25 25 = x / 33554432 % 2 := by simp [bt]
theorem bt_6_0 (x : Int) : bt x 6 0 = x % 128 := by simp [bt]
theorem orI (k m : Nat) {x y : Int} (hx : 0 ≤ x ∧ x ≤ 4294967295) (hy : 0 ≤ y ∧ y ≤ 4294967295) (h1 : x / 2 ^ k % 2 ^ m = 0) (h2 : y % 2 ^ k = 0) (h3 : y / 2 ^ k < 2 ^ m) : bits .or .u32 x y = x + y := by
  obtain ⟨a, rfl⟩ := Int.eq_ofNat_of_zero_le hx.1
  obtain ⟨b, rfl⟩ := Int.eq_ofNat_of_zero_le hy.1
  have p1 : ∀ k : Nat, (2 : Int) ^ k = ((2 ^ k : Nat) : Int) := fun k => by simp
  rw [p1] at h1 h2 h3
  rw [p1] at h1 h3
  norm_cast at h1 h2 h3
  obtain ⟨c, rfl⟩ := Nat.dvd_of_mod_eq_zero h2
  rw [Nat.mul_div_cancel_left _ (Nat.two_pow_pos k)] at h3
  rw [u32_or_nat _ _ (by omega) (by omega), Nat.mul_comm, or_free h1 h3]
  simp
theorem xorI (k m : Nat) {x y : Int} (hx : 0 ≤ x ∧ x ≤ 4294967295) (hy : 0 ≤ y ∧ y ≤ 4294967295) (h1 : x / 2 ^ k % 2 ^ m = 0) (h2 : y % 2 ^ k = 0) (h3 : y / 2 ^ k < 2 ^ m) : bits .xor .u32 x y = x + y := by
  obtain ⟨a, rfl⟩ := Int.eq_ofNat_of_zero_le hx.1
  obtain ⟨b, rfl⟩ := Int.eq_ofNat_of_zero_le hy.1
  have p1 : ∀ k : Nat, (2 : Int) ^ k = ((2 ^ k : Nat) : Int) := fun k => by simp
  rw [p1] at h1 h2 h3
  rw [p1] at h1 h3
  norm_cast at h1 h2 h3
  obtain ⟨c, rfl⟩ := Nat.dvd_of_mod_eq_zero h2
  rw [Nat.mul_div_cancel_left _ (Nat.two_pow_pos k)] at h3
  rw [u32_xor_nat _ _ (by omega) (by omega), Nat.mul_comm, xor_free h1 h3]
  simp
theorem or3 (k1 m1 k2 m2 : Nat) {a b c : Int} (ha : 0 ≤ a ∧ a ≤ 4294967295) (hb : 0 ≤ b ∧ b ≤ 4294967295) (hc : 0 ≤ c ∧ c ≤ 4294967295) (hab : a + b ≤ 4294967295)
    (b1 : a / 2 ^ k1 % 2 ^ m1 = 0) (b2 : b % 2 ^ k1 = 0) (b3 : b / 2 ^ k1 < 2 ^ m1) (c1 : (a + b) / 2 ^ k2 % 2 ^ m2 = 0) (c2 : c % 2 ^ k2 = 0) (c3 : c / 2 ^ k2 < 2 ^ m2) :
    bits .or .u32 (bits .or .u32 a b) c = a + b + c := by
  rw [orI k1 m1 ha hb b1 b2 b3, orI k2 m2 (by omega) hc c1 c2 c3]
theorem or4 (k1 m1 k2 m2 k3 m3 : Nat) {a b c d : Int} (ha : 0 ≤ a ∧ a ≤ 4294967295) (hb : 0 ≤ b ∧ b ≤ 4294967295) (hc : 0 ≤ c ∧ c ≤ 4294967295) (hd : 0 ≤ d ∧ d ≤ 4294967295) (habc : a + b + c ≤ 4294967295)
    (b1 : a / 2 ^ k1 % 2 ^ m1 = 0) (b2 : b % 2 ^ k1 = 0) (b3 : b / 2 ^ k1 < 2 ^ m1) (c1 : (a + b) / 2 ^ k2 % 2 ^ m2 = 0) (c2 : c % 2 ^ k2 = 0) (c3 : c / 2 ^ k2 < 2 ^ m2) (d1 : (a + b + c) / 2 ^ k3 % 2 ^ m3 = 0) (d2 : d % 2 ^ k3 = 0) (d3 : d / 2 ^ k3 < 2 ^ m3) :
    bits .or .u32 (bits .or .u32 (bits .or .u32 a b) c) d = a + b + c + d := by
  rw [or3 k1 m1 k2 m2 ha hb hc (by omega) b1 b2 b3 c1 c2 c3, orI k3 m3 (by omega) hd d1 d2 d3]
theorem or5 (k1 m1 k2 m2 k3 m3 k4 m4 : Nat) {a b c d e : Int} (ha : 0 ≤ a ∧ a ≤ 4294967295) (hb : 0 ≤ b ∧ b ≤ 4294967295) (hc : 0 ≤ c ∧ c ≤ 4294967295) (hd : 0 ≤ d ∧ d ≤ 4294967295) (he : 0 ≤ e ∧ e ≤ 4294967295) (habc : a + b + c + d ≤ 4294967295)
    (b1 : a / 2 ^ k1 % 2 ^ m1 = 0) (b2 : b % 2 ^ k1 = 0) (b3 : b / 2 ^ k1 < 2 ^ m1) (c1 : (a + b) / 2 ^ k2 % 2 ^ m2 = 0) (c2 : c % 2 ^ k2 = 0) (c3 : c / 2 ^ k2 < 2 ^ m2) (d1 : (a + b + c) / 2 ^ k3 % 2 ^ m3 = 0) (d2 : d % 2 ^ k3 = 0) (d3 : d / 2 ^ k3 < 2 ^ m3)
    (e1 : (a + b + c + d) / 2 ^ k4 % 2 ^ m4 = 0) (e2 : e % 2 ^ k4 = 0) (e3 : e / 2 ^ k4 < 2 ^ m4) :
    bits .or .u32 (bits .or .u32 (bits .or .u32 (bits .or .u32 a b) c) d) e = a + b + c + d + e := by
  rw [or4 k1 m1 k2 m2 k3 m3 ha hb hc hd (by omega) b1 b2 b3 c1 c2 c3 d1 d2 d3, orI k4 m4 (by omega) he e1 e2 e3]
/-- with what the word's own sign adds -/
def sx (x n s : Int) : Int := if x < 2147483648 then n else n + s
def upperImm (x : Int) : Int := x / 4096 * 4096
def jumpImm (x : Int) : Int := sx x (x / 4096 % 256 * 4096 + x / 1048576 % 2 * 2048 + x / 2097152 % 1024 * 2) 4293918720
def shortImm (x : Int) : Int := sx x (x / 1048576 % 2048) 4294965248
def shiftImm (x : Int) : Int := x / 1048576 % 32
def branchImm (x : Int) : Int := sx x (x / 128 % 2 * 2048 + x / 33554432 % 64 * 32 + x / 256 % 16 * 2) 4294963200
def storeImm (x : Int) : Int := sx x (x / 33554432 % 64 * 32 + x / 128 % 32) 4294965248
def noImm (_ : Int) : Int := 0
def fenceImm (x : Int) : Int := x / 1048576 % 256
def jumpPlace (x : Int) : Int := x / 1048576 % 2 * 2147483648 + x / 2 % 1024 * 2097152 + x / 2048 % 2 * 1048576 + x / 4096 % 256 * 4096
def shortPlace (x : Int) : Int := x % 4096 * 1048576
def shiftPlace (x : Int) : Int := x % 32 * 1048576
def branchPlace (x : Int) : Int := x / 4096 % 2 * 2147483648 + x / 32 % 64 * 33554432 + x / 2 % 16 * 256 + x / 2048 % 2 * 128
def storePlace (x : Int) : Int := x / 32 % 128 * 33554432 + x % 32 * 128
def fencePlace (x : Int) : Int := x % 256 * 1048576

theorem neg31 {x : Int} (hx : Wd x) (K : Int) (M : Int) (hK : K = 2048 ∧ M = 4294965248 ∨ K = 4096 ∧ M = 4294963200 ∨ K = 1048576 ∧ M = 4293918720) : -bt x 31 31 % 4294967296 * K % 4294967296 = if x < 2147483648 then 0 else M := by
  unfold Wd at hx
  rw [bt_31_31]
  rcases hK with ⟨rfl, rfl⟩ | ⟨rfl, rfl⟩ | ⟨rfl, rfl⟩ <;> (split <;> omega)
theorem upperImm_walk {x : Int} (hx : Wd x) : bt x 31 12 * 4096 % 4294967296 = upperImm x := by
  unfold Wd at hx; rw [bt_31_12]; unfold upperImm; omega
theorem shortPlace_walk {x : Int} (hx : Wd x) : bt x 11 0 * 1048576 % 4294967296 = shortPlace x := by
  unfold Wd at hx; rw [bt_11_0]; unfold shortPlace; omega
theorem shiftPlace_walk {x : Int} (hx : Wd x) : bt x 4 0 * 1048576 % 4294967296 = shiftPlace x := by
  unfold Wd at hx; rw [bt_4_0]; unfold shiftPlace; omega
theorem fencePlace_walk {x : Int} (hx : Wd x) : bt x 7 0 * 1048576 % 4294967296 = fencePlace x := by
  unfold Wd at hx; rw [bt_7_0]; unfold fencePlace; omega
theorem shiftImm_walk (x : Int) : bt x 24 20 = shiftImm x := bt_24_20 x
theorem fenceImm_walk (x : Int) : bt x 27 20 = fenceImm x := bt_27_20 x
theorem jumpImm_walk {x : Int} (hx : Wd x) : bits BinOp.or IntKind.u32 (bits BinOp.or IntKind.u32 (bits BinOp.or IntKind.u32 (-bt x 31 31 % 4294967296 * 1048576 % 4294967296) (bt x 19 12 * 4096 % 4294967296)) (bt x 20 20 * 2048 % 4294967296)) (bt x 30 21 * 2 % 4294967296) = jumpImm x := by
  rw [neg31 hx 1048576 4293918720 (by omega), bt_19_12, bt_20_20, bt_30_21]
  unfold Wd at hx; unfold jumpImm sx
  split
  all_goals
    rw [or4 12 8 11 1 1 10 (by omega) (by omega) (by omega) (by omega) (by omega) (by omega) (by omega) (by omega) (by omega) (by omega) (by omega) (by omega) (by omega) (by omega)]
    omega
theorem shortImm_walk {x : Int} (hx : Wd x) : bits BinOp.or IntKind.u32 (-bt x 31 31 % 4294967296 * 2048 % 4294967296) (bt x 30 20) = shortImm x := by
  rw [neg31 hx 2048 4294965248 (by omega), bt_30_20]
  unfold Wd at hx; unfold shortImm sx
  split
  all_goals
    rw [orI 0 11 (by omega) (by omega) (by omega) (by omega) (by omega)]
    omega
theorem branchImm_walk {x : Int} (hx : Wd x) : bits BinOp.or IntKind.u32 (bits BinOp.or IntKind.u32 (bits BinOp.or IntKind.u32 (-bt x 31 31 % 4294967296 * 4096 % 4294967296) (bt x 7 7 * 2048 % 4294967296)) (bt x 30 25 * 32 % 4294967296)) (bt x 11 8 * 2 % 4294967296) = branchImm x := by
  rw [neg31 hx 4096 4294963200 (by omega), bt_7_7, bt_30_25, bt_11_8]
  unfold Wd at hx; unfold branchImm sx
  have a1 : 0 ≤ x / 128 % 2 ∧ x / 128 % 2 ≤ 1 := by omega
  have a2 : 0 ≤ x / 33554432 % 64 ∧ x / 33554432 % 64 ≤ 63 := by omega
  have a3 : 0 ≤ x / 256 % 16 ∧ x / 256 % 16 ≤ 15 := by omega
  generalize x / 128 % 2 = y1 at a1 ⊢
  generalize x / 33554432 % 64 = y2 at a2 ⊢
  generalize x / 256 % 16 = y3 at a3 ⊢
  split
  all_goals
    rw [or4 11 1 5 6 1 4 (by omega) (by omega) (by omega) (by omega) (by omega) (by omega) (by omega) (by omega) (by omega) (by omega) (by omega) (by omega) (by omega) (by omega)]
    omega
theorem storeImm_walk {x : Int} (hx : Wd x) : bits BinOp.or IntKind.u32 (bits BinOp.or IntKind.u32 (-bt x 31 31 % 4294967296 * 2048 % 4294967296) (bt x 30 25 * 32 % 4294967296)) (bt x 11 7) = storeImm x := by
  rw [neg31 hx 2048 4294965248 (by omega), bt_30_25, bt_11_7]
  unfold Wd at hx; unfold storeImm sx
  split
  all_goals
    rw [or3 5 6 0 5 (by omega) (by omega) (by omega) (by omega) (by omega) (by omega) (by omega) (by omega) (by omega) (by omega)]
    omega
theorem jumpPlace_walk {x : Int} (hx : Wd x) : bits BinOp.or IntKind.u32 (bits BinOp.or IntKind.u32 (bits BinOp.or IntKind.u32 (bt x 20 20 * 2147483648 % 4294967296) (bt x 10 1 * 2097152 % 4294967296)) (bt x 11 11 * 1048576 % 4294967296)) (bt x 19 12 * 4096 % 4294967296) = jumpPlace x := by
  rw [bt_20_20, bt_10_1, bt_11_11, bt_19_12]
  unfold Wd at hx; unfold jumpPlace
  rw [or4 21 10 20 1 12 8 (by omega) (by omega) (by omega) (by omega) (by omega) (by omega) (by omega) (by omega) (by omega) (by omega) (by omega) (by omega) (by omega) (by omega)]
  omega
theorem branchPlace_walk {x : Int} (hx : Wd x) : bits BinOp.or IntKind.u32 (bits BinOp.or IntKind.u32 (bits BinOp.or IntKind.u32 (bt x 12 12 * 2147483648 % 4294967296) (bt x 10 5 * 33554432 % 4294967296)) (bt x 4 1 * 256 % 4294967296)) (bt x 11 11 * 128 % 4294967296) = branchPlace x := by
  rw [bt_12_12, bt_10_5, bt_4_1, bt_11_11]
  unfold Wd at hx; unfold branchPlace
  rw [or4 25 6 8 4 7 1 (by omega) (by omega) (by omega) (by omega) (by omega) (by omega) (by omega) (by omega) (by omega) (by omega) (by omega) (by omega) (by omega) (by omega)]
  omega
theorem storePlace_walk {x : Int} (hx : Wd x) : bits BinOp.or IntKind.u32 (bt x 11 5 * 33554432 % 4294967296) (bt x 4 0 * 128 % 4294967296) = storePlace x := by
  rw [bt_11_5, bt_4_0]
  unfold Wd at hx; unfold storePlace
  rw [orI 7 5 (by omega) (by omega) (by omega) (by omega) (by omega)]
  omega
theorem noImm_walk (x : Int) : 0 = noImm x := rfl
theorem places {x : Int} (hx : Wd x) : Wd (upperImm x) ∧ Wd (jumpPlace x) ∧ Wd (shortPlace x) ∧ Wd (shiftPlace x) ∧ Wd (branchPlace x) ∧ Wd (storePlace x) ∧ Wd (fencePlace x) := by
  unfold Wd upperImm jumpPlace shortPlace shiftPlace branchPlace storePlace fencePlace at *; omega
theorem imms {x : Int} (hx : Wd x) : Wd (upperImm x) ∧ Wd (jumpImm x) ∧ Wd (shortImm x) ∧ Wd (shiftImm x) ∧ Wd (branchImm x) ∧ Wd (storeImm x) ∧ Wd (fenceImm x) := by
  unfold Wd upperImm jumpImm shortImm shiftImm branchImm storeImm fenceImm sx at *
  refine ⟨?_, ?_, ?_, ?_, ?_, ?_, ?_⟩ <;> (try split) <;> omega
end Is
end Go.Proofs.YtianojbdabeoeaaGreatDoor
