/-
  The plain mathematics of words of 32 bits: what each function of layer 1 tells, as whole numbers, and why the ways in which the program and the document reckon come to the same. Nothing of the program stands here.
-/
import Derived.RowKit
namespace Go.Proofs.YtianojbdabeoeaaGreatDoor
namespace Ar
open Go.RowKit

def md (n : Int) : Int := n % 4294967296
def sg (n : Int) : Int := if n < 2147483648 then n else n - 4294967296
def add (a b : Int) : Int := md (a + b)
def sub (a b : Int) : Int := md (a - b)
def lo (x : Int) : Int := md x
def hi (x : Int) : Int := md (x / 4294967296)
def mul (a b : Int) : Int := lo (a * b)
def mulhu (a b : Int) : Int := hi (a * b)
def mulh (a b : Int) : Int := hi (sg a * sg b)
def mulhsu (a b : Int) : Int := hi (sg a * b)
def div (a b : Int) : Int := if b = 0 then 4294967295 else md ((sg a).tdiv (sg b))
def divu (a b : Int) : Int := if b = 0 then 4294967295 else a / b
def rem (a b : Int) : Int := if b = 0 then a else md ((sg a).tmod (sg b))
def remu (a b : Int) : Int := if b = 0 then a else a % b
def p2 (k : Nat) : Int := 2 ^ k
def pw (n : Int) : Int := 2 ^ (n % 32).toNat
def shl (a n : Int) : Int := md (a * pw n)
def shr (a n : Int) : Int := a / pw n
def sar (a n : Int) : Int := md (sg a / pw n)
def less (a b : Int) : Bool := decide (sg a < sg b)
def lessu (a b : Int) : Bool := decide (a < b)
def ext (n bits : Int) : Int := if bits < 1 ∨ 32 ≤ bits then n else if 2 ^ bits.toNat / 2 ≤ n % 2 ^ bits.toNat then md (n % 2 ^ bits.toNat - 2 ^ bits.toNat) else md (n % 2 ^ bits.toNat)

/-- A word. -/
def Wd (n : Int) : Prop := 0 ≤ n ∧ n ≤ 4294967295

theorem md_wd (n : Int) : Wd (md n) := by unfold Wd md; omega
theorem sg_bd {n : Int} (h : Wd n) : -2147483648 ≤ sg n ∧ sg n ≤ 2147483647 := by unfold Wd at h; unfold sg; split <;> omega
theorem wrap32_sg {n : Int} (h : Wd n) : wrap32 n = sg n := by unfold Wd at h; unfold sg wrap32; split <;> omega

/-! Products: what the halves of a wrapped product are -/
theorem u64_wrap (x : Int) : IntKind.u64.wrap x = x % 18446744073709551616 := by
  simp [IntKind.wrap, IntKind.bits, IntKind.signed]
theorem lo_of (x : Int) : IntKind.u64.wrap (wrap64 x) % 4294967296 = lo x := by
  rw [u64_wrap]; unfold lo md wrap64; omega
theorem hi_of (x : Int) : IntKind.u64.wrap (wrap64 x) / 4294967296 % 4294967296 = hi x := by
  rw [u64_wrap]; unfold hi md wrap64; omega

theorem pw_pos (n : Int) : 1 ≤ pw n := by
  unfold pw
  have : (0 : Int) < 2 ^ (n % 32).toNat := Int.pow_pos (by decide)
  omega

/-! Quotients and what is left, told by sizes and signs -/
theorem sg_pos {a : Int} (h : a < 2147483648) : sg a = a := by unfold sg; rw [if_pos h]
theorem sg_neg {a : Int} (h : 2147483648 ≤ a) : sg a = -(4294967296 - a) := by unfold sg; rw [if_neg (by omega)]; omega
theorem md_in {x : Int} (h : Wd x) : md x = x := by unfold Wd at h; unfold md; omega
theorem quo_bd {x y m : Int} (h0 : 0 ≤ x) (h1 : x ≤ m) (h2 : 1 ≤ y) : 0 ≤ x / y ∧ x / y ≤ m :=
  ⟨Int.ediv_nonneg h0 (by omega), Int.le_trans (Int.ediv_le_self _ h0) h1⟩
theorem rem_bd {x y m : Int} (h2 : 1 ≤ y) (h1 : y ≤ m) : 0 ≤ x % y ∧ x % y ≤ m :=
  ⟨Int.emod_nonneg _ (by omega), by have := Int.emod_lt_of_pos x (show 0 < y by omega); omega⟩

theorem div_pp {a b : Int} (h0 : 0 ≤ a) (h1 : 1 ≤ b) (h2 : a < 2147483648) (h3 : b < 2147483648) : a / b = div a b := by
  unfold div; rw [if_neg (by omega), sg_pos h2, sg_pos h3, Int.tdiv_eq_ediv_of_nonneg h0]
  have q := quo_bd h0 (show a ≤ 4294967295 by omega) h1
  exact (md_in q).symm
theorem div_pn {a b : Int} (h0 : 0 ≤ a) (h2 : a < 2147483648) (h3 : 2147483648 ≤ b) : -(a / (4294967296 - b)) % 4294967296 = div a b := by
  unfold div; rw [if_neg (by omega), sg_pos h2, sg_neg h3, Int.tdiv_neg, Int.tdiv_eq_ediv_of_nonneg h0]; rfl
theorem div_np {a b : Int} (h0 : a ≤ 4294967295) (h1 : 1 ≤ b) (h2 : 2147483648 ≤ a) (h3 : b < 2147483648) : -((4294967296 - a) / b) % 4294967296 = div a b := by
  unfold div; rw [if_neg (by omega), sg_neg h2, sg_pos h3, Int.neg_tdiv, Int.tdiv_eq_ediv_of_nonneg (by omega)]; rfl
theorem div_nn {a b : Int} (h0 : a ≤ 4294967295) (h1 : b ≤ 4294967295) (h2 : 2147483648 ≤ a) (h3 : 2147483648 ≤ b) : (4294967296 - a) / (4294967296 - b) = div a b := by
  unfold div; rw [if_neg (by omega), sg_neg h2, sg_neg h3, Int.neg_tdiv, Int.tdiv_neg, Int.neg_neg, Int.tdiv_eq_ediv_of_nonneg (by omega)]
  have q := quo_bd (show 0 ≤ 4294967296 - a by omega) (show 4294967296 - a ≤ 4294967295 by omega) (show 1 ≤ 4294967296 - b by omega)
  exact (md_in q).symm
theorem rem_pp {a b : Int} (h0 : 0 ≤ a) (h1 : 1 ≤ b) (h2 : a < 2147483648) (h3 : b < 2147483648) : a % b = rem a b := by
  unfold rem; rw [if_neg (by omega), sg_pos h2, sg_pos h3, Int.tmod_eq_emod_of_nonneg h0]
  have q := rem_bd (x := a) h1 (show b ≤ 4294967295 by omega)
  exact (md_in q).symm
theorem rem_pn {a b : Int} (h0 : 0 ≤ a) (h1 : b ≤ 4294967295) (h2 : a < 2147483648) (h3 : 2147483648 ≤ b) : a % (4294967296 - b) = rem a b := by
  unfold rem; rw [if_neg (by omega), sg_pos h2, sg_neg h3, Int.tmod_neg, Int.tmod_eq_emod_of_nonneg h0]
  have q := rem_bd (x := a) (show 1 ≤ 4294967296 - b by omega) (show 4294967296 - b ≤ 4294967295 by omega)
  exact (md_in q).symm
theorem rem_np {a b : Int} (h0 : a ≤ 4294967295) (h1 : 1 ≤ b) (h2 : 2147483648 ≤ a) (h3 : b < 2147483648) : -((4294967296 - a) % b) % 4294967296 = rem a b := by
  unfold rem; rw [if_neg (by omega), sg_neg h2, sg_pos h3, Int.neg_tmod, Int.tmod_eq_emod_of_nonneg (by omega)]; rfl
theorem rem_nn {a b : Int} (h0 : a ≤ 4294967295) (h2 : 2147483648 ≤ a) (h3 : 2147483648 ≤ b) : -((4294967296 - a) % (4294967296 - b)) % 4294967296 = rem a b := by
  unfold rem; rw [if_neg (by omega), sg_neg h2, sg_neg h3, Int.neg_tmod, Int.tmod_neg, Int.tmod_eq_emod_of_nonneg (by omega)]; rfl

/-! Extend: up and down again -/
theorem ext_any {n b : Int} (h0 : Wd n) (hb : 1 ≤ b ∧ b ≤ 32) : sar (shl n (32 - b)) (32 - b) = ext n b := by
  unfold Wd at h0
  obtain ⟨k, rfl⟩ : ∃ k : Nat, b = k := ⟨b.toNat, by omega⟩
  have hk : k = 1 ∨ k = 2 ∨ k = 3 ∨ k = 4 ∨ k = 5 ∨ k = 6 ∨ k = 7 ∨ k = 8 ∨ k = 9 ∨ k = 10 ∨ k = 11 ∨ k = 12 ∨ k = 13 ∨ k = 14 ∨ k = 15 ∨ k = 16 ∨ k = 17 ∨ k = 18 ∨ k = 19 ∨ k = 20 ∨ k = 21 ∨ k = 22 ∨ k = 23 ∨ k = 24 ∨ k = 25 ∨ k = 26 ∨ k = 27 ∨ k = 28 ∨ k = 29 ∨ k = 30 ∨ k = 31 ∨ k = 32 := by omega
  clear hb
  rcases hk with rfl | rfl | rfl | rfl | rfl | rfl | rfl | rfl | rfl | rfl | rfl | rfl | rfl | rfl | rfl | rfl | rfl | rfl | rfl | rfl | rfl | rfl | rfl | rfl | rfl | rfl | rfl | rfl | rfl | rfl | rfl | rfl
  all_goals (simp [sar, shl, ext, pw, md, sg]; omega)
theorem ext_all {n b : Int} (h0 : Wd n) (hb : b < 1 ∨ 32 < b) : sar (shl n 0) 0 = ext n b := by
  unfold Wd at h0
  unfold ext; rw [if_pos (by omega)]
  simp [sar, shl, pw, md, sg]; split <;> omega

/-! The document's own way of reckoning -/
theorem p2_succ (k : Nat) : p2 (k + 1) = p2 k * 2 := Int.pow_succ 2 k
theorem p2_pos (k : Nat) : 1 ≤ p2 k := by
  have : (0 : Int) < 2 ^ k := Int.pow_pos (by decide)
  unfold p2; omega
theorem p2_le : ∀ {k : Nat}, k ≤ 31 → p2 k ≤ 2147483648 := by
  intro k hk
  have h : k = 0 ∨ k = 1 ∨ k = 2 ∨ k = 3 ∨ k = 4 ∨ k = 5 ∨ k = 6 ∨ k = 7 ∨ k = 8 ∨ k = 9 ∨ k = 10 ∨ k = 11 ∨ k = 12 ∨ k = 13 ∨ k = 14 ∨ k = 15 ∨ k = 16 ∨ k = 17 ∨ k = 18 ∨ k = 19 ∨ k = 20 ∨ k = 21 ∨ k = 22 ∨ k = 23 ∨ k = 24 ∨ k = 25 ∨ k = 26 ∨ k = 27 ∨ k = 28 ∨ k = 29 ∨ k = 30 ∨ k = 31 := by omega
  rcases h with rfl | rfl | rfl | rfl | rfl | rfl | rfl | rfl | rfl | rfl | rfl | rfl | rfl | rfl | rfl | rfl | rfl | rfl | rfl | rfl | rfl | rfl | rfl | rfl | rfl | rfl | rfl | rfl | rfl | rfl | rfl | rfl <;> decide
theorem pw_p2 (n : Int) : pw n = p2 (n % 32).toNat := rfl
theorem pw_le (n : Int) : pw n ≤ 2147483648 := by rw [pw_p2]; exact p2_le (by omega)
theorem md_step (a : Int) (k : Nat) : md (md (a * p2 k) * 2) = md (a * p2 (k + 1)) := by
  rw [p2_succ, ← Int.mul_assoc]; unfold md; omega

/-- A product of two numbers, each within its bounds. -/
theorem prod_bd {x y m k : Int} (hx : -m ≤ x ∧ x ≤ m) (hy : -k ≤ y ∧ y ≤ k) : -(m * k) ≤ x * y ∧ x * y ≤ m * k := by
  have a := Int.mul_nonneg (show 0 ≤ m - x by omega) (show 0 ≤ k + y by omega)
  have b := Int.mul_nonneg (show 0 ≤ m + x by omega) (show 0 ≤ k - y by omega)
  have c := Int.mul_nonneg (show 0 ≤ m - x by omega) (show 0 ≤ k - y by omega)
  have d := Int.mul_nonneg (show 0 ≤ m + x by omega) (show 0 ≤ k + y by omega)
  simp only [Int.sub_mul, Int.mul_sub, Int.add_mul, Int.mul_add] at a b c d
  omega
theorem prod_up {x y m k : Int} (hx : 0 ≤ x ∧ x ≤ m) (hy : 0 ≤ y ∧ y ≤ k) : 0 ≤ x * y ∧ x * y ≤ m * k :=
  ⟨Int.mul_nonneg hx.1 hy.1, (prod_bd (m := m) (k := k) (by omega) (by omega)).2⟩

theorem mul_parts (a b : Int) : md (a * (b % 65536) + md (a * (b / 65536)) % 65536 * 65536) = mul a b := by
  have e : a * b = a * (b % 65536) + a * (b / 65536) * 65536 := by
    rw [Int.mul_assoc, ← Int.mul_add]; congr 1; omega
  unfold mul lo
  rw [e]
  unfold md
  omega
theorem mulhu_parts (a b : Int) : md (a / 65536 * (b / 65536) + (a / 65536 * (b % 65536) + a % 65536 * (b / 65536) + a % 65536 * (b % 65536) / 65536) / 65536) = mulhu a b := by
  have e : a * b = (a / 65536 * (b / 65536)) * 4294967296 + (a / 65536 * (b % 65536) + a % 65536 * (b / 65536)) * 65536 + a % 65536 * (b % 65536) := by
    have ha : a = a / 65536 * 65536 + a % 65536 := by omega
    have hb : b = b / 65536 * 65536 + b % 65536 := by omega
    generalize a / 65536 = ah at *
    generalize a % 65536 = al at *
    generalize b / 65536 = bh at *
    generalize b % 65536 = bl at *
    subst ha hb
    simp only [Int.add_mul, Int.mul_add]
    have e1 : ah * 65536 * (bh * 65536) = ah * bh * 4294967296 := by
      rw [Int.mul_assoc, Int.mul_comm 65536 (bh * 65536), Int.mul_assoc bh, ← Int.mul_assoc]; rfl
    have e2 : ah * 65536 * bl = ah * bl * 65536 := by rw [Int.mul_assoc, Int.mul_comm 65536 bl, Int.mul_assoc]
    have e3 : al * (bh * 65536) = al * bh * 65536 := by rw [Int.mul_assoc]
    omega
  unfold mulhu hi
  rw [e]
  generalize a / 65536 * (b / 65536) = p
  generalize a / 65536 * (b % 65536) = q
  generalize a % 65536 * (b / 65536) = r
  generalize a % 65536 * (b % 65536) = s
  congr 1
  omega

/-- Rounded towards 0, and down. -/
theorem tdiv_neg_of {x p : Int} (h : x < 0) : x.tdiv p = -(-x / p) := by
  rw [show x = -(-x) from by omega, Int.neg_tdiv, Int.tdiv_eq_ediv_of_nonneg (by omega), Int.neg_neg]
theorem floor_even {x p : Int} (hp : 1 ≤ p) (h : -x / p * p = -x) : x / p = -(-x / p) := by
  have e : x = p * (-(-x / p)) := by rw [Int.mul_neg, Int.mul_comm]; omega
  conv => lhs; rw [e]
  exact Int.mul_ediv_cancel_left _ (by omega)
theorem floor_odd {x p : Int} (hp : 1 ≤ p) (h : -x / p * p ≠ -x) : x / p = -(-x / p) - 1 := by
  have d := Int.mul_ediv_add_emod (-x) p
  have r0 := Int.emod_nonneg (-x) (show p ≠ 0 by omega)
  have r1 := Int.emod_lt_of_pos (-x) (show 0 < p by omega)
  generalize hq : -x / p = q at *
  generalize hr : -x % p = r at *
  rw [Int.mul_comm] at h
  have e : x = (p - r) + p * (-q - 1) := by rw [Int.mul_sub, Int.mul_neg]; omega
  conv => lhs; rw [e]
  rw [Int.add_mul_ediv_left _ _ (by omega), Int.ediv_eq_zero_of_lt (by omega) (by omega)]
  omega
theorem near_bd {x p : Int} (hp : 1 ≤ p) (h : x < 0) : 0 ≤ -x / p ∧ -x / p ≤ -x ∧ 0 ≤ -x / p * p ∧ -x / p * p ≤ -x := by
  have q := quo_bd (show 0 ≤ -x by omega) (Int.le_refl (-x)) hp
  have d := Int.mul_ediv_add_emod (-x) p
  have r0 := Int.emod_nonneg (-x) (show p ≠ 0 by omega)
  have m := Int.mul_nonneg q.1 (show 0 ≤ p by omega)
  rw [Int.mul_comm] at d
  exact ⟨q.1, q.2, m, by omega⟩

/-! Quotients of numbers with their signs: how far they reach -/
theorem sg_nz {b : Int} (hb : Wd b) (h : b ≠ 0) : sg b ≠ 0 := by unfold Wd at hb; unfold sg; split <;> omega
theorem tdiv_bd {x y m : Int} (hx : -m ≤ x ∧ x ≤ m) (hy : y ≠ 0) : -m ≤ x.tdiv y ∧ x.tdiv y ≤ m := by
  have key : ∀ u v : Int, 0 ≤ u → u ≤ m → 1 ≤ v → 0 ≤ u.tdiv v ∧ u.tdiv v ≤ m := fun u v h0 h1 h2 => by
    rw [Int.tdiv_eq_ediv_of_nonneg h0]; exact quo_bd h0 h1 h2
  by_cases a : 0 ≤ x <;> by_cases b : 0 ≤ y
  · have := key x y a hx.2 (by omega); omega
  · have := key x (-y) a hx.2 (by omega); rw [Int.tdiv_neg] at this; omega
  · have := key (-x) y (by omega) (by omega) (by omega); rw [Int.neg_tdiv] at this; omega
  · have := key (-x) (-y) (by omega) (by omega) (by omega); rw [Int.neg_tdiv, Int.tdiv_neg, Int.neg_neg] at this; omega
theorem emod_up {u v : Int} (h : 0 ≤ u) (hv : 1 ≤ v) : u % v ≤ u := by
  have d := Int.mul_ediv_add_emod u v
  have n := Int.mul_nonneg (show 0 ≤ v by omega) (Int.ediv_nonneg h (show 0 ≤ v by omega))
  omega
theorem tmod_bd {x y m : Int} (hx : -m ≤ x ∧ x ≤ m) : -m ≤ x.tmod y ∧ x.tmod y ≤ m := by
  have key : ∀ u : Int, 0 ≤ u → u ≤ m → 0 ≤ u.tmod y ∧ u.tmod y ≤ m := fun u h0 h1 => by
    rw [Int.tmod_eq_emod_of_nonneg h0]
    by_cases hy : y = 0
    · subst hy; rw [Int.emod_zero]; omega
    · refine ⟨Int.emod_nonneg _ hy, Int.le_trans ?_ h1⟩
      by_cases hp : 0 ≤ y
      · exact emod_up h0 (by omega)
      · have := emod_up (v := -y) h0 (by omega); rw [Int.emod_neg] at this; exact this
  by_cases a : 0 ≤ x
  · have := key x a hx.2; omega
  · have := key (-x) (by omega) (by omega); rw [Int.neg_tmod] at this; omega
theorem sdiv_bd {a b : Int} (ha : Wd a) (hb : Wd b) (h : b ≠ 0) : -2147483648 ≤ (sg a).tdiv (sg b) ∧ (sg a).tdiv (sg b) ≤ 2147483648 :=
  tdiv_bd (by have := sg_bd ha; omega) (sg_nz hb h)
theorem srem_bd {a b : Int} (ha : Wd a) : -2147483648 ≤ (sg a).tmod (sg b) ∧ (sg a).tmod (sg b) ≤ 2147483648 :=
  tmod_bd (by have := sg_bd ha; omega)

/-! What follows: quotient times divisor and what is left; what falls off; just one of below, above, alike -/
theorem div_wd {a b : Int} : Wd (div a b) := by
  unfold div; split
  · exact ⟨by decide, by decide⟩
  · exact md_wd _
theorem divu_wd {a b : Int} (ha : Wd a) (hb : Wd b) : Wd (divu a b) := by
  unfold divu; split
  · exact ⟨by decide, by decide⟩
  · unfold Wd at hb; exact quo_bd ha.1 ha.2 (by omega)
theorem again_s {a b : Int} (ha : Wd a) (hb : b ≠ 0) : add (mul (div a b) b) (rem a b) = a := by
  unfold div rem; rw [if_neg hb, if_neg hb]
  have t := Int.mul_tdiv_add_tmod (sg a) (sg b)
  generalize hQ : (sg a).tdiv (sg b) = Q at *
  generalize hR : (sg a).tmod (sg b) = R at *
  obtain ⟨k, hk⟩ : ∃ k, md Q = Q - 4294967296 * k := ⟨Q / 4294967296, by unfold md; omega⟩
  obtain ⟨j, hj⟩ : ∃ j, b = sg b + 4294967296 * j := ⟨(b - sg b) / 4294967296, by unfold sg; split <;> omega⟩
  obtain ⟨i, hi⟩ : ∃ i, a = sg a + 4294967296 * i := ⟨(a - sg a) / 4294967296, by unfold sg; split <;> omega⟩
  have e1 : md Q * b = sg b * Q + 4294967296 * (Q * j) - 4294967296 * (k * b) := by
    rw [hk, Int.sub_mul, Int.mul_assoc 4294967296 k b]
    have : Q * b = sg b * Q + 4294967296 * (Q * j) := by
      conv => lhs; rw [hj]
      rw [Int.mul_add, Int.mul_comm Q (sg b), ← Int.mul_assoc Q, Int.mul_comm Q 4294967296, Int.mul_assoc]
    omega
  unfold Wd at ha
  unfold add mul lo
  rw [e1]
  generalize sg b * Q = x at *
  generalize Q * j = y at *
  generalize k * b = z at *
  unfold md
  omega
theorem again_u {a b : Int} (ha : Wd a) (hb : b ≠ 0) : add (mul (divu a b) b) (remu a b) = a := by
  unfold divu remu; rw [if_neg hb, if_neg hb]
  have t := Int.mul_ediv_add_emod a b
  unfold Wd at ha
  rw [Int.mul_comm] at t
  unfold add mul lo md
  omega
theorem remu_lt {a b : Int} (hb : 1 ≤ b) : remu a b < b := by
  unfold remu; rw [if_neg (by omega)]; exact Int.emod_lt_of_pos _ (by omega)
theorem fell_of {a n : Int} (ha : Wd a) : sub a (shl (shr a n) n) = a % pw n := by
  have hp := pw_pos n
  have q := quo_bd ha.1 ha.2 hp
  have t := Int.mul_ediv_add_emod a (pw n)
  have r0 := Int.emod_nonneg a (show pw n ≠ 0 by omega)
  have m := Int.mul_nonneg q.1 (show 0 ≤ pw n by omega)
  unfold Wd at ha
  rw [Int.mul_comm] at t
  unfold sub shl shr md
  omega
theorem fell_lt {a n : Int} : a % pw n < pw n := Int.emod_lt_of_pos _ (by have := pw_pos n; omega)
theorem back_of {a b : Int} (ha : Wd a) : sub (add a b) b = a := by unfold Wd at ha; unfold sub add md; omega
theorem sg_inj {a b : Int} (ha : Wd a) (hb : Wd b) (h : sg a = sg b) : a = b := by
  unfold Wd at ha hb; unfold sg at h; split at h <;> split at h <;> omega

theorem fell_none {a : Int} (ha : Wd a) : sub a (shl (shr a 0) 0) = 0 := by
  rw [fell_of ha]; unfold pw; simp
theorem fell_some {a n : Int} (h0 : 0 ≤ n) (hn : n ≤ 31) : a % pw n < 2 ^ n.toNat % 4294967296 := by
  have e : pw n = 2 ^ n.toNat := by unfold pw; rw [show n % 32 = n from by omega]
  have l := pw_le n
  have p := pw_pos n
  rw [← e, show pw n % 4294967296 = pw n from by omega]
  exact fell_lt
theorem three {a b : Int} (ha : Wd a) (hb : Wd b) : (less a b = true ∧ less b a = false ∧ (a == b) = false) ∨ (less a b = false ∧ less b a = true ∧ (a == b) = false) ∨ (less a b = false ∧ less b a = false ∧ (a == b) = true) := by
  unfold less
  rcases Int.lt_trichotomy (sg a) (sg b) with h | h | h
  · refine .inl ⟨decide_eq_true h, decide_eq_false (by omega), ?_⟩
    have : ¬ a = b := fun e => by subst e; omega
    simp [this]
  · exact .inr (.inr ⟨decide_eq_false (by omega), decide_eq_false (by omega), by simp [sg_inj ha hb h]⟩)
  · refine .inr (.inl ⟨decide_eq_false (by omega), decide_eq_true h, ?_⟩)
    have : ¬ a = b := fun e => by subst e; omega
    simp [this]

end Ar
end Go.Proofs.YtianojbdabeoeaaGreatDoor
