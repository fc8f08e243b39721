/-
  What of a word is no part of its instruction, form by form; the word of an instruction as a sum; a word is no more than one instruction's.
-/
import Derived.Test.YtianojbdabeoeaaDoorIsPure
namespace Go.Proofs.YtianojbdabeoeaaDoor
set_option linter.unusedVariables false
set_option linter.unusedSimpArgs false
namespace Is
open Go.RowKit
theorem b01_mod2 (a : Int) : b01 (a % 2 == 1) = a % 2 := by
  rcases (show a % 2 = 0 ∨ a % 2 = 1 by omega) with h | h <;> rw [h] <;> rfl
theorem jp {p q r : Int} (b1 : 0 ≤ p ∧ p ≤ 255) (b2 : 0 ≤ q ∧ q ≤ 1) (b3 : 0 ≤ r ∧ r ≤ 1023) (t c : Int) (ht : (t = 0 ∧ c = 0) ∨ (t = 1 ∧ c = 4293918720)) : jumpPlace (p * 4096 + q * 2048 + r * 2 + c) = (p + 256 * q + 512 * r + 524288 * t) * 4096 := by
  have h1 : (p * 4096 + q * 2048 + r * 2 + c) / 1048576 % 2 = t := by omega
  have h2 : (p * 4096 + q * 2048 + r * 2 + c) / 2 % 1024 = r := by omega
  have h3 : (p * 4096 + q * 2048 + r * 2 + c) / 2048 % 2 = q := by omega
  have h4 : (p * 4096 + q * 2048 + r * 2 + c) / 4096 % 256 = p := by omega
  unfold jumpPlace
  rw [h1, h2, h3, h4]; omega
theorem bp {a b d : Int} (b1 : 0 ≤ a ∧ a ≤ 1) (b2 : 0 ≤ b ∧ b ≤ 63) (b3 : 0 ≤ d ∧ d ≤ 15) (t c : Int) (ht : (t = 0 ∧ c = 0) ∨ (t = 1 ∧ c = 4294963200)) : branchPlace (a * 2048 + b * 32 + d * 2 + c) = (b + 64 * t) * 33554432 + (a + 2 * d) * 128 := by
  have h1 : (a * 2048 + b * 32 + d * 2 + c) / 4096 % 2 = t := by omega
  have h2 : (a * 2048 + b * 32 + d * 2 + c) / 32 % 64 = b := by omega
  have h3 : (a * 2048 + b * 32 + d * 2 + c) / 2 % 16 = d := by omega
  have h4 : (a * 2048 + b * 32 + d * 2 + c) / 2048 % 2 = a := by omega
  unfold branchPlace
  rw [h1, h2, h3, h4]; omega
theorem pl1 {x : Int} (hx : Wd x) : pl 1 x = x / 128 * 128 := by
  unfold Wd at hx
  simp only [pl, layO, placeO, rdO, rs1O, rs2O, aqO, rlO, immO, hasRd, hasRs1, hasRs2, hasOrd, Nat.reduceBEq, Bool.or_false, Bool.or_true, Bool.false_or, Bool.not_false, Bool.not_true, Bool.true_or, Bool.or_self, if_true, if_false, Bool.false_eq_true, Int.add_zero, Int.zero_add, Bool.true_and, Bool.false_and]
  have key : upperImm (upperImm x) = x / 4096 * 4096 := by
    unfold upperImm
    omega
  rw [key]; try omega
theorem own1 {x : Int} (hx : Wd x) : ownO 1 x = x - pl 1 x := by
  show bits .xor .u32 x (pl 1 x) = _
  rw [pl1 hx]
  have hw := hx
  unfold Wd at hx
  exact xorD 7 25 hw (by unfold Wd; omega) (by omega) (by omega)
theorem pl2 {x : Int} (hx : Wd x) : pl 2 x = x / 128 * 128 := by
  unfold Wd at hx
  simp only [pl, layO, placeO, rdO, rs1O, rs2O, aqO, rlO, immO, hasRd, hasRs1, hasRs2, hasOrd, Nat.reduceBEq, Bool.or_false, Bool.or_true, Bool.false_or, Bool.not_false, Bool.not_true, Bool.true_or, Bool.or_self, if_true, if_false, Bool.false_eq_true, Int.add_zero, Int.zero_add, Bool.true_and, Bool.false_and]
  have key : jumpPlace (jumpImm x) = x / 4096 * 4096 := by
    have e : x / 4096 = x / 4096 % 256 + 256 * (x / 1048576 % 2) + 512 * (x / 2097152 % 1024) + 524288 * (x / 2147483648) := by omega
    have b1 : 0 ≤ x / 4096 % 256 ∧ x / 4096 % 256 ≤ 255 := by omega
    have b2 : 0 ≤ x / 1048576 % 2 ∧ x / 1048576 % 2 ≤ 1 := by omega
    have b3 : 0 ≤ x / 2097152 % 1024 ∧ x / 2097152 % 1024 ≤ 1023 := by omega
    rw [e]
    unfold jumpImm sx
    by_cases h : x < 2147483648
    · rw [if_pos h, show x / 2147483648 = 0 by omega]
      have q := jp b1 b2 b3 0 0 (by omega)
      simp only [Int.add_zero] at q
      exact q
    · rw [if_neg h, show x / 2147483648 = 1 by omega]
      exact jp b1 b2 b3 1 4293918720 (by omega)
  rw [key]; omega
theorem own2 {x : Int} (hx : Wd x) : ownO 2 x = x - pl 2 x := by
  show bits .xor .u32 x (pl 2 x) = _
  rw [pl2 hx]
  have hw := hx
  unfold Wd at hx
  exact xorD 7 25 hw (by unfold Wd; omega) (by omega) (by omega)
theorem pl3 {x : Int} (hx : Wd x) : pl 3 x = x / 128 % 32 * 128 + x / 32768 * 32768 := by
  unfold Wd at hx
  simp only [pl, layO, placeO, rdO, rs1O, rs2O, aqO, rlO, immO, hasRd, hasRs1, hasRs2, hasOrd, Nat.reduceBEq, Bool.or_false, Bool.or_true, Bool.false_or, Bool.not_false, Bool.not_true, Bool.true_or, Bool.or_self, if_true, if_false, Bool.false_eq_true, Int.add_zero, Int.zero_add, Bool.true_and, Bool.false_and]
  have key : shortPlace (shortImm x) = x / 1048576 * 1048576 := by
    unfold shortImm shortPlace sx
    (try split) <;> omega
  rw [key]; try omega
theorem own3 {x : Int} (hx : Wd x) : ownO 3 x = x - pl 3 x := by
  show bits .xor .u32 x (pl 3 x) = _
  rw [pl3 hx]
  have hw := hx
  unfold Wd at hx
  exact xor2D 7 5 15 17 hw (by unfold Wd; omega) (by unfold Wd; omega) (by omega) (by omega) (by omega) (by omega) (by omega) (by omega) (by omega)
theorem pl4 {x : Int} (hx : Wd x) : pl 4 x = x / 128 % 32 * 128 + x / 32768 * 32768 := by
  unfold Wd at hx
  simp only [pl, layO, placeO, rdO, rs1O, rs2O, aqO, rlO, immO, hasRd, hasRs1, hasRs2, hasOrd, Nat.reduceBEq, Bool.or_false, Bool.or_true, Bool.false_or, Bool.not_false, Bool.not_true, Bool.true_or, Bool.or_self, if_true, if_false, Bool.false_eq_true, Int.add_zero, Int.zero_add, Bool.true_and, Bool.false_and]
  have key : shortPlace (shortImm x) = x / 1048576 * 1048576 := by
    unfold shortImm shortPlace sx
    (try split) <;> omega
  rw [key]; try omega
theorem own4 {x : Int} (hx : Wd x) : ownO 4 x = x - pl 4 x := by
  show bits .xor .u32 x (pl 4 x) = _
  rw [pl4 hx]
  have hw := hx
  unfold Wd at hx
  exact xor2D 7 5 15 17 hw (by unfold Wd; omega) (by unfold Wd; omega) (by omega) (by omega) (by omega) (by omega) (by omega) (by omega) (by omega)
theorem pl5 {x : Int} (hx : Wd x) : pl 5 x = x / 128 % 32 * 128 + x / 32768 % 1024 * 32768 := by
  unfold Wd at hx
  simp only [pl, layO, placeO, rdO, rs1O, rs2O, aqO, rlO, immO, hasRd, hasRs1, hasRs2, hasOrd, Nat.reduceBEq, Bool.or_false, Bool.or_true, Bool.false_or, Bool.not_false, Bool.not_true, Bool.true_or, Bool.or_self, if_true, if_false, Bool.false_eq_true, Int.add_zero, Int.zero_add, Bool.true_and, Bool.false_and]
  have key : shiftPlace (shiftImm x) = x / 1048576 % 32 * 1048576 := by
    unfold shiftImm shiftPlace
    omega
  rw [key]; try omega
theorem own5 {x : Int} (hx : Wd x) : ownO 5 x = x - pl 5 x := by
  show bits .xor .u32 x (pl 5 x) = _
  rw [pl5 hx]
  have hw := hx
  unfold Wd at hx
  exact xor2D 7 5 15 10 hw (by unfold Wd; omega) (by unfold Wd; omega) (by omega) (by omega) (by omega) (by omega) (by omega) (by omega) (by omega)
theorem pl6 {x : Int} (hx : Wd x) : pl 6 x = x / 128 % 32 * 128 + x / 32768 * 32768 := by
  unfold Wd at hx
  simp only [pl, layO, placeO, rdO, rs1O, rs2O, aqO, rlO, immO, hasRd, hasRs1, hasRs2, hasOrd, Nat.reduceBEq, Bool.or_false, Bool.or_true, Bool.false_or, Bool.not_false, Bool.not_true, Bool.true_or, Bool.or_self, if_true, if_false, Bool.false_eq_true, Int.add_zero, Int.zero_add, Bool.true_and, Bool.false_and]
  have key : branchPlace (branchImm x) = x / 33554432 * 33554432 + x / 128 % 32 * 128 := by
    have e : x / 33554432 = x / 33554432 % 64 + 64 * (x / 2147483648) := by omega
    have e2 : x / 128 % 32 = x / 128 % 2 + 2 * (x / 256 % 16) := by omega
    have b1 : 0 ≤ x / 128 % 2 ∧ x / 128 % 2 ≤ 1 := by omega
    have b2 : 0 ≤ x / 33554432 % 64 ∧ x / 33554432 % 64 ≤ 63 := by omega
    have b3 : 0 ≤ x / 256 % 16 ∧ x / 256 % 16 ≤ 15 := by omega
    rw [e, e2]
    unfold branchImm sx
    by_cases h : x < 2147483648
    · rw [if_pos h, show x / 2147483648 = 0 by omega]
      have q := bp b1 b2 b3 0 0 (by omega)
      simp only [Int.add_zero] at q
      exact q
    · rw [if_neg h, show x / 2147483648 = 1 by omega]
      exact bp b1 b2 b3 1 4294963200 (by omega)
  rw [key]; omega
theorem own6 {x : Int} (hx : Wd x) : ownO 6 x = x - pl 6 x := by
  show bits .xor .u32 x (pl 6 x) = _
  rw [pl6 hx]
  have hw := hx
  unfold Wd at hx
  exact xor2D 7 5 15 17 hw (by unfold Wd; omega) (by unfold Wd; omega) (by omega) (by omega) (by omega) (by omega) (by omega) (by omega) (by omega)
theorem pl7 {x : Int} (hx : Wd x) : pl 7 x = x / 128 % 32 * 128 + x / 32768 * 32768 := by
  unfold Wd at hx
  simp only [pl, layO, placeO, rdO, rs1O, rs2O, aqO, rlO, immO, hasRd, hasRs1, hasRs2, hasOrd, Nat.reduceBEq, Bool.or_false, Bool.or_true, Bool.false_or, Bool.not_false, Bool.not_true, Bool.true_or, Bool.or_self, if_true, if_false, Bool.false_eq_true, Int.add_zero, Int.zero_add, Bool.true_and, Bool.false_and]
  have key : storePlace (storeImm x) = x / 33554432 * 33554432 + x / 128 % 32 * 128 := by
    unfold storeImm storePlace sx
    (try split) <;> omega
  rw [key]; try omega
theorem own7 {x : Int} (hx : Wd x) : ownO 7 x = x - pl 7 x := by
  show bits .xor .u32 x (pl 7 x) = _
  rw [pl7 hx]
  have hw := hx
  unfold Wd at hx
  exact xor2D 7 5 15 17 hw (by unfold Wd; omega) (by unfold Wd; omega) (by omega) (by omega) (by omega) (by omega) (by omega) (by omega) (by omega)
theorem pl8 {x : Int} (hx : Wd x) : pl 8 x = x / 128 % 32 * 128 + x / 32768 % 1024 * 32768 := by
  unfold Wd at hx
  simp only [pl, layO, placeO, rdO, rs1O, rs2O, aqO, rlO, immO, hasRd, hasRs1, hasRs2, hasOrd, Nat.reduceBEq, Bool.or_false, Bool.or_true, Bool.false_or, Bool.not_false, Bool.not_true, Bool.true_or, Bool.or_self, if_true, if_false, Bool.false_eq_true, Int.add_zero, Int.zero_add, Bool.true_and, Bool.false_and]
  omega
theorem own8 {x : Int} (hx : Wd x) : ownO 8 x = x - pl 8 x := by
  show bits .xor .u32 x (pl 8 x) = _
  rw [pl8 hx]
  have hw := hx
  unfold Wd at hx
  exact xor2D 7 5 15 10 hw (by unfold Wd; omega) (by unfold Wd; omega) (by omega) (by omega) (by omega) (by omega) (by omega) (by omega) (by omega)
theorem pl9 {x : Int} (hx : Wd x) : pl 9 x = x / 1048576 % 256 * 1048576 := by
  unfold Wd at hx
  simp only [pl, layO, placeO, rdO, rs1O, rs2O, aqO, rlO, immO, hasRd, hasRs1, hasRs2, hasOrd, Nat.reduceBEq, Bool.or_false, Bool.or_true, Bool.false_or, Bool.not_false, Bool.not_true, Bool.true_or, Bool.or_self, if_true, if_false, Bool.false_eq_true, Int.add_zero, Int.zero_add, Bool.true_and, Bool.false_and]
  have key : fencePlace (fenceImm x) = x / 1048576 % 256 * 1048576 := by
    unfold fenceImm fencePlace
    omega
  rw [key]; try omega
theorem own9 {x : Int} (hx : Wd x) : ownO 9 x = x - pl 9 x := by
  show bits .xor .u32 x (pl 9 x) = _
  rw [pl9 hx]
  have hw := hx
  unfold Wd at hx
  exact xorD 20 8 hw (by unfold Wd; omega) (by omega) (by omega)
theorem pl10 {x : Int} (hx : Wd x) : pl 10 x = 0 := by
  unfold Wd at hx
  simp only [pl, layO, placeO, rdO, rs1O, rs2O, aqO, rlO, immO, hasRd, hasRs1, hasRs2, hasOrd, Nat.reduceBEq, Bool.or_false, Bool.or_true, Bool.false_or, Bool.not_false, Bool.not_true, Bool.true_or, Bool.or_self, if_true, if_false, Bool.false_eq_true, Int.add_zero, Int.zero_add, Bool.true_and, Bool.false_and]
theorem own10 {x : Int} (hx : Wd x) : ownO 10 x = x - pl 10 x := by
  show bits .xor .u32 x (pl 10 x) = _
  rw [pl10 hx]
  have hw := hx
  unfold Wd at hx
  exact xorD 0 0 hw (by unfold Wd; omega) (by omega) (by omega)
theorem pl11 {x : Int} (hx : Wd x) : pl 11 x = x / 128 % 32 * 128 + x / 32768 % 4096 * 32768 := by
  unfold Wd at hx
  simp only [pl, layO, placeO, rdO, rs1O, rs2O, aqO, rlO, immO, hasRd, hasRs1, hasRs2, hasOrd, Nat.reduceBEq, Bool.or_false, Bool.or_true, Bool.false_or, Bool.not_false, Bool.not_true, Bool.true_or, Bool.or_self, if_true, if_false, Bool.false_eq_true, Int.add_zero, Int.zero_add, Bool.true_and, Bool.false_and]
  rw [b01_mod2, b01_mod2]
  omega
theorem own11 {x : Int} (hx : Wd x) : ownO 11 x = x - pl 11 x := by
  show bits .xor .u32 x (pl 11 x) = _
  rw [pl11 hx]
  have hw := hx
  unfold Wd at hx
  exact xor2D 7 5 15 12 hw (by unfold Wd; omega) (by unfold Wd; omega) (by omega) (by omega) (by omega) (by omega) (by omega) (by omega) (by omega)
theorem pl12 {x : Int} (hx : Wd x) : pl 12 x = x / 128 % 32 * 128 + x / 32768 % 32 * 32768 + x / 33554432 % 4 * 33554432 := by
  unfold Wd at hx
  simp only [pl, layO, placeO, rdO, rs1O, rs2O, aqO, rlO, immO, hasRd, hasRs1, hasRs2, hasOrd, Nat.reduceBEq, Bool.or_false, Bool.or_true, Bool.false_or, Bool.not_false, Bool.not_true, Bool.true_or, Bool.or_self, if_true, if_false, Bool.false_eq_true, Int.add_zero, Int.zero_add, Bool.true_and, Bool.false_and]
  rw [b01_mod2, b01_mod2]
  omega
theorem own12 {x : Int} (hx : Wd x) : ownO 12 x = x - pl 12 x := by
  show bits .xor .u32 x (pl 12 x) = _
  rw [pl12 hx]
  have hw := hx
  unfold Wd at hx
  have hz : Wd (x / 128 % 32 * 128 + x / 32768 % 32 * 32768) := by unfold Wd; omega
  have hv : Wd (x / 33554432 % 4 * 33554432) := by unfold Wd; omega
  have ht : Wd (x - (x / 128 % 32 * 128 + x / 32768 % 32 * 32768)) := by unfold Wd; omega
  have hl1 : x / 128 % 32 * 128 + x / 32768 % 32 * 32768 ≤ x % 33554432 := by omega
  have hl2 : (x - (x / 128 % 32 * 128 + x / 32768 % 32 * 32768)) / 33554432 = x / 33554432 := by
    generalize x / 128 % 32 * 128 + x / 32768 % 32 * 32768 = y at hl1 hz
    unfold Wd at hz
    omega
  have hl3 : (x - (x / 128 % 32 * 128 + x / 32768 % 32 * 32768)) / 2 ^ 25 % 2 ^ 2 = x / 33554432 % 4 * 33554432 / 2 ^ 25 := by
    show (x - (x / 128 % 32 * 128 + x / 32768 % 32 * 32768)) / 33554432 % 4 = x / 33554432 % 4 * 33554432 / 33554432
    rw [hl2]; omega
  rw [← xorI 25 2 hz hv (by omega) (by omega) (by omega), xor_assoc hw hz hv, xor2D 7 5 15 5 hw (by unfold Wd; omega) (by unfold Wd; omega) (by omega) (by omega) (by omega) (by omega) (by omega) (by omega) (by omega), xorD 25 2 ht hv (by omega) hl3, xorI 25 2 hz hv (by omega) (by omega) (by omega)]
  omega
theorem pl13 {x : Int} (hx : Wd x) : pl 13 x = x / 128 % 32 * 128 := by
  unfold Wd at hx
  simp only [pl, layO, placeO, rdO, rs1O, rs2O, aqO, rlO, immO, hasRd, hasRs1, hasRs2, hasOrd, Nat.reduceBEq, Bool.or_false, Bool.or_true, Bool.false_or, Bool.not_false, Bool.not_true, Bool.true_or, Bool.or_self, if_true, if_false, Bool.false_eq_true, Int.add_zero, Int.zero_add, Bool.true_and, Bool.false_and]
  omega
theorem own13 {x : Int} (hx : Wd x) : ownO 13 x = x - pl 13 x := by
  show bits .xor .u32 x (pl 13 x) = _
  rw [pl13 hx]
  have hw := hx
  unfold Wd at hx
  exact xorD 7 5 hw (by unfold Wd; omega) (by omega) (by omega)
theorem lay_or1 {w rd rs1 rs2 imm : Int} {aq rl : Bool} (hi : Wd imm) (hw : 0 ≤ w ∧ w ≤ 127) : bits .or .u32 w (layO 1 rd rs1 rs2 imm aq rl) = w + layO 1 rd rs1 rs2 imm aq rl ∧ Wd (w + layO 1 rd rs1 rs2 imm aq rl) := by
  unfold Wd at hi
  obtain ⟨L, hL⟩ : ∃ L, L = layO 1 rd rs1 rs2 imm aq rl := ⟨_, rfl⟩
  rw [← hL]
  simp only [layO, placeO, hasRd, hasRs1, hasRs2, hasOrd, upperImm, Nat.reduceBEq, Bool.or_false, Bool.or_true, Bool.false_or, Bool.not_false, Bool.not_true, Bool.true_or, Bool.or_self, if_true, if_false, Bool.false_eq_true, Int.add_zero, Int.zero_add, Bool.true_and, Bool.false_and] at hL
  have r1 : 0 ≤ rd % 32 ∧ rd % 32 ≤ 31 := by omega
  have r2 : 0 ≤ rs1 % 32 ∧ rs1 % 32 ≤ 31 := by omega
  have r3 : 0 ≤ rs2 % 32 ∧ rs2 % 32 ≤ 31 := by omega
  have hd0 : 0 ≤ imm / 4096 ∧ imm / 4096 ≤ 1048575 := by omega
  generalize imm / 4096 = d0 at hL hd0
  generalize rd % 32 = y1 at hL r1
  generalize rs1 % 32 = y2 at hL r2
  generalize rs2 % 32 = y3 at hL r3
  refine ⟨orI 7 25 (by omega) (by omega) (by omega) (by omega) (by omega), by unfold Wd; omega⟩
theorem lay_or2 {w rd rs1 rs2 imm : Int} {aq rl : Bool} (hi : Wd imm) (hw : 0 ≤ w ∧ w ≤ 127) : bits .or .u32 w (layO 2 rd rs1 rs2 imm aq rl) = w + layO 2 rd rs1 rs2 imm aq rl ∧ Wd (w + layO 2 rd rs1 rs2 imm aq rl) := by
  unfold Wd at hi
  obtain ⟨L, hL⟩ : ∃ L, L = layO 2 rd rs1 rs2 imm aq rl := ⟨_, rfl⟩
  rw [← hL]
  simp only [layO, placeO, hasRd, hasRs1, hasRs2, hasOrd, jumpPlace, Nat.reduceBEq, Bool.or_false, Bool.or_true, Bool.false_or, Bool.not_false, Bool.not_true, Bool.true_or, Bool.or_self, if_true, if_false, Bool.false_eq_true, Int.add_zero, Int.zero_add, Bool.true_and, Bool.false_and] at hL
  have r1 : 0 ≤ rd % 32 ∧ rd % 32 ≤ 31 := by omega
  have r2 : 0 ≤ rs1 % 32 ∧ rs1 % 32 ≤ 31 := by omega
  have r3 : 0 ≤ rs2 % 32 ∧ rs2 % 32 ≤ 31 := by omega
  have hd0 : 0 ≤ imm / 1048576 % 2 ∧ imm / 1048576 % 2 ≤ 1 := by omega
  have hd1 : 0 ≤ imm / 2 % 1024 ∧ imm / 2 % 1024 ≤ 1023 := by omega
  have hd2 : 0 ≤ imm / 2048 % 2 ∧ imm / 2048 % 2 ≤ 1 := by omega
  have hd3 : 0 ≤ imm / 4096 % 256 ∧ imm / 4096 % 256 ≤ 255 := by omega
  generalize imm / 1048576 % 2 = d0 at hL hd0
  generalize imm / 2 % 1024 = d1 at hL hd1
  generalize imm / 2048 % 2 = d2 at hL hd2
  generalize imm / 4096 % 256 = d3 at hL hd3
  generalize rd % 32 = y1 at hL r1
  generalize rs1 % 32 = y2 at hL r2
  generalize rs2 % 32 = y3 at hL r3
  refine ⟨orI 7 25 (by omega) (by omega) (by omega) (by omega) (by omega), by unfold Wd; omega⟩
theorem lay_or3 {w rd rs1 rs2 imm : Int} {aq rl : Bool} (hi : Wd imm) (hw : 0 ≤ w ∧ w ≤ 32767 ∧ w / 128 % 32 = 0) : bits .or .u32 w (layO 3 rd rs1 rs2 imm aq rl) = w + layO 3 rd rs1 rs2 imm aq rl ∧ Wd (w + layO 3 rd rs1 rs2 imm aq rl) := by
  unfold Wd at hi
  obtain ⟨L, hL⟩ : ∃ L, L = layO 3 rd rs1 rs2 imm aq rl := ⟨_, rfl⟩
  rw [← hL]
  simp only [layO, placeO, hasRd, hasRs1, hasRs2, hasOrd, shortPlace, Nat.reduceBEq, Bool.or_false, Bool.or_true, Bool.false_or, Bool.not_false, Bool.not_true, Bool.true_or, Bool.or_self, if_true, if_false, Bool.false_eq_true, Int.add_zero, Int.zero_add, Bool.true_and, Bool.false_and] at hL
  have r1 : 0 ≤ rd % 32 ∧ rd % 32 ≤ 31 := by omega
  have r2 : 0 ≤ rs1 % 32 ∧ rs1 % 32 ≤ 31 := by omega
  have r3 : 0 ≤ rs2 % 32 ∧ rs2 % 32 ≤ 31 := by omega
  have hd0 : 0 ≤ imm % 4096 ∧ imm % 4096 ≤ 4095 := by omega
  generalize imm % 4096 = d0 at hL hd0
  generalize rd % 32 = y1 at hL r1
  generalize rs1 % 32 = y2 at hL r2
  generalize rs2 % 32 = y3 at hL r3
  have e : L = (y1 * 128) + (d0 * 1048576 + y2 * 32768) := by omega
  rw [e]
  refine ⟨or2D 7 5 15 17 (show Wd _ by unfold Wd; omega) (show Wd _ by unfold Wd; omega) (show Wd _ by unfold Wd; omega) (by omega) (by omega) (by omega) (by omega) (by omega) (by omega) (by omega) (by omega), by unfold Wd; omega⟩
theorem lay_or4 {w rd rs1 rs2 imm : Int} {aq rl : Bool} (hi : Wd imm) (hw : 0 ≤ w ∧ w ≤ 32767 ∧ w / 128 % 32 = 0) : bits .or .u32 w (layO 4 rd rs1 rs2 imm aq rl) = w + layO 4 rd rs1 rs2 imm aq rl ∧ Wd (w + layO 4 rd rs1 rs2 imm aq rl) := by
  unfold Wd at hi
  obtain ⟨L, hL⟩ : ∃ L, L = layO 4 rd rs1 rs2 imm aq rl := ⟨_, rfl⟩
  rw [← hL]
  simp only [layO, placeO, hasRd, hasRs1, hasRs2, hasOrd, shortPlace, Nat.reduceBEq, Bool.or_false, Bool.or_true, Bool.false_or, Bool.not_false, Bool.not_true, Bool.true_or, Bool.or_self, if_true, if_false, Bool.false_eq_true, Int.add_zero, Int.zero_add, Bool.true_and, Bool.false_and] at hL
  have r1 : 0 ≤ rd % 32 ∧ rd % 32 ≤ 31 := by omega
  have r2 : 0 ≤ rs1 % 32 ∧ rs1 % 32 ≤ 31 := by omega
  have r3 : 0 ≤ rs2 % 32 ∧ rs2 % 32 ≤ 31 := by omega
  have hd0 : 0 ≤ imm % 4096 ∧ imm % 4096 ≤ 4095 := by omega
  generalize imm % 4096 = d0 at hL hd0
  generalize rd % 32 = y1 at hL r1
  generalize rs1 % 32 = y2 at hL r2
  generalize rs2 % 32 = y3 at hL r3
  have e : L = (y1 * 128) + (d0 * 1048576 + y2 * 32768) := by omega
  rw [e]
  refine ⟨or2D 7 5 15 17 (show Wd _ by unfold Wd; omega) (show Wd _ by unfold Wd; omega) (show Wd _ by unfold Wd; omega) (by omega) (by omega) (by omega) (by omega) (by omega) (by omega) (by omega) (by omega), by unfold Wd; omega⟩
theorem lay_or5 {w rd rs1 rs2 imm : Int} {aq rl : Bool} (hi : Wd imm) (hw : 0 ≤ w ∧ w ≤ 4294967295 ∧ w / 128 % 32 = 0 ∧ w / 32768 % 1024 = 0) : bits .or .u32 w (layO 5 rd rs1 rs2 imm aq rl) = w + layO 5 rd rs1 rs2 imm aq rl ∧ Wd (w + layO 5 rd rs1 rs2 imm aq rl) := by
  unfold Wd at hi
  obtain ⟨L, hL⟩ : ∃ L, L = layO 5 rd rs1 rs2 imm aq rl := ⟨_, rfl⟩
  rw [← hL]
  simp only [layO, placeO, hasRd, hasRs1, hasRs2, hasOrd, shiftPlace, Nat.reduceBEq, Bool.or_false, Bool.or_true, Bool.false_or, Bool.not_false, Bool.not_true, Bool.true_or, Bool.or_self, if_true, if_false, Bool.false_eq_true, Int.add_zero, Int.zero_add, Bool.true_and, Bool.false_and] at hL
  have r1 : 0 ≤ rd % 32 ∧ rd % 32 ≤ 31 := by omega
  have r2 : 0 ≤ rs1 % 32 ∧ rs1 % 32 ≤ 31 := by omega
  have r3 : 0 ≤ rs2 % 32 ∧ rs2 % 32 ≤ 31 := by omega
  have hd0 : 0 ≤ imm % 32 ∧ imm % 32 ≤ 31 := by omega
  generalize imm % 32 = d0 at hL hd0
  generalize rd % 32 = y1 at hL r1
  generalize rs1 % 32 = y2 at hL r2
  generalize rs2 % 32 = y3 at hL r3
  have e : L = (y1 * 128) + (d0 * 1048576 + y2 * 32768) := by omega
  rw [e]
  refine ⟨or2D 7 5 15 10 (show Wd _ by unfold Wd; omega) (show Wd _ by unfold Wd; omega) (show Wd _ by unfold Wd; omega) (by omega) (by omega) (by omega) (by omega) (by omega) (by omega) (by omega) (by omega), by unfold Wd; omega⟩
theorem lay_or6 {w rd rs1 rs2 imm : Int} {aq rl : Bool} (hi : Wd imm) (hw : 0 ≤ w ∧ w ≤ 32767 ∧ w / 128 % 32 = 0) : bits .or .u32 w (layO 6 rd rs1 rs2 imm aq rl) = w + layO 6 rd rs1 rs2 imm aq rl ∧ Wd (w + layO 6 rd rs1 rs2 imm aq rl) := by
  unfold Wd at hi
  obtain ⟨L, hL⟩ : ∃ L, L = layO 6 rd rs1 rs2 imm aq rl := ⟨_, rfl⟩
  rw [← hL]
  simp only [layO, placeO, hasRd, hasRs1, hasRs2, hasOrd, branchPlace, Nat.reduceBEq, Bool.or_false, Bool.or_true, Bool.false_or, Bool.not_false, Bool.not_true, Bool.true_or, Bool.or_self, if_true, if_false, Bool.false_eq_true, Int.add_zero, Int.zero_add, Bool.true_and, Bool.false_and] at hL
  have r1 : 0 ≤ rd % 32 ∧ rd % 32 ≤ 31 := by omega
  have r2 : 0 ≤ rs1 % 32 ∧ rs1 % 32 ≤ 31 := by omega
  have r3 : 0 ≤ rs2 % 32 ∧ rs2 % 32 ≤ 31 := by omega
  have hd0 : 0 ≤ imm / 4096 % 2 ∧ imm / 4096 % 2 ≤ 1 := by omega
  have hd1 : 0 ≤ imm / 32 % 64 ∧ imm / 32 % 64 ≤ 63 := by omega
  have hd2 : 0 ≤ imm / 2 % 16 ∧ imm / 2 % 16 ≤ 15 := by omega
  have hd3 : 0 ≤ imm / 2048 % 2 ∧ imm / 2048 % 2 ≤ 1 := by omega
  generalize imm / 4096 % 2 = d0 at hL hd0
  generalize imm / 32 % 64 = d1 at hL hd1
  generalize imm / 2 % 16 = d2 at hL hd2
  generalize imm / 2048 % 2 = d3 at hL hd3
  generalize rd % 32 = y1 at hL r1
  generalize rs1 % 32 = y2 at hL r2
  generalize rs2 % 32 = y3 at hL r3
  have e : L = (d2 * 256 + d3 * 128) + (d0 * 2147483648 + d1 * 33554432 + y2 * 32768 + y3 * 1048576) := by omega
  rw [e]
  refine ⟨or2D 7 5 15 17 (show Wd _ by unfold Wd; omega) (show Wd _ by unfold Wd; omega) (show Wd _ by unfold Wd; omega) (by omega) (by omega) (by omega) (by omega) (by omega) (by omega) (by omega) (by omega), by unfold Wd; omega⟩
theorem lay_or7 {w rd rs1 rs2 imm : Int} {aq rl : Bool} (hi : Wd imm) (hw : 0 ≤ w ∧ w ≤ 32767 ∧ w / 128 % 32 = 0) : bits .or .u32 w (layO 7 rd rs1 rs2 imm aq rl) = w + layO 7 rd rs1 rs2 imm aq rl ∧ Wd (w + layO 7 rd rs1 rs2 imm aq rl) := by
  unfold Wd at hi
  obtain ⟨L, hL⟩ : ∃ L, L = layO 7 rd rs1 rs2 imm aq rl := ⟨_, rfl⟩
  rw [← hL]
  simp only [layO, placeO, hasRd, hasRs1, hasRs2, hasOrd, storePlace, Nat.reduceBEq, Bool.or_false, Bool.or_true, Bool.false_or, Bool.not_false, Bool.not_true, Bool.true_or, Bool.or_self, if_true, if_false, Bool.false_eq_true, Int.add_zero, Int.zero_add, Bool.true_and, Bool.false_and] at hL
  have r1 : 0 ≤ rd % 32 ∧ rd % 32 ≤ 31 := by omega
  have r2 : 0 ≤ rs1 % 32 ∧ rs1 % 32 ≤ 31 := by omega
  have r3 : 0 ≤ rs2 % 32 ∧ rs2 % 32 ≤ 31 := by omega
  have hd0 : 0 ≤ imm / 32 % 128 ∧ imm / 32 % 128 ≤ 127 := by omega
  have hd1 : 0 ≤ imm % 32 ∧ imm % 32 ≤ 31 := by omega
  generalize imm / 32 % 128 = d0 at hL hd0
  generalize imm % 32 = d1 at hL hd1
  generalize rd % 32 = y1 at hL r1
  generalize rs1 % 32 = y2 at hL r2
  generalize rs2 % 32 = y3 at hL r3
  have e : L = (d1 * 128) + (d0 * 33554432 + y2 * 32768 + y3 * 1048576) := by omega
  rw [e]
  refine ⟨or2D 7 5 15 17 (show Wd _ by unfold Wd; omega) (show Wd _ by unfold Wd; omega) (show Wd _ by unfold Wd; omega) (by omega) (by omega) (by omega) (by omega) (by omega) (by omega) (by omega) (by omega), by unfold Wd; omega⟩
theorem lay_or8 {w rd rs1 rs2 imm : Int} {aq rl : Bool} (hi : Wd imm) (hw : 0 ≤ w ∧ w ≤ 4294967295 ∧ w / 128 % 32 = 0 ∧ w / 32768 % 1024 = 0) : bits .or .u32 w (layO 8 rd rs1 rs2 imm aq rl) = w + layO 8 rd rs1 rs2 imm aq rl ∧ Wd (w + layO 8 rd rs1 rs2 imm aq rl) := by
  unfold Wd at hi
  obtain ⟨L, hL⟩ : ∃ L, L = layO 8 rd rs1 rs2 imm aq rl := ⟨_, rfl⟩
  rw [← hL]
  simp only [layO, placeO, hasRd, hasRs1, hasRs2, hasOrd, Nat.reduceBEq, Bool.or_false, Bool.or_true, Bool.false_or, Bool.not_false, Bool.not_true, Bool.true_or, Bool.or_self, if_true, if_false, Bool.false_eq_true, Int.add_zero, Int.zero_add, Bool.true_and, Bool.false_and] at hL
  have r1 : 0 ≤ rd % 32 ∧ rd % 32 ≤ 31 := by omega
  have r2 : 0 ≤ rs1 % 32 ∧ rs1 % 32 ≤ 31 := by omega
  have r3 : 0 ≤ rs2 % 32 ∧ rs2 % 32 ≤ 31 := by omega
  generalize rd % 32 = y1 at hL r1
  generalize rs1 % 32 = y2 at hL r2
  generalize rs2 % 32 = y3 at hL r3
  have e : L = (y1 * 128) + (y2 * 32768 + y3 * 1048576) := by omega
  rw [e]
  refine ⟨or2D 7 5 15 10 (show Wd _ by unfold Wd; omega) (show Wd _ by unfold Wd; omega) (show Wd _ by unfold Wd; omega) (by omega) (by omega) (by omega) (by omega) (by omega) (by omega) (by omega) (by omega), by unfold Wd; omega⟩
theorem lay_or9 {w rd rs1 rs2 imm : Int} {aq rl : Bool} (hi : Wd imm) (hw : w = 15) : bits .or .u32 w (layO 9 rd rs1 rs2 imm aq rl) = w + layO 9 rd rs1 rs2 imm aq rl ∧ Wd (w + layO 9 rd rs1 rs2 imm aq rl) := by
  unfold Wd at hi
  obtain ⟨L, hL⟩ : ∃ L, L = layO 9 rd rs1 rs2 imm aq rl := ⟨_, rfl⟩
  rw [← hL]
  simp only [layO, placeO, hasRd, hasRs1, hasRs2, hasOrd, fencePlace, Nat.reduceBEq, Bool.or_false, Bool.or_true, Bool.false_or, Bool.not_false, Bool.not_true, Bool.true_or, Bool.or_self, if_true, if_false, Bool.false_eq_true, Int.add_zero, Int.zero_add, Bool.true_and, Bool.false_and] at hL
  have r1 : 0 ≤ rd % 32 ∧ rd % 32 ≤ 31 := by omega
  have r2 : 0 ≤ rs1 % 32 ∧ rs1 % 32 ≤ 31 := by omega
  have r3 : 0 ≤ rs2 % 32 ∧ rs2 % 32 ≤ 31 := by omega
  have hd0 : 0 ≤ imm % 256 ∧ imm % 256 ≤ 255 := by omega
  generalize imm % 256 = d0 at hL hd0
  generalize rd % 32 = y1 at hL r1
  generalize rs1 % 32 = y2 at hL r2
  generalize rs2 % 32 = y3 at hL r3
  refine ⟨orI 20 8 (by omega) (by omega) (by omega) (by omega) (by omega), by unfold Wd; omega⟩
theorem lay_or10 {w rd rs1 rs2 imm : Int} {aq rl : Bool} (hi : Wd imm) (hw : w = 115) : bits .or .u32 w (layO 10 rd rs1 rs2 imm aq rl) = w + layO 10 rd rs1 rs2 imm aq rl ∧ Wd (w + layO 10 rd rs1 rs2 imm aq rl) := by
  unfold Wd at hi
  obtain ⟨L, hL⟩ : ∃ L, L = layO 10 rd rs1 rs2 imm aq rl := ⟨_, rfl⟩
  rw [← hL]
  simp only [layO, placeO, hasRd, hasRs1, hasRs2, hasOrd, Nat.reduceBEq, Bool.or_false, Bool.or_true, Bool.false_or, Bool.not_false, Bool.not_true, Bool.true_or, Bool.or_self, if_true, if_false, Bool.false_eq_true, Int.add_zero, Int.zero_add, Bool.true_and, Bool.false_and] at hL
  have r1 : 0 ≤ rd % 32 ∧ rd % 32 ≤ 31 := by omega
  have r2 : 0 ≤ rs1 % 32 ∧ rs1 % 32 ≤ 31 := by omega
  have r3 : 0 ≤ rs2 % 32 ∧ rs2 % 32 ≤ 31 := by omega
  generalize rd % 32 = y1 at hL r1
  generalize rs1 % 32 = y2 at hL r2
  generalize rs2 % 32 = y3 at hL r3
  refine ⟨orI 0 0 (by omega) (by omega) (by omega) (by omega) (by omega), by unfold Wd; omega⟩
theorem lay_or11 {w rd rs1 rs2 imm : Int} {aq rl : Bool} (hi : Wd imm) (hw : 0 ≤ w ∧ w ≤ 4294967295 ∧ w / 128 % 32 = 0 ∧ w / 32768 % 4096 = 0) : bits .or .u32 w (layO 11 rd rs1 rs2 imm aq rl) = w + layO 11 rd rs1 rs2 imm aq rl ∧ Wd (w + layO 11 rd rs1 rs2 imm aq rl) := by
  unfold Wd at hi
  have a1 := b01_bd aq
  have a2 := b01_bd rl
  obtain ⟨L, hL⟩ : ∃ L, L = layO 11 rd rs1 rs2 imm aq rl := ⟨_, rfl⟩
  rw [← hL]
  simp only [layO, placeO, hasRd, hasRs1, hasRs2, hasOrd, Nat.reduceBEq, Bool.or_false, Bool.or_true, Bool.false_or, Bool.not_false, Bool.not_true, Bool.true_or, Bool.or_self, if_true, if_false, Bool.false_eq_true, Int.add_zero, Int.zero_add, Bool.true_and, Bool.false_and] at hL
  have r1 : 0 ≤ rd % 32 ∧ rd % 32 ≤ 31 := by omega
  have r2 : 0 ≤ rs1 % 32 ∧ rs1 % 32 ≤ 31 := by omega
  have r3 : 0 ≤ rs2 % 32 ∧ rs2 % 32 ≤ 31 := by omega
  generalize rd % 32 = y1 at hL r1
  generalize rs1 % 32 = y2 at hL r2
  generalize rs2 % 32 = y3 at hL r3
  generalize b01 aq = z1 at hL a1
  generalize b01 rl = z2 at hL a2
  have e : L = (y1 * 128) + (y2 * 32768 + y3 * 1048576 + z1 * 67108864 + z2 * 33554432) := by omega
  rw [e]
  refine ⟨or2D 7 5 15 12 (show Wd _ by unfold Wd; omega) (show Wd _ by unfold Wd; omega) (show Wd _ by unfold Wd; omega) (by omega) (by omega) (by omega) (by omega) (by omega) (by omega) (by omega) (by omega), by unfold Wd; omega⟩
theorem lay_or12 {w rd rs1 rs2 imm : Int} {aq rl : Bool} (hi : Wd imm) (hw : w = 268443695) : bits .or .u32 w (layO 12 rd rs1 rs2 imm aq rl) = w + layO 12 rd rs1 rs2 imm aq rl ∧ Wd (w + layO 12 rd rs1 rs2 imm aq rl) := by
  unfold Wd at hi
  have a1 := b01_bd aq
  have a2 := b01_bd rl
  obtain ⟨L, hL⟩ : ∃ L, L = layO 12 rd rs1 rs2 imm aq rl := ⟨_, rfl⟩
  rw [← hL]
  simp only [layO, placeO, hasRd, hasRs1, hasRs2, hasOrd, Nat.reduceBEq, Bool.or_false, Bool.or_true, Bool.false_or, Bool.not_false, Bool.not_true, Bool.true_or, Bool.or_self, if_true, if_false, Bool.false_eq_true, Int.add_zero, Int.zero_add, Bool.true_and, Bool.false_and] at hL
  have r1 : 0 ≤ rd % 32 ∧ rd % 32 ≤ 31 := by omega
  have r2 : 0 ≤ rs1 % 32 ∧ rs1 % 32 ≤ 31 := by omega
  have r3 : 0 ≤ rs2 % 32 ∧ rs2 % 32 ≤ 31 := by omega
  generalize rd % 32 = y1 at hL r1
  generalize rs1 % 32 = y2 at hL r2
  generalize rs2 % 32 = y3 at hL r3
  generalize b01 aq = z1 at hL a1
  generalize b01 rl = z2 at hL a2
  have e : L = (y1 * 128) + (y2 * 32768 + z1 * 67108864 + z2 * 33554432) := by omega
  rw [e]
  refine ⟨or2D 7 5 15 12 (show Wd _ by unfold Wd; omega) (show Wd _ by unfold Wd; omega) (show Wd _ by unfold Wd; omega) (by omega) (by omega) (by omega) (by omega) (by omega) (by omega) (by omega) (by omega), by unfold Wd; omega⟩
theorem lay_or13 {w rd rs1 rs2 imm : Int} {aq rl : Bool} (hi : Wd imm) (hw : w = 4047511667) : bits .or .u32 w (layO 13 rd rs1 rs2 imm aq rl) = w + layO 13 rd rs1 rs2 imm aq rl ∧ Wd (w + layO 13 rd rs1 rs2 imm aq rl) := by
  unfold Wd at hi
  obtain ⟨L, hL⟩ : ∃ L, L = layO 13 rd rs1 rs2 imm aq rl := ⟨_, rfl⟩
  rw [← hL]
  simp only [layO, placeO, hasRd, hasRs1, hasRs2, hasOrd, Nat.reduceBEq, Bool.or_false, Bool.or_true, Bool.false_or, Bool.not_false, Bool.not_true, Bool.true_or, Bool.or_self, if_true, if_false, Bool.false_eq_true, Int.add_zero, Int.zero_add, Bool.true_and, Bool.false_and] at hL
  have r1 : 0 ≤ rd % 32 ∧ rd % 32 ≤ 31 := by omega
  have r2 : 0 ≤ rs1 % 32 ∧ rs1 % 32 ≤ 31 := by omega
  have r3 : 0 ≤ rs2 % 32 ∧ rs2 % 32 ≤ 31 := by omega
  generalize rd % 32 = y1 at hL r1
  generalize rs1 % 32 = y2 at hL r2
  generalize rs2 % 32 = y3 at hL r3
  refine ⟨orI 7 5 (by omega) (by omega) (by omega) (by omega) (by omega), by unfold Wd; omega⟩
theorem own_eq (k : Nat) (hk : 1 ≤ k ∧ k ≤ 13) {x : Int} (hx : Wd x) : ownO k x = x - pl k x := by
  rcases (show k = 1 ∨ k = 2 ∨ k = 3 ∨ k = 4 ∨ k = 5 ∨ k = 6 ∨ k = 7 ∨ k = 8 ∨ k = 9 ∨ k = 10 ∨ k = 11 ∨ k = 12 ∨ k = 13 by omega) with rfl | rfl | rfl | rfl | rfl | rfl | rfl | rfl | rfl | rfl | rfl | rfl | rfl
  · exact own1 hx
  · exact own2 hx
  · exact own3 hx
  · exact own4 hx
  · exact own5 hx
  · exact own6 hx
  · exact own7 hx
  · exact own8 hx
  · exact own9 hx
  · exact own10 hx
  · exact own11 hx
  · exact own12 hx
  · exact own13 hx
theorem fm_in (op : Nat) (h : 1 ≤ op ∧ op ≤ 59) : 1 ≤ fm op ∧ fm op ≤ 13 := by
  rcases fm_ok op (by omega) with h0 | h0
  · omega
  · exact h0
theorem wf1 : ∀ op, op < 60 → fm op = 1 → 0 ≤ wd op ∧ wd op ≤ 127 := by decide +kernel
theorem wf2 : ∀ op, op < 60 → fm op = 2 → 0 ≤ wd op ∧ wd op ≤ 127 := by decide +kernel
theorem wf3 : ∀ op, op < 60 → fm op = 3 → 0 ≤ wd op ∧ wd op ≤ 32767 ∧ wd op / 128 % 32 = 0 := by decide +kernel
theorem wf4 : ∀ op, op < 60 → fm op = 4 → 0 ≤ wd op ∧ wd op ≤ 32767 ∧ wd op / 128 % 32 = 0 := by decide +kernel
theorem wf5 : ∀ op, op < 60 → fm op = 5 → 0 ≤ wd op ∧ wd op ≤ 4294967295 ∧ wd op / 128 % 32 = 0 ∧ wd op / 32768 % 1024 = 0 := by decide +kernel
theorem wf6 : ∀ op, op < 60 → fm op = 6 → 0 ≤ wd op ∧ wd op ≤ 32767 ∧ wd op / 128 % 32 = 0 := by decide +kernel
theorem wf7 : ∀ op, op < 60 → fm op = 7 → 0 ≤ wd op ∧ wd op ≤ 32767 ∧ wd op / 128 % 32 = 0 := by decide +kernel
theorem wf8 : ∀ op, op < 60 → fm op = 8 → 0 ≤ wd op ∧ wd op ≤ 4294967295 ∧ wd op / 128 % 32 = 0 ∧ wd op / 32768 % 1024 = 0 := by decide +kernel
theorem wf9 : ∀ op, op < 60 → fm op = 9 → wd op = 15 := by decide +kernel
theorem wf10 : ∀ op, op < 60 → fm op = 10 → wd op = 115 := by decide +kernel
theorem wf11 : ∀ op, op < 60 → fm op = 11 → 0 ≤ wd op ∧ wd op ≤ 4294967295 ∧ wd op / 128 % 32 = 0 ∧ wd op / 32768 % 4096 = 0 := by decide +kernel
theorem wf12 : ∀ op, op < 60 → fm op = 12 → wd op = 268443695 := by decide +kernel
theorem wf13 : ∀ op, op < 60 → fm op = 13 → wd op = 4047511667 := by decide +kernel
theorem enc_or (op : Nat) (h : 1 ≤ op ∧ op ≤ 59) {rd rs1 rs2 imm : Int} {aq rl : Bool} (hi : Wd imm) : bits .or .u32 (wd op) (layO (fm op) rd rs1 rs2 imm aq rl) = wordO op rd rs1 rs2 imm aq rl ∧ Wd (wordO op rd rs1 rs2 imm aq rl) := by
  unfold wordO
  have hk := fm_in op h
  rcases (show fm op = 1 ∨ fm op = 2 ∨ fm op = 3 ∨ fm op = 4 ∨ fm op = 5 ∨ fm op = 6 ∨ fm op = 7 ∨ fm op = 8 ∨ fm op = 9 ∨ fm op = 10 ∨ fm op = 11 ∨ fm op = 12 ∨ fm op = 13 by omega) with hk | hk | hk | hk | hk | hk | hk | hk | hk | hk | hk | hk | hk
  · rw [hk]; exact lay_or1 hi (wf1 op (by omega) hk)
  · rw [hk]; exact lay_or2 hi (wf2 op (by omega) hk)
  · rw [hk]; exact lay_or3 hi (wf3 op (by omega) hk)
  · rw [hk]; exact lay_or4 hi (wf4 op (by omega) hk)
  · rw [hk]; exact lay_or5 hi (wf5 op (by omega) hk)
  · rw [hk]; exact lay_or6 hi (wf6 op (by omega) hk)
  · rw [hk]; exact lay_or7 hi (wf7 op (by omega) hk)
  · rw [hk]; exact lay_or8 hi (wf8 op (by omega) hk)
  · rw [hk]; exact lay_or9 hi (wf9 op (by omega) hk)
  · rw [hk]; exact lay_or10 hi (wf10 op (by omega) hk)
  · rw [hk]; exact lay_or11 hi (wf11 op (by omega) hk)
  · rw [hk]; exact lay_or12 hi (wf12 op (by omega) hk)
  · rw [hk]; exact lay_or13 hi (wf13 op (by omega) hk)
end Is
end Go.Proofs.YtianojbdabeoeaaDoor
