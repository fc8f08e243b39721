/-
  What the program's lay reckons, form by form, as plain sums.
-/
import Derived.Test.YtianojbdabeoeaaGreatDoorIsParts
namespace Go.Proofs.YtianojbdabeoeaaGreatDoor
set_option linter.unusedVariables false
set_option linter.unusedSimpArgs false
namespace Is
open Go.RowKit
theorem layw1 {imm : Int} (hi : Wd imm) (rd rs1 rs2 : Int) (aq rl : Bool) : bits .or .u32 (placeO 1 imm) (rd % 32 * 128) = layO 1 rd rs1 rs2 imm aq rl := by
  unfold Wd at hi
  simp only [layO, placeO, hasRd, hasRs1, hasRs2, hasOrd, upperImm]
  simp only [Nat.reduceBEq, Bool.or_false, Bool.or_true, Bool.false_or, Bool.not_false, Bool.not_true, Bool.true_or, Bool.or_self, if_true, if_false, Bool.false_eq_true, Int.add_zero]
  have a1 : 0 ≤ rd % 32 ∧ rd % 32 ≤ 31 := by omega
  have a2 : 0 ≤ rs1 % 32 ∧ rs1 % 32 ≤ 31 := by omega
  have a3 : 0 ≤ rs2 % 32 ∧ rs2 % 32 ≤ 31 := by omega
  generalize rd % 32 = y1 at a1 ⊢
  generalize rs1 % 32 = y2 at a2 ⊢
  generalize rs2 % 32 = y3 at a3 ⊢
  rw [orI 7 5 (by omega) (by omega) (by omega) (by omega) (by omega)]

theorem layw2 {imm : Int} (hi : Wd imm) (rd rs1 rs2 : Int) (aq rl : Bool) : bits .or .u32 (placeO 2 imm) (rd % 32 * 128) = layO 2 rd rs1 rs2 imm aq rl := by
  unfold Wd at hi
  simp only [layO, placeO, hasRd, hasRs1, hasRs2, hasOrd, jumpPlace]
  simp only [Nat.reduceBEq, Bool.or_false, Bool.or_true, Bool.false_or, Bool.not_false, Bool.not_true, Bool.true_or, Bool.or_self, if_true, if_false, Bool.false_eq_true, Int.add_zero]
  have a1 : 0 ≤ rd % 32 ∧ rd % 32 ≤ 31 := by omega
  have a2 : 0 ≤ rs1 % 32 ∧ rs1 % 32 ≤ 31 := by omega
  have a3 : 0 ≤ rs2 % 32 ∧ rs2 % 32 ≤ 31 := by omega
  generalize rd % 32 = y1 at a1 ⊢
  generalize rs1 % 32 = y2 at a2 ⊢
  generalize rs2 % 32 = y3 at a3 ⊢
  rw [orI 7 5 (by omega) (by omega) (by omega) (by omega) (by omega)]

theorem layw3 {imm : Int} (hi : Wd imm) (rd rs1 rs2 : Int) (aq rl : Bool) : bits .or .u32 (bits .or .u32 (placeO 3 imm) (rd % 32 * 128)) (rs1 % 32 * 32768) = layO 3 rd rs1 rs2 imm aq rl := by
  unfold Wd at hi
  simp only [layO, placeO, hasRd, hasRs1, hasRs2, hasOrd, shortPlace]
  simp only [Nat.reduceBEq, Bool.or_false, Bool.or_true, Bool.false_or, Bool.not_false, Bool.not_true, Bool.true_or, Bool.or_self, if_true, if_false, Bool.false_eq_true, Int.add_zero]
  have a1 : 0 ≤ rd % 32 ∧ rd % 32 ≤ 31 := by omega
  have a2 : 0 ≤ rs1 % 32 ∧ rs1 % 32 ≤ 31 := by omega
  have a3 : 0 ≤ rs2 % 32 ∧ rs2 % 32 ≤ 31 := by omega
  generalize rd % 32 = y1 at a1 ⊢
  generalize rs1 % 32 = y2 at a2 ⊢
  generalize rs2 % 32 = y3 at a3 ⊢
  rw [or3 7 5 15 5 (by omega) (by omega) (by omega) (by omega) (by omega) (by omega) (by omega) (by omega) (by omega) (by omega)]

theorem layw4 {imm : Int} (hi : Wd imm) (rd rs1 rs2 : Int) (aq rl : Bool) : bits .or .u32 (bits .or .u32 (placeO 4 imm) (rd % 32 * 128)) (rs1 % 32 * 32768) = layO 4 rd rs1 rs2 imm aq rl := by
  unfold Wd at hi
  simp only [layO, placeO, hasRd, hasRs1, hasRs2, hasOrd, shortPlace]
  simp only [Nat.reduceBEq, Bool.or_false, Bool.or_true, Bool.false_or, Bool.not_false, Bool.not_true, Bool.true_or, Bool.or_self, if_true, if_false, Bool.false_eq_true, Int.add_zero]
  have a1 : 0 ≤ rd % 32 ∧ rd % 32 ≤ 31 := by omega
  have a2 : 0 ≤ rs1 % 32 ∧ rs1 % 32 ≤ 31 := by omega
  have a3 : 0 ≤ rs2 % 32 ∧ rs2 % 32 ≤ 31 := by omega
  generalize rd % 32 = y1 at a1 ⊢
  generalize rs1 % 32 = y2 at a2 ⊢
  generalize rs2 % 32 = y3 at a3 ⊢
  rw [or3 7 5 15 5 (by omega) (by omega) (by omega) (by omega) (by omega) (by omega) (by omega) (by omega) (by omega) (by omega)]

theorem layw5 {imm : Int} (hi : Wd imm) (rd rs1 rs2 : Int) (aq rl : Bool) : bits .or .u32 (bits .or .u32 (placeO 5 imm) (rd % 32 * 128)) (rs1 % 32 * 32768) = layO 5 rd rs1 rs2 imm aq rl := by
  unfold Wd at hi
  simp only [layO, placeO, hasRd, hasRs1, hasRs2, hasOrd, shiftPlace]
  simp only [Nat.reduceBEq, Bool.or_false, Bool.or_true, Bool.false_or, Bool.not_false, Bool.not_true, Bool.true_or, Bool.or_self, if_true, if_false, Bool.false_eq_true, Int.add_zero]
  have a1 : 0 ≤ rd % 32 ∧ rd % 32 ≤ 31 := by omega
  have a2 : 0 ≤ rs1 % 32 ∧ rs1 % 32 ≤ 31 := by omega
  have a3 : 0 ≤ rs2 % 32 ∧ rs2 % 32 ≤ 31 := by omega
  generalize rd % 32 = y1 at a1 ⊢
  generalize rs1 % 32 = y2 at a2 ⊢
  generalize rs2 % 32 = y3 at a3 ⊢
  rw [or3 7 5 15 5 (by omega) (by omega) (by omega) (by omega) (by omega) (by omega) (by omega) (by omega) (by omega) (by omega)]

theorem layw6 {imm : Int} (hi : Wd imm) (rd rs1 rs2 : Int) (aq rl : Bool) : bits .or .u32 (bits .or .u32 (placeO 6 imm) (rs1 % 32 * 32768)) (rs2 % 32 * 1048576) = layO 6 rd rs1 rs2 imm aq rl := by
  unfold Wd at hi
  simp only [layO, placeO, hasRd, hasRs1, hasRs2, hasOrd, branchPlace]
  simp only [Nat.reduceBEq, Bool.or_false, Bool.or_true, Bool.false_or, Bool.not_false, Bool.not_true, Bool.true_or, Bool.or_self, if_true, if_false, Bool.false_eq_true, Int.add_zero]
  have a1 : 0 ≤ rd % 32 ∧ rd % 32 ≤ 31 := by omega
  have a2 : 0 ≤ rs1 % 32 ∧ rs1 % 32 ≤ 31 := by omega
  have a3 : 0 ≤ rs2 % 32 ∧ rs2 % 32 ≤ 31 := by omega
  generalize rd % 32 = y1 at a1 ⊢
  generalize rs1 % 32 = y2 at a2 ⊢
  generalize rs2 % 32 = y3 at a3 ⊢
  have g0 : 0 ≤ imm / 4096 % 2 ∧ imm / 4096 % 2 ≤ 1 := by omega
  have g1 : 0 ≤ imm / 32 % 64 ∧ imm / 32 % 64 ≤ 63 := by omega
  have g2 : 0 ≤ imm / 2 % 16 ∧ imm / 2 % 16 ≤ 15 := by omega
  have g3 : 0 ≤ imm / 2048 % 2 ∧ imm / 2048 % 2 ≤ 1 := by omega
  generalize imm / 4096 % 2 = z0 at g0 ⊢
  generalize imm / 32 % 64 = z1 at g1 ⊢
  generalize imm / 2 % 16 = z2 at g2 ⊢
  generalize imm / 2048 % 2 = z3 at g3 ⊢
  rw [or3 15 5 20 5 (by omega) (by omega) (by omega) (by omega) (by omega) (by omega) (by omega) (by omega) (by omega) (by omega)]

theorem layw7 {imm : Int} (hi : Wd imm) (rd rs1 rs2 : Int) (aq rl : Bool) : bits .or .u32 (bits .or .u32 (placeO 7 imm) (rs1 % 32 * 32768)) (rs2 % 32 * 1048576) = layO 7 rd rs1 rs2 imm aq rl := by
  unfold Wd at hi
  simp only [layO, placeO, hasRd, hasRs1, hasRs2, hasOrd, storePlace]
  simp only [Nat.reduceBEq, Bool.or_false, Bool.or_true, Bool.false_or, Bool.not_false, Bool.not_true, Bool.true_or, Bool.or_self, if_true, if_false, Bool.false_eq_true, Int.add_zero]
  have a1 : 0 ≤ rd % 32 ∧ rd % 32 ≤ 31 := by omega
  have a2 : 0 ≤ rs1 % 32 ∧ rs1 % 32 ≤ 31 := by omega
  have a3 : 0 ≤ rs2 % 32 ∧ rs2 % 32 ≤ 31 := by omega
  generalize rd % 32 = y1 at a1 ⊢
  generalize rs1 % 32 = y2 at a2 ⊢
  generalize rs2 % 32 = y3 at a3 ⊢
  have g0 : 0 ≤ imm / 32 % 128 ∧ imm / 32 % 128 ≤ 127 := by omega
  have g1 : 0 ≤ imm % 32 ∧ imm % 32 ≤ 31 := by omega
  generalize imm / 32 % 128 = z0 at g0 ⊢
  generalize imm % 32 = z1 at g1 ⊢
  rw [or3 15 5 20 5 (by omega) (by omega) (by omega) (by omega) (by omega) (by omega) (by omega) (by omega) (by omega) (by omega)]

theorem layw8 {imm : Int} (hi : Wd imm) (rd rs1 rs2 : Int) (aq rl : Bool) : bits .or .u32 (bits .or .u32 (bits .or .u32 (placeO 8 imm) (rd % 32 * 128)) (rs1 % 32 * 32768)) (rs2 % 32 * 1048576) = layO 8 rd rs1 rs2 imm aq rl := by
  unfold Wd at hi
  simp only [layO, placeO, hasRd, hasRs1, hasRs2, hasOrd]
  simp only [Nat.reduceBEq, Bool.or_false, Bool.or_true, Bool.false_or, Bool.not_false, Bool.not_true, Bool.true_or, Bool.or_self, if_true, if_false, Bool.false_eq_true, Int.add_zero]
  have a1 : 0 ≤ rd % 32 ∧ rd % 32 ≤ 31 := by omega
  have a2 : 0 ≤ rs1 % 32 ∧ rs1 % 32 ≤ 31 := by omega
  have a3 : 0 ≤ rs2 % 32 ∧ rs2 % 32 ≤ 31 := by omega
  generalize rd % 32 = y1 at a1 ⊢
  generalize rs1 % 32 = y2 at a2 ⊢
  generalize rs2 % 32 = y3 at a3 ⊢
  rw [or4 7 5 15 5 20 5 (by omega) (by omega) (by omega) (by omega) (by omega) (by omega) (by omega) (by omega) (by omega) (by omega) (by omega) (by omega) (by omega) (by omega)]

theorem layw9 {imm : Int} (hi : Wd imm) (rd rs1 rs2 : Int) (aq rl : Bool) : placeO 9 imm = layO 9 rd rs1 rs2 imm aq rl := by
  unfold Wd at hi
  simp only [layO, placeO, hasRd, hasRs1, hasRs2, hasOrd, fencePlace]
  simp only [Nat.reduceBEq, Bool.or_false, Bool.or_true, Bool.false_or, Bool.not_false, Bool.not_true, Bool.true_or, Bool.or_self, if_true, if_false, Bool.false_eq_true, Int.add_zero]

theorem layw10 {imm : Int} (hi : Wd imm) (rd rs1 rs2 : Int) (aq rl : Bool) : placeO 10 imm = layO 10 rd rs1 rs2 imm aq rl := by
  unfold Wd at hi
  simp only [layO, placeO, hasRd, hasRs1, hasRs2, hasOrd]
  simp only [Nat.reduceBEq, Bool.or_false, Bool.or_true, Bool.false_or, Bool.not_false, Bool.not_true, Bool.true_or, Bool.or_self, if_true, if_false, Bool.false_eq_true, Int.add_zero]

theorem layw11 {imm : Int} (hi : Wd imm) (rd rs1 rs2 : Int) (aq rl : Bool) : bits .or .u32 (bits .or .u32 (bits .or .u32 (bits .or .u32 (placeO 11 imm) (rd % 32 * 128)) (rs1 % 32 * 32768)) (rs2 % 32 * 1048576)) (bits .or .u32 (b01 aq * 67108864) (b01 rl * 33554432)) = layO 11 rd rs1 rs2 imm aq rl := by
  unfold Wd at hi
  have ha : 0 ≤ b01 aq ∧ b01 aq ≤ 1 := by cases aq <;> simp [b01]
  have hl : 0 ≤ b01 rl ∧ b01 rl ≤ 1 := by cases rl <;> simp [b01]
  rw [orI 25 1 (x := b01 aq * 67108864) (by omega) (by omega) (by omega) (by omega) (by omega)]
  simp only [layO, placeO, hasRd, hasRs1, hasRs2, hasOrd]
  simp only [Nat.reduceBEq, Bool.or_false, Bool.or_true, Bool.false_or, Bool.not_false, Bool.not_true, Bool.true_or, Bool.or_self, if_true, if_false, Bool.false_eq_true, Int.add_zero]
  have a1 : 0 ≤ rd % 32 ∧ rd % 32 ≤ 31 := by omega
  have a2 : 0 ≤ rs1 % 32 ∧ rs1 % 32 ≤ 31 := by omega
  have a3 : 0 ≤ rs2 % 32 ∧ rs2 % 32 ≤ 31 := by omega
  generalize rd % 32 = y1 at a1 ⊢
  generalize rs1 % 32 = y2 at a2 ⊢
  generalize rs2 % 32 = y3 at a3 ⊢
  rw [or5 7 5 15 5 20 5 25 2 (by omega) (by omega) (by omega) (by omega) (by omega) (by omega) (by omega) (by omega) (by omega) (by omega) (by omega) (by omega) (by omega) (by omega) (by omega) (by omega) (by omega) (by omega)]

theorem layw12 {imm : Int} (hi : Wd imm) (rd rs1 rs2 : Int) (aq rl : Bool) : bits .or .u32 (bits .or .u32 (bits .or .u32 (placeO 12 imm) (rd % 32 * 128)) (rs1 % 32 * 32768)) (bits .or .u32 (b01 aq * 67108864) (b01 rl * 33554432)) = layO 12 rd rs1 rs2 imm aq rl := by
  unfold Wd at hi
  have ha : 0 ≤ b01 aq ∧ b01 aq ≤ 1 := by cases aq <;> simp [b01]
  have hl : 0 ≤ b01 rl ∧ b01 rl ≤ 1 := by cases rl <;> simp [b01]
  rw [orI 25 1 (x := b01 aq * 67108864) (by omega) (by omega) (by omega) (by omega) (by omega)]
  simp only [layO, placeO, hasRd, hasRs1, hasRs2, hasOrd]
  simp only [Nat.reduceBEq, Bool.or_false, Bool.or_true, Bool.false_or, Bool.not_false, Bool.not_true, Bool.true_or, Bool.or_self, if_true, if_false, Bool.false_eq_true, Int.add_zero]
  have a1 : 0 ≤ rd % 32 ∧ rd % 32 ≤ 31 := by omega
  have a2 : 0 ≤ rs1 % 32 ∧ rs1 % 32 ≤ 31 := by omega
  have a3 : 0 ≤ rs2 % 32 ∧ rs2 % 32 ≤ 31 := by omega
  generalize rd % 32 = y1 at a1 ⊢
  generalize rs1 % 32 = y2 at a2 ⊢
  generalize rs2 % 32 = y3 at a3 ⊢
  rw [or4 7 5 15 5 25 2 (by omega) (by omega) (by omega) (by omega) (by omega) (by omega) (by omega) (by omega) (by omega) (by omega) (by omega) (by omega) (by omega) (by omega)]

theorem layw13 {imm : Int} (hi : Wd imm) (rd rs1 rs2 : Int) (aq rl : Bool) : bits .or .u32 (placeO 13 imm) (rd % 32 * 128) = layO 13 rd rs1 rs2 imm aq rl := by
  unfold Wd at hi
  simp only [layO, placeO, hasRd, hasRs1, hasRs2, hasOrd]
  simp only [Nat.reduceBEq, Bool.or_false, Bool.or_true, Bool.false_or, Bool.not_false, Bool.not_true, Bool.true_or, Bool.or_self, if_true, if_false, Bool.false_eq_true, Int.add_zero]
  have a1 : 0 ≤ rd % 32 ∧ rd % 32 ≤ 31 := by omega
  have a2 : 0 ≤ rs1 % 32 ∧ rs1 % 32 ≤ 31 := by omega
  have a3 : 0 ≤ rs2 % 32 ∧ rs2 % 32 ≤ 31 := by omega
  generalize rd % 32 = y1 at a1 ⊢
  generalize rs1 % 32 = y2 at a2 ⊢
  generalize rs2 % 32 = y3 at a3 ⊢
  rw [orI 7 5 (by omega) (by omega) (by omega) (by omega) (by omega)]

end Is
end Go.Proofs.YtianojbdabeoeaaGreatDoor
