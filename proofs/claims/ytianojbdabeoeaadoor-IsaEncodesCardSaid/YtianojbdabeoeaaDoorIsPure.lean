/-
  The plain mathematics of instructions: an instruction may be just if its word tells it again; a word is no more than one instruction's.
-/
import Derived.Test.YtianojbdabeoeaaDoorIsDec
import Derived.Test.YtianojbdabeoeaaDoorIsRef
namespace Go.Proofs.YtianojbdabeoeaaDoor
set_option linter.unusedVariables false
set_option linter.unusedSimpArgs false
namespace Is
open Go.RowKit
/-- which Imm a form has room for -/
def immOk (k : Nat) (imm : Int) : Prop := match k with
  | 1 => imm % 4096 = 0
  | 2 => imm % 2 = 0 ∧ (imm ≤ 1048574 ∨ 4293918720 ≤ imm)
  | 3 => imm ≤ 2047 ∨ 4294965248 ≤ imm
  | 4 => imm ≤ 2047 ∨ 4294965248 ≤ imm
  | 5 => imm ≤ 31
  | 6 => imm % 2 = 0 ∧ (imm ≤ 4094 ∨ 4294963200 ≤ imm)
  | 7 => imm ≤ 2047 ∨ 4294965248 ≤ imm
  | 9 => imm ≤ 255
  | _ => imm = 0
/-- an instruction that may be -/
def mayP (k : Nat) (rd rs1 rs2 imm : Int) (aq rl : Bool) : Prop :=
  (0 ≤ rd ∧ rd ≤ 31) ∧ (0 ≤ rs1 ∧ rs1 ≤ 31) ∧ (0 ≤ rs2 ∧ rs2 ≤ 31) ∧ (hasRd k = false → rd = 0) ∧ (hasRs1 k = false → rs1 = 0) ∧ (hasRs2 k = false → rs2 = 0) ∧ (hasOrd k = false → aq = false ∧ rl = false) ∧ immOk k imm
/-- the parts of a word's instruction are all that its word has of a form -/
def pl (k : Nat) (x : Int) : Int := layO k (rdO k x) (rs1O k x) (rs2O k x) (immO k x) (aqO k x) (rlO k x)
/-- an instruction that a word w0 with its parts tells again -/
def goodW (k : Nat) (w0 rd rs1 rs2 imm : Int) (aq rl : Bool) : Prop :=
  rdO k (w0 + layO k rd rs1 rs2 imm aq rl) = rd ∧ rs1O k (w0 + layO k rd rs1 rs2 imm aq rl) = rs1 ∧ rs2O k (w0 + layO k rd rs1 rs2 imm aq rl) = rs2 ∧
  immO k (w0 + layO k rd rs1 rs2 imm aq rl) = imm ∧ aqO k (w0 + layO k rd rs1 rs2 imm aq rl) = aq ∧ rlO k (w0 + layO k rd rs1 rs2 imm aq rl) = rl
theorem b01_bd (b : Bool) : 0 ≤ b01 b ∧ b01 b ≤ 1 := by cases b <;> simp [b01]
theorem b01_is (b : Bool) : (b01 b == 1) = b := by cases b <;> rfl
theorem mod_self (a : Int) : a % 32 = a ↔ 0 ≤ a ∧ a ≤ 31 := by omega
theorem fields1 {c0 : Int} {d0 : Int} {rd rs1 rs2 x : Int} {aq rl : Bool} (hc0 : 0 ≤ c0 ∧ c0 ≤ 127) (hd0 : 0 ≤ d0 ∧ d0 ≤ 1048575) (hx : x = (c0) + (d0 * 4096 + rd % 32 * 128)) : x / 128 % 32 = rd % 32 ∧ immO 1 x = d0 * 4096 ∧ 0 ≤ x ∧ x ≤ 4294967295 := by
  have r1 : 0 ≤ rd % 32 ∧ rd % 32 ≤ 31 := by omega
  have r2 : 0 ≤ rs1 % 32 ∧ rs1 % 32 ≤ 31 := by omega
  have r3 : 0 ≤ rs2 % 32 ∧ rs2 % 32 ≤ 31 := by omega
  generalize rd % 32 = y1 at *
  generalize rs1 % 32 = y2 at *
  generalize rs2 % 32 = y3 at *
  simp only [immO, upperImm]
  refine ⟨?_, ?_, ?_⟩
  all_goals (try split) <;> omega
theorem goodW1 {c0 : Int} {rd rs1 rs2 imm : Int} {aq rl : Bool} (hc0 : 0 ≤ c0 ∧ c0 ≤ 127) (hi : Wd imm) : goodW 1 (c0) rd rs1 rs2 imm aq rl ↔ mayP 1 rd rs1 rs2 imm aq rl := by
  unfold Wd at hi
  unfold goodW
  obtain ⟨x, hx⟩ : ∃ x, x = (c0) + layO 1 rd rs1 rs2 imm aq rl := ⟨_, rfl⟩
  rw [← hx]
  simp only [layO, placeO, hasRd, hasRs1, hasRs2, hasOrd, upperImm, Nat.reduceBEq, Bool.or_false, Bool.or_true, Bool.false_or, Bool.not_false, Bool.not_true, Bool.true_or, Bool.or_self, if_true, if_false, Bool.false_eq_true, Int.add_zero, Int.zero_add] at hx
  have hd0 : 0 ≤ imm / 4096 ∧ imm / 4096 ≤ 1048575 := by omega
  have hf := fields1 (rd := rd) (rs1 := rs1) (rs2 := rs2) (aq := aq) (rl := rl) hc0 hd0 hx
  simp only [rdO, rs1O, rs2O, aqO, rlO, mayP, hasRd, hasRs1, hasRs2, hasOrd, immOk, Nat.reduceBEq, Bool.or_false, Bool.or_true, Bool.false_or, Bool.not_false, Bool.not_true, Bool.true_or, Bool.or_self, if_true, if_false, Bool.false_eq_true, Bool.true_eq_false, Bool.false_and, Bool.true_and, true_implies, false_implies, true_and, and_true]
  obtain ⟨f0, f1, f2⟩ := hf
  rw [f0, f1]
  clear hx f0 f1 f2
  constructor
  · rintro ⟨g1, g2, g3, g4, g5, g6⟩
    refine ⟨by omega, by omega, by omega, ?_⟩
    refine ⟨by omega, by omega, ⟨g5.symm, g6.symm⟩, by omega⟩
  · rintro ⟨g1, g2, g3, h0, h1, ⟨gb1, gb2⟩, gi⟩
    exact ⟨by omega, by omega, by omega, by omega, gb1.symm, gb2.symm⟩

theorem fields2 {c0 : Int} {d0 d1 d2 d3 : Int} {rd rs1 rs2 x : Int} {aq rl : Bool} (hc0 : 0 ≤ c0 ∧ c0 ≤ 127) (hd0 : 0 ≤ d0 ∧ d0 ≤ 1) (hd1 : 0 ≤ d1 ∧ d1 ≤ 1023) (hd2 : 0 ≤ d2 ∧ d2 ≤ 1) (hd3 : 0 ≤ d3 ∧ d3 ≤ 255) (hx : x = (c0) + (d0 * 2147483648 + d1 * 2097152 + d2 * 1048576 + d3 * 4096 + rd % 32 * 128)) : x / 128 % 32 = rd % 32 ∧ immO 2 x = d3 * 4096 + d2 * 2048 + d1 * 2 + d0 * 4293918720 ∧ 0 ≤ x ∧ x ≤ 4294967295 := by
  have r1 : 0 ≤ rd % 32 ∧ rd % 32 ≤ 31 := by omega
  have r2 : 0 ≤ rs1 % 32 ∧ rs1 % 32 ≤ 31 := by omega
  have r3 : 0 ≤ rs2 % 32 ∧ rs2 % 32 ≤ 31 := by omega
  generalize rd % 32 = y1 at *
  generalize rs1 % 32 = y2 at *
  generalize rs2 % 32 = y3 at *
  simp only [immO, jumpImm, sx]
  refine ⟨?_, ?_, ?_⟩
  all_goals (try split) <;> omega
theorem goodW2 {c0 : Int} {rd rs1 rs2 imm : Int} {aq rl : Bool} (hc0 : 0 ≤ c0 ∧ c0 ≤ 127) (hi : Wd imm) : goodW 2 (c0) rd rs1 rs2 imm aq rl ↔ mayP 2 rd rs1 rs2 imm aq rl := by
  unfold Wd at hi
  unfold goodW
  obtain ⟨x, hx⟩ : ∃ x, x = (c0) + layO 2 rd rs1 rs2 imm aq rl := ⟨_, rfl⟩
  rw [← hx]
  simp only [layO, placeO, hasRd, hasRs1, hasRs2, hasOrd, jumpPlace, Nat.reduceBEq, Bool.or_false, Bool.or_true, Bool.false_or, Bool.not_false, Bool.not_true, Bool.true_or, Bool.or_self, if_true, if_false, Bool.false_eq_true, Int.add_zero, Int.zero_add] at hx
  have hd0 : 0 ≤ imm / 1048576 % 2 ∧ imm / 1048576 % 2 ≤ 1 := by omega
  have hd1 : 0 ≤ imm / 2 % 1024 ∧ imm / 2 % 1024 ≤ 1023 := by omega
  have hd2 : 0 ≤ imm / 2048 % 2 ∧ imm / 2048 % 2 ≤ 1 := by omega
  have hd3 : 0 ≤ imm / 4096 % 256 ∧ imm / 4096 % 256 ≤ 255 := by omega
  have hf := fields2 (rd := rd) (rs1 := rs1) (rs2 := rs2) (aq := aq) (rl := rl) hc0 hd0 hd1 hd2 hd3 hx
  simp only [rdO, rs1O, rs2O, aqO, rlO, mayP, hasRd, hasRs1, hasRs2, hasOrd, immOk, Nat.reduceBEq, Bool.or_false, Bool.or_true, Bool.false_or, Bool.not_false, Bool.not_true, Bool.true_or, Bool.or_self, if_true, if_false, Bool.false_eq_true, Bool.true_eq_false, Bool.false_and, Bool.true_and, true_implies, false_implies, true_and, and_true]
  obtain ⟨f0, f1, f2⟩ := hf
  rw [f0, f1]
  clear hx f0 f1 f2
  constructor
  · rintro ⟨g1, g2, g3, g4, g5, g6⟩
    refine ⟨by omega, by omega, by omega, ?_⟩
    refine ⟨by omega, by omega, ⟨g5.symm, g6.symm⟩, by omega⟩
  · rintro ⟨g1, g2, g3, h0, h1, ⟨gb1, gb2⟩, gi⟩
    exact ⟨by omega, by omega, by omega, by omega, gb1.symm, gb2.symm⟩

theorem fields3 {c0 c1 : Int} {d0 : Int} {rd rs1 rs2 x : Int} {aq rl : Bool} (hc0 : 0 ≤ c0 ∧ c0 ≤ 127) (hc1 : 0 ≤ c1 ∧ c1 ≤ 7) (hd0 : 0 ≤ d0 ∧ d0 ≤ 4095) (hx : x = (c0 + c1 * 4096) + (d0 * 1048576 + rd % 32 * 128 + rs1 % 32 * 32768)) : x / 128 % 32 = rd % 32 ∧ x / 32768 % 32 = rs1 % 32 ∧ immO 3 x = d0 % 2048 + d0 / 2048 * 4294965248 ∧ 0 ≤ x ∧ x ≤ 4294967295 := by
  have r1 : 0 ≤ rd % 32 ∧ rd % 32 ≤ 31 := by omega
  have r2 : 0 ≤ rs1 % 32 ∧ rs1 % 32 ≤ 31 := by omega
  have r3 : 0 ≤ rs2 % 32 ∧ rs2 % 32 ≤ 31 := by omega
  generalize rd % 32 = y1 at *
  generalize rs1 % 32 = y2 at *
  generalize rs2 % 32 = y3 at *
  simp only [immO, shortImm, sx]
  refine ⟨?_, ?_, ?_, ?_⟩
  all_goals (try split) <;> omega
theorem goodW3 {c0 c1 : Int} {rd rs1 rs2 imm : Int} {aq rl : Bool} (hc0 : 0 ≤ c0 ∧ c0 ≤ 127) (hc1 : 0 ≤ c1 ∧ c1 ≤ 7) (hi : Wd imm) : goodW 3 (c0 + c1 * 4096) rd rs1 rs2 imm aq rl ↔ mayP 3 rd rs1 rs2 imm aq rl := by
  unfold Wd at hi
  unfold goodW
  obtain ⟨x, hx⟩ : ∃ x, x = (c0 + c1 * 4096) + layO 3 rd rs1 rs2 imm aq rl := ⟨_, rfl⟩
  rw [← hx]
  simp only [layO, placeO, hasRd, hasRs1, hasRs2, hasOrd, shortPlace, Nat.reduceBEq, Bool.or_false, Bool.or_true, Bool.false_or, Bool.not_false, Bool.not_true, Bool.true_or, Bool.or_self, if_true, if_false, Bool.false_eq_true, Int.add_zero, Int.zero_add] at hx
  have hd0 : 0 ≤ imm % 4096 ∧ imm % 4096 ≤ 4095 := by omega
  have hf := fields3 (rd := rd) (rs1 := rs1) (rs2 := rs2) (aq := aq) (rl := rl) hc0 hc1 hd0 hx
  simp only [rdO, rs1O, rs2O, aqO, rlO, mayP, hasRd, hasRs1, hasRs2, hasOrd, immOk, Nat.reduceBEq, Bool.or_false, Bool.or_true, Bool.false_or, Bool.not_false, Bool.not_true, Bool.true_or, Bool.or_self, if_true, if_false, Bool.false_eq_true, Bool.true_eq_false, Bool.false_and, Bool.true_and, true_implies, false_implies, true_and, and_true]
  obtain ⟨f0, f1, f2, f3⟩ := hf
  rw [f0, f1, f2]
  clear hx f0 f1 f2 f3
  constructor
  · rintro ⟨g1, g2, g3, g4, g5, g6⟩
    refine ⟨by omega, by omega, by omega, ?_⟩
    refine ⟨by omega, ⟨g5.symm, g6.symm⟩, by omega⟩
  · rintro ⟨g1, g2, g3, h0, ⟨gb1, gb2⟩, gi⟩
    exact ⟨by omega, by omega, by omega, by omega, gb1.symm, gb2.symm⟩

theorem fields4 {c0 c1 : Int} {d0 : Int} {rd rs1 rs2 x : Int} {aq rl : Bool} (hc0 : 0 ≤ c0 ∧ c0 ≤ 127) (hc1 : 0 ≤ c1 ∧ c1 ≤ 7) (hd0 : 0 ≤ d0 ∧ d0 ≤ 4095) (hx : x = (c0 + c1 * 4096) + (d0 * 1048576 + rd % 32 * 128 + rs1 % 32 * 32768)) : x / 128 % 32 = rd % 32 ∧ x / 32768 % 32 = rs1 % 32 ∧ immO 4 x = d0 % 2048 + d0 / 2048 * 4294965248 ∧ 0 ≤ x ∧ x ≤ 4294967295 := by
  have r1 : 0 ≤ rd % 32 ∧ rd % 32 ≤ 31 := by omega
  have r2 : 0 ≤ rs1 % 32 ∧ rs1 % 32 ≤ 31 := by omega
  have r3 : 0 ≤ rs2 % 32 ∧ rs2 % 32 ≤ 31 := by omega
  generalize rd % 32 = y1 at *
  generalize rs1 % 32 = y2 at *
  generalize rs2 % 32 = y3 at *
  simp only [immO, shortImm, sx]
  refine ⟨?_, ?_, ?_, ?_⟩
  all_goals (try split) <;> omega
theorem goodW4 {c0 c1 : Int} {rd rs1 rs2 imm : Int} {aq rl : Bool} (hc0 : 0 ≤ c0 ∧ c0 ≤ 127) (hc1 : 0 ≤ c1 ∧ c1 ≤ 7) (hi : Wd imm) : goodW 4 (c0 + c1 * 4096) rd rs1 rs2 imm aq rl ↔ mayP 4 rd rs1 rs2 imm aq rl := by
  unfold Wd at hi
  unfold goodW
  obtain ⟨x, hx⟩ : ∃ x, x = (c0 + c1 * 4096) + layO 4 rd rs1 rs2 imm aq rl := ⟨_, rfl⟩
  rw [← hx]
  simp only [layO, placeO, hasRd, hasRs1, hasRs2, hasOrd, shortPlace, Nat.reduceBEq, Bool.or_false, Bool.or_true, Bool.false_or, Bool.not_false, Bool.not_true, Bool.true_or, Bool.or_self, if_true, if_false, Bool.false_eq_true, Int.add_zero, Int.zero_add] at hx
  have hd0 : 0 ≤ imm % 4096 ∧ imm % 4096 ≤ 4095 := by omega
  have hf := fields4 (rd := rd) (rs1 := rs1) (rs2 := rs2) (aq := aq) (rl := rl) hc0 hc1 hd0 hx
  simp only [rdO, rs1O, rs2O, aqO, rlO, mayP, hasRd, hasRs1, hasRs2, hasOrd, immOk, Nat.reduceBEq, Bool.or_false, Bool.or_true, Bool.false_or, Bool.not_false, Bool.not_true, Bool.true_or, Bool.or_self, if_true, if_false, Bool.false_eq_true, Bool.true_eq_false, Bool.false_and, Bool.true_and, true_implies, false_implies, true_and, and_true]
  obtain ⟨f0, f1, f2, f3⟩ := hf
  rw [f0, f1, f2]
  clear hx f0 f1 f2 f3
  constructor
  · rintro ⟨g1, g2, g3, g4, g5, g6⟩
    refine ⟨by omega, by omega, by omega, ?_⟩
    refine ⟨by omega, ⟨g5.symm, g6.symm⟩, by omega⟩
  · rintro ⟨g1, g2, g3, h0, ⟨gb1, gb2⟩, gi⟩
    exact ⟨by omega, by omega, by omega, by omega, gb1.symm, gb2.symm⟩

theorem fields5 {c0 c1 c2 : Int} {d0 : Int} {rd rs1 rs2 x : Int} {aq rl : Bool} (hc0 : 0 ≤ c0 ∧ c0 ≤ 127) (hc1 : 0 ≤ c1 ∧ c1 ≤ 7) (hc2 : 0 ≤ c2 ∧ c2 ≤ 127) (hd0 : 0 ≤ d0 ∧ d0 ≤ 31) (hx : x = (c0 + c1 * 4096 + c2 * 33554432) + (d0 * 1048576 + rd % 32 * 128 + rs1 % 32 * 32768)) : x / 128 % 32 = rd % 32 ∧ x / 32768 % 32 = rs1 % 32 ∧ immO 5 x = d0 ∧ 0 ≤ x ∧ x ≤ 4294967295 := by
  have r1 : 0 ≤ rd % 32 ∧ rd % 32 ≤ 31 := by omega
  have r2 : 0 ≤ rs1 % 32 ∧ rs1 % 32 ≤ 31 := by omega
  have r3 : 0 ≤ rs2 % 32 ∧ rs2 % 32 ≤ 31 := by omega
  generalize rd % 32 = y1 at *
  generalize rs1 % 32 = y2 at *
  generalize rs2 % 32 = y3 at *
  simp only [immO, shiftImm]
  refine ⟨?_, ?_, ?_, ?_⟩
  all_goals (try split) <;> omega
theorem goodW5 {c0 c1 c2 : Int} {rd rs1 rs2 imm : Int} {aq rl : Bool} (hc0 : 0 ≤ c0 ∧ c0 ≤ 127) (hc1 : 0 ≤ c1 ∧ c1 ≤ 7) (hc2 : 0 ≤ c2 ∧ c2 ≤ 127) (hi : Wd imm) : goodW 5 (c0 + c1 * 4096 + c2 * 33554432) rd rs1 rs2 imm aq rl ↔ mayP 5 rd rs1 rs2 imm aq rl := by
  unfold Wd at hi
  unfold goodW
  obtain ⟨x, hx⟩ : ∃ x, x = (c0 + c1 * 4096 + c2 * 33554432) + layO 5 rd rs1 rs2 imm aq rl := ⟨_, rfl⟩
  rw [← hx]
  simp only [layO, placeO, hasRd, hasRs1, hasRs2, hasOrd, shiftPlace, Nat.reduceBEq, Bool.or_false, Bool.or_true, Bool.false_or, Bool.not_false, Bool.not_true, Bool.true_or, Bool.or_self, if_true, if_false, Bool.false_eq_true, Int.add_zero, Int.zero_add] at hx
  have hd0 : 0 ≤ imm % 32 ∧ imm % 32 ≤ 31 := by omega
  have hf := fields5 (rd := rd) (rs1 := rs1) (rs2 := rs2) (aq := aq) (rl := rl) hc0 hc1 hc2 hd0 hx
  simp only [rdO, rs1O, rs2O, aqO, rlO, mayP, hasRd, hasRs1, hasRs2, hasOrd, immOk, Nat.reduceBEq, Bool.or_false, Bool.or_true, Bool.false_or, Bool.not_false, Bool.not_true, Bool.true_or, Bool.or_self, if_true, if_false, Bool.false_eq_true, Bool.true_eq_false, Bool.false_and, Bool.true_and, true_implies, false_implies, true_and, and_true]
  obtain ⟨f0, f1, f2, f3⟩ := hf
  rw [f0, f1, f2]
  clear hx f0 f1 f2 f3
  constructor
  · rintro ⟨g1, g2, g3, g4, g5, g6⟩
    refine ⟨by omega, by omega, by omega, ?_⟩
    refine ⟨by omega, ⟨g5.symm, g6.symm⟩, by omega⟩
  · rintro ⟨g1, g2, g3, h0, ⟨gb1, gb2⟩, gi⟩
    exact ⟨by omega, by omega, by omega, by omega, gb1.symm, gb2.symm⟩

theorem fields6 {c0 c1 : Int} {d0 d1 d2 d3 : Int} {rd rs1 rs2 x : Int} {aq rl : Bool} (hc0 : 0 ≤ c0 ∧ c0 ≤ 127) (hc1 : 0 ≤ c1 ∧ c1 ≤ 7) (hd0 : 0 ≤ d0 ∧ d0 ≤ 1) (hd1 : 0 ≤ d1 ∧ d1 ≤ 63) (hd2 : 0 ≤ d2 ∧ d2 ≤ 15) (hd3 : 0 ≤ d3 ∧ d3 ≤ 1) (hx : x = (c0 + c1 * 4096) + (d0 * 2147483648 + d1 * 33554432 + d2 * 256 + d3 * 128 + rs1 % 32 * 32768 + rs2 % 32 * 1048576)) : x / 32768 % 32 = rs1 % 32 ∧ x / 1048576 % 32 = rs2 % 32 ∧ immO 6 x = d3 * 2048 + d1 % 64 * 32 + d2 * 2 + d0 * 4294963200 ∧ 0 ≤ x ∧ x ≤ 4294967295 := by
  have r1 : 0 ≤ rd % 32 ∧ rd % 32 ≤ 31 := by omega
  have r2 : 0 ≤ rs1 % 32 ∧ rs1 % 32 ≤ 31 := by omega
  have r3 : 0 ≤ rs2 % 32 ∧ rs2 % 32 ≤ 31 := by omega
  generalize rd % 32 = y1 at *
  generalize rs1 % 32 = y2 at *
  generalize rs2 % 32 = y3 at *
  simp only [immO, branchImm, sx]
  refine ⟨?_, ?_, ?_, ?_⟩
  all_goals (try split) <;> omega
theorem goodW6 {c0 c1 : Int} {rd rs1 rs2 imm : Int} {aq rl : Bool} (hc0 : 0 ≤ c0 ∧ c0 ≤ 127) (hc1 : 0 ≤ c1 ∧ c1 ≤ 7) (hi : Wd imm) : goodW 6 (c0 + c1 * 4096) rd rs1 rs2 imm aq rl ↔ mayP 6 rd rs1 rs2 imm aq rl := by
  unfold Wd at hi
  unfold goodW
  obtain ⟨x, hx⟩ : ∃ x, x = (c0 + c1 * 4096) + layO 6 rd rs1 rs2 imm aq rl := ⟨_, rfl⟩
  rw [← hx]
  simp only [layO, placeO, hasRd, hasRs1, hasRs2, hasOrd, branchPlace, Nat.reduceBEq, Bool.or_false, Bool.or_true, Bool.false_or, Bool.not_false, Bool.not_true, Bool.true_or, Bool.or_self, if_true, if_false, Bool.false_eq_true, Int.add_zero, Int.zero_add] at hx
  have hd0 : 0 ≤ imm / 4096 % 2 ∧ imm / 4096 % 2 ≤ 1 := by omega
  have hd1 : 0 ≤ imm / 32 % 64 ∧ imm / 32 % 64 ≤ 63 := by omega
  have hd2 : 0 ≤ imm / 2 % 16 ∧ imm / 2 % 16 ≤ 15 := by omega
  have hd3 : 0 ≤ imm / 2048 % 2 ∧ imm / 2048 % 2 ≤ 1 := by omega
  have hf := fields6 (rd := rd) (rs1 := rs1) (rs2 := rs2) (aq := aq) (rl := rl) hc0 hc1 hd0 hd1 hd2 hd3 hx
  simp only [rdO, rs1O, rs2O, aqO, rlO, mayP, hasRd, hasRs1, hasRs2, hasOrd, immOk, Nat.reduceBEq, Bool.or_false, Bool.or_true, Bool.false_or, Bool.not_false, Bool.not_true, Bool.true_or, Bool.or_self, if_true, if_false, Bool.false_eq_true, Bool.true_eq_false, Bool.false_and, Bool.true_and, true_implies, false_implies, true_and, and_true]
  obtain ⟨f0, f1, f2, f3⟩ := hf
  rw [f0, f1, f2]
  clear hx f0 f1 f2 f3
  constructor
  · rintro ⟨g1, g2, g3, g4, g5, g6⟩
    refine ⟨by omega, by omega, by omega, ?_⟩
    refine ⟨by omega, ⟨g5.symm, g6.symm⟩, by omega⟩
  · rintro ⟨g1, g2, g3, h0, ⟨gb1, gb2⟩, gi⟩
    exact ⟨by omega, by omega, by omega, by omega, gb1.symm, gb2.symm⟩

theorem fields7 {c0 c1 : Int} {d0 d1 : Int} {rd rs1 rs2 x : Int} {aq rl : Bool} (hc0 : 0 ≤ c0 ∧ c0 ≤ 127) (hc1 : 0 ≤ c1 ∧ c1 ≤ 7) (hd0 : 0 ≤ d0 ∧ d0 ≤ 127) (hd1 : 0 ≤ d1 ∧ d1 ≤ 31) (hx : x = (c0 + c1 * 4096) + (d0 * 33554432 + d1 * 128 + rs1 % 32 * 32768 + rs2 % 32 * 1048576)) : x / 32768 % 32 = rs1 % 32 ∧ x / 1048576 % 32 = rs2 % 32 ∧ immO 7 x = d0 % 64 * 32 + d1 + d0 / 64 * 4294965248 ∧ 0 ≤ x ∧ x ≤ 4294967295 := by
  have r1 : 0 ≤ rd % 32 ∧ rd % 32 ≤ 31 := by omega
  have r2 : 0 ≤ rs1 % 32 ∧ rs1 % 32 ≤ 31 := by omega
  have r3 : 0 ≤ rs2 % 32 ∧ rs2 % 32 ≤ 31 := by omega
  generalize rd % 32 = y1 at *
  generalize rs1 % 32 = y2 at *
  generalize rs2 % 32 = y3 at *
  simp only [immO, storeImm, sx]
  refine ⟨?_, ?_, ?_, ?_⟩
  all_goals (try split) <;> omega
theorem goodW7 {c0 c1 : Int} {rd rs1 rs2 imm : Int} {aq rl : Bool} (hc0 : 0 ≤ c0 ∧ c0 ≤ 127) (hc1 : 0 ≤ c1 ∧ c1 ≤ 7) (hi : Wd imm) : goodW 7 (c0 + c1 * 4096) rd rs1 rs2 imm aq rl ↔ mayP 7 rd rs1 rs2 imm aq rl := by
  unfold Wd at hi
  unfold goodW
  obtain ⟨x, hx⟩ : ∃ x, x = (c0 + c1 * 4096) + layO 7 rd rs1 rs2 imm aq rl := ⟨_, rfl⟩
  rw [← hx]
  simp only [layO, placeO, hasRd, hasRs1, hasRs2, hasOrd, storePlace, Nat.reduceBEq, Bool.or_false, Bool.or_true, Bool.false_or, Bool.not_false, Bool.not_true, Bool.true_or, Bool.or_self, if_true, if_false, Bool.false_eq_true, Int.add_zero, Int.zero_add] at hx
  have hd0 : 0 ≤ imm / 32 % 128 ∧ imm / 32 % 128 ≤ 127 := by omega
  have hd1 : 0 ≤ imm % 32 ∧ imm % 32 ≤ 31 := by omega
  have hf := fields7 (rd := rd) (rs1 := rs1) (rs2 := rs2) (aq := aq) (rl := rl) hc0 hc1 hd0 hd1 hx
  simp only [rdO, rs1O, rs2O, aqO, rlO, mayP, hasRd, hasRs1, hasRs2, hasOrd, immOk, Nat.reduceBEq, Bool.or_false, Bool.or_true, Bool.false_or, Bool.not_false, Bool.not_true, Bool.true_or, Bool.or_self, if_true, if_false, Bool.false_eq_true, Bool.true_eq_false, Bool.false_and, Bool.true_and, true_implies, false_implies, true_and, and_true]
  obtain ⟨f0, f1, f2, f3⟩ := hf
  rw [f0, f1, f2]
  clear hx f0 f1 f2 f3
  constructor
  · rintro ⟨g1, g2, g3, g4, g5, g6⟩
    refine ⟨by omega, by omega, by omega, ?_⟩
    refine ⟨by omega, ⟨g5.symm, g6.symm⟩, by omega⟩
  · rintro ⟨g1, g2, g3, h0, ⟨gb1, gb2⟩, gi⟩
    exact ⟨by omega, by omega, by omega, by omega, gb1.symm, gb2.symm⟩

theorem fields8 {c0 c1 c2 : Int} {rd rs1 rs2 x : Int} {aq rl : Bool} (hc0 : 0 ≤ c0 ∧ c0 ≤ 127) (hc1 : 0 ≤ c1 ∧ c1 ≤ 7) (hc2 : 0 ≤ c2 ∧ c2 ≤ 127)  (hx : x = (c0 + c1 * 4096 + c2 * 33554432) + (rd % 32 * 128 + rs1 % 32 * 32768 + rs2 % 32 * 1048576)) : x / 128 % 32 = rd % 32 ∧ x / 32768 % 32 = rs1 % 32 ∧ x / 1048576 % 32 = rs2 % 32 ∧ 0 ≤ x ∧ x ≤ 4294967295 := by
  have r1 : 0 ≤ rd % 32 ∧ rd % 32 ≤ 31 := by omega
  have r2 : 0 ≤ rs1 % 32 ∧ rs1 % 32 ≤ 31 := by omega
  have r3 : 0 ≤ rs2 % 32 ∧ rs2 % 32 ≤ 31 := by omega
  generalize rd % 32 = y1 at *
  generalize rs1 % 32 = y2 at *
  generalize rs2 % 32 = y3 at *
  refine ⟨?_, ?_, ?_, ?_⟩
  all_goals (try split) <;> omega
theorem goodW8 {c0 c1 c2 : Int} {rd rs1 rs2 imm : Int} {aq rl : Bool} (hc0 : 0 ≤ c0 ∧ c0 ≤ 127) (hc1 : 0 ≤ c1 ∧ c1 ≤ 7) (hc2 : 0 ≤ c2 ∧ c2 ≤ 127) (hi : Wd imm) : goodW 8 (c0 + c1 * 4096 + c2 * 33554432) rd rs1 rs2 imm aq rl ↔ mayP 8 rd rs1 rs2 imm aq rl := by
  unfold Wd at hi
  unfold goodW
  obtain ⟨x, hx⟩ : ∃ x, x = (c0 + c1 * 4096 + c2 * 33554432) + layO 8 rd rs1 rs2 imm aq rl := ⟨_, rfl⟩
  rw [← hx]
  simp only [layO, placeO, hasRd, hasRs1, hasRs2, hasOrd, Nat.reduceBEq, Bool.or_false, Bool.or_true, Bool.false_or, Bool.not_false, Bool.not_true, Bool.true_or, Bool.or_self, if_true, if_false, Bool.false_eq_true, Int.add_zero, Int.zero_add] at hx
  have hf := fields8 (rd := rd) (rs1 := rs1) (rs2 := rs2) (aq := aq) (rl := rl) hc0 hc1 hc2  hx
  simp only [rdO, rs1O, rs2O, aqO, rlO, mayP, hasRd, hasRs1, hasRs2, hasOrd, immOk, Nat.reduceBEq, Bool.or_false, Bool.or_true, Bool.false_or, Bool.not_false, Bool.not_true, Bool.true_or, Bool.or_self, if_true, if_false, Bool.false_eq_true, Bool.true_eq_false, Bool.false_and, Bool.true_and, true_implies, false_implies, true_and, and_true]
  obtain ⟨f0, f1, f2, f3⟩ := hf
  rw [f0, f1, f2]
  simp only [immO]
  clear hx f0 f1 f2 f3
  constructor
  · rintro ⟨g1, g2, g3, g4, g5, g6⟩
    refine ⟨by omega, by omega, by omega, ?_⟩
    refine ⟨⟨g5.symm, g6.symm⟩, by omega⟩
  · rintro ⟨g1, g2, g3, ⟨gb1, gb2⟩, gi⟩
    exact ⟨by omega, by omega, by omega, by omega, gb1.symm, gb2.symm⟩

theorem fields9 {d0 : Int} {rd rs1 rs2 x : Int} {aq rl : Bool}  (hd0 : 0 ≤ d0 ∧ d0 ≤ 255) (hx : x = (15) + (d0 * 1048576)) : immO 9 x = d0 ∧ 0 ≤ x ∧ x ≤ 4294967295 := by
  have r1 : 0 ≤ rd % 32 ∧ rd % 32 ≤ 31 := by omega
  have r2 : 0 ≤ rs1 % 32 ∧ rs1 % 32 ≤ 31 := by omega
  have r3 : 0 ≤ rs2 % 32 ∧ rs2 % 32 ≤ 31 := by omega
  generalize rd % 32 = y1 at *
  generalize rs1 % 32 = y2 at *
  generalize rs2 % 32 = y3 at *
  simp only [immO, fenceImm]
  refine ⟨?_, ?_⟩
  all_goals (try split) <;> omega
theorem goodW9 {rd rs1 rs2 imm : Int} {aq rl : Bool}  (hi : Wd imm) : goodW 9 (15) rd rs1 rs2 imm aq rl ↔ mayP 9 rd rs1 rs2 imm aq rl := by
  unfold Wd at hi
  unfold goodW
  obtain ⟨x, hx⟩ : ∃ x, x = (15) + layO 9 rd rs1 rs2 imm aq rl := ⟨_, rfl⟩
  rw [← hx]
  simp only [layO, placeO, hasRd, hasRs1, hasRs2, hasOrd, fencePlace, Nat.reduceBEq, Bool.or_false, Bool.or_true, Bool.false_or, Bool.not_false, Bool.not_true, Bool.true_or, Bool.or_self, if_true, if_false, Bool.false_eq_true, Int.add_zero, Int.zero_add] at hx
  have hd0 : 0 ≤ imm % 256 ∧ imm % 256 ≤ 255 := by omega
  have hf := fields9 (rd := rd) (rs1 := rs1) (rs2 := rs2) (aq := aq) (rl := rl)  hd0 hx
  simp only [rdO, rs1O, rs2O, aqO, rlO, mayP, hasRd, hasRs1, hasRs2, hasOrd, immOk, Nat.reduceBEq, Bool.or_false, Bool.or_true, Bool.false_or, Bool.not_false, Bool.not_true, Bool.true_or, Bool.or_self, if_true, if_false, Bool.false_eq_true, Bool.true_eq_false, Bool.false_and, Bool.true_and, true_implies, false_implies, true_and, and_true]
  obtain ⟨f0, f1⟩ := hf
  rw [f0]
  clear hx f0 f1
  constructor
  · rintro ⟨g1, g2, g3, g4, g5, g6⟩
    refine ⟨by omega, by omega, by omega, ?_⟩
    refine ⟨by omega, by omega, by omega, ⟨g5.symm, g6.symm⟩, by omega⟩
  · rintro ⟨g1, g2, g3, h0, h1, h2, ⟨gb1, gb2⟩, gi⟩
    exact ⟨by omega, by omega, by omega, by omega, gb1.symm, gb2.symm⟩

theorem fields10 {rd rs1 rs2 x : Int} {aq rl : Bool}   (hx : x = (115) + (0)) : 0 ≤ x ∧ x ≤ 4294967295 := by
  have r1 : 0 ≤ rd % 32 ∧ rd % 32 ≤ 31 := by omega
  have r2 : 0 ≤ rs1 % 32 ∧ rs1 % 32 ≤ 31 := by omega
  have r3 : 0 ≤ rs2 % 32 ∧ rs2 % 32 ≤ 31 := by omega
  generalize rd % 32 = y1 at *
  generalize rs1 % 32 = y2 at *
  generalize rs2 % 32 = y3 at *
  all_goals (try split) <;> omega
theorem goodW10 {rd rs1 rs2 imm : Int} {aq rl : Bool}  (hi : Wd imm) : goodW 10 (115) rd rs1 rs2 imm aq rl ↔ mayP 10 rd rs1 rs2 imm aq rl := by
  unfold Wd at hi
  unfold goodW
  obtain ⟨x, hx⟩ : ∃ x, x = (115) + layO 10 rd rs1 rs2 imm aq rl := ⟨_, rfl⟩
  rw [← hx]
  simp only [layO, placeO, hasRd, hasRs1, hasRs2, hasOrd, Nat.reduceBEq, Bool.or_false, Bool.or_true, Bool.false_or, Bool.not_false, Bool.not_true, Bool.true_or, Bool.or_self, if_true, if_false, Bool.false_eq_true, Int.add_zero, Int.zero_add] at hx
  have hf := fields10 (rd := rd) (rs1 := rs1) (rs2 := rs2) (aq := aq) (rl := rl)   hx
  simp only [rdO, rs1O, rs2O, aqO, rlO, mayP, hasRd, hasRs1, hasRs2, hasOrd, immOk, Nat.reduceBEq, Bool.or_false, Bool.or_true, Bool.false_or, Bool.not_false, Bool.not_true, Bool.true_or, Bool.or_self, if_true, if_false, Bool.false_eq_true, Bool.true_eq_false, Bool.false_and, Bool.true_and, true_implies, false_implies, true_and, and_true]
  have f0 := hf
  simp only [immO]
  clear hx f0
  constructor
  · rintro ⟨g1, g2, g3, g4, g5, g6⟩
    refine ⟨by omega, by omega, by omega, ?_⟩
    refine ⟨by omega, by omega, by omega, ⟨g5.symm, g6.symm⟩, by omega⟩
  · rintro ⟨g1, g2, g3, h0, h1, h2, ⟨gb1, gb2⟩, gi⟩
    exact ⟨by omega, by omega, by omega, by omega, gb1.symm, gb2.symm⟩

theorem fields11 {c0 c1 c2 : Int} {rd rs1 rs2 x : Int} {aq rl : Bool} (hc0 : 0 ≤ c0 ∧ c0 ≤ 127) (hc1 : 0 ≤ c1 ∧ c1 ≤ 7) (hc2 : 0 ≤ c2 ∧ c2 ≤ 31)  (hx : x = (c0 + c1 * 4096 + c2 * 134217728) + (rd % 32 * 128 + rs1 % 32 * 32768 + rs2 % 32 * 1048576 + b01 aq * 67108864 + b01 rl * 33554432)) : x / 128 % 32 = rd % 32 ∧ x / 32768 % 32 = rs1 % 32 ∧ x / 1048576 % 32 = rs2 % 32 ∧ x / 67108864 % 2 = b01 aq ∧ x / 33554432 % 2 = b01 rl ∧ 0 ≤ x ∧ x ≤ 4294967295 := by
  have a1 := b01_bd aq
  have a2 := b01_bd rl
  have r1 : 0 ≤ rd % 32 ∧ rd % 32 ≤ 31 := by omega
  have r2 : 0 ≤ rs1 % 32 ∧ rs1 % 32 ≤ 31 := by omega
  have r3 : 0 ≤ rs2 % 32 ∧ rs2 % 32 ≤ 31 := by omega
  generalize rd % 32 = y1 at *
  generalize rs1 % 32 = y2 at *
  generalize rs2 % 32 = y3 at *
  generalize b01 aq = z1 at *
  generalize b01 rl = z2 at *
  refine ⟨?_, ?_, ?_, ?_, ?_, ?_⟩
  all_goals (try split) <;> omega
theorem goodW11 {c0 c1 c2 : Int} {rd rs1 rs2 imm : Int} {aq rl : Bool} (hc0 : 0 ≤ c0 ∧ c0 ≤ 127) (hc1 : 0 ≤ c1 ∧ c1 ≤ 7) (hc2 : 0 ≤ c2 ∧ c2 ≤ 31) (hi : Wd imm) : goodW 11 (c0 + c1 * 4096 + c2 * 134217728) rd rs1 rs2 imm aq rl ↔ mayP 11 rd rs1 rs2 imm aq rl := by
  unfold Wd at hi
  unfold goodW
  obtain ⟨x, hx⟩ : ∃ x, x = (c0 + c1 * 4096 + c2 * 134217728) + layO 11 rd rs1 rs2 imm aq rl := ⟨_, rfl⟩
  rw [← hx]
  simp only [layO, placeO, hasRd, hasRs1, hasRs2, hasOrd, Nat.reduceBEq, Bool.or_false, Bool.or_true, Bool.false_or, Bool.not_false, Bool.not_true, Bool.true_or, Bool.or_self, if_true, if_false, Bool.false_eq_true, Int.add_zero, Int.zero_add] at hx
  have hf := fields11 (rd := rd) (rs1 := rs1) (rs2 := rs2) (aq := aq) (rl := rl) hc0 hc1 hc2  (show x = _ by omega)
  simp only [rdO, rs1O, rs2O, aqO, rlO, mayP, hasRd, hasRs1, hasRs2, hasOrd, immOk, Nat.reduceBEq, Bool.or_false, Bool.or_true, Bool.false_or, Bool.not_false, Bool.not_true, Bool.true_or, Bool.or_self, if_true, if_false, Bool.false_eq_true, Bool.true_eq_false, Bool.false_and, Bool.true_and, true_implies, false_implies, true_and, and_true]
  obtain ⟨f0, f1, f2, f3, f4, f5⟩ := hf
  rw [f0, f1, f2, f3, f4]
  rw [b01_is, b01_is]
  simp only [immO]
  clear hx f0 f1 f2 f3 f4 f5
  constructor
  · rintro ⟨g1, g2, g3, g4, g5, g6⟩
    exact ⟨by omega, by omega, by omega, by omega⟩
  · rintro ⟨g0, g1, g2, g3⟩
    exact ⟨by omega, by omega, by omega, by omega, trivial, trivial⟩

theorem fields12 {rd rs1 rs2 x : Int} {aq rl : Bool}   (hx : x = (268443695) + (rd % 32 * 128 + rs1 % 32 * 32768 + b01 aq * 67108864 + b01 rl * 33554432)) : x / 128 % 32 = rd % 32 ∧ x / 32768 % 32 = rs1 % 32 ∧ x / 67108864 % 2 = b01 aq ∧ x / 33554432 % 2 = b01 rl ∧ 0 ≤ x ∧ x ≤ 4294967295 := by
  have a1 := b01_bd aq
  have a2 := b01_bd rl
  have r1 : 0 ≤ rd % 32 ∧ rd % 32 ≤ 31 := by omega
  have r2 : 0 ≤ rs1 % 32 ∧ rs1 % 32 ≤ 31 := by omega
  have r3 : 0 ≤ rs2 % 32 ∧ rs2 % 32 ≤ 31 := by omega
  generalize rd % 32 = y1 at *
  generalize rs1 % 32 = y2 at *
  generalize rs2 % 32 = y3 at *
  generalize b01 aq = z1 at *
  generalize b01 rl = z2 at *
  refine ⟨?_, ?_, ?_, ?_, ?_⟩
  all_goals (try split) <;> omega
theorem goodW12 {rd rs1 rs2 imm : Int} {aq rl : Bool}  (hi : Wd imm) : goodW 12 (268443695) rd rs1 rs2 imm aq rl ↔ mayP 12 rd rs1 rs2 imm aq rl := by
  unfold Wd at hi
  unfold goodW
  obtain ⟨x, hx⟩ : ∃ x, x = (268443695) + layO 12 rd rs1 rs2 imm aq rl := ⟨_, rfl⟩
  rw [← hx]
  simp only [layO, placeO, hasRd, hasRs1, hasRs2, hasOrd, Nat.reduceBEq, Bool.or_false, Bool.or_true, Bool.false_or, Bool.not_false, Bool.not_true, Bool.true_or, Bool.or_self, if_true, if_false, Bool.false_eq_true, Int.add_zero, Int.zero_add] at hx
  have hf := fields12 (rd := rd) (rs1 := rs1) (rs2 := rs2) (aq := aq) (rl := rl)   (show x = _ by omega)
  simp only [rdO, rs1O, rs2O, aqO, rlO, mayP, hasRd, hasRs1, hasRs2, hasOrd, immOk, Nat.reduceBEq, Bool.or_false, Bool.or_true, Bool.false_or, Bool.not_false, Bool.not_true, Bool.true_or, Bool.or_self, if_true, if_false, Bool.false_eq_true, Bool.true_eq_false, Bool.false_and, Bool.true_and, true_implies, false_implies, true_and, and_true]
  obtain ⟨f0, f1, f2, f3, f4⟩ := hf
  rw [f0, f1, f2, f3]
  rw [b01_is, b01_is]
  simp only [immO]
  clear hx f0 f1 f2 f3 f4
  constructor
  · rintro ⟨g1, g2, g3, g4, g5, g6⟩
    exact ⟨by omega, by omega, by omega, by omega, by omega⟩
  · rintro ⟨g0, g1, g2, g3, g4⟩
    exact ⟨by omega, by omega, by omega, by omega, trivial, trivial⟩

theorem fields13 {rd rs1 rs2 x : Int} {aq rl : Bool}   (hx : x = (4047511667) + (rd % 32 * 128)) : x / 128 % 32 = rd % 32 ∧ 0 ≤ x ∧ x ≤ 4294967295 := by
  have r1 : 0 ≤ rd % 32 ∧ rd % 32 ≤ 31 := by omega
  have r2 : 0 ≤ rs1 % 32 ∧ rs1 % 32 ≤ 31 := by omega
  have r3 : 0 ≤ rs2 % 32 ∧ rs2 % 32 ≤ 31 := by omega
  generalize rd % 32 = y1 at *
  generalize rs1 % 32 = y2 at *
  generalize rs2 % 32 = y3 at *
  refine ⟨?_, ?_⟩
  all_goals (try split) <;> omega
theorem goodW13 {rd rs1 rs2 imm : Int} {aq rl : Bool}  (hi : Wd imm) : goodW 13 (4047511667) rd rs1 rs2 imm aq rl ↔ mayP 13 rd rs1 rs2 imm aq rl := by
  unfold Wd at hi
  unfold goodW
  obtain ⟨x, hx⟩ : ∃ x, x = (4047511667) + layO 13 rd rs1 rs2 imm aq rl := ⟨_, rfl⟩
  rw [← hx]
  simp only [layO, placeO, hasRd, hasRs1, hasRs2, hasOrd, Nat.reduceBEq, Bool.or_false, Bool.or_true, Bool.false_or, Bool.not_false, Bool.not_true, Bool.true_or, Bool.or_self, if_true, if_false, Bool.false_eq_true, Int.add_zero, Int.zero_add] at hx
  have hf := fields13 (rd := rd) (rs1 := rs1) (rs2 := rs2) (aq := aq) (rl := rl)   hx
  simp only [rdO, rs1O, rs2O, aqO, rlO, mayP, hasRd, hasRs1, hasRs2, hasOrd, immOk, Nat.reduceBEq, Bool.or_false, Bool.or_true, Bool.false_or, Bool.not_false, Bool.not_true, Bool.true_or, Bool.or_self, if_true, if_false, Bool.false_eq_true, Bool.true_eq_false, Bool.false_and, Bool.true_and, true_implies, false_implies, true_and, and_true]
  obtain ⟨f0, f1⟩ := hf
  rw [f0]
  simp only [immO]
  clear hx f0 f1
  constructor
  · rintro ⟨g1, g2, g3, g4, g5, g6⟩
    refine ⟨by omega, by omega, by omega, ?_⟩
    refine ⟨by omega, by omega, ⟨g5.symm, g6.symm⟩, by omega⟩
  · rintro ⟨g1, g2, g3, h0, h1, ⟨gb1, gb2⟩, gi⟩
    exact ⟨by omega, by omega, by omega, by omega, gb1.symm, gb2.symm⟩

theorem tab1 : ∀ op, op < 60 → fm op = 1 → wd op = wd op % 128 := by decide +kernel
theorem tab2 : ∀ op, op < 60 → fm op = 2 → wd op = wd op % 128 := by decide +kernel
theorem tab3 : ∀ op, op < 60 → fm op = 3 → wd op = wd op % 128 + wd op / 4096 % 8 * 4096 := by decide +kernel
theorem tab4 : ∀ op, op < 60 → fm op = 4 → wd op = wd op % 128 + wd op / 4096 % 8 * 4096 := by decide +kernel
theorem tab5 : ∀ op, op < 60 → fm op = 5 → wd op = wd op % 128 + wd op / 4096 % 8 * 4096 + wd op / 33554432 * 33554432 := by decide +kernel
theorem tabb5 : ∀ op, op < 60 → fm op = 5 → (0 ≤ wd op / 33554432 ∧ wd op / 33554432 ≤ 127) := by decide +kernel
theorem tab6 : ∀ op, op < 60 → fm op = 6 → wd op = wd op % 128 + wd op / 4096 % 8 * 4096 := by decide +kernel
theorem tab7 : ∀ op, op < 60 → fm op = 7 → wd op = wd op % 128 + wd op / 4096 % 8 * 4096 := by decide +kernel
theorem tab8 : ∀ op, op < 60 → fm op = 8 → wd op = wd op % 128 + wd op / 4096 % 8 * 4096 + wd op / 33554432 * 33554432 := by decide +kernel
theorem tabb8 : ∀ op, op < 60 → fm op = 8 → (0 ≤ wd op / 33554432 ∧ wd op / 33554432 ≤ 127) := by decide +kernel
theorem tab9 : ∀ op, op < 60 → fm op = 9 → wd op = 15 := by decide +kernel
theorem tab10 : ∀ op, op < 60 → fm op = 10 → wd op = 115 := by decide +kernel
theorem tab11 : ∀ op, op < 60 → fm op = 11 → wd op = wd op % 128 + wd op / 4096 % 8 * 4096 + wd op / 134217728 * 134217728 := by decide +kernel
theorem tabb11 : ∀ op, op < 60 → fm op = 11 → (0 ≤ wd op / 134217728 ∧ wd op / 134217728 ≤ 31) := by decide +kernel
theorem tab12 : ∀ op, op < 60 → fm op = 12 → wd op = 268443695 := by decide +kernel
theorem tab13 : ∀ op, op < 60 → fm op = 13 → wd op = 4047511667 := by decide +kernel
theorem good_iff (op : Nat) (h : 1 ≤ op ∧ op ≤ 59) {rd rs1 rs2 imm : Int} {aq rl : Bool} (hi : Wd imm) : good op rd rs1 rs2 imm aq rl ↔ mayP (fm op) rd rs1 rs2 imm aq rl := by
  show goodW (fm op) (wd op) rd rs1 rs2 imm aq rl ↔ _
  have hk : 1 ≤ fm op ∧ fm op ≤ 13 := by
    rcases fm_ok op (by omega) with h0 | h0
    · omega
    · exact h0
  rcases (show fm op = 1 ∨ fm op = 2 ∨ fm op = 3 ∨ fm op = 4 ∨ fm op = 5 ∨ fm op = 6 ∨ fm op = 7 ∨ fm op = 8 ∨ fm op = 9 ∨ fm op = 10 ∨ fm op = 11 ∨ fm op = 12 ∨ fm op = 13 by omega) with hk | hk | hk | hk | hk | hk | hk | hk | hk | hk | hk | hk | hk
  · rw [tab1 op (by omega) hk, hk]; exact goodW1 (by omega) hi
  · rw [tab2 op (by omega) hk, hk]; exact goodW2 (by omega) hi
  · rw [tab3 op (by omega) hk, hk]; exact goodW3 (by omega) (by omega) hi
  · rw [tab4 op (by omega) hk, hk]; exact goodW4 (by omega) (by omega) hi
  · rw [tab5 op (by omega) hk, hk]; exact goodW5 (by omega) (by omega) (tabb5 op (by omega) hk) hi
  · rw [tab6 op (by omega) hk, hk]; exact goodW6 (by omega) (by omega) hi
  · rw [tab7 op (by omega) hk, hk]; exact goodW7 (by omega) (by omega) hi
  · rw [tab8 op (by omega) hk, hk]; exact goodW8 (by omega) (by omega) (tabb8 op (by omega) hk) hi
  · rw [tab9 op (by omega) hk, hk]; exact goodW9  hi
  · rw [tab10 op (by omega) hk, hk]; exact goodW10  hi
  · rw [tab11 op (by omega) hk, hk]; exact goodW11 (by omega) (by omega) (tabb11 op (by omega) hk) hi
  · rw [tab12 op (by omega) hk, hk]; exact goodW12  hi
  · rw [tab13 op (by omega) hk, hk]; exact goodW13  hi

theorem or_assoc {a b c : Int} (ha : Wd a) (hb : Wd b) (hc : Wd c) : bits .or .u32 a (bits .or .u32 b c) = bits .or .u32 (bits .or .u32 a b) c := by
  unfold Wd at *
  obtain ⟨x, rfl⟩ := Int.eq_ofNat_of_zero_le ha.1
  obtain ⟨y, rfl⟩ := Int.eq_ofNat_of_zero_le hb.1
  obtain ⟨z, rfl⟩ := Int.eq_ofNat_of_zero_le hc.1
  have l1 : y ||| z < 2 ^ 32 := Nat.or_lt_two_pow (by omega) (by omega)
  have l2 : x ||| y < 2 ^ 32 := Nat.or_lt_two_pow (by omega) (by omega)
  rw [u32_or_nat y z (by omega) (by omega), u32_or_nat x y (by omega) (by omega), u32_or_nat x _ (by omega) (by omega), u32_or_nat _ z (by omega) (by omega), Nat.or_assoc]
theorem xor_assoc {a b c : Int} (ha : Wd a) (hb : Wd b) (hc : Wd c) : bits .xor .u32 a (bits .xor .u32 b c) = bits .xor .u32 (bits .xor .u32 a b) c := by
  unfold Wd at *
  obtain ⟨x, rfl⟩ := Int.eq_ofNat_of_zero_le ha.1
  obtain ⟨y, rfl⟩ := Int.eq_ofNat_of_zero_le hb.1
  obtain ⟨z, rfl⟩ := Int.eq_ofNat_of_zero_le hc.1
  have l1 : y ^^^ z < 2 ^ 32 := Nat.xor_lt_two_pow (by omega) (by omega)
  have l2 : x ^^^ y < 2 ^ 32 := Nat.xor_lt_two_pow (by omega) (by omega)
  rw [u32_xor_nat y z (by omega) (by omega), u32_xor_nat x y (by omega) (by omega), u32_xor_nat x _ (by omega) (by omega), u32_xor_nat _ z (by omega) (by omega), Nat.xor_assoc]
theorem xorD (k m : Nat) {x y : Int} (hx : Wd x) (hy : Wd y) (h2 : y % 2 ^ k = 0) (h3 : x / 2 ^ k % 2 ^ m = y / 2 ^ k) : bits .xor .u32 x y = x - y := by
  unfold Wd at hx hy
  obtain ⟨a, rfl⟩ := Int.eq_ofNat_of_zero_le hx.1
  obtain ⟨b, rfl⟩ := Int.eq_ofNat_of_zero_le hy.1
  have p1 : ∀ k : Nat, (2 : Int) ^ k = ((2 ^ k : Nat) : Int) := fun k => by simp
  rw [p1] at h2
  rw [p1, p1] at h3
  norm_cast at h2 h3
  obtain ⟨c, rfl⟩ := Nat.dvd_of_mod_eq_zero h2
  rw [Nat.mul_div_cancel_left _ (Nat.two_pow_pos k)] at h3
  have hle : 2 ^ k * c ≤ a := by
    rw [← h3]
    exact Nat.le_trans (Nat.mul_le_mul_left _ (Nat.mod_le _ _)) (Nat.mul_div_le _ _)
  rw [u32_xor_nat _ _ (by omega) (by omega), Nat.mul_comm, xor_drop h3, Nat.mul_comm]
  omega
theorem or2D (q m p n : Nat) {w z v : Int} (hw : Wd w) (hz : Wd z) (hv : Wd v) (hs : w + z ≤ 4294967295) (a1 : w / 2 ^ q % 2 ^ m = 0) (a2 : z % 2 ^ q = 0) (a3 : z / 2 ^ q < 2 ^ m)
    (b0 : z / 2 ^ p % 2 ^ n = 0) (b1 : (w + z) / 2 ^ p % 2 ^ n = 0) (b2 : v % 2 ^ p = 0) (b3 : v / 2 ^ p < 2 ^ n) : bits .or .u32 w (z + v) = w + (z + v) := by
  rw [← orI p n hz hv b0 b2 b3, or_assoc hw hz hv, orI q m hw hz a1 a2 a3, orI p n (show Wd (w + z) by unfold Wd at *; omega) hv b1 b2 b3, orI p n hz hv b0 b2 b3]; omega
theorem xor2D (q m p n : Nat) {x z v : Int} (hx : Wd x) (hz : Wd z) (hv : Wd v) (hs : z ≤ x) (a1 : x / 2 ^ q % 2 ^ m = z / 2 ^ q) (a2 : z % 2 ^ q = 0)
    (b0 : z / 2 ^ p % 2 ^ n = 0) (b1 : (x - z) / 2 ^ p % 2 ^ n = v / 2 ^ p) (b2 : v % 2 ^ p = 0) (b3 : v / 2 ^ p < 2 ^ n) : bits .xor .u32 x (z + v) = x - (z + v) := by
  rw [← xorI p n hz hv b0 b2 b3, xor_assoc hx hz hv, xorD q m hx hz a2 a1, xorD p n (show Wd (x - z) by unfold Wd at *; omega) hv b2 b1, xorI p n hz hv b0 b2 b3]; omega
theorem sg_bd (n : Int) (h : 0 ≤ n ∧ n ≤ 4294967295) : -2147483648 ≤ sg n ∧ sg n ≤ 2147483647 := by unfold sg; split <;> omega
end Is
/-- what May answers -/
def MayPost (k : Nat) (rd rs1 rs2 imm : Int) (aq rl : Bool) (e : Ending) : Prop :=
  (Is.mayP k rd rs1 rs2 imm aq rl ∧ e = .returned (.bool true)) ∨ (¬ Is.mayP k rd rs1 rs2 imm aq rl ∧ e = .returned (.bool false))
end Go.Proofs.YtianojbdabeoeaaDoor
