/-
  The document's own answer: May and Encode of what may be, of any form.
-/
import Derived.Test.YtianojbdabeoeaaDoorIsMayA
import Derived.Test.YtianojbdabeoeaaDoorIsMayB
import Derived.Test.YtianojbdabeoeaaDoorIsMayC
import Derived.Test.YtianojbdabeoeaaDoorIsRencA
import Derived.Test.YtianojbdabeoeaaDoorIsRencB
import Derived.Test.YtianojbdabeoeaaDoorIsFin
namespace Go.Proofs.YtianojbdabeoeaaDoor
open Go.RowKit
set_option linter.unusedVariables false
set_option linter.unusedSimpArgs false
theorem rmay_yes (op : Nat) (h : 1 ≤ op ∧ op ≤ 59) (rd rs1 rs2 imm : Int) (aq rl : Bool) (hi : Is.Wd imm) (hm : Is.mayP (Is.fm op) rd rs1 rs2 imm aq rl) (w : World) :
    Calls Tryd.prog 6 #[inst op rd rs1 rs2 imm aq rl] w fun e w' => e = .returned (.bool true) ∧ Below w.heap.size w w' := by
  have hk := Is.fm_in op h
  rcases (show Is.fm op = 1 ∨ Is.fm op = 2 ∨ Is.fm op = 3 ∨ Is.fm op = 4 ∨ Is.fm op = 5 ∨ Is.fm op = 6 ∨ Is.fm op = 7 ∨ Is.fm op = 8 ∨ Is.fm op = 9 ∨ Is.fm op = 10 ∨ Is.fm op = 11 ∨ Is.fm op = 12 ∨ Is.fm op = 13 by omega) with hk | hk | hk | hk | hk | hk | hk | hk | hk | hk | hk | hk | hk
  · rw [hk] at hm
    obtain ⟨b1, b2, b3, h1, h2, h3, h4, h5⟩ := hm
    obtain rfl : rs1 = 0 := h2 rfl
    obtain rfl : rs2 = 0 := h3 rfl
    obtain ⟨rfl, rfl⟩ := h4 rfl
    exact rmayT1 op h hk rd 0 0 imm false false hi b1 h5 w
  · rw [hk] at hm
    obtain ⟨b1, b2, b3, h1, h2, h3, h4, h5⟩ := hm
    obtain rfl : rs1 = 0 := h2 rfl
    obtain rfl : rs2 = 0 := h3 rfl
    obtain ⟨rfl, rfl⟩ := h4 rfl
    exact rmayT2 op h hk rd 0 0 imm false false hi b1 h5 w
  · rw [hk] at hm
    obtain ⟨b1, b2, b3, h1, h2, h3, h4, h5⟩ := hm
    obtain rfl : rs2 = 0 := h3 rfl
    obtain ⟨rfl, rfl⟩ := h4 rfl
    exact rmayT3 op h hk rd rs1 0 imm false false hi b1 b2 h5 w
  · rw [hk] at hm
    obtain ⟨b1, b2, b3, h1, h2, h3, h4, h5⟩ := hm
    obtain rfl : rs2 = 0 := h3 rfl
    obtain ⟨rfl, rfl⟩ := h4 rfl
    exact rmayT4 op h hk rd rs1 0 imm false false hi b1 b2 h5 w
  · rw [hk] at hm
    obtain ⟨b1, b2, b3, h1, h2, h3, h4, h5⟩ := hm
    obtain rfl : rs2 = 0 := h3 rfl
    obtain ⟨rfl, rfl⟩ := h4 rfl
    exact rmayT5 op h hk rd rs1 0 imm false false hi b1 b2 h5 w
  · rw [hk] at hm
    obtain ⟨b1, b2, b3, h1, h2, h3, h4, h5⟩ := hm
    obtain rfl : rd = 0 := h1 rfl
    obtain ⟨rfl, rfl⟩ := h4 rfl
    exact rmayT6 op h hk 0 rs1 rs2 imm false false hi b2 b3 h5 w
  · rw [hk] at hm
    obtain ⟨b1, b2, b3, h1, h2, h3, h4, h5⟩ := hm
    obtain rfl : rd = 0 := h1 rfl
    obtain ⟨rfl, rfl⟩ := h4 rfl
    exact rmayT7 op h hk 0 rs1 rs2 imm false false hi b2 b3 h5 w
  · rw [hk] at hm
    obtain ⟨b1, b2, b3, h1, h2, h3, h4, h5⟩ := hm
    obtain ⟨rfl, rfl⟩ := h4 rfl
    obtain rfl : imm = 0 := h5
    exact rmayT8 op h hk rd rs1 rs2 0 false false hi b1 b2 b3  w
  · rw [hk] at hm
    obtain ⟨b1, b2, b3, h1, h2, h3, h4, h5⟩ := hm
    obtain rfl : rd = 0 := h1 rfl
    obtain rfl : rs1 = 0 := h2 rfl
    obtain rfl : rs2 = 0 := h3 rfl
    obtain ⟨rfl, rfl⟩ := h4 rfl
    exact rmayT9 op h hk 0 0 0 imm false false hi  h5 w
  · rw [hk] at hm
    obtain ⟨b1, b2, b3, h1, h2, h3, h4, h5⟩ := hm
    obtain rfl : rd = 0 := h1 rfl
    obtain rfl : rs1 = 0 := h2 rfl
    obtain rfl : rs2 = 0 := h3 rfl
    obtain ⟨rfl, rfl⟩ := h4 rfl
    obtain rfl : imm = 0 := h5
    exact rmayT10 op h hk 0 0 0 0 false false hi   w
  · rw [hk] at hm
    obtain ⟨b1, b2, b3, h1, h2, h3, h4, h5⟩ := hm
    obtain rfl : imm = 0 := h5
    exact rmayT11 op h hk rd rs1 rs2 0 aq rl hi b1 b2 b3  w
  · rw [hk] at hm
    obtain ⟨b1, b2, b3, h1, h2, h3, h4, h5⟩ := hm
    obtain rfl : rs2 = 0 := h3 rfl
    obtain rfl : imm = 0 := h5
    exact rmayT12 op h hk rd rs1 0 0 aq rl hi b1 b2  w
  · rw [hk] at hm
    obtain ⟨b1, b2, b3, h1, h2, h3, h4, h5⟩ := hm
    obtain rfl : rs1 = 0 := h2 rfl
    obtain rfl : rs2 = 0 := h3 rfl
    obtain ⟨rfl, rfl⟩ := h4 rfl
    obtain rfl : imm = 0 := h5
    exact rmayT13 op h hk rd 0 0 0 false false hi b1  w
theorem renc_yes (op : Nat) (h : 1 ≤ op ∧ op ≤ 59) (rd rs1 rs2 imm : Int) (aq rl : Bool) (hi : Is.Wd imm) (hm : Is.mayP (Is.fm op) rd rs1 rs2 imm aq rl) (w : World) :
    Calls Tryd.prog 7 #[inst op rd rs1 rs2 imm aq rl] w fun e w' => e = .returned (.int .u32 (Is.wordO op rd rs1 rs2 imm aq rl)) ∧ Below w.heap.size w w' := by
  have hk := Is.fm_in op h
  rcases (show Is.fm op = 1 ∨ Is.fm op = 2 ∨ Is.fm op = 3 ∨ Is.fm op = 4 ∨ Is.fm op = 5 ∨ Is.fm op = 6 ∨ Is.fm op = 7 ∨ Is.fm op = 8 ∨ Is.fm op = 9 ∨ Is.fm op = 10 ∨ Is.fm op = 11 ∨ Is.fm op = 12 ∨ Is.fm op = 13 by omega) with hk | hk | hk | hk | hk | hk | hk | hk | hk | hk | hk | hk | hk
  · rw [hk] at hm
    obtain ⟨b1, b2, b3, h1, h2, h3, h4, h5⟩ := hm
    obtain rfl : rs1 = 0 := h2 rfl
    obtain rfl : rs2 = 0 := h3 rfl
    obtain ⟨rfl, rfl⟩ := h4 rfl
    exact renc1 op h hk rd 0 0 imm false false hi b1 h5 w
  · rw [hk] at hm
    obtain ⟨b1, b2, b3, h1, h2, h3, h4, h5⟩ := hm
    obtain rfl : rs1 = 0 := h2 rfl
    obtain rfl : rs2 = 0 := h3 rfl
    obtain ⟨rfl, rfl⟩ := h4 rfl
    exact renc2 op h hk rd 0 0 imm false false hi b1  w
  · rw [hk] at hm
    obtain ⟨b1, b2, b3, h1, h2, h3, h4, h5⟩ := hm
    obtain rfl : rs2 = 0 := h3 rfl
    obtain ⟨rfl, rfl⟩ := h4 rfl
    exact renc3 op h hk rd rs1 0 imm false false hi b1 b2  w
  · rw [hk] at hm
    obtain ⟨b1, b2, b3, h1, h2, h3, h4, h5⟩ := hm
    obtain rfl : rs2 = 0 := h3 rfl
    obtain ⟨rfl, rfl⟩ := h4 rfl
    exact renc4 op h hk rd rs1 0 imm false false hi b1 b2  w
  · rw [hk] at hm
    obtain ⟨b1, b2, b3, h1, h2, h3, h4, h5⟩ := hm
    obtain rfl : rs2 = 0 := h3 rfl
    obtain ⟨rfl, rfl⟩ := h4 rfl
    exact renc5 op h hk rd rs1 0 imm false false hi b1 b2 h5 w
  · rw [hk] at hm
    obtain ⟨b1, b2, b3, h1, h2, h3, h4, h5⟩ := hm
    obtain rfl : rd = 0 := h1 rfl
    obtain ⟨rfl, rfl⟩ := h4 rfl
    exact renc6 op h hk 0 rs1 rs2 imm false false hi b2 b3  w
  · rw [hk] at hm
    obtain ⟨b1, b2, b3, h1, h2, h3, h4, h5⟩ := hm
    obtain rfl : rd = 0 := h1 rfl
    obtain ⟨rfl, rfl⟩ := h4 rfl
    exact renc7 op h hk 0 rs1 rs2 imm false false hi b2 b3  w
  · rw [hk] at hm
    obtain ⟨b1, b2, b3, h1, h2, h3, h4, h5⟩ := hm
    obtain ⟨rfl, rfl⟩ := h4 rfl
    obtain rfl : imm = 0 := h5
    exact renc8 op h hk rd rs1 rs2 0 false false hi b1 b2 b3  w
  · rw [hk] at hm
    obtain ⟨b1, b2, b3, h1, h2, h3, h4, h5⟩ := hm
    obtain rfl : rd = 0 := h1 rfl
    obtain rfl : rs1 = 0 := h2 rfl
    obtain rfl : rs2 = 0 := h3 rfl
    obtain ⟨rfl, rfl⟩ := h4 rfl
    exact renc9 op h hk 0 0 0 imm false false hi  h5 w
  · rw [hk] at hm
    obtain ⟨b1, b2, b3, h1, h2, h3, h4, h5⟩ := hm
    obtain rfl : rd = 0 := h1 rfl
    obtain rfl : rs1 = 0 := h2 rfl
    obtain rfl : rs2 = 0 := h3 rfl
    obtain ⟨rfl, rfl⟩ := h4 rfl
    obtain rfl : imm = 0 := h5
    exact renc10 op h hk 0 0 0 0 false false hi   w
  · rw [hk] at hm
    obtain ⟨b1, b2, b3, h1, h2, h3, h4, h5⟩ := hm
    obtain rfl : imm = 0 := h5
    exact renc11 op h hk rd rs1 rs2 0 aq rl hi b1 b2 b3  w
  · rw [hk] at hm
    obtain ⟨b1, b2, b3, h1, h2, h3, h4, h5⟩ := hm
    obtain rfl : rs2 = 0 := h3 rfl
    obtain rfl : imm = 0 := h5
    exact renc12 op h hk rd rs1 0 0 aq rl hi b1 b2  w
  · rw [hk] at hm
    obtain ⟨b1, b2, b3, h1, h2, h3, h4, h5⟩ := hm
    obtain rfl : rs1 = 0 := h2 rfl
    obtain rfl : rs2 = 0 := h3 rfl
    obtain ⟨rfl, rfl⟩ := h4 rfl
    obtain rfl : imm = 0 := h5
    exact renc13 op h hk rd 0 0 0 false false hi b1  w
namespace Is
theorem may_take (k : Nat) (hk : 1 ≤ k ∧ k ≤ 13) {x : Int} (hx : Wd x) : mayP k (rdO k x) (rs1O k x) (rs2O k x) (immO k x) (aqO k x) (rlO k x) := by
  unfold Wd at hx
  have e1 : 0 ≤ rdO k x ∧ rdO k x ≤ 31 := by unfold rdO; split <;> omega
  have e2 : 0 ≤ rs1O k x ∧ rs1O k x ≤ 31 := by unfold rs1O; split <;> omega
  have e3 : 0 ≤ rs2O k x ∧ rs2O k x ≤ 31 := by unfold rs2O; split <;> omega
  refine ⟨e1, e2, e3, fun h => by unfold rdO; rw [h]; rfl, fun h => by unfold rs1O; rw [h]; rfl, fun h => by unfold rs2O; rw [h]; rfl, fun h => by unfold aqO rlO; rw [h]; exact ⟨rfl, rfl⟩, ?_⟩
  rcases (show k = 1 ∨ k = 2 ∨ k = 3 ∨ k = 4 ∨ k = 5 ∨ k = 6 ∨ k = 7 ∨ k = 8 ∨ k = 9 ∨ k = 10 ∨ k = 11 ∨ k = 12 ∨ k = 13 by omega) with rfl | rfl | rfl | rfl | rfl | rfl | rfl | rfl | rfl | rfl | rfl | rfl | rfl
  · show x / 4096 * 4096 % 4096 = 0; omega
  · show jumpImm x % 2 = 0 ∧ (jumpImm x ≤ 1048574 ∨ 4293918720 ≤ jumpImm x); unfold jumpImm sx; split <;> omega
  · show shortImm x ≤ 2047 ∨ 4294965248 ≤ shortImm x; unfold shortImm sx; split <;> omega
  · show shortImm x ≤ 2047 ∨ 4294965248 ≤ shortImm x; unfold shortImm sx; split <;> omega
  · show shiftImm x ≤ 31; unfold shiftImm; omega
  · show branchImm x % 2 = 0 ∧ (branchImm x ≤ 4094 ∨ 4294963200 ≤ branchImm x); unfold branchImm sx; split <;> omega
  · show storeImm x ≤ 2047 ∨ 4294965248 ≤ storeImm x; unfold storeImm sx; split <;> omega
  · rfl
  · show fenceImm x ≤ 255; unfold fenceImm; omega
  · rfl
  · rfl
  · rfl
  · rfl
end Is
/-- what the document's own Decode answers -/
def RDec (x : Int) (e : Ending) : Prop :=
  (∃ op : Nat, (1 ≤ op ∧ op ≤ 59) ∧ Is.hit (Is.fm op) x op ∧ e = .returned (.tuple #[inst op (Is.rdO (Is.fm op) x) (Is.rs1O (Is.fm op) x) (Is.rs2O (Is.fm op) x) (Is.immO (Is.fm op) x) (Is.aqO (Is.fm op) x) (Is.rlO (Is.fm op) x), .bool true])) ∨
  ((∀ op : Nat, 1 ≤ op ∧ op ≤ 59 → ¬ Is.hit (Is.fm op) x op) ∧ e = .returned (.tuple #[inst 0 0 0 0 0 false false, .bool false]))
end Go.Proofs.YtianojbdabeoeaaDoor
