/-
  IsRdM: IsRyes, IsRdec in one text.
-/
import Derived.Test.YtianojbdabeoeaaGreatDoorIsMayA
import Derived.Test.YtianojbdabeoeaaGreatDoorIsMayB
import Derived.Test.YtianojbdabeoeaaGreatDoorIsMayC
import Derived.Test.YtianojbdabeoeaaGreatDoorIsRencA
import Derived.Test.YtianojbdabeoeaaGreatDoorIsRencB
import Derived.Test.YtianojbdabeoeaaGreatDoorIsFin
import Derived.Test.YtianojbdabeoeaaGreatDoorIsQM

section
namespace Go.Proofs.YtianojbdabeoeaaGreatDoor
open Go.RowKit
set_option linter.unusedVariables false
set_option linter.unusedSimpArgs false
theorem rmay_yes (op : Nat) (h : 1 ≤ op ∧ op ≤ 59) (rd rs1 rs2 imm : Int) (aq rl : Bool) (hi : Is.Wd imm) (hm : Is.mayP (Is.fm op) rd rs1 rs2 imm aq rl) (w : World) :
    Calls Tryz.prog 61 #[inst op rd rs1 rs2 imm aq rl] w fun e w' => e = .returned (.bool true) ∧ Below w.heap.size w w' := by
  have hk := Is.fm_in op h
  rcases (show Is.fm op = 1 ∨ Is.fm op = 2 ∨ Is.fm op = 3 ∨ Is.fm op = 4 ∨ Is.fm op = 5 ∨ Is.fm op = 6 ∨ Is.fm op = 7 ∨ Is.fm op = 8 ∨ Is.fm op = 9 ∨ Is.fm op = 10 ∨ Is.fm op = 11 ∨ Is.fm op = 12 ∨ Is.fm op = 13 by omega) with hk | hk | hk | hk | hk | hk | hk | hk | hk | hk | hk | hk | hk
  · rw [hk] at hm
    obtain ⟨b1, b2, b3, h1, h2, h3, h4, h5⟩ := hm
    obtain rfl : rs1 = 0 := h2 rfl
    obtain rfl : rs2 = 0 := h3 rfl
    obtain ⟨rfl, rfl⟩ := h4 rfl
    exact rmayT1 op h hk rd 0 0 imm false false hi b1 h5 w
  · rw [hk] at hm
    obtain ⟨b1, b2, b3, h1, h2, h3, h4, h5⟩ := hm
    obtain rfl : rs1 = 0 := h2 rfl
    obtain rfl : rs2 = 0 := h3 rfl
    obtain ⟨rfl, rfl⟩ := h4 rfl
    exact rmayT2 op h hk rd 0 0 imm false false hi b1 h5 w
  · rw [hk] at hm
    obtain ⟨b1, b2, b3, h1, h2, h3, h4, h5⟩ := hm
    obtain rfl : rs2 = 0 := h3 rfl
    obtain ⟨rfl, rfl⟩ := h4 rfl
    exact rmayT3 op h hk rd rs1 0 imm false false hi b1 b2 h5 w
  · rw [hk] at hm
    obtain ⟨b1, b2, b3, h1, h2, h3, h4, h5⟩ := hm
    obtain rfl : rs2 = 0 := h3 rfl
    obtain ⟨rfl, rfl⟩ := h4 rfl
    exact rmayT4 op h hk rd rs1 0 imm false false hi b1 b2 h5 w
  · rw [hk] at hm
    obtain ⟨b1, b2, b3, h1, h2, h3, h4, h5⟩ := hm
    obtain rfl : rs2 = 0 := h3 rfl
    obtain ⟨rfl, rfl⟩ := h4 rfl
    exact rmayT5 op h hk rd rs1 0 imm false false hi b1 b2 h5 w
  · rw [hk] at hm
    obtain ⟨b1, b2, b3, h1, h2, h3, h4, h5⟩ := hm
    obtain rfl : rd = 0 := h1 rfl
    obtain ⟨rfl, rfl⟩ := h4 rfl
    exact rmayT6 op h hk 0 rs1 rs2 imm false false hi b2 b3 h5 w
  · rw [hk] at hm
    obtain ⟨b1, b2, b3, h1, h2, h3, h4, h5⟩ := hm
    obtain rfl : rd = 0 := h1 rfl
    obtain ⟨rfl, rfl⟩ := h4 rfl
    exact rmayT7 op h hk 0 rs1 rs2 imm false false hi b2 b3 h5 w
  · rw [hk] at hm
    obtain ⟨b1, b2, b3, h1, h2, h3, h4, h5⟩ := hm
    obtain ⟨rfl, rfl⟩ := h4 rfl
    obtain rfl : imm = 0 := h5
    exact rmayT8 op h hk rd rs1 rs2 0 false false hi b1 b2 b3  w
  · rw [hk] at hm
    obtain ⟨b1, b2, b3, h1, h2, h3, h4, h5⟩ := hm
    obtain rfl : rd = 0 := h1 rfl
    obtain rfl : rs1 = 0 := h2 rfl
    obtain rfl : rs2 = 0 := h3 rfl
    obtain ⟨rfl, rfl⟩ := h4 rfl
    exact rmayT9 op h hk 0 0 0 imm false false hi  h5 w
  · rw [hk] at hm
    obtain ⟨b1, b2, b3, h1, h2, h3, h4, h5⟩ := hm
    obtain rfl : rd = 0 := h1 rfl
    obtain rfl : rs1 = 0 := h2 rfl
    obtain rfl : rs2 = 0 := h3 rfl
    obtain ⟨rfl, rfl⟩ := h4 rfl
    obtain rfl : imm = 0 := h5
    exact rmayT10 op h hk 0 0 0 0 false false hi   w
  · rw [hk] at hm
    obtain ⟨b1, b2, b3, h1, h2, h3, h4, h5⟩ := hm
    obtain rfl : imm = 0 := h5
    exact rmayT11 op h hk rd rs1 rs2 0 aq rl hi b1 b2 b3  w
  · rw [hk] at hm
    obtain ⟨b1, b2, b3, h1, h2, h3, h4, h5⟩ := hm
    obtain rfl : rs2 = 0 := h3 rfl
    obtain rfl : imm = 0 := h5
    exact rmayT12 op h hk rd rs1 0 0 aq rl hi b1 b2  w
  · rw [hk] at hm
    obtain ⟨b1, b2, b3, h1, h2, h3, h4, h5⟩ := hm
    obtain rfl : rs1 = 0 := h2 rfl
    obtain rfl : rs2 = 0 := h3 rfl
    obtain ⟨rfl, rfl⟩ := h4 rfl
    obtain rfl : imm = 0 := h5
    exact rmayT13 op h hk rd 0 0 0 false false hi b1  w
theorem renc_yes (op : Nat) (h : 1 ≤ op ∧ op ≤ 59) (rd rs1 rs2 imm : Int) (aq rl : Bool) (hi : Is.Wd imm) (hm : Is.mayP (Is.fm op) rd rs1 rs2 imm aq rl) (w : World) :
    Calls Tryz.prog 62 #[inst op rd rs1 rs2 imm aq rl] w fun e w' => e = .returned (.int .u32 (Is.wordO op rd rs1 rs2 imm aq rl)) ∧ Below w.heap.size w w' := by
  have hk := Is.fm_in op h
  rcases (show Is.fm op = 1 ∨ Is.fm op = 2 ∨ Is.fm op = 3 ∨ Is.fm op = 4 ∨ Is.fm op = 5 ∨ Is.fm op = 6 ∨ Is.fm op = 7 ∨ Is.fm op = 8 ∨ Is.fm op = 9 ∨ Is.fm op = 10 ∨ Is.fm op = 11 ∨ Is.fm op = 12 ∨ Is.fm op = 13 by omega) with hk | hk | hk | hk | hk | hk | hk | hk | hk | hk | hk | hk | hk
  · rw [hk] at hm
    obtain ⟨b1, b2, b3, h1, h2, h3, h4, h5⟩ := hm
    obtain rfl : rs1 = 0 := h2 rfl
    obtain rfl : rs2 = 0 := h3 rfl
    obtain ⟨rfl, rfl⟩ := h4 rfl
    exact renc1 op h hk rd 0 0 imm false false hi b1 h5 w
  · rw [hk] at hm
    obtain ⟨b1, b2, b3, h1, h2, h3, h4, h5⟩ := hm
    obtain rfl : rs1 = 0 := h2 rfl
    obtain rfl : rs2 = 0 := h3 rfl
    obtain ⟨rfl, rfl⟩ := h4 rfl
    exact renc2 op h hk rd 0 0 imm false false hi b1  w
  · rw [hk] at hm
    obtain ⟨b1, b2, b3, h1, h2, h3, h4, h5⟩ := hm
    obtain rfl : rs2 = 0 := h3 rfl
    obtain ⟨rfl, rfl⟩ := h4 rfl
    exact renc3 op h hk rd rs1 0 imm false false hi b1 b2  w
  · rw [hk] at hm
    obtain ⟨b1, b2, b3, h1, h2, h3, h4, h5⟩ := hm
    obtain rfl : rs2 = 0 := h3 rfl
    obtain ⟨rfl, rfl⟩ := h4 rfl
    exact renc4 op h hk rd rs1 0 imm false false hi b1 b2  w
  · rw [hk] at hm
    obtain ⟨b1, b2, b3, h1, h2, h3, h4, h5⟩ := hm
    obtain rfl : rs2 = 0 := h3 rfl
    obtain ⟨rfl, rfl⟩ := h4 rfl
    exact renc5 op h hk rd rs1 0 imm false false hi b1 b2 h5 w
  · rw [hk] at hm
    obtain ⟨b1, b2, b3, h1, h2, h3, h4, h5⟩ := hm
    obtain rfl : rd = 0 := h1 rfl
    obtain ⟨rfl, rfl⟩ := h4 rfl
    exact renc6 op h hk 0 rs1 rs2 imm false false hi b2 b3  w
  · rw [hk] at hm
    obtain ⟨b1, b2, b3, h1, h2, h3, h4, h5⟩ := hm
    obtain rfl : rd = 0 := h1 rfl
    obtain ⟨rfl, rfl⟩ := h4 rfl
    exact renc7 op h hk 0 rs1 rs2 imm false false hi b2 b3  w
  · rw [hk] at hm
    obtain ⟨b1, b2, b3, h1, h2, h3, h4, h5⟩ := hm
    obtain ⟨rfl, rfl⟩ := h4 rfl
    obtain rfl : imm = 0 := h5
    exact renc8 op h hk rd rs1 rs2 0 false false hi b1 b2 b3  w
  · rw [hk] at hm
    obtain ⟨b1, b2, b3, h1, h2, h3, h4, h5⟩ := hm
    obtain rfl : rd = 0 := h1 rfl
    obtain rfl : rs1 = 0 := h2 rfl
    obtain rfl : rs2 = 0 := h3 rfl
    obtain ⟨rfl, rfl⟩ := h4 rfl
    exact renc9 op h hk 0 0 0 imm false false hi  h5 w
  · rw [hk] at hm
    obtain ⟨b1, b2, b3, h1, h2, h3, h4, h5⟩ := hm
    obtain rfl : rd = 0 := h1 rfl
    obtain rfl : rs1 = 0 := h2 rfl
    obtain rfl : rs2 = 0 := h3 rfl
    obtain ⟨rfl, rfl⟩ := h4 rfl
    obtain rfl : imm = 0 := h5
    exact renc10 op h hk 0 0 0 0 false false hi   w
  · rw [hk] at hm
    obtain ⟨b1, b2, b3, h1, h2, h3, h4, h5⟩ := hm
    obtain rfl : imm = 0 := h5
    exact renc11 op h hk rd rs1 rs2 0 aq rl hi b1 b2 b3  w
  · rw [hk] at hm
    obtain ⟨b1, b2, b3, h1, h2, h3, h4, h5⟩ := hm
    obtain rfl : rs2 = 0 := h3 rfl
    obtain rfl : imm = 0 := h5
    exact renc12 op h hk rd rs1 0 0 aq rl hi b1 b2  w
  · rw [hk] at hm
    obtain ⟨b1, b2, b3, h1, h2, h3, h4, h5⟩ := hm
    obtain rfl : rs1 = 0 := h2 rfl
    obtain rfl : rs2 = 0 := h3 rfl
    obtain ⟨rfl, rfl⟩ := h4 rfl
    obtain rfl : imm = 0 := h5
    exact renc13 op h hk rd 0 0 0 false false hi b1  w
namespace Is
theorem may_take (k : Nat) (hk : 1 ≤ k ∧ k ≤ 13) {x : Int} (hx : Wd x) : mayP k (rdO k x) (rs1O k x) (rs2O k x) (immO k x) (aqO k x) (rlO k x) := by
  unfold Wd at hx
  have e1 : 0 ≤ rdO k x ∧ rdO k x ≤ 31 := by unfold rdO; split <;> omega
  have e2 : 0 ≤ rs1O k x ∧ rs1O k x ≤ 31 := by unfold rs1O; split <;> omega
  have e3 : 0 ≤ rs2O k x ∧ rs2O k x ≤ 31 := by unfold rs2O; split <;> omega
  refine ⟨e1, e2, e3, fun h => by unfold rdO; rw [h]; rfl, fun h => by unfold rs1O; rw [h]; rfl, fun h => by unfold rs2O; rw [h]; rfl, fun h => by unfold aqO rlO; rw [h]; exact ⟨rfl, rfl⟩, ?_⟩
  rcases (show k = 1 ∨ k = 2 ∨ k = 3 ∨ k = 4 ∨ k = 5 ∨ k = 6 ∨ k = 7 ∨ k = 8 ∨ k = 9 ∨ k = 10 ∨ k = 11 ∨ k = 12 ∨ k = 13 by omega) with rfl | rfl | rfl | rfl | rfl | rfl | rfl | rfl | rfl | rfl | rfl | rfl | rfl
  · show x / 4096 * 4096 % 4096 = 0; omega
  · show jumpImm x % 2 = 0 ∧ (jumpImm x ≤ 1048574 ∨ 4293918720 ≤ jumpImm x); unfold jumpImm sx; split <;> omega
  · show shortImm x ≤ 2047 ∨ 4294965248 ≤ shortImm x; unfold shortImm sx; split <;> omega
  · show shortImm x ≤ 2047 ∨ 4294965248 ≤ shortImm x; unfold shortImm sx; split <;> omega
  · show shiftImm x ≤ 31; unfold shiftImm; omega
  · show branchImm x % 2 = 0 ∧ (branchImm x ≤ 4094 ∨ 4294963200 ≤ branchImm x); unfold branchImm sx; split <;> omega
  · show storeImm x ≤ 2047 ∨ 4294965248 ≤ storeImm x; unfold storeImm sx; split <;> omega
  · rfl
  · show fenceImm x ≤ 255; unfold fenceImm; omega
  · rfl
  · rfl
  · rfl
  · rfl
end Is
/-- what the document's own Decode answers -/
def RDec (x : Int) (e : Ending) : Prop :=
  (∃ op : Nat, (1 ≤ op ∧ op ≤ 59) ∧ Is.hit (Is.fm op) x op ∧ e = .returned (.tuple #[inst op (Is.rdO (Is.fm op) x) (Is.rs1O (Is.fm op) x) (Is.rs2O (Is.fm op) x) (Is.immO (Is.fm op) x) (Is.aqO (Is.fm op) x) (Is.rlO (Is.fm op) x), .bool true])) ∨
  ((∀ op : Nat, 1 ≤ op ∧ op ≤ 59 → ¬ Is.hit (Is.fm op) x op) ∧ e = .returned (.tuple #[inst 0 0 0 0 0 false false, .bool false]))
end Go.Proofs.YtianojbdabeoeaaGreatDoor
end

section
namespace Go.Proofs.YtianojbdabeoeaaGreatDoor
open Go.RowKit
set_option linter.unusedVariables false
set_option linter.unusedSimpArgs false
theorem Is.bt_31_25 (x : Int) : Is.bt x 31 25 = x / 33554432 % 128 := by simp [Is.bt]
theorem Is.bt_31_20 (x : Int) : Is.bt x 31 20 = x / 1048576 % 4096 := by simp [Is.bt]
theorem rsign_jumpImm (x : Int) (hx : Is.Wd x) (w : World) :
    Calls Tryz.prog 59 #[.int .u32 (x / 2147483648 % 2 * 1048576 + x / 4096 % 256 * 4096 + x / 1048576 % 2 * 2048 + x / 2097152 % 1024 * 2), .int .i64 21] w fun e w' => e = .returned (.int .u32 (Is.jumpImm x)) ∧ w = w' := by
  unfold Is.Wd at hx
  have e : Is.sgn (x / 2147483648 % 2 * 1048576 + x / 4096 % 256 * 4096 + x / 1048576 % 2 * 2048 + x / 2097152 % 1024 * 2) 21 = Is.jumpImm x := by
    unfold Is.sgn Is.jumpImm Is.sx
    rw [show Is.pw (21 - 1) = 1048576 from rfl]
    split <;> split <;> omega
  rw [← e]
  exact rsign_any _ 21 (by omega) (by omega) w
theorem rsign_branchImm (x : Int) (hx : Is.Wd x) (w : World) :
    Calls Tryz.prog 59 #[.int .u32 (x / 2147483648 % 2 * 4096 + x / 128 % 2 * 2048 + x / 33554432 % 64 * 32 + x / 256 % 16 * 2), .int .i64 13] w fun e w' => e = .returned (.int .u32 (Is.branchImm x)) ∧ w = w' := by
  unfold Is.Wd at hx
  have e : Is.sgn (x / 2147483648 % 2 * 4096 + x / 128 % 2 * 2048 + x / 33554432 % 64 * 32 + x / 256 % 16 * 2) 13 = Is.branchImm x := by
    unfold Is.sgn Is.branchImm Is.sx
    rw [show Is.pw (13 - 1) = 4096 from rfl]
    split <;> split <;> omega
  rw [← e]
  exact rsign_any _ 13 (by omega) (by omega) w
theorem rsign_storeImm (x : Int) (hx : Is.Wd x) (w : World) :
    Calls Tryz.prog 59 #[.int .u32 (x / 33554432 % 128 * 32 + x / 128 % 32), .int .i64 12] w fun e w' => e = .returned (.int .u32 (Is.storeImm x)) ∧ w = w' := by
  unfold Is.Wd at hx
  have e : Is.sgn (x / 33554432 % 128 * 32 + x / 128 % 32) 12 = Is.storeImm x := by
    unfold Is.sgn Is.storeImm Is.sx
    rw [show Is.pw (12 - 1) = 2048 from rfl]
    have e1 : x / 33554432 % 128 = x / 33554432 % 64 + 64 * (x / 2147483648) := by omega
    have b1 : 0 ≤ x / 33554432 % 64 ∧ x / 33554432 % 64 ≤ 63 := by omega
    have b2 : 0 ≤ x / 128 % 32 ∧ x / 128 % 32 ≤ 31 := by omega
    rcases (show (x < 2147483648 ∧ x / 2147483648 = 0) ∨ (¬ x < 2147483648 ∧ x / 2147483648 = 1) by omega) with ⟨h, t⟩ | ⟨h, t⟩
    all_goals
      rw [e1, t]
      generalize x / 33554432 % 64 = A at b1 ⊢
      generalize x / 128 % 32 = B at b2 ⊢
      split <;> omega
  rw [← e]
  exact rsign_any _ 12 (by omega) (by omega) w
theorem rsign_shortImm (x : Int) (hx : Is.Wd x) (w : World) :
    Calls Tryz.prog 59 #[.int .u32 (x / 1048576 % 4096), .int .i64 12] w fun e w' => e = .returned (.int .u32 (Is.shortImm x)) ∧ w = w' := by
  unfold Is.Wd at hx
  have e : Is.sgn (x / 1048576 % 4096) 12 = Is.shortImm x := by
    unfold Is.sgn Is.shortImm Is.sx
    rw [show Is.pw (12 - 1) = 2048 from rfl]
    split <;> split <;> omega
  rw [← e]
  exact rsign_any _ 12 (by omega) (by omega) w
/-- the word that the instruction of a word would have -/
def Is.wordX (op : Nat) (x : Int) : Int := Is.wordO op (Is.rdO (Is.fm op) x) (Is.rs1O (Is.fm op) x) (Is.rs2O (Is.fm op) x) (Is.immO (Is.fm op) x) (Is.aqO (Is.fm op) x) (Is.rlO (Is.fm op) x)
theorem below_seven0 {W a : World} {B p : Nat} {v0 v1 v2 v3 v4 v5 v6 : Value} (h : Below B a W) (hp : B ≤ p) :
    Below B a (((((((W.setCell ⟨p, 0, none⟩ v0).setCell ⟨p, 1, none⟩ v1).setCell ⟨p, 2, none⟩ v2).setCell ⟨p, 3, none⟩ v3).setCell ⟨p, 4, none⟩ v4).setCell ⟨p, 5, none⟩ v5).setCell ⟨p, 6, none⟩ v6) :=
  below_step 6 v6 (below_step 5 v5 (below_step 4 v4 (below_step 3 v3 (below_step 2 v2 (below_step 1 v1 (below_step 0 v0 h hp) hp) hp) hp) hp) hp) hp
set_option maxRecDepth 100000 in
set_option maxHeartbeats 100000000 in
theorem rdec_any (x : Int) (hx : Is.Wd x) (w : World) :
    Calls Tryz.prog 34 #[.int .u32 x] w fun e w' => RDec x e ∧ Below w.heap.size w w' := by
  have HX := Lib.hid hx
  unfold Is.Wd at hx
  go_enter Tryz.func34, Tryz.ntmps34
  go_wp2_with fail
  go_loopw [4] (fun i wr => ∃ op : Nat, (1 ≤ op ∧ op ≤ 60) ∧ i = .int .i64 (op : Int) ∧ (∀ q : Nat, 1 ≤ q ∧ q < op → ¬ Is.hit (Is.fm q) x q) ∧ Rw wr w.heap.size (instC 0 0 0 0 0 false false) 85 ∧ Below w.heap.size w wr) (fun i _ => 60 - (intOf i).toNat)
  case atStart => exact ⟨1, by omega, rfl, fun q hq => absurd hq (by omega), rw_new _ _ _, (Below.refl _ _).alloc (Nat.le_refl _) _⟩
  case round =>
    obtain ⟨op, hop, rfl, hno, hres, hbw⟩ := hrel
    have HNO := Lib.hid hno; have HRES := Lib.hid hres; have HBW := Lib.hid hbw; clear hno hres hbw
    by_cases hlt : op ≤ 59
    · have ho : 1 ≤ op ∧ op ≤ 59 := by omega
      have HO := Lib.hid ho
      have hk := Is.fm_in op ho
      rcases (show Is.fm op = 1 ∨ Is.fm op = 2 ∨ Is.fm op = 3 ∨ Is.fm op = 4 ∨ Is.fm op = 5 ∨ Is.fm op = 6 ∨ Is.fm op = 7 ∨ Is.fm op = 8 ∨ Is.fm op = 9 ∨ Is.fm op = 10 ∨ Is.fm op = 11 ∨ Is.fm op = 12 ∨ Is.fm op = 13 by omega) with hk | hk | hk | hk | hk | hk | hk | hk | hk | hk | hk | hk | hk
      · have HF := Lib.hid (show Is.fb (Is.fm op) = 117 by rw [hk]; rfl)
        have HM := Lib.hid (fun w => (show Calls Tryz.prog 61 #[.agg #[.int .i64 (op : Int), .int .i64 (x / 128 % 32), .int .i64 0, .int .i64 0, .int .u32 (x - x % 4096), .bool false, .bool false]] w fun e w' => e = .returned (.bool true) ∧ Below w.heap.size w w' from by
          have hm := Is.may_take (Is.fm op) (Is.fm_in op HO.out) HX.out
          have h0 := rmay_yes op HO.out _ _ _ _ _ _ (Is.immO_wd (Is.fm op) HX.out) hm w
          rw [hk] at h0
          rw [show x - x % 4096 = x / 4096 * 4096 by omega]; exact h0))
        have HE := Lib.hid (fun w => (show Calls Tryz.prog 62 #[.agg #[.int .i64 (op : Int), .int .i64 (x / 128 % 32), .int .i64 0, .int .i64 0, .int .u32 (x - x % 4096), .bool false, .bool false]] w fun e w' => e = .returned (.int .u32 (Is.wordX op x)) ∧ Below w.heap.size w w' from by
          have hm := Is.may_take (Is.fm op) (Is.fm_in op HO.out) HX.out
          have h0 := renc_yes op HO.out _ _ _ _ _ _ (Is.immO_wd (Is.fm op) HX.out) hm w
          change Calls _ _ _ _ fun e w' => e = .returned (.int .u32 (Is.wordX op x)) ∧ _ at h0
          rw [hk] at h0
          rw [show x - x % 4096 = x / 4096 * 4096 by omega]; exact h0))
        have HQ := Lib.hid (show inst op (Is.rdO (Is.fm op) x) (Is.rs1O (Is.fm op) x) (Is.rs2O (Is.fm op) x) (Is.immO (Is.fm op) x) (Is.aqO (Is.fm op) x) (Is.rlO (Is.fm op) x) = .agg #[.int .i64 (op : Int), .int .i64 (x / 128 % 32), .int .i64 0, .int .i64 0, .int .u32 (x - x % 4096), .bool false, .bool false] by rw [hk]; rw [show x - x % 4096 = x / 4096 * 4096 by omega]; rfl)
        clear hk
        go_wp2_with (first
          | (go_at_call 57; refine (rform_yes op HO.out _).mono ?_; rw [HF.out]; rintro e w' ⟨rfl, rfl⟩)
          | (go_at_call 60; with_reducible refine (rpow_lit 20 1048576 (by omega) rfl _).mono ?_; rintro e w' ⟨rfl, rfl⟩)
          | (go_at_call 60; with_reducible refine (rpow_lit 12 4096 (by omega) rfl _).mono ?_; rintro e w' ⟨rfl, rfl⟩)
          | (go_at_call 60; with_reducible refine (rpow_lit 11 2048 (by omega) rfl _).mono ?_; rintro e w' ⟨rfl, rfl⟩)
          | (go_at_call 58; with_reducible refine (rbits_lit x 11 7 _ HX.out (by omega) (by omega) (by omega) (Is.bt_11_7 x) _).mono ?_; rintro e w' ⟨rfl, rfl⟩)
          | (go_at_call 58; with_reducible refine (rbits_lit x 19 15 _ HX.out (by omega) (by omega) (by omega) (Is.bt_19_15 x) _).mono ?_; rintro e w' ⟨rfl, rfl⟩)
          | (go_at_call 58; with_reducible refine (rbits_lit x 24 20 _ HX.out (by omega) (by omega) (by omega) (Is.bt_24_20 x) _).mono ?_; rintro e w' ⟨rfl, rfl⟩)
          | (go_at_call 58; with_reducible refine (rbits_lit x 31 31 _ HX.out (by omega) (by omega) (by omega) (Is.bt_31_31 x) _).mono ?_; rintro e w' ⟨rfl, rfl⟩)
          | (go_at_call 58; with_reducible refine (rbits_lit x 19 12 _ HX.out (by omega) (by omega) (by omega) (Is.bt_19_12 x) _).mono ?_; rintro e w' ⟨rfl, rfl⟩)
          | (go_at_call 58; with_reducible refine (rbits_lit x 20 20 _ HX.out (by omega) (by omega) (by omega) (Is.bt_20_20 x) _).mono ?_; rintro e w' ⟨rfl, rfl⟩)
          | (go_at_call 58; with_reducible refine (rbits_lit x 30 21 _ HX.out (by omega) (by omega) (by omega) (Is.bt_30_21 x) _).mono ?_; rintro e w' ⟨rfl, rfl⟩)
          | (go_at_call 58; with_reducible refine (rbits_lit x 7 7 _ HX.out (by omega) (by omega) (by omega) (Is.bt_7_7 x) _).mono ?_; rintro e w' ⟨rfl, rfl⟩)
          | (go_at_call 58; with_reducible refine (rbits_lit x 30 25 _ HX.out (by omega) (by omega) (by omega) (Is.bt_30_25 x) _).mono ?_; rintro e w' ⟨rfl, rfl⟩)
          | (go_at_call 58; with_reducible refine (rbits_lit x 11 8 _ HX.out (by omega) (by omega) (by omega) (Is.bt_11_8 x) _).mono ?_; rintro e w' ⟨rfl, rfl⟩)
          | (go_at_call 58; with_reducible refine (rbits_lit x 31 25 _ HX.out (by omega) (by omega) (by omega) (Is.bt_31_25 x) _).mono ?_; rintro e w' ⟨rfl, rfl⟩)
          | (go_at_call 58; with_reducible refine (rbits_lit x 31 20 _ HX.out (by omega) (by omega) (by omega) (Is.bt_31_20 x) _).mono ?_; rintro e w' ⟨rfl, rfl⟩)
          | (go_at_call 58; with_reducible refine (rbits_lit x 27 20 _ HX.out (by omega) (by omega) (by omega) (Is.bt_27_20 x) _).mono ?_; rintro e w' ⟨rfl, rfl⟩)
          | (go_at_call 58; with_reducible refine (rbits_lit x 26 26 _ HX.out (by omega) (by omega) (by omega) (Is.bt_26_26 x) _).mono ?_; rintro e w' ⟨rfl, rfl⟩)
          | (go_at_call 58; with_reducible refine (rbits_lit x 25 25 _ HX.out (by omega) (by omega) (by omega) (Is.bt_25_25 x) _).mono ?_; rintro e w' ⟨rfl, rfl⟩)
          | (go_at_call 59; with_reducible refine (rsign_jumpImm x HX.out _).mono ?_; rintro e w' ⟨rfl, rfl⟩)
          | (go_at_call 59; with_reducible refine (rsign_branchImm x HX.out _).mono ?_; rintro e w' ⟨rfl, rfl⟩)
          | (go_at_call 59; with_reducible refine (rsign_storeImm x HX.out _).mono ?_; rintro e w' ⟨rfl, rfl⟩)
          | (go_at_call 59; with_reducible refine (rsign_shortImm x HX.out _).mono ?_; rintro e w' ⟨rfl, rfl⟩))
        refine (HM.out _).mono ?_
        rintro e wa ⟨rfl, hba⟩
        have hc0 : wa.cell? ⟨wr.heap.size, 0, none⟩ = some (.int .i64 (op : Int)) := (hba.cell (p := ⟨wr.heap.size, 0, none⟩) (by simp)).trans (by go_simp)
        have hc1 : wa.cell? ⟨wr.heap.size, 1, none⟩ = some (.int .i64 (x / 128 % 32)) := (hba.cell (p := ⟨wr.heap.size, 1, none⟩) (by simp)).trans (by go_simp)
        have hc2 : wa.cell? ⟨wr.heap.size, 2, none⟩ = some (.int .i64 0) := (hba.cell (p := ⟨wr.heap.size, 2, none⟩) (by simp)).trans (by go_simp)
        have hc3 : wa.cell? ⟨wr.heap.size, 3, none⟩ = some (.int .i64 0) := (hba.cell (p := ⟨wr.heap.size, 3, none⟩) (by simp)).trans (by go_simp)
        have hc4 : wa.cell? ⟨wr.heap.size, 4, none⟩ = some (.int .u32 (x - x % 4096)) := (hba.cell (p := ⟨wr.heap.size, 4, none⟩) (by simp)).trans (by go_simp)
        have hc5 : wa.cell? ⟨wr.heap.size, 5, none⟩ = some (.bool false) := (hba.cell (p := ⟨wr.heap.size, 5, none⟩) (by simp)).trans (by go_simp)
        have hc6 : wa.cell? ⟨wr.heap.size, 6, none⟩ = some (.bool false) := (hba.cell (p := ⟨wr.heap.size, 6, none⟩) (by simp)).trans (by go_simp)
        have HBA := Lib.hid (((Below.refl _ wr).alloc (Nat.le_refl _) _).trans (hba.mono (by simp)))
        have HZA := Lib.hid (show wr.heap.size < wa.heap.size by have := hba.size; simp at this; omega)
        clear hba
        go_wp2_with fail
        refine (HE.out _).mono ?_
        rintro e wb ⟨rfl, hbb⟩
        have hd0 : wb.cell? ⟨wr.heap.size, 0, none⟩ = some (.int .i64 (op : Int)) := (hbb.cell (p := ⟨wr.heap.size, 0, none⟩) HZA.out).trans hc0
        have hd1 : wb.cell? ⟨wr.heap.size, 1, none⟩ = some (.int .i64 (x / 128 % 32)) := (hbb.cell (p := ⟨wr.heap.size, 1, none⟩) HZA.out).trans hc1
        have hd2 : wb.cell? ⟨wr.heap.size, 2, none⟩ = some (.int .i64 0) := (hbb.cell (p := ⟨wr.heap.size, 2, none⟩) HZA.out).trans hc2
        have hd3 : wb.cell? ⟨wr.heap.size, 3, none⟩ = some (.int .i64 0) := (hbb.cell (p := ⟨wr.heap.size, 3, none⟩) HZA.out).trans hc3
        have hd4 : wb.cell? ⟨wr.heap.size, 4, none⟩ = some (.int .u32 (x - x % 4096)) := (hbb.cell (p := ⟨wr.heap.size, 4, none⟩) HZA.out).trans hc4
        have hd5 : wb.cell? ⟨wr.heap.size, 5, none⟩ = some (.bool false) := (hbb.cell (p := ⟨wr.heap.size, 5, none⟩) HZA.out).trans hc5
        have hd6 : wb.cell? ⟨wr.heap.size, 6, none⟩ = some (.bool false) := (hbb.cell (p := ⟨wr.heap.size, 6, none⟩) HZA.out).trans hc6
        clear hc0 hc1 hc2 hc3 hc4 hc5 hc6
        have hr0 : wb.cell? ⟨w.heap.size, 0, none⟩ = some (.int .i64 0) := (hbb.cell (p := ⟨w.heap.size, 0, none⟩) (by have := HZA.out; have := HRES.out.lt; show w.heap.size < _; omega)).trans ((HBA.out.cell (p := ⟨w.heap.size, 0, none⟩) HRES.out.lt).trans (by rw [cell_of_row wr _ 0 _ _ _ HRES.out]; rfl))
        have hf0 : wb.frozen? ⟨w.heap.size, 0, none⟩ = false := (hbb.frozen (p := ⟨w.heap.size, 0, none⟩) (by have := HZA.out; have := HRES.out.lt; show w.heap.size < _; omega)).trans ((HBA.out.frozen (p := ⟨w.heap.size, 0, none⟩) HRES.out.lt).trans (frozen_of_row wr _ 0 _ _ HRES.out))
        have hr1 : wb.cell? ⟨w.heap.size, 1, none⟩ = some (.int .i64 0) := (hbb.cell (p := ⟨w.heap.size, 1, none⟩) (by have := HZA.out; have := HRES.out.lt; show w.heap.size < _; omega)).trans ((HBA.out.cell (p := ⟨w.heap.size, 1, none⟩) HRES.out.lt).trans (by rw [cell_of_row wr _ 1 _ _ _ HRES.out]; rfl))
        have hf1 : wb.frozen? ⟨w.heap.size, 1, none⟩ = false := (hbb.frozen (p := ⟨w.heap.size, 1, none⟩) (by have := HZA.out; have := HRES.out.lt; show w.heap.size < _; omega)).trans ((HBA.out.frozen (p := ⟨w.heap.size, 1, none⟩) HRES.out.lt).trans (frozen_of_row wr _ 1 _ _ HRES.out))
        have hr2 : wb.cell? ⟨w.heap.size, 2, none⟩ = some (.int .i64 0) := (hbb.cell (p := ⟨w.heap.size, 2, none⟩) (by have := HZA.out; have := HRES.out.lt; show w.heap.size < _; omega)).trans ((HBA.out.cell (p := ⟨w.heap.size, 2, none⟩) HRES.out.lt).trans (by rw [cell_of_row wr _ 2 _ _ _ HRES.out]; rfl))
        have hf2 : wb.frozen? ⟨w.heap.size, 2, none⟩ = false := (hbb.frozen (p := ⟨w.heap.size, 2, none⟩) (by have := HZA.out; have := HRES.out.lt; show w.heap.size < _; omega)).trans ((HBA.out.frozen (p := ⟨w.heap.size, 2, none⟩) HRES.out.lt).trans (frozen_of_row wr _ 2 _ _ HRES.out))
        have hr3 : wb.cell? ⟨w.heap.size, 3, none⟩ = some (.int .i64 0) := (hbb.cell (p := ⟨w.heap.size, 3, none⟩) (by have := HZA.out; have := HRES.out.lt; show w.heap.size < _; omega)).trans ((HBA.out.cell (p := ⟨w.heap.size, 3, none⟩) HRES.out.lt).trans (by rw [cell_of_row wr _ 3 _ _ _ HRES.out]; rfl))
        have hf3 : wb.frozen? ⟨w.heap.size, 3, none⟩ = false := (hbb.frozen (p := ⟨w.heap.size, 3, none⟩) (by have := HZA.out; have := HRES.out.lt; show w.heap.size < _; omega)).trans ((HBA.out.frozen (p := ⟨w.heap.size, 3, none⟩) HRES.out.lt).trans (frozen_of_row wr _ 3 _ _ HRES.out))
        have hr4 : wb.cell? ⟨w.heap.size, 4, none⟩ = some (.int .u32 0) := (hbb.cell (p := ⟨w.heap.size, 4, none⟩) (by have := HZA.out; have := HRES.out.lt; show w.heap.size < _; omega)).trans ((HBA.out.cell (p := ⟨w.heap.size, 4, none⟩) HRES.out.lt).trans (by rw [cell_of_row wr _ 4 _ _ _ HRES.out]; rfl))
        have hf4 : wb.frozen? ⟨w.heap.size, 4, none⟩ = false := (hbb.frozen (p := ⟨w.heap.size, 4, none⟩) (by have := HZA.out; have := HRES.out.lt; show w.heap.size < _; omega)).trans ((HBA.out.frozen (p := ⟨w.heap.size, 4, none⟩) HRES.out.lt).trans (frozen_of_row wr _ 4 _ _ HRES.out))
        have hr5 : wb.cell? ⟨w.heap.size, 5, none⟩ = some (.bool false) := (hbb.cell (p := ⟨w.heap.size, 5, none⟩) (by have := HZA.out; have := HRES.out.lt; show w.heap.size < _; omega)).trans ((HBA.out.cell (p := ⟨w.heap.size, 5, none⟩) HRES.out.lt).trans (by rw [cell_of_row wr _ 5 _ _ _ HRES.out]; rfl))
        have hf5 : wb.frozen? ⟨w.heap.size, 5, none⟩ = false := (hbb.frozen (p := ⟨w.heap.size, 5, none⟩) (by have := HZA.out; have := HRES.out.lt; show w.heap.size < _; omega)).trans ((HBA.out.frozen (p := ⟨w.heap.size, 5, none⟩) HRES.out.lt).trans (frozen_of_row wr _ 5 _ _ HRES.out))
        have hr6 : wb.cell? ⟨w.heap.size, 6, none⟩ = some (.bool false) := (hbb.cell (p := ⟨w.heap.size, 6, none⟩) (by have := HZA.out; have := HRES.out.lt; show w.heap.size < _; omega)).trans ((HBA.out.cell (p := ⟨w.heap.size, 6, none⟩) HRES.out.lt).trans (by rw [cell_of_row wr _ 6 _ _ _ HRES.out]; rfl))
        have hf6 : wb.frozen? ⟨w.heap.size, 6, none⟩ = false := (hbb.frozen (p := ⟨w.heap.size, 6, none⟩) (by have := HZA.out; have := HRES.out.lt; show w.heap.size < _; omega)).trans ((HBA.out.frozen (p := ⟨w.heap.size, 6, none⟩) HRES.out.lt).trans (frozen_of_row wr _ 6 _ _ HRES.out))
        have HBB := Lib.hid (HBA.out.trans (hbb.mono (by have := HZA.out; omega)))
        clear hbb
        by_cases hh : Is.wordX op x = x
        · have HH := Lib.hid (Is.hit_of_word HO.out HX.out hh)
          have t1 : (Is.wordX op x == x) = true := by rw [hh]; exact beq_self_eq_true _
          clear hh
          go_wp2_with fail
          rw [← HQ.out]
          refine bodyPost_ret (v := .tuple #[inst op (Is.rdO (Is.fm op) x) (Is.rs1O (Is.fm op) x) (Is.rs2O (Is.fm op) x) (Is.immO (Is.fm op) x) (Is.aqO (Is.fm op) x) (Is.rlO (Is.fm op) x), .bool true]) (by rw [HQ.out]; simp [results, Tryz.results34, go_sem, hr0, hr1, hr2, hr3, hr4, hr5, hr6]) rfl ⟨.inl ⟨op, HO.out, HH.out, rfl⟩, ?_⟩
          exact below_seven0 (HBW.out.trans (HBB.out.mono HBW.out.size)) (Nat.le_refl _)
        · have HH := Lib.hid (fun h1 : Is.hit (Is.fm op) x op => hh (Is.word_of_hit HO.out HX.out h1))
          have t1 : (Is.wordX op x == x) = false := beq_eq_false_iff_ne.2 hh
          clear hh
          go_wp2_with fail
          go_roundw
          case rel => exact ⟨op + 1, by omega, by go_num, fun q hq => by
            rcases (show (1 ≤ q ∧ q < op) ∨ q = op by omega) with h1 | h1
            · exact HNO.out q h1
            · rw [h1]; exact HH.out, HRES.out.below HBB.out, HBW.out.trans (HBB.out.mono HBW.out.size)⟩
          case measure => simp [intOf]; omega
      · have HF := Lib.hid (show Is.fb (Is.fm op) = 106 by rw [hk]; rfl)
        have HM := Lib.hid (fun w => (show Calls Tryz.prog 61 #[.agg #[.int .i64 (op : Int), .int .i64 (x / 128 % 32), .int .i64 0, .int .i64 0, .int .u32 (Is.jumpImm x), .bool false, .bool false]] w fun e w' => e = .returned (.bool true) ∧ Below w.heap.size w w' from by
          have hm := Is.may_take (Is.fm op) (Is.fm_in op HO.out) HX.out
          have h0 := rmay_yes op HO.out _ _ _ _ _ _ (Is.immO_wd (Is.fm op) HX.out) hm w
          rw [hk] at h0
          exact h0))
        have HE := Lib.hid (fun w => (show Calls Tryz.prog 62 #[.agg #[.int .i64 (op : Int), .int .i64 (x / 128 % 32), .int .i64 0, .int .i64 0, .int .u32 (Is.jumpImm x), .bool false, .bool false]] w fun e w' => e = .returned (.int .u32 (Is.wordX op x)) ∧ Below w.heap.size w w' from by
          have hm := Is.may_take (Is.fm op) (Is.fm_in op HO.out) HX.out
          have h0 := renc_yes op HO.out _ _ _ _ _ _ (Is.immO_wd (Is.fm op) HX.out) hm w
          change Calls _ _ _ _ fun e w' => e = .returned (.int .u32 (Is.wordX op x)) ∧ _ at h0
          rw [hk] at h0
          exact h0))
        have HQ := Lib.hid (show inst op (Is.rdO (Is.fm op) x) (Is.rs1O (Is.fm op) x) (Is.rs2O (Is.fm op) x) (Is.immO (Is.fm op) x) (Is.aqO (Is.fm op) x) (Is.rlO (Is.fm op) x) = .agg #[.int .i64 (op : Int), .int .i64 (x / 128 % 32), .int .i64 0, .int .i64 0, .int .u32 (Is.jumpImm x), .bool false, .bool false] by rw [hk]; rfl)
        clear hk
        go_wp2_with (first
          | (go_at_call 57; refine (rform_yes op HO.out _).mono ?_; rw [HF.out]; rintro e w' ⟨rfl, rfl⟩)
          | (go_at_call 60; with_reducible refine (rpow_lit 20 1048576 (by omega) rfl _).mono ?_; rintro e w' ⟨rfl, rfl⟩)
          | (go_at_call 60; with_reducible refine (rpow_lit 12 4096 (by omega) rfl _).mono ?_; rintro e w' ⟨rfl, rfl⟩)
          | (go_at_call 60; with_reducible refine (rpow_lit 11 2048 (by omega) rfl _).mono ?_; rintro e w' ⟨rfl, rfl⟩)
          | (go_at_call 58; with_reducible refine (rbits_lit x 11 7 _ HX.out (by omega) (by omega) (by omega) (Is.bt_11_7 x) _).mono ?_; rintro e w' ⟨rfl, rfl⟩)
          | (go_at_call 58; with_reducible refine (rbits_lit x 19 15 _ HX.out (by omega) (by omega) (by omega) (Is.bt_19_15 x) _).mono ?_; rintro e w' ⟨rfl, rfl⟩)
          | (go_at_call 58; with_reducible refine (rbits_lit x 24 20 _ HX.out (by omega) (by omega) (by omega) (Is.bt_24_20 x) _).mono ?_; rintro e w' ⟨rfl, rfl⟩)
          | (go_at_call 58; with_reducible refine (rbits_lit x 31 31 _ HX.out (by omega) (by omega) (by omega) (Is.bt_31_31 x) _).mono ?_; rintro e w' ⟨rfl, rfl⟩)
          | (go_at_call 58; with_reducible refine (rbits_lit x 19 12 _ HX.out (by omega) (by omega) (by omega) (Is.bt_19_12 x) _).mono ?_; rintro e w' ⟨rfl, rfl⟩)
          | (go_at_call 58; with_reducible refine (rbits_lit x 20 20 _ HX.out (by omega) (by omega) (by omega) (Is.bt_20_20 x) _).mono ?_; rintro e w' ⟨rfl, rfl⟩)
          | (go_at_call 58; with_reducible refine (rbits_lit x 30 21 _ HX.out (by omega) (by omega) (by omega) (Is.bt_30_21 x) _).mono ?_; rintro e w' ⟨rfl, rfl⟩)
          | (go_at_call 58; with_reducible refine (rbits_lit x 7 7 _ HX.out (by omega) (by omega) (by omega) (Is.bt_7_7 x) _).mono ?_; rintro e w' ⟨rfl, rfl⟩)
          | (go_at_call 58; with_reducible refine (rbits_lit x 30 25 _ HX.out (by omega) (by omega) (by omega) (Is.bt_30_25 x) _).mono ?_; rintro e w' ⟨rfl, rfl⟩)
          | (go_at_call 58; with_reducible refine (rbits_lit x 11 8 _ HX.out (by omega) (by omega) (by omega) (Is.bt_11_8 x) _).mono ?_; rintro e w' ⟨rfl, rfl⟩)
          | (go_at_call 58; with_reducible refine (rbits_lit x 31 25 _ HX.out (by omega) (by omega) (by omega) (Is.bt_31_25 x) _).mono ?_; rintro e w' ⟨rfl, rfl⟩)
          | (go_at_call 58; with_reducible refine (rbits_lit x 31 20 _ HX.out (by omega) (by omega) (by omega) (Is.bt_31_20 x) _).mono ?_; rintro e w' ⟨rfl, rfl⟩)
          | (go_at_call 58; with_reducible refine (rbits_lit x 27 20 _ HX.out (by omega) (by omega) (by omega) (Is.bt_27_20 x) _).mono ?_; rintro e w' ⟨rfl, rfl⟩)
          | (go_at_call 58; with_reducible refine (rbits_lit x 26 26 _ HX.out (by omega) (by omega) (by omega) (Is.bt_26_26 x) _).mono ?_; rintro e w' ⟨rfl, rfl⟩)
          | (go_at_call 58; with_reducible refine (rbits_lit x 25 25 _ HX.out (by omega) (by omega) (by omega) (Is.bt_25_25 x) _).mono ?_; rintro e w' ⟨rfl, rfl⟩)
          | (go_at_call 59; with_reducible refine (rsign_jumpImm x HX.out _).mono ?_; rintro e w' ⟨rfl, rfl⟩)
          | (go_at_call 59; with_reducible refine (rsign_branchImm x HX.out _).mono ?_; rintro e w' ⟨rfl, rfl⟩)
          | (go_at_call 59; with_reducible refine (rsign_storeImm x HX.out _).mono ?_; rintro e w' ⟨rfl, rfl⟩)
          | (go_at_call 59; with_reducible refine (rsign_shortImm x HX.out _).mono ?_; rintro e w' ⟨rfl, rfl⟩))
        refine (HM.out _).mono ?_
        rintro e wa ⟨rfl, hba⟩
        have hc0 : wa.cell? ⟨wr.heap.size, 0, none⟩ = some (.int .i64 (op : Int)) := (hba.cell (p := ⟨wr.heap.size, 0, none⟩) (by simp)).trans (by go_simp)
        have hc1 : wa.cell? ⟨wr.heap.size, 1, none⟩ = some (.int .i64 (x / 128 % 32)) := (hba.cell (p := ⟨wr.heap.size, 1, none⟩) (by simp)).trans (by go_simp)
        have hc2 : wa.cell? ⟨wr.heap.size, 2, none⟩ = some (.int .i64 0) := (hba.cell (p := ⟨wr.heap.size, 2, none⟩) (by simp)).trans (by go_simp)
        have hc3 : wa.cell? ⟨wr.heap.size, 3, none⟩ = some (.int .i64 0) := (hba.cell (p := ⟨wr.heap.size, 3, none⟩) (by simp)).trans (by go_simp)
        have hc4 : wa.cell? ⟨wr.heap.size, 4, none⟩ = some (.int .u32 (Is.jumpImm x)) := (hba.cell (p := ⟨wr.heap.size, 4, none⟩) (by simp)).trans (by go_simp)
        have hc5 : wa.cell? ⟨wr.heap.size, 5, none⟩ = some (.bool false) := (hba.cell (p := ⟨wr.heap.size, 5, none⟩) (by simp)).trans (by go_simp)
        have hc6 : wa.cell? ⟨wr.heap.size, 6, none⟩ = some (.bool false) := (hba.cell (p := ⟨wr.heap.size, 6, none⟩) (by simp)).trans (by go_simp)
        have HBA := Lib.hid (((Below.refl _ wr).alloc (Nat.le_refl _) _).trans (hba.mono (by simp)))
        have HZA := Lib.hid (show wr.heap.size < wa.heap.size by have := hba.size; simp at this; omega)
        clear hba
        go_wp2_with fail
        refine (HE.out _).mono ?_
        rintro e wb ⟨rfl, hbb⟩
        have hd0 : wb.cell? ⟨wr.heap.size, 0, none⟩ = some (.int .i64 (op : Int)) := (hbb.cell (p := ⟨wr.heap.size, 0, none⟩) HZA.out).trans hc0
        have hd1 : wb.cell? ⟨wr.heap.size, 1, none⟩ = some (.int .i64 (x / 128 % 32)) := (hbb.cell (p := ⟨wr.heap.size, 1, none⟩) HZA.out).trans hc1
        have hd2 : wb.cell? ⟨wr.heap.size, 2, none⟩ = some (.int .i64 0) := (hbb.cell (p := ⟨wr.heap.size, 2, none⟩) HZA.out).trans hc2
        have hd3 : wb.cell? ⟨wr.heap.size, 3, none⟩ = some (.int .i64 0) := (hbb.cell (p := ⟨wr.heap.size, 3, none⟩) HZA.out).trans hc3
        have hd4 : wb.cell? ⟨wr.heap.size, 4, none⟩ = some (.int .u32 (Is.jumpImm x)) := (hbb.cell (p := ⟨wr.heap.size, 4, none⟩) HZA.out).trans hc4
        have hd5 : wb.cell? ⟨wr.heap.size, 5, none⟩ = some (.bool false) := (hbb.cell (p := ⟨wr.heap.size, 5, none⟩) HZA.out).trans hc5
        have hd6 : wb.cell? ⟨wr.heap.size, 6, none⟩ = some (.bool false) := (hbb.cell (p := ⟨wr.heap.size, 6, none⟩) HZA.out).trans hc6
        clear hc0 hc1 hc2 hc3 hc4 hc5 hc6
        have hr0 : wb.cell? ⟨w.heap.size, 0, none⟩ = some (.int .i64 0) := (hbb.cell (p := ⟨w.heap.size, 0, none⟩) (by have := HZA.out; have := HRES.out.lt; show w.heap.size < _; omega)).trans ((HBA.out.cell (p := ⟨w.heap.size, 0, none⟩) HRES.out.lt).trans (by rw [cell_of_row wr _ 0 _ _ _ HRES.out]; rfl))
        have hf0 : wb.frozen? ⟨w.heap.size, 0, none⟩ = false := (hbb.frozen (p := ⟨w.heap.size, 0, none⟩) (by have := HZA.out; have := HRES.out.lt; show w.heap.size < _; omega)).trans ((HBA.out.frozen (p := ⟨w.heap.size, 0, none⟩) HRES.out.lt).trans (frozen_of_row wr _ 0 _ _ HRES.out))
        have hr1 : wb.cell? ⟨w.heap.size, 1, none⟩ = some (.int .i64 0) := (hbb.cell (p := ⟨w.heap.size, 1, none⟩) (by have := HZA.out; have := HRES.out.lt; show w.heap.size < _; omega)).trans ((HBA.out.cell (p := ⟨w.heap.size, 1, none⟩) HRES.out.lt).trans (by rw [cell_of_row wr _ 1 _ _ _ HRES.out]; rfl))
        have hf1 : wb.frozen? ⟨w.heap.size, 1, none⟩ = false := (hbb.frozen (p := ⟨w.heap.size, 1, none⟩) (by have := HZA.out; have := HRES.out.lt; show w.heap.size < _; omega)).trans ((HBA.out.frozen (p := ⟨w.heap.size, 1, none⟩) HRES.out.lt).trans (frozen_of_row wr _ 1 _ _ HRES.out))
        have hr2 : wb.cell? ⟨w.heap.size, 2, none⟩ = some (.int .i64 0) := (hbb.cell (p := ⟨w.heap.size, 2, none⟩) (by have := HZA.out; have := HRES.out.lt; show w.heap.size < _; omega)).trans ((HBA.out.cell (p := ⟨w.heap.size, 2, none⟩) HRES.out.lt).trans (by rw [cell_of_row wr _ 2 _ _ _ HRES.out]; rfl))
        have hf2 : wb.frozen? ⟨w.heap.size, 2, none⟩ = false := (hbb.frozen (p := ⟨w.heap.size, 2, none⟩) (by have := HZA.out; have := HRES.out.lt; show w.heap.size < _; omega)).trans ((HBA.out.frozen (p := ⟨w.heap.size, 2, none⟩) HRES.out.lt).trans (frozen_of_row wr _ 2 _ _ HRES.out))
        have hr3 : wb.cell? ⟨w.heap.size, 3, none⟩ = some (.int .i64 0) := (hbb.cell (p := ⟨w.heap.size, 3, none⟩) (by have := HZA.out; have := HRES.out.lt; show w.heap.size < _; omega)).trans ((HBA.out.cell (p := ⟨w.heap.size, 3, none⟩) HRES.out.lt).trans (by rw [cell_of_row wr _ 3 _ _ _ HRES.out]; rfl))
        have hf3 : wb.frozen? ⟨w.heap.size, 3, none⟩ = false := (hbb.frozen (p := ⟨w.heap.size, 3, none⟩) (by have := HZA.out; have := HRES.out.lt; show w.heap.size < _; omega)).trans ((HBA.out.frozen (p := ⟨w.heap.size, 3, none⟩) HRES.out.lt).trans (frozen_of_row wr _ 3 _ _ HRES.out))
        have hr4 : wb.cell? ⟨w.heap.size, 4, none⟩ = some (.int .u32 0) := (hbb.cell (p := ⟨w.heap.size, 4, none⟩) (by have := HZA.out; have := HRES.out.lt; show w.heap.size < _; omega)).trans ((HBA.out.cell (p := ⟨w.heap.size, 4, none⟩) HRES.out.lt).trans (by rw [cell_of_row wr _ 4 _ _ _ HRES.out]; rfl))
        have hf4 : wb.frozen? ⟨w.heap.size, 4, none⟩ = false := (hbb.frozen (p := ⟨w.heap.size, 4, none⟩) (by have := HZA.out; have := HRES.out.lt; show w.heap.size < _; omega)).trans ((HBA.out.frozen (p := ⟨w.heap.size, 4, none⟩) HRES.out.lt).trans (frozen_of_row wr _ 4 _ _ HRES.out))
        have hr5 : wb.cell? ⟨w.heap.size, 5, none⟩ = some (.bool false) := (hbb.cell (p := ⟨w.heap.size, 5, none⟩) (by have := HZA.out; have := HRES.out.lt; show w.heap.size < _; omega)).trans ((HBA.out.cell (p := ⟨w.heap.size, 5, none⟩) HRES.out.lt).trans (by rw [cell_of_row wr _ 5 _ _ _ HRES.out]; rfl))
        have hf5 : wb.frozen? ⟨w.heap.size, 5, none⟩ = false := (hbb.frozen (p := ⟨w.heap.size, 5, none⟩) (by have := HZA.out; have := HRES.out.lt; show w.heap.size < _; omega)).trans ((HBA.out.frozen (p := ⟨w.heap.size, 5, none⟩) HRES.out.lt).trans (frozen_of_row wr _ 5 _ _ HRES.out))
        have hr6 : wb.cell? ⟨w.heap.size, 6, none⟩ = some (.bool false) := (hbb.cell (p := ⟨w.heap.size, 6, none⟩) (by have := HZA.out; have := HRES.out.lt; show w.heap.size < _; omega)).trans ((HBA.out.cell (p := ⟨w.heap.size, 6, none⟩) HRES.out.lt).trans (by rw [cell_of_row wr _ 6 _ _ _ HRES.out]; rfl))
        have hf6 : wb.frozen? ⟨w.heap.size, 6, none⟩ = false := (hbb.frozen (p := ⟨w.heap.size, 6, none⟩) (by have := HZA.out; have := HRES.out.lt; show w.heap.size < _; omega)).trans ((HBA.out.frozen (p := ⟨w.heap.size, 6, none⟩) HRES.out.lt).trans (frozen_of_row wr _ 6 _ _ HRES.out))
        have HBB := Lib.hid (HBA.out.trans (hbb.mono (by have := HZA.out; omega)))
        clear hbb
        by_cases hh : Is.wordX op x = x
        · have HH := Lib.hid (Is.hit_of_word HO.out HX.out hh)
          have t1 : (Is.wordX op x == x) = true := by rw [hh]; exact beq_self_eq_true _
          clear hh
          go_wp2_with fail
          rw [← HQ.out]
          refine bodyPost_ret (v := .tuple #[inst op (Is.rdO (Is.fm op) x) (Is.rs1O (Is.fm op) x) (Is.rs2O (Is.fm op) x) (Is.immO (Is.fm op) x) (Is.aqO (Is.fm op) x) (Is.rlO (Is.fm op) x), .bool true]) (by rw [HQ.out]; simp [results, Tryz.results34, go_sem, hr0, hr1, hr2, hr3, hr4, hr5, hr6]) rfl ⟨.inl ⟨op, HO.out, HH.out, rfl⟩, ?_⟩
          exact below_seven0 (HBW.out.trans (HBB.out.mono HBW.out.size)) (Nat.le_refl _)
        · have HH := Lib.hid (fun h1 : Is.hit (Is.fm op) x op => hh (Is.word_of_hit HO.out HX.out h1))
          have t1 : (Is.wordX op x == x) = false := beq_eq_false_iff_ne.2 hh
          clear hh
          go_wp2_with fail
          go_roundw
          case rel => exact ⟨op + 1, by omega, by go_num, fun q hq => by
            rcases (show (1 ≤ q ∧ q < op) ∨ q = op by omega) with h1 | h1
            · exact HNO.out q h1
            · rw [h1]; exact HH.out, HRES.out.below HBB.out, HBW.out.trans (HBB.out.mono HBW.out.size)⟩
          case measure => simp [intOf]; omega
      · have HF := Lib.hid (show Is.fb (Is.fm op) = 105 by rw [hk]; rfl)
        have HM := Lib.hid (fun w => (show Calls Tryz.prog 61 #[.agg #[.int .i64 (op : Int), .int .i64 (x / 128 % 32), .int .i64 (x / 32768 % 32), .int .i64 0, .int .u32 (Is.shortImm x), .bool false, .bool false]] w fun e w' => e = .returned (.bool true) ∧ Below w.heap.size w w' from by
          have hm := Is.may_take (Is.fm op) (Is.fm_in op HO.out) HX.out
          have h0 := rmay_yes op HO.out _ _ _ _ _ _ (Is.immO_wd (Is.fm op) HX.out) hm w
          rw [hk] at h0
          exact h0))
        have HE := Lib.hid (fun w => (show Calls Tryz.prog 62 #[.agg #[.int .i64 (op : Int), .int .i64 (x / 128 % 32), .int .i64 (x / 32768 % 32), .int .i64 0, .int .u32 (Is.shortImm x), .bool false, .bool false]] w fun e w' => e = .returned (.int .u32 (Is.wordX op x)) ∧ Below w.heap.size w w' from by
          have hm := Is.may_take (Is.fm op) (Is.fm_in op HO.out) HX.out
          have h0 := renc_yes op HO.out _ _ _ _ _ _ (Is.immO_wd (Is.fm op) HX.out) hm w
          change Calls _ _ _ _ fun e w' => e = .returned (.int .u32 (Is.wordX op x)) ∧ _ at h0
          rw [hk] at h0
          exact h0))
        have HQ := Lib.hid (show inst op (Is.rdO (Is.fm op) x) (Is.rs1O (Is.fm op) x) (Is.rs2O (Is.fm op) x) (Is.immO (Is.fm op) x) (Is.aqO (Is.fm op) x) (Is.rlO (Is.fm op) x) = .agg #[.int .i64 (op : Int), .int .i64 (x / 128 % 32), .int .i64 (x / 32768 % 32), .int .i64 0, .int .u32 (Is.shortImm x), .bool false, .bool false] by rw [hk]; rfl)
        clear hk
        go_wp2_with (first
          | (go_at_call 57; refine (rform_yes op HO.out _).mono ?_; rw [HF.out]; rintro e w' ⟨rfl, rfl⟩)
          | (go_at_call 60; with_reducible refine (rpow_lit 20 1048576 (by omega) rfl _).mono ?_; rintro e w' ⟨rfl, rfl⟩)
          | (go_at_call 60; with_reducible refine (rpow_lit 12 4096 (by omega) rfl _).mono ?_; rintro e w' ⟨rfl, rfl⟩)
          | (go_at_call 60; with_reducible refine (rpow_lit 11 2048 (by omega) rfl _).mono ?_; rintro e w' ⟨rfl, rfl⟩)
          | (go_at_call 58; with_reducible refine (rbits_lit x 11 7 _ HX.out (by omega) (by omega) (by omega) (Is.bt_11_7 x) _).mono ?_; rintro e w' ⟨rfl, rfl⟩)
          | (go_at_call 58; with_reducible refine (rbits_lit x 19 15 _ HX.out (by omega) (by omega) (by omega) (Is.bt_19_15 x) _).mono ?_; rintro e w' ⟨rfl, rfl⟩)
          | (go_at_call 58; with_reducible refine (rbits_lit x 24 20 _ HX.out (by omega) (by omega) (by omega) (Is.bt_24_20 x) _).mono ?_; rintro e w' ⟨rfl, rfl⟩)
          | (go_at_call 58; with_reducible refine (rbits_lit x 31 31 _ HX.out (by omega) (by omega) (by omega) (Is.bt_31_31 x) _).mono ?_; rintro e w' ⟨rfl, rfl⟩)
          | (go_at_call 58; with_reducible refine (rbits_lit x 19 12 _ HX.out (by omega) (by omega) (by omega) (Is.bt_19_12 x) _).mono ?_; rintro e w' ⟨rfl, rfl⟩)
          | (go_at_call 58; with_reducible refine (rbits_lit x 20 20 _ HX.out (by omega) (by omega) (by omega) (Is.bt_20_20 x) _).mono ?_; rintro e w' ⟨rfl, rfl⟩)
          | (go_at_call 58; with_reducible refine (rbits_lit x 30 21 _ HX.out (by omega) (by omega) (by omega) (Is.bt_30_21 x) _).mono ?_; rintro e w' ⟨rfl, rfl⟩)
          | (go_at_call 58; with_reducible refine (rbits_lit x 7 7 _ HX.out (by omega) (by omega) (by omega) (Is.bt_7_7 x) _).mono ?_; rintro e w' ⟨rfl, rfl⟩)
          | (go_at_call 58; with_reducible refine (rbits_lit x 30 25 _ HX.out (by omega) (by omega) (by omega) (Is.bt_30_25 x) _).mono ?_; rintro e w' ⟨rfl, rfl⟩)
          | (go_at_call 58; with_reducible refine (rbits_lit x 11 8 _ HX.out (by omega) (by omega) (by omega) (Is.bt_11_8 x) _).mono ?_; rintro e w' ⟨rfl, rfl⟩)
          | (go_at_call 58; with_reducible refine (rbits_lit x 31 25 _ HX.out (by omega) (by omega) (by omega) (Is.bt_31_25 x) _).mono ?_; rintro e w' ⟨rfl, rfl⟩)
          | (go_at_call 58; with_reducible refine (rbits_lit x 31 20 _ HX.out (by omega) (by omega) (by omega) (Is.bt_31_20 x) _).mono ?_; rintro e w' ⟨rfl, rfl⟩)
          | (go_at_call 58; with_reducible refine (rbits_lit x 27 20 _ HX.out (by omega) (by omega) (by omega) (Is.bt_27_20 x) _).mono ?_; rintro e w' ⟨rfl, rfl⟩)
          | (go_at_call 58; with_reducible refine (rbits_lit x 26 26 _ HX.out (by omega) (by omega) (by omega) (Is.bt_26_26 x) _).mono ?_; rintro e w' ⟨rfl, rfl⟩)
          | (go_at_call 58; with_reducible refine (rbits_lit x 25 25 _ HX.out (by omega) (by omega) (by omega) (Is.bt_25_25 x) _).mono ?_; rintro e w' ⟨rfl, rfl⟩)
          | (go_at_call 59; with_reducible refine (rsign_jumpImm x HX.out _).mono ?_; rintro e w' ⟨rfl, rfl⟩)
          | (go_at_call 59; with_reducible refine (rsign_branchImm x HX.out _).mono ?_; rintro e w' ⟨rfl, rfl⟩)
          | (go_at_call 59; with_reducible refine (rsign_storeImm x HX.out _).mono ?_; rintro e w' ⟨rfl, rfl⟩)
          | (go_at_call 59; with_reducible refine (rsign_shortImm x HX.out _).mono ?_; rintro e w' ⟨rfl, rfl⟩))
        refine (HM.out _).mono ?_
        rintro e wa ⟨rfl, hba⟩
        have hc0 : wa.cell? ⟨wr.heap.size, 0, none⟩ = some (.int .i64 (op : Int)) := (hba.cell (p := ⟨wr.heap.size, 0, none⟩) (by simp)).trans (by go_simp)
        have hc1 : wa.cell? ⟨wr.heap.size, 1, none⟩ = some (.int .i64 (x / 128 % 32)) := (hba.cell (p := ⟨wr.heap.size, 1, none⟩) (by simp)).trans (by go_simp)
        have hc2 : wa.cell? ⟨wr.heap.size, 2, none⟩ = some (.int .i64 (x / 32768 % 32)) := (hba.cell (p := ⟨wr.heap.size, 2, none⟩) (by simp)).trans (by go_simp)
        have hc3 : wa.cell? ⟨wr.heap.size, 3, none⟩ = some (.int .i64 0) := (hba.cell (p := ⟨wr.heap.size, 3, none⟩) (by simp)).trans (by go_simp)
        have hc4 : wa.cell? ⟨wr.heap.size, 4, none⟩ = some (.int .u32 (Is.shortImm x)) := (hba.cell (p := ⟨wr.heap.size, 4, none⟩) (by simp)).trans (by go_simp)
        have hc5 : wa.cell? ⟨wr.heap.size, 5, none⟩ = some (.bool false) := (hba.cell (p := ⟨wr.heap.size, 5, none⟩) (by simp)).trans (by go_simp)
        have hc6 : wa.cell? ⟨wr.heap.size, 6, none⟩ = some (.bool false) := (hba.cell (p := ⟨wr.heap.size, 6, none⟩) (by simp)).trans (by go_simp)
        have HBA := Lib.hid (((Below.refl _ wr).alloc (Nat.le_refl _) _).trans (hba.mono (by simp)))
        have HZA := Lib.hid (show wr.heap.size < wa.heap.size by have := hba.size; simp at this; omega)
        clear hba
        go_wp2_with fail
        refine (HE.out _).mono ?_
        rintro e wb ⟨rfl, hbb⟩
        have hd0 : wb.cell? ⟨wr.heap.size, 0, none⟩ = some (.int .i64 (op : Int)) := (hbb.cell (p := ⟨wr.heap.size, 0, none⟩) HZA.out).trans hc0
        have hd1 : wb.cell? ⟨wr.heap.size, 1, none⟩ = some (.int .i64 (x / 128 % 32)) := (hbb.cell (p := ⟨wr.heap.size, 1, none⟩) HZA.out).trans hc1
        have hd2 : wb.cell? ⟨wr.heap.size, 2, none⟩ = some (.int .i64 (x / 32768 % 32)) := (hbb.cell (p := ⟨wr.heap.size, 2, none⟩) HZA.out).trans hc2
        have hd3 : wb.cell? ⟨wr.heap.size, 3, none⟩ = some (.int .i64 0) := (hbb.cell (p := ⟨wr.heap.size, 3, none⟩) HZA.out).trans hc3
        have hd4 : wb.cell? ⟨wr.heap.size, 4, none⟩ = some (.int .u32 (Is.shortImm x)) := (hbb.cell (p := ⟨wr.heap.size, 4, none⟩) HZA.out).trans hc4
        have hd5 : wb.cell? ⟨wr.heap.size, 5, none⟩ = some (.bool false) := (hbb.cell (p := ⟨wr.heap.size, 5, none⟩) HZA.out).trans hc5
        have hd6 : wb.cell? ⟨wr.heap.size, 6, none⟩ = some (.bool false) := (hbb.cell (p := ⟨wr.heap.size, 6, none⟩) HZA.out).trans hc6
        clear hc0 hc1 hc2 hc3 hc4 hc5 hc6
        have hr0 : wb.cell? ⟨w.heap.size, 0, none⟩ = some (.int .i64 0) := (hbb.cell (p := ⟨w.heap.size, 0, none⟩) (by have := HZA.out; have := HRES.out.lt; show w.heap.size < _; omega)).trans ((HBA.out.cell (p := ⟨w.heap.size, 0, none⟩) HRES.out.lt).trans (by rw [cell_of_row wr _ 0 _ _ _ HRES.out]; rfl))
        have hf0 : wb.frozen? ⟨w.heap.size, 0, none⟩ = false := (hbb.frozen (p := ⟨w.heap.size, 0, none⟩) (by have := HZA.out; have := HRES.out.lt; show w.heap.size < _; omega)).trans ((HBA.out.frozen (p := ⟨w.heap.size, 0, none⟩) HRES.out.lt).trans (frozen_of_row wr _ 0 _ _ HRES.out))
        have hr1 : wb.cell? ⟨w.heap.size, 1, none⟩ = some (.int .i64 0) := (hbb.cell (p := ⟨w.heap.size, 1, none⟩) (by have := HZA.out; have := HRES.out.lt; show w.heap.size < _; omega)).trans ((HBA.out.cell (p := ⟨w.heap.size, 1, none⟩) HRES.out.lt).trans (by rw [cell_of_row wr _ 1 _ _ _ HRES.out]; rfl))
        have hf1 : wb.frozen? ⟨w.heap.size, 1, none⟩ = false := (hbb.frozen (p := ⟨w.heap.size, 1, none⟩) (by have := HZA.out; have := HRES.out.lt; show w.heap.size < _; omega)).trans ((HBA.out.frozen (p := ⟨w.heap.size, 1, none⟩) HRES.out.lt).trans (frozen_of_row wr _ 1 _ _ HRES.out))
        have hr2 : wb.cell? ⟨w.heap.size, 2, none⟩ = some (.int .i64 0) := (hbb.cell (p := ⟨w.heap.size, 2, none⟩) (by have := HZA.out; have := HRES.out.lt; show w.heap.size < _; omega)).trans ((HBA.out.cell (p := ⟨w.heap.size, 2, none⟩) HRES.out.lt).trans (by rw [cell_of_row wr _ 2 _ _ _ HRES.out]; rfl))
        have hf2 : wb.frozen? ⟨w.heap.size, 2, none⟩ = false := (hbb.frozen (p := ⟨w.heap.size, 2, none⟩) (by have := HZA.out; have := HRES.out.lt; show w.heap.size < _; omega)).trans ((HBA.out.frozen (p := ⟨w.heap.size, 2, none⟩) HRES.out.lt).trans (frozen_of_row wr _ 2 _ _ HRES.out))
        have hr3 : wb.cell? ⟨w.heap.size, 3, none⟩ = some (.int .i64 0) := (hbb.cell (p := ⟨w.heap.size, 3, none⟩) (by have := HZA.out; have := HRES.out.lt; show w.heap.size < _; omega)).trans ((HBA.out.cell (p := ⟨w.heap.size, 3, none⟩) HRES.out.lt).trans (by rw [cell_of_row wr _ 3 _ _ _ HRES.out]; rfl))
        have hf3 : wb.frozen? ⟨w.heap.size, 3, none⟩ = false := (hbb.frozen (p := ⟨w.heap.size, 3, none⟩) (by have := HZA.out; have := HRES.out.lt; show w.heap.size < _; omega)).trans ((HBA.out.frozen (p := ⟨w.heap.size, 3, none⟩) HRES.out.lt).trans (frozen_of_row wr _ 3 _ _ HRES.out))
        have hr4 : wb.cell? ⟨w.heap.size, 4, none⟩ = some (.int .u32 0) := (hbb.cell (p := ⟨w.heap.size, 4, none⟩) (by have := HZA.out; have := HRES.out.lt; show w.heap.size < _; omega)).trans ((HBA.out.cell (p := ⟨w.heap.size, 4, none⟩) HRES.out.lt).trans (by rw [cell_of_row wr _ 4 _ _ _ HRES.out]; rfl))
        have hf4 : wb.frozen? ⟨w.heap.size, 4, none⟩ = false := (hbb.frozen (p := ⟨w.heap.size, 4, none⟩) (by have := HZA.out; have := HRES.out.lt; show w.heap.size < _; omega)).trans ((HBA.out.frozen (p := ⟨w.heap.size, 4, none⟩) HRES.out.lt).trans (frozen_of_row wr _ 4 _ _ HRES.out))
        have hr5 : wb.cell? ⟨w.heap.size, 5, none⟩ = some (.bool false) := (hbb.cell (p := ⟨w.heap.size, 5, none⟩) (by have := HZA.out; have := HRES.out.lt; show w.heap.size < _; omega)).trans ((HBA.out.cell (p := ⟨w.heap.size, 5, none⟩) HRES.out.lt).trans (by rw [cell_of_row wr _ 5 _ _ _ HRES.out]; rfl))
        have hf5 : wb.frozen? ⟨w.heap.size, 5, none⟩ = false := (hbb.frozen (p := ⟨w.heap.size, 5, none⟩) (by have := HZA.out; have := HRES.out.lt; show w.heap.size < _; omega)).trans ((HBA.out.frozen (p := ⟨w.heap.size, 5, none⟩) HRES.out.lt).trans (frozen_of_row wr _ 5 _ _ HRES.out))
        have hr6 : wb.cell? ⟨w.heap.size, 6, none⟩ = some (.bool false) := (hbb.cell (p := ⟨w.heap.size, 6, none⟩) (by have := HZA.out; have := HRES.out.lt; show w.heap.size < _; omega)).trans ((HBA.out.cell (p := ⟨w.heap.size, 6, none⟩) HRES.out.lt).trans (by rw [cell_of_row wr _ 6 _ _ _ HRES.out]; rfl))
        have hf6 : wb.frozen? ⟨w.heap.size, 6, none⟩ = false := (hbb.frozen (p := ⟨w.heap.size, 6, none⟩) (by have := HZA.out; have := HRES.out.lt; show w.heap.size < _; omega)).trans ((HBA.out.frozen (p := ⟨w.heap.size, 6, none⟩) HRES.out.lt).trans (frozen_of_row wr _ 6 _ _ HRES.out))
        have HBB := Lib.hid (HBA.out.trans (hbb.mono (by have := HZA.out; omega)))
        clear hbb
        by_cases hh : Is.wordX op x = x
        · have HH := Lib.hid (Is.hit_of_word HO.out HX.out hh)
          have t1 : (Is.wordX op x == x) = true := by rw [hh]; exact beq_self_eq_true _
          clear hh
          go_wp2_with fail
          rw [← HQ.out]
          refine bodyPost_ret (v := .tuple #[inst op (Is.rdO (Is.fm op) x) (Is.rs1O (Is.fm op) x) (Is.rs2O (Is.fm op) x) (Is.immO (Is.fm op) x) (Is.aqO (Is.fm op) x) (Is.rlO (Is.fm op) x), .bool true]) (by rw [HQ.out]; simp [results, Tryz.results34, go_sem, hr0, hr1, hr2, hr3, hr4, hr5, hr6]) rfl ⟨.inl ⟨op, HO.out, HH.out, rfl⟩, ?_⟩
          exact below_seven0 (HBW.out.trans (HBB.out.mono HBW.out.size)) (Nat.le_refl _)
        · have HH := Lib.hid (fun h1 : Is.hit (Is.fm op) x op => hh (Is.word_of_hit HO.out HX.out h1))
          have t1 : (Is.wordX op x == x) = false := beq_eq_false_iff_ne.2 hh
          clear hh
          go_wp2_with fail
          go_roundw
          case rel => exact ⟨op + 1, by omega, by go_num, fun q hq => by
            rcases (show (1 ≤ q ∧ q < op) ∨ q = op by omega) with h1 | h1
            · exact HNO.out q h1
            · rw [h1]; exact HH.out, HRES.out.below HBB.out, HBW.out.trans (HBB.out.mono HBW.out.size)⟩
          case measure => simp [intOf]; omega
      · have HF := Lib.hid (show Is.fb (Is.fm op) = 108 by rw [hk]; rfl)
        have HM := Lib.hid (fun w => (show Calls Tryz.prog 61 #[.agg #[.int .i64 (op : Int), .int .i64 (x / 128 % 32), .int .i64 (x / 32768 % 32), .int .i64 0, .int .u32 (Is.shortImm x), .bool false, .bool false]] w fun e w' => e = .returned (.bool true) ∧ Below w.heap.size w w' from by
          have hm := Is.may_take (Is.fm op) (Is.fm_in op HO.out) HX.out
          have h0 := rmay_yes op HO.out _ _ _ _ _ _ (Is.immO_wd (Is.fm op) HX.out) hm w
          rw [hk] at h0
          exact h0))
        have HE := Lib.hid (fun w => (show Calls Tryz.prog 62 #[.agg #[.int .i64 (op : Int), .int .i64 (x / 128 % 32), .int .i64 (x / 32768 % 32), .int .i64 0, .int .u32 (Is.shortImm x), .bool false, .bool false]] w fun e w' => e = .returned (.int .u32 (Is.wordX op x)) ∧ Below w.heap.size w w' from by
          have hm := Is.may_take (Is.fm op) (Is.fm_in op HO.out) HX.out
          have h0 := renc_yes op HO.out _ _ _ _ _ _ (Is.immO_wd (Is.fm op) HX.out) hm w
          change Calls _ _ _ _ fun e w' => e = .returned (.int .u32 (Is.wordX op x)) ∧ _ at h0
          rw [hk] at h0
          exact h0))
        have HQ := Lib.hid (show inst op (Is.rdO (Is.fm op) x) (Is.rs1O (Is.fm op) x) (Is.rs2O (Is.fm op) x) (Is.immO (Is.fm op) x) (Is.aqO (Is.fm op) x) (Is.rlO (Is.fm op) x) = .agg #[.int .i64 (op : Int), .int .i64 (x / 128 % 32), .int .i64 (x / 32768 % 32), .int .i64 0, .int .u32 (Is.shortImm x), .bool false, .bool false] by rw [hk]; rfl)
        clear hk
        go_wp2_with (first
          | (go_at_call 57; refine (rform_yes op HO.out _).mono ?_; rw [HF.out]; rintro e w' ⟨rfl, rfl⟩)
          | (go_at_call 60; with_reducible refine (rpow_lit 20 1048576 (by omega) rfl _).mono ?_; rintro e w' ⟨rfl, rfl⟩)
          | (go_at_call 60; with_reducible refine (rpow_lit 12 4096 (by omega) rfl _).mono ?_; rintro e w' ⟨rfl, rfl⟩)
          | (go_at_call 60; with_reducible refine (rpow_lit 11 2048 (by omega) rfl _).mono ?_; rintro e w' ⟨rfl, rfl⟩)
          | (go_at_call 58; with_reducible refine (rbits_lit x 11 7 _ HX.out (by omega) (by omega) (by omega) (Is.bt_11_7 x) _).mono ?_; rintro e w' ⟨rfl, rfl⟩)
          | (go_at_call 58; with_reducible refine (rbits_lit x 19 15 _ HX.out (by omega) (by omega) (by omega) (Is.bt_19_15 x) _).mono ?_; rintro e w' ⟨rfl, rfl⟩)
          | (go_at_call 58; with_reducible refine (rbits_lit x 24 20 _ HX.out (by omega) (by omega) (by omega) (Is.bt_24_20 x) _).mono ?_; rintro e w' ⟨rfl, rfl⟩)
          | (go_at_call 58; with_reducible refine (rbits_lit x 31 31 _ HX.out (by omega) (by omega) (by omega) (Is.bt_31_31 x) _).mono ?_; rintro e w' ⟨rfl, rfl⟩)
          | (go_at_call 58; with_reducible refine (rbits_lit x 19 12 _ HX.out (by omega) (by omega) (by omega) (Is.bt_19_12 x) _).mono ?_; rintro e w' ⟨rfl, rfl⟩)
          | (go_at_call 58; with_reducible refine (rbits_lit x 20 20 _ HX.out (by omega) (by omega) (by omega) (Is.bt_20_20 x) _).mono ?_; rintro e w' ⟨rfl, rfl⟩)
          | (go_at_call 58; with_reducible refine (rbits_lit x 30 21 _ HX.out (by omega) (by omega) (by omega) (Is.bt_30_21 x) _).mono ?_; rintro e w' ⟨rfl, rfl⟩)
          | (go_at_call 58; with_reducible refine (rbits_lit x 7 7 _ HX.out (by omega) (by omega) (by omega) (Is.bt_7_7 x) _).mono ?_; rintro e w' ⟨rfl, rfl⟩)
          | (go_at_call 58; with_reducible refine (rbits_lit x 30 25 _ HX.out (by omega) (by omega) (by omega) (Is.bt_30_25 x) _).mono ?_; rintro e w' ⟨rfl, rfl⟩)
          | (go_at_call 58; with_reducible refine (rbits_lit x 11 8 _ HX.out (by omega) (by omega) (by omega) (Is.bt_11_8 x) _).mono ?_; rintro e w' ⟨rfl, rfl⟩)
          | (go_at_call 58; with_reducible refine (rbits_lit x 31 25 _ HX.out (by omega) (by omega) (by omega) (Is.bt_31_25 x) _).mono ?_; rintro e w' ⟨rfl, rfl⟩)
          | (go_at_call 58; with_reducible refine (rbits_lit x 31 20 _ HX.out (by omega) (by omega) (by omega) (Is.bt_31_20 x) _).mono ?_; rintro e w' ⟨rfl, rfl⟩)
          | (go_at_call 58; with_reducible refine (rbits_lit x 27 20 _ HX.out (by omega) (by omega) (by omega) (Is.bt_27_20 x) _).mono ?_; rintro e w' ⟨rfl, rfl⟩)
          | (go_at_call 58; with_reducible refine (rbits_lit x 26 26 _ HX.out (by omega) (by omega) (by omega) (Is.bt_26_26 x) _).mono ?_; rintro e w' ⟨rfl, rfl⟩)
          | (go_at_call 58; with_reducible refine (rbits_lit x 25 25 _ HX.out (by omega) (by omega) (by omega) (Is.bt_25_25 x) _).mono ?_; rintro e w' ⟨rfl, rfl⟩)
          | (go_at_call 59; with_reducible refine (rsign_jumpImm x HX.out _).mono ?_; rintro e w' ⟨rfl, rfl⟩)
          | (go_at_call 59; with_reducible refine (rsign_branchImm x HX.out _).mono ?_; rintro e w' ⟨rfl, rfl⟩)
          | (go_at_call 59; with_reducible refine (rsign_storeImm x HX.out _).mono ?_; rintro e w' ⟨rfl, rfl⟩)
          | (go_at_call 59; with_reducible refine (rsign_shortImm x HX.out _).mono ?_; rintro e w' ⟨rfl, rfl⟩))
        refine (HM.out _).mono ?_
        rintro e wa ⟨rfl, hba⟩
        have hc0 : wa.cell? ⟨wr.heap.size, 0, none⟩ = some (.int .i64 (op : Int)) := (hba.cell (p := ⟨wr.heap.size, 0, none⟩) (by simp)).trans (by go_simp)
        have hc1 : wa.cell? ⟨wr.heap.size, 1, none⟩ = some (.int .i64 (x / 128 % 32)) := (hba.cell (p := ⟨wr.heap.size, 1, none⟩) (by simp)).trans (by go_simp)
        have hc2 : wa.cell? ⟨wr.heap.size, 2, none⟩ = some (.int .i64 (x / 32768 % 32)) := (hba.cell (p := ⟨wr.heap.size, 2, none⟩) (by simp)).trans (by go_simp)
        have hc3 : wa.cell? ⟨wr.heap.size, 3, none⟩ = some (.int .i64 0) := (hba.cell (p := ⟨wr.heap.size, 3, none⟩) (by simp)).trans (by go_simp)
        have hc4 : wa.cell? ⟨wr.heap.size, 4, none⟩ = some (.int .u32 (Is.shortImm x)) := (hba.cell (p := ⟨wr.heap.size, 4, none⟩) (by simp)).trans (by go_simp)
        have hc5 : wa.cell? ⟨wr.heap.size, 5, none⟩ = some (.bool false) := (hba.cell (p := ⟨wr.heap.size, 5, none⟩) (by simp)).trans (by go_simp)
        have hc6 : wa.cell? ⟨wr.heap.size, 6, none⟩ = some (.bool false) := (hba.cell (p := ⟨wr.heap.size, 6, none⟩) (by simp)).trans (by go_simp)
        have HBA := Lib.hid (((Below.refl _ wr).alloc (Nat.le_refl _) _).trans (hba.mono (by simp)))
        have HZA := Lib.hid (show wr.heap.size < wa.heap.size by have := hba.size; simp at this; omega)
        clear hba
        go_wp2_with fail
        refine (HE.out _).mono ?_
        rintro e wb ⟨rfl, hbb⟩
        have hd0 : wb.cell? ⟨wr.heap.size, 0, none⟩ = some (.int .i64 (op : Int)) := (hbb.cell (p := ⟨wr.heap.size, 0, none⟩) HZA.out).trans hc0
        have hd1 : wb.cell? ⟨wr.heap.size, 1, none⟩ = some (.int .i64 (x / 128 % 32)) := (hbb.cell (p := ⟨wr.heap.size, 1, none⟩) HZA.out).trans hc1
        have hd2 : wb.cell? ⟨wr.heap.size, 2, none⟩ = some (.int .i64 (x / 32768 % 32)) := (hbb.cell (p := ⟨wr.heap.size, 2, none⟩) HZA.out).trans hc2
        have hd3 : wb.cell? ⟨wr.heap.size, 3, none⟩ = some (.int .i64 0) := (hbb.cell (p := ⟨wr.heap.size, 3, none⟩) HZA.out).trans hc3
        have hd4 : wb.cell? ⟨wr.heap.size, 4, none⟩ = some (.int .u32 (Is.shortImm x)) := (hbb.cell (p := ⟨wr.heap.size, 4, none⟩) HZA.out).trans hc4
        have hd5 : wb.cell? ⟨wr.heap.size, 5, none⟩ = some (.bool false) := (hbb.cell (p := ⟨wr.heap.size, 5, none⟩) HZA.out).trans hc5
        have hd6 : wb.cell? ⟨wr.heap.size, 6, none⟩ = some (.bool false) := (hbb.cell (p := ⟨wr.heap.size, 6, none⟩) HZA.out).trans hc6
        clear hc0 hc1 hc2 hc3 hc4 hc5 hc6
        have hr0 : wb.cell? ⟨w.heap.size, 0, none⟩ = some (.int .i64 0) := (hbb.cell (p := ⟨w.heap.size, 0, none⟩) (by have := HZA.out; have := HRES.out.lt; show w.heap.size < _; omega)).trans ((HBA.out.cell (p := ⟨w.heap.size, 0, none⟩) HRES.out.lt).trans (by rw [cell_of_row wr _ 0 _ _ _ HRES.out]; rfl))
        have hf0 : wb.frozen? ⟨w.heap.size, 0, none⟩ = false := (hbb.frozen (p := ⟨w.heap.size, 0, none⟩) (by have := HZA.out; have := HRES.out.lt; show w.heap.size < _; omega)).trans ((HBA.out.frozen (p := ⟨w.heap.size, 0, none⟩) HRES.out.lt).trans (frozen_of_row wr _ 0 _ _ HRES.out))
        have hr1 : wb.cell? ⟨w.heap.size, 1, none⟩ = some (.int .i64 0) := (hbb.cell (p := ⟨w.heap.size, 1, none⟩) (by have := HZA.out; have := HRES.out.lt; show w.heap.size < _; omega)).trans ((HBA.out.cell (p := ⟨w.heap.size, 1, none⟩) HRES.out.lt).trans (by rw [cell_of_row wr _ 1 _ _ _ HRES.out]; rfl))
        have hf1 : wb.frozen? ⟨w.heap.size, 1, none⟩ = false := (hbb.frozen (p := ⟨w.heap.size, 1, none⟩) (by have := HZA.out; have := HRES.out.lt; show w.heap.size < _; omega)).trans ((HBA.out.frozen (p := ⟨w.heap.size, 1, none⟩) HRES.out.lt).trans (frozen_of_row wr _ 1 _ _ HRES.out))
        have hr2 : wb.cell? ⟨w.heap.size, 2, none⟩ = some (.int .i64 0) := (hbb.cell (p := ⟨w.heap.size, 2, none⟩) (by have := HZA.out; have := HRES.out.lt; show w.heap.size < _; omega)).trans ((HBA.out.cell (p := ⟨w.heap.size, 2, none⟩) HRES.out.lt).trans (by rw [cell_of_row wr _ 2 _ _ _ HRES.out]; rfl))
        have hf2 : wb.frozen? ⟨w.heap.size, 2, none⟩ = false := (hbb.frozen (p := ⟨w.heap.size, 2, none⟩) (by have := HZA.out; have := HRES.out.lt; show w.heap.size < _; omega)).trans ((HBA.out.frozen (p := ⟨w.heap.size, 2, none⟩) HRES.out.lt).trans (frozen_of_row wr _ 2 _ _ HRES.out))
        have hr3 : wb.cell? ⟨w.heap.size, 3, none⟩ = some (.int .i64 0) := (hbb.cell (p := ⟨w.heap.size, 3, none⟩) (by have := HZA.out; have := HRES.out.lt; show w.heap.size < _; omega)).trans ((HBA.out.cell (p := ⟨w.heap.size, 3, none⟩) HRES.out.lt).trans (by rw [cell_of_row wr _ 3 _ _ _ HRES.out]; rfl))
        have hf3 : wb.frozen? ⟨w.heap.size, 3, none⟩ = false := (hbb.frozen (p := ⟨w.heap.size, 3, none⟩) (by have := HZA.out; have := HRES.out.lt; show w.heap.size < _; omega)).trans ((HBA.out.frozen (p := ⟨w.heap.size, 3, none⟩) HRES.out.lt).trans (frozen_of_row wr _ 3 _ _ HRES.out))
        have hr4 : wb.cell? ⟨w.heap.size, 4, none⟩ = some (.int .u32 0) := (hbb.cell (p := ⟨w.heap.size, 4, none⟩) (by have := HZA.out; have := HRES.out.lt; show w.heap.size < _; omega)).trans ((HBA.out.cell (p := ⟨w.heap.size, 4, none⟩) HRES.out.lt).trans (by rw [cell_of_row wr _ 4 _ _ _ HRES.out]; rfl))
        have hf4 : wb.frozen? ⟨w.heap.size, 4, none⟩ = false := (hbb.frozen (p := ⟨w.heap.size, 4, none⟩) (by have := HZA.out; have := HRES.out.lt; show w.heap.size < _; omega)).trans ((HBA.out.frozen (p := ⟨w.heap.size, 4, none⟩) HRES.out.lt).trans (frozen_of_row wr _ 4 _ _ HRES.out))
        have hr5 : wb.cell? ⟨w.heap.size, 5, none⟩ = some (.bool false) := (hbb.cell (p := ⟨w.heap.size, 5, none⟩) (by have := HZA.out; have := HRES.out.lt; show w.heap.size < _; omega)).trans ((HBA.out.cell (p := ⟨w.heap.size, 5, none⟩) HRES.out.lt).trans (by rw [cell_of_row wr _ 5 _ _ _ HRES.out]; rfl))
        have hf5 : wb.frozen? ⟨w.heap.size, 5, none⟩ = false := (hbb.frozen (p := ⟨w.heap.size, 5, none⟩) (by have := HZA.out; have := HRES.out.lt; show w.heap.size < _; omega)).trans ((HBA.out.frozen (p := ⟨w.heap.size, 5, none⟩) HRES.out.lt).trans (frozen_of_row wr _ 5 _ _ HRES.out))
        have hr6 : wb.cell? ⟨w.heap.size, 6, none⟩ = some (.bool false) := (hbb.cell (p := ⟨w.heap.size, 6, none⟩) (by have := HZA.out; have := HRES.out.lt; show w.heap.size < _; omega)).trans ((HBA.out.cell (p := ⟨w.heap.size, 6, none⟩) HRES.out.lt).trans (by rw [cell_of_row wr _ 6 _ _ _ HRES.out]; rfl))
        have hf6 : wb.frozen? ⟨w.heap.size, 6, none⟩ = false := (hbb.frozen (p := ⟨w.heap.size, 6, none⟩) (by have := HZA.out; have := HRES.out.lt; show w.heap.size < _; omega)).trans ((HBA.out.frozen (p := ⟨w.heap.size, 6, none⟩) HRES.out.lt).trans (frozen_of_row wr _ 6 _ _ HRES.out))
        have HBB := Lib.hid (HBA.out.trans (hbb.mono (by have := HZA.out; omega)))
        clear hbb
        by_cases hh : Is.wordX op x = x
        · have HH := Lib.hid (Is.hit_of_word HO.out HX.out hh)
          have t1 : (Is.wordX op x == x) = true := by rw [hh]; exact beq_self_eq_true _
          clear hh
          go_wp2_with fail
          rw [← HQ.out]
          refine bodyPost_ret (v := .tuple #[inst op (Is.rdO (Is.fm op) x) (Is.rs1O (Is.fm op) x) (Is.rs2O (Is.fm op) x) (Is.immO (Is.fm op) x) (Is.aqO (Is.fm op) x) (Is.rlO (Is.fm op) x), .bool true]) (by rw [HQ.out]; simp [results, Tryz.results34, go_sem, hr0, hr1, hr2, hr3, hr4, hr5, hr6]) rfl ⟨.inl ⟨op, HO.out, HH.out, rfl⟩, ?_⟩
          exact below_seven0 (HBW.out.trans (HBB.out.mono HBW.out.size)) (Nat.le_refl _)
        · have HH := Lib.hid (fun h1 : Is.hit (Is.fm op) x op => hh (Is.word_of_hit HO.out HX.out h1))
          have t1 : (Is.wordX op x == x) = false := beq_eq_false_iff_ne.2 hh
          clear hh
          go_wp2_with fail
          go_roundw
          case rel => exact ⟨op + 1, by omega, by go_num, fun q hq => by
            rcases (show (1 ≤ q ∧ q < op) ∨ q = op by omega) with h1 | h1
            · exact HNO.out q h1
            · rw [h1]; exact HH.out, HRES.out.below HBB.out, HBW.out.trans (HBB.out.mono HBW.out.size)⟩
          case measure => simp [intOf]; omega
      · have HF := Lib.hid (show Is.fb (Is.fm op) = 104 by rw [hk]; rfl)
        have HM := Lib.hid (fun w => (show Calls Tryz.prog 61 #[.agg #[.int .i64 (op : Int), .int .i64 (x / 128 % 32), .int .i64 (x / 32768 % 32), .int .i64 0, .int .u32 (x / 1048576 % 32), .bool false, .bool false]] w fun e w' => e = .returned (.bool true) ∧ Below w.heap.size w w' from by
          have hm := Is.may_take (Is.fm op) (Is.fm_in op HO.out) HX.out
          have h0 := rmay_yes op HO.out _ _ _ _ _ _ (Is.immO_wd (Is.fm op) HX.out) hm w
          rw [hk] at h0
          exact h0))
        have HE := Lib.hid (fun w => (show Calls Tryz.prog 62 #[.agg #[.int .i64 (op : Int), .int .i64 (x / 128 % 32), .int .i64 (x / 32768 % 32), .int .i64 0, .int .u32 (x / 1048576 % 32), .bool false, .bool false]] w fun e w' => e = .returned (.int .u32 (Is.wordX op x)) ∧ Below w.heap.size w w' from by
          have hm := Is.may_take (Is.fm op) (Is.fm_in op HO.out) HX.out
          have h0 := renc_yes op HO.out _ _ _ _ _ _ (Is.immO_wd (Is.fm op) HX.out) hm w
          change Calls _ _ _ _ fun e w' => e = .returned (.int .u32 (Is.wordX op x)) ∧ _ at h0
          rw [hk] at h0
          exact h0))
        have HQ := Lib.hid (show inst op (Is.rdO (Is.fm op) x) (Is.rs1O (Is.fm op) x) (Is.rs2O (Is.fm op) x) (Is.immO (Is.fm op) x) (Is.aqO (Is.fm op) x) (Is.rlO (Is.fm op) x) = .agg #[.int .i64 (op : Int), .int .i64 (x / 128 % 32), .int .i64 (x / 32768 % 32), .int .i64 0, .int .u32 (x / 1048576 % 32), .bool false, .bool false] by rw [hk]; rfl)
        clear hk
        go_wp2_with (first
          | (go_at_call 57; refine (rform_yes op HO.out _).mono ?_; rw [HF.out]; rintro e w' ⟨rfl, rfl⟩)
          | (go_at_call 60; with_reducible refine (rpow_lit 20 1048576 (by omega) rfl _).mono ?_; rintro e w' ⟨rfl, rfl⟩)
          | (go_at_call 60; with_reducible refine (rpow_lit 12 4096 (by omega) rfl _).mono ?_; rintro e w' ⟨rfl, rfl⟩)
          | (go_at_call 60; with_reducible refine (rpow_lit 11 2048 (by omega) rfl _).mono ?_; rintro e w' ⟨rfl, rfl⟩)
          | (go_at_call 58; with_reducible refine (rbits_lit x 11 7 _ HX.out (by omega) (by omega) (by omega) (Is.bt_11_7 x) _).mono ?_; rintro e w' ⟨rfl, rfl⟩)
          | (go_at_call 58; with_reducible refine (rbits_lit x 19 15 _ HX.out (by omega) (by omega) (by omega) (Is.bt_19_15 x) _).mono ?_; rintro e w' ⟨rfl, rfl⟩)
          | (go_at_call 58; with_reducible refine (rbits_lit x 24 20 _ HX.out (by omega) (by omega) (by omega) (Is.bt_24_20 x) _).mono ?_; rintro e w' ⟨rfl, rfl⟩)
          | (go_at_call 58; with_reducible refine (rbits_lit x 31 31 _ HX.out (by omega) (by omega) (by omega) (Is.bt_31_31 x) _).mono ?_; rintro e w' ⟨rfl, rfl⟩)
          | (go_at_call 58; with_reducible refine (rbits_lit x 19 12 _ HX.out (by omega) (by omega) (by omega) (Is.bt_19_12 x) _).mono ?_; rintro e w' ⟨rfl, rfl⟩)
          | (go_at_call 58; with_reducible refine (rbits_lit x 20 20 _ HX.out (by omega) (by omega) (by omega) (Is.bt_20_20 x) _).mono ?_; rintro e w' ⟨rfl, rfl⟩)
          | (go_at_call 58; with_reducible refine (rbits_lit x 30 21 _ HX.out (by omega) (by omega) (by omega) (Is.bt_30_21 x) _).mono ?_; rintro e w' ⟨rfl, rfl⟩)
          | (go_at_call 58; with_reducible refine (rbits_lit x 7 7 _ HX.out (by omega) (by omega) (by omega) (Is.bt_7_7 x) _).mono ?_; rintro e w' ⟨rfl, rfl⟩)
          | (go_at_call 58; with_reducible refine (rbits_lit x 30 25 _ HX.out (by omega) (by omega) (by omega) (Is.bt_30_25 x) _).mono ?_; rintro e w' ⟨rfl, rfl⟩)
          | (go_at_call 58; with_reducible refine (rbits_lit x 11 8 _ HX.out (by omega) (by omega) (by omega) (Is.bt_11_8 x) _).mono ?_; rintro e w' ⟨rfl, rfl⟩)
          | (go_at_call 58; with_reducible refine (rbits_lit x 31 25 _ HX.out (by omega) (by omega) (by omega) (Is.bt_31_25 x) _).mono ?_; rintro e w' ⟨rfl, rfl⟩)
          | (go_at_call 58; with_reducible refine (rbits_lit x 31 20 _ HX.out (by omega) (by omega) (by omega) (Is.bt_31_20 x) _).mono ?_; rintro e w' ⟨rfl, rfl⟩)
          | (go_at_call 58; with_reducible refine (rbits_lit x 27 20 _ HX.out (by omega) (by omega) (by omega) (Is.bt_27_20 x) _).mono ?_; rintro e w' ⟨rfl, rfl⟩)
          | (go_at_call 58; with_reducible refine (rbits_lit x 26 26 _ HX.out (by omega) (by omega) (by omega) (Is.bt_26_26 x) _).mono ?_; rintro e w' ⟨rfl, rfl⟩)
          | (go_at_call 58; with_reducible refine (rbits_lit x 25 25 _ HX.out (by omega) (by omega) (by omega) (Is.bt_25_25 x) _).mono ?_; rintro e w' ⟨rfl, rfl⟩)
          | (go_at_call 59; with_reducible refine (rsign_jumpImm x HX.out _).mono ?_; rintro e w' ⟨rfl, rfl⟩)
          | (go_at_call 59; with_reducible refine (rsign_branchImm x HX.out _).mono ?_; rintro e w' ⟨rfl, rfl⟩)
          | (go_at_call 59; with_reducible refine (rsign_storeImm x HX.out _).mono ?_; rintro e w' ⟨rfl, rfl⟩)
          | (go_at_call 59; with_reducible refine (rsign_shortImm x HX.out _).mono ?_; rintro e w' ⟨rfl, rfl⟩))
        refine (HM.out _).mono ?_
        rintro e wa ⟨rfl, hba⟩
        have hc0 : wa.cell? ⟨wr.heap.size, 0, none⟩ = some (.int .i64 (op : Int)) := (hba.cell (p := ⟨wr.heap.size, 0, none⟩) (by simp)).trans (by go_simp)
        have hc1 : wa.cell? ⟨wr.heap.size, 1, none⟩ = some (.int .i64 (x / 128 % 32)) := (hba.cell (p := ⟨wr.heap.size, 1, none⟩) (by simp)).trans (by go_simp)
        have hc2 : wa.cell? ⟨wr.heap.size, 2, none⟩ = some (.int .i64 (x / 32768 % 32)) := (hba.cell (p := ⟨wr.heap.size, 2, none⟩) (by simp)).trans (by go_simp)
        have hc3 : wa.cell? ⟨wr.heap.size, 3, none⟩ = some (.int .i64 0) := (hba.cell (p := ⟨wr.heap.size, 3, none⟩) (by simp)).trans (by go_simp)
        have hc4 : wa.cell? ⟨wr.heap.size, 4, none⟩ = some (.int .u32 (x / 1048576 % 32)) := (hba.cell (p := ⟨wr.heap.size, 4, none⟩) (by simp)).trans (by go_simp)
        have hc5 : wa.cell? ⟨wr.heap.size, 5, none⟩ = some (.bool false) := (hba.cell (p := ⟨wr.heap.size, 5, none⟩) (by simp)).trans (by go_simp)
        have hc6 : wa.cell? ⟨wr.heap.size, 6, none⟩ = some (.bool false) := (hba.cell (p := ⟨wr.heap.size, 6, none⟩) (by simp)).trans (by go_simp)
        have HBA := Lib.hid (((Below.refl _ wr).alloc (Nat.le_refl _) _).trans (hba.mono (by simp)))
        have HZA := Lib.hid (show wr.heap.size < wa.heap.size by have := hba.size; simp at this; omega)
        clear hba
        go_wp2_with fail
        refine (HE.out _).mono ?_
        rintro e wb ⟨rfl, hbb⟩
        have hd0 : wb.cell? ⟨wr.heap.size, 0, none⟩ = some (.int .i64 (op : Int)) := (hbb.cell (p := ⟨wr.heap.size, 0, none⟩) HZA.out).trans hc0
        have hd1 : wb.cell? ⟨wr.heap.size, 1, none⟩ = some (.int .i64 (x / 128 % 32)) := (hbb.cell (p := ⟨wr.heap.size, 1, none⟩) HZA.out).trans hc1
        have hd2 : wb.cell? ⟨wr.heap.size, 2, none⟩ = some (.int .i64 (x / 32768 % 32)) := (hbb.cell (p := ⟨wr.heap.size, 2, none⟩) HZA.out).trans hc2
        have hd3 : wb.cell? ⟨wr.heap.size, 3, none⟩ = some (.int .i64 0) := (hbb.cell (p := ⟨wr.heap.size, 3, none⟩) HZA.out).trans hc3
        have hd4 : wb.cell? ⟨wr.heap.size, 4, none⟩ = some (.int .u32 (x / 1048576 % 32)) := (hbb.cell (p := ⟨wr.heap.size, 4, none⟩) HZA.out).trans hc4
        have hd5 : wb.cell? ⟨wr.heap.size, 5, none⟩ = some (.bool false) := (hbb.cell (p := ⟨wr.heap.size, 5, none⟩) HZA.out).trans hc5
        have hd6 : wb.cell? ⟨wr.heap.size, 6, none⟩ = some (.bool false) := (hbb.cell (p := ⟨wr.heap.size, 6, none⟩) HZA.out).trans hc6
        clear hc0 hc1 hc2 hc3 hc4 hc5 hc6
        have hr0 : wb.cell? ⟨w.heap.size, 0, none⟩ = some (.int .i64 0) := (hbb.cell (p := ⟨w.heap.size, 0, none⟩) (by have := HZA.out; have := HRES.out.lt; show w.heap.size < _; omega)).trans ((HBA.out.cell (p := ⟨w.heap.size, 0, none⟩) HRES.out.lt).trans (by rw [cell_of_row wr _ 0 _ _ _ HRES.out]; rfl))
        have hf0 : wb.frozen? ⟨w.heap.size, 0, none⟩ = false := (hbb.frozen (p := ⟨w.heap.size, 0, none⟩) (by have := HZA.out; have := HRES.out.lt; show w.heap.size < _; omega)).trans ((HBA.out.frozen (p := ⟨w.heap.size, 0, none⟩) HRES.out.lt).trans (frozen_of_row wr _ 0 _ _ HRES.out))
        have hr1 : wb.cell? ⟨w.heap.size, 1, none⟩ = some (.int .i64 0) := (hbb.cell (p := ⟨w.heap.size, 1, none⟩) (by have := HZA.out; have := HRES.out.lt; show w.heap.size < _; omega)).trans ((HBA.out.cell (p := ⟨w.heap.size, 1, none⟩) HRES.out.lt).trans (by rw [cell_of_row wr _ 1 _ _ _ HRES.out]; rfl))
        have hf1 : wb.frozen? ⟨w.heap.size, 1, none⟩ = false := (hbb.frozen (p := ⟨w.heap.size, 1, none⟩) (by have := HZA.out; have := HRES.out.lt; show w.heap.size < _; omega)).trans ((HBA.out.frozen (p := ⟨w.heap.size, 1, none⟩) HRES.out.lt).trans (frozen_of_row wr _ 1 _ _ HRES.out))
        have hr2 : wb.cell? ⟨w.heap.size, 2, none⟩ = some (.int .i64 0) := (hbb.cell (p := ⟨w.heap.size, 2, none⟩) (by have := HZA.out; have := HRES.out.lt; show w.heap.size < _; omega)).trans ((HBA.out.cell (p := ⟨w.heap.size, 2, none⟩) HRES.out.lt).trans (by rw [cell_of_row wr _ 2 _ _ _ HRES.out]; rfl))
        have hf2 : wb.frozen? ⟨w.heap.size, 2, none⟩ = false := (hbb.frozen (p := ⟨w.heap.size, 2, none⟩) (by have := HZA.out; have := HRES.out.lt; show w.heap.size < _; omega)).trans ((HBA.out.frozen (p := ⟨w.heap.size, 2, none⟩) HRES.out.lt).trans (frozen_of_row wr _ 2 _ _ HRES.out))
        have hr3 : wb.cell? ⟨w.heap.size, 3, none⟩ = some (.int .i64 0) := (hbb.cell (p := ⟨w.heap.size, 3, none⟩) (by have := HZA.out; have := HRES.out.lt; show w.heap.size < _; omega)).trans ((HBA.out.cell (p := ⟨w.heap.size, 3, none⟩) HRES.out.lt).trans (by rw [cell_of_row wr _ 3 _ _ _ HRES.out]; rfl))
        have hf3 : wb.frozen? ⟨w.heap.size, 3, none⟩ = false := (hbb.frozen (p := ⟨w.heap.size, 3, none⟩) (by have := HZA.out; have := HRES.out.lt; show w.heap.size < _; omega)).trans ((HBA.out.frozen (p := ⟨w.heap.size, 3, none⟩) HRES.out.lt).trans (frozen_of_row wr _ 3 _ _ HRES.out))
        have hr4 : wb.cell? ⟨w.heap.size, 4, none⟩ = some (.int .u32 0) := (hbb.cell (p := ⟨w.heap.size, 4, none⟩) (by have := HZA.out; have := HRES.out.lt; show w.heap.size < _; omega)).trans ((HBA.out.cell (p := ⟨w.heap.size, 4, none⟩) HRES.out.lt).trans (by rw [cell_of_row wr _ 4 _ _ _ HRES.out]; rfl))
        have hf4 : wb.frozen? ⟨w.heap.size, 4, none⟩ = false := (hbb.frozen (p := ⟨w.heap.size, 4, none⟩) (by have := HZA.out; have := HRES.out.lt; show w.heap.size < _; omega)).trans ((HBA.out.frozen (p := ⟨w.heap.size, 4, none⟩) HRES.out.lt).trans (frozen_of_row wr _ 4 _ _ HRES.out))
        have hr5 : wb.cell? ⟨w.heap.size, 5, none⟩ = some (.bool false) := (hbb.cell (p := ⟨w.heap.size, 5, none⟩) (by have := HZA.out; have := HRES.out.lt; show w.heap.size < _; omega)).trans ((HBA.out.cell (p := ⟨w.heap.size, 5, none⟩) HRES.out.lt).trans (by rw [cell_of_row wr _ 5 _ _ _ HRES.out]; rfl))
        have hf5 : wb.frozen? ⟨w.heap.size, 5, none⟩ = false := (hbb.frozen (p := ⟨w.heap.size, 5, none⟩) (by have := HZA.out; have := HRES.out.lt; show w.heap.size < _; omega)).trans ((HBA.out.frozen (p := ⟨w.heap.size, 5, none⟩) HRES.out.lt).trans (frozen_of_row wr _ 5 _ _ HRES.out))
        have hr6 : wb.cell? ⟨w.heap.size, 6, none⟩ = some (.bool false) := (hbb.cell (p := ⟨w.heap.size, 6, none⟩) (by have := HZA.out; have := HRES.out.lt; show w.heap.size < _; omega)).trans ((HBA.out.cell (p := ⟨w.heap.size, 6, none⟩) HRES.out.lt).trans (by rw [cell_of_row wr _ 6 _ _ _ HRES.out]; rfl))
        have hf6 : wb.frozen? ⟨w.heap.size, 6, none⟩ = false := (hbb.frozen (p := ⟨w.heap.size, 6, none⟩) (by have := HZA.out; have := HRES.out.lt; show w.heap.size < _; omega)).trans ((HBA.out.frozen (p := ⟨w.heap.size, 6, none⟩) HRES.out.lt).trans (frozen_of_row wr _ 6 _ _ HRES.out))
        have HBB := Lib.hid (HBA.out.trans (hbb.mono (by have := HZA.out; omega)))
        clear hbb
        by_cases hh : Is.wordX op x = x
        · have HH := Lib.hid (Is.hit_of_word HO.out HX.out hh)
          have t1 : (Is.wordX op x == x) = true := by rw [hh]; exact beq_self_eq_true _
          clear hh
          go_wp2_with fail
          rw [← HQ.out]
          refine bodyPost_ret (v := .tuple #[inst op (Is.rdO (Is.fm op) x) (Is.rs1O (Is.fm op) x) (Is.rs2O (Is.fm op) x) (Is.immO (Is.fm op) x) (Is.aqO (Is.fm op) x) (Is.rlO (Is.fm op) x), .bool true]) (by rw [HQ.out]; simp [results, Tryz.results34, go_sem, hr0, hr1, hr2, hr3, hr4, hr5, hr6]) rfl ⟨.inl ⟨op, HO.out, HH.out, rfl⟩, ?_⟩
          exact below_seven0 (HBW.out.trans (HBB.out.mono HBW.out.size)) (Nat.le_refl _)
        · have HH := Lib.hid (fun h1 : Is.hit (Is.fm op) x op => hh (Is.word_of_hit HO.out HX.out h1))
          have t1 : (Is.wordX op x == x) = false := beq_eq_false_iff_ne.2 hh
          clear hh
          go_wp2_with fail
          go_roundw
          case rel => exact ⟨op + 1, by omega, by go_num, fun q hq => by
            rcases (show (1 ≤ q ∧ q < op) ∨ q = op by omega) with h1 | h1
            · exact HNO.out q h1
            · rw [h1]; exact HH.out, HRES.out.below HBB.out, HBW.out.trans (HBB.out.mono HBW.out.size)⟩
          case measure => simp [intOf]; omega
      · have HF := Lib.hid (show Is.fb (Is.fm op) = 98 by rw [hk]; rfl)
        have HM := Lib.hid (fun w => (show Calls Tryz.prog 61 #[.agg #[.int .i64 (op : Int), .int .i64 0, .int .i64 (x / 32768 % 32), .int .i64 (x / 1048576 % 32), .int .u32 (Is.branchImm x), .bool false, .bool false]] w fun e w' => e = .returned (.bool true) ∧ Below w.heap.size w w' from by
          have hm := Is.may_take (Is.fm op) (Is.fm_in op HO.out) HX.out
          have h0 := rmay_yes op HO.out _ _ _ _ _ _ (Is.immO_wd (Is.fm op) HX.out) hm w
          rw [hk] at h0
          exact h0))
        have HE := Lib.hid (fun w => (show Calls Tryz.prog 62 #[.agg #[.int .i64 (op : Int), .int .i64 0, .int .i64 (x / 32768 % 32), .int .i64 (x / 1048576 % 32), .int .u32 (Is.branchImm x), .bool false, .bool false]] w fun e w' => e = .returned (.int .u32 (Is.wordX op x)) ∧ Below w.heap.size w w' from by
          have hm := Is.may_take (Is.fm op) (Is.fm_in op HO.out) HX.out
          have h0 := renc_yes op HO.out _ _ _ _ _ _ (Is.immO_wd (Is.fm op) HX.out) hm w
          change Calls _ _ _ _ fun e w' => e = .returned (.int .u32 (Is.wordX op x)) ∧ _ at h0
          rw [hk] at h0
          exact h0))
        have HQ := Lib.hid (show inst op (Is.rdO (Is.fm op) x) (Is.rs1O (Is.fm op) x) (Is.rs2O (Is.fm op) x) (Is.immO (Is.fm op) x) (Is.aqO (Is.fm op) x) (Is.rlO (Is.fm op) x) = .agg #[.int .i64 (op : Int), .int .i64 0, .int .i64 (x / 32768 % 32), .int .i64 (x / 1048576 % 32), .int .u32 (Is.branchImm x), .bool false, .bool false] by rw [hk]; rfl)
        clear hk
        go_wp2_with (first
          | (go_at_call 57; refine (rform_yes op HO.out _).mono ?_; rw [HF.out]; rintro e w' ⟨rfl, rfl⟩)
          | (go_at_call 60; with_reducible refine (rpow_lit 20 1048576 (by omega) rfl _).mono ?_; rintro e w' ⟨rfl, rfl⟩)
          | (go_at_call 60; with_reducible refine (rpow_lit 12 4096 (by omega) rfl _).mono ?_; rintro e w' ⟨rfl, rfl⟩)
          | (go_at_call 60; with_reducible refine (rpow_lit 11 2048 (by omega) rfl _).mono ?_; rintro e w' ⟨rfl, rfl⟩)
          | (go_at_call 58; with_reducible refine (rbits_lit x 11 7 _ HX.out (by omega) (by omega) (by omega) (Is.bt_11_7 x) _).mono ?_; rintro e w' ⟨rfl, rfl⟩)
          | (go_at_call 58; with_reducible refine (rbits_lit x 19 15 _ HX.out (by omega) (by omega) (by omega) (Is.bt_19_15 x) _).mono ?_; rintro e w' ⟨rfl, rfl⟩)
          | (go_at_call 58; with_reducible refine (rbits_lit x 24 20 _ HX.out (by omega) (by omega) (by omega) (Is.bt_24_20 x) _).mono ?_; rintro e w' ⟨rfl, rfl⟩)
          | (go_at_call 58; with_reducible refine (rbits_lit x 31 31 _ HX.out (by omega) (by omega) (by omega) (Is.bt_31_31 x) _).mono ?_; rintro e w' ⟨rfl, rfl⟩)
          | (go_at_call 58; with_reducible refine (rbits_lit x 19 12 _ HX.out (by omega) (by omega) (by omega) (Is.bt_19_12 x) _).mono ?_; rintro e w' ⟨rfl, rfl⟩)
          | (go_at_call 58; with_reducible refine (rbits_lit x 20 20 _ HX.out (by omega) (by omega) (by omega) (Is.bt_20_20 x) _).mono ?_; rintro e w' ⟨rfl, rfl⟩)
          | (go_at_call 58; with_reducible refine (rbits_lit x 30 21 _ HX.out (by omega) (by omega) (by omega) (Is.bt_30_21 x) _).mono ?_; rintro e w' ⟨rfl, rfl⟩)
          | (go_at_call 58; with_reducible refine (rbits_lit x 7 7 _ HX.out (by omega) (by omega) (by omega) (Is.bt_7_7 x) _).mono ?_; rintro e w' ⟨rfl, rfl⟩)
          | (go_at_call 58; with_reducible refine (rbits_lit x 30 25 _ HX.out (by omega) (by omega) (by omega) (Is.bt_30_25 x) _).mono ?_; rintro e w' ⟨rfl, rfl⟩)
          | (go_at_call 58; with_reducible refine (rbits_lit x 11 8 _ HX.out (by omega) (by omega) (by omega) (Is.bt_11_8 x) _).mono ?_; rintro e w' ⟨rfl, rfl⟩)
          | (go_at_call 58; with_reducible refine (rbits_lit x 31 25 _ HX.out (by omega) (by omega) (by omega) (Is.bt_31_25 x) _).mono ?_; rintro e w' ⟨rfl, rfl⟩)
          | (go_at_call 58; with_reducible refine (rbits_lit x 31 20 _ HX.out (by omega) (by omega) (by omega) (Is.bt_31_20 x) _).mono ?_; rintro e w' ⟨rfl, rfl⟩)
          | (go_at_call 58; with_reducible refine (rbits_lit x 27 20 _ HX.out (by omega) (by omega) (by omega) (Is.bt_27_20 x) _).mono ?_; rintro e w' ⟨rfl, rfl⟩)
          | (go_at_call 58; with_reducible refine (rbits_lit x 26 26 _ HX.out (by omega) (by omega) (by omega) (Is.bt_26_26 x) _).mono ?_; rintro e w' ⟨rfl, rfl⟩)
          | (go_at_call 58; with_reducible refine (rbits_lit x 25 25 _ HX.out (by omega) (by omega) (by omega) (Is.bt_25_25 x) _).mono ?_; rintro e w' ⟨rfl, rfl⟩)
          | (go_at_call 59; with_reducible refine (rsign_jumpImm x HX.out _).mono ?_; rintro e w' ⟨rfl, rfl⟩)
          | (go_at_call 59; with_reducible refine (rsign_branchImm x HX.out _).mono ?_; rintro e w' ⟨rfl, rfl⟩)
          | (go_at_call 59; with_reducible refine (rsign_storeImm x HX.out _).mono ?_; rintro e w' ⟨rfl, rfl⟩)
          | (go_at_call 59; with_reducible refine (rsign_shortImm x HX.out _).mono ?_; rintro e w' ⟨rfl, rfl⟩))
        refine (HM.out _).mono ?_
        rintro e wa ⟨rfl, hba⟩
        have hc0 : wa.cell? ⟨wr.heap.size, 0, none⟩ = some (.int .i64 (op : Int)) := (hba.cell (p := ⟨wr.heap.size, 0, none⟩) (by simp)).trans (by go_simp)
        have hc1 : wa.cell? ⟨wr.heap.size, 1, none⟩ = some (.int .i64 0) := (hba.cell (p := ⟨wr.heap.size, 1, none⟩) (by simp)).trans (by go_simp)
        have hc2 : wa.cell? ⟨wr.heap.size, 2, none⟩ = some (.int .i64 (x / 32768 % 32)) := (hba.cell (p := ⟨wr.heap.size, 2, none⟩) (by simp)).trans (by go_simp)
        have hc3 : wa.cell? ⟨wr.heap.size, 3, none⟩ = some (.int .i64 (x / 1048576 % 32)) := (hba.cell (p := ⟨wr.heap.size, 3, none⟩) (by simp)).trans (by go_simp)
        have hc4 : wa.cell? ⟨wr.heap.size, 4, none⟩ = some (.int .u32 (Is.branchImm x)) := (hba.cell (p := ⟨wr.heap.size, 4, none⟩) (by simp)).trans (by go_simp)
        have hc5 : wa.cell? ⟨wr.heap.size, 5, none⟩ = some (.bool false) := (hba.cell (p := ⟨wr.heap.size, 5, none⟩) (by simp)).trans (by go_simp)
        have hc6 : wa.cell? ⟨wr.heap.size, 6, none⟩ = some (.bool false) := (hba.cell (p := ⟨wr.heap.size, 6, none⟩) (by simp)).trans (by go_simp)
        have HBA := Lib.hid (((Below.refl _ wr).alloc (Nat.le_refl _) _).trans (hba.mono (by simp)))
        have HZA := Lib.hid (show wr.heap.size < wa.heap.size by have := hba.size; simp at this; omega)
        clear hba
        go_wp2_with fail
        refine (HE.out _).mono ?_
        rintro e wb ⟨rfl, hbb⟩
        have hd0 : wb.cell? ⟨wr.heap.size, 0, none⟩ = some (.int .i64 (op : Int)) := (hbb.cell (p := ⟨wr.heap.size, 0, none⟩) HZA.out).trans hc0
        have hd1 : wb.cell? ⟨wr.heap.size, 1, none⟩ = some (.int .i64 0) := (hbb.cell (p := ⟨wr.heap.size, 1, none⟩) HZA.out).trans hc1
        have hd2 : wb.cell? ⟨wr.heap.size, 2, none⟩ = some (.int .i64 (x / 32768 % 32)) := (hbb.cell (p := ⟨wr.heap.size, 2, none⟩) HZA.out).trans hc2
        have hd3 : wb.cell? ⟨wr.heap.size, 3, none⟩ = some (.int .i64 (x / 1048576 % 32)) := (hbb.cell (p := ⟨wr.heap.size, 3, none⟩) HZA.out).trans hc3
        have hd4 : wb.cell? ⟨wr.heap.size, 4, none⟩ = some (.int .u32 (Is.branchImm x)) := (hbb.cell (p := ⟨wr.heap.size, 4, none⟩) HZA.out).trans hc4
        have hd5 : wb.cell? ⟨wr.heap.size, 5, none⟩ = some (.bool false) := (hbb.cell (p := ⟨wr.heap.size, 5, none⟩) HZA.out).trans hc5
        have hd6 : wb.cell? ⟨wr.heap.size, 6, none⟩ = some (.bool false) := (hbb.cell (p := ⟨wr.heap.size, 6, none⟩) HZA.out).trans hc6
        clear hc0 hc1 hc2 hc3 hc4 hc5 hc6
        have hr0 : wb.cell? ⟨w.heap.size, 0, none⟩ = some (.int .i64 0) := (hbb.cell (p := ⟨w.heap.size, 0, none⟩) (by have := HZA.out; have := HRES.out.lt; show w.heap.size < _; omega)).trans ((HBA.out.cell (p := ⟨w.heap.size, 0, none⟩) HRES.out.lt).trans (by rw [cell_of_row wr _ 0 _ _ _ HRES.out]; rfl))
        have hf0 : wb.frozen? ⟨w.heap.size, 0, none⟩ = false := (hbb.frozen (p := ⟨w.heap.size, 0, none⟩) (by have := HZA.out; have := HRES.out.lt; show w.heap.size < _; omega)).trans ((HBA.out.frozen (p := ⟨w.heap.size, 0, none⟩) HRES.out.lt).trans (frozen_of_row wr _ 0 _ _ HRES.out))
        have hr1 : wb.cell? ⟨w.heap.size, 1, none⟩ = some (.int .i64 0) := (hbb.cell (p := ⟨w.heap.size, 1, none⟩) (by have := HZA.out; have := HRES.out.lt; show w.heap.size < _; omega)).trans ((HBA.out.cell (p := ⟨w.heap.size, 1, none⟩) HRES.out.lt).trans (by rw [cell_of_row wr _ 1 _ _ _ HRES.out]; rfl))
        have hf1 : wb.frozen? ⟨w.heap.size, 1, none⟩ = false := (hbb.frozen (p := ⟨w.heap.size, 1, none⟩) (by have := HZA.out; have := HRES.out.lt; show w.heap.size < _; omega)).trans ((HBA.out.frozen (p := ⟨w.heap.size, 1, none⟩) HRES.out.lt).trans (frozen_of_row wr _ 1 _ _ HRES.out))
        have hr2 : wb.cell? ⟨w.heap.size, 2, none⟩ = some (.int .i64 0) := (hbb.cell (p := ⟨w.heap.size, 2, none⟩) (by have := HZA.out; have := HRES.out.lt; show w.heap.size < _; omega)).trans ((HBA.out.cell (p := ⟨w.heap.size, 2, none⟩) HRES.out.lt).trans (by rw [cell_of_row wr _ 2 _ _ _ HRES.out]; rfl))
        have hf2 : wb.frozen? ⟨w.heap.size, 2, none⟩ = false := (hbb.frozen (p := ⟨w.heap.size, 2, none⟩) (by have := HZA.out; have := HRES.out.lt; show w.heap.size < _; omega)).trans ((HBA.out.frozen (p := ⟨w.heap.size, 2, none⟩) HRES.out.lt).trans (frozen_of_row wr _ 2 _ _ HRES.out))
        have hr3 : wb.cell? ⟨w.heap.size, 3, none⟩ = some (.int .i64 0) := (hbb.cell (p := ⟨w.heap.size, 3, none⟩) (by have := HZA.out; have := HRES.out.lt; show w.heap.size < _; omega)).trans ((HBA.out.cell (p := ⟨w.heap.size, 3, none⟩) HRES.out.lt).trans (by rw [cell_of_row wr _ 3 _ _ _ HRES.out]; rfl))
        have hf3 : wb.frozen? ⟨w.heap.size, 3, none⟩ = false := (hbb.frozen (p := ⟨w.heap.size, 3, none⟩) (by have := HZA.out; have := HRES.out.lt; show w.heap.size < _; omega)).trans ((HBA.out.frozen (p := ⟨w.heap.size, 3, none⟩) HRES.out.lt).trans (frozen_of_row wr _ 3 _ _ HRES.out))
        have hr4 : wb.cell? ⟨w.heap.size, 4, none⟩ = some (.int .u32 0) := (hbb.cell (p := ⟨w.heap.size, 4, none⟩) (by have := HZA.out; have := HRES.out.lt; show w.heap.size < _; omega)).trans ((HBA.out.cell (p := ⟨w.heap.size, 4, none⟩) HRES.out.lt).trans (by rw [cell_of_row wr _ 4 _ _ _ HRES.out]; rfl))
        have hf4 : wb.frozen? ⟨w.heap.size, 4, none⟩ = false := (hbb.frozen (p := ⟨w.heap.size, 4, none⟩) (by have := HZA.out; have := HRES.out.lt; show w.heap.size < _; omega)).trans ((HBA.out.frozen (p := ⟨w.heap.size, 4, none⟩) HRES.out.lt).trans (frozen_of_row wr _ 4 _ _ HRES.out))
        have hr5 : wb.cell? ⟨w.heap.size, 5, none⟩ = some (.bool false) := (hbb.cell (p := ⟨w.heap.size, 5, none⟩) (by have := HZA.out; have := HRES.out.lt; show w.heap.size < _; omega)).trans ((HBA.out.cell (p := ⟨w.heap.size, 5, none⟩) HRES.out.lt).trans (by rw [cell_of_row wr _ 5 _ _ _ HRES.out]; rfl))
        have hf5 : wb.frozen? ⟨w.heap.size, 5, none⟩ = false := (hbb.frozen (p := ⟨w.heap.size, 5, none⟩) (by have := HZA.out; have := HRES.out.lt; show w.heap.size < _; omega)).trans ((HBA.out.frozen (p := ⟨w.heap.size, 5, none⟩) HRES.out.lt).trans (frozen_of_row wr _ 5 _ _ HRES.out))
        have hr6 : wb.cell? ⟨w.heap.size, 6, none⟩ = some (.bool false) := (hbb.cell (p := ⟨w.heap.size, 6, none⟩) (by have := HZA.out; have := HRES.out.lt; show w.heap.size < _; omega)).trans ((HBA.out.cell (p := ⟨w.heap.size, 6, none⟩) HRES.out.lt).trans (by rw [cell_of_row wr _ 6 _ _ _ HRES.out]; rfl))
        have hf6 : wb.frozen? ⟨w.heap.size, 6, none⟩ = false := (hbb.frozen (p := ⟨w.heap.size, 6, none⟩) (by have := HZA.out; have := HRES.out.lt; show w.heap.size < _; omega)).trans ((HBA.out.frozen (p := ⟨w.heap.size, 6, none⟩) HRES.out.lt).trans (frozen_of_row wr _ 6 _ _ HRES.out))
        have HBB := Lib.hid (HBA.out.trans (hbb.mono (by have := HZA.out; omega)))
        clear hbb
        by_cases hh : Is.wordX op x = x
        · have HH := Lib.hid (Is.hit_of_word HO.out HX.out hh)
          have t1 : (Is.wordX op x == x) = true := by rw [hh]; exact beq_self_eq_true _
          clear hh
          go_wp2_with fail
          rw [← HQ.out]
          refine bodyPost_ret (v := .tuple #[inst op (Is.rdO (Is.fm op) x) (Is.rs1O (Is.fm op) x) (Is.rs2O (Is.fm op) x) (Is.immO (Is.fm op) x) (Is.aqO (Is.fm op) x) (Is.rlO (Is.fm op) x), .bool true]) (by rw [HQ.out]; simp [results, Tryz.results34, go_sem, hr0, hr1, hr2, hr3, hr4, hr5, hr6]) rfl ⟨.inl ⟨op, HO.out, HH.out, rfl⟩, ?_⟩
          exact below_seven0 (HBW.out.trans (HBB.out.mono HBW.out.size)) (Nat.le_refl _)
        · have HH := Lib.hid (fun h1 : Is.hit (Is.fm op) x op => hh (Is.word_of_hit HO.out HX.out h1))
          have t1 : (Is.wordX op x == x) = false := beq_eq_false_iff_ne.2 hh
          clear hh
          go_wp2_with fail
          go_roundw
          case rel => exact ⟨op + 1, by omega, by go_num, fun q hq => by
            rcases (show (1 ≤ q ∧ q < op) ∨ q = op by omega) with h1 | h1
            · exact HNO.out q h1
            · rw [h1]; exact HH.out, HRES.out.below HBB.out, HBW.out.trans (HBB.out.mono HBW.out.size)⟩
          case measure => simp [intOf]; omega
      · have HF := Lib.hid (show Is.fb (Is.fm op) = 115 by rw [hk]; rfl)
        have HM := Lib.hid (fun w => (show Calls Tryz.prog 61 #[.agg #[.int .i64 (op : Int), .int .i64 0, .int .i64 (x / 32768 % 32), .int .i64 (x / 1048576 % 32), .int .u32 (Is.storeImm x), .bool false, .bool false]] w fun e w' => e = .returned (.bool true) ∧ Below w.heap.size w w' from by
          have hm := Is.may_take (Is.fm op) (Is.fm_in op HO.out) HX.out
          have h0 := rmay_yes op HO.out _ _ _ _ _ _ (Is.immO_wd (Is.fm op) HX.out) hm w
          rw [hk] at h0
          exact h0))
        have HE := Lib.hid (fun w => (show Calls Tryz.prog 62 #[.agg #[.int .i64 (op : Int), .int .i64 0, .int .i64 (x / 32768 % 32), .int .i64 (x / 1048576 % 32), .int .u32 (Is.storeImm x), .bool false, .bool false]] w fun e w' => e = .returned (.int .u32 (Is.wordX op x)) ∧ Below w.heap.size w w' from by
          have hm := Is.may_take (Is.fm op) (Is.fm_in op HO.out) HX.out
          have h0 := renc_yes op HO.out _ _ _ _ _ _ (Is.immO_wd (Is.fm op) HX.out) hm w
          change Calls _ _ _ _ fun e w' => e = .returned (.int .u32 (Is.wordX op x)) ∧ _ at h0
          rw [hk] at h0
          exact h0))
        have HQ := Lib.hid (show inst op (Is.rdO (Is.fm op) x) (Is.rs1O (Is.fm op) x) (Is.rs2O (Is.fm op) x) (Is.immO (Is.fm op) x) (Is.aqO (Is.fm op) x) (Is.rlO (Is.fm op) x) = .agg #[.int .i64 (op : Int), .int .i64 0, .int .i64 (x / 32768 % 32), .int .i64 (x / 1048576 % 32), .int .u32 (Is.storeImm x), .bool false, .bool false] by rw [hk]; rfl)
        clear hk
        go_wp2_with (first
          | (go_at_call 57; refine (rform_yes op HO.out _).mono ?_; rw [HF.out]; rintro e w' ⟨rfl, rfl⟩)
          | (go_at_call 60; with_reducible refine (rpow_lit 20 1048576 (by omega) rfl _).mono ?_; rintro e w' ⟨rfl, rfl⟩)
          | (go_at_call 60; with_reducible refine (rpow_lit 12 4096 (by omega) rfl _).mono ?_; rintro e w' ⟨rfl, rfl⟩)
          | (go_at_call 60; with_reducible refine (rpow_lit 11 2048 (by omega) rfl _).mono ?_; rintro e w' ⟨rfl, rfl⟩)
          | (go_at_call 58; with_reducible refine (rbits_lit x 11 7 _ HX.out (by omega) (by omega) (by omega) (Is.bt_11_7 x) _).mono ?_; rintro e w' ⟨rfl, rfl⟩)
          | (go_at_call 58; with_reducible refine (rbits_lit x 19 15 _ HX.out (by omega) (by omega) (by omega) (Is.bt_19_15 x) _).mono ?_; rintro e w' ⟨rfl, rfl⟩)
          | (go_at_call 58; with_reducible refine (rbits_lit x 24 20 _ HX.out (by omega) (by omega) (by omega) (Is.bt_24_20 x) _).mono ?_; rintro e w' ⟨rfl, rfl⟩)
          | (go_at_call 58; with_reducible refine (rbits_lit x 31 31 _ HX.out (by omega) (by omega) (by omega) (Is.bt_31_31 x) _).mono ?_; rintro e w' ⟨rfl, rfl⟩)
          | (go_at_call 58; with_reducible refine (rbits_lit x 19 12 _ HX.out (by omega) (by omega) (by omega) (Is.bt_19_12 x) _).mono ?_; rintro e w' ⟨rfl, rfl⟩)
          | (go_at_call 58; with_reducible refine (rbits_lit x 20 20 _ HX.out (by omega) (by omega) (by omega) (Is.bt_20_20 x) _).mono ?_; rintro e w' ⟨rfl, rfl⟩)
          | (go_at_call 58; with_reducible refine (rbits_lit x 30 21 _ HX.out (by omega) (by omega) (by omega) (Is.bt_30_21 x) _).mono ?_; rintro e w' ⟨rfl, rfl⟩)
          | (go_at_call 58; with_reducible refine (rbits_lit x 7 7 _ HX.out (by omega) (by omega) (by omega) (Is.bt_7_7 x) _).mono ?_; rintro e w' ⟨rfl, rfl⟩)
          | (go_at_call 58; with_reducible refine (rbits_lit x 30 25 _ HX.out (by omega) (by omega) (by omega) (Is.bt_30_25 x) _).mono ?_; rintro e w' ⟨rfl, rfl⟩)
          | (go_at_call 58; with_reducible refine (rbits_lit x 11 8 _ HX.out (by omega) (by omega) (by omega) (Is.bt_11_8 x) _).mono ?_; rintro e w' ⟨rfl, rfl⟩)
          | (go_at_call 58; with_reducible refine (rbits_lit x 31 25 _ HX.out (by omega) (by omega) (by omega) (Is.bt_31_25 x) _).mono ?_; rintro e w' ⟨rfl, rfl⟩)
          | (go_at_call 58; with_reducible refine (rbits_lit x 31 20 _ HX.out (by omega) (by omega) (by omega) (Is.bt_31_20 x) _).mono ?_; rintro e w' ⟨rfl, rfl⟩)
          | (go_at_call 58; with_reducible refine (rbits_lit x 27 20 _ HX.out (by omega) (by omega) (by omega) (Is.bt_27_20 x) _).mono ?_; rintro e w' ⟨rfl, rfl⟩)
          | (go_at_call 58; with_reducible refine (rbits_lit x 26 26 _ HX.out (by omega) (by omega) (by omega) (Is.bt_26_26 x) _).mono ?_; rintro e w' ⟨rfl, rfl⟩)
          | (go_at_call 58; with_reducible refine (rbits_lit x 25 25 _ HX.out (by omega) (by omega) (by omega) (Is.bt_25_25 x) _).mono ?_; rintro e w' ⟨rfl, rfl⟩)
          | (go_at_call 59; with_reducible refine (rsign_jumpImm x HX.out _).mono ?_; rintro e w' ⟨rfl, rfl⟩)
          | (go_at_call 59; with_reducible refine (rsign_branchImm x HX.out _).mono ?_; rintro e w' ⟨rfl, rfl⟩)
          | (go_at_call 59; with_reducible refine (rsign_storeImm x HX.out _).mono ?_; rintro e w' ⟨rfl, rfl⟩)
          | (go_at_call 59; with_reducible refine (rsign_shortImm x HX.out _).mono ?_; rintro e w' ⟨rfl, rfl⟩))
        refine (HM.out _).mono ?_
        rintro e wa ⟨rfl, hba⟩
        have hc0 : wa.cell? ⟨wr.heap.size, 0, none⟩ = some (.int .i64 (op : Int)) := (hba.cell (p := ⟨wr.heap.size, 0, none⟩) (by simp)).trans (by go_simp)
        have hc1 : wa.cell? ⟨wr.heap.size, 1, none⟩ = some (.int .i64 0) := (hba.cell (p := ⟨wr.heap.size, 1, none⟩) (by simp)).trans (by go_simp)
        have hc2 : wa.cell? ⟨wr.heap.size, 2, none⟩ = some (.int .i64 (x / 32768 % 32)) := (hba.cell (p := ⟨wr.heap.size, 2, none⟩) (by simp)).trans (by go_simp)
        have hc3 : wa.cell? ⟨wr.heap.size, 3, none⟩ = some (.int .i64 (x / 1048576 % 32)) := (hba.cell (p := ⟨wr.heap.size, 3, none⟩) (by simp)).trans (by go_simp)
        have hc4 : wa.cell? ⟨wr.heap.size, 4, none⟩ = some (.int .u32 (Is.storeImm x)) := (hba.cell (p := ⟨wr.heap.size, 4, none⟩) (by simp)).trans (by go_simp)
        have hc5 : wa.cell? ⟨wr.heap.size, 5, none⟩ = some (.bool false) := (hba.cell (p := ⟨wr.heap.size, 5, none⟩) (by simp)).trans (by go_simp)
        have hc6 : wa.cell? ⟨wr.heap.size, 6, none⟩ = some (.bool false) := (hba.cell (p := ⟨wr.heap.size, 6, none⟩) (by simp)).trans (by go_simp)
        have HBA := Lib.hid (((Below.refl _ wr).alloc (Nat.le_refl _) _).trans (hba.mono (by simp)))
        have HZA := Lib.hid (show wr.heap.size < wa.heap.size by have := hba.size; simp at this; omega)
        clear hba
        go_wp2_with fail
        refine (HE.out _).mono ?_
        rintro e wb ⟨rfl, hbb⟩
        have hd0 : wb.cell? ⟨wr.heap.size, 0, none⟩ = some (.int .i64 (op : Int)) := (hbb.cell (p := ⟨wr.heap.size, 0, none⟩) HZA.out).trans hc0
        have hd1 : wb.cell? ⟨wr.heap.size, 1, none⟩ = some (.int .i64 0) := (hbb.cell (p := ⟨wr.heap.size, 1, none⟩) HZA.out).trans hc1
        have hd2 : wb.cell? ⟨wr.heap.size, 2, none⟩ = some (.int .i64 (x / 32768 % 32)) := (hbb.cell (p := ⟨wr.heap.size, 2, none⟩) HZA.out).trans hc2
        have hd3 : wb.cell? ⟨wr.heap.size, 3, none⟩ = some (.int .i64 (x / 1048576 % 32)) := (hbb.cell (p := ⟨wr.heap.size, 3, none⟩) HZA.out).trans hc3
        have hd4 : wb.cell? ⟨wr.heap.size, 4, none⟩ = some (.int .u32 (Is.storeImm x)) := (hbb.cell (p := ⟨wr.heap.size, 4, none⟩) HZA.out).trans hc4
        have hd5 : wb.cell? ⟨wr.heap.size, 5, none⟩ = some (.bool false) := (hbb.cell (p := ⟨wr.heap.size, 5, none⟩) HZA.out).trans hc5
        have hd6 : wb.cell? ⟨wr.heap.size, 6, none⟩ = some (.bool false) := (hbb.cell (p := ⟨wr.heap.size, 6, none⟩) HZA.out).trans hc6
        clear hc0 hc1 hc2 hc3 hc4 hc5 hc6
        have hr0 : wb.cell? ⟨w.heap.size, 0, none⟩ = some (.int .i64 0) := (hbb.cell (p := ⟨w.heap.size, 0, none⟩) (by have := HZA.out; have := HRES.out.lt; show w.heap.size < _; omega)).trans ((HBA.out.cell (p := ⟨w.heap.size, 0, none⟩) HRES.out.lt).trans (by rw [cell_of_row wr _ 0 _ _ _ HRES.out]; rfl))
        have hf0 : wb.frozen? ⟨w.heap.size, 0, none⟩ = false := (hbb.frozen (p := ⟨w.heap.size, 0, none⟩) (by have := HZA.out; have := HRES.out.lt; show w.heap.size < _; omega)).trans ((HBA.out.frozen (p := ⟨w.heap.size, 0, none⟩) HRES.out.lt).trans (frozen_of_row wr _ 0 _ _ HRES.out))
        have hr1 : wb.cell? ⟨w.heap.size, 1, none⟩ = some (.int .i64 0) := (hbb.cell (p := ⟨w.heap.size, 1, none⟩) (by have := HZA.out; have := HRES.out.lt; show w.heap.size < _; omega)).trans ((HBA.out.cell (p := ⟨w.heap.size, 1, none⟩) HRES.out.lt).trans (by rw [cell_of_row wr _ 1 _ _ _ HRES.out]; rfl))
        have hf1 : wb.frozen? ⟨w.heap.size, 1, none⟩ = false := (hbb.frozen (p := ⟨w.heap.size, 1, none⟩) (by have := HZA.out; have := HRES.out.lt; show w.heap.size < _; omega)).trans ((HBA.out.frozen (p := ⟨w.heap.size, 1, none⟩) HRES.out.lt).trans (frozen_of_row wr _ 1 _ _ HRES.out))
        have hr2 : wb.cell? ⟨w.heap.size, 2, none⟩ = some (.int .i64 0) := (hbb.cell (p := ⟨w.heap.size, 2, none⟩) (by have := HZA.out; have := HRES.out.lt; show w.heap.size < _; omega)).trans ((HBA.out.cell (p := ⟨w.heap.size, 2, none⟩) HRES.out.lt).trans (by rw [cell_of_row wr _ 2 _ _ _ HRES.out]; rfl))
        have hf2 : wb.frozen? ⟨w.heap.size, 2, none⟩ = false := (hbb.frozen (p := ⟨w.heap.size, 2, none⟩) (by have := HZA.out; have := HRES.out.lt; show w.heap.size < _; omega)).trans ((HBA.out.frozen (p := ⟨w.heap.size, 2, none⟩) HRES.out.lt).trans (frozen_of_row wr _ 2 _ _ HRES.out))
        have hr3 : wb.cell? ⟨w.heap.size, 3, none⟩ = some (.int .i64 0) := (hbb.cell (p := ⟨w.heap.size, 3, none⟩) (by have := HZA.out; have := HRES.out.lt; show w.heap.size < _; omega)).trans ((HBA.out.cell (p := ⟨w.heap.size, 3, none⟩) HRES.out.lt).trans (by rw [cell_of_row wr _ 3 _ _ _ HRES.out]; rfl))
        have hf3 : wb.frozen? ⟨w.heap.size, 3, none⟩ = false := (hbb.frozen (p := ⟨w.heap.size, 3, none⟩) (by have := HZA.out; have := HRES.out.lt; show w.heap.size < _; omega)).trans ((HBA.out.frozen (p := ⟨w.heap.size, 3, none⟩) HRES.out.lt).trans (frozen_of_row wr _ 3 _ _ HRES.out))
        have hr4 : wb.cell? ⟨w.heap.size, 4, none⟩ = some (.int .u32 0) := (hbb.cell (p := ⟨w.heap.size, 4, none⟩) (by have := HZA.out; have := HRES.out.lt; show w.heap.size < _; omega)).trans ((HBA.out.cell (p := ⟨w.heap.size, 4, none⟩) HRES.out.lt).trans (by rw [cell_of_row wr _ 4 _ _ _ HRES.out]; rfl))
        have hf4 : wb.frozen? ⟨w.heap.size, 4, none⟩ = false := (hbb.frozen (p := ⟨w.heap.size, 4, none⟩) (by have := HZA.out; have := HRES.out.lt; show w.heap.size < _; omega)).trans ((HBA.out.frozen (p := ⟨w.heap.size, 4, none⟩) HRES.out.lt).trans (frozen_of_row wr _ 4 _ _ HRES.out))
        have hr5 : wb.cell? ⟨w.heap.size, 5, none⟩ = some (.bool false) := (hbb.cell (p := ⟨w.heap.size, 5, none⟩) (by have := HZA.out; have := HRES.out.lt; show w.heap.size < _; omega)).trans ((HBA.out.cell (p := ⟨w.heap.size, 5, none⟩) HRES.out.lt).trans (by rw [cell_of_row wr _ 5 _ _ _ HRES.out]; rfl))
        have hf5 : wb.frozen? ⟨w.heap.size, 5, none⟩ = false := (hbb.frozen (p := ⟨w.heap.size, 5, none⟩) (by have := HZA.out; have := HRES.out.lt; show w.heap.size < _; omega)).trans ((HBA.out.frozen (p := ⟨w.heap.size, 5, none⟩) HRES.out.lt).trans (frozen_of_row wr _ 5 _ _ HRES.out))
        have hr6 : wb.cell? ⟨w.heap.size, 6, none⟩ = some (.bool false) := (hbb.cell (p := ⟨w.heap.size, 6, none⟩) (by have := HZA.out; have := HRES.out.lt; show w.heap.size < _; omega)).trans ((HBA.out.cell (p := ⟨w.heap.size, 6, none⟩) HRES.out.lt).trans (by rw [cell_of_row wr _ 6 _ _ _ HRES.out]; rfl))
        have hf6 : wb.frozen? ⟨w.heap.size, 6, none⟩ = false := (hbb.frozen (p := ⟨w.heap.size, 6, none⟩) (by have := HZA.out; have := HRES.out.lt; show w.heap.size < _; omega)).trans ((HBA.out.frozen (p := ⟨w.heap.size, 6, none⟩) HRES.out.lt).trans (frozen_of_row wr _ 6 _ _ HRES.out))
        have HBB := Lib.hid (HBA.out.trans (hbb.mono (by have := HZA.out; omega)))
        clear hbb
        by_cases hh : Is.wordX op x = x
        · have HH := Lib.hid (Is.hit_of_word HO.out HX.out hh)
          have t1 : (Is.wordX op x == x) = true := by rw [hh]; exact beq_self_eq_true _
          clear hh
          go_wp2_with fail
          rw [← HQ.out]
          refine bodyPost_ret (v := .tuple #[inst op (Is.rdO (Is.fm op) x) (Is.rs1O (Is.fm op) x) (Is.rs2O (Is.fm op) x) (Is.immO (Is.fm op) x) (Is.aqO (Is.fm op) x) (Is.rlO (Is.fm op) x), .bool true]) (by rw [HQ.out]; simp [results, Tryz.results34, go_sem, hr0, hr1, hr2, hr3, hr4, hr5, hr6]) rfl ⟨.inl ⟨op, HO.out, HH.out, rfl⟩, ?_⟩
          exact below_seven0 (HBW.out.trans (HBB.out.mono HBW.out.size)) (Nat.le_refl _)
        · have HH := Lib.hid (fun h1 : Is.hit (Is.fm op) x op => hh (Is.word_of_hit HO.out HX.out h1))
          have t1 : (Is.wordX op x == x) = false := beq_eq_false_iff_ne.2 hh
          clear hh
          go_wp2_with fail
          go_roundw
          case rel => exact ⟨op + 1, by omega, by go_num, fun q hq => by
            rcases (show (1 ≤ q ∧ q < op) ∨ q = op by omega) with h1 | h1
            · exact HNO.out q h1
            · rw [h1]; exact HH.out, HRES.out.below HBB.out, HBW.out.trans (HBB.out.mono HBW.out.size)⟩
          case measure => simp [intOf]; omega
      · have HF := Lib.hid (show Is.fb (Is.fm op) = 114 by rw [hk]; rfl)
        have HM := Lib.hid (fun w => (show Calls Tryz.prog 61 #[.agg #[.int .i64 (op : Int), .int .i64 (x / 128 % 32), .int .i64 (x / 32768 % 32), .int .i64 (x / 1048576 % 32), .int .u32 0, .bool false, .bool false]] w fun e w' => e = .returned (.bool true) ∧ Below w.heap.size w w' from by
          have hm := Is.may_take (Is.fm op) (Is.fm_in op HO.out) HX.out
          have h0 := rmay_yes op HO.out _ _ _ _ _ _ (Is.immO_wd (Is.fm op) HX.out) hm w
          rw [hk] at h0
          exact h0))
        have HE := Lib.hid (fun w => (show Calls Tryz.prog 62 #[.agg #[.int .i64 (op : Int), .int .i64 (x / 128 % 32), .int .i64 (x / 32768 % 32), .int .i64 (x / 1048576 % 32), .int .u32 0, .bool false, .bool false]] w fun e w' => e = .returned (.int .u32 (Is.wordX op x)) ∧ Below w.heap.size w w' from by
          have hm := Is.may_take (Is.fm op) (Is.fm_in op HO.out) HX.out
          have h0 := renc_yes op HO.out _ _ _ _ _ _ (Is.immO_wd (Is.fm op) HX.out) hm w
          change Calls _ _ _ _ fun e w' => e = .returned (.int .u32 (Is.wordX op x)) ∧ _ at h0
          rw [hk] at h0
          exact h0))
        have HQ := Lib.hid (show inst op (Is.rdO (Is.fm op) x) (Is.rs1O (Is.fm op) x) (Is.rs2O (Is.fm op) x) (Is.immO (Is.fm op) x) (Is.aqO (Is.fm op) x) (Is.rlO (Is.fm op) x) = .agg #[.int .i64 (op : Int), .int .i64 (x / 128 % 32), .int .i64 (x / 32768 % 32), .int .i64 (x / 1048576 % 32), .int .u32 0, .bool false, .bool false] by rw [hk]; rfl)
        clear hk
        go_wp2_with (first
          | (go_at_call 57; refine (rform_yes op HO.out _).mono ?_; rw [HF.out]; rintro e w' ⟨rfl, rfl⟩)
          | (go_at_call 60; with_reducible refine (rpow_lit 20 1048576 (by omega) rfl _).mono ?_; rintro e w' ⟨rfl, rfl⟩)
          | (go_at_call 60; with_reducible refine (rpow_lit 12 4096 (by omega) rfl _).mono ?_; rintro e w' ⟨rfl, rfl⟩)
          | (go_at_call 60; with_reducible refine (rpow_lit 11 2048 (by omega) rfl _).mono ?_; rintro e w' ⟨rfl, rfl⟩)
          | (go_at_call 58; with_reducible refine (rbits_lit x 11 7 _ HX.out (by omega) (by omega) (by omega) (Is.bt_11_7 x) _).mono ?_; rintro e w' ⟨rfl, rfl⟩)
          | (go_at_call 58; with_reducible refine (rbits_lit x 19 15 _ HX.out (by omega) (by omega) (by omega) (Is.bt_19_15 x) _).mono ?_; rintro e w' ⟨rfl, rfl⟩)
          | (go_at_call 58; with_reducible refine (rbits_lit x 24 20 _ HX.out (by omega) (by omega) (by omega) (Is.bt_24_20 x) _).mono ?_; rintro e w' ⟨rfl, rfl⟩)
          | (go_at_call 58; with_reducible refine (rbits_lit x 31 31 _ HX.out (by omega) (by omega) (by omega) (Is.bt_31_31 x) _).mono ?_; rintro e w' ⟨rfl, rfl⟩)
          | (go_at_call 58; with_reducible refine (rbits_lit x 19 12 _ HX.out (by omega) (by omega) (by omega) (Is.bt_19_12 x) _).mono ?_; rintro e w' ⟨rfl, rfl⟩)
          | (go_at_call 58; with_reducible refine (rbits_lit x 20 20 _ HX.out (by omega) (by omega) (by omega) (Is.bt_20_20 x) _).mono ?_; rintro e w' ⟨rfl, rfl⟩)
          | (go_at_call 58; with_reducible refine (rbits_lit x 30 21 _ HX.out (by omega) (by omega) (by omega) (Is.bt_30_21 x) _).mono ?_; rintro e w' ⟨rfl, rfl⟩)
          | (go_at_call 58; with_reducible refine (rbits_lit x 7 7 _ HX.out (by omega) (by omega) (by omega) (Is.bt_7_7 x) _).mono ?_; rintro e w' ⟨rfl, rfl⟩)
          | (go_at_call 58; with_reducible refine (rbits_lit x 30 25 _ HX.out (by omega) (by omega) (by omega) (Is.bt_30_25 x) _).mono ?_; rintro e w' ⟨rfl, rfl⟩)
          | (go_at_call 58; with_reducible refine (rbits_lit x 11 8 _ HX.out (by omega) (by omega) (by omega) (Is.bt_11_8 x) _).mono ?_; rintro e w' ⟨rfl, rfl⟩)
          | (go_at_call 58; with_reducible refine (rbits_lit x 31 25 _ HX.out (by omega) (by omega) (by omega) (Is.bt_31_25 x) _).mono ?_; rintro e w' ⟨rfl, rfl⟩)
          | (go_at_call 58; with_reducible refine (rbits_lit x 31 20 _ HX.out (by omega) (by omega) (by omega) (Is.bt_31_20 x) _).mono ?_; rintro e w' ⟨rfl, rfl⟩)
          | (go_at_call 58; with_reducible refine (rbits_lit x 27 20 _ HX.out (by omega) (by omega) (by omega) (Is.bt_27_20 x) _).mono ?_; rintro e w' ⟨rfl, rfl⟩)
          | (go_at_call 58; with_reducible refine (rbits_lit x 26 26 _ HX.out (by omega) (by omega) (by omega) (Is.bt_26_26 x) _).mono ?_; rintro e w' ⟨rfl, rfl⟩)
          | (go_at_call 58; with_reducible refine (rbits_lit x 25 25 _ HX.out (by omega) (by omega) (by omega) (Is.bt_25_25 x) _).mono ?_; rintro e w' ⟨rfl, rfl⟩)
          | (go_at_call 59; with_reducible refine (rsign_jumpImm x HX.out _).mono ?_; rintro e w' ⟨rfl, rfl⟩)
          | (go_at_call 59; with_reducible refine (rsign_branchImm x HX.out _).mono ?_; rintro e w' ⟨rfl, rfl⟩)
          | (go_at_call 59; with_reducible refine (rsign_storeImm x HX.out _).mono ?_; rintro e w' ⟨rfl, rfl⟩)
          | (go_at_call 59; with_reducible refine (rsign_shortImm x HX.out _).mono ?_; rintro e w' ⟨rfl, rfl⟩))
        refine (HM.out _).mono ?_
        rintro e wa ⟨rfl, hba⟩
        have hc0 : wa.cell? ⟨wr.heap.size, 0, none⟩ = some (.int .i64 (op : Int)) := (hba.cell (p := ⟨wr.heap.size, 0, none⟩) (by simp)).trans (by go_simp)
        have hc1 : wa.cell? ⟨wr.heap.size, 1, none⟩ = some (.int .i64 (x / 128 % 32)) := (hba.cell (p := ⟨wr.heap.size, 1, none⟩) (by simp)).trans (by go_simp)
        have hc2 : wa.cell? ⟨wr.heap.size, 2, none⟩ = some (.int .i64 (x / 32768 % 32)) := (hba.cell (p := ⟨wr.heap.size, 2, none⟩) (by simp)).trans (by go_simp)
        have hc3 : wa.cell? ⟨wr.heap.size, 3, none⟩ = some (.int .i64 (x / 1048576 % 32)) := (hba.cell (p := ⟨wr.heap.size, 3, none⟩) (by simp)).trans (by go_simp)
        have hc4 : wa.cell? ⟨wr.heap.size, 4, none⟩ = some (.int .u32 0) := (hba.cell (p := ⟨wr.heap.size, 4, none⟩) (by simp)).trans (by go_simp)
        have hc5 : wa.cell? ⟨wr.heap.size, 5, none⟩ = some (.bool false) := (hba.cell (p := ⟨wr.heap.size, 5, none⟩) (by simp)).trans (by go_simp)
        have hc6 : wa.cell? ⟨wr.heap.size, 6, none⟩ = some (.bool false) := (hba.cell (p := ⟨wr.heap.size, 6, none⟩) (by simp)).trans (by go_simp)
        have HBA := Lib.hid (((Below.refl _ wr).alloc (Nat.le_refl _) _).trans (hba.mono (by simp)))
        have HZA := Lib.hid (show wr.heap.size < wa.heap.size by have := hba.size; simp at this; omega)
        clear hba
        go_wp2_with fail
        refine (HE.out _).mono ?_
        rintro e wb ⟨rfl, hbb⟩
        have hd0 : wb.cell? ⟨wr.heap.size, 0, none⟩ = some (.int .i64 (op : Int)) := (hbb.cell (p := ⟨wr.heap.size, 0, none⟩) HZA.out).trans hc0
        have hd1 : wb.cell? ⟨wr.heap.size, 1, none⟩ = some (.int .i64 (x / 128 % 32)) := (hbb.cell (p := ⟨wr.heap.size, 1, none⟩) HZA.out).trans hc1
        have hd2 : wb.cell? ⟨wr.heap.size, 2, none⟩ = some (.int .i64 (x / 32768 % 32)) := (hbb.cell (p := ⟨wr.heap.size, 2, none⟩) HZA.out).trans hc2
        have hd3 : wb.cell? ⟨wr.heap.size, 3, none⟩ = some (.int .i64 (x / 1048576 % 32)) := (hbb.cell (p := ⟨wr.heap.size, 3, none⟩) HZA.out).trans hc3
        have hd4 : wb.cell? ⟨wr.heap.size, 4, none⟩ = some (.int .u32 0) := (hbb.cell (p := ⟨wr.heap.size, 4, none⟩) HZA.out).trans hc4
        have hd5 : wb.cell? ⟨wr.heap.size, 5, none⟩ = some (.bool false) := (hbb.cell (p := ⟨wr.heap.size, 5, none⟩) HZA.out).trans hc5
        have hd6 : wb.cell? ⟨wr.heap.size, 6, none⟩ = some (.bool false) := (hbb.cell (p := ⟨wr.heap.size, 6, none⟩) HZA.out).trans hc6
        clear hc0 hc1 hc2 hc3 hc4 hc5 hc6
        have hr0 : wb.cell? ⟨w.heap.size, 0, none⟩ = some (.int .i64 0) := (hbb.cell (p := ⟨w.heap.size, 0, none⟩) (by have := HZA.out; have := HRES.out.lt; show w.heap.size < _; omega)).trans ((HBA.out.cell (p := ⟨w.heap.size, 0, none⟩) HRES.out.lt).trans (by rw [cell_of_row wr _ 0 _ _ _ HRES.out]; rfl))
        have hf0 : wb.frozen? ⟨w.heap.size, 0, none⟩ = false := (hbb.frozen (p := ⟨w.heap.size, 0, none⟩) (by have := HZA.out; have := HRES.out.lt; show w.heap.size < _; omega)).trans ((HBA.out.frozen (p := ⟨w.heap.size, 0, none⟩) HRES.out.lt).trans (frozen_of_row wr _ 0 _ _ HRES.out))
        have hr1 : wb.cell? ⟨w.heap.size, 1, none⟩ = some (.int .i64 0) := (hbb.cell (p := ⟨w.heap.size, 1, none⟩) (by have := HZA.out; have := HRES.out.lt; show w.heap.size < _; omega)).trans ((HBA.out.cell (p := ⟨w.heap.size, 1, none⟩) HRES.out.lt).trans (by rw [cell_of_row wr _ 1 _ _ _ HRES.out]; rfl))
        have hf1 : wb.frozen? ⟨w.heap.size, 1, none⟩ = false := (hbb.frozen (p := ⟨w.heap.size, 1, none⟩) (by have := HZA.out; have := HRES.out.lt; show w.heap.size < _; omega)).trans ((HBA.out.frozen (p := ⟨w.heap.size, 1, none⟩) HRES.out.lt).trans (frozen_of_row wr _ 1 _ _ HRES.out))
        have hr2 : wb.cell? ⟨w.heap.size, 2, none⟩ = some (.int .i64 0) := (hbb.cell (p := ⟨w.heap.size, 2, none⟩) (by have := HZA.out; have := HRES.out.lt; show w.heap.size < _; omega)).trans ((HBA.out.cell (p := ⟨w.heap.size, 2, none⟩) HRES.out.lt).trans (by rw [cell_of_row wr _ 2 _ _ _ HRES.out]; rfl))
        have hf2 : wb.frozen? ⟨w.heap.size, 2, none⟩ = false := (hbb.frozen (p := ⟨w.heap.size, 2, none⟩) (by have := HZA.out; have := HRES.out.lt; show w.heap.size < _; omega)).trans ((HBA.out.frozen (p := ⟨w.heap.size, 2, none⟩) HRES.out.lt).trans (frozen_of_row wr _ 2 _ _ HRES.out))
        have hr3 : wb.cell? ⟨w.heap.size, 3, none⟩ = some (.int .i64 0) := (hbb.cell (p := ⟨w.heap.size, 3, none⟩) (by have := HZA.out; have := HRES.out.lt; show w.heap.size < _; omega)).trans ((HBA.out.cell (p := ⟨w.heap.size, 3, none⟩) HRES.out.lt).trans (by rw [cell_of_row wr _ 3 _ _ _ HRES.out]; rfl))
        have hf3 : wb.frozen? ⟨w.heap.size, 3, none⟩ = false := (hbb.frozen (p := ⟨w.heap.size, 3, none⟩) (by have := HZA.out; have := HRES.out.lt; show w.heap.size < _; omega)).trans ((HBA.out.frozen (p := ⟨w.heap.size, 3, none⟩) HRES.out.lt).trans (frozen_of_row wr _ 3 _ _ HRES.out))
        have hr4 : wb.cell? ⟨w.heap.size, 4, none⟩ = some (.int .u32 0) := (hbb.cell (p := ⟨w.heap.size, 4, none⟩) (by have := HZA.out; have := HRES.out.lt; show w.heap.size < _; omega)).trans ((HBA.out.cell (p := ⟨w.heap.size, 4, none⟩) HRES.out.lt).trans (by rw [cell_of_row wr _ 4 _ _ _ HRES.out]; rfl))
        have hf4 : wb.frozen? ⟨w.heap.size, 4, none⟩ = false := (hbb.frozen (p := ⟨w.heap.size, 4, none⟩) (by have := HZA.out; have := HRES.out.lt; show w.heap.size < _; omega)).trans ((HBA.out.frozen (p := ⟨w.heap.size, 4, none⟩) HRES.out.lt).trans (frozen_of_row wr _ 4 _ _ HRES.out))
        have hr5 : wb.cell? ⟨w.heap.size, 5, none⟩ = some (.bool false) := (hbb.cell (p := ⟨w.heap.size, 5, none⟩) (by have := HZA.out; have := HRES.out.lt; show w.heap.size < _; omega)).trans ((HBA.out.cell (p := ⟨w.heap.size, 5, none⟩) HRES.out.lt).trans (by rw [cell_of_row wr _ 5 _ _ _ HRES.out]; rfl))
        have hf5 : wb.frozen? ⟨w.heap.size, 5, none⟩ = false := (hbb.frozen (p := ⟨w.heap.size, 5, none⟩) (by have := HZA.out; have := HRES.out.lt; show w.heap.size < _; omega)).trans ((HBA.out.frozen (p := ⟨w.heap.size, 5, none⟩) HRES.out.lt).trans (frozen_of_row wr _ 5 _ _ HRES.out))
        have hr6 : wb.cell? ⟨w.heap.size, 6, none⟩ = some (.bool false) := (hbb.cell (p := ⟨w.heap.size, 6, none⟩) (by have := HZA.out; have := HRES.out.lt; show w.heap.size < _; omega)).trans ((HBA.out.cell (p := ⟨w.heap.size, 6, none⟩) HRES.out.lt).trans (by rw [cell_of_row wr _ 6 _ _ _ HRES.out]; rfl))
        have hf6 : wb.frozen? ⟨w.heap.size, 6, none⟩ = false := (hbb.frozen (p := ⟨w.heap.size, 6, none⟩) (by have := HZA.out; have := HRES.out.lt; show w.heap.size < _; omega)).trans ((HBA.out.frozen (p := ⟨w.heap.size, 6, none⟩) HRES.out.lt).trans (frozen_of_row wr _ 6 _ _ HRES.out))
        have HBB := Lib.hid (HBA.out.trans (hbb.mono (by have := HZA.out; omega)))
        clear hbb
        by_cases hh : Is.wordX op x = x
        · have HH := Lib.hid (Is.hit_of_word HO.out HX.out hh)
          have t1 : (Is.wordX op x == x) = true := by rw [hh]; exact beq_self_eq_true _
          clear hh
          go_wp2_with fail
          rw [← HQ.out]
          refine bodyPost_ret (v := .tuple #[inst op (Is.rdO (Is.fm op) x) (Is.rs1O (Is.fm op) x) (Is.rs2O (Is.fm op) x) (Is.immO (Is.fm op) x) (Is.aqO (Is.fm op) x) (Is.rlO (Is.fm op) x), .bool true]) (by rw [HQ.out]; simp [results, Tryz.results34, go_sem, hr0, hr1, hr2, hr3, hr4, hr5, hr6]) rfl ⟨.inl ⟨op, HO.out, HH.out, rfl⟩, ?_⟩
          exact below_seven0 (HBW.out.trans (HBB.out.mono HBW.out.size)) (Nat.le_refl _)
        · have HH := Lib.hid (fun h1 : Is.hit (Is.fm op) x op => hh (Is.word_of_hit HO.out HX.out h1))
          have t1 : (Is.wordX op x == x) = false := beq_eq_false_iff_ne.2 hh
          clear hh
          go_wp2_with fail
          go_roundw
          case rel => exact ⟨op + 1, by omega, by go_num, fun q hq => by
            rcases (show (1 ≤ q ∧ q < op) ∨ q = op by omega) with h1 | h1
            · exact HNO.out q h1
            · rw [h1]; exact HH.out, HRES.out.below HBB.out, HBW.out.trans (HBB.out.mono HBW.out.size)⟩
          case measure => simp [intOf]; omega
      · have HF := Lib.hid (show Is.fb (Is.fm op) = 102 by rw [hk]; rfl)
        have HM := Lib.hid (fun w => (show Calls Tryz.prog 61 #[.agg #[.int .i64 (op : Int), .int .i64 0, .int .i64 0, .int .i64 0, .int .u32 (x / 1048576 % 256), .bool false, .bool false]] w fun e w' => e = .returned (.bool true) ∧ Below w.heap.size w w' from by
          have hm := Is.may_take (Is.fm op) (Is.fm_in op HO.out) HX.out
          have h0 := rmay_yes op HO.out _ _ _ _ _ _ (Is.immO_wd (Is.fm op) HX.out) hm w
          rw [hk] at h0
          exact h0))
        have HE := Lib.hid (fun w => (show Calls Tryz.prog 62 #[.agg #[.int .i64 (op : Int), .int .i64 0, .int .i64 0, .int .i64 0, .int .u32 (x / 1048576 % 256), .bool false, .bool false]] w fun e w' => e = .returned (.int .u32 (Is.wordX op x)) ∧ Below w.heap.size w w' from by
          have hm := Is.may_take (Is.fm op) (Is.fm_in op HO.out) HX.out
          have h0 := renc_yes op HO.out _ _ _ _ _ _ (Is.immO_wd (Is.fm op) HX.out) hm w
          change Calls _ _ _ _ fun e w' => e = .returned (.int .u32 (Is.wordX op x)) ∧ _ at h0
          rw [hk] at h0
          exact h0))
        have HQ := Lib.hid (show inst op (Is.rdO (Is.fm op) x) (Is.rs1O (Is.fm op) x) (Is.rs2O (Is.fm op) x) (Is.immO (Is.fm op) x) (Is.aqO (Is.fm op) x) (Is.rlO (Is.fm op) x) = .agg #[.int .i64 (op : Int), .int .i64 0, .int .i64 0, .int .i64 0, .int .u32 (x / 1048576 % 256), .bool false, .bool false] by rw [hk]; rfl)
        clear hk
        go_wp2_with (first
          | (go_at_call 57; refine (rform_yes op HO.out _).mono ?_; rw [HF.out]; rintro e w' ⟨rfl, rfl⟩)
          | (go_at_call 60; with_reducible refine (rpow_lit 20 1048576 (by omega) rfl _).mono ?_; rintro e w' ⟨rfl, rfl⟩)
          | (go_at_call 60; with_reducible refine (rpow_lit 12 4096 (by omega) rfl _).mono ?_; rintro e w' ⟨rfl, rfl⟩)
          | (go_at_call 60; with_reducible refine (rpow_lit 11 2048 (by omega) rfl _).mono ?_; rintro e w' ⟨rfl, rfl⟩)
          | (go_at_call 58; with_reducible refine (rbits_lit x 11 7 _ HX.out (by omega) (by omega) (by omega) (Is.bt_11_7 x) _).mono ?_; rintro e w' ⟨rfl, rfl⟩)
          | (go_at_call 58; with_reducible refine (rbits_lit x 19 15 _ HX.out (by omega) (by omega) (by omega) (Is.bt_19_15 x) _).mono ?_; rintro e w' ⟨rfl, rfl⟩)
          | (go_at_call 58; with_reducible refine (rbits_lit x 24 20 _ HX.out (by omega) (by omega) (by omega) (Is.bt_24_20 x) _).mono ?_; rintro e w' ⟨rfl, rfl⟩)
          | (go_at_call 58; with_reducible refine (rbits_lit x 31 31 _ HX.out (by omega) (by omega) (by omega) (Is.bt_31_31 x) _).mono ?_; rintro e w' ⟨rfl, rfl⟩)
          | (go_at_call 58; with_reducible refine (rbits_lit x 19 12 _ HX.out (by omega) (by omega) (by omega) (Is.bt_19_12 x) _).mono ?_; rintro e w' ⟨rfl, rfl⟩)
          | (go_at_call 58; with_reducible refine (rbits_lit x 20 20 _ HX.out (by omega) (by omega) (by omega) (Is.bt_20_20 x) _).mono ?_; rintro e w' ⟨rfl, rfl⟩)
          | (go_at_call 58; with_reducible refine (rbits_lit x 30 21 _ HX.out (by omega) (by omega) (by omega) (Is.bt_30_21 x) _).mono ?_; rintro e w' ⟨rfl, rfl⟩)
          | (go_at_call 58; with_reducible refine (rbits_lit x 7 7 _ HX.out (by omega) (by omega) (by omega) (Is.bt_7_7 x) _).mono ?_; rintro e w' ⟨rfl, rfl⟩)
          | (go_at_call 58; with_reducible refine (rbits_lit x 30 25 _ HX.out (by omega) (by omega) (by omega) (Is.bt_30_25 x) _).mono ?_; rintro e w' ⟨rfl, rfl⟩)
          | (go_at_call 58; with_reducible refine (rbits_lit x 11 8 _ HX.out (by omega) (by omega) (by omega) (Is.bt_11_8 x) _).mono ?_; rintro e w' ⟨rfl, rfl⟩)
          | (go_at_call 58; with_reducible refine (rbits_lit x 31 25 _ HX.out (by omega) (by omega) (by omega) (Is.bt_31_25 x) _).mono ?_; rintro e w' ⟨rfl, rfl⟩)
          | (go_at_call 58; with_reducible refine (rbits_lit x 31 20 _ HX.out (by omega) (by omega) (by omega) (Is.bt_31_20 x) _).mono ?_; rintro e w' ⟨rfl, rfl⟩)
          | (go_at_call 58; with_reducible refine (rbits_lit x 27 20 _ HX.out (by omega) (by omega) (by omega) (Is.bt_27_20 x) _).mono ?_; rintro e w' ⟨rfl, rfl⟩)
          | (go_at_call 58; with_reducible refine (rbits_lit x 26 26 _ HX.out (by omega) (by omega) (by omega) (Is.bt_26_26 x) _).mono ?_; rintro e w' ⟨rfl, rfl⟩)
          | (go_at_call 58; with_reducible refine (rbits_lit x 25 25 _ HX.out (by omega) (by omega) (by omega) (Is.bt_25_25 x) _).mono ?_; rintro e w' ⟨rfl, rfl⟩)
          | (go_at_call 59; with_reducible refine (rsign_jumpImm x HX.out _).mono ?_; rintro e w' ⟨rfl, rfl⟩)
          | (go_at_call 59; with_reducible refine (rsign_branchImm x HX.out _).mono ?_; rintro e w' ⟨rfl, rfl⟩)
          | (go_at_call 59; with_reducible refine (rsign_storeImm x HX.out _).mono ?_; rintro e w' ⟨rfl, rfl⟩)
          | (go_at_call 59; with_reducible refine (rsign_shortImm x HX.out _).mono ?_; rintro e w' ⟨rfl, rfl⟩))
        refine (HM.out _).mono ?_
        rintro e wa ⟨rfl, hba⟩
        have hc0 : wa.cell? ⟨wr.heap.size, 0, none⟩ = some (.int .i64 (op : Int)) := (hba.cell (p := ⟨wr.heap.size, 0, none⟩) (by simp)).trans (by go_simp)
        have hc1 : wa.cell? ⟨wr.heap.size, 1, none⟩ = some (.int .i64 0) := (hba.cell (p := ⟨wr.heap.size, 1, none⟩) (by simp)).trans (by go_simp)
        have hc2 : wa.cell? ⟨wr.heap.size, 2, none⟩ = some (.int .i64 0) := (hba.cell (p := ⟨wr.heap.size, 2, none⟩) (by simp)).trans (by go_simp)
        have hc3 : wa.cell? ⟨wr.heap.size, 3, none⟩ = some (.int .i64 0) := (hba.cell (p := ⟨wr.heap.size, 3, none⟩) (by simp)).trans (by go_simp)
        have hc4 : wa.cell? ⟨wr.heap.size, 4, none⟩ = some (.int .u32 (x / 1048576 % 256)) := (hba.cell (p := ⟨wr.heap.size, 4, none⟩) (by simp)).trans (by go_simp)
        have hc5 : wa.cell? ⟨wr.heap.size, 5, none⟩ = some (.bool false) := (hba.cell (p := ⟨wr.heap.size, 5, none⟩) (by simp)).trans (by go_simp)
        have hc6 : wa.cell? ⟨wr.heap.size, 6, none⟩ = some (.bool false) := (hba.cell (p := ⟨wr.heap.size, 6, none⟩) (by simp)).trans (by go_simp)
        have HBA := Lib.hid (((Below.refl _ wr).alloc (Nat.le_refl _) _).trans (hba.mono (by simp)))
        have HZA := Lib.hid (show wr.heap.size < wa.heap.size by have := hba.size; simp at this; omega)
        clear hba
        go_wp2_with fail
        refine (HE.out _).mono ?_
        rintro e wb ⟨rfl, hbb⟩
        have hd0 : wb.cell? ⟨wr.heap.size, 0, none⟩ = some (.int .i64 (op : Int)) := (hbb.cell (p := ⟨wr.heap.size, 0, none⟩) HZA.out).trans hc0
        have hd1 : wb.cell? ⟨wr.heap.size, 1, none⟩ = some (.int .i64 0) := (hbb.cell (p := ⟨wr.heap.size, 1, none⟩) HZA.out).trans hc1
        have hd2 : wb.cell? ⟨wr.heap.size, 2, none⟩ = some (.int .i64 0) := (hbb.cell (p := ⟨wr.heap.size, 2, none⟩) HZA.out).trans hc2
        have hd3 : wb.cell? ⟨wr.heap.size, 3, none⟩ = some (.int .i64 0) := (hbb.cell (p := ⟨wr.heap.size, 3, none⟩) HZA.out).trans hc3
        have hd4 : wb.cell? ⟨wr.heap.size, 4, none⟩ = some (.int .u32 (x / 1048576 % 256)) := (hbb.cell (p := ⟨wr.heap.size, 4, none⟩) HZA.out).trans hc4
        have hd5 : wb.cell? ⟨wr.heap.size, 5, none⟩ = some (.bool false) := (hbb.cell (p := ⟨wr.heap.size, 5, none⟩) HZA.out).trans hc5
        have hd6 : wb.cell? ⟨wr.heap.size, 6, none⟩ = some (.bool false) := (hbb.cell (p := ⟨wr.heap.size, 6, none⟩) HZA.out).trans hc6
        clear hc0 hc1 hc2 hc3 hc4 hc5 hc6
        have hr0 : wb.cell? ⟨w.heap.size, 0, none⟩ = some (.int .i64 0) := (hbb.cell (p := ⟨w.heap.size, 0, none⟩) (by have := HZA.out; have := HRES.out.lt; show w.heap.size < _; omega)).trans ((HBA.out.cell (p := ⟨w.heap.size, 0, none⟩) HRES.out.lt).trans (by rw [cell_of_row wr _ 0 _ _ _ HRES.out]; rfl))
        have hf0 : wb.frozen? ⟨w.heap.size, 0, none⟩ = false := (hbb.frozen (p := ⟨w.heap.size, 0, none⟩) (by have := HZA.out; have := HRES.out.lt; show w.heap.size < _; omega)).trans ((HBA.out.frozen (p := ⟨w.heap.size, 0, none⟩) HRES.out.lt).trans (frozen_of_row wr _ 0 _ _ HRES.out))
        have hr1 : wb.cell? ⟨w.heap.size, 1, none⟩ = some (.int .i64 0) := (hbb.cell (p := ⟨w.heap.size, 1, none⟩) (by have := HZA.out; have := HRES.out.lt; show w.heap.size < _; omega)).trans ((HBA.out.cell (p := ⟨w.heap.size, 1, none⟩) HRES.out.lt).trans (by rw [cell_of_row wr _ 1 _ _ _ HRES.out]; rfl))
        have hf1 : wb.frozen? ⟨w.heap.size, 1, none⟩ = false := (hbb.frozen (p := ⟨w.heap.size, 1, none⟩) (by have := HZA.out; have := HRES.out.lt; show w.heap.size < _; omega)).trans ((HBA.out.frozen (p := ⟨w.heap.size, 1, none⟩) HRES.out.lt).trans (frozen_of_row wr _ 1 _ _ HRES.out))
        have hr2 : wb.cell? ⟨w.heap.size, 2, none⟩ = some (.int .i64 0) := (hbb.cell (p := ⟨w.heap.size, 2, none⟩) (by have := HZA.out; have := HRES.out.lt; show w.heap.size < _; omega)).trans ((HBA.out.cell (p := ⟨w.heap.size, 2, none⟩) HRES.out.lt).trans (by rw [cell_of_row wr _ 2 _ _ _ HRES.out]; rfl))
        have hf2 : wb.frozen? ⟨w.heap.size, 2, none⟩ = false := (hbb.frozen (p := ⟨w.heap.size, 2, none⟩) (by have := HZA.out; have := HRES.out.lt; show w.heap.size < _; omega)).trans ((HBA.out.frozen (p := ⟨w.heap.size, 2, none⟩) HRES.out.lt).trans (frozen_of_row wr _ 2 _ _ HRES.out))
        have hr3 : wb.cell? ⟨w.heap.size, 3, none⟩ = some (.int .i64 0) := (hbb.cell (p := ⟨w.heap.size, 3, none⟩) (by have := HZA.out; have := HRES.out.lt; show w.heap.size < _; omega)).trans ((HBA.out.cell (p := ⟨w.heap.size, 3, none⟩) HRES.out.lt).trans (by rw [cell_of_row wr _ 3 _ _ _ HRES.out]; rfl))
        have hf3 : wb.frozen? ⟨w.heap.size, 3, none⟩ = false := (hbb.frozen (p := ⟨w.heap.size, 3, none⟩) (by have := HZA.out; have := HRES.out.lt; show w.heap.size < _; omega)).trans ((HBA.out.frozen (p := ⟨w.heap.size, 3, none⟩) HRES.out.lt).trans (frozen_of_row wr _ 3 _ _ HRES.out))
        have hr4 : wb.cell? ⟨w.heap.size, 4, none⟩ = some (.int .u32 0) := (hbb.cell (p := ⟨w.heap.size, 4, none⟩) (by have := HZA.out; have := HRES.out.lt; show w.heap.size < _; omega)).trans ((HBA.out.cell (p := ⟨w.heap.size, 4, none⟩) HRES.out.lt).trans (by rw [cell_of_row wr _ 4 _ _ _ HRES.out]; rfl))
        have hf4 : wb.frozen? ⟨w.heap.size, 4, none⟩ = false := (hbb.frozen (p := ⟨w.heap.size, 4, none⟩) (by have := HZA.out; have := HRES.out.lt; show w.heap.size < _; omega)).trans ((HBA.out.frozen (p := ⟨w.heap.size, 4, none⟩) HRES.out.lt).trans (frozen_of_row wr _ 4 _ _ HRES.out))
        have hr5 : wb.cell? ⟨w.heap.size, 5, none⟩ = some (.bool false) := (hbb.cell (p := ⟨w.heap.size, 5, none⟩) (by have := HZA.out; have := HRES.out.lt; show w.heap.size < _; omega)).trans ((HBA.out.cell (p := ⟨w.heap.size, 5, none⟩) HRES.out.lt).trans (by rw [cell_of_row wr _ 5 _ _ _ HRES.out]; rfl))
        have hf5 : wb.frozen? ⟨w.heap.size, 5, none⟩ = false := (hbb.frozen (p := ⟨w.heap.size, 5, none⟩) (by have := HZA.out; have := HRES.out.lt; show w.heap.size < _; omega)).trans ((HBA.out.frozen (p := ⟨w.heap.size, 5, none⟩) HRES.out.lt).trans (frozen_of_row wr _ 5 _ _ HRES.out))
        have hr6 : wb.cell? ⟨w.heap.size, 6, none⟩ = some (.bool false) := (hbb.cell (p := ⟨w.heap.size, 6, none⟩) (by have := HZA.out; have := HRES.out.lt; show w.heap.size < _; omega)).trans ((HBA.out.cell (p := ⟨w.heap.size, 6, none⟩) HRES.out.lt).trans (by rw [cell_of_row wr _ 6 _ _ _ HRES.out]; rfl))
        have hf6 : wb.frozen? ⟨w.heap.size, 6, none⟩ = false := (hbb.frozen (p := ⟨w.heap.size, 6, none⟩) (by have := HZA.out; have := HRES.out.lt; show w.heap.size < _; omega)).trans ((HBA.out.frozen (p := ⟨w.heap.size, 6, none⟩) HRES.out.lt).trans (frozen_of_row wr _ 6 _ _ HRES.out))
        have HBB := Lib.hid (HBA.out.trans (hbb.mono (by have := HZA.out; omega)))
        clear hbb
        by_cases hh : Is.wordX op x = x
        · have HH := Lib.hid (Is.hit_of_word HO.out HX.out hh)
          have t1 : (Is.wordX op x == x) = true := by rw [hh]; exact beq_self_eq_true _
          clear hh
          go_wp2_with fail
          rw [← HQ.out]
          refine bodyPost_ret (v := .tuple #[inst op (Is.rdO (Is.fm op) x) (Is.rs1O (Is.fm op) x) (Is.rs2O (Is.fm op) x) (Is.immO (Is.fm op) x) (Is.aqO (Is.fm op) x) (Is.rlO (Is.fm op) x), .bool true]) (by rw [HQ.out]; simp [results, Tryz.results34, go_sem, hr0, hr1, hr2, hr3, hr4, hr5, hr6]) rfl ⟨.inl ⟨op, HO.out, HH.out, rfl⟩, ?_⟩
          exact below_seven0 (HBW.out.trans (HBB.out.mono HBW.out.size)) (Nat.le_refl _)
        · have HH := Lib.hid (fun h1 : Is.hit (Is.fm op) x op => hh (Is.word_of_hit HO.out HX.out h1))
          have t1 : (Is.wordX op x == x) = false := beq_eq_false_iff_ne.2 hh
          clear hh
          go_wp2_with fail
          go_roundw
          case rel => exact ⟨op + 1, by omega, by go_num, fun q hq => by
            rcases (show (1 ≤ q ∧ q < op) ∨ q = op by omega) with h1 | h1
            · exact HNO.out q h1
            · rw [h1]; exact HH.out, HRES.out.below HBB.out, HBW.out.trans (HBB.out.mono HBW.out.size)⟩
          case measure => simp [intOf]; omega
      · have HF := Lib.hid (show Is.fb (Is.fm op) = 101 by rw [hk]; rfl)
        have HM := Lib.hid (fun w => (show Calls Tryz.prog 61 #[.agg #[.int .i64 (op : Int), .int .i64 0, .int .i64 0, .int .i64 0, .int .u32 0, .bool false, .bool false]] w fun e w' => e = .returned (.bool true) ∧ Below w.heap.size w w' from by
          have hm := Is.may_take (Is.fm op) (Is.fm_in op HO.out) HX.out
          have h0 := rmay_yes op HO.out _ _ _ _ _ _ (Is.immO_wd (Is.fm op) HX.out) hm w
          rw [hk] at h0
          exact h0))
        have HE := Lib.hid (fun w => (show Calls Tryz.prog 62 #[.agg #[.int .i64 (op : Int), .int .i64 0, .int .i64 0, .int .i64 0, .int .u32 0, .bool false, .bool false]] w fun e w' => e = .returned (.int .u32 (Is.wordX op x)) ∧ Below w.heap.size w w' from by
          have hm := Is.may_take (Is.fm op) (Is.fm_in op HO.out) HX.out
          have h0 := renc_yes op HO.out _ _ _ _ _ _ (Is.immO_wd (Is.fm op) HX.out) hm w
          change Calls _ _ _ _ fun e w' => e = .returned (.int .u32 (Is.wordX op x)) ∧ _ at h0
          rw [hk] at h0
          exact h0))
        have HQ := Lib.hid (show inst op (Is.rdO (Is.fm op) x) (Is.rs1O (Is.fm op) x) (Is.rs2O (Is.fm op) x) (Is.immO (Is.fm op) x) (Is.aqO (Is.fm op) x) (Is.rlO (Is.fm op) x) = .agg #[.int .i64 (op : Int), .int .i64 0, .int .i64 0, .int .i64 0, .int .u32 0, .bool false, .bool false] by rw [hk]; rfl)
        clear hk
        go_wp2_with (first
          | (go_at_call 57; refine (rform_yes op HO.out _).mono ?_; rw [HF.out]; rintro e w' ⟨rfl, rfl⟩)
          | (go_at_call 60; with_reducible refine (rpow_lit 20 1048576 (by omega) rfl _).mono ?_; rintro e w' ⟨rfl, rfl⟩)
          | (go_at_call 60; with_reducible refine (rpow_lit 12 4096 (by omega) rfl _).mono ?_; rintro e w' ⟨rfl, rfl⟩)
          | (go_at_call 60; with_reducible refine (rpow_lit 11 2048 (by omega) rfl _).mono ?_; rintro e w' ⟨rfl, rfl⟩)
          | (go_at_call 58; with_reducible refine (rbits_lit x 11 7 _ HX.out (by omega) (by omega) (by omega) (Is.bt_11_7 x) _).mono ?_; rintro e w' ⟨rfl, rfl⟩)
          | (go_at_call 58; with_reducible refine (rbits_lit x 19 15 _ HX.out (by omega) (by omega) (by omega) (Is.bt_19_15 x) _).mono ?_; rintro e w' ⟨rfl, rfl⟩)
          | (go_at_call 58; with_reducible refine (rbits_lit x 24 20 _ HX.out (by omega) (by omega) (by omega) (Is.bt_24_20 x) _).mono ?_; rintro e w' ⟨rfl, rfl⟩)
          | (go_at_call 58; with_reducible refine (rbits_lit x 31 31 _ HX.out (by omega) (by omega) (by omega) (Is.bt_31_31 x) _).mono ?_; rintro e w' ⟨rfl, rfl⟩)
          | (go_at_call 58; with_reducible refine (rbits_lit x 19 12 _ HX.out (by omega) (by omega) (by omega) (Is.bt_19_12 x) _).mono ?_; rintro e w' ⟨rfl, rfl⟩)
          | (go_at_call 58; with_reducible refine (rbits_lit x 20 20 _ HX.out (by omega) (by omega) (by omega) (Is.bt_20_20 x) _).mono ?_; rintro e w' ⟨rfl, rfl⟩)
          | (go_at_call 58; with_reducible refine (rbits_lit x 30 21 _ HX.out (by omega) (by omega) (by omega) (Is.bt_30_21 x) _).mono ?_; rintro e w' ⟨rfl, rfl⟩)
          | (go_at_call 58; with_reducible refine (rbits_lit x 7 7 _ HX.out (by omega) (by omega) (by omega) (Is.bt_7_7 x) _).mono ?_; rintro e w' ⟨rfl, rfl⟩)
          | (go_at_call 58; with_reducible refine (rbits_lit x 30 25 _ HX.out (by omega) (by omega) (by omega) (Is.bt_30_25 x) _).mono ?_; rintro e w' ⟨rfl, rfl⟩)
          | (go_at_call 58; with_reducible refine (rbits_lit x 11 8 _ HX.out (by omega) (by omega) (by omega) (Is.bt_11_8 x) _).mono ?_; rintro e w' ⟨rfl, rfl⟩)
          | (go_at_call 58; with_reducible refine (rbits_lit x 31 25 _ HX.out (by omega) (by omega) (by omega) (Is.bt_31_25 x) _).mono ?_; rintro e w' ⟨rfl, rfl⟩)
          | (go_at_call 58; with_reducible refine (rbits_lit x 31 20 _ HX.out (by omega) (by omega) (by omega) (Is.bt_31_20 x) _).mono ?_; rintro e w' ⟨rfl, rfl⟩)
          | (go_at_call 58; with_reducible refine (rbits_lit x 27 20 _ HX.out (by omega) (by omega) (by omega) (Is.bt_27_20 x) _).mono ?_; rintro e w' ⟨rfl, rfl⟩)
          | (go_at_call 58; with_reducible refine (rbits_lit x 26 26 _ HX.out (by omega) (by omega) (by omega) (Is.bt_26_26 x) _).mono ?_; rintro e w' ⟨rfl, rfl⟩)
          | (go_at_call 58; with_reducible refine (rbits_lit x 25 25 _ HX.out (by omega) (by omega) (by omega) (Is.bt_25_25 x) _).mono ?_; rintro e w' ⟨rfl, rfl⟩)
          | (go_at_call 59; with_reducible refine (rsign_jumpImm x HX.out _).mono ?_; rintro e w' ⟨rfl, rfl⟩)
          | (go_at_call 59; with_reducible refine (rsign_branchImm x HX.out _).mono ?_; rintro e w' ⟨rfl, rfl⟩)
          | (go_at_call 59; with_reducible refine (rsign_storeImm x HX.out _).mono ?_; rintro e w' ⟨rfl, rfl⟩)
          | (go_at_call 59; with_reducible refine (rsign_shortImm x HX.out _).mono ?_; rintro e w' ⟨rfl, rfl⟩))
        refine (HM.out _).mono ?_
        rintro e wa ⟨rfl, hba⟩
        have hc0 : wa.cell? ⟨wr.heap.size, 0, none⟩ = some (.int .i64 (op : Int)) := (hba.cell (p := ⟨wr.heap.size, 0, none⟩) (by simp)).trans (by go_simp)
        have hc1 : wa.cell? ⟨wr.heap.size, 1, none⟩ = some (.int .i64 0) := (hba.cell (p := ⟨wr.heap.size, 1, none⟩) (by simp)).trans (by go_simp)
        have hc2 : wa.cell? ⟨wr.heap.size, 2, none⟩ = some (.int .i64 0) := (hba.cell (p := ⟨wr.heap.size, 2, none⟩) (by simp)).trans (by go_simp)
        have hc3 : wa.cell? ⟨wr.heap.size, 3, none⟩ = some (.int .i64 0) := (hba.cell (p := ⟨wr.heap.size, 3, none⟩) (by simp)).trans (by go_simp)
        have hc4 : wa.cell? ⟨wr.heap.size, 4, none⟩ = some (.int .u32 0) := (hba.cell (p := ⟨wr.heap.size, 4, none⟩) (by simp)).trans (by go_simp)
        have hc5 : wa.cell? ⟨wr.heap.size, 5, none⟩ = some (.bool false) := (hba.cell (p := ⟨wr.heap.size, 5, none⟩) (by simp)).trans (by go_simp)
        have hc6 : wa.cell? ⟨wr.heap.size, 6, none⟩ = some (.bool false) := (hba.cell (p := ⟨wr.heap.size, 6, none⟩) (by simp)).trans (by go_simp)
        have HBA := Lib.hid (((Below.refl _ wr).alloc (Nat.le_refl _) _).trans (hba.mono (by simp)))
        have HZA := Lib.hid (show wr.heap.size < wa.heap.size by have := hba.size; simp at this; omega)
        clear hba
        go_wp2_with fail
        refine (HE.out _).mono ?_
        rintro e wb ⟨rfl, hbb⟩
        have hd0 : wb.cell? ⟨wr.heap.size, 0, none⟩ = some (.int .i64 (op : Int)) := (hbb.cell (p := ⟨wr.heap.size, 0, none⟩) HZA.out).trans hc0
        have hd1 : wb.cell? ⟨wr.heap.size, 1, none⟩ = some (.int .i64 0) := (hbb.cell (p := ⟨wr.heap.size, 1, none⟩) HZA.out).trans hc1
        have hd2 : wb.cell? ⟨wr.heap.size, 2, none⟩ = some (.int .i64 0) := (hbb.cell (p := ⟨wr.heap.size, 2, none⟩) HZA.out).trans hc2
        have hd3 : wb.cell? ⟨wr.heap.size, 3, none⟩ = some (.int .i64 0) := (hbb.cell (p := ⟨wr.heap.size, 3, none⟩) HZA.out).trans hc3
        have hd4 : wb.cell? ⟨wr.heap.size, 4, none⟩ = some (.int .u32 0) := (hbb.cell (p := ⟨wr.heap.size, 4, none⟩) HZA.out).trans hc4
        have hd5 : wb.cell? ⟨wr.heap.size, 5, none⟩ = some (.bool false) := (hbb.cell (p := ⟨wr.heap.size, 5, none⟩) HZA.out).trans hc5
        have hd6 : wb.cell? ⟨wr.heap.size, 6, none⟩ = some (.bool false) := (hbb.cell (p := ⟨wr.heap.size, 6, none⟩) HZA.out).trans hc6
        clear hc0 hc1 hc2 hc3 hc4 hc5 hc6
        have hr0 : wb.cell? ⟨w.heap.size, 0, none⟩ = some (.int .i64 0) := (hbb.cell (p := ⟨w.heap.size, 0, none⟩) (by have := HZA.out; have := HRES.out.lt; show w.heap.size < _; omega)).trans ((HBA.out.cell (p := ⟨w.heap.size, 0, none⟩) HRES.out.lt).trans (by rw [cell_of_row wr _ 0 _ _ _ HRES.out]; rfl))
        have hf0 : wb.frozen? ⟨w.heap.size, 0, none⟩ = false := (hbb.frozen (p := ⟨w.heap.size, 0, none⟩) (by have := HZA.out; have := HRES.out.lt; show w.heap.size < _; omega)).trans ((HBA.out.frozen (p := ⟨w.heap.size, 0, none⟩) HRES.out.lt).trans (frozen_of_row wr _ 0 _ _ HRES.out))
        have hr1 : wb.cell? ⟨w.heap.size, 1, none⟩ = some (.int .i64 0) := (hbb.cell (p := ⟨w.heap.size, 1, none⟩) (by have := HZA.out; have := HRES.out.lt; show w.heap.size < _; omega)).trans ((HBA.out.cell (p := ⟨w.heap.size, 1, none⟩) HRES.out.lt).trans (by rw [cell_of_row wr _ 1 _ _ _ HRES.out]; rfl))
        have hf1 : wb.frozen? ⟨w.heap.size, 1, none⟩ = false := (hbb.frozen (p := ⟨w.heap.size, 1, none⟩) (by have := HZA.out; have := HRES.out.lt; show w.heap.size < _; omega)).trans ((HBA.out.frozen (p := ⟨w.heap.size, 1, none⟩) HRES.out.lt).trans (frozen_of_row wr _ 1 _ _ HRES.out))
        have hr2 : wb.cell? ⟨w.heap.size, 2, none⟩ = some (.int .i64 0) := (hbb.cell (p := ⟨w.heap.size, 2, none⟩) (by have := HZA.out; have := HRES.out.lt; show w.heap.size < _; omega)).trans ((HBA.out.cell (p := ⟨w.heap.size, 2, none⟩) HRES.out.lt).trans (by rw [cell_of_row wr _ 2 _ _ _ HRES.out]; rfl))
        have hf2 : wb.frozen? ⟨w.heap.size, 2, none⟩ = false := (hbb.frozen (p := ⟨w.heap.size, 2, none⟩) (by have := HZA.out; have := HRES.out.lt; show w.heap.size < _; omega)).trans ((HBA.out.frozen (p := ⟨w.heap.size, 2, none⟩) HRES.out.lt).trans (frozen_of_row wr _ 2 _ _ HRES.out))
        have hr3 : wb.cell? ⟨w.heap.size, 3, none⟩ = some (.int .i64 0) := (hbb.cell (p := ⟨w.heap.size, 3, none⟩) (by have := HZA.out; have := HRES.out.lt; show w.heap.size < _; omega)).trans ((HBA.out.cell (p := ⟨w.heap.size, 3, none⟩) HRES.out.lt).trans (by rw [cell_of_row wr _ 3 _ _ _ HRES.out]; rfl))
        have hf3 : wb.frozen? ⟨w.heap.size, 3, none⟩ = false := (hbb.frozen (p := ⟨w.heap.size, 3, none⟩) (by have := HZA.out; have := HRES.out.lt; show w.heap.size < _; omega)).trans ((HBA.out.frozen (p := ⟨w.heap.size, 3, none⟩) HRES.out.lt).trans (frozen_of_row wr _ 3 _ _ HRES.out))
        have hr4 : wb.cell? ⟨w.heap.size, 4, none⟩ = some (.int .u32 0) := (hbb.cell (p := ⟨w.heap.size, 4, none⟩) (by have := HZA.out; have := HRES.out.lt; show w.heap.size < _; omega)).trans ((HBA.out.cell (p := ⟨w.heap.size, 4, none⟩) HRES.out.lt).trans (by rw [cell_of_row wr _ 4 _ _ _ HRES.out]; rfl))
        have hf4 : wb.frozen? ⟨w.heap.size, 4, none⟩ = false := (hbb.frozen (p := ⟨w.heap.size, 4, none⟩) (by have := HZA.out; have := HRES.out.lt; show w.heap.size < _; omega)).trans ((HBA.out.frozen (p := ⟨w.heap.size, 4, none⟩) HRES.out.lt).trans (frozen_of_row wr _ 4 _ _ HRES.out))
        have hr5 : wb.cell? ⟨w.heap.size, 5, none⟩ = some (.bool false) := (hbb.cell (p := ⟨w.heap.size, 5, none⟩) (by have := HZA.out; have := HRES.out.lt; show w.heap.size < _; omega)).trans ((HBA.out.cell (p := ⟨w.heap.size, 5, none⟩) HRES.out.lt).trans (by rw [cell_of_row wr _ 5 _ _ _ HRES.out]; rfl))
        have hf5 : wb.frozen? ⟨w.heap.size, 5, none⟩ = false := (hbb.frozen (p := ⟨w.heap.size, 5, none⟩) (by have := HZA.out; have := HRES.out.lt; show w.heap.size < _; omega)).trans ((HBA.out.frozen (p := ⟨w.heap.size, 5, none⟩) HRES.out.lt).trans (frozen_of_row wr _ 5 _ _ HRES.out))
        have hr6 : wb.cell? ⟨w.heap.size, 6, none⟩ = some (.bool false) := (hbb.cell (p := ⟨w.heap.size, 6, none⟩) (by have := HZA.out; have := HRES.out.lt; show w.heap.size < _; omega)).trans ((HBA.out.cell (p := ⟨w.heap.size, 6, none⟩) HRES.out.lt).trans (by rw [cell_of_row wr _ 6 _ _ _ HRES.out]; rfl))
        have hf6 : wb.frozen? ⟨w.heap.size, 6, none⟩ = false := (hbb.frozen (p := ⟨w.heap.size, 6, none⟩) (by have := HZA.out; have := HRES.out.lt; show w.heap.size < _; omega)).trans ((HBA.out.frozen (p := ⟨w.heap.size, 6, none⟩) HRES.out.lt).trans (frozen_of_row wr _ 6 _ _ HRES.out))
        have HBB := Lib.hid (HBA.out.trans (hbb.mono (by have := HZA.out; omega)))
        clear hbb
        by_cases hh : Is.wordX op x = x
        · have HH := Lib.hid (Is.hit_of_word HO.out HX.out hh)
          have t1 : (Is.wordX op x == x) = true := by rw [hh]; exact beq_self_eq_true _
          clear hh
          go_wp2_with fail
          rw [← HQ.out]
          refine bodyPost_ret (v := .tuple #[inst op (Is.rdO (Is.fm op) x) (Is.rs1O (Is.fm op) x) (Is.rs2O (Is.fm op) x) (Is.immO (Is.fm op) x) (Is.aqO (Is.fm op) x) (Is.rlO (Is.fm op) x), .bool true]) (by rw [HQ.out]; simp [results, Tryz.results34, go_sem, hr0, hr1, hr2, hr3, hr4, hr5, hr6]) rfl ⟨.inl ⟨op, HO.out, HH.out, rfl⟩, ?_⟩
          exact below_seven0 (HBW.out.trans (HBB.out.mono HBW.out.size)) (Nat.le_refl _)
        · have HH := Lib.hid (fun h1 : Is.hit (Is.fm op) x op => hh (Is.word_of_hit HO.out HX.out h1))
          have t1 : (Is.wordX op x == x) = false := beq_eq_false_iff_ne.2 hh
          clear hh
          go_wp2_with fail
          go_roundw
          case rel => exact ⟨op + 1, by omega, by go_num, fun q hq => by
            rcases (show (1 ≤ q ∧ q < op) ∨ q = op by omega) with h1 | h1
            · exact HNO.out q h1
            · rw [h1]; exact HH.out, HRES.out.below HBB.out, HBW.out.trans (HBB.out.mono HBW.out.size)⟩
          case measure => simp [intOf]; omega
      · have HF := Lib.hid (show Is.fb (Is.fm op) = 97 by rw [hk]; rfl)
        have HM := Lib.hid (fun w => (show Calls Tryz.prog 61 #[.agg #[.int .i64 (op : Int), .int .i64 (x / 128 % 32), .int .i64 (x / 32768 % 32), .int .i64 (x / 1048576 % 32), .int .u32 0, .bool (x / 67108864 % 2 == 1), .bool (x / 33554432 % 2 == 1)]] w fun e w' => e = .returned (.bool true) ∧ Below w.heap.size w w' from by
          have hm := Is.may_take (Is.fm op) (Is.fm_in op HO.out) HX.out
          have h0 := rmay_yes op HO.out _ _ _ _ _ _ (Is.immO_wd (Is.fm op) HX.out) hm w
          rw [hk] at h0
          exact h0))
        have HE := Lib.hid (fun w => (show Calls Tryz.prog 62 #[.agg #[.int .i64 (op : Int), .int .i64 (x / 128 % 32), .int .i64 (x / 32768 % 32), .int .i64 (x / 1048576 % 32), .int .u32 0, .bool (x / 67108864 % 2 == 1), .bool (x / 33554432 % 2 == 1)]] w fun e w' => e = .returned (.int .u32 (Is.wordX op x)) ∧ Below w.heap.size w w' from by
          have hm := Is.may_take (Is.fm op) (Is.fm_in op HO.out) HX.out
          have h0 := renc_yes op HO.out _ _ _ _ _ _ (Is.immO_wd (Is.fm op) HX.out) hm w
          change Calls _ _ _ _ fun e w' => e = .returned (.int .u32 (Is.wordX op x)) ∧ _ at h0
          rw [hk] at h0
          exact h0))
        have HQ := Lib.hid (show inst op (Is.rdO (Is.fm op) x) (Is.rs1O (Is.fm op) x) (Is.rs2O (Is.fm op) x) (Is.immO (Is.fm op) x) (Is.aqO (Is.fm op) x) (Is.rlO (Is.fm op) x) = .agg #[.int .i64 (op : Int), .int .i64 (x / 128 % 32), .int .i64 (x / 32768 % 32), .int .i64 (x / 1048576 % 32), .int .u32 0, .bool (x / 67108864 % 2 == 1), .bool (x / 33554432 % 2 == 1)] by rw [hk]; rfl)
        clear hk
        go_wp2_with (first
          | (go_at_call 57; refine (rform_yes op HO.out _).mono ?_; rw [HF.out]; rintro e w' ⟨rfl, rfl⟩)
          | (go_at_call 60; with_reducible refine (rpow_lit 20 1048576 (by omega) rfl _).mono ?_; rintro e w' ⟨rfl, rfl⟩)
          | (go_at_call 60; with_reducible refine (rpow_lit 12 4096 (by omega) rfl _).mono ?_; rintro e w' ⟨rfl, rfl⟩)
          | (go_at_call 60; with_reducible refine (rpow_lit 11 2048 (by omega) rfl _).mono ?_; rintro e w' ⟨rfl, rfl⟩)
          | (go_at_call 58; with_reducible refine (rbits_lit x 11 7 _ HX.out (by omega) (by omega) (by omega) (Is.bt_11_7 x) _).mono ?_; rintro e w' ⟨rfl, rfl⟩)
          | (go_at_call 58; with_reducible refine (rbits_lit x 19 15 _ HX.out (by omega) (by omega) (by omega) (Is.bt_19_15 x) _).mono ?_; rintro e w' ⟨rfl, rfl⟩)
          | (go_at_call 58; with_reducible refine (rbits_lit x 24 20 _ HX.out (by omega) (by omega) (by omega) (Is.bt_24_20 x) _).mono ?_; rintro e w' ⟨rfl, rfl⟩)
          | (go_at_call 58; with_reducible refine (rbits_lit x 31 31 _ HX.out (by omega) (by omega) (by omega) (Is.bt_31_31 x) _).mono ?_; rintro e w' ⟨rfl, rfl⟩)
          | (go_at_call 58; with_reducible refine (rbits_lit x 19 12 _ HX.out (by omega) (by omega) (by omega) (Is.bt_19_12 x) _).mono ?_; rintro e w' ⟨rfl, rfl⟩)
          | (go_at_call 58; with_reducible refine (rbits_lit x 20 20 _ HX.out (by omega) (by omega) (by omega) (Is.bt_20_20 x) _).mono ?_; rintro e w' ⟨rfl, rfl⟩)
          | (go_at_call 58; with_reducible refine (rbits_lit x 30 21 _ HX.out (by omega) (by omega) (by omega) (Is.bt_30_21 x) _).mono ?_; rintro e w' ⟨rfl, rfl⟩)
          | (go_at_call 58; with_reducible refine (rbits_lit x 7 7 _ HX.out (by omega) (by omega) (by omega) (Is.bt_7_7 x) _).mono ?_; rintro e w' ⟨rfl, rfl⟩)
          | (go_at_call 58; with_reducible refine (rbits_lit x 30 25 _ HX.out (by omega) (by omega) (by omega) (Is.bt_30_25 x) _).mono ?_; rintro e w' ⟨rfl, rfl⟩)
          | (go_at_call 58; with_reducible refine (rbits_lit x 11 8 _ HX.out (by omega) (by omega) (by omega) (Is.bt_11_8 x) _).mono ?_; rintro e w' ⟨rfl, rfl⟩)
          | (go_at_call 58; with_reducible refine (rbits_lit x 31 25 _ HX.out (by omega) (by omega) (by omega) (Is.bt_31_25 x) _).mono ?_; rintro e w' ⟨rfl, rfl⟩)
          | (go_at_call 58; with_reducible refine (rbits_lit x 31 20 _ HX.out (by omega) (by omega) (by omega) (Is.bt_31_20 x) _).mono ?_; rintro e w' ⟨rfl, rfl⟩)
          | (go_at_call 58; with_reducible refine (rbits_lit x 27 20 _ HX.out (by omega) (by omega) (by omega) (Is.bt_27_20 x) _).mono ?_; rintro e w' ⟨rfl, rfl⟩)
          | (go_at_call 58; with_reducible refine (rbits_lit x 26 26 _ HX.out (by omega) (by omega) (by omega) (Is.bt_26_26 x) _).mono ?_; rintro e w' ⟨rfl, rfl⟩)
          | (go_at_call 58; with_reducible refine (rbits_lit x 25 25 _ HX.out (by omega) (by omega) (by omega) (Is.bt_25_25 x) _).mono ?_; rintro e w' ⟨rfl, rfl⟩)
          | (go_at_call 59; with_reducible refine (rsign_jumpImm x HX.out _).mono ?_; rintro e w' ⟨rfl, rfl⟩)
          | (go_at_call 59; with_reducible refine (rsign_branchImm x HX.out _).mono ?_; rintro e w' ⟨rfl, rfl⟩)
          | (go_at_call 59; with_reducible refine (rsign_storeImm x HX.out _).mono ?_; rintro e w' ⟨rfl, rfl⟩)
          | (go_at_call 59; with_reducible refine (rsign_shortImm x HX.out _).mono ?_; rintro e w' ⟨rfl, rfl⟩))
        refine (HM.out _).mono ?_
        rintro e wa ⟨rfl, hba⟩
        have hc0 : wa.cell? ⟨wr.heap.size, 0, none⟩ = some (.int .i64 (op : Int)) := (hba.cell (p := ⟨wr.heap.size, 0, none⟩) (by simp)).trans (by go_simp)
        have hc1 : wa.cell? ⟨wr.heap.size, 1, none⟩ = some (.int .i64 (x / 128 % 32)) := (hba.cell (p := ⟨wr.heap.size, 1, none⟩) (by simp)).trans (by go_simp)
        have hc2 : wa.cell? ⟨wr.heap.size, 2, none⟩ = some (.int .i64 (x / 32768 % 32)) := (hba.cell (p := ⟨wr.heap.size, 2, none⟩) (by simp)).trans (by go_simp)
        have hc3 : wa.cell? ⟨wr.heap.size, 3, none⟩ = some (.int .i64 (x / 1048576 % 32)) := (hba.cell (p := ⟨wr.heap.size, 3, none⟩) (by simp)).trans (by go_simp)
        have hc4 : wa.cell? ⟨wr.heap.size, 4, none⟩ = some (.int .u32 0) := (hba.cell (p := ⟨wr.heap.size, 4, none⟩) (by simp)).trans (by go_simp)
        have hc5 : wa.cell? ⟨wr.heap.size, 5, none⟩ = some (.bool (x / 67108864 % 2 == 1)) := (hba.cell (p := ⟨wr.heap.size, 5, none⟩) (by simp)).trans (by go_simp)
        have hc6 : wa.cell? ⟨wr.heap.size, 6, none⟩ = some (.bool (x / 33554432 % 2 == 1)) := (hba.cell (p := ⟨wr.heap.size, 6, none⟩) (by simp)).trans (by go_simp)
        have HBA := Lib.hid (((Below.refl _ wr).alloc (Nat.le_refl _) _).trans (hba.mono (by simp)))
        have HZA := Lib.hid (show wr.heap.size < wa.heap.size by have := hba.size; simp at this; omega)
        clear hba
        go_wp2_with fail
        refine (HE.out _).mono ?_
        rintro e wb ⟨rfl, hbb⟩
        have hd0 : wb.cell? ⟨wr.heap.size, 0, none⟩ = some (.int .i64 (op : Int)) := (hbb.cell (p := ⟨wr.heap.size, 0, none⟩) HZA.out).trans hc0
        have hd1 : wb.cell? ⟨wr.heap.size, 1, none⟩ = some (.int .i64 (x / 128 % 32)) := (hbb.cell (p := ⟨wr.heap.size, 1, none⟩) HZA.out).trans hc1
        have hd2 : wb.cell? ⟨wr.heap.size, 2, none⟩ = some (.int .i64 (x / 32768 % 32)) := (hbb.cell (p := ⟨wr.heap.size, 2, none⟩) HZA.out).trans hc2
        have hd3 : wb.cell? ⟨wr.heap.size, 3, none⟩ = some (.int .i64 (x / 1048576 % 32)) := (hbb.cell (p := ⟨wr.heap.size, 3, none⟩) HZA.out).trans hc3
        have hd4 : wb.cell? ⟨wr.heap.size, 4, none⟩ = some (.int .u32 0) := (hbb.cell (p := ⟨wr.heap.size, 4, none⟩) HZA.out).trans hc4
        have hd5 : wb.cell? ⟨wr.heap.size, 5, none⟩ = some (.bool (x / 67108864 % 2 == 1)) := (hbb.cell (p := ⟨wr.heap.size, 5, none⟩) HZA.out).trans hc5
        have hd6 : wb.cell? ⟨wr.heap.size, 6, none⟩ = some (.bool (x / 33554432 % 2 == 1)) := (hbb.cell (p := ⟨wr.heap.size, 6, none⟩) HZA.out).trans hc6
        clear hc0 hc1 hc2 hc3 hc4 hc5 hc6
        have hr0 : wb.cell? ⟨w.heap.size, 0, none⟩ = some (.int .i64 0) := (hbb.cell (p := ⟨w.heap.size, 0, none⟩) (by have := HZA.out; have := HRES.out.lt; show w.heap.size < _; omega)).trans ((HBA.out.cell (p := ⟨w.heap.size, 0, none⟩) HRES.out.lt).trans (by rw [cell_of_row wr _ 0 _ _ _ HRES.out]; rfl))
        have hf0 : wb.frozen? ⟨w.heap.size, 0, none⟩ = false := (hbb.frozen (p := ⟨w.heap.size, 0, none⟩) (by have := HZA.out; have := HRES.out.lt; show w.heap.size < _; omega)).trans ((HBA.out.frozen (p := ⟨w.heap.size, 0, none⟩) HRES.out.lt).trans (frozen_of_row wr _ 0 _ _ HRES.out))
        have hr1 : wb.cell? ⟨w.heap.size, 1, none⟩ = some (.int .i64 0) := (hbb.cell (p := ⟨w.heap.size, 1, none⟩) (by have := HZA.out; have := HRES.out.lt; show w.heap.size < _; omega)).trans ((HBA.out.cell (p := ⟨w.heap.size, 1, none⟩) HRES.out.lt).trans (by rw [cell_of_row wr _ 1 _ _ _ HRES.out]; rfl))
        have hf1 : wb.frozen? ⟨w.heap.size, 1, none⟩ = false := (hbb.frozen (p := ⟨w.heap.size, 1, none⟩) (by have := HZA.out; have := HRES.out.lt; show w.heap.size < _; omega)).trans ((HBA.out.frozen (p := ⟨w.heap.size, 1, none⟩) HRES.out.lt).trans (frozen_of_row wr _ 1 _ _ HRES.out))
        have hr2 : wb.cell? ⟨w.heap.size, 2, none⟩ = some (.int .i64 0) := (hbb.cell (p := ⟨w.heap.size, 2, none⟩) (by have := HZA.out; have := HRES.out.lt; show w.heap.size < _; omega)).trans ((HBA.out.cell (p := ⟨w.heap.size, 2, none⟩) HRES.out.lt).trans (by rw [cell_of_row wr _ 2 _ _ _ HRES.out]; rfl))
        have hf2 : wb.frozen? ⟨w.heap.size, 2, none⟩ = false := (hbb.frozen (p := ⟨w.heap.size, 2, none⟩) (by have := HZA.out; have := HRES.out.lt; show w.heap.size < _; omega)).trans ((HBA.out.frozen (p := ⟨w.heap.size, 2, none⟩) HRES.out.lt).trans (frozen_of_row wr _ 2 _ _ HRES.out))
        have hr3 : wb.cell? ⟨w.heap.size, 3, none⟩ = some (.int .i64 0) := (hbb.cell (p := ⟨w.heap.size, 3, none⟩) (by have := HZA.out; have := HRES.out.lt; show w.heap.size < _; omega)).trans ((HBA.out.cell (p := ⟨w.heap.size, 3, none⟩) HRES.out.lt).trans (by rw [cell_of_row wr _ 3 _ _ _ HRES.out]; rfl))
        have hf3 : wb.frozen? ⟨w.heap.size, 3, none⟩ = false := (hbb.frozen (p := ⟨w.heap.size, 3, none⟩) (by have := HZA.out; have := HRES.out.lt; show w.heap.size < _; omega)).trans ((HBA.out.frozen (p := ⟨w.heap.size, 3, none⟩) HRES.out.lt).trans (frozen_of_row wr _ 3 _ _ HRES.out))
        have hr4 : wb.cell? ⟨w.heap.size, 4, none⟩ = some (.int .u32 0) := (hbb.cell (p := ⟨w.heap.size, 4, none⟩) (by have := HZA.out; have := HRES.out.lt; show w.heap.size < _; omega)).trans ((HBA.out.cell (p := ⟨w.heap.size, 4, none⟩) HRES.out.lt).trans (by rw [cell_of_row wr _ 4 _ _ _ HRES.out]; rfl))
        have hf4 : wb.frozen? ⟨w.heap.size, 4, none⟩ = false := (hbb.frozen (p := ⟨w.heap.size, 4, none⟩) (by have := HZA.out; have := HRES.out.lt; show w.heap.size < _; omega)).trans ((HBA.out.frozen (p := ⟨w.heap.size, 4, none⟩) HRES.out.lt).trans (frozen_of_row wr _ 4 _ _ HRES.out))
        have hr5 : wb.cell? ⟨w.heap.size, 5, none⟩ = some (.bool false) := (hbb.cell (p := ⟨w.heap.size, 5, none⟩) (by have := HZA.out; have := HRES.out.lt; show w.heap.size < _; omega)).trans ((HBA.out.cell (p := ⟨w.heap.size, 5, none⟩) HRES.out.lt).trans (by rw [cell_of_row wr _ 5 _ _ _ HRES.out]; rfl))
        have hf5 : wb.frozen? ⟨w.heap.size, 5, none⟩ = false := (hbb.frozen (p := ⟨w.heap.size, 5, none⟩) (by have := HZA.out; have := HRES.out.lt; show w.heap.size < _; omega)).trans ((HBA.out.frozen (p := ⟨w.heap.size, 5, none⟩) HRES.out.lt).trans (frozen_of_row wr _ 5 _ _ HRES.out))
        have hr6 : wb.cell? ⟨w.heap.size, 6, none⟩ = some (.bool false) := (hbb.cell (p := ⟨w.heap.size, 6, none⟩) (by have := HZA.out; have := HRES.out.lt; show w.heap.size < _; omega)).trans ((HBA.out.cell (p := ⟨w.heap.size, 6, none⟩) HRES.out.lt).trans (by rw [cell_of_row wr _ 6 _ _ _ HRES.out]; rfl))
        have hf6 : wb.frozen? ⟨w.heap.size, 6, none⟩ = false := (hbb.frozen (p := ⟨w.heap.size, 6, none⟩) (by have := HZA.out; have := HRES.out.lt; show w.heap.size < _; omega)).trans ((HBA.out.frozen (p := ⟨w.heap.size, 6, none⟩) HRES.out.lt).trans (frozen_of_row wr _ 6 _ _ HRES.out))
        have HBB := Lib.hid (HBA.out.trans (hbb.mono (by have := HZA.out; omega)))
        clear hbb
        by_cases hh : Is.wordX op x = x
        · have HH := Lib.hid (Is.hit_of_word HO.out HX.out hh)
          have t1 : (Is.wordX op x == x) = true := by rw [hh]; exact beq_self_eq_true _
          clear hh
          go_wp2_with fail
          rw [← HQ.out]
          refine bodyPost_ret (v := .tuple #[inst op (Is.rdO (Is.fm op) x) (Is.rs1O (Is.fm op) x) (Is.rs2O (Is.fm op) x) (Is.immO (Is.fm op) x) (Is.aqO (Is.fm op) x) (Is.rlO (Is.fm op) x), .bool true]) (by rw [HQ.out]; simp [results, Tryz.results34, go_sem, hr0, hr1, hr2, hr3, hr4, hr5, hr6]) rfl ⟨.inl ⟨op, HO.out, HH.out, rfl⟩, ?_⟩
          exact below_seven0 (HBW.out.trans (HBB.out.mono HBW.out.size)) (Nat.le_refl _)
        · have HH := Lib.hid (fun h1 : Is.hit (Is.fm op) x op => hh (Is.word_of_hit HO.out HX.out h1))
          have t1 : (Is.wordX op x == x) = false := beq_eq_false_iff_ne.2 hh
          clear hh
          go_wp2_with fail
          go_roundw
          case rel => exact ⟨op + 1, by omega, by go_num, fun q hq => by
            rcases (show (1 ≤ q ∧ q < op) ∨ q = op by omega) with h1 | h1
            · exact HNO.out q h1
            · rw [h1]; exact HH.out, HRES.out.below HBB.out, HBW.out.trans (HBB.out.mono HBW.out.size)⟩
          case measure => simp [intOf]; omega
      · have HF := Lib.hid (show Is.fb (Is.fm op) = 113 by rw [hk]; rfl)
        have HM := Lib.hid (fun w => (show Calls Tryz.prog 61 #[.agg #[.int .i64 (op : Int), .int .i64 (x / 128 % 32), .int .i64 (x / 32768 % 32), .int .i64 0, .int .u32 0, .bool (x / 67108864 % 2 == 1), .bool (x / 33554432 % 2 == 1)]] w fun e w' => e = .returned (.bool true) ∧ Below w.heap.size w w' from by
          have hm := Is.may_take (Is.fm op) (Is.fm_in op HO.out) HX.out
          have h0 := rmay_yes op HO.out _ _ _ _ _ _ (Is.immO_wd (Is.fm op) HX.out) hm w
          rw [hk] at h0
          exact h0))
        have HE := Lib.hid (fun w => (show Calls Tryz.prog 62 #[.agg #[.int .i64 (op : Int), .int .i64 (x / 128 % 32), .int .i64 (x / 32768 % 32), .int .i64 0, .int .u32 0, .bool (x / 67108864 % 2 == 1), .bool (x / 33554432 % 2 == 1)]] w fun e w' => e = .returned (.int .u32 (Is.wordX op x)) ∧ Below w.heap.size w w' from by
          have hm := Is.may_take (Is.fm op) (Is.fm_in op HO.out) HX.out
          have h0 := renc_yes op HO.out _ _ _ _ _ _ (Is.immO_wd (Is.fm op) HX.out) hm w
          change Calls _ _ _ _ fun e w' => e = .returned (.int .u32 (Is.wordX op x)) ∧ _ at h0
          rw [hk] at h0
          exact h0))
        have HQ := Lib.hid (show inst op (Is.rdO (Is.fm op) x) (Is.rs1O (Is.fm op) x) (Is.rs2O (Is.fm op) x) (Is.immO (Is.fm op) x) (Is.aqO (Is.fm op) x) (Is.rlO (Is.fm op) x) = .agg #[.int .i64 (op : Int), .int .i64 (x / 128 % 32), .int .i64 (x / 32768 % 32), .int .i64 0, .int .u32 0, .bool (x / 67108864 % 2 == 1), .bool (x / 33554432 % 2 == 1)] by rw [hk]; rfl)
        clear hk
        go_wp2_with (first
          | (go_at_call 57; refine (rform_yes op HO.out _).mono ?_; rw [HF.out]; rintro e w' ⟨rfl, rfl⟩)
          | (go_at_call 60; with_reducible refine (rpow_lit 20 1048576 (by omega) rfl _).mono ?_; rintro e w' ⟨rfl, rfl⟩)
          | (go_at_call 60; with_reducible refine (rpow_lit 12 4096 (by omega) rfl _).mono ?_; rintro e w' ⟨rfl, rfl⟩)
          | (go_at_call 60; with_reducible refine (rpow_lit 11 2048 (by omega) rfl _).mono ?_; rintro e w' ⟨rfl, rfl⟩)
          | (go_at_call 58; with_reducible refine (rbits_lit x 11 7 _ HX.out (by omega) (by omega) (by omega) (Is.bt_11_7 x) _).mono ?_; rintro e w' ⟨rfl, rfl⟩)
          | (go_at_call 58; with_reducible refine (rbits_lit x 19 15 _ HX.out (by omega) (by omega) (by omega) (Is.bt_19_15 x) _).mono ?_; rintro e w' ⟨rfl, rfl⟩)
          | (go_at_call 58; with_reducible refine (rbits_lit x 24 20 _ HX.out (by omega) (by omega) (by omega) (Is.bt_24_20 x) _).mono ?_; rintro e w' ⟨rfl, rfl⟩)
          | (go_at_call 58; with_reducible refine (rbits_lit x 31 31 _ HX.out (by omega) (by omega) (by omega) (Is.bt_31_31 x) _).mono ?_; rintro e w' ⟨rfl, rfl⟩)
          | (go_at_call 58; with_reducible refine (rbits_lit x 19 12 _ HX.out (by omega) (by omega) (by omega) (Is.bt_19_12 x) _).mono ?_; rintro e w' ⟨rfl, rfl⟩)
          | (go_at_call 58; with_reducible refine (rbits_lit x 20 20 _ HX.out (by omega) (by omega) (by omega) (Is.bt_20_20 x) _).mono ?_; rintro e w' ⟨rfl, rfl⟩)
          | (go_at_call 58; with_reducible refine (rbits_lit x 30 21 _ HX.out (by omega) (by omega) (by omega) (Is.bt_30_21 x) _).mono ?_; rintro e w' ⟨rfl, rfl⟩)
          | (go_at_call 58; with_reducible refine (rbits_lit x 7 7 _ HX.out (by omega) (by omega) (by omega) (Is.bt_7_7 x) _).mono ?_; rintro e w' ⟨rfl, rfl⟩)
          | (go_at_call 58; with_reducible refine (rbits_lit x 30 25 _ HX.out (by omega) (by omega) (by omega) (Is.bt_30_25 x) _).mono ?_; rintro e w' ⟨rfl, rfl⟩)
          | (go_at_call 58; with_reducible refine (rbits_lit x 11 8 _ HX.out (by omega) (by omega) (by omega) (Is.bt_11_8 x) _).mono ?_; rintro e w' ⟨rfl, rfl⟩)
          | (go_at_call 58; with_reducible refine (rbits_lit x 31 25 _ HX.out (by omega) (by omega) (by omega) (Is.bt_31_25 x) _).mono ?_; rintro e w' ⟨rfl, rfl⟩)
          | (go_at_call 58; with_reducible refine (rbits_lit x 31 20 _ HX.out (by omega) (by omega) (by omega) (Is.bt_31_20 x) _).mono ?_; rintro e w' ⟨rfl, rfl⟩)
          | (go_at_call 58; with_reducible refine (rbits_lit x 27 20 _ HX.out (by omega) (by omega) (by omega) (Is.bt_27_20 x) _).mono ?_; rintro e w' ⟨rfl, rfl⟩)
          | (go_at_call 58; with_reducible refine (rbits_lit x 26 26 _ HX.out (by omega) (by omega) (by omega) (Is.bt_26_26 x) _).mono ?_; rintro e w' ⟨rfl, rfl⟩)
          | (go_at_call 58; with_reducible refine (rbits_lit x 25 25 _ HX.out (by omega) (by omega) (by omega) (Is.bt_25_25 x) _).mono ?_; rintro e w' ⟨rfl, rfl⟩)
          | (go_at_call 59; with_reducible refine (rsign_jumpImm x HX.out _).mono ?_; rintro e w' ⟨rfl, rfl⟩)
          | (go_at_call 59; with_reducible refine (rsign_branchImm x HX.out _).mono ?_; rintro e w' ⟨rfl, rfl⟩)
          | (go_at_call 59; with_reducible refine (rsign_storeImm x HX.out _).mono ?_; rintro e w' ⟨rfl, rfl⟩)
          | (go_at_call 59; with_reducible refine (rsign_shortImm x HX.out _).mono ?_; rintro e w' ⟨rfl, rfl⟩))
        refine (HM.out _).mono ?_
        rintro e wa ⟨rfl, hba⟩
        have hc0 : wa.cell? ⟨wr.heap.size, 0, none⟩ = some (.int .i64 (op : Int)) := (hba.cell (p := ⟨wr.heap.size, 0, none⟩) (by simp)).trans (by go_simp)
        have hc1 : wa.cell? ⟨wr.heap.size, 1, none⟩ = some (.int .i64 (x / 128 % 32)) := (hba.cell (p := ⟨wr.heap.size, 1, none⟩) (by simp)).trans (by go_simp)
        have hc2 : wa.cell? ⟨wr.heap.size, 2, none⟩ = some (.int .i64 (x / 32768 % 32)) := (hba.cell (p := ⟨wr.heap.size, 2, none⟩) (by simp)).trans (by go_simp)
        have hc3 : wa.cell? ⟨wr.heap.size, 3, none⟩ = some (.int .i64 0) := (hba.cell (p := ⟨wr.heap.size, 3, none⟩) (by simp)).trans (by go_simp)
        have hc4 : wa.cell? ⟨wr.heap.size, 4, none⟩ = some (.int .u32 0) := (hba.cell (p := ⟨wr.heap.size, 4, none⟩) (by simp)).trans (by go_simp)
        have hc5 : wa.cell? ⟨wr.heap.size, 5, none⟩ = some (.bool (x / 67108864 % 2 == 1)) := (hba.cell (p := ⟨wr.heap.size, 5, none⟩) (by simp)).trans (by go_simp)
        have hc6 : wa.cell? ⟨wr.heap.size, 6, none⟩ = some (.bool (x / 33554432 % 2 == 1)) := (hba.cell (p := ⟨wr.heap.size, 6, none⟩) (by simp)).trans (by go_simp)
        have HBA := Lib.hid (((Below.refl _ wr).alloc (Nat.le_refl _) _).trans (hba.mono (by simp)))
        have HZA := Lib.hid (show wr.heap.size < wa.heap.size by have := hba.size; simp at this; omega)
        clear hba
        go_wp2_with fail
        refine (HE.out _).mono ?_
        rintro e wb ⟨rfl, hbb⟩
        have hd0 : wb.cell? ⟨wr.heap.size, 0, none⟩ = some (.int .i64 (op : Int)) := (hbb.cell (p := ⟨wr.heap.size, 0, none⟩) HZA.out).trans hc0
        have hd1 : wb.cell? ⟨wr.heap.size, 1, none⟩ = some (.int .i64 (x / 128 % 32)) := (hbb.cell (p := ⟨wr.heap.size, 1, none⟩) HZA.out).trans hc1
        have hd2 : wb.cell? ⟨wr.heap.size, 2, none⟩ = some (.int .i64 (x / 32768 % 32)) := (hbb.cell (p := ⟨wr.heap.size, 2, none⟩) HZA.out).trans hc2
        have hd3 : wb.cell? ⟨wr.heap.size, 3, none⟩ = some (.int .i64 0) := (hbb.cell (p := ⟨wr.heap.size, 3, none⟩) HZA.out).trans hc3
        have hd4 : wb.cell? ⟨wr.heap.size, 4, none⟩ = some (.int .u32 0) := (hbb.cell (p := ⟨wr.heap.size, 4, none⟩) HZA.out).trans hc4
        have hd5 : wb.cell? ⟨wr.heap.size, 5, none⟩ = some (.bool (x / 67108864 % 2 == 1)) := (hbb.cell (p := ⟨wr.heap.size, 5, none⟩) HZA.out).trans hc5
        have hd6 : wb.cell? ⟨wr.heap.size, 6, none⟩ = some (.bool (x / 33554432 % 2 == 1)) := (hbb.cell (p := ⟨wr.heap.size, 6, none⟩) HZA.out).trans hc6
        clear hc0 hc1 hc2 hc3 hc4 hc5 hc6
        have hr0 : wb.cell? ⟨w.heap.size, 0, none⟩ = some (.int .i64 0) := (hbb.cell (p := ⟨w.heap.size, 0, none⟩) (by have := HZA.out; have := HRES.out.lt; show w.heap.size < _; omega)).trans ((HBA.out.cell (p := ⟨w.heap.size, 0, none⟩) HRES.out.lt).trans (by rw [cell_of_row wr _ 0 _ _ _ HRES.out]; rfl))
        have hf0 : wb.frozen? ⟨w.heap.size, 0, none⟩ = false := (hbb.frozen (p := ⟨w.heap.size, 0, none⟩) (by have := HZA.out; have := HRES.out.lt; show w.heap.size < _; omega)).trans ((HBA.out.frozen (p := ⟨w.heap.size, 0, none⟩) HRES.out.lt).trans (frozen_of_row wr _ 0 _ _ HRES.out))
        have hr1 : wb.cell? ⟨w.heap.size, 1, none⟩ = some (.int .i64 0) := (hbb.cell (p := ⟨w.heap.size, 1, none⟩) (by have := HZA.out; have := HRES.out.lt; show w.heap.size < _; omega)).trans ((HBA.out.cell (p := ⟨w.heap.size, 1, none⟩) HRES.out.lt).trans (by rw [cell_of_row wr _ 1 _ _ _ HRES.out]; rfl))
        have hf1 : wb.frozen? ⟨w.heap.size, 1, none⟩ = false := (hbb.frozen (p := ⟨w.heap.size, 1, none⟩) (by have := HZA.out; have := HRES.out.lt; show w.heap.size < _; omega)).trans ((HBA.out.frozen (p := ⟨w.heap.size, 1, none⟩) HRES.out.lt).trans (frozen_of_row wr _ 1 _ _ HRES.out))
        have hr2 : wb.cell? ⟨w.heap.size, 2, none⟩ = some (.int .i64 0) := (hbb.cell (p := ⟨w.heap.size, 2, none⟩) (by have := HZA.out; have := HRES.out.lt; show w.heap.size < _; omega)).trans ((HBA.out.cell (p := ⟨w.heap.size, 2, none⟩) HRES.out.lt).trans (by rw [cell_of_row wr _ 2 _ _ _ HRES.out]; rfl))
        have hf2 : wb.frozen? ⟨w.heap.size, 2, none⟩ = false := (hbb.frozen (p := ⟨w.heap.size, 2, none⟩) (by have := HZA.out; have := HRES.out.lt; show w.heap.size < _; omega)).trans ((HBA.out.frozen (p := ⟨w.heap.size, 2, none⟩) HRES.out.lt).trans (frozen_of_row wr _ 2 _ _ HRES.out))
        have hr3 : wb.cell? ⟨w.heap.size, 3, none⟩ = some (.int .i64 0) := (hbb.cell (p := ⟨w.heap.size, 3, none⟩) (by have := HZA.out; have := HRES.out.lt; show w.heap.size < _; omega)).trans ((HBA.out.cell (p := ⟨w.heap.size, 3, none⟩) HRES.out.lt).trans (by rw [cell_of_row wr _ 3 _ _ _ HRES.out]; rfl))
        have hf3 : wb.frozen? ⟨w.heap.size, 3, none⟩ = false := (hbb.frozen (p := ⟨w.heap.size, 3, none⟩) (by have := HZA.out; have := HRES.out.lt; show w.heap.size < _; omega)).trans ((HBA.out.frozen (p := ⟨w.heap.size, 3, none⟩) HRES.out.lt).trans (frozen_of_row wr _ 3 _ _ HRES.out))
        have hr4 : wb.cell? ⟨w.heap.size, 4, none⟩ = some (.int .u32 0) := (hbb.cell (p := ⟨w.heap.size, 4, none⟩) (by have := HZA.out; have := HRES.out.lt; show w.heap.size < _; omega)).trans ((HBA.out.cell (p := ⟨w.heap.size, 4, none⟩) HRES.out.lt).trans (by rw [cell_of_row wr _ 4 _ _ _ HRES.out]; rfl))
        have hf4 : wb.frozen? ⟨w.heap.size, 4, none⟩ = false := (hbb.frozen (p := ⟨w.heap.size, 4, none⟩) (by have := HZA.out; have := HRES.out.lt; show w.heap.size < _; omega)).trans ((HBA.out.frozen (p := ⟨w.heap.size, 4, none⟩) HRES.out.lt).trans (frozen_of_row wr _ 4 _ _ HRES.out))
        have hr5 : wb.cell? ⟨w.heap.size, 5, none⟩ = some (.bool false) := (hbb.cell (p := ⟨w.heap.size, 5, none⟩) (by have := HZA.out; have := HRES.out.lt; show w.heap.size < _; omega)).trans ((HBA.out.cell (p := ⟨w.heap.size, 5, none⟩) HRES.out.lt).trans (by rw [cell_of_row wr _ 5 _ _ _ HRES.out]; rfl))
        have hf5 : wb.frozen? ⟨w.heap.size, 5, none⟩ = false := (hbb.frozen (p := ⟨w.heap.size, 5, none⟩) (by have := HZA.out; have := HRES.out.lt; show w.heap.size < _; omega)).trans ((HBA.out.frozen (p := ⟨w.heap.size, 5, none⟩) HRES.out.lt).trans (frozen_of_row wr _ 5 _ _ HRES.out))
        have hr6 : wb.cell? ⟨w.heap.size, 6, none⟩ = some (.bool false) := (hbb.cell (p := ⟨w.heap.size, 6, none⟩) (by have := HZA.out; have := HRES.out.lt; show w.heap.size < _; omega)).trans ((HBA.out.cell (p := ⟨w.heap.size, 6, none⟩) HRES.out.lt).trans (by rw [cell_of_row wr _ 6 _ _ _ HRES.out]; rfl))
        have hf6 : wb.frozen? ⟨w.heap.size, 6, none⟩ = false := (hbb.frozen (p := ⟨w.heap.size, 6, none⟩) (by have := HZA.out; have := HRES.out.lt; show w.heap.size < _; omega)).trans ((HBA.out.frozen (p := ⟨w.heap.size, 6, none⟩) HRES.out.lt).trans (frozen_of_row wr _ 6 _ _ HRES.out))
        have HBB := Lib.hid (HBA.out.trans (hbb.mono (by have := HZA.out; omega)))
        clear hbb
        by_cases hh : Is.wordX op x = x
        · have HH := Lib.hid (Is.hit_of_word HO.out HX.out hh)
          have t1 : (Is.wordX op x == x) = true := by rw [hh]; exact beq_self_eq_true _
          clear hh
          go_wp2_with fail
          rw [← HQ.out]
          refine bodyPost_ret (v := .tuple #[inst op (Is.rdO (Is.fm op) x) (Is.rs1O (Is.fm op) x) (Is.rs2O (Is.fm op) x) (Is.immO (Is.fm op) x) (Is.aqO (Is.fm op) x) (Is.rlO (Is.fm op) x), .bool true]) (by rw [HQ.out]; simp [results, Tryz.results34, go_sem, hr0, hr1, hr2, hr3, hr4, hr5, hr6]) rfl ⟨.inl ⟨op, HO.out, HH.out, rfl⟩, ?_⟩
          exact below_seven0 (HBW.out.trans (HBB.out.mono HBW.out.size)) (Nat.le_refl _)
        · have HH := Lib.hid (fun h1 : Is.hit (Is.fm op) x op => hh (Is.word_of_hit HO.out HX.out h1))
          have t1 : (Is.wordX op x == x) = false := beq_eq_false_iff_ne.2 hh
          clear hh
          go_wp2_with fail
          go_roundw
          case rel => exact ⟨op + 1, by omega, by go_num, fun q hq => by
            rcases (show (1 ≤ q ∧ q < op) ∨ q = op by omega) with h1 | h1
            · exact HNO.out q h1
            · rw [h1]; exact HH.out, HRES.out.below HBB.out, HBW.out.trans (HBB.out.mono HBW.out.size)⟩
          case measure => simp [intOf]; omega
      · have HF := Lib.hid (show Is.fb (Is.fm op) = 99 by rw [hk]; rfl)
        have HM := Lib.hid (fun w => (show Calls Tryz.prog 61 #[.agg #[.int .i64 (op : Int), .int .i64 (x / 128 % 32), .int .i64 0, .int .i64 0, .int .u32 0, .bool false, .bool false]] w fun e w' => e = .returned (.bool true) ∧ Below w.heap.size w w' from by
          have hm := Is.may_take (Is.fm op) (Is.fm_in op HO.out) HX.out
          have h0 := rmay_yes op HO.out _ _ _ _ _ _ (Is.immO_wd (Is.fm op) HX.out) hm w
          rw [hk] at h0
          exact h0))
        have HE := Lib.hid (fun w => (show Calls Tryz.prog 62 #[.agg #[.int .i64 (op : Int), .int .i64 (x / 128 % 32), .int .i64 0, .int .i64 0, .int .u32 0, .bool false, .bool false]] w fun e w' => e = .returned (.int .u32 (Is.wordX op x)) ∧ Below w.heap.size w w' from by
          have hm := Is.may_take (Is.fm op) (Is.fm_in op HO.out) HX.out
          have h0 := renc_yes op HO.out _ _ _ _ _ _ (Is.immO_wd (Is.fm op) HX.out) hm w
          change Calls _ _ _ _ fun e w' => e = .returned (.int .u32 (Is.wordX op x)) ∧ _ at h0
          rw [hk] at h0
          exact h0))
        have HQ := Lib.hid (show inst op (Is.rdO (Is.fm op) x) (Is.rs1O (Is.fm op) x) (Is.rs2O (Is.fm op) x) (Is.immO (Is.fm op) x) (Is.aqO (Is.fm op) x) (Is.rlO (Is.fm op) x) = .agg #[.int .i64 (op : Int), .int .i64 (x / 128 % 32), .int .i64 0, .int .i64 0, .int .u32 0, .bool false, .bool false] by rw [hk]; rfl)
        clear hk
        go_wp2_with (first
          | (go_at_call 57; refine (rform_yes op HO.out _).mono ?_; rw [HF.out]; rintro e w' ⟨rfl, rfl⟩)
          | (go_at_call 60; with_reducible refine (rpow_lit 20 1048576 (by omega) rfl _).mono ?_; rintro e w' ⟨rfl, rfl⟩)
          | (go_at_call 60; with_reducible refine (rpow_lit 12 4096 (by omega) rfl _).mono ?_; rintro e w' ⟨rfl, rfl⟩)
          | (go_at_call 60; with_reducible refine (rpow_lit 11 2048 (by omega) rfl _).mono ?_; rintro e w' ⟨rfl, rfl⟩)
          | (go_at_call 58; with_reducible refine (rbits_lit x 11 7 _ HX.out (by omega) (by omega) (by omega) (Is.bt_11_7 x) _).mono ?_; rintro e w' ⟨rfl, rfl⟩)
          | (go_at_call 58; with_reducible refine (rbits_lit x 19 15 _ HX.out (by omega) (by omega) (by omega) (Is.bt_19_15 x) _).mono ?_; rintro e w' ⟨rfl, rfl⟩)
          | (go_at_call 58; with_reducible refine (rbits_lit x 24 20 _ HX.out (by omega) (by omega) (by omega) (Is.bt_24_20 x) _).mono ?_; rintro e w' ⟨rfl, rfl⟩)
          | (go_at_call 58; with_reducible refine (rbits_lit x 31 31 _ HX.out (by omega) (by omega) (by omega) (Is.bt_31_31 x) _).mono ?_; rintro e w' ⟨rfl, rfl⟩)
          | (go_at_call 58; with_reducible refine (rbits_lit x 19 12 _ HX.out (by omega) (by omega) (by omega) (Is.bt_19_12 x) _).mono ?_; rintro e w' ⟨rfl, rfl⟩)
          | (go_at_call 58; with_reducible refine (rbits_lit x 20 20 _ HX.out (by omega) (by omega) (by omega) (Is.bt_20_20 x) _).mono ?_; rintro e w' ⟨rfl, rfl⟩)
          | (go_at_call 58; with_reducible refine (rbits_lit x 30 21 _ HX.out (by omega) (by omega) (by omega) (Is.bt_30_21 x) _).mono ?_; rintro e w' ⟨rfl, rfl⟩)
          | (go_at_call 58; with_reducible refine (rbits_lit x 7 7 _ HX.out (by omega) (by omega) (by omega) (Is.bt_7_7 x) _).mono ?_; rintro e w' ⟨rfl, rfl⟩)
          | (go_at_call 58; with_reducible refine (rbits_lit x 30 25 _ HX.out (by omega) (by omega) (by omega) (Is.bt_30_25 x) _).mono ?_; rintro e w' ⟨rfl, rfl⟩)
          | (go_at_call 58; with_reducible refine (rbits_lit x 11 8 _ HX.out (by omega) (by omega) (by omega) (Is.bt_11_8 x) _).mono ?_; rintro e w' ⟨rfl, rfl⟩)
          | (go_at_call 58; with_reducible refine (rbits_lit x 31 25 _ HX.out (by omega) (by omega) (by omega) (Is.bt_31_25 x) _).mono ?_; rintro e w' ⟨rfl, rfl⟩)
          | (go_at_call 58; with_reducible refine (rbits_lit x 31 20 _ HX.out (by omega) (by omega) (by omega) (Is.bt_31_20 x) _).mono ?_; rintro e w' ⟨rfl, rfl⟩)
          | (go_at_call 58; with_reducible refine (rbits_lit x 27 20 _ HX.out (by omega) (by omega) (by omega) (Is.bt_27_20 x) _).mono ?_; rintro e w' ⟨rfl, rfl⟩)
          | (go_at_call 58; with_reducible refine (rbits_lit x 26 26 _ HX.out (by omega) (by omega) (by omega) (Is.bt_26_26 x) _).mono ?_; rintro e w' ⟨rfl, rfl⟩)
          | (go_at_call 58; with_reducible refine (rbits_lit x 25 25 _ HX.out (by omega) (by omega) (by omega) (Is.bt_25_25 x) _).mono ?_; rintro e w' ⟨rfl, rfl⟩)
          | (go_at_call 59; with_reducible refine (rsign_jumpImm x HX.out _).mono ?_; rintro e w' ⟨rfl, rfl⟩)
          | (go_at_call 59; with_reducible refine (rsign_branchImm x HX.out _).mono ?_; rintro e w' ⟨rfl, rfl⟩)
          | (go_at_call 59; with_reducible refine (rsign_storeImm x HX.out _).mono ?_; rintro e w' ⟨rfl, rfl⟩)
          | (go_at_call 59; with_reducible refine (rsign_shortImm x HX.out _).mono ?_; rintro e w' ⟨rfl, rfl⟩))
        refine (HM.out _).mono ?_
        rintro e wa ⟨rfl, hba⟩
        have hc0 : wa.cell? ⟨wr.heap.size, 0, none⟩ = some (.int .i64 (op : Int)) := (hba.cell (p := ⟨wr.heap.size, 0, none⟩) (by simp)).trans (by go_simp)
        have hc1 : wa.cell? ⟨wr.heap.size, 1, none⟩ = some (.int .i64 (x / 128 % 32)) := (hba.cell (p := ⟨wr.heap.size, 1, none⟩) (by simp)).trans (by go_simp)
        have hc2 : wa.cell? ⟨wr.heap.size, 2, none⟩ = some (.int .i64 0) := (hba.cell (p := ⟨wr.heap.size, 2, none⟩) (by simp)).trans (by go_simp)
        have hc3 : wa.cell? ⟨wr.heap.size, 3, none⟩ = some (.int .i64 0) := (hba.cell (p := ⟨wr.heap.size, 3, none⟩) (by simp)).trans (by go_simp)
        have hc4 : wa.cell? ⟨wr.heap.size, 4, none⟩ = some (.int .u32 0) := (hba.cell (p := ⟨wr.heap.size, 4, none⟩) (by simp)).trans (by go_simp)
        have hc5 : wa.cell? ⟨wr.heap.size, 5, none⟩ = some (.bool false) := (hba.cell (p := ⟨wr.heap.size, 5, none⟩) (by simp)).trans (by go_simp)
        have hc6 : wa.cell? ⟨wr.heap.size, 6, none⟩ = some (.bool false) := (hba.cell (p := ⟨wr.heap.size, 6, none⟩) (by simp)).trans (by go_simp)
        have HBA := Lib.hid (((Below.refl _ wr).alloc (Nat.le_refl _) _).trans (hba.mono (by simp)))
        have HZA := Lib.hid (show wr.heap.size < wa.heap.size by have := hba.size; simp at this; omega)
        clear hba
        go_wp2_with fail
        refine (HE.out _).mono ?_
        rintro e wb ⟨rfl, hbb⟩
        have hd0 : wb.cell? ⟨wr.heap.size, 0, none⟩ = some (.int .i64 (op : Int)) := (hbb.cell (p := ⟨wr.heap.size, 0, none⟩) HZA.out).trans hc0
        have hd1 : wb.cell? ⟨wr.heap.size, 1, none⟩ = some (.int .i64 (x / 128 % 32)) := (hbb.cell (p := ⟨wr.heap.size, 1, none⟩) HZA.out).trans hc1
        have hd2 : wb.cell? ⟨wr.heap.size, 2, none⟩ = some (.int .i64 0) := (hbb.cell (p := ⟨wr.heap.size, 2, none⟩) HZA.out).trans hc2
        have hd3 : wb.cell? ⟨wr.heap.size, 3, none⟩ = some (.int .i64 0) := (hbb.cell (p := ⟨wr.heap.size, 3, none⟩) HZA.out).trans hc3
        have hd4 : wb.cell? ⟨wr.heap.size, 4, none⟩ = some (.int .u32 0) := (hbb.cell (p := ⟨wr.heap.size, 4, none⟩) HZA.out).trans hc4
        have hd5 : wb.cell? ⟨wr.heap.size, 5, none⟩ = some (.bool false) := (hbb.cell (p := ⟨wr.heap.size, 5, none⟩) HZA.out).trans hc5
        have hd6 : wb.cell? ⟨wr.heap.size, 6, none⟩ = some (.bool false) := (hbb.cell (p := ⟨wr.heap.size, 6, none⟩) HZA.out).trans hc6
        clear hc0 hc1 hc2 hc3 hc4 hc5 hc6
        have hr0 : wb.cell? ⟨w.heap.size, 0, none⟩ = some (.int .i64 0) := (hbb.cell (p := ⟨w.heap.size, 0, none⟩) (by have := HZA.out; have := HRES.out.lt; show w.heap.size < _; omega)).trans ((HBA.out.cell (p := ⟨w.heap.size, 0, none⟩) HRES.out.lt).trans (by rw [cell_of_row wr _ 0 _ _ _ HRES.out]; rfl))
        have hf0 : wb.frozen? ⟨w.heap.size, 0, none⟩ = false := (hbb.frozen (p := ⟨w.heap.size, 0, none⟩) (by have := HZA.out; have := HRES.out.lt; show w.heap.size < _; omega)).trans ((HBA.out.frozen (p := ⟨w.heap.size, 0, none⟩) HRES.out.lt).trans (frozen_of_row wr _ 0 _ _ HRES.out))
        have hr1 : wb.cell? ⟨w.heap.size, 1, none⟩ = some (.int .i64 0) := (hbb.cell (p := ⟨w.heap.size, 1, none⟩) (by have := HZA.out; have := HRES.out.lt; show w.heap.size < _; omega)).trans ((HBA.out.cell (p := ⟨w.heap.size, 1, none⟩) HRES.out.lt).trans (by rw [cell_of_row wr _ 1 _ _ _ HRES.out]; rfl))
        have hf1 : wb.frozen? ⟨w.heap.size, 1, none⟩ = false := (hbb.frozen (p := ⟨w.heap.size, 1, none⟩) (by have := HZA.out; have := HRES.out.lt; show w.heap.size < _; omega)).trans ((HBA.out.frozen (p := ⟨w.heap.size, 1, none⟩) HRES.out.lt).trans (frozen_of_row wr _ 1 _ _ HRES.out))
        have hr2 : wb.cell? ⟨w.heap.size, 2, none⟩ = some (.int .i64 0) := (hbb.cell (p := ⟨w.heap.size, 2, none⟩) (by have := HZA.out; have := HRES.out.lt; show w.heap.size < _; omega)).trans ((HBA.out.cell (p := ⟨w.heap.size, 2, none⟩) HRES.out.lt).trans (by rw [cell_of_row wr _ 2 _ _ _ HRES.out]; rfl))
        have hf2 : wb.frozen? ⟨w.heap.size, 2, none⟩ = false := (hbb.frozen (p := ⟨w.heap.size, 2, none⟩) (by have := HZA.out; have := HRES.out.lt; show w.heap.size < _; omega)).trans ((HBA.out.frozen (p := ⟨w.heap.size, 2, none⟩) HRES.out.lt).trans (frozen_of_row wr _ 2 _ _ HRES.out))
        have hr3 : wb.cell? ⟨w.heap.size, 3, none⟩ = some (.int .i64 0) := (hbb.cell (p := ⟨w.heap.size, 3, none⟩) (by have := HZA.out; have := HRES.out.lt; show w.heap.size < _; omega)).trans ((HBA.out.cell (p := ⟨w.heap.size, 3, none⟩) HRES.out.lt).trans (by rw [cell_of_row wr _ 3 _ _ _ HRES.out]; rfl))
        have hf3 : wb.frozen? ⟨w.heap.size, 3, none⟩ = false := (hbb.frozen (p := ⟨w.heap.size, 3, none⟩) (by have := HZA.out; have := HRES.out.lt; show w.heap.size < _; omega)).trans ((HBA.out.frozen (p := ⟨w.heap.size, 3, none⟩) HRES.out.lt).trans (frozen_of_row wr _ 3 _ _ HRES.out))
        have hr4 : wb.cell? ⟨w.heap.size, 4, none⟩ = some (.int .u32 0) := (hbb.cell (p := ⟨w.heap.size, 4, none⟩) (by have := HZA.out; have := HRES.out.lt; show w.heap.size < _; omega)).trans ((HBA.out.cell (p := ⟨w.heap.size, 4, none⟩) HRES.out.lt).trans (by rw [cell_of_row wr _ 4 _ _ _ HRES.out]; rfl))
        have hf4 : wb.frozen? ⟨w.heap.size, 4, none⟩ = false := (hbb.frozen (p := ⟨w.heap.size, 4, none⟩) (by have := HZA.out; have := HRES.out.lt; show w.heap.size < _; omega)).trans ((HBA.out.frozen (p := ⟨w.heap.size, 4, none⟩) HRES.out.lt).trans (frozen_of_row wr _ 4 _ _ HRES.out))
        have hr5 : wb.cell? ⟨w.heap.size, 5, none⟩ = some (.bool false) := (hbb.cell (p := ⟨w.heap.size, 5, none⟩) (by have := HZA.out; have := HRES.out.lt; show w.heap.size < _; omega)).trans ((HBA.out.cell (p := ⟨w.heap.size, 5, none⟩) HRES.out.lt).trans (by rw [cell_of_row wr _ 5 _ _ _ HRES.out]; rfl))
        have hf5 : wb.frozen? ⟨w.heap.size, 5, none⟩ = false := (hbb.frozen (p := ⟨w.heap.size, 5, none⟩) (by have := HZA.out; have := HRES.out.lt; show w.heap.size < _; omega)).trans ((HBA.out.frozen (p := ⟨w.heap.size, 5, none⟩) HRES.out.lt).trans (frozen_of_row wr _ 5 _ _ HRES.out))
        have hr6 : wb.cell? ⟨w.heap.size, 6, none⟩ = some (.bool false) := (hbb.cell (p := ⟨w.heap.size, 6, none⟩) (by have := HZA.out; have := HRES.out.lt; show w.heap.size < _; omega)).trans ((HBA.out.cell (p := ⟨w.heap.size, 6, none⟩) HRES.out.lt).trans (by rw [cell_of_row wr _ 6 _ _ _ HRES.out]; rfl))
        have hf6 : wb.frozen? ⟨w.heap.size, 6, none⟩ = false := (hbb.frozen (p := ⟨w.heap.size, 6, none⟩) (by have := HZA.out; have := HRES.out.lt; show w.heap.size < _; omega)).trans ((HBA.out.frozen (p := ⟨w.heap.size, 6, none⟩) HRES.out.lt).trans (frozen_of_row wr _ 6 _ _ HRES.out))
        have HBB := Lib.hid (HBA.out.trans (hbb.mono (by have := HZA.out; omega)))
        clear hbb
        by_cases hh : Is.wordX op x = x
        · have HH := Lib.hid (Is.hit_of_word HO.out HX.out hh)
          have t1 : (Is.wordX op x == x) = true := by rw [hh]; exact beq_self_eq_true _
          clear hh
          go_wp2_with fail
          rw [← HQ.out]
          refine bodyPost_ret (v := .tuple #[inst op (Is.rdO (Is.fm op) x) (Is.rs1O (Is.fm op) x) (Is.rs2O (Is.fm op) x) (Is.immO (Is.fm op) x) (Is.aqO (Is.fm op) x) (Is.rlO (Is.fm op) x), .bool true]) (by rw [HQ.out]; simp [results, Tryz.results34, go_sem, hr0, hr1, hr2, hr3, hr4, hr5, hr6]) rfl ⟨.inl ⟨op, HO.out, HH.out, rfl⟩, ?_⟩
          exact below_seven0 (HBW.out.trans (HBB.out.mono HBW.out.size)) (Nat.le_refl _)
        · have HH := Lib.hid (fun h1 : Is.hit (Is.fm op) x op => hh (Is.word_of_hit HO.out HX.out h1))
          have t1 : (Is.wordX op x == x) = false := beq_eq_false_iff_ne.2 hh
          clear hh
          go_wp2_with fail
          go_roundw
          case rel => exact ⟨op + 1, by omega, by go_num, fun q hq => by
            rcases (show (1 ≤ q ∧ q < op) ∨ q = op by omega) with h1 | h1
            · exact HNO.out q h1
            · rw [h1]; exact HH.out, HRES.out.below HBB.out, HBW.out.trans (HBB.out.mono HBW.out.size)⟩
          case measure => simp [intOf]; omega
    · obtain rfl : op = 60 := by omega
      have hr0 : wr.cell? ⟨w.heap.size, 0, none⟩ = some (.int .i64 0) := by rw [cell_of_row wr _ 0 _ _ _ HRES.out]; rfl
      have hf0 : wr.frozen? ⟨w.heap.size, 0, none⟩ = false := frozen_of_row wr _ 0 _ _ HRES.out
      have hr1 : wr.cell? ⟨w.heap.size, 1, none⟩ = some (.int .i64 0) := by rw [cell_of_row wr _ 1 _ _ _ HRES.out]; rfl
      have hf1 : wr.frozen? ⟨w.heap.size, 1, none⟩ = false := frozen_of_row wr _ 1 _ _ HRES.out
      have hr2 : wr.cell? ⟨w.heap.size, 2, none⟩ = some (.int .i64 0) := by rw [cell_of_row wr _ 2 _ _ _ HRES.out]; rfl
      have hf2 : wr.frozen? ⟨w.heap.size, 2, none⟩ = false := frozen_of_row wr _ 2 _ _ HRES.out
      have hr3 : wr.cell? ⟨w.heap.size, 3, none⟩ = some (.int .i64 0) := by rw [cell_of_row wr _ 3 _ _ _ HRES.out]; rfl
      have hf3 : wr.frozen? ⟨w.heap.size, 3, none⟩ = false := frozen_of_row wr _ 3 _ _ HRES.out
      have hr4 : wr.cell? ⟨w.heap.size, 4, none⟩ = some (.int .u32 0) := by rw [cell_of_row wr _ 4 _ _ _ HRES.out]; rfl
      have hf4 : wr.frozen? ⟨w.heap.size, 4, none⟩ = false := frozen_of_row wr _ 4 _ _ HRES.out
      have hr5 : wr.cell? ⟨w.heap.size, 5, none⟩ = some (.bool false) := by rw [cell_of_row wr _ 5 _ _ _ HRES.out]; rfl
      have hf5 : wr.frozen? ⟨w.heap.size, 5, none⟩ = false := frozen_of_row wr _ 5 _ _ HRES.out
      have hr6 : wr.cell? ⟨w.heap.size, 6, none⟩ = some (.bool false) := by rw [cell_of_row wr _ 6 _ _ _ HRES.out]; rfl
      have hf6 : wr.frozen? ⟨w.heap.size, 6, none⟩ = false := frozen_of_row wr _ 6 _ _ HRES.out
      go_wp2_with fail
      refine bodyPost_ret (v := .tuple #[inst 0 0 0 0 0 false false, .bool false]) (by simp [results, Tryz.results34, go_sem, hr0, hr1, hr2, hr3, hr4, hr5, hr6, inst]) rfl ⟨.inr ⟨fun q hq => HNO.out q (by omega), rfl⟩, ?_⟩
      exact below_seven0 HBW.out (Nat.le_refl _)
theorem rdec_is (x : Int) (hx : Is.Wd x) (op : Nat) (h : 1 ≤ op ∧ op ≤ 59) (h1 : Is.hit (Is.fm op) x op) (w : World) :
    Calls Tryz.prog 34 #[.int .u32 x] w fun e w' => e = .returned (.tuple #[inst op (Is.rdO (Is.fm op) x) (Is.rs1O (Is.fm op) x) (Is.rs2O (Is.fm op) x) (Is.immO (Is.fm op) x) (Is.aqO (Is.fm op) x) (Is.rlO (Is.fm op) x), .bool true]) ∧ Below w.heap.size w w' :=
  (rdec_any x hx w).mono fun e w' ⟨he, hb⟩ => by
    rcases he with ⟨q, hq, hh, he⟩ | ⟨hn, he⟩
    · have := Is.hit_one hx h hq h1 hh
      subst this
      exact ⟨he, hb⟩
    · exact absurd h1 (hn op h)
theorem rdec_none (x : Int) (hx : Is.Wd x) (h : ∀ op : Nat, 1 ≤ op ∧ op ≤ 59 → ¬ Is.hit (Is.fm op) x op) (w : World) :
    Calls Tryz.prog 34 #[.int .u32 x] w fun e w' => e = .returned (.tuple #[inst 0 0 0 0 0 false false, .bool false]) ∧ Below w.heap.size w w' :=
  (rdec_any x hx w).mono fun e w' ⟨he, hb⟩ => by
    rcases he with ⟨q, hq, hh, he⟩ | ⟨hn, he⟩
    · exact absurd hh (h q hq)
    · exact ⟨he, hb⟩
end Go.Proofs.YtianojbdabeoeaaGreatDoor
end
