/-
  What a meaning is: what it leaves, or why it halts.
-/
import Derived.Test.YtianojbdabeoeaaGreatDoorHtMem
import Derived.Test.YtianojbdabeoeaaGreatDoorQuot
import Derived.Deep.RegionWith
namespace Go.Proofs.YtianojbdabeoeaaGreatDoor
open Go.RowKit
set_option linter.unusedVariables false
namespace Ht
/-- what a step keeps to -/
structure GoodS (s : S) : Prop where
  rd : s.i.rd ≤ 31
  rs1 : s.i.rs1 ≤ 31
  rs2 : s.i.rs2 ≤ 31
  imm : Ar.Wd s.i.imm
  R : ∀ k, Ar.Wd (s.h.R k)
  pc : Ar.Wd s.h.pc
  id : 0 ≤ s.h.id ∧ s.h.id ≤ 3
  tv : Ar.Wd s.tv
  size : -9223372036854775808 ≤ s.size ∧ s.size ≤ 9223372036854775807
  ord : s.i.op < 48 → s.i.aq = false ∧ s.i.rl = false
def whyS (s : S) : Int := why s.i.op s.h.pc s.first s.second s.i.imm s.size
def nextS (s : S) : Int := if jumps s.i.op s.first s.second then place s.i.op s.h.pc s.first s.i.imm else s.next
/-- a step behind its meaning -/
def after (s : S) : S :=
  { s with h := if has s.i.op then put s.h s.i.rd (val s.i.op s.h.pc s.h.id s.first s.second s.i.imm s.tv s.tok) else s.h,
           a := acc s.i.op s.first s.second s.i.imm s.i.aq s.i.rl, next := nextS s }
def Means (f : Nat) (p : Nat) (w : World) (s : S) : Prop :=
  (whyS s = 0 → Calls Tryz.prog f #[.pointer (some ⟨p, 0, none⟩)] w fun e w' => e = .returned (.tuple #[]) ∧ Lv p w w' (after s)) ∧
  (whyS s ≠ 0 → Calls Tryz.prog f #[.pointer (some ⟨p, 0, none⟩)] w fun e w' => Halts (whyS s) p w e w')
/-- what only reckons goes on -/
theorem why_plain (s : S) {op : Nat} (hop : s.i.op = op) (h0 : width op = 0) (h1 : op ≠ 39) (h2 : op ≠ 3 ∧ op ≠ 4) (h3 : ∀ a b, taken op a b = false) : whyS s = 0 := by
  have hj : jumps op s.first s.second = false := by
    unfold jumps
    rw [h3]
    simp [h2.1, h2.2]
  unfold whyS why
  rw [hop, if_neg h1, if_neg (fun h => h.1 h0), if_neg (fun h => h.1 h0), if_neg (fun h => by rw [hj] at h; exact Bool.false_ne_true h.1)]
theorem bit_of (op : Nat) (h : 5 ≤ op ∧ op ≤ 10) : width op = 0 ∧ has op = false ∧ (op == 3) = false ∧ (op == 4) = false := by
  rcases (show op = 5 ∨ op = 6 ∨ op = 7 ∨ op = 8 ∨ op = 9 ∨ op = 10 by omega) with rfl | rfl | rfl | rfl | rfl | rfl <;> exact ⟨rfl, rfl, rfl, rfl⟩
theorem acc_none (op : Nat) (h : op ≤ 10) (a b imm : Int) (aq rl : Bool) : acc op a b imm aq rl = A0 := by
  unfold acc
  rw [if_neg (by omega), if_neg (by omega), if_neg (by omega), if_neg (by omega), if_neg (by omega), if_neg (by omega)]
theorem why_jump (s : S) (h5 : 5 ≤ s.i.op) (h10 : s.i.op ≤ 10) (ht : taken s.i.op s.first s.second = true) : whyS s = if Ar.add s.h.pc s.i.imm % 4 ≠ 0 then 3 else 0 := by
  obtain ⟨b1, b2, b3, b4⟩ := bit_of s.i.op ⟨h5, h10⟩
  have hj : jumps s.i.op s.first s.second = true := by unfold jumps; rw [ht]; simp
  have hp : place s.i.op s.h.pc s.first s.i.imm = Ar.add s.h.pc s.i.imm := by unfold place; rw [if_neg (by omega)]
  unfold whyS why
  rw [if_neg (by omega), if_neg (fun h => h.1 b1), if_neg (fun h => h.1 b1), hj, hp]
  simp
theorem why_stay (s : S) (h5 : 5 ≤ s.i.op) (h10 : s.i.op ≤ 10) (ht : taken s.i.op s.first s.second = false) : whyS s = 0 := by
  obtain ⟨b1, b2, b3, b4⟩ := bit_of s.i.op ⟨h5, h10⟩
  have hj : jumps s.i.op s.first s.second = false := by unfold jumps; rw [ht, b3, b4]; rfl
  unfold whyS why
  rw [if_neg (by omega), if_neg (fun h => h.1 b1), if_neg (fun h => h.1 b1), hj]
  simp
theorem after_jump (s : S) (h5 : 5 ≤ s.i.op) (h10 : s.i.op ≤ 10) (ht : taken s.i.op s.first s.second = true) (hA : s.a = A0) : after s = { s with next := Ar.add s.h.pc s.i.imm } := by
  obtain ⟨b1, b2, b3, b4⟩ := bit_of s.i.op ⟨h5, h10⟩
  have hj : jumps s.i.op s.first s.second = true := by unfold jumps; rw [ht]; simp
  have hp : place s.i.op s.h.pc s.first s.i.imm = Ar.add s.h.pc s.i.imm := by unfold place; rw [if_neg (by omega)]
  unfold after nextS
  rw [b2, hj, hp, acc_none _ h10, ← hA]
  rfl
theorem after_stay (s : S) (h5 : 5 ≤ s.i.op) (h10 : s.i.op ≤ 10) (ht : taken s.i.op s.first s.second = false) (hA : s.a = A0) : after s = s := by
  obtain ⟨b1, b2, b3, b4⟩ := bit_of s.i.op ⟨h5, h10⟩
  have hj : jumps s.i.op s.first s.second = false := by unfold jumps; rw [ht, b3, b4]; rfl
  unfold after nextS
  rw [b2, hj, acc_none _ h10, ← hA]
  rfl
end Ht
end Go.Proofs.YtianojbdabeoeaaGreatDoor
