/-
  The word of an instruction: the program's Encode.
-/
import Derived.Test.YtianojbdabeoeaaGreatDoorIsPick
import Derived.Deep.Cut
namespace Go.Proofs.YtianojbdabeoeaaGreatDoor
open Go.RowKit Go.Maps
set_option linter.unusedVariables false
set_option linter.unusedSimpArgs false

namespace Og
variable {P : Program}
theorem gives_store_row {o : Oper} {ρ : Operand → Value} {w : World} {R : Value → World → Prop} (ty : TypeId) (x y : Operand) (ho : o.op = .store ty x y)
    (g : Nat) (cells : Array Value) (hx : ρ x = .pointer (some ⟨g, 0, none⟩)) (hy : ρ y = .agg cells)
    (t : TypeId) (old : Array Value) (hg : w.heap[g]? = some (.cells old t (0, 0))) (hi : (P.info? ty).map (·.size) = some cells.size)
    (hold : old.size = cells.size) (h1 : cells.all (·.oneCell') = true)
    (h : R undef (w.setRow g cells)) : gives P o ρ w R := by
  unfold gives execOp
  simp only [ho, hx, hy, Instr.storeAt, Instr.sureAddr, Sem.run_bind, Sem.run_pure, Result.andThen_ok, run_storeVar_row w g t ty old cells hg hi hold h1]
  exact h
theorem gives_load_row {o : Oper} {ρ : Operand → Value} {w : World} {R : Value → World → Prop} (ty : TypeId) (x : Operand) (ho : o.op = .load ty x)
    (g : Nat) (hx : ρ x = .pointer (some ⟨g, 0, none⟩)) (t : TypeId) (cs : Array Value) (fr : Nat × Nat) (d : TypeDesc) (hg : w.heap[g]? = some (.cells cs t fr))
    (hu : P.underlying ty = some d) (hd : (match d with | .struct _ | .array _ _ => true | _ => false) = true) (hi : (P.info? ty).map (·.size) = some cs.size)
    (h : R (.agg cs) w) : gives P o ρ w R := by
  unfold gives execOp
  simp only [ho, hx, Instr.loadAt, Instr.sureAddr, Sem.run_bind, Sem.run_pure, Result.andThen_ok, run_loadVar_row w g t ty cs fr d hg hu hd hi]
  exact h
end Og
/-- a form's cells -/
def foc (k : Nat) : Array Value := match fo k with | .agg cs => cs | _ => #[]
theorem fo_agg (k : Nat) (hk : 1 ≤ k ∧ k ≤ 13) : fo k = .agg (foc k) := by
  rcases (show k = 1 ∨ k = 2 ∨ k = 3 ∨ k = 4 ∨ k = 5 ∨ k = 6 ∨ k = 7 ∨ k = 8 ∨ k = 9 ∨ k = 10 ∨ k = 11 ∨ k = 12 ∨ k = 13 by omega) with rfl | rfl | rfl | rfl | rfl | rfl | rfl | rfl | rfl | rfl | rfl | rfl | rfl <;> rfl
theorem foc_size (k : Nat) (hk : 1 ≤ k ∧ k ≤ 13) : (foc k).size = 4 := by
  rcases (show k = 1 ∨ k = 2 ∨ k = 3 ∨ k = 4 ∨ k = 5 ∨ k = 6 ∨ k = 7 ∨ k = 8 ∨ k = 9 ∨ k = 10 ∨ k = 11 ∨ k = 12 ∨ k = 13 by omega) with rfl | rfl | rfl | rfl | rfl | rfl | rfl | rfl | rfl | rfl | rfl | rfl | rfl <;> rfl
theorem foc_one (k : Nat) (hk : 1 ≤ k ∧ k ≤ 13) : (foc k).all (·.oneCell') = true := by
  rcases (show k = 1 ∨ k = 2 ∨ k = 3 ∨ k = 4 ∨ k = 5 ∨ k = 6 ∨ k = 7 ∨ k = 8 ∨ k = 9 ∨ k = 10 ∨ k = 11 ∨ k = 12 ∨ k = 13 by omega) with rfl | rfl | rfl | rfl | rfl | rfl | rfl | rfl | rfl | rfl | rfl | rfl | rfl <;> simp [foc, fo, foL, Value.oneCell']
theorem form_info : (Tryz.prog.info? 169).map (·.size) = some 4 := by kernel_rfl
theorem form_look (k : Nat) (hk : 1 ≤ k ∧ k ≤ 13) {w : World} {b : Nat} (h : w.ownsMap Tryz.prog 164 asHeld b 13 FD) :
    (Instr.lookup 188 (.map (some b)) (.int .i64 (k : Int)) false).run Tryz.prog w = .ok (fo k) w := by
  obtain ⟨v, ps, hrun, hv⟩ := h.lookup lawKind Tryz.underlying188 (z := .agg #[.int .i64 0, .nilFunc, .nilFunc, .nilFunc]) (by kernel_rfl) rfl (keyOf_int_mk Tryz.underlying164 (show (Lit.int .i64 (k : Int)).wf = true by exact WalkArith.wf_i64 (by omega)))
  rw [fd_at k hk.1 hk.2] at hv
  simp only [asHeld, Option.some.injEq, Prod.mk.injEq, DataW.held.injEq] at hv
  rw [hrun, hv.1]

theorem heap_lt {w : World} {g : Nat} {o : Obj} (h : w.heap[g]? = some o) : g < w.heap.size := (Array.getElem?_eq_some_iff.1 h).1
theorem own_old {P : Program} {k : TypeId} {R : Value → Option (DataW Value × List MemPlace)} {b n : Nat} {D : DataW Value} {w w' : World} (h : w.ownsMap P k R b n D) (hb : Below w.heap.size w w') : w'.ownsMap P k R b n D := by
  obtain ⟨es, clock, h1, h2⟩ := h
  exact ⟨es, clock, (hb.block b (heap_lt h1)).trans h1, h2⟩
theorem below_setRow {B g : Nat} {a w : World} {cs : Array Value} (h : Below B a w) (hg : B ≤ g) : Below B a (w.setRow g cs) :=
  h.trans ⟨rfl, rfl, rfl, by simp, fun k hk => setRow_other _ _ _ _ (by omega)⟩
namespace Is
/-- the word that an instruction would have -/
def wordO (op : Nat) (rd rs1 rs2 imm : Int) (aq rl : Bool) : Int := wd op + layO (fm op) rd rs1 rs2 imm aq rl
/-- an instruction that its word tells again -/
def good (op : Nat) (rd rs1 rs2 imm : Int) (aq rl : Bool) : Prop :=
  rdO (fm op) (wordO op rd rs1 rs2 imm aq rl) = rd ∧ rs1O (fm op) (wordO op rd rs1 rs2 imm aq rl) = rs1 ∧ rs2O (fm op) (wordO op rd rs1 rs2 imm aq rl) = rs2 ∧
  immO (fm op) (wordO op rd rs1 rs2 imm aq rl) = imm ∧ aqO (fm op) (wordO op rd rs1 rs2 imm aq rl) = aq ∧ rlO (fm op) (wordO op rd rs1 rs2 imm aq rl) = rl
end Is
/-- what Encode answers -/
def EncPost (op : Nat) (rd rs1 rs2 imm : Int) (aq rl : Bool) (e : Ending) : Prop :=
  (Is.good op rd rs1 rs2 imm aq rl ∧ e = .returned (.tuple #[.int .u32 (Is.wordO op rd rs1 rs2 imm aq rl), .int .i64 0])) ∨ (¬ Is.good op rd rs1 rs2 imm aq rl ∧ e = .returned (.tuple #[.int .u32 0, .int .i64 2]))

end Go.Proofs.YtianojbdabeoeaaGreatDoor
