/-
  What relations stand on: a boxed execution, bonds as plain numbers.
-/
import Derived.Test.YtoicmhidmknfiaaEvPairs
namespace Go.Proofs.Ytoicmhidmknfiaa
open Go.RowKit
set_option linter.unusedVariables false
set_option linter.unusedSimpArgs false
namespace Ev
def bnd (b : Bool) : Int := if b then 1 else 0
def frAt (x : X) (b : Nat) : Int := x.fr.l.getD b 0
def bondRf (x : X) (a b : Nat) : Int := if stores (nth x.ev a).k = false then 2 else bnd (frAt x b == (a : Int))
def bondPo (x : X) (a b : Nat) : Int := if (nth x.ev a).k = 5 ∨ (nth x.ev a).h < (nth x.ev b).h then 2 else bnd (decide ((a : Int) < (b : Int)))
/-- a boxed execution -/
structure Bx (w : World) (q : Nat) (x : X) : Prop where
  row : w.heap[q]? = some (.cells (xcells x).toArray 26 (0, 0))
  xin : XIn w x
theorem Bx.kp {w w' : World} {q : Nat} {x : X} (h : Bx w q x) (hb : Below w.heap.size w w') : Bx w' q x :=
  ⟨(hb.block q (Array.getElem?_eq_some_iff.1 h.row).1).trans h.row, h.xin.kp (kp_below hb)⟩
theorem Bx.c0 {w : World} {q : Nat} {x : X} (h : Bx w q x) : w.cell? ⟨q, 0, none⟩ = some (.slice x.ae x.ev.length x.ce) := by rw [cell_of_row _ _ _ _ _ _ h.row]; rfl
theorem Bx.c1 {w : World} {q : Nat} {x : X} (h : Bx w q x) : w.cell? ⟨q, 1, none⟩ = some (.slice x.fr.a x.fr.l.length x.fr.c) := by rw [cell_of_row _ _ _ _ _ _ h.row]; rfl
theorem Bx.c2 {w : World} {q : Nat} {x : X} (h : Bx w q x) : w.cell? ⟨q, 2, none⟩ = some (.slice x.ao x.od.length x.co) := by rw [cell_of_row _ _ _ _ _ _ h.row]; rfl
theorem bx_new {w : World} {x : X} (h : XIn w x) : Bx (w.alloc (.cells (xcells x).toArray 26)) w.heap.size x :=
  ⟨heap_alloc_new _ _, h.kp (kp_below ((Below.refl _ _).alloc (Nat.le_refl _) _))⟩
def CPost (R : Bool → Prop) (w : World) (e : Ending) (w' : World) : Prop := ∃ b, e = .returned (.bool b) ∧ R b ∧ Below w.heap.size w w'
theorem CPost.mk {R : Bool → Prop} {w : World} {e : Ending} {w' : World} (b : Bool) (h1 : e = .returned (.bool b)) (h2 : R b) (h3 : Below w.heap.size w w') : CPost R w e w' := ⟨b, h1, h2, h3⟩
theorem enters_of (F : FuncId) (h : ∀ args w, (callFunc F args).run Try.prog w = .ok (.enter F args) w) : Enters F := h
end Ev
theorem bond_is (b : Bool) (w : World) : Calls Try.prog 73 #[.bool b] w fun e w' => e = .returned (.int .i64 (Ev.bnd b)) ∧ w = w' := bond_any b w
theorem run_load_slice {P : Program} {w : World} {ty e : TypeId} {p : Addr} {v : Value} (hu : P.underlying ty = some (.slice e)) (hc : w.cell? p = some v) : (loadVar ty p).run P w = .ok v w := by
  unfold loadVar isAgg
  simp only [Sem.run_bind, run_underlying hu w, Sem.run_pure, Result.andThen_ok]
  go_simp
  first | done | rw [hc]
theorem check_from {x : Ev.X} (h : Ev.check x = 0) : x.fr.l.length = x.ev.length := by
  unfold Ev.check at h
  split at h
  · cases h
  split at h
  · cases h
  split at h
  · cases h
  · rename_i h1 h2
    simp at h2
    unfold Ev.fromOk at h2
    simp at h2
    exact h2.1
end Go.Proofs.Ytoicmhidmknfiaa
