/-
  A region that draws its order, whose operations read, and whose callees make memory at most: walked once, in the order of the text. No program is named here.
-/
import Derived.BigQuiet
import Derived.Deep.QuietTactic
import Derived.Below
import Derived.Laws.Rows
namespace Go.Proofs.Ytnfpcklpmfemiaa
open Go.RowKit
set_option linter.unusedVariables false
namespace Og
/-- a world in which all that stood there stands -/
structure On (n : Nat) (w : World) where
  x : World
  b : Below n w x
instance (n : Nat) (w : World) : Nonempty (On n w) := ⟨⟨w, Below.refl n w⟩⟩
theorem regionB {P : Program} {id : Nat} {l : List Oper} {Q : Exit → Act → World → Prop} {a : Act} {w : World} (hm : P.follows .mixedOrders = true) (hB : Region.lexB .any l.toArray = true)
    (h : wpQuiet P l.toArray (fun w' => ∃ q : On w.heap.size w, w' = q.x) (fun a' => ∀ w', (∃ q : On w.heap.size w, w' = q.x) → Q .normal a' w') l a) : (Code.region id l.toArray true).wp P Q a w :=
  wp_region_quiet (C := fun w' => ∃ q : On w.heap.size w, w' = q.x) hm hB ⟨⟨{ w with drawn := w.drawn + 1 }, ⟨rfl, rfl, rfl, Nat.le_refl _, fun _ _ => rfl⟩⟩, rfl⟩ (by simpa using h)
/-- a callee's contract, met in such a world -/
theorem callB {P : Program} {f : FuncId} {args : Array Value} {w : World} {q : On w.heap.size w} {v : Value} (h : Calls P f args q.x fun e w' => e = .returned v ∧ Below q.x.heap.size q.x w') :
    Calls P f args q.x fun e w'' => e = .returned v ∧ ∃ q' : On w.heap.size w, w'' = q'.x :=
  h.mono fun _ w'' ⟨he, hb⟩ => ⟨he, ⟨w'', q.b.trans (hb.mono q.b.size)⟩, rfl⟩
theorem callS {P : Program} {f : FuncId} {args : Array Value} {w : World} {q : On w.heap.size w} {v : Value} (h : Calls P f args q.x fun e w' => e = .returned v ∧ q.x = w') :
    Calls P f args q.x fun e w'' => e = .returned v ∧ ∃ q' : On w.heap.size w, w'' = q'.x :=
  h.mono fun _ w'' ⟨he, hb⟩ => ⟨he, q, hb.symm⟩
/-- a row, loaded whole in such a world -/
theorem rowB {P : Program} {w : World} (q : On w.heap.size w) {g : Nat} {t : TypeId} {cs : Array Value} {fr : Nat × Nat} (ty : TypeId) (d : TypeDesc) (hg : w.heap[g]? = some (.cells cs t fr))
    (hu : P.underlying ty = some d) (hd : (match d with | .struct _ | .array _ _ => true | _ => false) = true) (hi : (P.info? ty).map (·.size) = some cs.size) :
    (loadVar ty ⟨g, 0, none⟩).run P q.x = .ok (.agg cs) q.x :=
  run_loadVar_row q.x g t ty cs fr d ((q.b.block g (Array.getElem?_eq_some_iff.1 hg).1).trans hg) hu hd hi
/-- a load of a whole row in such a region -/
theorem quiet_load {P : Program} {C : World → Prop} {o : Oper} {a : Act} {K : Act → Prop} (ty : TypeId) (x : Operand) (ho : o.op = .load ty x) (v : Value) (p : Addr) (a' : Act)
    (hx : a.eval x = .pointer (some p)) (hl : ∀ w, C w → (loadVar ty p).run P w = .ok v w) (ha : a.put o.dst v = a') (hk : K a') : o.quiet P a C K :=
  ⟨v, fun w hC => by
    unfold Oper.quietAt execOp
    simp only [ho, hx, Instr.loadAt, Instr.sureAddr, Sem.run_bind, Sem.run_pure, Result.andThen_ok, hl w hC]
    exact ⟨rfl, rfl⟩, by rw [ha]; exact hk⟩
/-- a test whether two are the same in such a region -/
theorem quiet_eql {P : Program} {C : World → Prop} {o : Oper} {a : Act} {K : Act → Prop} (v : Bool) (a' : Act)
    (hl : ∀ w, (execOp a.eval o).run P w = .ok (.value (.bool v)) w) (ha : a.put o.dst (.bool v) = a') (hk : K a') : o.quiet P a C K :=
  ⟨.bool v, fun w hC => by
    unfold Oper.quietAt
    rw [hl w]
    exact ⟨rfl, rfl⟩, by rw [ha]; exact hk⟩
theorem cellB {w : World} (q : On w.heap.size w) {p : Addr} {v : Value} (h : w.cell? p = some v) : q.x.cell? p = some v :=
  (q.b.cell (World.block_lt_of_cell? w p h)).trans h
end Og
end Go.Proofs.Ytnfpcklpmfemiaa
