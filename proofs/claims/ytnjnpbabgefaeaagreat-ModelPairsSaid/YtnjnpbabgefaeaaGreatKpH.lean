/-
  Short names for what the texts of this claim say often.
-/
import Derived.Lib.Hide
import Derived.WalkKit
import Derived.Below
import Derived.Laws.Rows
import Derived.Test.YtnjnpbabgefaeaaGreatRows
namespace Go
open Go.RowKit
theorem qH {p : Prop} (h : p) : Hid p := Lib.hid h
theorem qC {w : World} {g j : Nat} {cs : Array Value} {t : TypeId} {fr : Nat × Nat} (hg : w.heap[g]? = some (.cells cs t fr)) : w.cell? ⟨g, j, none⟩ = cs[j]? := cell_of_row _ _ _ _ _ _ hg
theorem qL {α : Type} {l : Array α} {i : Nat} {a : α} (h : l[i]? = some a) : i < l.size := (Array.getElem?_eq_some_iff.1 h).1
theorem qG {P : Program} {ops : Array Oper} {Q : Exit → Act → World → Prop} (n : Nat) {a b c d e r x y} (h : wpList P ops Q (Oper.mk (some n) a b c d e :: r) x y) : wpList P ops Q (Oper.mk (some n) a b c d e :: r) x y := h
theorem qa {α : Type} (l : List α) (i : Nat) (x : α) : l.toArray.setIfInBounds i x = (l.set i x).toArray := List.setIfInBounds_toArray ..
theorem qb {α : Type} (l : List α) (a x : α) : (a :: l).set 0 x = x :: l := List.set_cons_zero ..
theorem qc {α : Type} (l : List α) (a x : α) (n : Nat) : (a :: l).set (n + 1) x = a :: l.set n x := List.set_cons_succ ..
end Go
