/-
  Events and executions as plain lists: what the document says of them. No program is named here.
-/
namespace Go.Proofs.Ytnfpcklpmfemiaa
namespace Ev
/-- both numbers of a slice's place, and what it reads as, are a slice's own: see EvMem. -/
def stores (k : Int) : Bool := k == 2 || k == 3 || k == 5
def loads (k : Int) : Bool := k == 1 || k == 3
def inB (n m : Int) : Bool := decide (0 ≤ n) && decide (n < m)
/-- the parts that a kind names -/
def parts (k : Int) : Int := if k = 1 then 1437 else if k = 2 then 1947 else if k = 3 then 1823 else if k = 4 then 1120 else if k = 5 then 3 else 0
def bit (b : Bool) (n : Nat) : Nat := if b then n else 0
end Ev
end Go.Proofs.Ytnfpcklpmfemiaa
