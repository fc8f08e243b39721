/-
  An access in a block of its own; a write to whatever place; strings of bytes that are unlike.
-/
import Derived.Test.YtchjcfmmnfimlaaImEq
import Derived.Test.YtchjcfmmnfimlaaOg
namespace Go.Proofs.Ytchjcfmmnfimlaa
open Go.RowKit
set_option linter.unusedVariables false

/-- an access in a block of its own -/
def Box3 (w : World) (r : Nat) (x y z : Int) : Prop := w.heap[r]? = some (.cells #[.int .u32 x, .int .i64 y, .int .u32 z] 36 (0, 0))
theorem Box3.c0 {w : World} {r : Nat} {x y z : Int} (h : Box3 w r x y z) : w.cell? ⟨r, 0, none⟩ = some (.int .u32 x) := by rw [cell_of_row w r 0 _ _ _ h]; rfl
theorem Box3.c1 {w : World} {r : Nat} {x y z : Int} (h : Box3 w r x y z) : w.cell? ⟨r, 1, none⟩ = some (.int .i64 y) := by rw [cell_of_row w r 1 _ _ _ h]; rfl
theorem Box3.c2 {w : World} {r : Nat} {x y z : Int} (h : Box3 w r x y z) : w.cell? ⟨r, 2, none⟩ = some (.int .u32 z) := by rw [cell_of_row w r 2 _ _ _ h]; rfl
theorem Box3.old {w w' : World} {r : Nat} {x y z : Int} (h : Box3 w r x y z) (hb : Below w.heap.size w w') : Box3 w' r x y z := (hb.block r (heap_lt h)).trans h
theorem Box3.kept {w w' : World} {r : Nat} {x y z : Int} {row : Option Nat} (h : Box3 w r x y z) (hg : w.grownBy w' row) (hne : some r ≠ row) : Box3 w' r x y z := (hg.block r (heap_lt h) hne).trans h
theorem Box3.lt {w : World} {r : Nat} {x y z : Int} (h : Box3 w r x y z) : r < w.heap.size := heap_lt h
theorem box_first {w w1 : World} {x y z : Int} (h : Below (w.alloc (.cells #[.int .u32 x, .int .i64 y, .int .u32 z] 36)).heap.size (w.alloc (.cells #[.int .u32 x, .int .i64 y, .int .u32 z] 36)) w1) : Below w.heap.size w w1 ∧ Box3 w1 w.heap.size x y z := blk_new w _ h

theorem write_any (p g : Nat) (bs : List Int) (addr : Nat) (width v : Int) (w : World) (hi : Img w p g bs) (ha : addr ≤ 4294967295) (hw : (Lit.int .i64 width).wf = true) (hv : 0 ≤ v ∧ v ≤ 4294967295) :
    Calls Try.prog 21 #[.pointer (some ⟨p, 0, none⟩), .int .u32 addr, .int .i64 width, .int .u32 v] w fun e w' => ∃ bs' code, e = .returned (.int .i64 code) ∧ Img w' p g bs' ∧ w.grownBy w' (some g) ∧ bs'.length = bs.length ∧ (code = 0 ∨ bs' = bs) ∧ 0 ≤ code ∧ code ≤ 120 := by
  rcases refuses_or bs.length addr width with ⟨c, hc, hcc⟩ | ⟨n, rfl, hn, hal, hlt⟩
  · exact (write_no p g bs addr width v c w hi ha hw hc).mono fun e w' ⟨he, hb⟩ => ⟨bs, c, he, hi.old hb, below_grown hb _, rfl, .inr rfl, by omega, by omega⟩
  · exact (write_goes p g bs addr n v w ha hv hi hn hal hlt).mono fun e w' ⟨he, h1, h2⟩ => ⟨_, 0, he, h1, h2, Im.length_sets _ _ _ _, .inl rfl, by omega, by omega⟩
theorem str_ne {xs ys : List Int} (hx : Im.Byt xs) (hy : Im.Byt ys) (h : ¬ xs = ys) : ((strOfNums xs).toList == (strOfNums ys).toList) = false := by rw [str_eq hx hy]; simpa using h
/-- a whole array, loaded -/
theorem og_load_arr {w : World} {g : Nat} {ls : List Int} (ha : Arr w g ls) (hl : ls.length = 16) {o : Oper} {x : Operand} {ρ : Operand → Value} (ho : o.op = .load 45 x) (hx : ρ x = .pointer (some ⟨g, 0, none⟩)) :
    (execOp ρ o).run Try.prog w = .ok (.value (.agg (Im.vals ls).toArray)) w := by
  unfold execOp
  simp only [ho, hx, Instr.loadAt, Instr.sureAddr, Sem.run_bind, Sem.run_pure, Result.andThen_ok, run_loadVar_row w g 45 45 (Im.vals ls).toArray (0, 0) _ ha Try.underlying45 rfl (by rw [size45, List.size_toArray, len_vals, hl])]
end Go.Proofs.Ytchjcfmmnfimlaa
