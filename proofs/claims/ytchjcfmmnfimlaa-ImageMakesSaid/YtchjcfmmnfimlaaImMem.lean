/-
  How an image lies in memory: a row of bytes that is known whole, a pointer to a block of one cell that holds the slice over it; what stays so while memory grows. And the contracts of the program's smallest functions.
-/
import Derived.Test.YtchjcfmmnfimlaaProg
import Derived.Test.YtchjcfmmnfimlaaImMath
import Derived.WalkKit
import Derived.WalkSpells
import Derived.WalkLawsBesides
import Derived.Handy
import Derived.Lib.Hide
import Derived.LoopTactic
import Derived.Laws.OwnMore
import Derived.Outline
namespace Go.Proofs.Ytchjcfmmnfimlaa
open Go.RowKit
set_option linter.unusedVariables false

theorem ret_int {k : IntKind} {a b : Int} (h : a = b) : Ending.returned (.int k a) = .returned (.int k b) := by rw [h]

/-- block g is a row of these bytes -/
def Row (w : World) (g : Nat) (bs : List Int) : Prop := w.heap[g]? = some (.cells (Im.vals bs).toArray 5 (0, 0))
/-- p leads to an image whose bytes lie in block g -/
structure Img (w : World) (p g : Nat) (bs : List Int) : Prop where
  ptr : w.heap[p]? = some (.cells #[.slice (some ⟨g, 0, none⟩) bs.length bs.length] 69 (0, 0))
  row : Row w g bs
  ok : Im.okB bs.length = true
  byt : Im.Byt bs

theorem heap_lt {w : World} {g : Nat} {o : Obj} (h : w.heap[g]? = some o) : g < w.heap.size := (Array.getElem?_eq_some_iff.1 h).1
theorem Row.lt {w : World} {g : Nat} {bs : List Int} (h : Row w g bs) : g < w.heap.size := heap_lt h
theorem Row.cell {w : World} {g : Nat} {bs : List Int} (h : Row w g bs) {j : Nat} (hj : j < bs.length) : w.cell? ⟨g, j, none⟩ = some (.int .u8 (bs.getD j 0)) := by
  rw [cell_of_row w g j _ _ _ h]
  simp [Im.vals, hj, List.getD_eq_getElem?_getD]
theorem Row.free {w : World} {g : Nat} {bs : List Int} (h : Row w g bs) (j : Nat) : w.frozen? ⟨g, j, none⟩ = false := frozen_of_row w g j _ _ h
theorem Row.kept {w w' : World} {g : Nat} {bs : List Int} {row : Option Nat} (h : Row w g bs) (hg : w.grownBy w' row) (hne : some g ≠ row) : Row w' g bs :=
  (hg.block g h.lt hne).trans h
theorem Row.below {w w' : World} {g B : Nat} {bs : List Int} (h : Row w g bs) (hg : Below B w w') (hne : g < B) : Row w' g bs :=
  (hg.block g hne).trans h
theorem Row.old {w w' : World} {g : Nat} {bs : List Int} (h : Row w g bs) (hg : Below w.heap.size w w') : Row w' g bs := h.below hg h.lt
theorem Row.alloc {w : World} {g : Nat} {bs : List Int} (h : Row w g bs) (o : Obj) : Row (w.alloc o) g bs := (Below.heap_alloc w o g h.lt).trans h
theorem Row.set {w : World} {g : Nat} {bs : List Int} (h : Row w g bs) (j : Nat) (x : Int) : Row (w.setCell ⟨g, j, none⟩ (.int .u8 x)) g (bs.set j x) := by
  unfold Row
  rw [heap_setCell_same w g j _ _ _ h]
  simp [Im.vals, List.map_set]

theorem Img.old {w w' : World} {p g : Nat} {bs : List Int} (h : Img w p g bs) (hb : Below w.heap.size w w') : Img w' p g bs :=
  ⟨(hb.block p (heap_lt h.ptr)).trans h.ptr, h.row.old hb, h.ok, h.byt⟩
theorem Img.ne {w : World} {p g : Nat} {bs : List Int} (h : Img w p g bs) : p ≠ g := by
  rintro rfl
  have h1 := h.ptr; have h2 := h.row
  unfold Row at h2
  rw [h1] at h2
  simp at h2
/-- what is written into the row of an image -/
theorem Img.wrote {w w' : World} {p g : Nat} {bs bs' : List Int} (h : Img w p g bs) (hg : w.grownBy w' (some g)) (hr : Row w' g bs') (hl : bs'.length = bs.length) (hb : Im.Byt bs') : Img w' p g bs' :=
  ⟨by rw [hg.block p (heap_lt h.ptr) (by have := h.ne; simp [this]), hl]; exact h.ptr, hr, by rw [hl]; exact h.ok, hb⟩
theorem Img.kept {w w' : World} {p g : Nat} {bs : List Int} {row : Option Nat} (h : Img w p g bs) (hg : w.grownBy w' row) (h1 : some p ≠ row) (h2 : some g ≠ row) : Img w' p g bs :=
  ⟨(hg.block p (heap_lt h.ptr) h1).trans h.ptr, h.row.kept hg h2, h.ok, h.byt⟩
theorem Img.cell {w : World} {p g : Nat} {bs : List Int} (h : Img w p g bs) : w.cell? ⟨p, 0, none⟩ = some (.slice (some ⟨g, 0, none⟩) bs.length bs.length) := by
  rw [cell_of_row w p 0 _ _ _ h.ptr]; rfl
theorem Img.bd {w : World} {p g : Nat} {bs : List Int} (h : Img w p g bs) : 16 ≤ bs.length ∧ bs.length ≤ 4096 ∧ bs.length % 16 = 0 := by
  have := Im.okB_bd h.ok; omega

theorem below_grown {w w' : World} (h : Below w.heap.size w w') (row : Option Nat) : w.grownBy w' row := ⟨h.os, h.tape, h.output, h.size, fun k hk _ => h.block k hk⟩
theorem grown_below {w w' : World} (h : w.grownBy w' none) : Below w.heap.size w w' := ⟨h.os, h.tape, h.output, h.size, fun k hk => h.block k hk (by simp)⟩
theorem grownBy_trans {a b c : World} {row : Option Nat} (h : a.grownBy b row) (k : b.grownBy c row) : a.grownBy c row :=
  ⟨k.os.trans h.os, k.tape.trans h.tape, k.output.trans h.output, Nat.le_trans h.size k.size, fun i hi hn => (k.block i (Nat.lt_of_lt_of_le hi h.size) hn).trans (h.block i hi hn)⟩
theorem below_tr {a b c : World} (h : Below a.heap.size a b) (k : Below b.heap.size b c) : Below a.heap.size a c := h.trans (k.mono h.size)
theorem below_drewN {B : Nat} {a w : World} (h : Below B a w) (n : Nat) : Below B a (w.drewN n) := ⟨h.os, h.tape, h.output, h.size, h.block⟩

theorem grownBy_set {a w : World} {g : Nat} (h : a.grownBy w (some g)) (j : Nat) (u : Value) : a.grownBy (w.setCell ⟨g, j, none⟩ u) (some g) :=
  grownBy_trans h ⟨rfl, rfl, rfl, by simp [World.setCell], fun k _ hn => Below.heap_setCell _ _ _ _ (by simpa using hn)⟩
theorem grownBy_alloc {a w : World} {row : Option Nat} (h : a.grownBy w row) (o : Obj) : a.grownBy (w.alloc o) row := grownBy_trans h (World.grownBy_alloc _ _ _)

theorem wf_u32 {a : Int} (h : (Lit.int .u32 a).wf = true) : 0 ≤ a ∧ a ≤ 4294967295 := bounds_u32 h
theorem wf_i64 {a : Int} (h : (Lit.int .i64 a).wf = true) : -9223372036854775808 ≤ a ∧ a ≤ 9223372036854775807 := bounds_i64 h

theorem own_any (p g n : Nat) (w : World) (hc : w.cell? ⟨p, 0, none⟩ = some (.slice (some ⟨g, 0, none⟩) n n)) :
    Calls Try.prog 33 #[.pointer (some ⟨p, 0, none⟩)] w fun e w' => e = .returned (.slice (some ⟨g, 0, none⟩) n n) ∧ w = w' := by
  go_enter Try.func33, Try.ntmps33
  go_wp2
  go_ret
  exact ⟨rfl, rfl⟩
theorem own_nil (w : World) :
    Calls Try.prog 33 #[.pointer none] w fun e w' => e = .returned (.slice none 0 0) ∧ w = w' := by
  go_enter Try.func33, Try.ntmps33
  go_wp2
  go_ret
  exact ⟨rfl, rfl⟩

theorem maybe_any (n : Int) (h : -9223372036854775808 ≤ n ∧ n ≤ 9223372036854775807) (w : World) :
    Calls Try.prog 44 #[.int .i64 n] w fun e w' => e = .returned (.bool (Im.okB n)) ∧ w = w' := by
  by_cases h1 : 16 ≤ n
  · by_cases h2 : n ≤ 4096
    · have e := Im.okB_and h1 h2
      rw [e]
      clear e
      go_enter Try.func44, Try.ntmps44
      go_wp2
      go_ret
      exact ⟨rfl, rfl⟩
    · rw [Im.okB_no (by omega)]
      go_enter Try.func44, Try.ntmps44
      go_wp2
      go_ret
      exact ⟨rfl, rfl⟩
  · rw [Im.okB_no (by omega)]
    go_enter Try.func44, Try.ntmps44
    go_wp2
    go_ret
    exact ⟨rfl, rfl⟩

theorem linestart_any (n k : Nat) (h1 : n ≤ 4294967295) (hk : k = n * 16) (w : World) :
    Calls Try.prog 40 #[.int .u32 n] w fun e w' => e = .returned (.int .u64 (k : Int)) ∧ w = w' := by
  have HK := Lib.hid (show (n : Int) * 16 = (k : Int) by omega)
  clear hk
  go_enter Try.func40, Try.ntmps40
  go_wp2
  go_ret
  exact ⟨ret_int HK.out, rfl⟩
theorem num_any (n : Int) (w : World) :
    Calls Try.prog 14 #[.int .i64 n] w fun e w' => e = .returned (.int .i64 n) ∧ w = w' := by
  go_enter Try.func14, Try.ntmps14
  go_wp2
  go_ret
  exact ⟨rfl, rfl⟩
end Go.Proofs.Ytchjcfmmnfimlaa
