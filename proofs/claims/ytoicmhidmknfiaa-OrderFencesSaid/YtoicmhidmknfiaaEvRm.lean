/-
  The document's own test of events, as plain lists: it says what the program's says.
-/
import Derived.Test.YtoicmhidmknfiaaEvBare
import Derived.Test.YtoicmhidmknfiaaEvChk
namespace Go.Proofs.Ytoicmhidmknfiaa
open Go.RowKit
set_option linter.unusedVariables false
set_option linter.unusedSimpArgs false
namespace Ev
/-- the addresses that events have, rising -/
structure Addrs (xs : List R) (l : List Int) : Prop where
  up : l.Pairwise (· < ·)
  mem : ∀ y, y ∈ l ↔ ∃ e ∈ xs, e.k ≠ 4 ∧ e.a = y
def rAt (xs : List R) (l : List Int) (i : Nat) : Bool :=
  bare (nth xs i) && (nth xs i).a % 4 == 0 && depsOk xs i && ((nth xs i).k == 5) == decide (i < l.length) && (!((nth xs i).k == 5) || (nth xs i).a == l.getD i 0) && ((nth xs i).k == 5 || (decide (0 ≤ (nth xs i).h) && decide ((nth xs i).h ≤ 3) && (!(decide (l.length < i)) || !(decide ((nth xs i).h < (nth xs ((i : Int) - 1)).h)))))
theorem ext1 : ∀ (b0 b1 b2 b3 b4 b5 b6 b7 b8 b9 b10 : Bool), (bits .andNot .i64 ((([(1, b0), (2, b1), (4, b2), (8, b3), (16, b4), (32, b5), (64, b6), (128, b7), (256, b8), (512, b9), (1024, b10)] : List (Nat × Bool)).foldl (fun m y => m ||| bit y.2 y.1) 0 : Nat) : Int) 1437 != 0) = (b1 || b5 || b6 || b9) := by decide +kernel
theorem ext2 : ∀ (b0 b1 b2 b3 b4 b5 b6 b7 b8 b9 b10 : Bool), (bits .andNot .i64 ((([(1, b0), (2, b1), (4, b2), (8, b3), (16, b4), (32, b5), (64, b6), (128, b7), (256, b8), (512, b9), (1024, b10)] : List (Nat × Bool)).foldl (fun m y => m ||| bit y.2 y.1) 0 : Nat) : Int) 1947 != 0) = (b2 || b5 || b6) := by decide +kernel
theorem ext3 : ∀ (b0 b1 b2 b3 b4 b5 b6 b7 b8 b9 b10 : Bool), (bits .andNot .i64 ((([(1, b0), (2, b1), (4, b2), (8, b3), (16, b4), (32, b5), (64, b6), (128, b7), (256, b8), (512, b9), (1024, b10)] : List (Nat × Bool)).foldl (fun m y => m ||| bit y.2 y.1) 0 : Nat) : Int) 1823 != 0) = (b5 || b6 || b7) := by decide +kernel
theorem ext4 : ∀ (b0 b1 b2 b3 b4 b5 b6 b7 b8 b9 b10 : Bool), (bits .andNot .i64 ((([(1, b0), (2, b1), (4, b2), (8, b3), (16, b4), (32, b5), (64, b6), (128, b7), (256, b8), (512, b9), (1024, b10)] : List (Nat × Bool)).foldl (fun m y => m ||| bit y.2 y.1) 0 : Nat) : Int) 1120 != 0) = (b0 || b1 || b2 || b3 || b4 || b7 || b8 || b9) := by decide +kernel
theorem ext5 : ∀ (b0 b1 b2 b3 b4 b5 b6 b7 b8 b9 b10 : Bool), (bits .andNot .i64 ((([(1, b0), (2, b1), (4, b2), (8, b3), (16, b4), (32, b5), (64, b6), (128, b7), (256, b8), (512, b9), (1024, b10)] : List (Nat × Bool)).foldl (fun m y => m ||| bit y.2 y.1) 0 : Nat) : Int) 3 != 0) = (b2 || b3 || b4 || b5 || b6 || b7 || b8 || b9 || b10) := by decide +kernel
theorem len_bne (l : List Int) : ((l.length : Int) != 0) = !l.isEmpty := by cases l <;> simp <;> omega
theorem extra1 {x : R} (h : x.k = 1) : extra x = ((x.v != 0) || (x.p != 0) || (x.s != 0) || !x.d2.l.isEmpty) := by
  unfold extra filled fl; rw [h]; rw [show parts 1 = 1437 from rfl, ext1, len_bne]
theorem extra2 {x : R} (h : x.k = 2) : extra x = ((x.r != 0) || (x.p != 0) || (x.s != 0)) := by
  unfold extra filled fl; rw [h]; rw [show parts 2 = 1947 from rfl, ext2]
theorem extra3 {x : R} (h : x.k = 3) : extra x = ((x.p != 0) || (x.s != 0) || x.z) := by
  unfold extra filled fl; rw [h]; rw [show parts 3 = 1823 from rfl, ext3]
theorem extra4 {x : R} (h : x.k = 4) : extra x = ((x.a != 0) || (x.v != 0) || (x.r != 0) || x.q || x.l || x.z || !x.d1.l.isEmpty || !x.d2.l.isEmpty) := by
  unfold extra filled fl; rw [h]; rw [show parts 4 = 1120 from rfl, ext4, len_bne, len_bne]
theorem extra5 {x : R} (h : x.k = 5) : extra x = ((x.r != 0) || x.q || x.l || (x.p != 0) || (x.s != 0) || x.z || !x.d1.l.isEmpty || !x.d2.l.isEmpty || !x.d3.l.isEmpty) := by
  unfold extra filled fl; rw [h]; rw [show parts 5 = 3 from rfl, ext5, len_bne, len_bne, len_bne]
theorem parts_no {k : Int} (h1 : k ≠ 1) (h2 : k ≠ 2) (h3 : k ≠ 3) (h4 : k ≠ 4) (h5 : k ≠ 5) : parts k = 0 := by unfold parts; rw [if_neg h1, if_neg h2, if_neg h3, if_neg h4, if_neg h5]
/-- the program's test of an event's parts, in the document's words -/
theorem parts_bare (x : R) : partsOk x = (bare x && (x.k == 5 || inB x.h 4) && x.a % 4 == 0) := by
  by_cases h1 : x.k = 1
  · unfold partsOk bare bareK hartOk; rw [extra1 h1]; simp only [h1, bne, stores, loads]
    generalize (x.v == 0) = bv; generalize (x.r == 0) = br; generalize (x.a == 0) = ba; generalize (x.p == 0) = bp; generalize (x.s == 0) = bs
    generalize x.d1.l.isEmpty = e1; generalize x.d2.l.isEmpty = e2; generalize x.d3.l.isEmpty = e3; generalize (x.a % 4 == 0) = bm; generalize (x.h == -1) = bh
    generalize inB x.h 4 = ih; generalize inB x.p 4 = ip; generalize inB x.s 4 = js; generalize x.q = xq; generalize x.l = xl; generalize x.z = xz
    clear h1
    revert bv br ba bp bs e1 e2 e3 bm bh ih ip js xq xl xz
    decide +kernel
  by_cases h2 : x.k = 2
  · unfold partsOk bare bareK hartOk; rw [extra2 h2]; simp only [h2, bne, stores, loads]
    generalize (x.v == 0) = bv; generalize (x.r == 0) = br; generalize (x.a == 0) = ba; generalize (x.p == 0) = bp; generalize (x.s == 0) = bs
    generalize x.d1.l.isEmpty = e1; generalize x.d2.l.isEmpty = e2; generalize x.d3.l.isEmpty = e3; generalize (x.a % 4 == 0) = bm; generalize (x.h == -1) = bh
    generalize inB x.h 4 = ih; generalize inB x.p 4 = ip; generalize inB x.s 4 = js; generalize x.q = xq; generalize x.l = xl; generalize x.z = xz
    clear h1 h2
    revert bv br ba bp bs e1 e2 e3 bm bh ih ip js xq xl xz
    decide +kernel
  by_cases h3 : x.k = 3
  · unfold partsOk bare bareK hartOk; rw [extra3 h3]; simp only [h3, bne, stores, loads]
    generalize (x.v == 0) = bv; generalize (x.r == 0) = br; generalize (x.a == 0) = ba; generalize (x.p == 0) = bp; generalize (x.s == 0) = bs
    generalize x.d1.l.isEmpty = e1; generalize x.d2.l.isEmpty = e2; generalize x.d3.l.isEmpty = e3; generalize (x.a % 4 == 0) = bm; generalize (x.h == -1) = bh
    generalize inB x.h 4 = ih; generalize inB x.p 4 = ip; generalize inB x.s 4 = js; generalize x.q = xq; generalize x.l = xl; generalize x.z = xz
    clear h1 h2 h3
    revert bv br ba bp bs e1 e2 e3 bm bh ih ip js xq xl xz
    decide +kernel
  by_cases h4 : x.k = 4
  · unfold partsOk bare bareK hartOk; rw [extra4 h4]; simp only [h4, bne, stores, loads]
    generalize (x.v == 0) = bv; generalize (x.r == 0) = br; generalize (x.a == 0) = ba; generalize (x.p == 0) = bp; generalize (x.s == 0) = bs
    generalize x.d1.l.isEmpty = e1; generalize x.d2.l.isEmpty = e2; generalize x.d3.l.isEmpty = e3; generalize (x.a % 4 == 0) = bm; generalize (x.h == -1) = bh
    generalize inB x.h 4 = ih; generalize inB x.p 4 = ip; generalize inB x.s 4 = js; generalize x.q = xq; generalize x.l = xl; generalize x.z = xz
    clear h1 h2 h3 h4
    revert bv br ba bp bs e1 e2 e3 bm bh ih ip js xq xl xz
    decide +kernel
  by_cases h5 : x.k = 5
  · unfold partsOk bare bareK hartOk; rw [extra5 h5]; simp only [h5, bne, stores, loads]
    generalize (x.v == 0) = bv; generalize (x.r == 0) = br; generalize (x.a == 0) = ba; generalize (x.p == 0) = bp; generalize (x.s == 0) = bs
    generalize x.d1.l.isEmpty = e1; generalize x.d2.l.isEmpty = e2; generalize x.d3.l.isEmpty = e3; generalize (x.a % 4 == 0) = bm; generalize (x.h == -1) = bh
    generalize inB x.h 4 = ih; generalize inB x.p 4 = ip; generalize inB x.s 4 = js; generalize x.q = xq; generalize x.l = xl; generalize x.z = xz
    clear h1 h2 h3 h4 h5
    revert bv br ba bp bs e1 e2 e3 bm bh ih ip js xq xl xz
    decide +kernel
  have hb : bare x = false := by
    unfold bare
    have : ¬ (1 ≤ x.k ∧ x.k ≤ 5) := by omega
    by_cases h : 1 ≤ x.k
    · rw [show decide (x.k ≤ 5) = false from decide_eq_false (by omega)]; simp
    · rw [show decide (1 ≤ x.k) = false from decide_eq_false h]; simp
  rw [hb]
  unfold partsOk; rw [parts_no h1 h2 h3 h4 h5]; simp
end Ev
end Go.Proofs.Ytoicmhidmknfiaa
