import Derived.Test.YtfajkgbpeapcbaaNa35
set_option linter.unusedVariables false
set_option linter.unusedSimpArgs false

section
namespace Go.Proofs.Ytfajkgbpeapcbaa
open Go.RowKit
namespace Hm
open Nt
set_option maxRecDepth 100000
section
variable {p : Nat} {d : Dt} {N : Nat} {H : Ho}
theorem res_two {tmps : Array Value} {w : World} {rb eb : Nat} {a : Option Addr} {l c : Nat} {r : Int} (h4 : tmps.getD 4 undef = .pointer (some ⟨rb, 0, none⟩)) (h5 : tmps.getD 5 undef = .pointer (some ⟨eb, 0, none⟩))
    (hr : w.heap[rb]? = some (.cells #[.slice a l c] 56 (0, 0))) (he : w.heap[eb]? = some (.cells #[.int .i64 r] 47 (0, 0))) : (results Try.f26 tmps).run Try.prog w = .ok (.tuple #[.slice a l c, .int .i64 r]) w := by
  have cr : w.cell? ⟨rb, 0, none⟩ = some (.slice a l c) := by rw [cell_of_row _ _ _ _ _ _ hr]; rfl
  have ce : w.cell? ⟨eb, 0, none⟩ = some (.int .i64 r) := by rw [cell_of_row _ _ _ _ _ _ he]; rfl
  simp only [results, Try.results26]
  have h4' : tmps[4]?.getD undef = .pointer (some ⟨rb, 0, none⟩) := by simpa using h4
  have h5' : tmps[5]?.getD undef = .pointer (some ⟨eb, 0, none⟩) := by simpa using h5
  simp [h4', h5', go_sem, cr, ce]
structure Two (W W' : World) (rb eb : Nat) (x y : Value) : Prop where
  r : W'.heap[rb]? = some (.cells #[x] 56 (0, 0))
  e : W'.heap[eb]? = some (.cells #[y] 47 (0, 0))
  k : ∀ j, j ≠ rb → j ≠ eb → W'.heap[j]? = W.heap[j]?
  s : W'.heap.size = W.heap.size
  o : W'.os = W.os ∧ W'.tape = W.tape ∧ W'.output = W.output
theorem two_of {W : World} {rb eb : Nat} {x0 y0 : Value} (x y : Value) (hr : W.heap[rb]? = some (.cells #[x0] 56 (0, 0))) (he : W.heap[eb]? = some (.cells #[y0] 47 (0, 0))) : Two W ((W.setRow rb #[x]).setRow eb #[y]) rb eb x y := by
  have hne : rb ≠ eb := by rintro rfl; rw [hr] at he; injection he with he; injection he with _ he _; exact absurd he (by decide)
  exact ⟨(setRow_other _ _ _ _ hne).trans (setRow_heap _ _ _ _ _ _ hr), setRow_heap _ _ _ _ _ _ ((setRow_other _ _ _ _ (Ne.symm hne)).trans he), fun j h1 h2 => (setRow_other _ _ _ _ h2).trans (setRow_other _ _ _ _ h1), by simp, ⟨rfl, rfl, rfl⟩⟩
theorem Two.below {w W W' : World} {rb eb : Nat} {x y : Value} (h : Two W W' rb eb x y) (hb : Below w.heap.size w W) (h1 : w.heap.size ≤ rb) (h2 : w.heap.size ≤ eb) : Below w.heap.size w W' :=
  ⟨h.o.1.trans hb.os, h.o.2.1.trans hb.tape, h.o.2.2.trans hb.output, by rw [h.s]; exact hb.size, fun k hk => (h.k k (by omega) (by omega)).trans (hb.block k hk)⟩
end
end Hm
end Go.Proofs.Ytfajkgbpeapcbaa
end
