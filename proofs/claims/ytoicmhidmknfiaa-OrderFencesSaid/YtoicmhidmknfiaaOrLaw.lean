/-
  What the laws of layer 7 stand on.
-/
import Derived.Test.YtoicmhidmknfiaaOrCM
import Derived.Test.YtoicmhidmknfiaaOrEq
import Derived.Test.YtoicmhidmknfiaaEvZM
import Derived.Test.YtoicmhidmknfiaaEvRchk
import Derived.Test.YtoicmhidmknfiaaEvWM
namespace Go.Proofs.Ytoicmhidmknfiaa
open Go.RowKit
set_option linter.unusedVariables false
theorem rcheck_is {x : Ev.X} {v : Int} (h : Ev.check x = v) (w : World) (hin : Ev.XIn w x) : Calls Try.prog 16 #[.agg (Ev.xcells x).toArray] w fun e w' => e = .returned (.int .i64 v) ∧ Below w.heap.size w w' := h ▸ rcheck_any x w hin
theorem ppo_pl {x : Ev.X} (hc : Ev.check x = 0) : Ev.pl (Or.ppo x) x.ev.length x.ev.length = Ev.pl (Ev.isPpo x) x.ev.length x.ev.length := by
  refine Or.pl_congr fun a b ha hb => ?_
  unfold Or.ppo Ev.isPpo
  rw [Or.hold_eq hc ha hb, Bool.eq_iff_iff]
  simp only [Bool.not_eq_true', List.isEmpty_eq_false_iff_exists_mem, List.mem_filter, List.mem_range, Bool.and_eq_true, decide_eq_true_eq, List.any_eq_true]
  constructor
  · rintro ⟨i, h1, h2, h3⟩
    exact ⟨i - 1, by omega, by rw [show i - 1 + 1 = i by omega]; exact h3⟩
  · rintro ⟨i, h1, h2⟩
    exact ⟨i + 1, by omega, by omega, h2⟩
namespace Or
open Ev
/-- the document's rules below a number that hold -/
def wantTo (x : X) (a b n : Nat) : List Nat := (List.range n).filter fun (i : Nat) => decide (1 ≤ i) && rule x (i : Int) a b
theorem wantTo_succ (x : X) (a b n : Nat) : wantTo x a b (n + 1) = if (decide (1 ≤ n) && rule x (n : Int) a b) = true then wantTo x a b n ++ [n] else wantTo x a b n := by
  unfold wantTo; rw [List.range_succ, List.filter_append]
  have e : ([n].filter fun (i : Nat) => decide (1 ≤ i) && rule x (i : Int) a b) = if (decide (1 ≤ n) && rule x (n : Int) a b) = true then [n] else [] := by rw [List.filter_cons]; rfl
  rw [e]
  split
  · rfl
  · simp
theorem wantTo_le (x : X) (a b n : Nat) : ∀ i ∈ wantTo x a b n, i < n := fun i hi => List.mem_range.1 (List.mem_filter.1 hi).1
theorem wantTo_len (x : X) (a b n : Nat) : (wantTo x a b n).length ≤ n := by
  unfold wantTo
  have := List.length_filter_le (fun (i : Nat) => decide (1 ≤ i) && rule x (i : Int) a b) (List.range n)
  rwa [List.length_range] at this
end Or
end Go.Proofs.Ytoicmhidmknfiaa
namespace Go.Proofs.Ytoicmhidmknfiaa
open Go.Joins Go.ChangeShapes Go.WideShapes Go.ChangeAt Go.RowKit Go.Deep
set_option linter.unusedVariables false
set_option linter.unusedSimpArgs false
section
variable {H : Type} {enc : TypeId × Value → H} {W : World}
set_option maxRecDepth 100000 in
/-- a pair, given by value -/
theorem open_pair {r : Reach} {b0 : Nat} {v : Value} {d : DataW H} {p : List MemPlace} (hv : Value.okWide Try.prog W r b0 43 v) (h : DataW.Trod enc Try.prog W 0 (fun _ => true) true 43 v d p) :
    ∃ a b : Int, v = .agg #[.int .i64 a, .int .i64 b] ∧ Ev.i64B a ∧ Ev.i64B b := by
  obtain ⟨cs, rfl, hsz⟩ := okWide_struct Try.underlying43 hv
  obtain ⟨l⟩ := cs
  obtain ⟨fuel, hf⟩ := h
  have u1 : Try.prog.cellsOf 3 = 1 := by kernel_rfl
  have u2 : Try.prog.cellsOf 43 = 2 := by kernel_rfl
  match l, hsz.trans u2 with
  | [c0, c1], _ =>
    obtain ⟨xs, n, _, _, hl, hlen, hg⟩ := DataW.trod_struct Try.underlying43 hf
    match xs, hlen with
    | [y0, y1], _ =>
      have g0 : DataW.trod enc Try.prog W 0 (fun _ => true) true n 3 [c0] = some y0 := by simpa [Value.cells, u1] using hg 0 _ rfl
      have g1 : DataW.trod enc Try.prog W 0 (fun _ => true) true n 3 [c1] = some y1 := by simpa [Value.cells, u1] using hg 1 _ rfl
      obtain ⟨a0, rfl, w0⟩ := int_in Try.underlying3 g0
      obtain ⟨a1, rfl, w1⟩ := int_in Try.underlying3 g1
      exact ⟨a0, a1, rfl, i64_of_wf w0, i64_of_wf w1⟩
end
end Go.Proofs.Ytoicmhidmknfiaa
