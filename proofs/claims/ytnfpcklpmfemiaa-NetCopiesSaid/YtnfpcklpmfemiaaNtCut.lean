/-
  Parts of lists of messages.
-/
import Derived.Test.YtnfpcklpmfemiaaNtTurn
namespace Go.Proofs.Ytnfpcklpmfemiaa
open Go.RowKit
set_option linter.unusedVariables false
set_option linter.unusedSimpArgs false
namespace Nt
/-- where a part of a list begins -/
def srcA (a : Option Addr) (k c : Nat) : Option Addr := if c = k then a else a.map (·.add (k * 20))
theorem LsIn.take {w : World} {a c} {l : List E} (h : LsIn w a c l) (k : Nat) : LsIn w a c (l.take k) := by
  refine ⟨fun hp => ?_, fun e he => h.ok e (List.mem_of_mem_take he), Nat.le_trans (by rw [List.length_take]; omega) h.le, h.max⟩
  obtain ⟨g, o, e, hc⟩ := h.rows (by simp at hp ⊢; omega)
  refine ⟨g, o, e, fun j v hv i c hi => hc j v ?_ i c hi⟩
  rw [List.getElem?_map, List.getElem?_take] at hv
  split at hv
  · rw [List.getElem?_map]; exact hv
  · cases hv
theorem LsIn.drop {w : World} {a c} {l : List E} (h : LsIn w a c l) {k : Nat} (hk : k ≤ l.length) : LsIn w (srcA a k c) (c - k) (l.drop k) := by
  refine ⟨fun hp => ?_, fun e he => h.ok e (List.mem_of_mem_drop he), by rw [List.length_drop]; have := h.le; omega, by have := h.max; omega⟩
  have hp1 : k < l.length := by simp at hp; omega
  obtain ⟨g, o, e, hc⟩ := h.rows (by simp; omega)
  have hne : ¬ c = k := by have := h.le; omega
  refine ⟨g, o + k * 20, by unfold srcA; rw [if_neg hne, e]; simp [Go.WideShapes.add_plain], fun j v hv i c hi => ?_⟩
  rw [List.getElem?_map, List.getElem?_drop] at hv
  have := hc (k + j) v (by rw [List.getElem?_map]; exact hv) i c hi
  rw [show o + k * 20 + j * 20 + i = o + (k + j) * 20 + i by omega]
  exact this
theorem size_elem (w : World) : (sizeOf (Try.prog.elem 68)).run Try.prog w = .ok 20 w := by kernel_rfl
theorem elem_msg : Try.prog.underlying 68 = some (.slice (Try.prog.elem 68)) := by kernel_rfl
theorem from_to {o : Oper} {ρ : Operand → Value} {w : World} (x y : Operand) (ho : o.op = .slice 68 x (some y) none none) {a : Option Addr} {c : Nat} {l : List E} {k : Nat} (hk : k ≤ l.length) (hx : ρ x = .slice a l.length c) (hy : ρ y = .int .i64 (k : Int)) :
    (execOp ρ o).run Try.prog w = .ok (.value (.slice (srcA a k c) (l.drop k).length (c - k))) w := by
  have h1 := run_slice_l (P := Try.prog) w 68 a l.length c elem_msg .i64 (k : Int) (by omega) (by omega)
  rw [size_elem] at h1
  have h2 : (Instr.sliceAt 68 (.slice a l.length c) (some (.int .i64 (k : Int))) none none).run Try.prog w = .ok (.slice (srcA a k c) (l.drop k).length (c - k)) w := by
    rw [run_sliceAt_slice w _ _ _ _ _ elem_msg, h1, List.length_drop]
    simp [sliced, srcA]
  unfold execOp
  simp only [ho, hx, Option.map, hy, Sem.run_bind, h2, Result.andThen_ok, Sem.run_pure]
theorem upto_to {o : Oper} {ρ : Operand → Value} {w : World} (x y : Operand) (ho : o.op = .slice 68 x none (some y) none) {a : Option Addr} {c : Nat} {l : List E} {k : Nat} (hk : k ≤ l.length) (hc : l.length ≤ c) (hx : ρ x = .slice a l.length c) (hy : ρ y = .int .i64 (k : Int)) :
    (execOp ρ o).run Try.prog w = .ok (.value (.slice a (l.take k).length c)) w := by
  have h1 := run_slice_h (P := Try.prog) w 68 a l.length c elem_msg .i64 (k : Int) (by omega) (by omega)
  rw [size_elem] at h1
  have h2 : (Instr.sliceAt 68 (.slice a l.length c) none (some (.int .i64 (k : Int))) none).run Try.prog w = .ok (.slice a (l.take k).length c) w := by
    rw [run_sliceAt_slice w _ _ _ _ _ elem_msg, h1, List.length_take, Nat.min_eq_left hk]
    have e : (a.map (·.add 0)) = a := by
      cases a with
      | none => rfl
      | some b => obtain ⟨b, o, s⟩ := b; cases s <;> simp [Addr.add]
    simp [sliced, e]
  unfold execOp
  simp only [ho, hx, Option.map, hy, Sem.run_bind, h2, Result.andThen_ok, Sem.run_pure]
/-- messages that a function has told: they have no room behind, or lie in a block of their own -/
def Told (w w' : World) (e : Ending) (l : List E) : Prop := ∃ a c, e = .returned (.slice a l.length c) ∧ Own w' (fun k => w.heap.size ≤ k) a c l ∧ (∀ x ∈ l, Ok x) ∧ Below w.heap.size w w'
theorem fr_below {w w' : World} (h : Fr (fun _ => False) w w') : Below w.heap.size w w' := ⟨h.os, h.tape, h.output, h.size, fun k hk => h.block k hk (fun h => h)⟩
theorem ready_nil (w : World) : Calls Try.prog 33 #[.pointer none] w fun e w' => e = .returned (.slice none 0 0) ∧ w = w' := by
  go_enter Try.func33, Try.ntmps33
  go_wp2_with (go_at_call 64; (with_reducible refine (isNone_nil _).mono ?_); rintro e W2 ⟨rfl, hw⟩; subst hw)
  go_ret
  exact ⟨rfl, rfl⟩
theorem copy_nil (w : World) : Calls Try.prog 35 #[.pointer none] w fun e w' => e = .returned (.pointer none) ∧ w = w' := by
  go_enter Try.func35, Try.ntmps35
  go_wp2_with (go_at_call 64; (with_reducible refine (isNone_nil _).mono ?_); rintro e W2 ⟨rfl, hw⟩; subst hw)
  go_ret
  exact ⟨rfl, rfl⟩
end Nt
end Go.Proofs.Ytnfpcklpmfemiaa
