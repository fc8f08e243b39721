/-
  What is told of a number, in a cache and in the document's lines.
-/
import Derived.Test.YtifniogldinbdaaLnRVic
namespace Go.Proofs.Ytifniogldinbdaa
open Go.RowKit
set_option linter.unusedVariables false
set_option linter.unusedSimpArgs false
namespace Ln
theorem eql_op {o : Oper} {ρ : Operand → Value} (x y : Operand) (ho : o.op = .binOp .eql 30 x y 30) {a b : E} (ha : Ok a) (hb : Ok b) (hx : ρ x = EV a) (hy : ρ y = EV b) (v : Bool) (hv : eqL a b = v) (w : World) : (execOp ρ o).run Try.prog w = .ok (.value (.bool v)) w := by
  have hm : Try.prog.eqGuardType Try.prog.depth 30 = false := by kernel_rfl
  unfold EV at hx hy
  unfold execOp
  rw [ho]
  simp only [hx, hy]
  simp only [Sem.run_bind, run_eqGuard_agg w .eql 30 x y _ _ hm, Result.andThen_ok, eql_line w ha hb, hv, Sem.run_pure]
theorem find_rows {n : Int} (hn : Ev.u32B n) {W : World} {F : Nat → Prop} {p s ways : Nat} {l : List E} (hca : Cache W F p ways (rows l s)) (hr : Rl s ways l) :
    Calls Try.prog 11 #[.pointer (some ⟨p, 0, none⟩), .int .u32 n] W fun e w' => e = .returned (.tuple #[.agg (cells ((fd l n).getD E0)).toArray, .bool (fd l n).isSome]) ∧ Below W.heap.size W w' := by
  have h1 := find_any n hn W hca
  rw [rowQ_rows l s hr.s0, fd_ofL] at h1
  exact h1
theorem fd_cases {l : List E} (hok : ∀ e ∈ l, Ok e) (n : Int) : ∃ m z t, (fd l n).getD E0 = m ∧ (fd l n).isSome = z ∧ ix l n 0 = t ∧ Ok m ∧ ((z = true ∧ ∃ k : Nat, t = (k : Int) ∧ l[k]? = some m) ∨ (z = false ∧ t = -1 ∧ m = E0)) := by
  by_cases h : 0 ≤ ix l n 0
  · obtain ⟨k, e, e1, e2, e3, e4⟩ := fd_at h
    exact ⟨e, true, (k : Int), by rw [e3]; rfl, by rw [e3]; rfl, e1, hok e (List.mem_of_getElem? e2), .inl ⟨rfl, k, rfl, e2⟩⟩
  · obtain ⟨h1, h2⟩ := ix_none (by omega : ix l n 0 < 0)
    have h3 : fd l n = none := by
      unfold fd
      rw [List.find?_eq_none]
      intro e he
      simpa using h2 e he
    exact ⟨E0, false, -1, by rw [h3]; rfl, by rw [h3]; rfl, h1, E0_ok, .inr ⟨rfl, rfl, rfl⟩⟩
theorem vic_cases {l : List E} {s ways : Nat} (hr : Rl s ways l) (n pick : Int) : ∃ m z, (vic ways (rows l s) n pick).getD E0 = m ∧ (vic ways (rows l s) n pick).isSome = z ∧ Ok m := by
  refine ⟨_, _, rfl, rfl, ?_⟩
  cases h : vic ways (rows l s) n pick with
  | none => exact E0_ok
  | some e =>
    unfold vic at h
    rw [rowQ_rows l s hr.s0] at h
    split at h
    · cases h
    · split at h
      · exact hr.ok e (List.mem_filter.1 (List.mem_of_getElem? h)).1
      · cases h
end Ln
end Go.Proofs.Ytifniogldinbdaa
