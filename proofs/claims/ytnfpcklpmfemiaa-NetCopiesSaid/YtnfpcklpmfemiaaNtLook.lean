/-
  What is looked up in the map of what each kind wants.
-/
import Derived.Test.YtnfpcklpmfemiaaNtWant
namespace Go.Proofs.Ytnfpcklpmfemiaa
open Go.RowKit
open Go.Maps (Keyed int_keyed keyOf_int_mk IsMap)
set_option linter.unusedVariables false
set_option linter.unusedSimpArgs false
namespace Nt
set_option maxRecDepth 100000
/-- is it a kind -/
def kd (k : Int) : Bool := decide (1 ≤ k ∧ k ≤ 13)
theorem isMap_D (n : Nat) : IsMap (D n) := by
  induction n with
  | zero => exact ⟨[], rfl⟩
  | succ n ih =>
    obtain ⟨es, h⟩ := ih
    rw [D_succ, h]
    exact ⟨_, rfl⟩
theorem iskey (k : Int) : WideAt.IsKeyLit (.int .i64 k) := by first | trivial | exact rfl | simp [WideAt.IsKeyLit]
theorem has_D (n : Nat) (k : Int) : Maps.has (D n) (.int .i64 k) = decide (1 ≤ k ∧ k ≤ (n : Int)) := by
  induction n with
  | zero => rw [decide_eq_false (by omega)]; rfl
  | succ n ih =>
    rw [D_succ]
    by_cases e : k = (n : Int) + 1
    · subst e
      rw [Maps.has_put_same (isMap_D n) (iskey _), decide_eq_true (by omega)]
    · rw [Maps.has_put_other (by intro h; injection h with _ h; exact e h), ih]
      exact decide_eq_decide.2 (by omega)
theorem at_D (n : Nat) (k : Int) (z : DataW Unit) : (D n).atKey (.int .i64 k) z = if 1 ≤ k ∧ k ≤ (n : Int) then .agg [.lit (.bool (hm k)), .lit (.bool (bs k))] else z := by
  induction n with
  | zero => rw [if_neg (by omega)]; rfl
  | succ n ih =>
    rw [D_succ]
    by_cases e : k = (n : Int) + 1
    · subst e
      rw [Maps.atKey_put_same (isMap_D n) (iskey _), if_pos (by omega)]
      rfl
    · rw [Maps.atKey_put_other (by intro h; injection h with _ h; exact e h), ih]
      by_cases h : 1 ≤ k ∧ k ≤ (n : Int)
      · rw [if_pos h, if_pos (by omega)]
      · rw [if_neg h, if_neg (by omega)]
theorem hm_no {k : Int} (h : ¬ (1 ≤ k ∧ k ≤ 13)) : hm k = false := by
  unfold hm
  have h1 : ∀ j : Int, 1 ≤ j → j ≤ 13 → (k == j) = false := fun j h1 h2 => by simp; omega
  rw [h1 1 (by decide) (by decide), h1 2 (by decide) (by decide), h1 3 (by decide) (by decide), h1 11 (by decide) (by decide), h1 12 (by decide) (by decide), h1 13 (by decide) (by decide)]; rfl
theorem bs_no {k : Int} (h : ¬ (1 ≤ k ∧ k ≤ 13)) : bs k = false := by
  unfold bs
  have h1 : ∀ j : Int, 1 ≤ j → j ≤ 13 → (k == j) = false := fun j h1 h2 => by simp; omega
  rw [h1 3 (by decide) (by decide), h1 8 (by decide) (by decide), h1 9 (by decide) (by decide), h1 10 (by decide) (by decide), h1 11 (by decide) (by decide)]; rfl
theorem zero_want (w : World) : (zeroValue 120).run Try.prog w = .ok (.agg #[.bool false, .bool false]) w := by kernel_rfl
theorem look_want {w : World} {b : Nat} (h : w.ownsMap Try.prog 55 wantElem b 13 (D 13)) {k : Int} (hk : Ev.i64B k) :
    (Instr.lookup 122 (.map (some b)) (.int .i64 k) true).run Try.prog w = .ok (.tuple #[.agg #[.bool (hm k), .bool (bs k)], .bool (kd k)]) w := by
  obtain ⟨v, ps, hr, hv⟩ := h.look_ok law_kind Try.underlying122 (zero_want w) (wantElem_mk false false) (keyOf_int_mk (P := Try.prog) Try.underlying55 (wf_i64 hk))
  rw [has_D] at hr
  rw [at_D] at hv
  have e : v = .agg #[.bool (hm k), .bool (bs k)] := by
    by_cases h1 : 1 ≤ k ∧ k ≤ ((13 : Nat) : Int)
    · rw [if_pos h1] at hv
      exact wantElem_inv hv
    · rw [if_neg h1] at hv
      rw [hm_no h1, bs_no h1]
      exact wantElem_inv hv
  rw [hr, e]; rfl
theorem look_to {o : Oper} {ρ : Operand → Value} {w : World} {b : Nat} (h : w.ownsMap Try.prog 55 wantElem b 13 (D 13)) {k : Int} (hk : Ev.i64B k) (m x : Operand) (ho : o.op = .lookup 122 m x true) (hm' : ρ m = .map (some b)) (hx : ρ x = .int .i64 k) :
    (execOp ρ o).run Try.prog w = .ok (.value (.tuple #[.agg #[.bool (hm k), .bool (bs k)], .bool (kd k)])) w := by
  have hr := look_want h hk
  simp [execOp, ho, hm', hx, hr, Result.andThen]
end Nt
end Go.Proofs.Ytnfpcklpmfemiaa
