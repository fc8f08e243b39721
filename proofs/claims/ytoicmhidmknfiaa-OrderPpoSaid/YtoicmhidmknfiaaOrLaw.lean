/-
  What the laws of layer 7 stand on.
-/
import Derived.Test.YtoicmhidmknfiaaOrCM
import Derived.Test.YtoicmhidmknfiaaOrEq
import Derived.Test.YtoicmhidmknfiaaEvZM
import Derived.Test.YtoicmhidmknfiaaEvRchk
import Derived.Test.YtoicmhidmknfiaaEvWM
namespace Go.Proofs.Ytoicmhidmknfiaa
open Go.RowKit
set_option linter.unusedVariables false
theorem rcheck_is {x : Ev.X} {v : Int} (h : Ev.check x = v) (w : World) (hin : Ev.XIn w x) : Calls Try.prog 16 #[.agg (Ev.xcells x).toArray] w fun e w' => e = .returned (.int .i64 v) ∧ Below w.heap.size w w' := h ▸ rcheck_any x w hin
theorem ppo_pl {x : Ev.X} (hc : Ev.check x = 0) : Ev.pl (Or.ppo x) x.ev.length x.ev.length = Ev.pl (Ev.isPpo x) x.ev.length x.ev.length := by
  refine Or.pl_congr fun a b ha hb => ?_
  unfold Or.ppo Ev.isPpo
  rw [Or.hold_eq hc ha hb, Bool.eq_iff_iff]
  simp only [Bool.not_eq_true', List.isEmpty_eq_false_iff_exists_mem, List.mem_filter, List.mem_range, Bool.and_eq_true, decide_eq_true_eq, List.any_eq_true]
  constructor
  · rintro ⟨i, h1, h2, h3⟩
    exact ⟨i - 1, by omega, by rw [show i - 1 + 1 = i by omega]; exact h3⟩
  · rintro ⟨i, h1, h2⟩
    exact ⟨i + 1, by omega, by omega, h2⟩
end Go.Proofs.Ytoicmhidmknfiaa
