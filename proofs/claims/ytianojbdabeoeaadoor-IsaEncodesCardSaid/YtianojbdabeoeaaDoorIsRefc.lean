/-
  Bounds of f3 and f7; pow and bits at numbers that are written out.
-/
import Derived.Test.YtianojbdabeoeaaDoorIsRefb
namespace Go.Proofs.YtianojbdabeoeaaDoor
open Go.RowKit
set_option linter.unusedVariables false
theorem Is.f3_bd (op : Nat) (h : op < 60) : 0 ≤ Is.f3 op ∧ Is.f3 op ≤ 7 := by
  have t : ((List.range 60).all fun q => decide (0 ≤ Is.f3 q) && decide (Is.f3 q ≤ 7)) = true := by decide +kernel
  have := List.all_eq_true.1 t op (List.mem_range.2 h)
  simpa using this
theorem Is.f7_bd (op : Nat) (h : op < 60) : 0 ≤ Is.f7 op ∧ Is.f7 op ≤ 127 := by
  have t : ((List.range 60).all fun q => decide (0 ≤ Is.f7 q) && decide (Is.f7 q ≤ 127)) = true := by decide +kernel
  have := List.all_eq_true.1 t op (List.mem_range.2 h)
  simpa using this
theorem rpow_lit (n v : Int) (hn : 0 ≤ n ∧ n ≤ 31) (hv : Is.pw n = v) (w : World) :
    Calls Tryd.prog 18 #[.int .i64 n] w fun e w' => e = .returned (.int .u32 v) ∧ w = w' := by
  rw [← hv]; exact rpow_any n hn w
theorem rbits_lit (x hi lo v : Int) (hx : Is.Wd x) (h0 : 0 ≤ lo) (h1 : lo ≤ hi) (h2 : hi ≤ 31) (hv : Is.bt x hi lo = v) (w : World) :
    Calls Tryd.prog 17 #[.int .u32 x, .int .i64 hi, .int .i64 lo] w fun e w' => e = .returned (.int .u32 v) ∧ w = w' := by
  rw [← hv]; exact rbits_any x hi lo hx h0 h1 h2 w

end Go.Proofs.YtianojbdabeoeaaDoor
