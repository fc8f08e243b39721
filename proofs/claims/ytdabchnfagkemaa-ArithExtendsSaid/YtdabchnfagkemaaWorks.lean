/-
  The contract of the statements' own 'works': five known answers.
-/
import Derived.Test.YtdabchnfagkemaaRefc
namespace Go.Proofs.Ytdabchnfagkemaa
open Go.RowKit

theorem works_any (w : World) :
    Calls Try.prog 18 #[] w fun e w' => e = .returned (.bool true) ∧ ∃ n, w' = w.drewN n := by
  have e1 : Ar.add 4294967295 2 = 1 := by decide
  have e2 : Ar.div 2147483648 4294967295 = 2147483648 := by decide
  have e3 : Ar.sar 2147483648 33 = 3221225472 := by decide
  have e4 : Ar.ext 255 8 = 4294967295 := by decide
  have e5 : Ar.less 4294967295 0 = true := by decide
  go_enter Try.func18, Try.ntmps18
  go_wp2_with fail
  refine (add_any _ _ _).mono ?_
  rintro e w' ⟨rfl, rfl⟩
  go_wp2_with fail
  refine (div_any _ _ (by unfold Ar.Wd; omega) (by unfold Ar.Wd; omega) _).mono ?_
  rintro e w' ⟨rfl, n, rfl⟩
  go_wp2_with fail
  refine (sar_any _ _ (by unfold Ar.Wd; omega) (by unfold Ar.Wd; omega) _).mono ?_
  rintro e w' ⟨rfl, rfl⟩
  go_wp2_with fail
  refine (extend_any _ _ (by unfold Ar.Wd; omega) (by omega) _).mono ?_
  rintro e w' ⟨rfl, rfl⟩
  go_wp2_with fail
  refine (less_any _ _ (by unfold Ar.Wd; omega) (by unfold Ar.Wd; omega) _).mono ?_
  rintro e w' ⟨rfl, rfl⟩
  go_wp2
  go_ret
  exact ⟨rfl, _, rfl⟩
end Go.Proofs.Ytdabchnfagkemaa
