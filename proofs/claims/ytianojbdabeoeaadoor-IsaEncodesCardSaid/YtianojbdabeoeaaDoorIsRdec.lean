/-
  The document's own answer: which instruction a word is.
-/
import Derived.Test.YtianojbdabeoeaaDoorIsRyes
import Derived.Test.YtianojbdabeoeaaDoorIsRefc
namespace Go.Proofs.YtianojbdabeoeaaDoor
open Go.RowKit
set_option linter.unusedVariables false
set_option linter.unusedSimpArgs false
theorem Is.bt_31_25 (x : Int) : Is.bt x 31 25 = x / 33554432 % 128 := by simp [Is.bt]
theorem Is.bt_31_20 (x : Int) : Is.bt x 31 20 = x / 1048576 % 4096 := by simp [Is.bt]
/-- the word that the instruction of a word would have -/
def Is.wordX (op : Nat) (x : Int) : Int := Is.wordO op (Is.rdO (Is.fm op) x) (Is.rs1O (Is.fm op) x) (Is.rs2O (Is.fm op) x) (Is.immO (Is.fm op) x) (Is.aqO (Is.fm op) x) (Is.rlO (Is.fm op) x)
theorem below_seven0 {W a : World} {B p : Nat} {v0 v1 v2 v3 v4 v5 v6 : Value} (h : Below B a W) (hp : B ≤ p) :
    Below B a (((((((W.setCell ⟨p, 0, none⟩ v0).setCell ⟨p, 1, none⟩ v1).setCell ⟨p, 2, none⟩ v2).setCell ⟨p, 3, none⟩ v3).setCell ⟨p, 4, none⟩ v4).setCell ⟨p, 5, none⟩ v5).setCell ⟨p, 6, none⟩ v6) :=
  below_step 6 v6 (below_step 5 v5 (below_step 4 v4 (below_step 3 v3 (below_step 2 v2 (below_step 1 v1 (below_step 0 v0 h hp) hp) hp) hp) hp) hp) hp
end Go.Proofs.YtianojbdabeoeaaDoor
