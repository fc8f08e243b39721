/-
  Each Op's meaning, whatever the Op.
-/
import Derived.Test.YtianojbdabeoeaaGreatDoorHtMapM
import Derived.Test.YtianojbdabeoeaaGreatDoorHtRegs
import Derived.Test.YtianojbdabeoeaaGreatDoorHtImms
import Derived.Test.YtianojbdabeoeaaGreatDoorHtBran
import Derived.Test.YtianojbdabeoeaaGreatDoorHtRest
namespace Go.Proofs.YtianojbdabeoeaaGreatDoor
open Go.RowKit Ht
set_option linter.unusedVariables false
def Ht.fnL : List Nat := [0, 173, 174, 106, 109, 111, 114, 115, 117, 118, 120, 121, 124, 125, 126, 127, 128, 130, 131, 132, 134, 136, 137, 138, 139, 140, 142, 144, 146, 147, 149, 150, 151, 152, 153, 154, 155, 156, 175, 176, 157, 159, 161, 163, 165, 167, 169, 171, 177, 179, 86, 86, 86, 86, 86, 86, 86, 86, 86, 180]
/-- the function that means an Op -/
def Ht.fnO (op : Nat) : Nat := fnL.getD op 0
theorem Ht.ops {op : Nat} (h : 1 ≤ op ∧ op ≤ 59) : op = 1 ∨ op = 2 ∨ op = 3 ∨ op = 4 ∨ op = 5 ∨ op = 6 ∨ op = 7 ∨ op = 8 ∨ op = 9 ∨ op = 10 ∨ op = 11 ∨ op = 12 ∨ op = 13 ∨ op = 14 ∨ op = 15 ∨ op = 16 ∨ op = 17 ∨ op = 18 ∨ op = 19 ∨ op = 20 ∨ op = 21 ∨ op = 22 ∨ op = 23 ∨ op = 24 ∨ op = 25 ∨ op = 26 ∨ op = 27 ∨ op = 28 ∨ op = 29 ∨ op = 30 ∨ op = 31 ∨ op = 32 ∨ op = 33 ∨ op = 34 ∨ op = 35 ∨ op = 36 ∨ op = 37 ∨ op = 38 ∨ op = 39 ∨ op = 40 ∨ op = 41 ∨ op = 42 ∨ op = 43 ∨ op = 44 ∨ op = 45 ∨ op = 46 ∨ op = 47 ∨ op = 48 ∨ op = 49 ∨ op = 50 ∨ op = 51 ∨ op = 52 ∨ op = 53 ∨ op = 54 ∨ op = 55 ∨ op = 56 ∨ op = 57 ∨ op = 58 ∨ op = 59 := by omega
theorem meaning_any (op : Nat) (h : 1 ≤ op ∧ op ≤ 59) (w : World) : Calls Tryz.prog 54 #[.int .i64 op] w fun e w' => e = .returned (.func (.func (fnO op)) #[] #[]) ∧ Below w.heap.size w w' := by
  rcases ops h with rfl | rfl | rfl | rfl | rfl | rfl | rfl | rfl | rfl | rfl | rfl | rfl | rfl | rfl | rfl | rfl | rfl | rfl | rfl | rfl | rfl | rfl | rfl | rfl | rfl | rfl | rfl | rfl | rfl | rfl | rfl | rfl | rfl | rfl | rfl | rfl | rfl | rfl | rfl | rfl | rfl | rfl | rfl | rfl | rfl | rfl | rfl | rfl | rfl | rfl | rfl | rfl | rfl | rfl | rfl | rfl | rfl | rfl | rfl
  · exact mo1 w
  · exact mo2 w
  · exact mo3 w
  · exact mo4 w
  · exact mo5 w
  · exact mo6 w
  · exact mo7 w
  · exact mo8 w
  · exact mo9 w
  · exact mo10 w
  · exact mo11 w
  · exact mo12 w
  · exact mo13 w
  · exact mo14 w
  · exact mo15 w
  · exact mo16 w
  · exact mo17 w
  · exact mo18 w
  · exact mo19 w
  · exact mo20 w
  · exact mo21 w
  · exact mo22 w
  · exact mo23 w
  · exact mo24 w
  · exact mo25 w
  · exact mo26 w
  · exact mo27 w
  · exact mo28 w
  · exact mo29 w
  · exact mo30 w
  · exact mo31 w
  · exact mo32 w
  · exact mo33 w
  · exact mo34 w
  · exact mo35 w
  · exact mo36 w
  · exact mo37 w
  · exact mo38 w
  · exact mo39 w
  · exact mo40 w
  · exact mo41 w
  · exact mo42 w
  · exact mo43 w
  · exact mo44 w
  · exact mo45 w
  · exact mo46 w
  · exact mo47 w
  · exact mo48 w
  · exact mo49 w
  · exact mo50 w
  · exact mo51 w
  · exact mo52 w
  · exact mo53 w
  · exact mo54 w
  · exact mo55 w
  · exact mo56 w
  · exact mo57 w
  · exact mo58 w
  · exact mo59 w
theorem call_fnO (op : Nat) (h : 1 ≤ op ∧ op ≤ 59) (args : Array Value) (w : World) : (callFunc (fnO op) args).run Tryz.prog w = .ok (.enter (fnO op) args) w := by
  rcases ops h with rfl | rfl | rfl | rfl | rfl | rfl | rfl | rfl | rfl | rfl | rfl | rfl | rfl | rfl | rfl | rfl | rfl | rfl | rfl | rfl | rfl | rfl | rfl | rfl | rfl | rfl | rfl | rfl | rfl | rfl | rfl | rfl | rfl | rfl | rfl | rfl | rfl | rfl | rfl | rfl | rfl | rfl | rfl | rfl | rfl | rfl | rfl | rfl | rfl | rfl | rfl | rfl | rfl | rfl | rfl | rfl | rfl | rfl | rfl
  · exact (by as_aux_lemma => kernel_rfl)
  · exact (by as_aux_lemma => kernel_rfl)
  · exact (by as_aux_lemma => kernel_rfl)
  · exact (by as_aux_lemma => kernel_rfl)
  · exact (by as_aux_lemma => kernel_rfl)
  · exact (by as_aux_lemma => kernel_rfl)
  · exact (by as_aux_lemma => kernel_rfl)
  · exact (by as_aux_lemma => kernel_rfl)
  · exact (by as_aux_lemma => kernel_rfl)
  · exact (by as_aux_lemma => kernel_rfl)
  · exact (by as_aux_lemma => kernel_rfl)
  · exact (by as_aux_lemma => kernel_rfl)
  · exact (by as_aux_lemma => kernel_rfl)
  · exact (by as_aux_lemma => kernel_rfl)
  · exact (by as_aux_lemma => kernel_rfl)
  · exact (by as_aux_lemma => kernel_rfl)
  · exact (by as_aux_lemma => kernel_rfl)
  · exact (by as_aux_lemma => kernel_rfl)
  · exact (by as_aux_lemma => kernel_rfl)
  · exact (by as_aux_lemma => kernel_rfl)
  · exact (by as_aux_lemma => kernel_rfl)
  · exact (by as_aux_lemma => kernel_rfl)
  · exact (by as_aux_lemma => kernel_rfl)
  · exact (by as_aux_lemma => kernel_rfl)
  · exact (by as_aux_lemma => kernel_rfl)
  · exact (by as_aux_lemma => kernel_rfl)
  · exact (by as_aux_lemma => kernel_rfl)
  · exact (by as_aux_lemma => kernel_rfl)
  · exact (by as_aux_lemma => kernel_rfl)
  · exact (by as_aux_lemma => kernel_rfl)
  · exact (by as_aux_lemma => kernel_rfl)
  · exact (by as_aux_lemma => kernel_rfl)
  · exact (by as_aux_lemma => kernel_rfl)
  · exact (by as_aux_lemma => kernel_rfl)
  · exact (by as_aux_lemma => kernel_rfl)
  · exact (by as_aux_lemma => kernel_rfl)
  · exact (by as_aux_lemma => kernel_rfl)
  · exact (by as_aux_lemma => kernel_rfl)
  · exact (by as_aux_lemma => kernel_rfl)
  · exact (by as_aux_lemma => kernel_rfl)
  · exact (by as_aux_lemma => kernel_rfl)
  · exact (by as_aux_lemma => kernel_rfl)
  · exact (by as_aux_lemma => kernel_rfl)
  · exact (by as_aux_lemma => kernel_rfl)
  · exact (by as_aux_lemma => kernel_rfl)
  · exact (by as_aux_lemma => kernel_rfl)
  · exact (by as_aux_lemma => kernel_rfl)
  · exact (by as_aux_lemma => kernel_rfl)
  · exact (by as_aux_lemma => kernel_rfl)
  · exact (by as_aux_lemma => kernel_rfl)
  · exact (by as_aux_lemma => kernel_rfl)
  · exact (by as_aux_lemma => kernel_rfl)
  · exact (by as_aux_lemma => kernel_rfl)
  · exact (by as_aux_lemma => kernel_rfl)
  · exact (by as_aux_lemma => kernel_rfl)
  · exact (by as_aux_lemma => kernel_rfl)
  · exact (by as_aux_lemma => kernel_rfl)
  · exact (by as_aux_lemma => kernel_rfl)
  · exact (by as_aux_lemma => kernel_rfl)
theorem means_any (s : S) (p : Nat) (w : World) (hs : Stp w p s) (hop : 1 ≤ s.i.op ∧ s.i.op ≤ 59) (hA : s.a = A0) (K : GoodS s) : Means (fnO s.i.op) p w s := by
  rcases ops hop with h | h | h | h | h | h | h | h | h | h | h | h | h | h | h | h | h | h | h | h | h | h | h | h | h | h | h | h | h | h | h | h | h | h | h | h | h | h | h | h | h | h | h | h | h | h | h | h | h | h | h | h | h | h | h | h | h | h | h
  · rw [h]; exact m1 s p w hs h hA K
  · rw [h]; exact m2 s p w hs h hA K
  · rw [h]; exact m3 s p w hs h hA K
  · rw [h]; exact m4 s p w hs h hA K
  · rw [h]; exact m5 s p w hs h hA K
  · rw [h]; exact m6 s p w hs h hA K
  · rw [h]; exact m7 s p w hs h hA K
  · rw [h]; exact m8 s p w hs h hA K
  · rw [h]; exact m9 s p w hs h hA K
  · rw [h]; exact m10 s p w hs h hA K
  · rw [h]; exact m11 s p w hs h hA K
  · rw [h]; exact m12 s p w hs h hA K
  · rw [h]; exact m13 s p w hs h hA K
  · rw [h]; exact m14 s p w hs h hA K
  · rw [h]; exact m15 s p w hs h hA K
  · rw [h]; exact m16 s p w hs h hA K
  · rw [h]; exact m17 s p w hs h hA K
  · rw [h]; exact m18 s p w hs h hA K
  · rw [h]; exact m19 s p w hs h hA K
  · rw [h]; exact m20 s p w hs h hA K
  · rw [h]; exact m21 s p w hs h hA K
  · rw [h]; exact m22 s p w hs h hA K
  · rw [h]; exact m23 s p w hs h hA K
  · rw [h]; exact m24 s p w hs h hA K
  · rw [h]; exact m25 s p w hs h hA K
  · rw [h]; exact m26 s p w hs h hA K
  · rw [h]; exact m27 s p w hs h hA K
  · rw [h]; exact m28 s p w hs h hA K
  · rw [h]; exact m29 s p w hs h hA K
  · rw [h]; exact m30 s p w hs h hA K
  · rw [h]; exact m31 s p w hs h hA K
  · rw [h]; exact m32 s p w hs h hA K
  · rw [h]; exact m33 s p w hs h hA K
  · rw [h]; exact m34 s p w hs h hA K
  · rw [h]; exact m35 s p w hs h hA K
  · rw [h]; exact m36 s p w hs h hA K
  · rw [h]; exact m37 s p w hs h hA K
  · rw [h]; exact m38 s p w hs h hA K
  · rw [h]; exact m39 s p w hs h hA K
  · rw [h]; exact m40 s p w hs h hA K
  · rw [h]; exact m41 s p w hs h hA K
  · rw [h]; exact m42 s p w hs h hA K
  · rw [h]; exact m43 s p w hs h hA K
  · rw [h]; exact m44 s p w hs h hA K
  · rw [h]; exact m45 s p w hs h hA K
  · rw [h]; exact m46 s p w hs h hA K
  · rw [h]; exact m47 s p w hs h hA K
  · rw [h]; exact m48 s p w hs h hA K
  · rw [h]; exact m49 s p w hs h hA K
  · rw [h]; exact mamo s p w hs (by omega) hA K
  · rw [h]; exact mamo s p w hs (by omega) hA K
  · rw [h]; exact mamo s p w hs (by omega) hA K
  · rw [h]; exact mamo s p w hs (by omega) hA K
  · rw [h]; exact mamo s p w hs (by omega) hA K
  · rw [h]; exact mamo s p w hs (by omega) hA K
  · rw [h]; exact mamo s p w hs (by omega) hA K
  · rw [h]; exact mamo s p w hs (by omega) hA K
  · rw [h]; exact mamo s p w hs (by omega) hA K
  · rw [h]; exact m59 s p w hs h hA K
end Go.Proofs.YtianojbdabeoeaaGreatDoor
