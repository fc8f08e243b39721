/-
  Same of no cache; what is gathered of a cache.
-/
import Derived.Test.YtifniogldinbdaaLnWorks
namespace Go.Proofs.Ytifniogldinbdaa
open Go.RowKit
set_option linter.unusedVariables false
set_option linter.unusedSimpArgs false
theorem same_nn (w : World) : Calls Try.prog 19 #[.pointer none, .pointer none] w fun e w' => e = .returned (.bool true) ∧ w = w' := by
  go_enter Try.func19, Try.ntmps19
  go_wp2_with (go_at_call 33; (with_reducible refine (isNone_nil w).mono ?_); rintro e W2 ⟨rfl, hw⟩; subst hw)
  go_ret
  exact ⟨rfl, rfl⟩
theorem same_nc (w : World) {F p ways Q} (h : Ln.Cache w F p ways Q) : Calls Try.prog 19 #[.pointer none, .pointer (some ⟨p, 0, none⟩)] w fun e w' => e = .returned (.bool false) ∧ w = w' := by
  obtain ⟨g, S, hc, rfl⟩ := h
  have KN := Lib.hid (isNone_any w hc)
  clear hc
  go_enter Try.func19, Try.ntmps19
  go_wp2_with (first
    | (go_at_call 33; (with_reducible refine (isNone_nil w).mono ?_); rintro e W2 ⟨rfl, hw⟩; subst hw)
    | (go_at_call 33; (with_reducible refine KN.out.mono ?_); rintro e W2 ⟨rfl, hw⟩; subst hw))
  go_ret
  exact ⟨rfl, rfl⟩
theorem same_cn (w : World) {F p ways Q} (h : Ln.Cache w F p ways Q) : Calls Try.prog 19 #[.pointer (some ⟨p, 0, none⟩), .pointer none] w fun e w' => e = .returned (.bool false) ∧ w = w' := by
  obtain ⟨g, S, hc, rfl⟩ := h
  have KN := Lib.hid (isNone_any w hc)
  clear hc
  go_enter Try.func19, Try.ntmps19
  go_wp2_with (first
    | (go_at_call 33; (with_reducible refine (isNone_nil w).mono ?_); rintro e W2 ⟨rfl, hw⟩; subst hw)
    | (go_at_call 33; (with_reducible refine KN.out.mono ?_); rintro e W2 ⟨rfl, hw⟩; subst hw))
  go_ret
  exact ⟨rfl, rfl⟩
namespace Ln
/-- lines that a function has told: in blocks of its own -/
def Told (w w' : World) (e : Ending) (l : List E) : Prop := ∃ a c, e = .returned (.slice a l.length c) ∧ w'.ownsRow w.heap.size 30 18 (.slice a l.length c) l.length (flat l) ∧ (∀ x ∈ l, Ok x) ∧ Below w.heap.size w w'
end Ln
theorem gather_nil (w : World) : Calls Try.prog 17 #[.pointer none] w fun e w' => Ln.Told w w' e [] := gather_of (.pointer none) w (xs := []) fun W _ => all_nil W
theorem gather_any (w : World) {F p ways Q} (h : Ln.Cache w F p ways Q) : Calls Try.prog 17 #[.pointer (some ⟨p, 0, none⟩)] w fun e w' => Ln.Told w w' e Q.flatten := gather_of (.pointer (some ⟨p, 0, none⟩)) w (xs := Q.flatten) fun W hb => all_any W (h.kp hb)
end Go.Proofs.Ytifniogldinbdaa
