/-
  slices.Equal and the document's SameInts, over slices of ints.
-/
import Derived.Test.YtoicmhidmknfiaaEvLow
import Derived.Deep.QuietTactic
import Derived.BigQuiet
import Derived.IntWalk
namespace Go.Proofs.Ytoicmhidmknfiaa
open Go.RowKit
set_option linter.unusedVariables false
set_option linter.unusedSimpArgs false
theorem below_drewN {B : Nat} {a w : World} (h : Below B a w) (n : Nat) : Below B a (w.drewN n) := ⟨h.os, h.tape, h.output, h.size, h.block⟩
theorem Ev.list_eq {s t : List Int} (hl : s.length = t.length) (h : ∀ j, j < s.length → s[j]? = t[j]?) : s = t := by
  apply List.ext_getElem? 
  intro j
  by_cases hj : j < s.length
  · exact h j hj
  · rw [List.getElem?_eq_none (by omega), List.getElem?_eq_none (by omega)]
set_option maxHeartbeats 2000000 in
theorem sameInts_any (s t : Ev.Sl) (w : World) (hs : Ev.IntsIn w s) (ht : Ev.IntsIn w t) :
    Calls Try.prog 24 #[.slice s.a s.l.length s.c, .slice t.a t.l.length t.c] w fun e w' => e = .returned (.bool (decide (s.l = t.l))) ∧ ∃ n, w' = w.drewN n := by
  have HS := Lib.hid hs; have HT := Lib.hid ht
  have hsc := hs.2.1; have hsm := hs.2.2.1; have htc := ht.2.1; have htm := ht.2.2.1
  clear hs ht
  by_cases hl : s.l.length = t.l.length
  · have HL := Lib.hid hl
    have hne : ((s.l.length : Int) != (t.l.length : Int)) = false := by simp [hl]
    clear hl
    go_enter Try.func24, Try.ntmps24
    go_wp2
    go_loopw [5] (fun i wr => ∃ k n : Nat, k ≤ s.l.length ∧ i = .int .i64 (k : Int) ∧ (∀ j, j < k → s.l[j]? = t.l[j]?) ∧ wr = w.drewN n) (fun i _ => s.l.length - (intOf i).toNat)
    case atStart => exact ⟨0, 0, Nat.zero_le _, rfl, fun j hj => absurd hj (by omega), rfl⟩
    case round =>
      obtain ⟨k, n, hk, rfl, hall, rfl⟩ := hrel
      have HA := Lib.hid hall; clear hall
      by_cases hlt : k < s.l.length
      · have hltt : k < t.l.length := by have := HL.out; omega
        obtain ⟨a, ha⟩ : ∃ a, s.l[k]? = some a := ⟨_, List.getElem?_eq_getElem hlt⟩
        obtain ⟨b, hb⟩ : ∃ b, t.l[k]? = some b := ⟨_, List.getElem?_eq_getElem hltt⟩
        obtain ⟨g1, o1, e1, c1⟩ := HS.out.at_ ha
        obtain ⟨g2, o2, e2, c2⟩ := HT.out.at_ hb
        have HAk := Lib.hid ha; have HBk := Lib.hid hb
        have hki : (k : Int) < (s.l.length : Int) := by omega
        have hkt : (k : Int) < (t.l.length : Int) := by omega
        clear ha hb
        rw [e1, e2]
        clear e1 e2
        by_cases hab : a = b
        · have hq : (a != b) = false := by simp [hab]
          have HAB := Lib.hid hab; clear hab
          go_wp2
          go_quiet ((fail))
          go_wp2
          go_roundw
          case rel =>
            refine ⟨k + 1, _, by omega, by go_num, fun j hj => ?_, by first | rfl | exact World.drewN_drewN _ _ _⟩
            by_cases hjk : j = k
            · subst hjk; rw [HAk.out, HBk.out, HAB.out]
            · exact HA.out j (by omega)
          case measure => simp [intOf]; omega
        · have hq : (a != b) = true := by simpa using hab
          have hf : decide (s.l = t.l) = false := by
            apply decide_eq_false
            intro e
            rw [e, HBk.out] at HAk
            exact hab (Option.some.inj HAk.out).symm
          have HF := Lib.hid hf; clear hf hab
          go_wp2
          go_quiet ((fail))
          go_wp2
          go_ret
          exact ⟨by rw [HF.out]; rfl, _, by first | rfl | exact World.drewN_drewN _ _ _⟩
      · have hkk : k = s.l.length := by omega
        have hf : decide (s.l = t.l) = true := decide_eq_true (Ev.list_eq HL.out fun j hj => HA.out j (by omega))
        have hki : ¬ (k : Int) < (s.l.length : Int) := by omega
        have HF := Lib.hid hf; clear hf hkk
        go_wp2
        go_ret
        exact ⟨by rw [HF.out]; rfl, _, by first | rfl | exact World.drewN_drewN _ _ _⟩
  · have hf : decide (s.l = t.l) = false := decide_eq_false fun e => hl (by rw [e])
    have hne : ((s.l.length : Int) != (t.l.length : Int)) = true := by simp; omega
    rw [hf]; clear hf hl
    go_enter Try.func24, Try.ntmps24
    go_wp2
    go_ret
    exact ⟨rfl, 0, rfl⟩
end Go.Proofs.Ytoicmhidmknfiaa
