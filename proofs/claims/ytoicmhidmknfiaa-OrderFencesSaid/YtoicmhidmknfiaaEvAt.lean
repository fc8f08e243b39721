/-
  The document's own At tells where a number stands in a list.
-/
import Derived.Test.YtoicmhidmknfiaaEvLow
import Derived.WalkKit
namespace Go.Proofs.Ytoicmhidmknfiaa
open Go.RowKit
set_option linter.unusedVariables false
set_option linter.unusedSimpArgs false
namespace Ev
def atGo (n : Int) : Int → List Int → Int
  | _, [] => -1
  | i, v :: r => if v = n then i else atGo n (i + 1) r
def at_ (l : List Int) (n : Int) : Int := atGo n 0 l
theorem atGo_neg {n : Int} : ∀ {l : List Int} {i : Int}, n ∉ l → atGo n i l = -1
  | [], _, _ => rfl
  | v :: r, i, h => by
    unfold atGo
    rw [if_neg (fun e => h (by rw [e]; exact List.mem_cons_self))]
    exact atGo_neg fun hm => h (List.mem_cons_of_mem _ hm)
theorem atGo_pos {n : Int} : ∀ {l : List Int} {i : Int}, n ∈ l → i ≤ atGo n i l
  | v :: r, i, h => by
    unfold atGo
    by_cases e : v = n
    · rw [if_pos e]; exact Int.le_refl _
    · rw [if_neg e]
      have := atGo_pos (i := i + 1) (List.mem_of_ne_of_mem (Ne.symm e) h)
      omega
theorem at_neg (l : List Int) (n : Int) : at_ l n < 0 ↔ n ∉ l := by
  constructor
  · intro h hm
    have := atGo_pos (i := 0) hm
    unfold at_ at h; omega
  · intro h
    unfold at_; rw [atGo_neg h]; omega
end Ev
set_option maxRecDepth 100000 in
set_option maxHeartbeats 1000000 in
theorem rat_any (S : Ev.Sl) (n : Int) (w : World) (hS : Ev.IntsIn w S) :
    Calls Try.prog 42 #[.slice S.a S.l.length S.c, .int .i64 n] w fun e w' => e = .returned (.int .i64 (Ev.at_ S.l n)) ∧ w = w' := by
  have hsm := hS.2.2.1; have hsl := hS.2.1
  have HS := Lib.hid hS; clear hS
  go_enter Try.func42, Try.ntmps42
  go_wp2
  go_loopw [5] (fun i wr => ∃ k : Nat, k ≤ S.l.length ∧ i = .int .i64 (k : Int) ∧ Ev.at_ S.l n = Ev.atGo n k (S.l.drop k) ∧ wr = w) (fun i _ => S.l.length - (intOf i).toNat)
  case atStart => exact ⟨0, Nat.zero_le _, rfl, rfl, rfl⟩
  case round =>
    obtain ⟨k, hk, rfl, hgo, rfl⟩ := hrel
    have HGO := Lib.hid hgo; clear hgo
    by_cases hlt : k < S.l.length
    · obtain ⟨d, hd⟩ : ∃ d, S.l[k]? = some d := ⟨_, List.getElem?_eq_getElem hlt⟩
      have hdrop : S.l.drop k = d :: S.l.drop (k + 1) := by
        rw [List.drop_eq_getElem_cons hlt]; congr 1; rw [List.getElem?_eq_getElem hlt] at hd; exact Option.some.inj hd
      obtain ⟨g, o, e, c⟩ := HS.out.at_ hd
      have hki : (k : Int) < (S.l.length : Int) := by omega
      rw [e]
      by_cases hq : d = n
      · have HR := Lib.hid (show Ev.at_ S.l n = (k : Int) by rw [HGO.out, hdrop]; unfold Ev.atGo; rw [if_pos hq])
        have tq : (d == n) = true := by simpa using hq
        clear hd hdrop e hq
        go_wp2
        go_ret
        refine ⟨?_, rfl⟩
        rw [HR.out]; rfl
      · have HR := Lib.hid (show Ev.at_ S.l n = Ev.atGo n ((k + 1 : Nat) : Int) (S.l.drop (k + 1)) by rw [HGO.out, hdrop]; simp only [Ev.atGo]; rw [if_neg hq]; rfl)
        have tq : (d == n) = false := by simpa using hq
        clear hd hdrop e hq
        go_wp2
        try go_roundw
        first
        | exact ⟨⟨k + 1, by omega, by go_num, HR.out, by first | rfl | trivial⟩, by simp [intOf]; omega⟩
        | (case rel => exact ⟨k + 1, by omega, by go_num, HR.out, by first | rfl | trivial⟩
           case measure => simp [intOf]; omega)
    · have hki : ¬ (k : Int) < (S.l.length : Int) := by omega
      have HR := Lib.hid (show Ev.at_ S.l n = -1 by rw [HGO.out, List.drop_eq_nil_of_le (by omega)]; rfl)
      go_wp2
      go_ret
      refine ⟨?_, rfl⟩
      rw [HR.out]; rfl
end Go.Proofs.Ytoicmhidmknfiaa
