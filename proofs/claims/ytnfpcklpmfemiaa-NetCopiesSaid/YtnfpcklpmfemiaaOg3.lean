/-
  A region that draws, whose rest of the way reads the frame behind it written out. No program is named here.
-/
import Derived.Test.YtnfpcklpmfemiaaOg
namespace Go.Proofs.Ytnfpcklpmfemiaa
set_option linter.unusedVariables false
namespace Og
variable {P : Program}
open Go.RowKit
/-- the frame behind all operations, written out -/
def putAll (k : Nat) (l : List Oper) (vs : Nat → Value) (a : Act) : Act :=
  match l with
  | [] => a
  | o :: r => putAll (k + 1) r vs (a.put o.dst (vs k))
theorem putAll_eq {vs : Nat → Value} {b : Act} : ∀ (l : List Oper) (k : Nat) (a : Act), a.tmps.size = b.tmps.size → a.defers = b.defers →
    (∀ (j : Nat) (o : Oper) (d : Nat), l[j]? = some o → o.dst = some d → d < b.tmps.size ∧ b.tmps.getD d undef = vs (k + j)) →
    (∀ t, (∀ (j : Nat) (o : Oper), l[j]? = some o → o.dst ≠ some t) → b.tmps.getD t undef = a.tmps.getD t undef) → putAll k l vs a = b
  | [], k, a, hs, hd, _, h2 => by
    obtain ⟨at1, ad⟩ := a
    obtain ⟨bt, bd⟩ := b
    simp only at hs hd
    subst hd
    have e : at1 = bt := by
      apply Array.ext hs
      intro i h3 h4
      have h5 := h2 i (fun j o hj => by simp at hj)
      simp only [Array.getD_eq_getD_getElem?, Array.getElem?_eq_getElem h3, Array.getElem?_eq_getElem h4, Option.getD_some] at h5
      exact h5.symm
    subst e
    rfl
  | o :: r, k, a, hs, hd, h1, h2 => by
    refine putAll_eq r (k + 1) _ (by cases ho : o.dst <;> simp [Act.put, hs]) (by cases ho : o.dst <;> simp [Act.put, hd]) (fun j o' d hj hd' => ?_) (fun t ht => ?_)
    · have := h1 (j + 1) o' d (by simpa using hj) hd'
      rwa [show k + (j + 1) = k + 1 + j by omega] at this
    · cases ho : o.dst with
      | none =>
        exact h2 t (fun j o' hj => by
          cases j with
          | zero => simp at hj; subst hj; simp [ho]
          | succ j => exact ht j o' (by simpa using hj))
      | some d =>
        by_cases hdt : d = t
        · subst hdt
          obtain ⟨h3, h4⟩ := h1 0 o d (by simp) ho
          rw [h4]
          simp [Act.put, hs, h3]
        · rw [h2 t (fun j o' hj => by
            cases j with
            | zero => simp at hj; subst hj; simp [ho, hdt]
            | succ j => exact ht j o' (by simpa using hj))]
          simp [Act.put, Array.getElem?_setIfInBounds_ne hdt]
theorem region3 {id : Nat} {l : List Oper} {Q : Exit → Act → World → Prop} {a0 : Act} {w : World} (hm : P.follows .mixedOrders = true) (own : Nat → Option Nat) (S : List Sp) (W : List Bool)
    (hok : ok2 own l.toArray a0.tmps.size = true) (h : obls P own a0 w S W 0 l)
    (hend : ∀ (vs : Nat → Value) (w1 : World), Below w.heap.size w w1 → (∀ (j : Nat) (o : Oper) (d : Nat), l[j]? = some o → o.dst = some d → (at_ S j).holds (vs j) w1) → Q .normal (putAll 0 l vs a0) w1) :
    (Code.region id l.toArray true).wp P Q a0 w := by
  unfold ok2 at hok
  rw [Bool.and_eq_true] at hok
  refine region hm (fun a b => Below a.heap.size a b) (fun w => Below.refl _ _) (fun a b c h k => h.trans (k.mono h.size)) (fun j => (at_ S j).holds) (fun j v w w' h hb => holds_stab _ h hb) (fun j => W.getD j true) hok.1
    (fun j o ho => ?_) (fun j o ho ρ w1 hr hd => ?_) (fun a w1 hr hdf hsz hall hout => ?_)
  · have := (obls_at h (j := j) (o := o) (by simpa using ho)).1
    rw [Nat.zero_add] at this
    exact this
  · have := (obls_at h (j := j) (o := o) (by simpa using ho)).2 ρ w1 ⟨hr.os, hr.tape, hr.output, hr.size, hr.block⟩ (deps2_of (fun t ht => by
      have h1 := Array.all_eq_true_iff_forall_mem.1 hok.2 o (Array.mem_of_getElem? ho)
      have h2 := Array.all_eq_true_iff_forall_mem.1 h1 (.tmp t) (by simpa using ht)
      simpa using h2) hd)
    rw [Nat.zero_add] at this
    exact this
  · have key := hend (fun j => match l[j]? with | some o => slot o a | none => undef) w1 ⟨hr.os, hr.tape, hr.output, hr.size, hr.block⟩ (fun j o d ho hd => by
      have := hall j o (by simpa using ho)
      simpa [ho] using this)
    rw [putAll_eq (b := a) l 0 a0 hsz.symm hdf.symm (fun j o d ho hd => ?_) (fun t ht => ?_)] at key
    · exact key
    · have h1 := (ok_at hok.1 (j := j) (o := o) (by simpa using ho)).1 d hd
      refine ⟨by rw [hsz]; exact h1.1, ?_⟩
      simp [ho, slot, hd]
    · refine hout t ?_
      cases hown : owner l.toArray t with
      | none => rfl
      | some i =>
        obtain ⟨o, ho, hd⟩ := owner_spec hown
        exact absurd hd (ht i o (by simpa using ho))
end Og
end Go.Proofs.Ytnfpcklpmfemiaa
