import Derived.Test.YtfajkgbpeapcbaaNa33
set_option linter.unusedVariables false
set_option linter.unusedSimpArgs false

section
namespace Go.Proofs.Ytfajkgbpeapcbaa
open Go.RowKit
namespace Hm
open Nt
set_option maxRecDepth 100000
def EntAt (w W : World) (d : Dt) (n e : Nat) : Prop :=
  (d.ep n = some e) ∨ (d.ep n = none ∧ w.heap.size ≤ e ∧ W.heap[e]? = some (.cells (ecells fresh none 0) 84 (0, 0)))
def selQ (d : Dt) (n : Nat) : Nat → Prop := match d.ep n with
  | some _ => d.Qs n
  | none => fun _ => False
section
variable {w W1 W2 W3 : World} {p : Nat} {d : Dt} {N : Nat} {H : Ho} {n tp e : Nat}
theorem Hd.taking (h : Hd w p d N H) (hnl : n * 16 < H.bs.length) (hb : Below w.heap.size w W1) (he : EntAt w W1 d n e) (htp : w.heap.size ≤ tp)
    (ht : W1.heap[tp]? = some (.cells (tcells n none 0 0 e d.mp) 125 (0, 0))) : Ta W1 tp e d.mp d.g (fun _ => False) (selQ d n) ⟨n, [], H.ent n, H.bs⟩ := by
  have h1 := h.kp hb
  rcases he with he | ⟨he, hle, hrow⟩
  · have hs : selQ d n = d.Qs n := by unfold selQ; rw [he]
    rw [hs]
    have hq : ∀ k, d.Qs n k → k < w.heap.size := h.ql n
    refine ⟨none, 0, d.qa n, d.qc n, ht, h1.eb n e he, h1.im, .inl ⟨rfl, rfl⟩, h1.qo n e he, fun k hk => hk.elim, fun k hk => h1.ql n k hk, fun k hk => hk.elim, fun k hk => hk.elim, fun k hk => ?_, fun x hx => (by cases hx), fun x hx => ((h.iv n).q x hx).ok, fun x hx => ((h.iv n).q x hx).by_, hnl⟩
    have h2 := h.qn n k hk
    exact ⟨by have := hq k hk; omega, h2.2.2.2.2 n e he, h2.2.1, h2.2.2.2.1⟩
  · have hs : selQ d n = fun _ => False := by unfold selQ; rw [he]
    rw [hs]
    have hf := h.no n he
    refine ⟨none, 0, none, 0, ht, by rw [hf]; exact hrow, h1.im, .inl ⟨rfl, rfl⟩, by rw [hf]; exact .inl ⟨rfl, rfl⟩, fun k hk => hk.elim, fun k hk => hk.elim, fun k hk => hk.elim, fun k hk => hk.elim, fun k hk => hk.elim, fun x hx => (by cases hx), fun x hx => ((h.iv n).q x hx).ok, fun x hx => ((h.iv n).q x hx).by_, hnl⟩
set_option maxHeartbeats 1000000 in
theorem Hd.took (h : Hd w p d N H) (hb : Below w.heap.size w W1) (he : EntAt w W1 d n e) (htp : w.heap.size ≤ tp) {S' Q' : Nat → Prop} {sa qa' : Option Addr} {sc qc' : Nat} {T' : Tg}
    (tw : Tw W1 W2 tp e d.mp d.g (fun _ => False) (selQ d n) S' Q' sa sc qa' qc' T') (hm3 : MapE W3 d.mb (N + 1) (upd d.ep n (some e))) (hg : W2.grownBy W3 (some d.mb)) (hiv : Iv T'.e) (hql : T'.e.q.length ≤ N + 1) :
    ∃ d', Hd W3 p d' (N + 1) ⟨T'.bs, upd H.ent n T'.e⟩ ∧ Fr (hown p d) w W3 ∧ (∀ k, hown p d' k → hown p d k ∨ W1.heap.size ≤ k ∨ k = e) ∧ Nt.Own W3 S' sa sc T'.sent ∧ (∀ k, S' k → W1.heap.size ≤ k ∧ ¬ hown p d' k) ∧ (hown p d e ∨ w.heap.size ≤ e) := by
  have hlt := h.own_lt
  have hsel : ∀ k, selQ d n k → d.Qs n k := by
    intro k hk
    unfold selQ at hk
    cases hq : d.ep n with
    | some e0 => rw [hq] at hk; exact hk
    | none => rw [hq] at hk; exact hk.elim
  have hst := tw.tk.st; have hqt := tw.tk.qt; have hdj := tw.tk.dj
  have hS : ∀ k, S' k → W1.heap.size ≤ k := fun k hk => (tw.sn k hk).elim (fun h => h.elim) id
  have hQ : ∀ k, Q' k → d.Qs n k ∨ W1.heap.size ≤ k := fun k hk => (tw.qn k hk).imp (hsel k) id
  have hbs := hb.size
  have hg3 : ∀ k, k < W2.heap.size → k ≠ d.mb → W3.heap[k]? = W2.heap[k]? := fun k h1 h2 => hg.block k h1 (fun e => h2 (by injection e))
  have hmbl := hlt d.mb (.inr (.inr (.inl rfl)))
  obtain ⟨es, clock, hmo⟩ := h.ma.obj
  have hmo1 := (hb.block _ hmbl).trans hmo
  -- whose the entry is
  have heow : ∀ j, d.ep j = some e → j = n := by
    intro j hj
    rcases he with he | ⟨he, hle, _⟩
    · exact h.inj j n e hj he
    · have := hlt e (.inr (.inr (.inr (.inr (.inl ⟨j, hj⟩))))); omega
  have heq : ∀ j k, d.Qs j k → k ≠ e := by
    intro j k hk
    rcases he with he | ⟨he, hle, _⟩
    · exact (h.qn j k hk).2.2.2.2 n e he
    · have := h.ql j k hk; omega
  have hetp : e ≠ p := by
    rintro rfl
    rcases he with he | ⟨he, hle, _⟩
    · have h1 := h.eb n e he; rw [h.box] at h1; injection h1 with h1; injection h1 with _ h1 _; exact absurd h1 (by decide)
    · have := hlt e (.inl rfl); omega
  have hemb : e ≠ d.mb := by
    intro e1
    rcases he with he | ⟨he, hle, _⟩
    · exact cells_map (h.eb n e he) (e1 ▸ hmo)
    · omega
  have hold : ∀ k, k < w.heap.size → k ≠ e → k ≠ d.g → ¬ d.Qs n k → W2.heap[k]? = w.heap[k]? := by
    intro k h1 h2 h3 h4
    refine (tw.fr.block k (Nat.lt_of_lt_of_le h1 hbs) ?_).trans (hb.block k h1)
    rintro (h5 | h5 | h5 | h5 | h5)
    · omega
    · exact h2 h5
    · exact h3 h5
    · exact h5
    · exact h4 (hsel k h5)
  have hpg : ∀ k cs t, w.heap[k]? = some (.cells cs t (0, 0)) → t ≠ 5 → k ≠ d.g := by
    intro k cs t hk ht hkg
    have h1 := h.im.row
    unfold Row at h1
    rw [hkg, h1] at hk
    injection hk with hk
    injection hk with _ hk _
    exact ht hk.symm
  have hmbg : d.mb ≠ d.g := fun e1 => cells_map h.im.row (e1 ▸ hmo)
  have hmpmb : d.mp ≠ d.mb := fun e1 => cells_map h.im.ptr (e1 ▸ hmo)
  have hpmb : p ≠ d.mb := fun e1 => cells_map h.box (e1 ▸ hmo)
  have hw2s : W1.heap.size ≤ W2.heap.size := tw.fr.size
  have hw3s : W2.heap.size ≤ W3.heap.size := hg.size
  have hk3 : ∀ k, k < w.heap.size → k ≠ e → k ≠ d.g → ¬ d.Qs n k → k ≠ d.mb → W3.heap[k]? = w.heap[k]? := fun k h1 h2 h3 h4 h5 => (hg3 k (by omega) h5).trans (hold k h1 h2 h3 h4)
  have hel : e < W2.heap.size := tw.tk.lt.2.1
  let d' : Dt := ⟨d.mp, d.mb, d.g, upd d.ep n (some e), upd d.Qs n Q', upd d.qa n qa', upd d.qc n qc'⟩
  have hepc : ∀ i e0, upd d.ep n (some e) i = some e0 → (i = n ∧ e0 = e) ∨ (i ≠ n ∧ d.ep i = some e0) := by
    intro i e0 h0
    by_cases hi : i = n
    · rw [hi, upd_same] at h0; injection h0 with h0; exact .inl ⟨hi, h0.symm⟩
    · rw [upd_other _ _ hi] at h0; exact .inr ⟨hi, h0⟩
  have hQc : ∀ i k, upd d.Qs n Q' i k → (i = n ∧ Q' k) ∨ (i ≠ n ∧ d.Qs i k) := by
    intro i k h0
    by_cases hi : i = n
    · rw [hi, upd_same] at h0; exact .inl ⟨hi, h0⟩
    · rw [upd_other _ _ hi] at h0; exact .inr ⟨hi, h0⟩
  have hQmb : ∀ k, Q' k → k ≠ d.mb := fun k hk e1 => by
    rcases hQ k hk with h1 | h1
    · exact (h.qn n k h1).2.2.1 e1
    · omega
  have hSmb : ∀ k, S' k → k ≠ d.mb := fun k hk e1 => by have := hS k hk; omega
  have hdown : ∀ k, hown p d' k → hown p d k ∨ W1.heap.size ≤ k ∨ k = e := by
    rintro k (h1 | h1 | h1 | h1 | ⟨i, h1⟩ | ⟨i, h1⟩)
    · exact .inl (.inl h1)
    · exact .inl (.inr (.inl h1))
    · exact .inl (.inr (.inr (.inl h1)))
    · exact .inl (.inr (.inr (.inr (.inl h1))))
    · rcases hepc i k h1 with ⟨_, h2⟩ | ⟨_, h2⟩
      · exact .inr (.inr h2)
      · exact .inl (.inr (.inr (.inr (.inr (.inl ⟨i, h2⟩)))))
    · rcases hQc i k h1 with ⟨_, h2⟩ | ⟨_, h2⟩
      · rcases hQ k h2 with h3 | h3
        · exact .inl (.inr (.inr (.inr (.inr (.inr ⟨n, h3⟩)))))
        · exact .inr (.inl h3)
      · exact .inl (.inr (.inr (.inr (.inr (.inr ⟨i, h2⟩)))))
  have heo : hown p d e ∨ w.heap.size ≤ e := by
    rcases he with he | ⟨he, hle, _⟩
    · exact .inl (.inr (.inr (.inr (.inr (.inl ⟨n, he⟩)))))
    · exact .inr hle
  refine ⟨d', ⟨?_, ?_, hm3, ?_, ?_, ?_, ?_, ?_, ?_, ?_, ?_, ?_⟩, ?_, hdown, ?_, ?_, heo⟩
  · have hp := hlt p (.inl rfl)
    refine (hk3 p hp (Ne.symm hetp) (hpg p _ _ h.box (by decide)) (fun hq => (h.qn n p hq).1 rfl) hpmb).trans h.box
  · have hi := tw.tk.im
    exact ⟨(hg3 _ tw.tk.lt.2.2.1 hmpmb).trans hi.ptr, (hg3 _ tw.tk.lt.2.2.2 (Ne.symm hmbg)).trans hi.row, hi.ok, hi.byt⟩
  · intro i e0 h0
    rcases hepc i e0 h0 with ⟨rfl, rfl⟩ | ⟨hi, h1⟩
    · show W3.heap[e0]? = some (.cells (ecells (upd H.ent i T'.e i) (upd d.qa i qa' i) (upd d.qc i qc' i)) _ _)
      rw [upd_same, upd_same, upd_same]
      exact (hg3 e0 hel hemb).trans tw.tk.eb
    · show W3.heap[e0]? = some (.cells (ecells (upd H.ent n T'.e i) (upd d.qa n qa' i) (upd d.qc n qc' i)) _ _)
      rw [upd_other _ _ hi, upd_other _ _ hi, upd_other _ _ hi]
      have h2 := h.eb i e0 h1
      refine (hk3 e0 (Array.getElem?_eq_some_iff.1 h2).1 (fun e1 => hi (heow i (e1 ▸ h1))) (hpg _ _ _ h2 (by decide)) (fun hq => (h.qn n e0 hq).2.2.2.2 i e0 h1 rfl) (fun e1 => cells_map h2 (e1 ▸ hmo))).trans h2
  · intro i e0 h0
    rcases hepc i e0 h0 with ⟨rfl, rfl⟩ | ⟨hi, h1⟩
    · show OwnQ W3 (upd d.Qs i Q' i) (upd d.qa i qa' i) (upd d.qc i qc' i) (upd H.ent i T'.e i).q
      rw [upd_same, upd_same, upd_same, upd_same]
      exact tw.tk.qo.kept fun k hk hk2 => hg3 k hk2 (hQmb k hk)
    · show OwnQ W3 (upd d.Qs n Q' i) (upd d.qa n qa' i) (upd d.qc n qc' i) (upd H.ent n T'.e i).q
      rw [upd_other _ _ hi, upd_other _ _ hi, upd_other _ _ hi, upd_other _ _ hi]
      refine (h.qo i e0 h1).kept fun k hk hk2 => hk3 k hk2 (heq i k hk) (h.qn i k hk).2.2.2.1 (fun hq => h.qd i n k hi hk hq) (h.qn i k hk).2.2.1
  · intro i h0
    have hi : i ≠ n := by rintro rfl; rw [show d'.ep i = some e from upd_same _ _ _] at h0; cases h0
    show upd H.ent n T'.e i = fresh
    rw [upd_other _ _ hi]
    exact h.no i (by have h1 : upd d.ep n (some e) i = none := h0; rw [upd_other _ _ hi] at h1; exact h1)
  · intro i j e0 h1 h2
    rcases hepc i e0 h1 with ⟨h3, h4⟩ | ⟨h3, h4⟩ <;> rcases hepc j e0 h2 with ⟨h5, h6⟩ | ⟨h5, h6⟩
    · rw [h3, h5]
    · exact absurd (heow j (h4 ▸ h6)) h5
    · exact absurd (heow i (h6 ▸ h4)) h3
    · exact h.inj i j e0 h4 h6
  · intro i k h0
    rcases hQc i k h0 with ⟨_, h1⟩ | ⟨_, h1⟩
    · exact Nat.lt_of_lt_of_le (tw.tk.ql k h1) hw3s
    · have := h.ql i k h1; omega
  · intro i j k hij h1 h2
    rcases hQc i k h1 with ⟨h3, h4⟩ | ⟨h3, h4⟩ <;> rcases hQc j k h2 with ⟨h5, h6⟩ | ⟨h5, h6⟩
    · exact hij (h3.trans h5.symm)
    · rcases hQ k h4 with h7 | h7
      · exact h.qd n j k (Ne.symm h5) h7 h6
      · have := h.ql j k h6; omega
    · rcases hQ k h6 with h7 | h7
      · exact h.qd n i k (Ne.symm h3) h7 h4
      · have := h.ql i k h4; omega
    · exact h.qd i j k hij h4 h6
  · intro i k h0
    rcases hQc i k h0 with ⟨_, h1⟩ | ⟨_, h1⟩
    · have h2 := hqt k h1
      refine ⟨fun e1 => ?_, h2.2.2.1, hQmb k h1, h2.2.2.2, fun j e0 h3 => ?_⟩
      · rcases hQ k h1 with h7 | h7
        · exact (h.qn n k h7).1 e1
        · have := hlt p (.inl rfl); omega
      · rcases hepc j e0 h3 with ⟨_, h4⟩ | ⟨_, h4⟩
        · rw [h4]; exact h2.2.1
        · rcases hQ k h1 with h7 | h7
          · exact (h.qn n k h7).2.2.2.2 j e0 h4
          · have := hlt e0 (.inr (.inr (.inr (.inr (.inl ⟨j, h4⟩))))); omega
    · have h2 := h.qn i k h1
      refine ⟨h2.1, h2.2.1, h2.2.2.1, h2.2.2.2.1, fun j e0 h3 => ?_⟩
      rcases hepc j e0 h3 with ⟨_, h4⟩ | ⟨_, h4⟩
      · rw [h4]; exact heq i k h1
      · exact h2.2.2.2.2 j e0 h4
  · intro i
    show Iv (upd H.ent n T'.e i)
    by_cases hi : i = n
    · rw [hi, upd_same]; exact hiv
    · rw [upd_other _ _ hi]; exact h.iv i
  · intro i
    show (upd H.ent n T'.e i).q.length ≤ N + 1
    by_cases hi : i = n
    · rw [hi, upd_same]; exact hql
    · rw [upd_other _ _ hi]; exact Nat.le_succ_of_le (h.len i)
  · refine ⟨?_, ?_, ?_, by omega, fun k h1 h2 => ?_⟩
    · rw [hg.os, tw.fr.os, hb.os]
    · rw [hg.tape, tw.fr.tape, hb.tape]
    · rw [hg.output, tw.fr.output, hb.output]
    · refine hk3 k h1 (fun e1 => ?_) (fun e1 => h2 (.inr (.inr (.inr (.inl e1))))) (fun e1 => h2 (.inr (.inr (.inr (.inr (.inr ⟨n, e1⟩)))))) (fun e1 => h2 (.inr (.inr (.inl e1))))
      rcases heo with h3 | h3
      · exact h2 (e1 ▸ h3)
      · omega
  · exact tw.tk.so.kept fun k hk hk2 => hg3 k hk2 (hSmb k hk)
  · intro k hk
    have h1 := hS k hk
    refine ⟨h1, fun h2 => ?_⟩
    rcases h2 with h2 | h2 | h2 | h2 | ⟨i, h2⟩ | ⟨i, h2⟩
    · have := hlt p (.inl rfl); omega
    · exact (hst k hk).2.2.1 h2
    · exact hSmb k hk h2
    · exact (hst k hk).2.2.2 h2
    · rcases hepc i k h2 with ⟨_, h3⟩ | ⟨_, h3⟩
      · exact (hst k hk).2.1 h3
      · have := hlt k (.inr (.inr (.inr (.inr (.inl ⟨i, h3⟩))))); omega
    · rcases hQc i k h2 with ⟨_, h3⟩ | ⟨_, h3⟩
      · exact hdj k hk h3
      · have := h.ql i k h3; omega
end
end Hm
end Go.Proofs.Ytfajkgbpeapcbaa
end
