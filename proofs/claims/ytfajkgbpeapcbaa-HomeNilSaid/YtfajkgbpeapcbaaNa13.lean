import Derived.Test.YtfajkgbpeapcbaaNa12
set_option linter.unusedVariables false
set_option linter.unusedSimpArgs false

section
namespace Go.Proofs.Ytfajkgbpeapcbaa
open Go.RowKit
namespace Hm
open Nt
set_option maxRecDepth 100000
structure Rq (m : E) : Prop where
  ok : Ok m
  by_ : Im.Byt m.b
  k : m.k = 1 ∨ m.k = 2 ∨ m.k = 3
  f1 : 0 ≤ m.f
  f2 : m.f ≤ 3
structure Iv (e : En) : Prop where
  o1 : -1 ≤ e.o
  o2 : e.o ≤ 3
  a1 : 0 ≤ e.a
  a2 : e.a ≤ 3
  w1 : 0 ≤ e.wt
  w2 : e.wt ≤ 10
  w0 : e.b = false → e.wt = 0
  k : Ev.i64B e.k
  q : ∀ x ∈ e.q, Rq x
structure Chg (T T' : Tg) (n : Nat) : Prop where
  q : T'.e.q = T.e.q
  s : T'.sent.length ≤ T.sent.length + n
  a : T'.e.a = T.e.a
  b : T'.e.b = T.e.b
  k : T'.e.k = T.e.k
  n_ : T'.n = T.n
theorem Chg.trans {A B C : Tg} {n m : Nat} (h : Chg A B n) (k : Chg B C m) : Chg A C (n + m) :=
  ⟨k.q.trans h.q, by have := h.s; have := k.s; omega, k.a.trans h.a, k.b.trans h.b, k.k.trans h.k, k.n_.trans h.n_⟩
theorem chg_send (T : Tg) (k to : Int) (b : List Int) : Chg T (sendP T k to b) 1 := ⟨rfl, by show (T.sent ++ [_]).length ≤ _; simp, rfl, rfl, rfl, rfl⟩
theorem chg_ask (T : Tg) (k to : Int) : Chg T (askP T k to) 1 := ⟨rfl, by show (T.sent ++ [_]).length ≤ _; simp, rfl, rfl, rfl, rfl⟩
theorem chg_tell (T : Tg) (k : Int) : Chg T (tellP T k) 1 := ⟨rfl, by show (T.sent ++ [_]).length ≤ _; simp, rfl, rfl, rfl, rfl⟩
theorem chg_give (T : Tg) (k : Int) : Chg T (giveP T k) 1 := ⟨rfl, by show (T.sent ++ [_]).length ≤ _; simp, rfl, rfl, rfl, rfl⟩
theorem chg_gid (T : Tg) : Chg T (gidP T) 1 := by
  unfold gidP
  split
  · exact chg_give T 10
  · exact ⟨rfl, by omega, rfl, rfl, rfl, rfl⟩
theorem chg_askAll (T : Tg) (l : List Int) : Chg T (askAll T l) l.length := by
  induction l generalizing T with
  | nil => exact ⟨rfl, by simp [askAll], rfl, rfl, rfl, rfl⟩
  | cons x l ih =>
    have := (chg_ask T 6 x).trans (ih (askP T 6 x))
    rw [List.length_cons, Nat.add_comm]
    exact this
theorem askAll_o (T : Tg) (l : List Int) : (askAll T l).e.o = T.e.o := by
  induction l generalizing T with
  | nil => rfl
  | cons x l ih => exact ih (askP T 6 x)
theorem open_b (T : Tg) (m : E) : (openP T m).e.b = true := by unfold openP; split <;> rfl
theorem open_k (T : Tg) (m : E) : (openP T m).e.k = m.k := by unfold openP; split <;> rfl
theorem open_q (T : Tg) (m : E) : (openP T m).e.q = T.e.q := by unfold openP; split <;> rfl
theorem open_n (T : Tg) (m : E) : (openP T m).n = T.n := by unfold openP; split <;> rfl
structure Bgn (T T' : Tg) : Prop where
  q : T'.e.q = T.e.q
  s : T'.sent.length ≤ T.sent.length + 5
  iv : Iv T'.e
  n_ : T'.n = T.n
theorem bgn_getS {T : Tg} {m : E} (h : Iv T.e) (hb : T.e.b = false) (hm : Rq m) : Bgn T (getSP T m) := by
  have ho := open_o T m
  have hq := open_q T m; have hs := open_sent T m; have ha := open_a T m; have hbt := open_b T m; have hk := open_k T m; have hn := open_n T m
  have hw : (openP T m).e.wt = 0 := by rw [open_wt]; exact h.w0 hb
  have f1 := hm.f1; have f2 := hm.f2; have o1 := h.o1; have o2 := h.o2
  have hkb := hm.ok.k
  unfold getSP
  obtain ⟨T1, hT1⟩ : ∃ T1, openP T m = T1 := ⟨_, rfl⟩
  rw [hT1] at ho hq hs ha hbt hk hn hw ⊢
  show Bgn T (if T1.e.o ≠ -1 then _ else if _ then _ else _)
  split
  · have c := chg_ask T1 4 T1.e.o
    refine ⟨c.q.trans hq, by have := c.s; rw [hs] at this; omega, ⟨?_, ?_, by rw [c.a, ha]; exact f1, by rw [c.a, ha]; exact f2, by show 0 ≤ T1.e.wt + 1; omega, by show T1.e.wt + 1 ≤ 10; omega, fun e => (by rw [c.b, hbt] at e; cases e), by rw [c.k, hk]; exact hkb, by rw [c.q, hq]; exact h.q⟩, c.n_.trans hn⟩
    · show -1 ≤ T1.e.o; rcases ho with h | h <;> omega
    · show T1.e.o ≤ 3; rcases ho with h | h <;> omega
  · split
    · have c := chg_tell (shareP T1 T1.e.a.toNat true) 8
      have e : (shareP T1 T1.e.a.toNat true).sent.length = T.sent.length := by show T1.sent.length = _; rw [hs]
      refine ⟨c.q.trans hq, by have := c.s; omega, ⟨?_, ?_, by rw [c.a]; show 0 ≤ T1.e.a; rw [ha]; exact f1, by rw [c.a]; show T1.e.a ≤ 3; rw [ha]; exact f2, by show (0 : Int) ≤ 0; omega, by show (0 : Int) ≤ 10; omega, fun _ => rfl, by rw [c.k]; show Ev.i64B T1.e.k; rw [hk]; exact hkb, by rw [c.q]; show ∀ x ∈ T1.e.q, Rq x; rw [hq]; exact h.q⟩, c.n_.trans hn⟩
      · show -1 ≤ T1.e.o; rcases ho with h | h <;> omega
      · show T1.e.o ≤ 3; rcases ho with h | h <;> omega
    · have c := chg_give T1 9
      refine ⟨c.q.trans hq, by have := c.s; rw [hs] at this; omega, ⟨by show -1 ≤ T1.e.a; omega, by show T1.e.a ≤ 3; omega, by rw [c.a, ha]; exact f1, by rw [c.a, ha]; exact f2, by show (0 : Int) ≤ 0; omega, by show (0 : Int) ≤ 10; omega, fun _ => rfl, by rw [c.k, hk]; exact hkb, by rw [c.q, hq]; exact h.q⟩, c.n_.trans hn⟩
theorem bgn_getM {T : Tg} {m : E} (h : Iv T.e) (hb : T.e.b = false) (hm : Rq m) : Bgn T (getMP T m) := by
  have ho := open_o T m
  have hq := open_q T m; have hs := open_sent T m; have ha := open_a T m; have hbt := open_b T m; have hk := open_k T m; have hn := open_n T m
  have hw : (openP T m).e.wt = 0 := by rw [open_wt]; exact h.w0 hb
  have f1 := hm.f1; have f2 := hm.f2; have o1 := h.o1; have o2 := h.o2
  have hkb := hm.ok.k
  unfold getMP
  obtain ⟨T1, hT1⟩ : ∃ T1, openP T m = T1 := ⟨_, rfl⟩
  rw [hT1] at ho hq hs ha hbt hk hn hw ⊢
  show Bgn T (if T1.e.o ≠ -1 then _ else _)
  split
  · have c := chg_ask T1 5 T1.e.o
    refine ⟨c.q.trans hq, by have := c.s; rw [hs] at this; omega, ⟨?_, ?_, by rw [c.a, ha]; exact f1, by rw [c.a, ha]; exact f2, by show 0 ≤ T1.e.wt + 1; omega, by show T1.e.wt + 1 ≤ 10; omega, fun e => (by rw [c.b, hbt] at e; cases e), by rw [c.k, hk]; exact hkb, by rw [c.q, hq]; exact h.q⟩, c.n_.trans hn⟩
    · show -1 ≤ T1.e.o; rcases ho with h | h <;> omega
    · show T1.e.o ≤ 3; rcases ho with h | h <;> omega
  · have c0 := chg_askAll T1 (oth T1.e 4)
    have c1 := chg_gid (askAll T1 (oth T1.e 4))
    have c := c0.trans c1
    have hl := oth_len T1.e 4
    have hf := askAll_facts T1 (oth T1.e 4)
    have hao := askAll_o T1 (oth T1.e 4)
    refine ⟨c.q.trans hq, by have := c.s; rw [hs] at this; omega, ⟨?_, ?_, by rw [c.a, ha]; exact f1, by rw [c.a, ha]; exact f2, ?_, ?_, fun e => (by rw [c.b, hbt] at e; cases e), by rw [c.k, hk]; exact hkb, by rw [c.q, hq]; exact h.q⟩, c.n_.trans hn⟩
    · unfold gidP; split
      · show -1 ≤ (askAll T1 (oth T1.e 4)).e.a; rw [c0.a]; omega
      · rw [hao]; rcases ho with h | h <;> omega
    · unfold gidP; split
      · show (askAll T1 (oth T1.e 4)).e.a ≤ 3; rw [c0.a]; omega
      · rw [hao]; rcases ho with h | h <;> omega
    · unfold gidP; split
      · show (0 : Int) ≤ 0; omega
      · rw [hf.2.1]; omega
    · unfold gidP; split
      · show (0 : Int) ≤ 10; omega
      · rw [hf.2.1]; omega
theorem bgn_put {T : Tg} {m : E} (h : Iv T.e) (hb : T.e.b = false) (hm : Rq m) : Bgn T (putP T m) := by
  by_cases h0 : T.e.o = m.f
  · have e : putP T m = sendP (noOwn (keepP T m)) 7 m.f z16 := by unfold putP; rw [if_pos h0]
    rw [e]
    have hs : (noOwn (keepP T m)).sent = T.sent := by simp only [noOwn, keepP]
    have he : (noOwn (keepP T m)).e = ⟨-1, T.e.s, T.e.b, T.e.a, T.e.k, T.e.wt, T.e.td, T.e.q⟩ := by simp only [noOwn, keepP]
    have hn : (noOwn (keepP T m)).n = T.n := by simp only [noOwn, keepP]
    obtain ⟨T2, hT2⟩ : ∃ T2, noOwn (keepP T m) = T2 := ⟨_, rfl⟩
    rw [hT2] at hs he hn ⊢
    have c := chg_send T2 7 m.f z16
    have e2 : (sendP T2 7 m.f z16).e = ⟨-1, T.e.s, T.e.b, T.e.a, T.e.k, T.e.wt, T.e.td, T.e.q⟩ := he
    refine ⟨by rw [e2], by have := c.s; rw [hs] at this; omega, ?_, c.n_.trans hn⟩
    rw [e2]
    exact ⟨by show (-1 : Int) ≤ -1; omega, by show (-1 : Int) ≤ 3; omega, h.a1, h.a2, h.w1, h.w2, h.w0, h.k, h.q⟩
  · have e : putP T m = sendP T 7 m.f z16 := by unfold putP; rw [if_neg h0]
    rw [e]
    have c := chg_send T 7 m.f z16
    exact ⟨c.q, by have := c.s; omega, ⟨h.o1, h.o2, h.a1, h.a2, h.w1, h.w2, h.w0, h.k, h.q⟩, rfl⟩
theorem bgn_req {T : Tg} {m : E} (h : Iv T.e) (hb : T.e.b = false) (hm : Rq m) : Bgn T (reqP T m) := by
  unfold reqP
  split
  · exact bgn_getS h hb hm
  · split
    · exact bgn_getM h hb hm
    · exact bgn_put h hb hm
theorem Iv.pop {T : Tg} (h : Iv T.e) : Iv (popP T).e := ⟨h.o1, h.o2, h.a1, h.a2, h.w1, h.w2, h.w0, h.k, fun x hx => h.q x (List.mem_of_mem_tail hx)⟩
theorem go_step {T : Tg} {m : E} {l : List E} (hb : T.e.b = false) (hq : T.e.q = m :: l) (h : Iv T.e) : goP T.e.q.length T = goP (reqP (popP T) m).e.q.length (reqP (popP T) m) := by
  have hm := h.q m (by rw [hq]; exact List.mem_cons_self ..)
  have e := (bgn_req h.pop hb hm).q
  have e2 : (popP T).e.q = l := by show T.e.q.tail = l; rw [hq]; rfl
  rw [e, e2, hq, List.length_cons]
  conv => lhs; unfold goP
  rw [hb, hq]
  rfl
theorem go_busy {T : Tg} (hb : T.e.b = true) (f : Nat) : goP f T = T := by
  cases f with
  | zero => rfl
  | succ f => unfold goP; rw [hb]; rfl
theorem go_nil {T : Tg} (hq : T.e.q = []) (f : Nat) : goP f T = T := by
  cases f with
  | zero => rfl
  | succ f => unfold goP; rw [hq]; split <;> rfl
structure Gone (T T' : Tg) : Prop where
  iv : Iv T'.e
  s : T'.sent.length + 5 * T'.e.q.length ≤ T.sent.length + 5 * T.e.q.length
  n_ : T'.n = T.n
theorem gone_go (f : Nat) : ∀ T : Tg, Iv T.e → Gone T (goP f T) := by
  induction f with
  | zero => exact fun T h => ⟨h, Nat.le_refl _, rfl⟩
  | succ f ih =>
    intro T h
    by_cases hb : T.e.b = true
    · rw [go_busy hb]; exact ⟨h, Nat.le_refl _, rfl⟩
    · have hb : T.e.b = false := by simpa using hb
      cases hq : T.e.q with
      | nil => rw [go_nil hq]; exact ⟨h, Nat.le_refl _, rfl⟩
      | cons m l =>
        have hm := h.q m (by rw [hq]; exact List.mem_cons_self ..)
        have b1 := bgn_req h.pop hb hm
        have e2 : (popP T).e.q = l := by show T.e.q.tail = l; rw [hq]; rfl
        have g := ih (reqP (popP T) m) b1.iv
        have e3 : goP (f + 1) T = goP f (reqP (popP T) m) := by
          conv => lhs; unfold goP
          rw [hb, hq]; rfl
        rw [e3]
        refine ⟨g.iv, ?_, g.n_.trans b1.n_⟩
        have h1 := g.s; have h2 := b1.s
        have e4 : (reqP (popP T) m).e.q.length = l.length := by rw [b1.q, e2]
        have e5 : (popP T).sent.length = T.sent.length := rfl
        have e6 : T.e.q.length = l.length + 1 := by rw [hq]; rfl
        omega
end Hm
end Go.Proofs.Ytfajkgbpeapcbaa
end
