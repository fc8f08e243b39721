import Derived.Test.YtecnnkidalkmfaaGreatKb36
import Derived.Test.YtecnnkidalkmfaaGreatKb26
import Derived.Test.YtecnnkidalkmfaaGreatKb35
import Derived.Test.YtecnnkidalkmfaaGreatKb21
import Derived.Test.YtecnnkidalkmfaaGreatKb08
import Derived.Test.YtecnnkidalkmfaaGreatKb25
set_option linter.unusedVariables false
set_option linter.unusedSimpArgs false

section
namespace Go.Proofs.YtecnnkidalkmfaaGreat
namespace Ev
def rev (ps : List (Int × Int)) : List (Int × Int) := ps.map fun p => (p.2, p.1)
theorem mem_rev {ps : List (Int × Int)} {a b : Int} : (a, b) ∈ rev ps ↔ (b, a) ∈ ps := by
  unfold rev
  constructor
  · intro h
    obtain ⟨p, hp, he⟩ := List.mem_map.1 h
    cases he
    exact hp
  · intro h
    exact List.mem_map.2 ⟨_, h, rfl⟩
theorem inR_rev {n : Int} {ps : List (Int × Int)} (h : InR n ps) : InR n (rev ps) := ⟨h.1, h.2.1, fun p hp => by
  have := h.2.2 (p.2, p.1) (mem_rev.1 (by exact hp))
  exact ⟨this.2.2.1, this.2.2.2, this.1, this.2.1⟩⟩
theorem bound_of (rank : Int → Nat) : ∀ l : List Int, ∃ M, ∀ y ∈ l, rank y < M
  | [] => ⟨0, fun y hy => by cases hy⟩
  | x :: r => by
    obtain ⟨M, hM⟩ := bound_of rank r
    refine ⟨max M (rank x + 1), fun y hy => ?_⟩
    rcases List.mem_cons.1 hy with rfl | hy
    · omega
    · have := hM y hy; omega
theorem Topo.rank {ps : List (Int × Int)} {l : List Int} (h : Topo ps l) : ∃ rank : Int → Nat, ∀ x ∈ l, ∀ y, (x, y) ∈ ps → rank y < rank x := by
  induction h with
  | nil => exact ⟨fun _ => 0, fun x hx => by cases hx⟩
  | @cons p l h1 h2 ih =>
    obtain ⟨rank, hr⟩ := ih
    by_cases hp : p ∈ l
    · refine ⟨rank, fun x hx y hy => ?_⟩
      rcases List.mem_cons.1 hx with rfl | hx
      · exact hr _ hp y hy
      · exact hr x hx y hy
    · obtain ⟨M, hM⟩ := bound_of rank l
      refine ⟨fun z => if z = p then M else rank z, fun x hx y hy => ?_⟩
      by_cases hxp : x = p
      · subst hxp
        have hyl := h1 y hy
        have hyp : y ≠ x := fun e => hp (e ▸ hyl)
        simp only [if_neg hyp, if_true]
        exact hM y hyl
      · have hxl : x ∈ l := (List.mem_cons.1 hx).resolve_left hxp
        have hyl := h2.closed x hxl y hy
        have hyp : y ≠ p := fun e => hp (e ▸ hyl)
        simp only [if_neg hyp, if_neg hxp]
        exact hr x hxl y hy
def goneAt (G : List Bool) (x : Int) : Bool := G.getD x.toNat false
theorem free_place {n : Nat} {ps : List (Int × Int)} (hr : InR n ps) {l0 : List Int} (ht : Topo ps l0) (hl : ∀ x, 0 ≤ x → x < (n : Int) → x ∈ l0) (G : List Bool) {p : Int} (hp0 : 0 ≤ p) (hpn : p < n) (hp : goneAt G p = false) :
    ∃ x, 0 ≤ x ∧ x < (n : Int) ∧ goneAt G x = false ∧ ∀ q, (q, x) ∈ ps → goneAt G q = true := by
  obtain ⟨rank, hrank⟩ := ht.rank
  obtain ⟨M, hM⟩ := bound_of rank l0
  have key : ∀ (d : Nat) (p : Int), 0 ≤ p → p < n → goneAt G p = false → M - rank p ≤ d → ∃ x, 0 ≤ x ∧ x < (n : Int) ∧ goneAt G x = false ∧ ∀ q, (q, x) ∈ ps → goneAt G q = true := by
    intro d
    induction d with
    | zero =>
      intro p h0 hn _ hd
      have := hM p (hl p h0 hn)
      omega
    | succ d ih =>
      intro p h0 hn hg hd
      by_cases hall : ∀ q, (q, p) ∈ ps → goneAt G q = true
      · exact ⟨p, h0, hn, hg, hall⟩
      · obtain ⟨q, hq, hqg⟩ : ∃ q, (q, p) ∈ ps ∧ goneAt G q = false := by
          apply Classical.byContradiction
          intro hne
          refine hall fun q hq => ?_
          cases hg2 : goneAt G q
          · exact absurd ⟨q, hq, hg2⟩ hne
          · rfl
        have hin := hr.2.2 _ hq
        have hlt := hrank q (hl q hin.1 hin.2.1) p hq
        exact ih q hin.1 hin.2.1 hqg (by have := hM q (hl q hin.1 hin.2.1); omega)
  exact key _ p hp0 hpn hp (Nat.le_refl _)
def GoneIn (ps : List (Int × Int)) (n : Nat) (G : List Bool) : Prop := G.length = n ∧ ∃ L, Topo (rev ps) L ∧ ∀ x, 0 ≤ x → x < (n : Int) → (goneAt G x = true ↔ x ∈ L)
theorem goneAt_set {G : List Bool} {k : Nat} (hk : k < G.length) (x : Int) (hx : 0 ≤ x) : goneAt (G.set k true) x = if x = (k : Int) then true else goneAt G x := by
  unfold goneAt
  by_cases h : x = (k : Int)
  · subst h; simp [hk]
  · rw [if_neg h]
    have : k ≠ x.toNat := by omega
    simp [List.getD, List.getElem?_set_ne this]
theorem GoneIn.start {ps : List (Int × Int)} {n : Nat} : GoneIn ps n (List.replicate n false) := ⟨by simp, [], .nil, fun x h0 hn => by
  unfold goneAt
  have : x.toNat < n := by omega
  simp [List.getD, List.getElem?_replicate, this]⟩
theorem GoneIn.take {ps : List (Int × Int)} {n : Nat} {G : List Bool} (hr : InR n ps) (h : GoneIn ps n G) {k : Nat} (hk : k < n) (hp : ∀ q, (q, (k : Int)) ∈ ps → goneAt G q = true) : GoneIn ps n (G.set k true) := by
  obtain ⟨hl, L, ht, hL⟩ := h
  refine ⟨by simp [hl], (k : Int) :: L, .cons (fun q hq => ?_) ht, fun x h0 hn => ?_⟩
  · have hq' := mem_rev.1 hq
    have hin := hr.2.2 _ hq'
    exact (hL q hin.1 hin.2.1).1 (hp q hq')
  · rw [goneAt_set (by omega) x h0]
    by_cases hx : x = (k : Int)
    · simp [hx]
    · rw [if_neg hx, hL x h0 hn]; simp [hx]
def cntG (G : List Bool) : Nat := (G.filter id).length
theorem cntG_le (G : List Bool) : cntG G ≤ G.length := List.length_filter_le _ _
theorem cntG_lt : ∀ {A B : List Bool}, A.length = B.length → (∀ i, A.getD i false = true → B.getD i false = true) → (∃ i, A.getD i false = false ∧ B.getD i false = true) → cntG A < cntG B
  | [], [], _, _, ⟨i, _, h⟩ => by simp at h
  | a :: A, b :: B, hl, hs, ⟨i, h1, h2⟩ => by
    have hl' : A.length = B.length := by simpa using hl
    have hs' : ∀ i, A.getD i false = true → B.getD i false = true := fun i h => by simpa using hs (i + 1) (by simpa using h)
    have hle : cntG A ≤ cntG B := cntG_mono hl' hs'
    have e : ∀ (c : Bool) (C : List Bool), cntG (c :: C) = cntG C + if c then 1 else 0 := fun c C => by cases c <;> simp [cntG]
    rw [e, e]
    have h0 := hs 0
    simp at h0
    cases i with
    | zero =>
      simp at h1 h2
      subst h1; subst h2; simp; omega
    | succ i =>
      have hlt := cntG_lt hl' hs' ⟨i, by simpa using h1, by simpa using h2⟩
      cases a
      · cases b <;> simp <;> omega
      · rw [h0 rfl]; simp; omega
where
  cntG_mono : ∀ {A B : List Bool}, A.length = B.length → (∀ i, A.getD i false = true → B.getD i false = true) → cntG A ≤ cntG B
    | [], [], _, _ => Nat.le_refl _
    | a :: A, b :: B, hl, hs => by
      have hl' : A.length = B.length := by simpa using hl
      have hs' : ∀ i, A.getD i false = true → B.getD i false = true := fun i h => by simpa using hs (i + 1) (by simpa using h)
      have hle := cntG_mono hl' hs'
      have e : ∀ (c : Bool) (C : List Bool), cntG (c :: C) = cntG C + if c then 1 else 0 := fun c C => by cases c <;> simp [cntG]
      rw [e, e]
      have h0 := hs 0
      simp at h0
      cases a
      · cases b <;> simp <;> omega
      · rw [h0 rfl]; simp; omega
theorem all_of_cnt : ∀ {G : List Bool}, G.length ≤ cntG G → ∀ i, i < G.length → G.getD i false = true
  | [], _, i, h => absurd h (by simp)
  | g :: G, hc, i, hi => by
    have e : cntG (g :: G) = cntG G + if g then 1 else 0 := by cases g <;> simp [cntG]
    have hle := cntG_le G
    rw [e] at hc
    simp only [List.length_cons] at hc hi
    cases g
    · simp at hc; omega
    · cases i with
      | zero => rfl
      | succ i =>
        have := all_of_cnt (G := G) (by simp at hc; omega) i (by omega)
        simpa using this
def RoundEnd (ps : List (Int × Int)) (n : Nat) (r : Nat) (G : List Bool) : Prop := GoneIn ps n G ∧ ((∃ l0, Topo ps l0 ∧ ∀ x, 0 ≤ x → x < (n : Int) → x ∈ l0) → (∀ i, i < n → G.getD i false = true) ∨ r ≤ cntG G)
theorem round_next {ps : List (Int × Int)} {n r : Nat} {G0 G : List Bool} (hr : InR n ps) (h0 : RoundEnd ps n r G0) (hg : GoneIn ps n G) (hs : ∀ i, G0.getD i false = true → G.getD i false = true)
    (hd : ∀ k, k < n → (∀ q, (q, (k : Int)) ∈ ps → goneAt G0 q = true) → G.getD k false = true) : RoundEnd ps n (r + 1) G := by
  refine ⟨hg, fun ⟨l0, ht, hl⟩ => ?_⟩
  rcases h0.2 ⟨l0, ht, hl⟩ with hall | hc
  · exact .inl fun i hi => hs i (hall i hi)
  · by_cases hall : ∀ i, i < n → G0.getD i false = true
    · exact .inl fun i hi => hs i (hall i hi)
    · obtain ⟨i, hi, hgi⟩ : ∃ i, i < n ∧ G0.getD i false = false := by
        apply Classical.byContradiction
        intro hne
        refine hall fun i hi => ?_
        cases hg2 : G0.getD i false
        · exact absurd ⟨i, hi, hg2⟩ hne
        · rfl
      obtain ⟨x, hx0, hxn, hxg, hxp⟩ := free_place hr ht hl G0 (p := (i : Int)) (by omega) (by omega) (by unfold goneAt; simpa using hgi)
      have hxd := hd x.toNat (by omega) (fun q hq => hxp q (by rw [Int.toNat_of_nonneg hx0] at hq; exact hq))
      have := cntG_lt (h0.1.1.trans hg.1.symm) hs ⟨x.toNat, by unfold goneAt at hxg; exact hxg, hxd⟩
      exact .inr (by omega)
end Ev
end Go.Proofs.YtecnnkidalkmfaaGreat
end

section
namespace Go.Proofs.YtecnnkidalkmfaaGreat
open Go.RowKit
namespace Md
open Ev
def Rk (ps : List (Int × Int)) : Prop := ∃ rank : Int → Int, ∀ p ∈ ps, rank p.1 < rank p.2
def Tp (n : Nat) (ps : List (Int × Int)) : Prop := ∃ l, Topo ps l ∧ ∀ x, 0 ≤ x → x < (n : Int) → x ∈ l
theorem topo_sorted {ps : List (Int × Int)} {rank : Int → Int} (hr : ∀ p ∈ ps, rank p.1 < rank p.2) : ∀ {l : List Int}, l.Pairwise (fun a b => rank a ≤ rank b) → (∀ p ∈ l, ∀ q, (p, q) ∈ ps → q ∈ l) → Topo ps l
  | [], _, _ => .nil
  | a :: l, hp, hc => by
    have hp := List.pairwise_cons.1 hp
    refine .cons (fun q hq => ?_) (topo_sorted hr hp.2 fun p hpl q hq => ?_)
    · rcases List.mem_cons.1 (hc a List.mem_cons_self q hq) with rfl | h
      · have := hr _ hq; simp only at this; omega
      · exact h
    · rcases List.mem_cons.1 (hc p (List.mem_cons_of_mem _ hpl) q hq) with rfl | h
      · have h1 := hr _ hq; have h2 := hp.1 p hpl; simp only at h1; omega
      · exact h
theorem rk_tp {n : Nat} {ps : List (Int × Int)} (hr : InR n ps) : Rk ps ↔ Tp n ps := by
  constructor
  · rintro ⟨rank, h⟩
    let le : Int → Int → Bool := fun a b => decide (rank a ≤ rank b)
    let l0 := (List.range n).map fun i : Nat => (i : Int)
    have hmem : ∀ x, x ∈ l0.mergeSort le ↔ 0 ≤ x ∧ x < (n : Int) := fun x => by
      rw [(List.mergeSort_perm l0 le).mem_iff]
      simp only [l0, List.mem_map, List.mem_range]
      constructor
      · rintro ⟨i, hi, rfl⟩; omega
      · rintro ⟨h1, h2⟩; exact ⟨x.toNat, by omega, by omega⟩
    refine ⟨l0.mergeSort le, topo_sorted h ?_ (fun p _ q hq => ?_), fun x h1 h2 => (hmem x).2 ⟨h1, h2⟩⟩
    · have := List.pairwise_mergeSort (le := le) (fun a b c h1 h2 => by simp only [le, decide_eq_true_eq] at *; omega) (fun a b => by simp only [le, Bool.or_eq_true, decide_eq_true_eq]; omega) l0
      exact this.imp fun h => of_decide_eq_true h
    · have := hr.2.2 _ hq
      exact (hmem q).2 ⟨this.2.2.1, this.2.2.2⟩
  · rintro ⟨l, ht, hl⟩
    obtain ⟨rank, h⟩ := ht.rank
    refine ⟨fun x => -(rank x : Int), fun p hp => ?_⟩
    have h1 := hr.2.2 p hp
    have := h p.1 (hl _ h1.1 h1.2.1) p.2 hp
    show -(rank p.1 : Int) < -(rank p.2 : Int)
    omega
theorem rk_rev {ps : List (Int × Int)} : Rk (rev ps) ↔ Rk ps := by
  constructor
  · rintro ⟨rank, h⟩
    refine ⟨fun x => -(rank x), fun p hp => ?_⟩
    have := h (p.2, p.1) (mem_rev.2 hp)
    show -(rank p.1) < -(rank p.2)
    simp only at this; omega
  · rintro ⟨rank, h⟩
    refine ⟨fun x => -(rank x), fun p hp => ?_⟩
    have := h (p.2, p.1) (mem_rev.1 hp)
    show -(rank p.1) < -(rank p.2)
    simp only at this; omega
theorem circ_rk {n : Nat} {ps : List (Int × Int)} (hr : InR n ps) {b : Bool} (h : (b = false → ∃ L, Topo (rev ps) L ∧ ∀ x, 0 ≤ x → x < (n : Int) → x ∈ L) ∧ ((∃ l0, Topo ps l0 ∧ ∀ x, 0 ≤ x → x < (n : Int) → x ∈ l0) → b = false)) : b = false ↔ Rk ps :=
  ⟨fun hb => rk_rev.1 ((rk_tp (inR_rev hr)).2 (h.1 hb)), fun hk => h.2 ((rk_tp hr).1 hk)⟩
theorem rk_no_cyc {ps : List (Int × Int)} (h : Rk ps) : ¬ Cyc ps := by
  obtain ⟨rank, h⟩ := h
  exact rank_acyclic rank h
theorem rk_sub {ps qs : List (Int × Int)} (h : ∀ p ∈ ps, p ∈ qs) (k : Rk qs) : Rk ps := by
  obtain ⟨rank, hr⟩ := k
  exact ⟨rank, fun p hp => hr p (h p hp)⟩
def atomB (x : X) : Bool := (List.range x.ev.length).all fun n : Nat =>
  let r : Int := if (nth x.ev n).k = 3 then (n : Int) else paired x n
  decide (r < 0) || (List.range x.ev.length).all fun m : Nat => !(!((nth x.ev m).h == (nth x.ev n).h) && isCo x (frAt x r.toNat) m && isCo x m n)
end Md
end Go.Proofs.YtecnnkidalkmfaaGreat
end

section
namespace Go.Proofs.YtecnnkidalkmfaaGreat
end Go.Proofs.YtecnnkidalkmfaaGreat
end
