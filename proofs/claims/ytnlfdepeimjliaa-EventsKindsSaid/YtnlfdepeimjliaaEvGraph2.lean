/-
  Graphs: taking away, round by round, the places that nothing leads to. No program is named here.
-/
import Derived.Test.YtnlfdepeimjliaaEvGraph
namespace Go.Proofs.Ytnlfdepeimjliaa
set_option linter.unusedSimpArgs false
namespace Ev
def rev (ps : List (Int × Int)) : List (Int × Int) := ps.map fun p => (p.2, p.1)
theorem mem_rev {ps : List (Int × Int)} {a b : Int} : (a, b) ∈ rev ps ↔ (b, a) ∈ ps := by
  unfold rev
  constructor
  · intro h
    obtain ⟨p, hp, he⟩ := List.mem_map.1 h
    cases he
    exact hp
  · intro h
    exact List.mem_map.2 ⟨_, h, rfl⟩
theorem path_rev {ps : List (Int × Int)} {a b : Int} (h : Path ps a b) : Path (rev ps) b a := by
  induction h with
  | one e => exact .one (mem_rev.2 e)
  | more e _ ih => exact ih.snoc (mem_rev.2 e)
theorem inR_rev {n : Int} {ps : List (Int × Int)} (h : InR n ps) : InR n (rev ps) := ⟨h.1, h.2.1, fun p hp => by
  have := h.2.2 (p.2, p.1) (mem_rev.1 (by exact hp))
  exact ⟨this.2.2.1, this.2.2.2, this.1, this.2.1⟩⟩
theorem bound_of (rank : Int → Nat) : ∀ l : List Int, ∃ M, ∀ y ∈ l, rank y < M
  | [] => ⟨0, fun y hy => by cases hy⟩
  | x :: r => by
    obtain ⟨M, hM⟩ := bound_of rank r
    refine ⟨max M (rank x + 1), fun y hy => ?_⟩
    rcases List.mem_cons.1 hy with rfl | hy
    · omega
    · have := hM y hy; omega
theorem Topo.rank {ps : List (Int × Int)} {l : List Int} (h : Topo ps l) : ∃ rank : Int → Nat, ∀ x ∈ l, ∀ y, (x, y) ∈ ps → rank y < rank x := by
  induction h with
  | nil => exact ⟨fun _ => 0, fun x hx => by cases hx⟩
  | @cons p l h1 h2 ih =>
    obtain ⟨rank, hr⟩ := ih
    by_cases hp : p ∈ l
    · refine ⟨rank, fun x hx y hy => ?_⟩
      rcases List.mem_cons.1 hx with rfl | hx
      · exact hr _ hp y hy
      · exact hr x hx y hy
    · obtain ⟨M, hM⟩ := bound_of rank l
      refine ⟨fun z => if z = p then M else rank z, fun x hx y hy => ?_⟩
      by_cases hxp : x = p
      · subst hxp
        have hyl := h1 y hy
        have hyp : y ≠ x := fun e => hp (e ▸ hyl)
        simp only [if_neg hyp, if_true]
        exact hM y hyl
      · have hxl : x ∈ l := (List.mem_cons.1 hx).resolve_left hxp
        have hyl := h2.closed x hxl y hy
        have hyp : y ≠ p := fun e => hp (e ▸ hyl)
        simp only [if_neg hyp, if_neg hxp]
        exact hr x hxl y hy
/-- which places are gone -/
def goneAt (G : List Bool) (x : Int) : Bool := G.getD x.toNat false
/-- a place that stands, to which nothing leads that stands -/
theorem free_place {n : Nat} {ps : List (Int × Int)} (hr : InR n ps) {l0 : List Int} (ht : Topo ps l0) (hl : ∀ x, 0 ≤ x → x < (n : Int) → x ∈ l0) (G : List Bool) {p : Int} (hp0 : 0 ≤ p) (hpn : p < n) (hp : goneAt G p = false) :
    ∃ x, 0 ≤ x ∧ x < (n : Int) ∧ goneAt G x = false ∧ ∀ q, (q, x) ∈ ps → goneAt G q = true := by
  obtain ⟨rank, hrank⟩ := ht.rank
  obtain ⟨M, hM⟩ := bound_of rank l0
  have key : ∀ (d : Nat) (p : Int), 0 ≤ p → p < n → goneAt G p = false → M - rank p ≤ d → ∃ x, 0 ≤ x ∧ x < (n : Int) ∧ goneAt G x = false ∧ ∀ q, (q, x) ∈ ps → goneAt G q = true := by
    intro d
    induction d with
    | zero =>
      intro p h0 hn _ hd
      have := hM p (hl p h0 hn)
      omega
    | succ d ih =>
      intro p h0 hn hg hd
      by_cases hall : ∀ q, (q, p) ∈ ps → goneAt G q = true
      · exact ⟨p, h0, hn, hg, hall⟩
      · obtain ⟨q, hq, hqg⟩ : ∃ q, (q, p) ∈ ps ∧ goneAt G q = false := by
          apply Classical.byContradiction
          intro hne
          refine hall fun q hq => ?_
          cases hg2 : goneAt G q
          · exact absurd ⟨q, hq, hg2⟩ hne
          · rfl
        have hin := hr.2.2 _ hq
        have hlt := hrank q (hl q hin.1 hin.2.1) p hq
        exact ih q hin.1 hin.2.1 hqg (by have := hM q (hl q hin.1 hin.2.1); omega)
  exact key _ p hp0 hpn hp (Nat.le_refl _)
/-- those that are gone are so in an order -/
def GoneIn (ps : List (Int × Int)) (n : Nat) (G : List Bool) : Prop := G.length = n ∧ ∃ L, Topo (rev ps) L ∧ ∀ x, 0 ≤ x → x < (n : Int) → (goneAt G x = true ↔ x ∈ L)
theorem goneAt_set {G : List Bool} {k : Nat} (hk : k < G.length) (x : Int) (hx : 0 ≤ x) : goneAt (G.set k true) x = if x = (k : Int) then true else goneAt G x := by
  unfold goneAt
  by_cases h : x = (k : Int)
  · subst h; simp [hk]
  · rw [if_neg h]
    have : k ≠ x.toNat := by omega
    simp [List.getD, List.getElem?_set_ne this]
theorem GoneIn.start {ps : List (Int × Int)} {n : Nat} : GoneIn ps n (List.replicate n false) := ⟨by simp, [], .nil, fun x h0 hn => by
  unfold goneAt
  have : x.toNat < n := by omega
  simp [List.getD, List.getElem?_replicate, this]⟩
theorem GoneIn.take {ps : List (Int × Int)} {n : Nat} {G : List Bool} (hr : InR n ps) (h : GoneIn ps n G) {k : Nat} (hk : k < n) (hp : ∀ q, (q, (k : Int)) ∈ ps → goneAt G q = true) : GoneIn ps n (G.set k true) := by
  obtain ⟨hl, L, ht, hL⟩ := h
  refine ⟨by simp [hl], (k : Int) :: L, .cons (fun q hq => ?_) ht, fun x h0 hn => ?_⟩
  · have hq' := mem_rev.1 hq
    have hin := hr.2.2 _ hq'
    exact (hL q hin.1 hin.2.1).1 (hp q hq')
  · rw [goneAt_set (by omega) x h0]
    by_cases hx : x = (k : Int)
    · simp [hx]
    · rw [if_neg hx, hL x h0 hn]; simp [hx]
def cntG (G : List Bool) : Nat := (G.filter id).length
theorem cntG_le (G : List Bool) : cntG G ≤ G.length := List.length_filter_le _ _
theorem cntG_lt : ∀ {A B : List Bool}, A.length = B.length → (∀ i, A.getD i false = true → B.getD i false = true) → (∃ i, A.getD i false = false ∧ B.getD i false = true) → cntG A < cntG B
  | [], [], _, _, ⟨i, _, h⟩ => by simp at h
  | a :: A, b :: B, hl, hs, ⟨i, h1, h2⟩ => by
    have hl' : A.length = B.length := by simpa using hl
    have hs' : ∀ i, A.getD i false = true → B.getD i false = true := fun i h => by simpa using hs (i + 1) (by simpa using h)
    have hle : cntG A ≤ cntG B := cntG_mono hl' hs'
    have e : ∀ (c : Bool) (C : List Bool), cntG (c :: C) = cntG C + if c then 1 else 0 := fun c C => by cases c <;> simp [cntG]
    rw [e, e]
    have h0 := hs 0
    simp at h0
    cases i with
    | zero =>
      simp at h1 h2
      subst h1; subst h2; simp; omega
    | succ i =>
      have hlt := cntG_lt hl' hs' ⟨i, by simpa using h1, by simpa using h2⟩
      cases a
      · cases b <;> simp <;> omega
      · rw [h0 rfl]; simp; omega
where
  cntG_mono : ∀ {A B : List Bool}, A.length = B.length → (∀ i, A.getD i false = true → B.getD i false = true) → cntG A ≤ cntG B
    | [], [], _, _ => Nat.le_refl _
    | a :: A, b :: B, hl, hs => by
      have hl' : A.length = B.length := by simpa using hl
      have hs' : ∀ i, A.getD i false = true → B.getD i false = true := fun i h => by simpa using hs (i + 1) (by simpa using h)
      have hle := cntG_mono hl' hs'
      have e : ∀ (c : Bool) (C : List Bool), cntG (c :: C) = cntG C + if c then 1 else 0 := fun c C => by cases c <;> simp [cntG]
      rw [e, e]
      have h0 := hs 0
      simp at h0
      cases a
      · cases b <;> simp <;> omega
      · rw [h0 rfl]; simp; omega
theorem all_of_cnt : ∀ {G : List Bool}, G.length ≤ cntG G → ∀ i, i < G.length → G.getD i false = true
  | [], _, i, h => absurd h (by simp)
  | g :: G, hc, i, hi => by
    have e : cntG (g :: G) = cntG G + if g then 1 else 0 := by cases g <;> simp [cntG]
    have hle := cntG_le G
    rw [e] at hc
    simp only [List.length_cons] at hc hi
    cases g
    · simp at hc; omega
    · cases i with
      | zero => rfl
      | succ i =>
        have := all_of_cnt (G := G) (by simp at hc; omega) i (by omega)
        simpa using this
/-- behind a round -/
def RoundEnd (ps : List (Int × Int)) (n : Nat) (r : Nat) (G : List Bool) : Prop := GoneIn ps n G ∧ ((∃ l0, Topo ps l0 ∧ ∀ x, 0 ≤ x → x < (n : Int) → x ∈ l0) → (∀ i, i < n → G.getD i false = true) ∨ r ≤ cntG G)
theorem round_next {ps : List (Int × Int)} {n r : Nat} {G0 G : List Bool} (hr : InR n ps) (h0 : RoundEnd ps n r G0) (hg : GoneIn ps n G) (hs : ∀ i, G0.getD i false = true → G.getD i false = true)
    (hd : ∀ k, k < n → (∀ q, (q, (k : Int)) ∈ ps → goneAt G0 q = true) → G.getD k false = true) : RoundEnd ps n (r + 1) G := by
  refine ⟨hg, fun ⟨l0, ht, hl⟩ => ?_⟩
  rcases h0.2 ⟨l0, ht, hl⟩ with hall | hc
  · exact .inl fun i hi => hs i (hall i hi)
  · by_cases hall : ∀ i, i < n → G0.getD i false = true
    · exact .inl fun i hi => hs i (hall i hi)
    · obtain ⟨i, hi, hgi⟩ : ∃ i, i < n ∧ G0.getD i false = false := by
        apply Classical.byContradiction
        intro hne
        refine hall fun i hi => ?_
        cases hg2 : G0.getD i false
        · exact absurd ⟨i, hi, hg2⟩ hne
        · rfl
      obtain ⟨x, hx0, hxn, hxg, hxp⟩ := free_place hr ht hl G0 (p := (i : Int)) (by omega) (by omega) (by unfold goneAt; simpa using hgi)
      have hxd := hd x.toNat (by omega) (fun q hq => hxp q (by rw [Int.toNat_of_nonneg hx0] at hq; exact hq))
      have := cntG_lt (h0.1.1.trans hg.1.symm) hs ⟨x.toNat, by unfold goneAt at hxg; exact hxg, hxd⟩
      exact .inr (by omega)
end Ev
end Go.Proofs.Ytnlfdepeimjliaa
