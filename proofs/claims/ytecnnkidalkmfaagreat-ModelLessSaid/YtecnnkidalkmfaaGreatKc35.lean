import Derived.Test.YtecnnkidalkmfaaGreatKc32
import Derived.Test.YtecnnkidalkmfaaGreatKc34
import Derived.Test.YtecnnkidalkmfaaGreatKc29
import Derived.Test.YtecnnkidalkmfaaGreatKc12
import Derived.Test.YtecnnkidalkmfaaGreatKc31
import Derived.Test.YtecnnkidalkmfaaGreatKc01
set_option linter.unusedVariables false
set_option linter.unusedSimpArgs false

section
namespace Go.Proofs.YtecnnkidalkmfaaGreat
namespace Ev
inductive Path (ps : List (Int × Int)) : Int → Int → Prop
  | one {a b : Int} : (a, b) ∈ ps → Path ps a b
  | more {a b c : Int} : (a, b) ∈ ps → Path ps b c → Path ps a c
theorem Path.snoc {ps : List (Int × Int)} {a b c : Int} (h : Path ps a b) (e : (b, c) ∈ ps) : Path ps a c := by
  induction h with
  | one h1 => exact .more h1 (.one e)
  | more h1 _ ih => exact .more h1 (ih e)
def Cyc (ps : List (Int × Int)) : Prop := ∃ x, Path ps x x
inductive Topo (ps : List (Int × Int)) : List Int → Prop
  | nil : Topo ps []
  | cons {p : Int} {l : List Int} : (∀ q, (p, q) ∈ ps → q ∈ l) → Topo ps l → Topo ps (p :: l)
theorem Topo.closed {ps : List (Int × Int)} {l : List Int} (h : Topo ps l) : ∀ x ∈ l, ∀ y, (x, y) ∈ ps → y ∈ l := by
  induction h with
  | nil => intro x hx; cases hx
  | cons h1 _ ih =>
    intro x hx y hy
    rcases List.mem_cons.1 hx with rfl | hx
    · exact List.mem_cons_of_mem _ (h1 y hy)
    · exact List.mem_cons_of_mem _ (ih x hx y hy)
def InR (n : Int) (ps : List (Int × Int)) : Prop := 0 ≤ n ∧ n ≤ 64 ∧ ∀ p ∈ ps, 0 ≤ p.1 ∧ p.1 < n ∧ 0 ≤ p.2 ∧ p.2 < n
theorem rank_acyclic {ps : List (Int × Int)} (rank : Int → Int) (h : ∀ p ∈ ps, rank p.1 < rank p.2) : ¬ Cyc ps := fun ⟨x, hx⟩ => by
  have key : ∀ {a b : Int}, Path ps a b → rank a < rank b := fun hp => by
    induction hp with
    | one e => exact h _ e
    | more e _ ih => have := h _ e; simp only at this; omega
  have := key hx
  omega
def wt (v : Int) : Nat := if v = 0 then 2 else if v = 1 then 1 else 0
def pot (L : Int → Int) : Nat → Nat
  | 0 => 0
  | n + 1 => pot L n + wt (L n)
def upd (L : Int → Int) (p v : Int) : Int → Int := fun x => if x = p then v else L x
theorem upd_same (L : Int → Int) (p v : Int) : upd L p v p = v := by simp [upd]
theorem upd_other (L : Int → Int) {p v x : Int} (h : x ≠ p) : upd L p v x = L x := by simp [upd, h]
theorem pot_upd (L : Int → Int) (p v : Int) : ∀ n : Nat, (0 ≤ p → p < n → pot (upd L p v) n + wt (L p) = pot L n + wt v) ∧ (¬ (0 ≤ p ∧ p < n) → pot (upd L p v) n = pot L n)
  | 0 => ⟨fun h1 h2 => absurd h2 (by omega), fun _ => rfl⟩
  | n + 1 => by
    have ih := pot_upd L p v n
    refine ⟨fun h1 h2 => ?_, fun h => ?_⟩
    · by_cases hp : p = (n : Int)
      · subst hp
        have := ih.2 (by omega)
        simp only [pot, this, upd_same]; omega
      · have := ih.1 h1 (by omega)
        simp only [pot, upd_other L (show (n : Int) ≠ p by omega)]; omega
    · have := ih.2 (by omega)
      simp only [pot, this, upd_other L (show (n : Int) ≠ p by omega)]
theorem pot_le (L : Int → Int) : ∀ n : Nat, pot L n ≤ 2 * n
  | 0 => by simp [pot]
  | n + 1 => by
    have := pot_le L n
    have h2 : wt (L n) ≤ 2 := by unfold wt; split <;> (try split) <;> omega
    simp only [pot]; omega
structure Looked (ps : List (Int × Int)) (L : Int → Int) (l : List Int) : Prop where
  topo : Topo ps l
  two : ∀ x, L x = 2 ↔ x ∈ l
  range : ∀ x, L x = 0 ∨ L x = 1 ∨ L x = 2
theorem looked_none (ps : List (Int × Int)) : Looked ps (fun _ => 0) [] := ⟨.nil, fun x => by simp, fun x => .inl rfl⟩
theorem Looked.under {ps : List (Int × Int)} {L : Int → Int} {l : List Int} (h : Looked ps L l) {p : Int} (hp : L p = 0) : Looked ps (upd L p 1) l :=
  ⟨h.topo, fun x => by
    by_cases hx : x = p
    · subst hx; rw [upd_same]; have := (h.two x).2; constructor
      · intro e; cases e
      · intro e; have := this e; omega
    · rw [upd_other L hx]; exact h.two x, fun x => by
    by_cases hx : x = p
    · subst hx; rw [upd_same]; exact .inr (.inl rfl)
    · rw [upd_other L hx]; exact h.range x⟩
theorem Looked.done {ps : List (Int × Int)} {L : Int → Int} {l : List Int} (h : Looked ps L l) {p : Int} (hs : ∀ q, (p, q) ∈ ps → q ∈ l) : Looked ps (upd L p 2) (p :: l) :=
  ⟨.cons hs h.topo, fun x => by
    by_cases hx : x = p
    · subst hx; rw [upd_same]; simp
    · rw [upd_other L hx, h.two x]; simp [hx], fun x => by
    by_cases hx : x = p
    · subst hx; rw [upd_same]; exact .inr (.inr rfl)
    · rw [upd_other L hx]; exact h.range x⟩
end Ev
end Go.Proofs.YtecnnkidalkmfaaGreat
end

section
namespace Go.Proofs.YtecnnkidalkmfaaGreat
namespace Ev
def rev (ps : List (Int × Int)) : List (Int × Int) := ps.map fun p => (p.2, p.1)
theorem mem_rev {ps : List (Int × Int)} {a b : Int} : (a, b) ∈ rev ps ↔ (b, a) ∈ ps := by
  unfold rev
  constructor
  · intro h
    obtain ⟨p, hp, he⟩ := List.mem_map.1 h
    cases he
    exact hp
  · intro h
    exact List.mem_map.2 ⟨_, h, rfl⟩
theorem bound_of (rank : Int → Nat) : ∀ l : List Int, ∃ M, ∀ y ∈ l, rank y < M
  | [] => ⟨0, fun y hy => by cases hy⟩
  | x :: r => by
    obtain ⟨M, hM⟩ := bound_of rank r
    refine ⟨max M (rank x + 1), fun y hy => ?_⟩
    rcases List.mem_cons.1 hy with rfl | hy
    · omega
    · have := hM y hy; omega
theorem Topo.rank {ps : List (Int × Int)} {l : List Int} (h : Topo ps l) : ∃ rank : Int → Nat, ∀ x ∈ l, ∀ y, (x, y) ∈ ps → rank y < rank x := by
  induction h with
  | nil => exact ⟨fun _ => 0, fun x hx => by cases hx⟩
  | @cons p l h1 h2 ih =>
    obtain ⟨rank, hr⟩ := ih
    by_cases hp : p ∈ l
    · refine ⟨rank, fun x hx y hy => ?_⟩
      rcases List.mem_cons.1 hx with rfl | hx
      · exact hr _ hp y hy
      · exact hr x hx y hy
    · obtain ⟨M, hM⟩ := bound_of rank l
      refine ⟨fun z => if z = p then M else rank z, fun x hx y hy => ?_⟩
      by_cases hxp : x = p
      · subst hxp
        have hyl := h1 y hy
        have hyp : y ≠ x := fun e => hp (e ▸ hyl)
        simp only [if_neg hyp, if_true]
        exact hM y hyl
      · have hxl : x ∈ l := (List.mem_cons.1 hx).resolve_left hxp
        have hyl := h2.closed x hxl y hy
        have hyp : y ≠ p := fun e => hp (e ▸ hyl)
        simp only [if_neg hyp, if_neg hxp]
        exact hr x hxl y hy
def goneAt (G : List Bool) (x : Int) : Bool := G.getD x.toNat false
def GoneIn (ps : List (Int × Int)) (n : Nat) (G : List Bool) : Prop := G.length = n ∧ ∃ L, Topo (rev ps) L ∧ ∀ x, 0 ≤ x → x < (n : Int) → (goneAt G x = true ↔ x ∈ L)
theorem goneAt_set {G : List Bool} {k : Nat} (hk : k < G.length) (x : Int) (hx : 0 ≤ x) : goneAt (G.set k true) x = if x = (k : Int) then true else goneAt G x := by
  unfold goneAt
  by_cases h : x = (k : Int)
  · subst h; simp [hk]
  · rw [if_neg h]
    have : k ≠ x.toNat := by omega
    simp [List.getD, List.getElem?_set_ne this]
theorem GoneIn.start {ps : List (Int × Int)} {n : Nat} : GoneIn ps n (List.replicate n false) := ⟨by simp, [], .nil, fun x h0 hn => by
  unfold goneAt
  have : x.toNat < n := by omega
  simp [List.getD, List.getElem?_replicate, this]⟩
theorem GoneIn.take {ps : List (Int × Int)} {n : Nat} {G : List Bool} (hr : InR n ps) (h : GoneIn ps n G) {k : Nat} (hk : k < n) (hp : ∀ q, (q, (k : Int)) ∈ ps → goneAt G q = true) : GoneIn ps n (G.set k true) := by
  obtain ⟨hl, L, ht, hL⟩ := h
  refine ⟨by simp [hl], (k : Int) :: L, .cons (fun q hq => ?_) ht, fun x h0 hn => ?_⟩
  · have hq' := mem_rev.1 hq
    have hin := hr.2.2 _ hq'
    exact (hL q hin.1 hin.2.1).1 (hp q hq')
  · rw [goneAt_set (by omega) x h0]
    by_cases hx : x = (k : Int)
    · simp [hx]
    · rw [if_neg hx, hL x h0 hn]; simp [hx]
end Ev
end Go.Proofs.YtecnnkidalkmfaaGreat
end

section
namespace Go.Proofs.YtecnnkidalkmfaaGreat
open Go.RowKit
namespace Md
open Ev
def Rk (ps : List (Int × Int)) : Prop := ∃ rank : Int → Int, ∀ p ∈ ps, rank p.1 < rank p.2
def Tp (n : Nat) (ps : List (Int × Int)) : Prop := ∃ l, Topo ps l ∧ ∀ x, 0 ≤ x → x < (n : Int) → x ∈ l
theorem topo_sorted {ps : List (Int × Int)} {rank : Int → Int} (hr : ∀ p ∈ ps, rank p.1 < rank p.2) : ∀ {l : List Int}, l.Pairwise (fun a b => rank a ≤ rank b) → (∀ p ∈ l, ∀ q, (p, q) ∈ ps → q ∈ l) → Topo ps l
  | [], _, _ => .nil
  | a :: l, hp, hc => by
    have hp := List.pairwise_cons.1 hp
    refine .cons (fun q hq => ?_) (topo_sorted hr hp.2 fun p hpl q hq => ?_)
    · rcases List.mem_cons.1 (hc a List.mem_cons_self q hq) with rfl | h
      · have := hr _ hq; simp only at this; omega
      · exact h
    · rcases List.mem_cons.1 (hc p (List.mem_cons_of_mem _ hpl) q hq) with rfl | h
      · have h1 := hr _ hq; have h2 := hp.1 p hpl; simp only at h1; omega
      · exact h
theorem rk_tp {n : Nat} {ps : List (Int × Int)} (hr : InR n ps) : Rk ps ↔ Tp n ps := by
  constructor
  · rintro ⟨rank, h⟩
    let le : Int → Int → Bool := fun a b => decide (rank a ≤ rank b)
    let l0 := (List.range n).map fun i : Nat => (i : Int)
    have hmem : ∀ x, x ∈ l0.mergeSort le ↔ 0 ≤ x ∧ x < (n : Int) := fun x => by
      rw [(List.mergeSort_perm l0 le).mem_iff]
      simp only [l0, List.mem_map, List.mem_range]
      constructor
      · rintro ⟨i, hi, rfl⟩; omega
      · rintro ⟨h1, h2⟩; exact ⟨x.toNat, by omega, by omega⟩
    refine ⟨l0.mergeSort le, topo_sorted h ?_ (fun p _ q hq => ?_), fun x h1 h2 => (hmem x).2 ⟨h1, h2⟩⟩
    · have := List.pairwise_mergeSort (le := le) (fun a b c h1 h2 => by simp only [le, decide_eq_true_eq] at *; omega) (fun a b => by simp only [le, Bool.or_eq_true, decide_eq_true_eq]; omega) l0
      exact this.imp fun h => of_decide_eq_true h
    · have := hr.2.2 _ hq
      exact (hmem q).2 ⟨this.2.2.1, this.2.2.2⟩
  · rintro ⟨l, ht, hl⟩
    obtain ⟨rank, h⟩ := ht.rank
    refine ⟨fun x => -(rank x : Int), fun p hp => ?_⟩
    have h1 := hr.2.2 p hp
    have := h p.1 (hl _ h1.1 h1.2.1) p.2 hp
    show -(rank p.1 : Int) < -(rank p.2 : Int)
    omega
theorem rk_no_cyc {ps : List (Int × Int)} (h : Rk ps) : ¬ Cyc ps := by
  obtain ⟨rank, h⟩ := h
  exact rank_acyclic rank h
theorem rk_sub {ps qs : List (Int × Int)} (h : ∀ p ∈ ps, p ∈ qs) (k : Rk qs) : Rk ps := by
  obtain ⟨rank, hr⟩ := k
  exact ⟨rank, fun p hp => hr p (h p hp)⟩
def atomB (x : X) : Bool := (List.range x.ev.length).all fun n : Nat =>
  let r : Int := if (nth x.ev n).k = 3 then (n : Int) else paired x n
  decide (r < 0) || (List.range x.ev.length).all fun m : Nat => !(!((nth x.ev m).h == (nth x.ev n).h) && isCo x (frAt x r.toNat) m && isCo x m n)
end Md
end Go.Proofs.YtecnnkidalkmfaaGreat
end

section
namespace Go.Proofs.YtecnnkidalkmfaaGreat
end Go.Proofs.YtecnnkidalkmfaaGreat
end

section
namespace Go.Proofs.YtecnnkidalkmfaaGreat
open Go.RowKit
namespace Ev
def isG6 (x : X) (a b : Nat) : Bool := isPpo x a b || isCo x (a : Int) (b : Int) || isFr x a b || (isRf x a b && (nth x.ev (a : Int)).h != (nth x.ev (b : Int)).h)
end Ev
end Go.Proofs.YtecnnkidalkmfaaGreat
end

section
namespace Go.Proofs.YtecnnkidalkmfaaGreat
open Go.RowKit
namespace Md
open Ev
def gI (ps : List (Nat × Nat)) : List (Int × Int) := ps.map fun p => ((p.1 : Int), (p.2 : Int))
theorem mem_gI {ps : List (Nat × Nat)} {a b : Int} : (a, b) ∈ gI ps ↔ ∃ i j : Nat, (i, j) ∈ ps ∧ (i : Int) = a ∧ (j : Int) = b := by
  unfold gI
  simp only [List.mem_map, Prod.mk.injEq, Prod.exists]
theorem rk_gI {ps : List (Nat × Nat)} : Rk (gI ps) ↔ ∃ gr : Nat → Int, ∀ p ∈ ps, gr p.1 < gr p.2 := by
  constructor
  · rintro ⟨rank, h⟩
    exact ⟨fun a => rank a, fun p hp => h (p.1, p.2) (mem_gI.2 ⟨p.1, p.2, hp, rfl, rfl⟩)⟩
  · rintro ⟨gr, h⟩
    refine ⟨fun a => gr a.toNat, fun p hp => ?_⟩
    obtain ⟨i, j, hm, e1, e2⟩ := mem_gI.1 (show (p.1, p.2) ∈ gI ps from hp)
    rw [← e1, ← e2]
    simpa using h (i, j) hm
theorem mem_pl {is : Nat → Nat → Bool} {n a b : Nat} : (a, b) ∈ pl is n n ↔ a < n ∧ b < n ∧ is a b = true := pl_mem (p := (a, b))
def oneA (x : X) (p : Nat × Nat) : Bool := !((nth x.ev (p.1 : Int)).k == 4) && !((nth x.ev (p.2 : Int)).k == 4) && (nth x.ev (p.1 : Int)).a == (nth x.ev (p.2 : Int)).a
def cohL (x : X) : List (Nat × Nat) := let n := x.ev.length
  pl (isRf x) n n ++ pl (fun a b : Nat => isCo x (a : Int) (b : Int)) n n ++ pl (isFr x) n n ++ (pl (isPo x) n n).filter (oneA x)
theorem inR_pl {n : Nat} (hn : n ≤ 64) {ps : List (Nat × Nat)} (h : ∀ p ∈ ps, p.1 < n ∧ p.2 < n) : InR n (gI ps) := by
  refine ⟨by omega, by omega, fun p hp => ?_⟩
  obtain ⟨i, j, hm, e1, e2⟩ := mem_gI.1 (show (p.1, p.2) ∈ gI ps from hp)
  have := h _ hm
  simp only at this; omega
end Md
end Go.Proofs.YtecnnkidalkmfaaGreat
end
