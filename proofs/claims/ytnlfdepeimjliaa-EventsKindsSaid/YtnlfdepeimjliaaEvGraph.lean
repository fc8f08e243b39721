/-
  Graphs as lists of arrows: circles, and orders in which each place comes behind those that it leads to. No program is named here.
-/
namespace Go.Proofs.Ytnlfdepeimjliaa
set_option linter.unusedSimpArgs false
namespace Ev
/-- a way along arrows, one at least -/
inductive Path (ps : List (Int × Int)) : Int → Int → Prop
  | one {a b : Int} : (a, b) ∈ ps → Path ps a b
  | more {a b c : Int} : (a, b) ∈ ps → Path ps b c → Path ps a c
theorem Path.snoc {ps : List (Int × Int)} {a b c : Int} (h : Path ps a b) (e : (b, c) ∈ ps) : Path ps a c := by
  induction h with
  | one h1 => exact .more h1 (.one e)
  | more h1 _ ih => exact .more h1 (ih e)
def Cyc (ps : List (Int × Int)) : Prop := ∃ x, Path ps x x
/-- each place's arrows lead to places behind it in the list -/
inductive Topo (ps : List (Int × Int)) : List Int → Prop
  | nil : Topo ps []
  | cons {p : Int} {l : List Int} : (∀ q, (p, q) ∈ ps → q ∈ l) → Topo ps l → Topo ps (p :: l)
theorem Topo.closed {ps : List (Int × Int)} {l : List Int} (h : Topo ps l) : ∀ x ∈ l, ∀ y, (x, y) ∈ ps → y ∈ l := by
  induction h with
  | nil => intro x hx; cases hx
  | cons h1 _ ih =>
    intro x hx y hy
    rcases List.mem_cons.1 hx with rfl | hx
    · exact List.mem_cons_of_mem _ (h1 y hy)
    · exact List.mem_cons_of_mem _ (ih x hx y hy)
theorem Topo.path_in {ps : List (Int × Int)} {l : List Int} (h : Topo ps l) {x y : Int} (hp : Path ps x y) : x ∈ l → y ∈ l := by
  induction hp with
  | one e => exact fun hx => h.closed _ hx _ e
  | more e _ ih => exact fun hx => ih (h.closed _ hx _ e)
theorem Topo.no_circle {ps : List (Int × Int)} {l : List Int} (h : Topo ps l) : ∀ x ∈ l, ¬ Path ps x x := by
  induction h with
  | nil => intro x hx; cases hx
  | @cons p l h1 h2 ih =>
    intro x hx hp
    by_cases hxl : x ∈ l
    · exact ih x hxl hp
    · rcases List.mem_cons.1 hx with rfl | hx
      · cases hp with
        | one e => exact hxl (h1 _ e)
        | more e r => exact hxl (h2.path_in r (h1 _ e))
      · exact hxl hx
/-- in range -/
def InR (n : Int) (ps : List (Int × Int)) : Prop := 0 ≤ n ∧ n ≤ 64 ∧ ∀ p ∈ ps, 0 ≤ p.1 ∧ p.1 < n ∧ 0 ≤ p.2 ∧ p.2 < n
theorem cyc_start {n : Int} {ps : List (Int × Int)} (h : InR n ps) {x y : Int} (hp : Path ps x y) : 0 ≤ x ∧ x < n := by
  cases hp with
  | one e => exact ⟨(h.2.2 _ e).1, (h.2.2 _ e).2.1⟩
  | more e _ => exact ⟨(h.2.2 _ e).1, (h.2.2 _ e).2.1⟩
theorem topo_acyclic {n : Int} {ps : List (Int × Int)} (h : InR n ps) {l : List Int} (ht : Topo ps l) (hl : ∀ x, 0 ≤ x → x < n → x ∈ l) : ¬ Cyc ps := fun ⟨x, hx⟩ => by
  have := cyc_start h hx
  exact ht.no_circle x (hl x this.1 this.2) hx
/-- ranks that rise along arrows leave no circle -/
theorem rank_acyclic {ps : List (Int × Int)} (rank : Int → Int) (h : ∀ p ∈ ps, rank p.1 < rank p.2) : ¬ Cyc ps := fun ⟨x, hx⟩ => by
  have key : ∀ {a b : Int}, Path ps a b → rank a < rank b := fun hp => by
    induction hp with
    | one e => exact h _ e
    | more e _ ih => have := h _ e; simp only at this; omega
  have := key hx
  omega
/-! ### looks -/
def wt (v : Int) : Nat := if v = 0 then 2 else if v = 1 then 1 else 0
def pot (L : Int → Int) : Nat → Nat
  | 0 => 0
  | n + 1 => pot L n + wt (L n)
def upd (L : Int → Int) (p v : Int) : Int → Int := fun x => if x = p then v else L x
theorem upd_same (L : Int → Int) (p v : Int) : upd L p v p = v := by simp [upd]
theorem upd_other (L : Int → Int) {p v x : Int} (h : x ≠ p) : upd L p v x = L x := by simp [upd, h]
theorem pot_upd (L : Int → Int) (p v : Int) : ∀ n : Nat, (0 ≤ p → p < n → pot (upd L p v) n + wt (L p) = pot L n + wt v) ∧ (¬ (0 ≤ p ∧ p < n) → pot (upd L p v) n = pot L n)
  | 0 => ⟨fun h1 h2 => absurd h2 (by omega), fun _ => rfl⟩
  | n + 1 => by
    have ih := pot_upd L p v n
    refine ⟨fun h1 h2 => ?_, fun h => ?_⟩
    · by_cases hp : p = (n : Int)
      · subst hp
        have := ih.2 (by omega)
        simp only [pot, this, upd_same]; omega
      · have := ih.1 h1 (by omega)
        simp only [pot, upd_other L (show (n : Int) ≠ p by omega)]; omega
    · have := ih.2 (by omega)
      simp only [pot, this, upd_other L (show (n : Int) ≠ p by omega)]
theorem pot_le (L : Int → Int) : ∀ n : Nat, pot L n ≤ 2 * n
  | 0 => by simp [pot]
  | n + 1 => by
    have := pot_le L n
    have h2 : wt (L n) ≤ 2 := by unfold wt; split <;> (try split) <;> omega
    simp only [pot]; omega
/-- how far places have been looked at: those in l are done, in an order -/
structure Looked (ps : List (Int × Int)) (L : Int → Int) (l : List Int) : Prop where
  topo : Topo ps l
  two : ∀ x, L x = 2 ↔ x ∈ l
  range : ∀ x, L x = 0 ∨ L x = 1 ∨ L x = 2
theorem looked_none (ps : List (Int × Int)) : Looked ps (fun _ => 0) [] := ⟨.nil, fun x => by simp, fun x => .inl rfl⟩
theorem Looked.under {ps : List (Int × Int)} {L : Int → Int} {l : List Int} (h : Looked ps L l) {p : Int} (hp : L p = 0) : Looked ps (upd L p 1) l :=
  ⟨h.topo, fun x => by
    by_cases hx : x = p
    · subst hx; rw [upd_same]; have := (h.two x).2; constructor
      · intro e; cases e
      · intro e; have := this e; omega
    · rw [upd_other L hx]; exact h.two x, fun x => by
    by_cases hx : x = p
    · subst hx; rw [upd_same]; exact .inr (.inl rfl)
    · rw [upd_other L hx]; exact h.range x⟩
theorem Looked.done {ps : List (Int × Int)} {L : Int → Int} {l : List Int} (h : Looked ps L l) {p : Int} (hs : ∀ q, (p, q) ∈ ps → q ∈ l) : Looked ps (upd L p 2) (p :: l) :=
  ⟨.cons hs h.topo, fun x => by
    by_cases hx : x = p
    · subst hx; rw [upd_same]; simp
    · rw [upd_other L hx, h.two x]; simp [hx], fun x => by
    by_cases hx : x = p
    · subst hx; rw [upd_same]; exact .inr (.inr rfl)
    · rw [upd_other L hx]; exact h.range x⟩
end Ev
end Go.Proofs.Ytnlfdepeimjliaa
