/-
  A net and the document's list, side by side, in a law's world.
-/
import Derived.Test.YtnfpcklpmfemiaaNtWorks
namespace Go.Proofs.Ytnfpcklpmfemiaa
open Go.RowKit
set_option linter.unusedVariables false
set_option linter.unusedSimpArgs false
namespace Nt
/-- the document's net in a world: a box wb, and a list in no block of F -/
structure Pl (w W : World) (F : Nat → Prop) (p most wb : Nat) (n : List E) (a : Option Addr) (c : Nat) (l : List E) : Prop where
  net : Net W F p most n
  bel : Below w.heap.size w W
  lo : ∀ k, F k → w.heap.size ≤ k
  want : W.heap[wb]? = some (.cells #[.int .i64 (most : Int), .slice a l.length c] 76 (0, 0))
  wlo : w.heap.size ≤ wb
  wf : ¬ F wb
  own : Own W (fun k => w.heap.size ≤ k ∧ ¬ F k) a c l
  ok : ∀ e ∈ l, Ok e
section
variable {w W W' : World} {F : Nat → Prop} {p most wb : Nat} {n : List E} {a : Option Addr} {c : Nat} {l : List E}
theorem Pl.wlt (h : Pl w W F p most wb n a c l) : wb < W.heap.size := (Array.getElem?_eq_some_iff.1 h.want).1
theorem Pl.kp (h : Pl w W F p most wb n a c l) (hb : Below W.heap.size W W') : Pl w W' F p most wb n a c l :=
  ⟨h.net.kp hb, h.bel.trans (hb.mono h.bel.size), h.lo, (hb.block _ h.wlt).trans h.want, h.wlo, h.wf, h.own.kp hb, h.ok⟩
/-- the net turns -/
theorem Pl.turn (h : Pl w W F p most wb n a c l) {n' : List E} (ht : Turns F W W' p most n') : ∃ F', Pl w W' F' p most wb n' a c l ∧ Fr F W W' ∧ ∀ k, F' k → F k ∨ W.heap.size ≤ k := by
  obtain ⟨F', h1, h2, h3⟩ := ht
  refine ⟨F', ⟨h1, Fr.below h.bel h2 h.lo (Nat.le_refl _), fun k hk => ?_, (h2.block _ h.wlt h.wf).trans h.want, h.wlo, fun hk => ?_, ?_, h.ok⟩, h2, h3⟩
  · rcases h3 k hk with h4 | h4
    · exact h.lo k h4
    · have := h.bel.size; omega
  · rcases h3 wb hk with h4 | h4
    · exact h.wf h4
    · have := h.wlt; omega
  · refine (h.own.lt.kept (fun k hk _ => h2.block k hk.2 hk.1.2)).mono (fun k hk => ⟨hk.1.1, fun hF => ?_⟩)
    rcases h3 k hF with h4 | h4
    · exact hk.1.2 h4
    · omega
/-- another list is stored into the box -/
theorem Pl.list (h : Pl w W F p most wb n a c l) {a' : Option Addr} {c' : Nat} {l' : List E} (ho : Own W (fun k => w.heap.size ≤ k ∧ ¬ F k) a' c' l') (hok : ∀ e ∈ l', Ok e)
    (hs : Ev.Set1 W W' wb 76 #[.int .i64 (most : Int), .slice a' l'.length c']) : Pl w W' F p most wb n a' c' l' := by
  refine ⟨h.net.kept (by rw [hs.size]; exact Nat.le_refl _) (fun k hk => hs.block k (fun e => h.wf (by rw [← e]; exact hk))), h.bel.trans (hs.below.mono h.wlo), h.lo, hs.row, h.wlo, h.wf, ?_, hok⟩
  rcases ho with h1 | ⟨g, cur, e, hf, hg, r⟩
  · exact .inl h1
  · refine .inr ⟨g, cur, e, hf, (hs.block g (fun e => ?_)).trans hg, r⟩
    rw [e, h.want] at hg
    injection hg with hg
    injection hg with _ hg _
    exact absurd hg (by decide)
theorem Pl.ls (h : Pl w W F p most wb n a c l) : LsIn W a c l := h.own.ls h.ok
/-- a list that a call of the document's has told -/
theorem Pl.told (h : Pl w W F p most wb n a c l) (hb : Below W.heap.size W W') {a' : Option Addr} {c' : Nat} {l' : List E} (ht : RT W W' a c l a' c' l') : Own W' (fun k => w.heap.size ≤ k ∧ ¬ F k) a' c' l' := by
  rcases ht with ⟨rfl, rfl, rfl⟩ | ho
  · exact h.own.kp hb
  · refine ho.mono (fun k hk => ⟨Nat.le_trans h.bel.size hk, fun hF => ?_⟩)
    have := h.net.lt k hF
    omega
end
/-- what a call does -/
def stepL (most : Nat) (l : List E) (x : Act) : List E := if x.k = 0 then sendL most l x.e else delL l x.p
def playL (most : Nat) (xs : List Act) : List E := xs.foldl (stepL most) []
theorem playL_succ (most : Nat) {xs : List Act} {k : Nat} {x : Act} (h : xs[k]? = some x) : playL most (xs.take (k + 1)) = stepL most (playL most (xs.take k)) x := by
  unfold playL
  rw [List.take_add_one, h, List.foldl_append]; rfl
theorem sendL_ok {most : Nat} {l : List E} {e : E} (h : ∀ x ∈ l, Ok x) (he : Ok e) : ∀ x ∈ sendL most l e, Ok x := by
  intro x hx
  unfold sendL at hx
  split at hx
  · split at hx
    · exact h x hx
    · rcases List.mem_append.1 hx with hx | hx
      · exact h x hx
      · obtain rfl : x = e := by simpa using hx
        exact he
  · exact h x hx
theorem delL_ok {l : List E} {pick : Int} (h : ∀ x ∈ l, Ok x) : ∀ x ∈ delL l pick, Ok x := fun x hx => h x ((List.eraseIdx_sublist l _).mem hx)
theorem delO_ok {l : List E} {pick : Int} (h : ∀ x ∈ l, Ok x) : Ok ((delO l pick).getD E0) := by
  unfold delO
  cases hh : l[dix l pick]? with
  | none => exact E0_ok
  | some e => exact h e (List.mem_of_getElem? hh)
/-- a net just made, and the document's in a box -/
theorem Pl.fresh {w W1 W2 : World} {F : Nat → Prop} {p most : Nat} (hn : Net W1 F p most []) (hb : Below w.heap.size w W1) (hf : ∀ k, F k → w.heap.size ≤ k)
    (hW : W2 = W1.alloc (.cells #[.int .i64 (most : Int), .slice none 0 0] 76)) : Pl w W2 F p most W1.heap.size [] none 0 [] := by
  have hb2 : Below W1.heap.size W1 W2 := by rw [hW]; exact (Below.refl W1.heap.size W1).alloc (Nat.le_refl _) _
  exact ⟨hn.kp hb2, hb.trans (hb2.mono hb.size), hf, (by rw [hW]; exact heap_alloc_new _ _), hb.size, fun hk => (by have := hn.lt _ hk; omega), Own.nil _ _, fun e he => (by cases he)⟩
end Nt
end Go.Proofs.Ytnfpcklpmfemiaa
