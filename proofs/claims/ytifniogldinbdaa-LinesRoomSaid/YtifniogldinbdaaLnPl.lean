/-
  A cache and the document's lines, side by side, in a law's world.
-/
import Derived.Test.YtifniogldinbdaaLnIs
import Derived.Test.YtifniogldinbdaaLnOpen
namespace Go.Proofs.Ytifniogldinbdaa
open Go.RowKit
set_option linter.unusedVariables false
set_option linter.unusedSimpArgs false
namespace Ln
/-- the document's lines in a world: a box wb, and a list that is no block of F -/
structure Pl (w W : World) (F : Nat → Prop) (p s ways wb : Nat) (Q : List (List E)) (a : Option Addr) (c : Nat) (l : List E) : Prop where
  cache : Cache W F p ways Q
  bel : Below w.heap.size w W
  lo : ∀ k, F k → w.heap.size ≤ k
  want : W.heap[wb]? = some (.cells #[.int .i64 (s : Int), .int .i64 (ways : Int), .slice a l.length c] 46 (0, 0))
  wlo : w.heap.size ≤ wb
  wf : ¬ F wb
  own : W.ownsRow w.heap.size 30 18 (.slice a l.length c) l.length (flat l)
  nf : ∀ k, (Value.slice a l.length c).ownBlock = some k → ¬ F k
variable {w W W' : World} {F : Nat → Prop} {p s ways wb : Nat} {Q : List (List E)} {a : Option Addr} {c : Nat} {l : List E}
theorem Pl.wlt (h : Pl w W F p s ways wb Q a c l) : wb < W.heap.size := (Array.getElem?_eq_some_iff.1 h.want).1
theorem Pl.kp (h : Pl w W F p s ways wb Q a c l) (hb : Below W.heap.size W W') : Pl w W' F p s ways wb Q a c l :=
  ⟨h.cache.kp hb, h.bel.trans (hb.mono h.bel.size), h.lo, (hb.block _ h.wlt).trans h.want, h.wlo, h.wf, row_kept h.own (fun k hk => hb.block k (h.own.lt k hk).2), h.nf⟩
/-- the cache turns -/
theorem Pl.turn (h : Pl w W F p s ways wb Q a c l) {Q' : List (List E)} (ht : Turns F W W' p ways Q') : ∃ F', Pl w W' F' p s ways wb Q' a c l ∧ Fr F W W' ∧ ∀ k, F' k → F k ∨ W.heap.size ≤ k := by
  obtain ⟨F', h1, h2, h3⟩ := ht
  refine ⟨F', ⟨h1, Fr.below h.bel h2 h.lo (Nat.le_refl _), fun k hk => ?_, (h2.block _ h.wlt h.wf).trans h.want, h.wlo, fun hk => ?_, row_kept h.own (fun k hk => h2.block k (h.own.lt k hk).2 (h.nf k hk)), fun k hk hF => ?_⟩, h2, h3⟩
  · rcases h3 k hk with h4 | h4
    · exact h.lo k h4
    · have := h.bel.size; omega
  · rcases h3 wb hk with h4 | h4
    · exact h.wf h4
    · have := h.wlt; omega
  · rcases h3 k hF with h4 | h4
    · exact h.nf k hk h4
    · have := (h.own.lt k hk).2; omega
/-- another list is stored into the box -/
theorem Pl.list (h : Pl w W F p s ways wb Q a c l) {a' : Option Addr} {c' : Nat} {l' : List E} (ho : W.ownsRow w.heap.size 30 18 (.slice a' l'.length c') l'.length (flat l')) (hn : ∀ k, (Value.slice a' l'.length c').ownBlock = some k → ¬ F k)
    (hs : Ev.Set1 W W' wb 46 #[.int .i64 (s : Int), .int .i64 (ways : Int), .slice a' l'.length c']) : Pl w W' F p s ways wb Q a' c' l' :=
  ⟨h.cache.kept (by rw [hs.size]; exact Nat.le_refl _) (fun k hk => hs.block k (fun e => h.wf (by rw [← e]; exact hk))), h.bel.trans (hs.below.mono h.wlo), h.lo, hs.row, h.wlo, h.wf,
    row_kept ho (fun k hk => hs.block k (fun e => by subst e; exact own_ne ho h.want (by decide) hk)), hn⟩
/-- another block of one's own is set -/
theorem Pl.other (h : Pl w W F p s ways wb Q a c l) {g : Nat} {t : TypeId} {cs : Array Value} (hs : Ev.Set1 W W' g t cs) (h1 : w.heap.size ≤ g) (h2 : ¬ F g) (h3 : g ≠ wb) (h4 : (Value.slice a l.length c).ownBlock ≠ some g) : Pl w W' F p s ways wb Q a c l :=
  ⟨h.cache.kept (by rw [hs.size]; exact Nat.le_refl _) (fun k hk => hs.block k (fun e => h2 (by rw [← e]; exact hk))), h.bel.trans (hs.below.mono h1), h.lo, (hs.block _ (Ne.symm h3)).trans h.want, h.wlo, h.wf,
    row_kept h.own (fun k hk => hs.block k (fun e => h4 (by rw [hk, e]))), h.nf⟩
theorem own_nil {base : Nat} (ho : W.ownsRow base 30 18 (.slice a l.length c) l.length (flat l)) : a = none → c = 0 := by
  intro e
  rcases ho.2 with ⟨e1, _⟩ | ⟨g, cap, cur, e1, _⟩
  · injection e1
  · injection e1 with e1; rw [e] at e1; cases e1
theorem Pl.rin (h : Pl w W F p s ways wb Q a c l) (hr : Rl s ways l) (hl : l.length ≤ 500) : RIn W s ways a c l := by
  obtain ⟨a', c', e, hin⟩ := own_in h.own hr.ok
  obtain ⟨rfl, rfl⟩ : a = a' ∧ c = c' := by injection e with e1 _ e3; exact ⟨e1, e3⟩
  exact ⟨hin, hr.s0, hr.s1, hr.w0, hr.w1, hl, own_nil h.own⟩
/-- a list that a function has just told -/
theorem Pl.fresh (h : Pl w W F p s ways wb Q a c l) {a' : Option Addr} {c' : Nat} {l' : List E} (ho : W'.ownsRow W.heap.size 30 18 (.slice a' l'.length c') l'.length (flat l')) :
    W'.ownsRow w.heap.size 30 18 (.slice a' l'.length c') l'.length (flat l') ∧ ∀ k, (Value.slice a' l'.length c').ownBlock = some k → ¬ F k :=
  ⟨own_mono ho h.bel.size, fun k hk hF => by have := h.cache.lt k hF; have := (ho.lt k hk).1; omega⟩
/-- what a call does to the document's list -/
def stepL (s ways : Nat) (l : List E) (x : Act) : List E := if x.k = 0 then putRL s ways l x.e else dropL l x.e.n
def playL (s ways : Nat) (xs : List Act) : List E := xs.foldl (stepL s ways) []
theorem playL_succ (s ways : Nat) {xs : List Act} {k : Nat} {x : Act} (h : xs[k]? = some x) : playL s ways (xs.take (k + 1)) = stepL s ways (playL s ways (xs.take k)) x := by
  unfold playL
  rw [List.take_add_one, h, List.foldl_append]; rfl
theorem playL_rl {s ways : Nat} (h1 : 0 < s) (h2 : s ≤ 64) (h3 : 0 < ways) (h4 : ways ≤ 8) {xs : List Act} (hx : ∀ x ∈ xs, AOk x) (k : Nat) (hk : k ≤ xs.length) : Rl s ways (playL s ways (xs.take k)) ∧ (playL s ways (xs.take k)).length ≤ k := by
  induction k with
  | zero => exact ⟨Rl.nil h1 h2 h3 h4, Nat.zero_le _⟩
  | succ k ih =>
    have hlt : k < xs.length := by omega
    have hm : xs[k]? = some xs[k] := List.getElem?_eq_getElem hlt
    rw [playL_succ s ways hm]
    obtain ⟨i1, i2⟩ := ih (by omega)
    unfold stepL
    by_cases hk0 : xs[k].k = 0
    · rw [if_pos hk0]
      obtain ⟨j1, j2⟩ := i1.put (hx _ (List.getElem_mem hlt)).e
      exact ⟨j1, by omega⟩
    · rw [if_neg hk0]
      exact ⟨i1.drop _, Nat.le_trans (dropL_len _ _) (by omega)⟩
theorem AsIn.kp {w w' : World} {a c l} (h : AsIn w a c l) (k : Ev.Kp w w') : AsIn w' a c l := ⟨h.rows.kp k, h.ok, h.le, h.max⟩
theorem AsIn.at_ {w : World} {a c} {l : List Act} (h : AsIn w a c l) {k : Nat} {x : Act} (hk : l[k]? = some x) :
    ∃ g o, a = some ⟨g, o, none⟩ ∧ (∀ i c, (acells x)[i]? = some c → w.cell? ⟨g, o + k * 19 + i, none⟩ = some c) := by
  have hl := (List.getElem?_eq_some_iff.1 hk).1
  obtain ⟨g, o, e1, hc⟩ := h.rows (by simp; omega)
  exact ⟨g, o, e1, fun i c hi => hc k (acells x) (by rw [List.getElem?_map, hk]; rfl) i c hi⟩
theorem acells_one (x : Act) : ∀ u ∈ acells x, u.oneCell' = true := by
  intro u hu
  unfold acells at hu
  rcases List.mem_cons.1 hu with rfl | hu
  · rfl
  · exact cells_one x.e u hu
theorem acells_all (x : Act) : (acells x).toArray.all (·.oneCell') = true := by
  rw [Array.all_eq_true']
  intro u hu
  exact acells_one x u (by simpa using hu)
theorem size_act : (Try.prog.info? 56).map (·.size) = some 19 := by kernel_rfl
end Ln
end Go.Proofs.Ytifniogldinbdaa
