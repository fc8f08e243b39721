/-
  What the laws on calls share.
-/
import Derived.Test.YtifniogldinbdaaLnPlayed
namespace Go.Proofs.Ytifniogldinbdaa
open Go.RowKit
set_option linter.unusedVariables false
set_option linter.unusedSimpArgs false
namespace Og
theorem s_two {P : Program} {ops : Array Oper} {Q : Exit → Act → World → Prop} {md : Region.Mode} {S : Nat → World → Prop} {fuel : Nat} {listed : Array Bool} {a : Act} {w : World} (i j : Nat) (o o' : Oper) (hi : ops[i]? = some o) (hg : o.guard = none) (hj : ops[j]? = some o') (hg' : o'.guard = none) (hr : Region.ready md ops listed = [i, j])
    (h : o.wp P a w (fun a' w' => Keep md ops S i w w' ∧ wpAnyS P md ops Q S fuel (listed.setIfInBounds i true) a' w') Q)
    (h' : o'.wp P a w (fun a' w' => Keep md ops S j w w' ∧ wpAnyS P md ops Q S fuel (listed.setIfInBounds j true) a' w') Q) : wpAnyS P md ops Q S (fuel + 1) listed a w :=
  ⟨fun h0 => absurd (hr ▸ h0) (by simp), fun k hk => by
    rw [hr] at hk
    simp only [List.mem_cons, List.not_mem_nil, or_false] at hk
    rcases hk with rfl | rfl
    · unfold wpOp
      rw [hi]
      have hw : Region.wanted o (yielded ops a.tmps) = true := by unfold Region.wanted; rw [hg]
      simp only [hw, if_true]
      exact .inl h
    · unfold wpOp
      rw [hj]
      have hw : Region.wanted o' (yielded ops a.tmps) = true := by unfold Region.wanted; rw [hg']
      simp only [hw, if_true]
      exact .inl h'⟩
theorem region_post {P : Program} {id : Nat} {ops : Array Oper} {b : Bool} {Q : Exit → Act → World → Prop} {a : Act} {w : World} (G : Act → Nat → Option Addr → Nat → Act) (Facts : World → Nat → Option Addr → Nat → Prop)
    (h1 : (Code.region id ops b).wp P (fun e a' w' => e = .normal ∧ ∃ nb a3 c3, a' = G a nb a3 c3 ∧ Facts w' nb a3 c3) a w)
    (h2 : ∀ nb a3 c3 w', Facts w' nb a3 c3 → Q .normal (G a nb a3 c3) w') : (Code.region id ops b).wp P Q a w := by
  refine Code.wp_mono (Q := fun e a' w' => e = .normal ∧ ∃ nb a3 c3, a' = G a nb a3 c3 ∧ Facts w' nb a3 c3) ?_ h1
  rintro e a' w' ⟨rfl, nb, a3, c3, rfl, hf⟩
  exact h2 nb a3 c3 w' hf
end Og
namespace Ln
theorem Pl.of_played {w W1 W2 : World} {F : Nat → Prop} {p s ways : Nat} {a : Option Addr} {c : Nat} {l : List E} {o : Obj}
    (hca : Cache W1 F p ways (rows l s)) (hb : Below w.heap.size w W1) (hf : ∀ k, F k → w.heap.size ≤ k)
    (ho : W1.ownsRow w.heap.size 30 18 (.slice a l.length c) l.length (flat l)) (hnf : ∀ k, (Value.slice a l.length c).ownBlock = some k → ¬ F k)
    (hs : Ev.Set1 (W1.alloc o) W2 W1.heap.size 46 #[.int .i64 (s : Int), .int .i64 (ways : Int), .slice a l.length c]) :
    Pl w W2 F p s ways W1.heap.size (rows l s) a c l := by
  have N : Below W1.heap.size W1 W2 := ((Below.refl W1.heap.size W1).alloc (Nat.le_refl _) _).trans hs.below
  exact ⟨hca.kp N, hb.trans (N.mono hb.size), hf, hs.row, hb.size, fun h => by have := hca.lt _ h; omega, row_kept ho (fun k hk => N.block k (ho.lt k hk).2), hnf⟩
theorem may_nat {a b : Int} (h : mayB a b = true) : ∃ s ways : Nat, a = (s : Int) ∧ b = (ways : Int) ∧ 0 < s ∧ s ≤ 64 ∧ 0 < ways ∧ ways ≤ 8 := by
  unfold mayB at h
  rw [Bool.and_eq_true, Bool.and_eq_true] at h
  have h1 := pow2_in h.1
  have h2 := of_decide_eq_true h.2.1
  have h3 := of_decide_eq_true h.2.2
  exact ⟨a.toNat, b.toNat, by omega, by omega, by omega, by omega, by omega, by omega⟩
theorem rin_own {W : World} {base s ways : Nat} {a : Option Addr} {c : Nat} {l : List E} (ho : W.ownsRow base 30 18 (.slice a l.length c) l.length (flat l)) (hr : Rl s ways l) (hl : l.length ≤ 500) : RIn W s ways a c l := by
  obtain ⟨a', c', e, hin⟩ := own_in ho hr.ok
  obtain ⟨rfl, rfl⟩ : a = a' ∧ c = c' := by injection e with e1 _ e3; exact ⟨e1, e3⟩
  exact ⟨hin, hr.s0, hr.s1, hr.w0, hr.w1, hl, own_nil ho⟩
theorem drop_rows {n : Int} (hn : Ev.u32B n) {W : World} {F : Nat → Prop} {p s ways : Nat} {l : List E} (hca : Cache W F p ways (rows l s)) (hr : Rl s ways l) :
    Calls Try.prog 15 #[.pointer (some ⟨p, 0, none⟩), .int .u32 n] W fun y w' => y = .returned (.bool (decide (0 ≤ ix l n 0))) ∧ Turns F W w' p ways (rows (dropL l n) s) := by
  have h1 := drop_any n hn W hca
  rw [dropQ_eq hr, rowQ_rows l s hr.s0, decide_eq_decide.2 ix_ofL] at h1
  exact h1
theorem put_rows {e : E} (he : Ok e) {W : World} {F : Nat → Prop} {p s ways : Nat} {l : List E} (hca : Cache W F p ways (rows l s)) (hr : Rl s ways l) :
    Calls Try.prog 14 #[.pointer (some ⟨p, 0, none⟩), .agg (cells e).toArray] W fun y w' => y = .returned (.int .i64 (putRE s ways l e)) ∧ Turns F W w' p ways (rows (putRL s ways l e) s) := by
  have h1 := put_any e he W hca
  rw [putE_eq hr, putQ_eq hr] at h1
  exact h1
theorem dropL_none {l : List E} {n : Int} : ¬ 0 ≤ ix (dropL l n) n 0 := by
  rw [ix_mem]
  rintro ⟨e, he, h⟩
  unfold dropL at he
  have := (List.mem_filter.1 he).2
  simp [h] at this
theorem dropL_idem {l : List E} {n : Int} : dropL (dropL l n) n = dropL l n := by
  unfold dropL
  rw [List.filter_filter]
  simp
theorem drop_rows2 {n : Int} (hn : Ev.u32B n) {W : World} {F : Nat → Prop} {p s ways : Nat} {l : List E} (hca : Cache W F p ways (rows (dropL l n) s)) (hr : Rl s ways l) :
    Calls Try.prog 15 #[.pointer (some ⟨p, 0, none⟩), .int .u32 n] W fun y w' => y = .returned (.bool false) ∧ Turns F W w' p ways (rows (dropL l n) s) := by
  have h1 := drop_rows hn hca (hr.drop n)
  rw [dropL_idem, decide_eq_false dropL_none] at h1
  exact h1
/-- lines that are put, one behind the other -/
def putsL (s ways : Nat) (xs : List E) : List E := xs.foldl (putRL s ways) []
theorem putsL_succ (s ways : Nat) {xs : List E} {k : Nat} {x : E} (h : xs[k]? = some x) : putsL s ways (xs.take (k + 1)) = putRL s ways (putsL s ways (xs.take k)) x := by
  unfold putsL
  rw [List.take_add_one, h, List.foldl_append]; rfl
theorem putsL_rl {s ways : Nat} (h1 : 0 < s) (h2 : s ≤ 64) (h3 : 0 < ways) (h4 : ways ≤ 8) {xs : List E} (hx : ∀ x ∈ xs, Ok x) (k : Nat) (hk : k ≤ xs.length) : Rl s ways (putsL s ways (xs.take k)) ∧ (putsL s ways (xs.take k)).length ≤ k := by
  induction k with
  | zero => exact ⟨Rl.nil h1 h2 h3 h4, Nat.zero_le _⟩
  | succ k ih =>
    have hlt : k < xs.length := by omega
    have hm : xs[k]? = some xs[k] := List.getElem?_eq_getElem hlt
    rw [putsL_succ s ways hm]
    obtain ⟨i1, i2⟩ := ih (by omega)
    obtain ⟨j1, j2⟩ := i1.put (hx _ (List.getElem_mem hlt))
    exact ⟨j1, by omega⟩
/-- a cache just made, and the document's lines in a box -/
theorem Pl.fresh0 {w W1 W2 : World} {F : Nat → Prop} {p s ways : Nat} (hca : Cache W1 F p ways (List.replicate s [])) (hb : Below w.heap.size w W1) (hf : ∀ k, F k → w.heap.size ≤ k)
    (hW : W2 = W1.alloc (.cells #[.int .i64 (s : Int), .int .i64 (ways : Int), .slice none 0 0] 46)) : Pl w W2 F p s ways W1.heap.size (rows [] s) none 0 [] := by
  have hb2 : Below W1.heap.size W1 W2 := by rw [hW]; exact (Below.refl W1.heap.size W1).alloc (Nat.le_refl _) _
  have hr : List.replicate s ([] : List E) = rows [] s := by
    apply List.ext_getElem?
    intro j
    unfold rows
    rw [List.getElem?_map, List.getElem?_replicate]
    by_cases hj : j < s
    · rw [if_pos hj, List.getElem?_range hj]; rfl
    · rw [if_neg hj, List.getElem?_eq_none (by simp; omega)]; rfl
  rw [hr] at hca
  exact ⟨hca.kp hb2, hb.trans (hb2.mono hb.size), hf, (by rw [hW]; exact heap_alloc_new _ _), hb.size, fun hk => by have := hca.lt _ hk; omega, World.ownsRow_nil _ _ _ _, fun k hk => by cases hk⟩
end Ln
end Go.Proofs.Ytifniogldinbdaa
