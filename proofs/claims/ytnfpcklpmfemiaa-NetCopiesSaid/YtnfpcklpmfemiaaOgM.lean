/-
  A range over a function that hands over what it likes, in states: the iterator may have walks of its own (a map's range). No program is named here.
-/
import Derived.Test.YtnfpcklpmfemiaaOgI
namespace Go.Og
set_option linter.unusedVariables false
set_option linter.unusedSimpArgs false
open Go Go.RowKit
variable {F : Fence} {n : Nat} {P : Program}
/-- what is no cells stays, but for block l -/
def KeepsBut (l : Nat) (W W' : World) : Prop := ∀ k o, k ≠ l → W.heap[k]? = some o → o.isCells = false → W'.heap[k]? = some o
/-- the iterator g hands over values: st tells which may come in a state, and the state behind it; R: what it reads -/
def IterS {α σ : Type} (F : Fence) (n : Nat) (P : Program) (g : Nat) (lb : Array Value) (R : World → Prop) (enc : α → Array Value) (st : σ → α → σ → Prop) (s0 : σ) (fin : σ → Prop) : Prop :=
  ∀ (l : Nat) (J : σ → World → Prop) (Jx : World → Prop) (W : World),
    (∀ s A A', J s A → Below A.heap.size A A' → J s A') → (∀ s A A' r o, J s A → W.heap.size ≤ r → A.heap[r]? = some o → o.isCells = false → A.grownBy A' (some r) → J s A') →
    (∀ A A' r o, Jx A → W.heap.size ≤ r → A.heap[r]? = some o → o.isCells = false → A.grownBy A' (some r) → Jx A') → (∀ s A, J s A → R A) → (∃ q, W.heap[l]? = some (.loop q)) →
    (∀ s x s' W1, st s x s' → J s W1 → YieldAt F (n - 1) P l (enc x) W1 fun e W' => KeepsBut l W1 W' ∧ W1.heap.size ≤ W'.heap.size ∧ ((e = .returned (.bool true) ∧ J s' W') ∨ (e = .returned (.bool false) ∧ Jx W'))) →
    J s0 W → CallsIn F n P g (#[.func (.yield l) #[] #[]] ++ lb) W fun e W' => (∃ v, e = .returned v) ∧ ((∃ s, fin s ∧ J s W') ∨ Jx W')
/-- how a round is left -/
def siPost {σ : Type} (I : σ → World → Prop) (Ix : Code → World → Prop) (s' : σ) (W : World) : Exit → Act → World → Prop
  | .normal, _, W' => KeepsOthers W W' ∧ I s' W'
  | .ret, _, W' => KeepsOthers W W' ∧ Ix .ret W'
  | .exit id, _, W' => KeepsOthers W W' ∧ Ix (.exit id) W'
  | .goto t, _, W' => KeepsOthers W W' ∧ Ix (.goto t) W'
  | .panic _, _, _ => False
  | .outgrown, _, _ => False
theorem wpIn_rangeFunc_sts {α σ : Type} {g : Operand} {ps : Array Tmp} {assign body : Code} {Q : Exit → Act → World → Prop} {a : Act} {w : World}
    (hro : F.round = none) (h1 : 1 ≤ n) {gf : Nat} {lb : Array Value} (hg : a.eval g = .func (.func gf) #[] lb) (hFg : F.fn gf) (eg : ∀ args w, (callFunc gf args).run P w = .ok (.enter gf args) w)
    {R : World → Prop} {enc : α → Array Value} {st : σ → α → σ → Prop} {s0 : σ} {fin : σ → Prop} (hit : IterS F (n - 1) P gf lb R enc st s0 fin) (hps : ∀ s, (enc s).size = ps.size)
    (I : σ → World → Prop) (Ix : Code → World → Prop)
    (hb : ∀ k A A', I k A → Below A.heap.size A A' → I k A') (hp : ∀ k A l o o', I k A → w.heap.size ≤ l → A.heap[l]? = some o → o.isCells = false → I k (A.putObj l o'))
    (hg' : ∀ (k : σ) (A A' : World) (r : Nat) (o : Obj), I k A → w.heap.size ≤ r → A.heap[r]? = some o → o.isCells = false → A.grownBy A' (some r) → I k A') (hgx : ∀ (c : Code) (A A' : World) (r : Nat) (o : Obj), Ix c A → w.heap.size ≤ r → A.heap[r]? = some o → o.isCells = false → A.grownBy A' (some r) → Ix c A')
    (hpx : ∀ (c : Code) (A : World) (l : Nat) (o o' : Obj), Ix c A → w.heap.size ≤ l → A.heap[l]? = some o → o.isCells = false → Ix c (A.putObj l o'))
    (hR : ∀ k A, I k A → R A)
    (h0 : I s0 w) (a₁ : α → World → Act) (w₁ : α → World → World) (hw₁ : ∀ (s : α) (W : World), Below W.heap.size W (w₁ s W))
    (hassign : ∀ (l : Nat) (s : α) (W : World) (K : Act → World → Prop), K (a₁ s W) (w₁ s W) →
      assign.wpIn (F.inRound l) (n - 1 - 1) P (Exit.then K (fun _ _ _ => False)) { tmps := (ps.zip (enc s)).foldl (fun t (p, v) => t.setIfInBounds p v) a.tmps, defers := [] } W)
    (hbody : ∀ (l : Nat) (k k2 : σ) (s : α) (W W' : World), st k s k2 → I k W → I k W' → (∀ (b : Nat) (o : Obj), (w₁ s W).heap[b]? = some o → o.isCells = true → W'.heap[b]? = some o) → W'.heap.size = (w₁ s W).heap.size → body.wpIn (F.inRound l) (n - 1 - 1) P (siPost I Ix k2 W') (a₁ s W) W')
    (hdone : ∀ (D : Nat) (k : σ) (W : World), w.heap.size ≤ D → fin k → I k W → W.heap[D]? = some (.deferred (some [])) → Q .normal { a with defers := { target := .collected D, args := #[] } :: a.defers } W)
    (hstop : ∀ (D : Nat) (c : Code) (W : World), w.heap.size ≤ D → Ix c W → W.heap[D]? = some (.deferred (some [])) → c.wpIn F n P Q { a with defers := { target := .collected D, args := #[] } :: a.defers } W) :
    (Code.rangeFunc g ps assign body).wpIn F n P Q a w := by
  refine wpIn_rangeFunc fun fn hfn => ?_
  rw [hro]
  obtain ⟨rec, hrec⟩ : ∃ rec : LoopState → Option Code → Loop, rec = fun st pe => { state := st, pending := pe, fn, tmps := a.tmps, params := ps, assign, body, defers := w.heap.size } := ⟨_, rfl⟩
  obtain ⟨W1, hW1⟩ : ∃ W1, (w.alloc (.deferred (some []))).alloc (.loop (rec .ready none)) = W1 := ⟨_, rfl⟩
  have hD : W1.heap[w.heap.size]? = some (.deferred (some [])) := by
    rw [← hW1]; exact (Below.heap_alloc _ _ _ (by simp)).trans (World.alloc_heap_new w _)
  have hL : W1.heap[w.heap.size + 1]? = some (.loop (rec .ready none)) := by
    have := World.alloc_heap_new (w.alloc (.deferred (some []))) (.loop (rec .ready none)); rw [World.size_alloc] at this; rw [← hW1]; exact this
  have hI1 : I s0 W1 := by
    rw [← hW1]; exact hb _ _ _ h0 (((Below.refl _ w).alloc (Nat.le_refl _) _).alloc (by simp) _)
  refine ⟨w.heap.size + 1, [{ target := .collected w.heap.size, args := #[] }], W1, { target := .fn (.func gf) lb, args := #[.func (.yield (w.heap.size + 1)) #[] #[]] }, W1, gf,
    #[.func (.yield (w.heap.size + 1)) #[] #[]] ++ lb, W1, ?_, ?_, ?_, ?_, fun _ => h1, ?_⟩
  · rw [← hW1, hrec]; exact run_enterLoop_outer _ _ _ _ _
  · simp only [resolve, hg]; simp [go_sem]
  · intro f' hf'; simp [Target.leads] at hf'; subst hf'; exact hFg
  · simp [invoke, go_sem, eg]
  · have hw1 : w.heap.size + 2 = W1.heap.size := by rw [← hW1]; simp
    have kg : ∀ {A A' : World} {k r : Nat} {o : Obj}, k < W1.heap.size → W1.heap.size ≤ r → A.grownBy A' (some r) → A.heap[k]? = some o → A'.heap[k]? = some o := fun h1 h2 hg h => (hg.block _ (Array.getElem?_eq_some_iff.1 h).1 (by simp; omega)).trans h
    have kd : ∀ {A A' : World} {k : Nat} {o : Obj}, Below A.heap.size A A' → A.heap[k]? = some o → A'.heap[k]? = some o := fun hb' h => (hb'.block _ (Array.getElem?_eq_some_iff.1 h).1).trans h
    refine (hit (w.heap.size + 1) (fun (k : σ) W => I k W ∧ W.heap[w.heap.size + 1]? = some (.loop (rec .ready none)) ∧ W.heap[w.heap.size]? = some (.deferred (some [])))
      (fun W => ∃ c, Ix c W ∧ W.heap[w.heap.size + 1]? = some (.loop (rec .done (some c))) ∧ W.heap[w.heap.size]? = some (.deferred (some []))) W1
      (fun k A A' h hb' => ⟨hb _ _ _ h.1 hb', kd hb' h.2.1, kd hb' h.2.2⟩) (fun k A A' r o h hr ho hc hg => ⟨hg' _ _ _ _ _ h.1 (by omega) ho hc hg, kg (by omega) hr hg h.2.1, kg (by omega) hr hg h.2.2⟩)
      (fun A A' r o ⟨c, h, hl, hd⟩ hr ho hc hg => ⟨c, hgx _ _ _ _ _ h (by omega) ho hc hg, kg (by omega) hr hg hl, kg (by omega) hr hg hd⟩) (fun k A h => hR _ _ h.1) ⟨_, hL⟩ ?_ ⟨hI1, hL, hD⟩).mono ?_
    · rintro k s k2 W hs ⟨hi, hl, hk⟩
      have hy := run_yield (P := P) (args := enc s) hl (by rw [hrec]; exact hps s)
      rw [hrec] at hy
      obtain ⟨V, hV⟩ : ∃ V, V = w₁ s W := ⟨_, rfl⟩
      have hbv : Below W.heap.size W V := by rw [hV]; exact hw₁ s W
      have hiW := hi; have hi := hb _ _ _ hi hbv
      have hl := kd hbv hl; have hk := kd hbv hk
      have hlt : w.heap.size + 1 < V.heap.size := (Array.getElem?_eq_some_iff.1 hl).1
      refine ⟨fn, _, assign, body, hy, roundIn_of_wpIn hfn (hassign _ s W _ ?_)⟩
      rw [← hV]
      refine ⟨_, run_beginRound hl (by rw [hrec]), ?_⟩
      have hl2 : (V.putObj (w.heap.size + 1) (.loop { rec .ready none with state := .busy })).heap[w.heap.size + 1]? = some (.loop { rec .ready none with state := .busy }) := World.putObj_heap_same hlt
      have hk2 : (V.putObj (w.heap.size + 1) (.loop { rec .ready none with state := .busy })).heap[w.heap.size]? = some (.deferred (some [])) := (World.putObj_heap_other (by omega)).trans hk
      have fin : ∀ (jump : Option Code) (W3 : World), KeepsOthers (V.putObj (w.heap.size + 1) (.loop { rec .ready none with state := .busy })) W3 →
          (Instr.endRound (w.heap.size + 1) jump).run P W3 = .ok (.bool jump.isNone) (W3.putObj (w.heap.size + 1) (.loop (rec (if jump.isNone then .ready else .done) jump))) ∧
          W3.heap[w.heap.size + 1]? = some (.loop { rec .ready none with state := .busy }) ∧
          (W3.putObj (w.heap.size + 1) (.loop (rec (if jump.isNone then .ready else .done) jump))).heap[w.heap.size + 1]? = some (.loop (rec (if jump.isNone then .ready else .done) jump)) ∧
          (W3.putObj (w.heap.size + 1) (.loop (rec (if jump.isNone then .ready else .done) jump))).heap[w.heap.size]? = some (.deferred (some [])) := fun jump W3 hk3 => by
        have hl3 := hk3.same _ _ hl2 rfl
        have he := run_endRound (P := P) jump hl3
        rw [hrec] at he ⊢
        exact ⟨he, by rw [hrec] at hl3; exact hl3, World.putObj_heap_same (Array.getElem?_eq_some_iff.1 hl3).1, (World.putObj_heap_other (by omega)).trans (hk3.same _ _ hk2 rfl)⟩
      have kb : ∀ {W3 : World} {o3 : Obj}, KeepsOthers (V.putObj (w.heap.size + 1) (.loop { rec .ready none with state := .busy })) W3 → KeepsBut (w.heap.size + 1) W (W3.putObj (w.heap.size + 1) o3) := fun hk3 k o hne ho hc =>
        (World.putObj_heap_other hne).trans (hk3.same _ _ ((World.putObj_heap_other hne).trans ((hbv.block k (Array.getElem?_eq_some_iff.1 ho).1).trans ho)) hc)
      have ks : ∀ {W3 : World} {o3 : Obj}, KeepsOthers (V.putObj (w.heap.size + 1) (.loop { rec .ready none with state := .busy })) W3 → W.heap.size ≤ (W3.putObj (w.heap.size + 1) o3).heap.size := fun hk3 => by
        have := hk3.1; have := hbv.size; simp at *; omega
      refine wpIn_mono (hbody _ k k2 s W _ hs hiW (hp _ _ _ _ _ hi (Nat.le_succ _) hl rfl) (fun b o hbo hc => by rw [← hV] at hbo; exact (World.putObj_heap_other (fun e => by rw [e, hl] at hbo; cases hbo; cases hc)).trans hbo) (by rw [← hV]; simp)) ?_
      rintro e a3 W3 hpost
      cases e with
      | normal =>
        obtain ⟨hk3, hi3⟩ := hpost
        obtain ⟨hr3, hl3, hl4, hk4⟩ := fin none W3 hk3
        exact ⟨_, _, hr3, kb hk3, ks hk3, .inl ⟨rfl, hp _ _ _ _ _ hi3 (Nat.le_succ _) hl3 rfl, hl4, hk4⟩⟩
      | ret =>
        obtain ⟨hk3, hi3⟩ := hpost
        obtain ⟨hr3, hl3, hl4, hk4⟩ := fin (some .ret) W3 hk3
        exact ⟨_, _, hr3, kb hk3, ks hk3, .inr ⟨rfl, .ret, hpx _ _ _ _ _ hi3 (Nat.le_succ _) hl3 rfl, hl4, hk4⟩⟩
      | exit id =>
        obtain ⟨hk3, hi3⟩ := hpost
        obtain ⟨hr3, hl3, hl4, hk4⟩ := fin (some (.exit id)) W3 hk3
        exact ⟨_, _, hr3, kb hk3, ks hk3, .inr ⟨rfl, .exit id, hpx _ _ _ _ _ hi3 (Nat.le_succ _) hl3 rfl, hl4, hk4⟩⟩
      | goto t =>
        obtain ⟨hk3, hi3⟩ := hpost
        obtain ⟨hr3, hl3, hl4, hk4⟩ := fin (some (.goto t)) W3 hk3
        exact ⟨_, _, hr3, kb hk3, ks hk3, .inr ⟨rfl, .goto t, hpx _ _ _ _ _ hi3 (Nat.le_succ _) hl3 rfl, hl4, hk4⟩⟩
      | panic ch => exact hpost.elim
      | outgrown => exact hpost.elim
    · rintro e W2 ⟨⟨v, rfl⟩, (⟨k, hf, hi, hl, hk⟩ | ⟨c, hi, hl, hk⟩)⟩
      · exact ⟨none, _, by have := run_endLoop (P := P) hl (by rw [hrec]; simp); rw [hrec] at this; exact this, hdone _ _ _ (Nat.le_refl _) hf (hp _ _ _ _ _ hi (Nat.le_succ _) hl rfl) ((World.putObj_heap_other (by omega)).trans hk)⟩
      · exact ⟨some c, _, by have := run_endLoop (P := P) hl (by rw [hrec]; simp); rw [hrec] at this; exact this, hstop _ c _ (Nat.le_refl _) (hpx _ _ _ _ _ hi (Nat.le_succ _) hl rfl) ((World.putObj_heap_other (by omega)).trans hk)⟩
end Go.Og
