import Derived.Test.YtnjnpbabgefaeaaGreatKg01
import Derived.Test.YtnjnpbabgefaeaaGreatKg02
set_option linter.unusedVariables false
set_option linter.unusedSimpArgs false

section
namespace Go.Og
open Go Go.RowKit
variable {F : Fence} {n : Nat} {P : Program}
def KeepsBut (l : Nat) (W W' : World) : Prop := ∀ k o, k ≠ l → W.heap[k]? = some o → o.isCells = false → W'.heap[k]? = some o
def IterS {α σ : Type} (F : Fence) (n : Nat) (P : Program) (g : Nat) (lb : Array Value) (R : World → Prop) (enc : α → Array Value) (st : σ → α → σ → Prop) (s0 : σ) (fin : σ → Prop) : Prop :=
  ∀ (l : Nat) (J : σ → World → Prop) (Jx : World → Prop) (W : World),
    (∀ s A A', J s A → Below A.heap.size A A' → J s A') → (∀ s A A' r o, J s A → W.heap.size ≤ r → A.heap[r]? = some o → o.isCells = false → A.grownBy A' (some r) → J s A') →
    (∀ A A' r o, Jx A → W.heap.size ≤ r → A.heap[r]? = some o → o.isCells = false → A.grownBy A' (some r) → Jx A') → (∀ s A, J s A → R A) → (∃ q, W.heap[l]? = some (.loop q)) →
    (∀ s x s' W1, st s x s' → J s W1 → YieldAt F (n - 1) P l (enc x) W1 fun e W' => KeepsBut l W1 W' ∧ W1.heap.size ≤ W'.heap.size ∧ ((e = .returned (.bool true) ∧ J s' W') ∨ (e = .returned (.bool false) ∧ Jx W'))) →
    J s0 W → CallsIn F n P g (#[.func (.yield l) #[] #[]] ++ lb) W fun e W' => (∃ v, e = .returned v) ∧ ((∃ s, fin s ∧ J s W') ∨ Jx W')
def siPost {σ : Type} (I : σ → World → Prop) (Ix : Code → World → Prop) (s' : σ) (W : World) : Exit → Act → World → Prop
  | .normal, _, W' => KeepsOthers W W' ∧ I s' W'
  | .ret, _, W' => KeepsOthers W W' ∧ Ix .ret W'
  | .exit id, _, W' => KeepsOthers W W' ∧ Ix (.exit id) W'
  | .goto t, _, W' => KeepsOthers W W' ∧ Ix (.goto t) W'
  | .panic _, _, _ => False
  | .outgrown, _, _ => False
theorem wpIn_rangeFunc_sts {α σ : Type} {g : Operand} {ps : Array Tmp} {assign body : Code} {Q : Exit → Act → World → Prop} {a : Act} {w : World}
    (hro : F.round = none) (h1 : 1 ≤ n) {gf : Nat} {lb : Array Value} (hg : a.eval g = .func (.func gf) #[] lb) (hFg : F.fn gf) (eg : ∀ args w, (callFunc gf args).run P w = .ok (.enter gf args) w)
    {R : World → Prop} {enc : α → Array Value} {st : σ → α → σ → Prop} {s0 : σ} {fin : σ → Prop} (hit : IterS F (n - 1) P gf lb R enc st s0 fin) (hps : ∀ s, (enc s).size = ps.size)
    (I : σ → World → Prop) (Ix : Code → World → Prop)
    (hb : ∀ k A A', I k A → Below A.heap.size A A' → I k A') (hp : ∀ k A l o o', I k A → w.heap.size ≤ l → A.heap[l]? = some o → o.isCells = false → I k (A.putObj l o'))
    (hg' : ∀ (k : σ) (A A' : World) (r : Nat) (o : Obj), I k A → w.heap.size ≤ r → A.heap[r]? = some o → o.isCells = false → A.grownBy A' (some r) → I k A') (hgx : ∀ (c : Code) (A A' : World) (r : Nat) (o : Obj), Ix c A → w.heap.size ≤ r → A.heap[r]? = some o → o.isCells = false → A.grownBy A' (some r) → Ix c A')
    (hpx : ∀ (c : Code) (A : World) (l : Nat) (o o' : Obj), Ix c A → w.heap.size ≤ l → A.heap[l]? = some o → o.isCells = false → Ix c (A.putObj l o'))
    (hR : ∀ k A, I k A → R A)
    (h0 : I s0 w) (a₁ : α → World → Act) (w₁ : α → World → World) (hw₁ : ∀ (s : α) (W : World), Below W.heap.size W (w₁ s W))
    (hassign : ∀ (l : Nat) (s : α) (W : World) (K : Act → World → Prop), K (a₁ s W) (w₁ s W) →
      assign.wpIn (F.inRound l) (n - 1 - 1) P (Exit.then K (fun _ _ _ => False)) { tmps := (ps.zip (enc s)).foldl (fun t (p, v) => t.setIfInBounds p v) a.tmps, defers := [] } W)
    (hbody : ∀ (l : Nat) (k k2 : σ) (s : α) (W W' : World), st k s k2 → I k W → I k W' → (∀ (b : Nat) (o : Obj), (w₁ s W).heap[b]? = some o → o.isCells = true → W'.heap[b]? = some o) → W'.heap.size = (w₁ s W).heap.size → body.wpIn (F.inRound l) (n - 1 - 1) P (siPost I Ix k2 W') (a₁ s W) W')
    (hdone : ∀ (D : Nat) (k : σ) (W : World), w.heap.size ≤ D → fin k → I k W → W.heap[D]? = some (.deferred (some [])) → Q .normal { a with defers := { target := .collected D, args := #[] } :: a.defers } W)
    (hstop : ∀ (D : Nat) (c : Code) (W : World), w.heap.size ≤ D → Ix c W → W.heap[D]? = some (.deferred (some [])) → c.wpIn F n P Q { a with defers := { target := .collected D, args := #[] } :: a.defers } W) :
    (Code.rangeFunc g ps assign body).wpIn F n P Q a w := by
  refine wpIn_rangeFunc fun fn hfn => ?_
  rw [hro]
  obtain ⟨rec, hrec⟩ : ∃ rec : LoopState → Option Code → Loop, rec = fun st pe => { state := st, pending := pe, fn, tmps := a.tmps, params := ps, assign, body, defers := w.heap.size } := ⟨_, rfl⟩
  obtain ⟨W1, hW1⟩ : ∃ W1, (w.alloc (.deferred (some []))).alloc (.loop (rec .ready none)) = W1 := ⟨_, rfl⟩
  have hD : W1.heap[w.heap.size]? = some (.deferred (some [])) := by
    rw [← hW1]; exact (Below.heap_alloc _ _ _ (by simp)).trans (World.alloc_heap_new w _)
  have hL : W1.heap[w.heap.size + 1]? = some (.loop (rec .ready none)) := by
    have := World.alloc_heap_new (w.alloc (.deferred (some []))) (.loop (rec .ready none)); rw [World.size_alloc] at this; rw [← hW1]; exact this
  have hI1 : I s0 W1 := by
    rw [← hW1]; exact hb _ _ _ h0 (((Below.refl _ w).alloc (Nat.le_refl _) _).alloc (by simp) _)
  refine ⟨w.heap.size + 1, [{ target := .collected w.heap.size, args := #[] }], W1, { target := .fn (.func gf) lb, args := #[.func (.yield (w.heap.size + 1)) #[] #[]] }, W1, gf,
    #[.func (.yield (w.heap.size + 1)) #[] #[]] ++ lb, W1, ?_, ?_, ?_, ?_, fun _ => h1, ?_⟩
  · rw [← hW1, hrec]; exact run_enterLoop_outer _ _ _ _ _
  · simp only [resolve, hg]; simp [go_sem]
  · intro f' hf'; simp [Target.leads] at hf'; subst hf'; exact hFg
  · simp [invoke, go_sem, eg]
  · have hw1 : w.heap.size + 2 = W1.heap.size := by rw [← hW1]; simp
    have kg : ∀ {A A' : World} {k r : Nat} {o : Obj}, k < W1.heap.size → W1.heap.size ≤ r → A.grownBy A' (some r) → A.heap[k]? = some o → A'.heap[k]? = some o := fun h1 h2 hg h => (hg.block _ (Array.getElem?_eq_some_iff.1 h).1 (by simp; omega)).trans h
    have kd : ∀ {A A' : World} {k : Nat} {o : Obj}, Below A.heap.size A A' → A.heap[k]? = some o → A'.heap[k]? = some o := fun hb' h => (hb'.block _ (Array.getElem?_eq_some_iff.1 h).1).trans h
    refine (hit (w.heap.size + 1) (fun (k : σ) W => I k W ∧ W.heap[w.heap.size + 1]? = some (.loop (rec .ready none)) ∧ W.heap[w.heap.size]? = some (.deferred (some [])))
      (fun W => ∃ c, Ix c W ∧ W.heap[w.heap.size + 1]? = some (.loop (rec .done (some c))) ∧ W.heap[w.heap.size]? = some (.deferred (some []))) W1
      (fun k A A' h hb' => ⟨hb _ _ _ h.1 hb', kd hb' h.2.1, kd hb' h.2.2⟩) (fun k A A' r o h hr ho hc hg => ⟨hg' _ _ _ _ _ h.1 (by omega) ho hc hg, kg (by omega) hr hg h.2.1, kg (by omega) hr hg h.2.2⟩)
      (fun A A' r o ⟨c, h, hl, hd⟩ hr ho hc hg => ⟨c, hgx _ _ _ _ _ h (by omega) ho hc hg, kg (by omega) hr hg hl, kg (by omega) hr hg hd⟩) (fun k A h => hR _ _ h.1) ⟨_, hL⟩ ?_ ⟨hI1, hL, hD⟩).mono ?_
    · rintro k s k2 W hs ⟨hi, hl, hk⟩
      have hy := run_yield (P := P) (args := enc s) hl (by rw [hrec]; exact hps s)
      rw [hrec] at hy
      obtain ⟨V, hV⟩ : ∃ V, V = w₁ s W := ⟨_, rfl⟩
      have hbv : Below W.heap.size W V := by rw [hV]; exact hw₁ s W
      have hiW := hi; have hi := hb _ _ _ hi hbv
      have hl := kd hbv hl; have hk := kd hbv hk
      have hlt : w.heap.size + 1 < V.heap.size := (Array.getElem?_eq_some_iff.1 hl).1
      refine ⟨fn, _, assign, body, hy, roundIn_of_wpIn hfn (hassign _ s W _ ?_)⟩
      rw [← hV]
      refine ⟨_, run_beginRound hl (by rw [hrec]), ?_⟩
      have hl2 : (V.putObj (w.heap.size + 1) (.loop { rec .ready none with state := .busy })).heap[w.heap.size + 1]? = some (.loop { rec .ready none with state := .busy }) := World.putObj_heap_same hlt
      have hk2 : (V.putObj (w.heap.size + 1) (.loop { rec .ready none with state := .busy })).heap[w.heap.size]? = some (.deferred (some [])) := (World.putObj_heap_other (by omega)).trans hk
      have fin : ∀ (jump : Option Code) (W3 : World), KeepsOthers (V.putObj (w.heap.size + 1) (.loop { rec .ready none with state := .busy })) W3 →
          (Instr.endRound (w.heap.size + 1) jump).run P W3 = .ok (.bool jump.isNone) (W3.putObj (w.heap.size + 1) (.loop (rec (if jump.isNone then .ready else .done) jump))) ∧
          W3.heap[w.heap.size + 1]? = some (.loop { rec .ready none with state := .busy }) ∧
          (W3.putObj (w.heap.size + 1) (.loop (rec (if jump.isNone then .ready else .done) jump))).heap[w.heap.size + 1]? = some (.loop (rec (if jump.isNone then .ready else .done) jump)) ∧
          (W3.putObj (w.heap.size + 1) (.loop (rec (if jump.isNone then .ready else .done) jump))).heap[w.heap.size]? = some (.deferred (some [])) := fun jump W3 hk3 => by
        have hl3 := hk3.same _ _ hl2 rfl
        have he := run_endRound (P := P) jump hl3
        rw [hrec] at he ⊢
        exact ⟨he, by rw [hrec] at hl3; exact hl3, World.putObj_heap_same (Array.getElem?_eq_some_iff.1 hl3).1, (World.putObj_heap_other (by omega)).trans (hk3.same _ _ hk2 rfl)⟩
      have kb : ∀ {W3 : World} {o3 : Obj}, KeepsOthers (V.putObj (w.heap.size + 1) (.loop { rec .ready none with state := .busy })) W3 → KeepsBut (w.heap.size + 1) W (W3.putObj (w.heap.size + 1) o3) := fun hk3 k o hne ho hc =>
        (World.putObj_heap_other hne).trans (hk3.same _ _ ((World.putObj_heap_other hne).trans ((hbv.block k (Array.getElem?_eq_some_iff.1 ho).1).trans ho)) hc)
      have ks : ∀ {W3 : World} {o3 : Obj}, KeepsOthers (V.putObj (w.heap.size + 1) (.loop { rec .ready none with state := .busy })) W3 → W.heap.size ≤ (W3.putObj (w.heap.size + 1) o3).heap.size := fun hk3 => by
        have := hk3.1; have := hbv.size; simp at *; omega
      refine wpIn_mono (hbody _ k k2 s W _ hs hiW (hp _ _ _ _ _ hi (Nat.le_succ _) hl rfl) (fun b o hbo hc => by rw [← hV] at hbo; exact (World.putObj_heap_other (fun e => by rw [e, hl] at hbo; cases hbo; cases hc)).trans hbo) (by rw [← hV]; simp)) ?_
      rintro e a3 W3 hpost
      cases e with
      | normal =>
        obtain ⟨hk3, hi3⟩ := hpost
        obtain ⟨hr3, hl3, hl4, hk4⟩ := fin none W3 hk3
        exact ⟨_, _, hr3, kb hk3, ks hk3, .inl ⟨rfl, hp _ _ _ _ _ hi3 (Nat.le_succ _) hl3 rfl, hl4, hk4⟩⟩
      | ret =>
        obtain ⟨hk3, hi3⟩ := hpost
        obtain ⟨hr3, hl3, hl4, hk4⟩ := fin (some .ret) W3 hk3
        exact ⟨_, _, hr3, kb hk3, ks hk3, .inr ⟨rfl, .ret, hpx _ _ _ _ _ hi3 (Nat.le_succ _) hl3 rfl, hl4, hk4⟩⟩
      | exit id =>
        obtain ⟨hk3, hi3⟩ := hpost
        obtain ⟨hr3, hl3, hl4, hk4⟩ := fin (some (.exit id)) W3 hk3
        exact ⟨_, _, hr3, kb hk3, ks hk3, .inr ⟨rfl, .exit id, hpx _ _ _ _ _ hi3 (Nat.le_succ _) hl3 rfl, hl4, hk4⟩⟩
      | goto t =>
        obtain ⟨hk3, hi3⟩ := hpost
        obtain ⟨hr3, hl3, hl4, hk4⟩ := fin (some (.goto t)) W3 hk3
        exact ⟨_, _, hr3, kb hk3, ks hk3, .inr ⟨rfl, .goto t, hpx _ _ _ _ _ hi3 (Nat.le_succ _) hl3 rfl, hl4, hk4⟩⟩
      | panic ch => exact hpost.elim
      | outgrown => exact hpost.elim
    · rintro e W2 ⟨⟨v, rfl⟩, (⟨k, hf, hi, hl, hk⟩ | ⟨c, hi, hl, hk⟩)⟩
      · exact ⟨none, _, by have := run_endLoop (P := P) hl (by rw [hrec]; simp); rw [hrec] at this; exact this, hdone _ _ _ (Nat.le_refl _) hf (hp _ _ _ _ _ hi (Nat.le_succ _) hl rfl) ((World.putObj_heap_other (by omega)).trans hk)⟩
      · exact ⟨some c, _, by have := run_endLoop (P := P) hl (by rw [hrec]; simp); rw [hrec] at this; exact this, hstop _ c _ (Nat.le_refl _) (hpx _ _ _ _ _ hi (Nat.le_succ _) hl rfl) ((World.putObj_heap_other (by omega)).trans hk)⟩
end Go.Og
end

section
namespace Go.Proofs.YtnjnpbabgefaeaaGreat
namespace Ev
def rev (ps : List (Int × Int)) : List (Int × Int) := ps.map fun p => (p.2, p.1)
theorem mem_rev {ps : List (Int × Int)} {a b : Int} : (a, b) ∈ rev ps ↔ (b, a) ∈ ps := by
  unfold rev
  constructor
  · intro h
    obtain ⟨p, hp, he⟩ := List.mem_map.1 h
    cases he
    exact hp
  · intro h
    exact List.mem_map.2 ⟨_, h, rfl⟩
theorem bound_of (rank : Int → Nat) : ∀ l : List Int, ∃ M, ∀ y ∈ l, rank y < M
  | [] => ⟨0, fun y hy => by cases hy⟩
  | x :: r => by
    obtain ⟨M, hM⟩ := bound_of rank r
    refine ⟨max M (rank x + 1), fun y hy => ?_⟩
    rcases List.mem_cons.1 hy with rfl | hy
    · omega
    · have := hM y hy; omega
theorem Topo.rank {ps : List (Int × Int)} {l : List Int} (h : Topo ps l) : ∃ rank : Int → Nat, ∀ x ∈ l, ∀ y, (x, y) ∈ ps → rank y < rank x := by
  induction h with
  | nil => exact ⟨fun _ => 0, fun x hx => by cases hx⟩
  | @cons p l h1 h2 ih =>
    obtain ⟨rank, hr⟩ := ih
    by_cases hp : p ∈ l
    · refine ⟨rank, fun x hx y hy => ?_⟩
      rcases List.mem_cons.1 hx with rfl | hx
      · exact hr _ hp y hy
      · exact hr x hx y hy
    · obtain ⟨M, hM⟩ := bound_of rank l
      refine ⟨fun z => if z = p then M else rank z, fun x hx y hy => ?_⟩
      by_cases hxp : x = p
      · subst hxp
        have hyl := h1 y hy
        have hyp : y ≠ x := fun e => hp (e ▸ hyl)
        simp only [if_neg hyp, if_true]
        exact hM y hyl
      · have hxl : x ∈ l := (List.mem_cons.1 hx).resolve_left hxp
        have hyl := h2.closed x hxl y hy
        have hyp : y ≠ p := fun e => hp (e ▸ hyl)
        simp only [if_neg hyp, if_neg hxp]
        exact hr x hxl y hy
def goneAt (G : List Bool) (x : Int) : Bool := G.getD x.toNat false
def GoneIn (ps : List (Int × Int)) (n : Nat) (G : List Bool) : Prop := G.length = n ∧ ∃ L, Topo (rev ps) L ∧ ∀ x, 0 ≤ x → x < (n : Int) → (goneAt G x = true ↔ x ∈ L)
theorem goneAt_set {G : List Bool} {k : Nat} (hk : k < G.length) (x : Int) (hx : 0 ≤ x) : goneAt (G.set k true) x = if x = (k : Int) then true else goneAt G x := by
  unfold goneAt
  by_cases h : x = (k : Int)
  · subst h; simp [hk]
  · rw [if_neg h]
    have : k ≠ x.toNat := by omega
    simp [List.getD, List.getElem?_set_ne this]
theorem GoneIn.start {ps : List (Int × Int)} {n : Nat} : GoneIn ps n (List.replicate n false) := ⟨by simp, [], .nil, fun x h0 hn => by
  unfold goneAt
  have : x.toNat < n := by omega
  simp [List.getD, List.getElem?_replicate, this]⟩
theorem GoneIn.take {ps : List (Int × Int)} {n : Nat} {G : List Bool} (hr : InR n ps) (h : GoneIn ps n G) {k : Nat} (hk : k < n) (hp : ∀ q, (q, (k : Int)) ∈ ps → goneAt G q = true) : GoneIn ps n (G.set k true) := by
  obtain ⟨hl, L, ht, hL⟩ := h
  refine ⟨by simp [hl], (k : Int) :: L, .cons (fun q hq => ?_) ht, fun x h0 hn => ?_⟩
  · have hq' := mem_rev.1 hq
    have hin := hr.2.2 _ hq'
    exact (hL q hin.1 hin.2.1).1 (hp q hq')
  · rw [goneAt_set (by omega) x h0]
    by_cases hx : x = (k : Int)
    · simp [hx]
    · rw [if_neg hx, hL x h0 hn]; simp [hx]
end Ev
end Go.Proofs.YtnjnpbabgefaeaaGreat
end

section
namespace Go.Proofs.YtnjnpbabgefaeaaGreat
namespace Og
variable {P : Program}
open Go.RowKit
def putAll (k : Nat) (l : List Oper) (vs : Nat → Value) (a : Act) : Act :=
  match l with
  | [] => a
  | o :: r => putAll (k + 1) r vs (a.put o.dst (vs k))
theorem putAll_eq {vs : Nat → Value} {b : Act} : ∀ (l : List Oper) (k : Nat) (a : Act), a.tmps.size = b.tmps.size → a.defers = b.defers →
    (∀ (j : Nat) (o : Oper) (d : Nat), l[j]? = some o → o.dst = some d → d < b.tmps.size ∧ b.tmps.getD d undef = vs (k + j)) →
    (∀ t, (∀ (j : Nat) (o : Oper), l[j]? = some o → o.dst ≠ some t) → b.tmps.getD t undef = a.tmps.getD t undef) → putAll k l vs a = b
  | [], k, a, hs, hd, _, h2 => by
    obtain ⟨at1, ad⟩ := a
    obtain ⟨bt, bd⟩ := b
    simp only at hs hd
    subst hd
    have e : at1 = bt := by
      apply Array.ext hs
      intro i h3 h4
      have h5 := h2 i (fun j o hj => by simp at hj)
      simp only [Array.getD_eq_getD_getElem?, Array.getElem?_eq_getElem h3, Array.getElem?_eq_getElem h4, Option.getD_some] at h5
      exact h5.symm
    subst e
    rfl
  | o :: r, k, a, hs, hd, h1, h2 => by
    refine putAll_eq r (k + 1) _ (by cases ho : o.dst <;> simp [Act.put, hs]) (by cases ho : o.dst <;> simp [Act.put, hd]) (fun j o' d hj hd' => ?_) (fun t ht => ?_)
    · have := h1 (j + 1) o' d (by simpa using hj) hd'
      rwa [show k + (j + 1) = k + 1 + j by omega] at this
    · cases ho : o.dst with
      | none =>
        exact h2 t (fun j o' hj => by
          cases j with
          | zero => simp at hj; subst hj; simp [ho]
          | succ j => exact ht j o' (by simpa using hj))
      | some d =>
        by_cases hdt : d = t
        · subst hdt
          obtain ⟨h3, h4⟩ := h1 0 o d (by simp) ho
          rw [h4]
          simp [Act.put, hs, h3]
        · rw [h2 t (fun j o' hj => by
            cases j with
            | zero => simp at hj; subst hj; simp [ho, hdt]
            | succ j => exact ht j o' (by simpa using hj))]
          simp [Act.put, Array.getElem?_setIfInBounds_ne hdt]
theorem region3 {id : Nat} {l : List Oper} {Q : Exit → Act → World → Prop} {a0 : Act} {w : World} (hm : P.follows .mixedOrders = true) (own : Nat → Option Nat) (S : List Sp) (W : List Bool)
    (hok : ok2 own l.toArray a0.tmps.size = true) (h : obls P own a0 w S W 0 l)
    (hend : ∀ (vs : Nat → Value) (w1 : World), Below w.heap.size w w1 → (∀ (j : Nat) (o : Oper) (d : Nat), l[j]? = some o → o.dst = some d → (at_ S j).holds (vs j) w1) → Q .normal (putAll 0 l vs a0) w1) :
    (Code.region id l.toArray true).wp P Q a0 w := by
  unfold ok2 at hok
  rw [Bool.and_eq_true] at hok
  refine region hm (fun a b => Below a.heap.size a b) (fun w => Below.refl _ _) (fun a b c h k => h.trans (k.mono h.size)) (fun j => (at_ S j).holds) (fun j v w w' h hb => holds_stab _ h hb) (fun j => W.getD j true) hok.1
    (fun j o ho => ?_) (fun j o ho ρ w1 hr hd => ?_) (fun a w1 hr hdf hsz hall hout => ?_)
  · have := (obls_at h (j := j) (o := o) (by simpa using ho)).1
    rw [Nat.zero_add] at this
    exact this
  · have := (obls_at h (j := j) (o := o) (by simpa using ho)).2 ρ w1 ⟨hr.os, hr.tape, hr.output, hr.size, hr.block⟩ (deps2_of (fun t ht => by
      have h1 := Array.all_eq_true_iff_forall_mem.1 hok.2 o (Array.mem_of_getElem? ho)
      have h2 := Array.all_eq_true_iff_forall_mem.1 h1 (.tmp t) (by simpa using ht)
      simpa using h2) hd)
    rw [Nat.zero_add] at this
    exact this
  · have key := hend (fun j => match l[j]? with | some o => slot o a | none => undef) w1 ⟨hr.os, hr.tape, hr.output, hr.size, hr.block⟩ (fun j o d ho hd => by
      have := hall j o (by simpa using ho)
      simpa [ho] using this)
    rw [putAll_eq (b := a) l 0 a0 hsz.symm hdf.symm (fun j o d ho hd => ?_) (fun t ht => ?_)] at key
    · exact key
    · have h1 := (ok_at hok.1 (j := j) (o := o) (by simpa using ho)).1 d hd
      refine ⟨by rw [hsz]; exact h1.1, ?_⟩
      simp [ho, slot, hd]
    · refine hout t ?_
      cases hown : owner l.toArray t with
      | none => rfl
      | some i =>
        obtain ⟨o, ho, hd⟩ := owner_spec hown
        exact absurd hd (ht i o (by simpa using ho))
end Og
end Go.Proofs.YtnjnpbabgefaeaaGreat
end

section
namespace Go.Proofs.YtnjnpbabgefaeaaGreat
namespace Md
structure Exe where
  n : Nat
  ac : Nat → Prop
  st : Nat → Prop
  ld : Nat → Prop
  h : Nat → Int
  ad : Nat → Int
  pl : Nat → Int
  rf : Nat → Nat
  ppo : Nat → Nat → Prop
variable {E : Exe}
def Exe.po (E : Exe) (a b : Nat) : Prop := a < b ∧ 0 ≤ E.h a ∧ E.h a = E.h b
def Exe.co (E : Exe) (a b : Nat) : Prop := E.st a ∧ E.st b ∧ E.ad a = E.ad b ∧ E.pl a < E.pl b
def Exe.fr (E : Exe) (a b : Nat) : Prop := a ≠ b ∧ E.ld a ∧ E.co (E.rf a) b
def Exe.rfe (E : Exe) (a b : Nat) : Prop := E.ld b ∧ E.rf b = a ∧ E.h a ≠ E.h b
def Exe.loc (E : Exe) (a b : Nat) : Prop := E.po a b ∧ E.ac a ∧ E.ac b ∧ E.ad a = E.ad b
def Exe.G (E : Exe) (a b : Nat) : Prop := E.ppo a b ∨ E.rfe a b ∨ E.co a b ∨ E.fr a b
def Exe.C (E : Exe) (a b : Nat) : Prop := E.loc a b ∨ (E.ld b ∧ E.rf b = a) ∨ E.co a b ∨ E.fr a b
structure Exe.Ok (E : Exe) : Prop where
  stac : ∀ {a}, E.st a → E.ac a
  ldac : ∀ {a}, E.ld a → E.ac a
  some_ : ∀ {a}, E.ac a → E.st a ∨ E.ld a
  lt : ∀ {a}, E.ac a → a < E.n
  inj : ∀ {a b}, E.st a → E.st b → E.ad a = E.ad b → E.pl a = E.pl b → a = b
  rfst : ∀ {a}, E.ld a → E.st (E.rf a) ∧ E.ad (E.rf a) = E.ad a ∧ E.rf a ≠ a
  beg0 : ∀ {b m}, E.st b → E.h b < 0 → E.st m → E.ad m = E.ad b → m ≠ b → E.pl b < E.pl m
  ldh : ∀ {a}, E.ld a → 0 ≤ E.h a
  mid : ∀ {a b m}, a < m → m < b → b < E.n → E.h a = E.h b → E.h m = E.h a
  ppo_po : ∀ {a b}, E.ppo a b → E.po a b ∧ E.ac a ∧ E.ac b
  r1 : ∀ {a b}, E.po a b → E.ac a → E.st b → E.ad a = E.ad b → E.ppo a b
  r2 : ∀ {a b}, E.po a b → E.ld a → E.ld b → E.ad a = E.ad b → E.rf a ≠ E.rf b → (∀ m, a < m → m < b → ¬ (E.st m ∧ E.ad m = E.ad a)) → E.ppo a b
def Exe.cand (E : Exe) (pos : Nat → Nat) (n m : Nat) : Prop := m ≠ n ∧ E.st m ∧ E.ad m = E.ad n ∧ (pos m < pos n ∨ E.po m n)
structure Exe.Right (E : Exe) (pos : Nat → Nat) : Prop where
  inj : ∀ {a b}, E.ac a → E.ac b → pos a = pos b → a = b
  up : ∀ {a b}, E.ac a → E.ac b → pos a < pos b → ¬ E.ppo b a ∧ ¬ E.co b a
  sees : ∀ {n}, E.ld n → E.cand pos n (E.rf n) ∧ ∀ m, E.cand pos n m → pos m ≤ pos (E.rf n)
theorem Exe.Ok.tot (H : E.Ok) {a b : Nat} (ha : E.st a) (hb : E.st b) (he : E.ad a = E.ad b) (hne : a ≠ b) : E.co a b ∨ E.co b a := by
  have hp : E.pl a ≠ E.pl b := fun e => hne (H.inj ha hb he e)
  rcases Int.lt_or_gt_of_ne hp with h | h
  · exact .inl ⟨ha, hb, he, h⟩
  · exact .inr ⟨hb, ha, he.symm, h⟩
section
variable {pos : Nat → Nat}
theorem Right.ppo (H : E.Ok) (R : E.Right pos) {a b : Nat} (h : E.ppo a b) : pos a < pos b := by
  obtain ⟨hp, ha, hb⟩ := H.ppo_po h
  rcases Nat.lt_trichotomy (pos a) (pos b) with h1 | h1 | h1
  · exact h1
  · have := R.inj ha hb h1; have := hp.1; omega
  · exact absurd h (R.up hb ha h1).1
theorem Right.co (H : E.Ok) (R : E.Right pos) {a b : Nat} (h : E.co a b) : pos a < pos b := by
  rcases Nat.lt_trichotomy (pos a) (pos b) with h1 | h1 | h1
  · exact h1
  · have e := R.inj (H.stac h.1) (H.stac h.2.1) h1
    have := h.2.2.2; rw [e] at this; omega
  · exact absurd h (R.up (H.stac h.2.1) (H.stac h.1) h1).2
theorem Right.fr (H : E.Ok) (R : E.Right pos) {n m : Nat} (h : E.fr n m) : pos n < pos m := by
  obtain ⟨hne, hl, hc⟩ := h
  rcases Nat.lt_trichotomy (pos n) (pos m) with h1 | h1 | h1
  · exact h1
  · exact absurd (R.inj (H.ldac hl) (H.stac hc.2.1) h1) hne
  · have := (R.sees hl).2 m ⟨Ne.symm hne, hc.2.1, hc.2.2.1.symm.trans (H.rfst hl).2.1, .inl h1⟩
    have := Right.co H R hc; omega
theorem Right.G (H : E.Ok) (R : E.Right pos) {a b : Nat} (h : E.G a b) : pos a < pos b := by
  rcases h with h | h | h | h
  · exact Right.ppo H R h
  · obtain ⟨hl, rfl, hh⟩ := h
    rcases (R.sees hl).1.2.2.2 with h | h
    · exact h
    · exact absurd h.2.2 hh
  · exact Right.co H R h
  · exact Right.fr H R h
open Classical in
noncomputable def wt (E : Exe) (a : Nat) : Int := if E.st a then 2 * E.pl a else 2 * E.pl (E.rf a) + 1
theorem wt_st {a : Nat} (h : E.st a) : wt E a = 2 * E.pl a := if_pos h
theorem wt_ld {a : Nat} (h : ¬ E.st a) : wt E a = 2 * E.pl (E.rf a) + 1 := if_neg h
theorem po_trans {a b c : Nat} (h : E.po a b) (k : E.po b c) : E.po a c := ⟨Nat.lt_trans h.1 k.1, h.2.1, h.2.2.trans k.2.2⟩
theorem Right.before (H : E.Ok) (R : E.Right pos) {a b : Nat} (hl : E.ld a) (hb : E.st b) (hp : E.po a b) (he : E.ad a = E.ad b) : E.co (E.rf a) b := by
  obtain ⟨hs, hae, hne⟩ := H.rfst hl
  have hab := Right.ppo H R (H.r1 hp (H.ldac hl) hb he)
  have hc := (R.sees hl).1.2.2.2
  have hn : E.rf a ≠ b := fun e => by
    rw [e] at hc
    rcases hc with h | h
    · omega
    · have := h.1; have := hp.1; omega
  rcases H.tot hs hb (hae.trans he) hn with h | h
  · exact h
  · have h1 := Right.co H R h
    rcases hc with h2 | h2
    · omega
    · have := Right.ppo H R (H.r1 (po_trans h2 hp) (H.stac hs) hb (hae.trans he)); omega
theorem Right.behind (H : E.Ok) (R : E.Right pos) {a b : Nat} (ha : E.st a) (hl : E.ld b) (hp : E.po a b) (he : E.ad a = E.ad b) : a = E.rf b ∨ E.co a (E.rf b) := by
  obtain ⟨hs, hae, hne⟩ := H.rfst hl
  by_cases h : a = E.rf b
  · exact .inl h
  · refine .inr ?_
    have h1 := (R.sees hl).2 a ⟨by have := hp.1; omega, ha, he, .inr hp⟩
    rcases H.tot ha hs (he.trans hae.symm) h with h2 | h2
    · exact h2
    · have := Right.co H R h2; omega
theorem Right.C (H : E.Ok) (R : E.Right pos) {a b : Nat} (h : E.C a b) : wt E a < wt E b ∨ (wt E a = wt E b ∧ a < b) := by
  rcases h with ⟨hp, ha, hb, he⟩ | ⟨hl, rfl⟩ | h | h
  · by_cases sa : E.st a
    · by_cases sb : E.st b
      · rw [wt_st sa, wt_st sb]
        have h1 := Right.ppo H R (H.r1 hp ha sb he)
        rcases H.tot sa sb he (by have := hp.1; omega) with h | h
        · have := h.2.2.2; left; omega
        · have := Right.co H R h; omega
      · have hl : E.ld b := (H.some_ hb).resolve_left sb
        rw [wt_st sa, wt_ld sb]
        rcases Right.behind H R sa hl hp he with h | h
        · rw [← h]; left; omega
        · have := h.2.2.2; left; omega
    · have la : E.ld a := (H.some_ ha).resolve_left sa
      by_cases sb : E.st b
      · rw [wt_ld sa, wt_st sb]
        have := (Right.before H R la sb hp he).2.2.2; left; omega
      · have lb : E.ld b := (H.some_ hb).resolve_left sb
        rw [wt_ld sa, wt_ld sb]
        by_cases hf : E.rf a = E.rf b
        · right; rw [hf]; exact ⟨rfl, hp.1⟩
        · left
          suffices hs : E.pl (E.rf a) < E.pl (E.rf b) by omega
          by_cases hm : ∃ m, a < m ∧ m < b ∧ E.st m ∧ E.ad m = E.ad a
          · obtain ⟨m, h1, h2, h3, h4⟩ := hm
            have hh := H.mid h1 h2 (H.lt hb) hp.2.2
            have p1 : E.po a m := ⟨h1, hp.2.1, hh.symm⟩
            have p2 : E.po m b := ⟨h2, by rw [hh]; exact hp.2.1, hh.trans hp.2.2⟩
            have e1 := (Right.before H R la h3 p1 h4.symm).2.2.2
            rcases Right.behind H R h3 lb p2 (h4.trans he) with h | h
            · rw [← h]; exact e1
            · have := h.2.2.2; omega
          · have h1 := Right.ppo H R (H.r2 hp la lb he hf fun m k1 k2 k3 => hm ⟨m, k1, k2, k3⟩)
            obtain ⟨hs, hae, _⟩ := H.rfst la
            obtain ⟨hsb, hbe, _⟩ := H.rfst lb
            have hc : E.cand pos b (E.rf a) := by
              refine ⟨fun e => sb (e ▸ hs), hs, hae.trans he, ?_⟩
              rcases (R.sees la).1.2.2.2 with h | h
              · left; omega
              · exact .inr (po_trans h hp)
            have h2 := (R.sees lb).2 _ hc
            rcases H.tot hs hsb ((hae.trans he).trans hbe.symm) hf with h | h
            · exact h.2.2.2
            · have := Right.co H R h; omega
  · obtain ⟨hs, hae, hne⟩ := H.rfst hl
    left
    by_cases sb : E.st b
    · rw [wt_st hs, wt_st sb]
      rcases H.tot hs sb hae hne with h | h
      · have := h.2.2.2; omega
      · have h1 := Right.co H R h
        rcases (R.sees hl).1.2.2.2 with h2 | h2
        · omega
        · have := Right.ppo H R (H.r1 h2 (H.stac hs) sb hae); omega
    · rw [wt_st hs, wt_ld sb]; omega
  · left; rw [wt_st h.1, wt_st h.2.1]; have := h.2.2.2; omega
  · obtain ⟨hne, hl, hc⟩ := h
    left
    by_cases sa : E.st a
    · rw [wt_st sa, wt_st hc.2.1]
      have h1 := Right.fr H R ⟨hne, hl, hc⟩
      rcases H.tot sa hc.2.1 ((H.rfst hl).2.1.symm.trans hc.2.2.1) hne with h | h
      · have := h.2.2.2; omega
      · have := Right.co H R h; omega
    · rw [wt_ld sa, wt_st hc.2.1]; have := hc.2.2.2; omega
end
end Md
end Go.Proofs.YtnjnpbabgefaeaaGreat
end
