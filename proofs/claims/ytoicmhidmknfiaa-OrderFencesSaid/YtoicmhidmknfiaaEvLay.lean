/-
  An execution that is laid in memory by appends: its box, its rows, each one's own; what one append more makes of it.
-/
import Derived.Test.YtoicmhidmknfiaaEvBuild
import Derived.Test.YtoicmhidmknfiaaEvCM
import Derived.Maps.AppendAt
import Derived.RangeFuncBox
namespace Go.Proofs.Ytoicmhidmknfiaa
open Go.RowKit
set_option linter.unusedVariables false
set_option linter.unusedSimpArgs false
namespace Ev
def nv (n : Int) : Value := .int .i64 n
/-- a world that differs by a row, by one block, by what is new -/
structure Mv (W W' : World) (r : Option Nat) (B : Nat) : Prop where
  os : W'.os = W.os
  tape : W'.tape = W.tape
  output : W'.output = W.output
  size : W.heap.size ≤ W'.heap.size
  block : ∀ k, k < W.heap.size → some k ≠ r → k ≠ B → W'.heap[k]? = W.heap[k]?
theorem row_set {W : World} {B i : Nat} {cs : Array Value} {t : TypeId} (v : Value) (h : W.heap[B]? = some (.cells cs t (0, 0))) : (W.setCell ⟨B, i, none⟩ v).heap[B]? = some (.cells (cs.setIfInBounds i v) t (0, 0)) := by
  obtain ⟨hlt, hk⟩ := Array.getElem?_eq_some_iff.1 h
  show (W.heap.modify B _)[B]? = _
  rw [Array.getElem?_eq_getElem (by rw [Array.size_modify]; exact hlt), Array.getElem_modify_self, hk]
  rfl
theorem grown_set (W : World) (b i : Nat) (v : Value) : W.grownBy (W.setCell ⟨b, i, none⟩ v) (some b) :=
  ⟨rfl, rfl, rfl, (KeepsWalks.setCell W _ v).size, fun k _ hk => Below.heap_setCell _ _ _ k (fun e => hk (by rw [e]))⟩
theorem alloc_old {W : World} {k : Nat} (o : Obj) (h : k < W.heap.size) : (W.alloc o).heap[k]? = W.heap[k]? := ((Below.refl W.heap.size W).alloc (Nat.le_refl _) o).block k h
theorem mv_of {W w1 : World} {tmp : Obj} {r : Option Nat} {B i : Nat} {u : Value} (hg : (W.alloc tmp).grownBy w1 r) : Mv W (w1.setCell ⟨B, i, none⟩ u) r B := by
  have h2 := grown_set w1 B i u
  have hs : W.heap.size ≤ (W.alloc tmp).heap.size := by simp
  refine ⟨h2.os.trans hg.os, h2.tape.trans hg.tape, h2.output.trans hg.output, Nat.le_trans hs (Nat.le_trans hg.size h2.size), fun k hk h3 h4 => ?_⟩
  rw [h2.block k (by have := hg.size; omega) (fun e => h4 (Option.some.inj e)), hg.block k (by omega) h3, alloc_old _ hk]
theorem Mv.row {W W' : World} {r : Option Nat} {B : Nat} (h : Mv W W' r B) {base : Nat} {e : TypeId} {sz : Nat} {v : Value} {n : Nat} {xs : List Value} (hr : W.ownsRow base e sz v n xs) (h1 : v.ownBlock = none ∨ v.ownBlock ≠ r) (h2 : v.ownBlock ≠ some B) : W'.ownsRow base e sz v n xs := by
  refine ⟨hr.1, ?_⟩
  rcases hr.2 with hn | ⟨g, cap, cur, rfl, hb, hg, rest⟩
  · exact .inl hn
  · have e1 : some g ≠ r := by rcases h1 with h1 | h1; cases h1; exact h1
    have e2 : g ≠ B := fun e => h2 (by rw [← e]; rfl)
    exact .inr ⟨g, cap, cur, rfl, hb, (h.block g (Array.getElem?_eq_some_iff.1 hg).1 e1 e2).trans hg, rest⟩
theorem Mv.below {W W' : World} {r : Option Nat} {B : Nat} (h : Mv W W' r B) {w : World} (hb : Below w.heap.size w W) (hB : w.heap.size ≤ B) (hr : ∀ k, r = some k → w.heap.size ≤ k) : Below w.heap.size w W' :=
  ⟨h.os.trans hb.os, h.tape.trans hb.tape, h.output.trans hb.output, Nat.le_trans hb.size h.size, fun k hk => by
    rw [h.block k (by have := hb.size; omega) (fun e => by have := hr k e.symm; omega) (by omega)]
    exact hb.block k hk⟩
theorem row_ne_box {W : World} {base : Nat} {e t : TypeId} {sz : Nat} {v : Value} {n : Nat} {xs : List Value} {B : Nat} {cs : Array Value} {f : Nat × Nat} (hr : W.ownsRow base e sz v n xs) (hB : W.heap[B]? = some (.cells cs t f)) (hte : t ≠ e) : v.ownBlock ≠ some B := by
  rcases hr.2 with ⟨rfl, _⟩ | ⟨g, cap, cur, rfl, _, hg, _⟩
  · simp [Value.ownBlock]
  · intro e'
    obtain rfl : g = B := by simpa [Value.ownBlock] using e'
    rw [hg] at hB; cases hB; exact hte rfl
theorem row_ne_row {W : World} {base : Nat} {e t : TypeId} {sz sz' : Nat} {v v' : Value} {n n' : Nat} {xs xs' : List Value} (hr : W.ownsRow base e sz v n xs) (hq : W.ownsRow base t sz' v' n' xs') (hte : t ≠ e) : v.ownBlock = none ∨ v.ownBlock ≠ v'.ownBlock := by
  rcases hq.2 with ⟨rfl, _⟩ | ⟨g, cap, cur, rfl, _, hg, _⟩
  · rcases hr.2 with ⟨rfl, _⟩ | ⟨g, cap, cur, rfl, _, hg, _⟩
    · exact .inl rfl
    · exact .inr (by simp [Value.ownBlock])
  · exact .inr (row_ne_box hr hg hte)
theorem row_form {W : World} {base : Nat} {e : TypeId} {sz : Nat} {v : Value} {n : Nat} {xs : List Value} (hr : W.ownsRow base e sz v n xs) : ∃ a c, v = .slice a n c := by
  rcases hr.2 with ⟨rfl, rfl⟩ | ⟨g, cap, cur, rfl, _⟩
  · exact ⟨_, _, rfl⟩
  · exact ⟨_, _, rfl⟩
theorem row_lo {W : World} {base : Nat} {e : TypeId} {sz : Nat} {v : Value} {n : Nat} {xs : List Value} (hr : W.ownsRow base e sz v n xs) : ∀ k, v.ownBlock = some k → base ≤ k := fun k h => (hr.lt k h).1
/-- two rows that lie in no block of both -/
def Apt (u v : Value) : Prop := u.ownBlock = none ∨ u.ownBlock ≠ v.ownBlock
theorem Apt.symm {u v : Value} (h : Apt u v) : Apt v u := by
  rcases h with h | h
  · by_cases e : v.ownBlock = none
    · exact .inl e
    · exact .inr (by rw [h]; exact e)
  · exact .inr (Ne.symm h)
/-- an execution that is being laid, whose box is block B; all of it is new since w -/
structure Lay (w W : World) (B : Nat) (x : X) : Prop where
  bel : Below w.heap.size w W
  lo : w.heap.size ≤ B
  box : W.heap[B]? = some (.cells (xcells x).toArray 26 (0, 0))
  ev : W.ownsRow w.heap.size 54 13 (evsV x) x.ev.length (x.ev.map cells).flatten
  fr : W.ownsRow w.heap.size 3 1 x.fr.v x.fr.l.length (x.fr.l.map nv)
  od : W.ownsRow w.heap.size 23 1 (odV x) x.od.length (x.od.map Sl.v)
  row : ∀ (b : Nat) s, x.od[b]? = some s → W.ownsRow w.heap.size 3 1 s.v s.l.length (s.l.map nv)
  dis : ∀ (b : Nat) s, x.od[b]? = some s → Apt s.v x.fr.v
  dis2 : ∀ (b c : Nat) s t, x.od[b]? = some s → x.od[c]? = some t → b ≠ c → Apt s.v t.v
  num : ∀ y ∈ x.ev, ∀ V, ROk V y
  fri : ∀ n ∈ x.fr.l, i64B n
  odi : ∀ s ∈ x.od, ∀ n ∈ s.l, i64B n
variable {w W : World} {B : Nat} {x : X}
theorem Lay.bne (h : Lay w W B x) : (evsV x).ownBlock ≠ some B ∧ x.fr.v.ownBlock ≠ some B ∧ (odV x).ownBlock ≠ some B ∧ ∀ (b : Nat) s, x.od[b]? = some s → s.v.ownBlock ≠ some B :=
  ⟨row_ne_box h.ev h.box (by decide), row_ne_box h.fr h.box (by decide), row_ne_box h.od h.box (by decide), fun b s hs => row_ne_box (h.row b s hs) h.box (by decide)⟩
theorem row_kp {W W' : World} {base : Nat} {e : TypeId} {sz : Nat} {v : Value} {n : Nat} {xs : List Value} (h : W.ownsRow base e sz v n xs) (hb : Below W.heap.size W W') : W'.ownsRow base e sz v n xs := by
  refine ⟨h.1, ?_⟩
  rcases h.2 with hn | ⟨g, cap, cur, rfl, hlo, hg, rest⟩
  · exact .inl hn
  · exact .inr ⟨g, cap, cur, rfl, hlo, (hb.block g (Array.getElem?_eq_some_iff.1 hg).1).trans hg, rest⟩
theorem Lay.kp (h : Lay w W B x) {W' : World} (hb : Below W.heap.size W W') : Lay w W' B x :=
  ⟨h.bel.trans (hb.mono h.bel.size), h.lo, (hb.block B (Array.getElem?_eq_some_iff.1 h.box).1).trans h.box, row_kp h.ev hb, row_kp h.fr hb, row_kp h.od hb, fun b s hs => row_kp (h.row b s hs) hb, h.dis, h.dis2, h.num, h.fri, h.odi⟩
theorem box_free {W : World} {B i : Nat} {cs : Array Value} {t : TypeId} (h : W.heap[B]? = some (.cells cs t (0, 0))) : W.frozen? ⟨B, i, none⟩ = false := by simp [World.frozen?, h]
/-- a block of its own type stands behind a push -/
theorem Mv.blk {W W' : World} {r : Option Nat} {B : Nat} (h : Mv W W' r B) {k : Nat} {o : Obj} (hk : W.heap[k]? = some o) (h1 : r ≠ some k) (h2 : k ≠ B) : W'.heap[k]? = some o := (h.block k (Array.getElem?_eq_some_iff.1 hk).1 (Ne.symm h1) h2).trans hk
/-- one event more -/
theorem Lay.pushEv (h : Lay w W B x) {y : R} (hy : ∀ V, ROk V y) {tmp : Obj} {v' : Value} {w1 : World} (hown : w1.ownsRow w.heap.size 54 13 v' (x.ev.length + 1) ((x.ev.map cells).flatten ++ cells y))
    (hgrow : (W.alloc tmp).grownBy w1 (evsV x).ownBlock) : ∃ a c, v' = .slice a (x.ev.length + 1) c ∧ w1.heap[B]? = some (.cells (xcells x).toArray 26 (0, 0)) ∧ Lay w (w1.setCell ⟨B, 0, none⟩ v') B ⟨a, c, x.ev ++ [y], x.fr, x.ao, x.co, x.od⟩ := by
  obtain ⟨a, c, rfl⟩ := row_form hown
  have hBl : B < W.heap.size := (Array.getElem?_eq_some_iff.1 h.box).1
  have hb1 : w1.heap[B]? = some (.cells (xcells x).toArray 26 (0, 0)) := by
    rw [hgrow.block B (by simp; omega) (fun e => h.bne.1 e.symm), alloc_old _ hBl]; exact h.box
  have hm : Mv W (w1.setCell ⟨B, 0, none⟩ (.slice a (x.ev.length + 1) c)) (evsV x).ownBlock B := mv_of hgrow
  have hl : (x.ev ++ [y]).length = x.ev.length + 1 := by simp
  refine ⟨a, c, rfl, hb1, hm.below h.bel h.lo (row_lo h.ev), h.lo, ?_, ?_, hm.row h.fr (row_ne_row h.fr h.ev (by decide)) h.bne.2.1, hm.row h.od (row_ne_row h.od h.ev (by decide)) h.bne.2.2.1, fun b s hs => hm.row (h.row b s hs) (row_ne_row (h.row b s hs) h.ev (by decide)) (h.bne.2.2.2 b s hs), h.dis, h.dis2, fun z hz => ?_, h.fri, h.odi⟩
  · rw [row_set _ hb1]; unfold xcells; simp only [hl]; rfl
  · show World.ownsRow _ _ _ _ (.slice a (x.ev ++ [y]).length c) (x.ev ++ [y]).length ((x.ev ++ [y]).map cells).flatten
    rw [hl, List.map_append, List.flatten_append]
    have e : ([y].map cells).flatten = cells y := by simp
    rw [e]
    exact hown.kept (grown_set w1 B 0 _) (.inr (row_ne_box hown hb1 (by decide)))
  · rcases List.mem_append.1 hz with hz | hz
    · exact h.num z hz
    · obtain rfl : z = y := by simpa using hz
      exact hy
/-- one number more of From -/
theorem Lay.pushFr (h : Lay w W B x) {f : Int} (hf : i64B f) {tmp : Obj} {v' : Value} {w1 : World} (hown : w1.ownsRow w.heap.size 3 1 v' (x.fr.l.length + 1) (x.fr.l.map nv ++ [nv f]))
    (hgrow : (W.alloc tmp).grownBy w1 x.fr.v.ownBlock) (hat : v'.ownBlock = x.fr.v.ownBlock ∨ v'.ownBlock = some (W.alloc tmp).heap.size) :
    ∃ a c, v' = .slice a (x.fr.l.length + 1) c ∧ w1.heap[B]? = some (.cells (xcells x).toArray 26 (0, 0)) ∧ Lay w (w1.setCell ⟨B, 1, none⟩ v') B ⟨x.ae, x.ce, x.ev, ⟨a, c, x.fr.l ++ [f]⟩, x.ao, x.co, x.od⟩ := by
  obtain ⟨a, c, rfl⟩ := row_form hown
  have hBl : B < W.heap.size := (Array.getElem?_eq_some_iff.1 h.box).1
  have hb1 : w1.heap[B]? = some (.cells (xcells x).toArray 26 (0, 0)) := by
    rw [hgrow.block B (by simp; omega) (fun e => h.bne.2.1 e.symm), alloc_old _ hBl]; exact h.box
  have hm : Mv W (w1.setCell ⟨B, 1, none⟩ (.slice a (x.fr.l.length + 1) c)) x.fr.v.ownBlock B := mv_of hgrow
  have hl : (x.fr.l ++ [f]).length = x.fr.l.length + 1 := by simp
  refine ⟨a, c, rfl, hb1, hm.below h.bel h.lo (row_lo h.fr), h.lo, ?_, hm.row h.ev (row_ne_row h.ev h.fr (by decide)) h.bne.1, ?_, hm.row h.od (row_ne_row h.od h.fr (by decide)) h.bne.2.2.1, fun b s hs => hm.row (h.row b s hs) (h.dis b s hs) (h.bne.2.2.2 b s hs), fun b s hs => ?_, h.dis2, h.num, fun n hn => ?_, h.odi⟩
  · rw [row_set _ hb1]; unfold xcells; simp only [hl]; rfl
  · show World.ownsRow _ _ _ _ (.slice a (x.fr.l ++ [f]).length c) (x.fr.l ++ [f]).length ((x.fr.l ++ [f]).map nv)
    rw [hl, List.map_append]
    exact hown.kept (grown_set w1 B 1 _) (.inr (row_ne_box hown hb1 (by decide)))
  · show Apt s.v (Value.slice a (x.fr.l ++ [f]).length c)
    rw [hl]; unfold Apt
    rcases hat with e | e
    · rw [e]; exact h.dis b s hs
    · rw [e]; refine .inr fun e2 => ?_
      have := ((h.row b s hs).lt _ e2).2
      simp at this; omega
  · rcases List.mem_append.1 hn with hn | hn
    · exact h.fri n hn
    · obtain rfl : n = f := by simpa using hn
      exact hf
/-- a new row of Order -/
theorem Lay.pushRow (h : Lay w W B x) {s : Sl} (hs : W.ownsRow w.heap.size 3 1 s.v s.l.length (s.l.map nv)) (hsf : Apt s.v x.fr.v) (hso : ∀ (b : Nat) t, x.od[b]? = some t → Apt s.v t.v) (hsi : ∀ n ∈ s.l, i64B n)
    {tmp : Obj} {v' : Value} {w1 : World} (hown : w1.ownsRow w.heap.size 23 1 v' (x.od.length + 1) (x.od.map Sl.v ++ [s.v])) (hgrow : (W.alloc tmp).grownBy w1 (odV x).ownBlock) :
    ∃ a c, v' = .slice a (x.od.length + 1) c ∧ w1.heap[B]? = some (.cells (xcells x).toArray 26 (0, 0)) ∧ Lay w (w1.setCell ⟨B, 2, none⟩ v') B ⟨x.ae, x.ce, x.ev, x.fr, a, c, x.od ++ [s]⟩ := by
  obtain ⟨a, c, rfl⟩ := row_form hown
  have hBl : B < W.heap.size := (Array.getElem?_eq_some_iff.1 h.box).1
  have hb1 : w1.heap[B]? = some (.cells (xcells x).toArray 26 (0, 0)) := by
    rw [hgrow.block B (by simp; omega) (fun e => h.bne.2.2.1 e.symm), alloc_old _ hBl]; exact h.box
  have hm : Mv W (w1.setCell ⟨B, 2, none⟩ (.slice a (x.od.length + 1) c)) (odV x).ownBlock B := mv_of hgrow
  have hl : (x.od ++ [s]).length = x.od.length + 1 := by simp
  have hrow : ∀ (b : Nat) t, (x.od ++ [s])[b]? = some t → (x.od[b]? = some t) ∨ (b = x.od.length ∧ t = s) := fun b t ht => by
    by_cases hb : b < x.od.length
    · rw [List.getElem?_append_left hb] at ht; exact .inl ht
    · have hb' : b = x.od.length := by have := (List.getElem?_eq_some_iff.1 ht).1; simp at this; omega
      subst hb'
      rw [List.getElem?_append_right (Nat.le_refl _)] at ht
      exact .inr ⟨rfl, by simpa using ht.symm⟩
  have hsm := hm.row hs (row_ne_row hs h.od (by decide)) (row_ne_box hs h.box (by decide))
  refine ⟨a, c, rfl, hb1, hm.below h.bel h.lo (row_lo h.od), h.lo, ?_, hm.row h.ev (row_ne_row h.ev h.od (by decide)) h.bne.1, hm.row h.fr (row_ne_row h.fr h.od (by decide)) h.bne.2.1, ?_, fun b t ht => ?_, fun b t ht => ?_, fun b d t u ht hu hbd => ?_, h.num, h.fri, fun t ht n hn => ?_⟩
  · rw [row_set _ hb1]; unfold xcells; simp only [hl]; rfl
  · show World.ownsRow _ _ _ _ (.slice a (x.od ++ [s]).length c) (x.od ++ [s]).length ((x.od ++ [s]).map Sl.v)
    rw [hl, List.map_append]
    exact hown.kept (grown_set w1 B 2 _) (.inr (row_ne_box hown hb1 (by decide)))
  · rcases hrow b t ht with ht | ⟨_, rfl⟩
    · exact hm.row (h.row b t ht) (row_ne_row (h.row b t ht) h.od (by decide)) (h.bne.2.2.2 b t ht)
    · exact hsm
  · rcases hrow b t ht with ht | ⟨_, rfl⟩
    · exact h.dis b t ht
    · exact hsf
  · rcases hrow b t ht with h1 | ⟨h1, e1⟩ <;> rcases hrow d u hu with h2 | ⟨h2, e2⟩
    · exact h.dis2 b d t u h1 h2 hbd
    · rw [e2]; exact (hso b t h1).symm
    · rw [e1]; exact hso d u h2
    · omega
  · rcases List.mem_append.1 ht with ht | ht
    · exact h.odi t ht n hn
    · obtain rfl : t = s := by simpa using ht
      exact hsi n hn
/-- one number more of a row of Order -/
theorem Lay.pushOd (h : Lay w W B x) {b : Nat} {s : Sl} (hs : x.od[b]? = some s) {f : Int} (hf : i64B f) {tmp : Obj} {v' : Value} {w1 : World} (hown : w1.ownsRow w.heap.size 3 1 v' (s.l.length + 1) (s.l.map nv ++ [nv f]))
    (hgrow : (W.alloc tmp).grownBy w1 s.v.ownBlock) (hat : v'.ownBlock = s.v.ownBlock ∨ v'.ownBlock = some (W.alloc tmp).heap.size) {g : Nat} (hg : x.ao = some ⟨g, 0, none⟩) :
    ∃ a c, v' = .slice a (s.l.length + 1) c ∧ w1.cell? ⟨g, b, none⟩ = some s.v ∧ w1.frozen? ⟨g, b, none⟩ = false ∧ Lay w (w1.setCell ⟨g, b, none⟩ v') B ⟨x.ae, x.ce, x.ev, x.fr, x.ao, x.co, x.od.set b ⟨a, c, s.l ++ [f]⟩⟩ := by
  obtain ⟨a, c, rfl⟩ := row_form hown
  have hBl : B < W.heap.size := (Array.getElem?_eq_some_iff.1 h.box).1
  have hbl : b < x.od.length := (List.getElem?_eq_some_iff.1 hs).1
  have hod := h.od
  obtain ⟨h01, h02⟩ := hod
  rcases h02 with ⟨h03, h04⟩ | ⟨g', cap, cur, e1, hlo, hgr, hnc, hcm, hcs, htk⟩
  · omega
  obtain ⟨rfl, rfl⟩ : g = g' ∧ x.co = cap := by
    unfold odV at e1; rw [hg] at e1; simp at e1; exact ⟨e1.1, e1.2⟩
  have hgl : g < W.heap.size := (Array.getElem?_eq_some_iff.1 hgr).1
  have hrow := h.row b s hs
  have hne : s.v.ownBlock ≠ some g := row_ne_box hrow hgr (by decide)
  have hg1 : w1.heap[g]? = some (.cells cur 23 (0, 0)) := by
    rw [hgrow.block g (by simp; omega) (fun e => hne e.symm), alloc_old _ hgl]; exact hgr
  have hgB : g ≠ B := by rintro rfl; have := h.box; rw [hgr] at this; simp at this
  have hm : Mv W (w1.setCell ⟨g, b, none⟩ (.slice a (s.l.length + 1) c)) s.v.ownBlock g := mv_of hgrow
  have hl : (s.l ++ [f]).length = s.l.length + 1 := by simp
  have hcur : cur[b]? = some s.v := by
    have : (cur.toList.take (x.od.length * 1))[b]? = some s.v := by rw [htk, List.getElem?_map, hs]; rfl
    rw [List.getElem?_take] at this
    split at this
    · rw [Array.getElem?_toList] at this; exact this
    · cases this
  refine ⟨a, c, rfl, by rw [cell_of_row _ _ _ _ _ _ hg1]; exact hcur, by simp [World.frozen?, hg1], hm.below h.bel hlo (row_lo hrow), h.lo, ?_, hm.row h.ev (row_ne_row h.ev hrow (by decide)) (row_ne_box h.ev hgr (by decide)), hm.row h.fr (h.dis b s hs).symm (row_ne_box h.fr hgr (by decide)), ?_, ?_, ?_, ?_, h.num, h.fri, ?_⟩
  · rw [hm.block B hBl (fun e => (h.bne.2.2.2 b s hs) e.symm) (Ne.symm hgB), h.box]
    unfold xcells; simp
  · refine ⟨by simp, .inr ⟨g, x.co, cur.setIfInBounds b (.slice a (s.l.length + 1) c), ?_, hlo, row_set _ hg1, by simpa using hnc, hcm, by simpa using hcs, ?_⟩⟩
    · unfold odV; simp [hg]
    · simp only [List.length_set, Array.toList_setIfInBounds]
      rw [List.map_set, ← htk, List.take_set]
      simp [Sl.v]
  · intro d t ht
    by_cases hd : d = b
    · subst hd
      rw [List.getElem?_set_self hbl] at ht
      obtain rfl : (⟨a, c, s.l ++ [f]⟩ : Sl) = t := by simpa using ht
      show World.ownsRow _ _ _ _ (.slice a (s.l ++ [f]).length c) (s.l ++ [f]).length ((s.l ++ [f]).map nv)
      rw [hl, List.map_append]
      exact hown.kept (grown_set w1 g d _) (.inr (row_ne_box hown hg1 (by decide)))
    · rw [List.getElem?_set_ne (Ne.symm hd)] at ht
      exact hm.row (h.row d t ht) (h.dis2 d b t s ht hs hd) (row_ne_box (h.row d t ht) hgr (by decide))
  · intro d t ht
    by_cases hd : d = b
    · subst hd
      rw [List.getElem?_set_self hbl] at ht
      obtain rfl : (⟨a, c, s.l ++ [f]⟩ : Sl) = t := by simpa using ht
      show Apt (Value.slice a (s.l ++ [f]).length c) _
      rw [hl]; unfold Apt
      rcases hat with e | e
      · rw [e]; exact h.dis d s hs
      · rw [e]; refine .inr fun e2 => ?_
        have := (h.fr.lt _ e2.symm).2
        simp at this; omega
    · rw [List.getElem?_set_ne (Ne.symm hd)] at ht
      exact h.dis d t ht
  · have key : ∀ (d : Nat) (t : Sl), x.od[d]? = some t → d ≠ b → Apt (Value.slice a (s.l ++ [f]).length c) t.v := by
      intro d t ht hd
      rw [hl]; unfold Apt
      rcases hat with e | e
      · rw [e]; exact h.dis2 b d s t hs ht (Ne.symm hd)
      · rw [e]; refine .inr fun e2 => ?_
        have := ((h.row d t ht).lt _ e2.symm).2
        simp at this; omega
    intro d e t u ht hu hde
    by_cases hd : d = b
    · subst hd
      rw [List.getElem?_set_self hbl] at ht
      obtain rfl : (⟨a, c, s.l ++ [f]⟩ : Sl) = t := by simpa using ht
      rw [List.getElem?_set_ne hde] at hu
      exact key e u hu (Ne.symm hde)
    · rw [List.getElem?_set_ne (Ne.symm hd)] at ht
      by_cases he : e = b
      · subst he
        rw [List.getElem?_set_self hbl] at hu
        obtain rfl : (⟨a, c, s.l ++ [f]⟩ : Sl) = u := by simpa using hu
        exact (key d t ht hd).symm
      · rw [List.getElem?_set_ne (Ne.symm he)] at hu
        exact h.dis2 d e t u ht hu hde
  · intro t ht n hn
    rcases List.mem_or_eq_of_mem_set ht with ht | rfl
    · exact h.odi t ht n hn
    · rcases List.mem_append.1 hn with hn | hn
      · exact h.odi s (List.mem_of_getElem? hs) n hn
      · obtain rfl : n = f := by simpa using hn
        exact hf
theorem add_at (g j : Nat) : (⟨g, 0, none⟩ : Addr).add j = ⟨g, 0 + j, none⟩ := by unfold Addr.add; split <;> simp_all
theorem ints_in {base : Nat} {s : Sl} (h : W.ownsRow base 3 1 s.v s.l.length (s.l.map nv)) (hb : ∀ n ∈ s.l, i64B n) : IntsIn W s := by
  rcases h.2 with ⟨e, hn⟩ | ⟨g, cap, cur, e, _, hh, hnc, hcm, hcs, ht⟩
  · refine ⟨fun hp => by omega, by omega, ?_, hb⟩
    unfold Sl.v at e; simp at e; omega
  · obtain ⟨e1, rfl⟩ : s.a = some ⟨g, 0, none⟩ ∧ s.c = cap := by unfold Sl.v at e; simp at e; exact e
    refine ⟨fun _ => ⟨g, 0, e1, fun j v hv => ?_⟩, hnc, by unfold maxLen at hcm; omega, hb⟩
    have h1 := h.cells (g := g) (by unfold Sl.v; rw [e1]; rfl) j (nv v) (by rw [List.getElem?_map, hv]; rfl)
    rw [add_at] at h1; exact h1
/-- what is laid stands in memory -/
theorem Lay.xin (h : Lay w W B x) : XIn W x := by
  refine ⟨⟨?_, fun y hy => h.num y hy W, ?_, ?_⟩, ints_in h.fr h.fri, ⟨?_, fun s hs => ?_, ?_, ?_⟩⟩
  · intro hp
    rcases h.ev.2 with ⟨e, hn⟩ | ⟨g, cap, cur, e, _⟩
    · simp at hp; omega
    · have e1 : x.ae = some ⟨g, 0, none⟩ := by unfold evsV at e; simp at e; exact e.1
      refine ⟨g, 0, e1, fun j v hv i c hi => ?_⟩
      have h1 := h.ev.cells (g := g) (by unfold evsV; rw [e1]; rfl) (j * 13 + i) c (flat_rows (n := 13) (fun v hv => by
        obtain ⟨y, _, rfl⟩ := List.mem_map.1 hv; rfl) j v i c hv hi)
      rw [add_at] at h1; rw [Nat.zero_add] at h1 ⊢; exact h1
  · rcases h.ev.2 with ⟨e, hn⟩ | ⟨g, cap, cur, e, _, _, hnc, _⟩
    · omega
    · have : x.ce = cap := by unfold evsV at e; simp at e; exact e.2
      omega
  · rcases h.ev.2 with ⟨e, hn⟩ | ⟨g, cap, cur, e, _, _, _, hcm, _⟩
    · have : x.ce = 0 := by unfold evsV at e; simp at e; exact e.2.2
      omega
    · have : x.ce = cap := by unfold evsV at e; simp at e; exact e.2
      unfold maxLen at hcm; omega
  · intro hp
    rcases h.od.2 with ⟨e, hn⟩ | ⟨g, cap, cur, e, _⟩
    · simp at hp; omega
    · have e1 : x.ao = some ⟨g, 0, none⟩ := by unfold odV at e; simp at e; exact e.1
      refine ⟨g, 0, e1, fun j v hv i c hi => ?_⟩
      rw [List.getElem?_map] at hv
      obtain ⟨s, hs, rfl⟩ := Option.map_eq_some_iff.1 hv
      have hi0 : i = 0 := by have := (List.getElem?_eq_some_iff.1 hi).1; simp at this; omega
      subst hi0
      obtain rfl : s.v = c := by simpa using hi
      have h1 := h.od.cells (g := g) (by unfold odV; rw [e1]; rfl) j s.v (by rw [List.getElem?_map, hs]; rfl)
      rw [add_at] at h1; simpa using h1
  · obtain ⟨b, hb⟩ := List.mem_iff_getElem?.1 hs
    exact ints_in (h.row b s hb) (h.odi s hs)
  · rcases h.od.2 with ⟨e, hn⟩ | ⟨g, cap, cur, e, _, _, hnc, _⟩
    · omega
    · have : x.co = cap := by unfold odV at e; simp at e; exact e.2
      omega
  · rcases h.od.2 with ⟨e, hn⟩ | ⟨g, cap, cur, e, _, _, _, hcm, _⟩
    · have : x.co = 0 := by unfold odV at e; simp at e; exact e.2.2
      omega
    · have : x.co = cap := by unfold odV at e; simp at e; exact e.2
      unfold maxLen at hcm; omega
end Ev
end Go.Proofs.Ytoicmhidmknfiaa
