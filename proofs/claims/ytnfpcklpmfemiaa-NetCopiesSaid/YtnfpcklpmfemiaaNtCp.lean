/-
  A net, two copies of it, and the document's record before and behind one turn, apart.
-/
import Derived.Test.YtnfpcklpmfemiaaNtCuts
namespace Go.Proofs.Ytnfpcklpmfemiaa
open Go.RowKit
set_option linter.unusedVariables false
set_option linter.unusedSimpArgs false
namespace Nt
structure Cp (w W : World) (F G H : Nat → Prop) (p q o most b8 b11 : Nat) (ln lw lo : List E) (a : Option Addr) (c : Nat) (a' : Option Addr) (c' : Nat) (lx : List E) : Prop where
  nn : Net W F p most ln
  nc : Net W G q most lw
  no : Net W H o most lo
  bel : Below w.heap.size w W
  flo : ∀ k, F k → w.heap.size ≤ k
  hlo : ∀ k, H k → w.heap.size ≤ k
  fg : ∀ k, F k → ¬ G k
  fh : ∀ k, F k → ¬ H k
  gh : ∀ k, G k → ¬ H k
  r8 : W.heap[b8]? = some (.cells #[.int .i64 (most : Int), .slice a lw.length c] 76 (0, 0))
  r11 : W.heap[b11]? = some (.cells #[.int .i64 (most : Int), .slice a' lx.length c'] 76 (0, 0))
  f8 : ¬ F b8
  h8 : ¬ H b8
  f11 : ¬ F b11
  g11 : ¬ G b11
  h11 : ¬ H b11
  ne : b8 ≠ b11
  lo11 : w.heap.size ≤ b11
  l8 : Own W (fun k => ¬ F k ∧ ¬ H k) a c lw
  l11 : Own W (fun k => ¬ F k ∧ ¬ H k) a' c' lx
  okx : ∀ e ∈ lx, Ok e
section
variable {w W W' : World} {F G H : Nat → Prop} {p q o most b8 b11 : Nat} {ln lw lo : List E} {a : Option Addr} {c : Nat} {a' : Option Addr} {c' : Nat} {lx : List E}
theorem Cp.lt8 (h : Cp w W F G H p q o most b8 b11 ln lw lo a c a' c' lx) : b8 < W.heap.size := (Array.getElem?_eq_some_iff.1 h.r8).1
theorem Cp.lt11 (h : Cp w W F G H p q o most b8 b11 ln lw lo a c a' c' lx) : b11 < W.heap.size := (Array.getElem?_eq_some_iff.1 h.r11).1
theorem Cp.kp (h : Cp w W F G H p q o most b8 b11 ln lw lo a c a' c' lx) (hb : Below W.heap.size W W') : Cp w W' F G H p q o most b8 b11 ln lw lo a c a' c' lx :=
  { h with nn := h.nn.kp hb, nc := h.nc.kp hb, no := h.no.kp hb, bel := h.bel.trans (hb.mono h.bel.size), r8 := (hb.block _ h.lt8).trans h.r8, r11 := (hb.block _ h.lt11).trans h.r11, l8 := h.l8.kp hb, l11 := h.l11.kp hb }
/-- the first one turns -/
theorem Cp.turnN (h : Cp w W F G H p q o most b8 b11 ln lw lo a c a' c' lx) {ln' : List E} (ht : Turns F W W' p most ln') : ∃ F', Cp w W' F' G H p q o most b8 b11 ln' lw lo a c a' c' lx := by
  obtain ⟨F', h1, h2, h3⟩ := ht
  have out : ∀ k, k < W.heap.size → ¬ F k → ¬ F' k := fun k hk hn hf => by
    rcases h3 k hf with h4 | h4
    · exact hn h4
    · omega
  have hG := h.nc.lt; have hH := h.no.lt
  exact ⟨F', { h with
    nn := h1
    nc := h.nc.kept h2.size (fun k hk => h2.block k (hG k hk) (fun hf => h.fg k hf hk))
    no := h.no.kept h2.size (fun k hk => h2.block k (hH k hk) (fun hf => h.fh k hf hk))
    bel := Fr.below h.bel h2 h.flo (Nat.le_refl _)
    flo := fun k hk => by
      rcases h3 k hk with h4 | h4
      · exact h.flo k h4
      · have := h.bel.size; omega
    fg := fun k hf hg => out k (hG k hg) (fun hf' => h.fg k hf' hg) hf
    fh := fun k hf hg => out k (hH k hg) (fun hf' => h.fh k hf' hg) hf
    r8 := (h2.block _ h.lt8 h.f8).trans h.r8
    r11 := (h2.block _ h.lt11 h.f11).trans h.r11
    f8 := out _ h.lt8 h.f8
    f11 := out _ h.lt11 h.f11
    l8 := (h.l8.lt.kept (fun k hk _ => h2.block k hk.2 hk.1.1)).mono (fun k hk => ⟨out k hk.2 hk.1.1, hk.1.2⟩)
    l11 := (h.l11.lt.kept (fun k hk _ => h2.block k hk.2 hk.1.1)).mono (fun k hk => ⟨out k hk.2 hk.1.1, hk.1.2⟩) }⟩
/-- the second copy turns -/
theorem Cp.turnO (h : Cp w W F G H p q o most b8 b11 ln lw lo a c a' c' lx) {lo' : List E} (ht : Turns H W W' o most lo') : ∃ H', Cp w W' F G H' p q o most b8 b11 ln lw lo' a c a' c' lx := by
  obtain ⟨H', h1, h2, h3⟩ := ht
  have out : ∀ k, k < W.heap.size → ¬ H k → ¬ H' k := fun k hk hn hf => by
    rcases h3 k hf with h4 | h4
    · exact hn h4
    · omega
  have hG := h.nc.lt; have hF := h.nn.lt
  exact ⟨H', { h with
    nn := h.nn.kept h2.size (fun k hk => h2.block k (hF k hk) (fun hf => h.fh k hk hf))
    nc := h.nc.kept h2.size (fun k hk => h2.block k (hG k hk) (fun hf => h.gh k hk hf))
    no := h1
    bel := Fr.below h.bel h2 h.hlo (Nat.le_refl _)
    hlo := fun k hk => by
      rcases h3 k hk with h4 | h4
      · exact h.hlo k h4
      · have := h.bel.size; omega
    fh := fun k hf => out k (hF k hf) (h.fh k hf)
    gh := fun k hf => out k (hG k hf) (h.gh k hf)
    r8 := (h2.block _ h.lt8 h.h8).trans h.r8
    r11 := (h2.block _ h.lt11 h.h11).trans h.r11
    h8 := out _ h.lt8 h.h8
    h11 := out _ h.lt11 h.h11
    l8 := (h.l8.lt.kept (fun k hk _ => h2.block k hk.2 hk.1.2)).mono (fun k hk => ⟨hk.1.1, out k hk.2 hk.1.2⟩)
    l11 := (h.l11.lt.kept (fun k hk _ => h2.block k hk.2 hk.1.2)).mono (fun k hk => ⟨hk.1.1, out k hk.2 hk.1.2⟩) }⟩
/-- another record is stored into the second box -/
theorem Cp.put (h : Cp w W F G H p q o most b8 b11 ln lw lo a c a' c' lx) {a2 : Option Addr} {c2 : Nat} {l2 : List E} (ho : Own W (fun k => ¬ F k ∧ ¬ H k) a2 c2 l2) (hok : ∀ e ∈ l2, Ok e)
    (hs : Ev.Set1 W W' b11 76 #[.int .i64 (most : Int), .slice a2 l2.length c2]) : Cp w W' F G H p q o most b8 b11 ln lw lo a c a2 c2 l2 := by
  have hz : W.heap.size ≤ W'.heap.size := by rw [hs.size]; exact Nat.le_refl _
  exact { h with
    nn := h.nn.kept hz (fun k hk => hs.block k (fun e => h.f11 (e ▸ hk)))
    nc := h.nc.kept hz (fun k hk => hs.block k (fun e => h.g11 (e ▸ hk)))
    no := h.no.kept hz (fun k hk => hs.block k (fun e => h.h11 (e ▸ hk)))
    bel := h.bel.trans (hs.below.mono h.lo11)
    r8 := (hs.block _ h.ne).trans h.r8
    r11 := hs.row
    l8 := own_other h.l8 h.r11 hs (by decide)
    l11 := own_other ho h.r11 hs (by decide)
    okx := hok }
/-- a list that a call of the document's has told -/
theorem Cp.told (h : Cp w W F G H p q o most b8 b11 ln lw lo a c a' c' lx) (hb : Below W.heap.size W W') {a2 : Option Addr} {c2 : Nat} {l2 : List E} (ht : RT W W' a c lw a2 c2 l2) : Own W' (fun k => ¬ F k ∧ ¬ H k) a2 c2 l2 := by
  rcases ht with ⟨rfl, rfl, rfl⟩ | ho
  · exact h.l8.kp hb
  · refine ho.mono (fun k hk => ⟨fun hF => ?_, fun hF => ?_⟩)
    · have := h.nn.lt k hF; omega
    · have := h.no.lt k hF; omega
theorem Cp.ls8 (h : Cp w W F G H p q o most b8 b11 ln lw lo a c a' c' lx) : LsIn W a c lw := h.l8.ls h.nc.ok
theorem Cp.ls11 (h : Cp w W F G H p q o most b8 b11 ln lw lo a c a' c' lx) : LsIn W a' c' lx := h.l11.ls h.okx
/-- the second copy is born -/
theorem Cp.birth {w W W' : World} {F G H : Nat → Prop} {p q o most b8 b11 : Nat} {lw : List E} {a : Option Addr} {c : Nat} (hn : Net W F p most lw) (hc : Net W G q most lw) (hbel : Below w.heap.size w W) (hflo : ∀ k, F k → w.heap.size ≤ k) (fg : ∀ k, F k → ¬ G k)
    (r8 : W.heap[b8]? = some (.cells #[.int .i64 (most : Int), .slice a lw.length c] 76 (0, 0))) (r11 : W.heap[b11]? = some (.cells #[.int .i64 (most : Int), .slice a lw.length c] 76 (0, 0)))
    (f8 : ¬ F b8) (f11 : ¬ F b11) (g11 : ¬ G b11) (ne : b8 ≠ b11) (lo11 : w.heap.size ≤ b11) (own : Own W (fun k => ¬ F k) a c lw)
    (hb : Below W.heap.size W W') (ho : Net W' H o most lw) (hlo : ∀ k, H k → W.heap.size ≤ k) : Cp w W' F G H p q o most b8 b11 lw lw lw a c a c lw := by
  have l8 : b8 < W.heap.size := (Array.getElem?_eq_some_iff.1 r8).1
  have l11 : b11 < W.heap.size := (Array.getElem?_eq_some_iff.1 r11).1
  have hF := hn.lt; have hG := hc.lt
  have nh : ∀ k, k < W.heap.size → ¬ H k := fun k hk hh => by have := hlo k hh; omega
  have hown : Own W' (fun k => ¬ F k ∧ ¬ H k) a c lw := (own.lt.kp hb).mono (fun k hk => ⟨hk.1, nh k hk.2⟩)
  exact ⟨hn.kp hb, hc.kp hb, ho, hbel.trans (hb.mono hbel.size), hflo, fun k hk => (by have := hlo k hk; have := hbel.size; omega), fg, fun k hk => nh k (hF k hk), fun k hk => nh k (hG k hk), (hb.block _ l8).trans r8, (hb.block _ l11).trans r11, f8, nh _ l8, f11, g11, nh _ l11, ne, lo11, hown, hown, hc.ok⟩
end
/-- told messages whose lines may be turned: a block of one's own, at or above M -/
def Lb (w : World) (M : Nat) (al : Option Addr) (N : Nat) : Prop :=
  N = 0 ∨ ∃ g cur, al = some ⟨g, 0, none⟩ ∧ M ≤ g ∧ w.heap[g]? = some (.cells cur 57 (0, 0)) ∧ ∀ t, t < N → ∃ n, cur[t * 20 + 3]? = some (.int .u32 n)
theorem Lb.of_own {w : World} {M : Nat} {al : Option Addr} {cl : Nat} {l : List E} (h : Own w (fun k => M ≤ k) al cl l) (hok : ∀ e ∈ l, Ok e) : Lb w M al l.length := by
  rcases h with ⟨rfl, _⟩ | ⟨g, cur, rfl, hf, hg, h1, h2, h3, h4⟩
  · exact .inl rfl
  · refine .inr ⟨g, cur, rfl, hf, hg, fun t ht => ?_⟩
    obtain ⟨e, he⟩ : ∃ e, l[t]? = some e := ⟨_, List.getElem?_eq_getElem ht⟩
    have := take_at h4 (flat_at hok he (i := 3) (c := .int .u32 e.n) rfl)
    exact ⟨e.n, by simpa using this⟩
theorem set_below {w : World} {M g i : Nat} (h : M ≤ g) (v : Value) : Below M w (w.setCell ⟨g, i, none⟩ v) :=
  ⟨rfl, rfl, rfl, (KeepsWalks.setCell w _ v).size, fun k hk => Below.heap_setCell _ _ _ k (Nat.ne_of_lt (Nat.lt_of_lt_of_le hk h))⟩
theorem Lb.at_ {w : World} {M : Nat} {al : Option Addr} {N : Nat} (h : Lb w M al N) {t : Nat} (ht : t < N) :
    ∃ g n, al = some ⟨g, 0, none⟩ ∧ w.cell? ⟨g, t * 20 + 3, none⟩ = some (.int .u32 n) ∧ w.frozen? ⟨g, t * 20 + 3, none⟩ = false ∧
      ∀ n', Below M w (w.setCell ⟨g, t * 20 + 3, none⟩ (.int .u32 n')) ∧ Lb (w.setCell ⟨g, t * 20 + 3, none⟩ (.int .u32 n')) M al N := by
  rcases h with h | ⟨g, cur, rfl, hM, hg, hc⟩
  · omega
  · obtain ⟨n, hn⟩ := hc t ht
    refine ⟨g, n, rfl, by rw [cell_of_row _ _ _ _ _ _ hg]; exact hn, free_row hg, fun n' => ⟨set_below hM _, .inr ⟨g, _, rfl, hM, set_row _ hg, fun s hs => ?_⟩⟩⟩
    rw [Array.getElem?_setIfInBounds]
    by_cases he : t * 20 + 3 = s * 20 + 3
    · rw [if_pos he, if_pos (by have := (Array.getElem?_eq_some_iff.1 hn).1; omega)]
      exact ⟨n', rfl⟩
    · rw [if_neg he]
      exact hc s hs
/-- one more message, which may be -/
def moreE : E := ⟨13, 2, 4, 9, [0, 0, 0, 0, 0, 0, 0, 0, 0, 0, 0, 0, 0, 0, 0, 0]⟩
theorem moreE_ok : Ok moreE := ⟨by unfold Ev.i64B moreE; decide, by unfold Ev.i64B moreE; decide, by unfold Ev.i64B moreE; decide, by unfold Ev.u32B moreE; decide, rfl⟩
/-- besides: a message and a record in boxes, and two nets just made -/
structure Cs (w W : World) (F G H : Nat → Prop) (p q o most b8 b11 : Nat) (ln lw lo : List E) (a : Option Addr) (c : Nat) (a' : Option Addr) (c' : Nat) (lx : List E) (b20 b21 : Nat) (m : E) (a5 : Option Addr) (c5 : Nat) (lm : List E) (I J : Nat → Prop) (pw pe kw : Nat) : Prop where
  cp : Cp w W F G H p q o most b8 b11 ln lw lo a c a' c' lx
  r20 : W.heap[b20]? = some (.cells (cells m).toArray 57 (0, 0))
  r21 : W.heap[b21]? = some (.cells #[.int .i64 (most : Int), .slice a5 lm.length c5] 76 (0, 0))
  h20 : ¬ H b20
  h21 : ¬ H b21
  l21 : Own W (fun k => ¬ H k) a5 c5 lm
  okm : ∀ e ∈ lm, Ok e
  nw : Net W I pw kw []
  ne : Net W J pe most []
  ih : ∀ k, I k → ¬ H k
  jh : ∀ k, J k → ¬ H k
section
variable {w W W' : World} {F G H : Nat → Prop} {p q o most b8 b11 : Nat} {ln lw lo : List E} {a : Option Addr} {c : Nat} {a' : Option Addr} {c' : Nat} {lx : List E} {b20 b21 : Nat} {m : E} {a5 : Option Addr} {c5 : Nat} {lm : List E} {I J : Nat → Prop} {pw pe kw : Nat}
theorem Cs.kp (h : Cs w W F G H p q o most b8 b11 ln lw lo a c a' c' lx b20 b21 m a5 c5 lm I J pw pe kw) (hb : Below W.heap.size W W') : Cs w W' F G H p q o most b8 b11 ln lw lo a c a' c' lx b20 b21 m a5 c5 lm I J pw pe kw :=
  ⟨h.cp.kp hb, (hb.block _ (Array.getElem?_eq_some_iff.1 h.r20).1).trans h.r20, (hb.block _ (Array.getElem?_eq_some_iff.1 h.r21).1).trans h.r21, h.h20, h.h21, h.l21.kp hb, h.okm, h.nw.kp hb, h.ne.kp hb, h.ih, h.jh⟩
theorem Cs.turnO (h : Cs w W F G H p q o most b8 b11 ln lw lo a c a' c' lx b20 b21 m a5 c5 lm I J pw pe kw) {lo' : List E} (ht : Turns H W W' o most lo') : ∃ H', Cs w W' F G H' p q o most b8 b11 ln lw lo' a c a' c' lx b20 b21 m a5 c5 lm I J pw pe kw := by
  obtain ⟨H', h1, h2, h3⟩ := ht
  obtain ⟨lt20, _⟩ := Array.getElem?_eq_some_iff.1 h.r20
  obtain ⟨lt21, _⟩ := Array.getElem?_eq_some_iff.1 h.r21
  have out : ∀ k, k < W.heap.size → ¬ H k → ¬ H' k := fun k hk hn hf => by
    rcases h3 k hf with h4 | h4
    · exact hn h4
    · omega
  have hI := h.nw.lt; have hJ := h.ne.lt
  have hG := h.cp.nc.lt; have hF := h.cp.nn.lt
  have hcp : Cp w W' F G H' p q o most b8 b11 ln lw lo' a c a' c' lx := { h.cp with
    nn := h.cp.nn.kept h2.size (fun k hk => h2.block k (hF k hk) (fun hf => h.cp.fh k hk hf))
    nc := h.cp.nc.kept h2.size (fun k hk => h2.block k (hG k hk) (fun hf => h.cp.gh k hk hf))
    no := h1
    bel := Fr.below h.cp.bel h2 h.cp.hlo (Nat.le_refl _)
    hlo := fun k hk => by
      rcases h3 k hk with h4 | h4
      · exact h.cp.hlo k h4
      · have := h.cp.bel.size; omega
    fh := fun k hf => out k (hF k hf) (h.cp.fh k hf)
    gh := fun k hf => out k (hG k hf) (h.cp.gh k hf)
    r8 := (h2.block _ h.cp.lt8 h.cp.h8).trans h.cp.r8
    r11 := (h2.block _ h.cp.lt11 h.cp.h11).trans h.cp.r11
    h8 := out _ h.cp.lt8 h.cp.h8
    h11 := out _ h.cp.lt11 h.cp.h11
    l8 := (h.cp.l8.lt.kept (fun k hk _ => h2.block k hk.2 hk.1.2)).mono (fun k hk => ⟨hk.1.1, out k hk.2 hk.1.2⟩)
    l11 := (h.cp.l11.lt.kept (fun k hk _ => h2.block k hk.2 hk.1.2)).mono (fun k hk => ⟨hk.1.1, out k hk.2 hk.1.2⟩) }
  exact ⟨H', hcp, (h2.block _ lt20 h.h20).trans h.r20, (h2.block _ lt21 h.h21).trans h.r21, out _ lt20 h.h20, out _ lt21 h.h21,
    (h.l21.lt.kept (fun k hk _ => h2.block k hk.2 hk.1)).mono (fun k hk => out k hk.2 hk.1), h.okm,
    h.nw.kept h2.size (fun k hk => h2.block k (hI k hk) (h.ih k hk)), h.ne.kept h2.size (fun k hk => h2.block k (hJ k hk) (h.jh k hk)), fun k hk => out k (hI k hk) (h.ih k hk), fun k hk => out k (hJ k hk) (h.jh k hk)⟩
theorem Cs.ls21 (h : Cs w W F G H p q o most b8 b11 ln lw lo a c a' c' lx b20 b21 m a5 c5 lm I J pw pe kw) : LsIn W a5 c5 lm := h.l21.ls h.okm
end
theorem sameLs_comm {x y : List E} (hx : ∀ e ∈ x, Ok e) (hy : ∀ e ∈ y, Ok e) : sameLs x y = sameLs y x := by
  rw [Bool.eq_iff_iff, sameLs_iff hx hy, sameLs_iff hy hx]
  exact eq_comm
/-- Same, with its answer by name -/
theorem same_as (w : World) {F p most l} (h : Net w F p most l) {G q m k} (h2 : Net w G q m k) {v : Bool} (hv : (decide (most = m) && sameLs l k) = v) : Calls Try.prog 36 #[.pointer (some ⟨p, 0, none⟩), .pointer (some ⟨q, 0, none⟩)] w fun e w' => e = .returned (.bool v) ∧ Below w.heap.size w w' := by
  rw [← hv]
  exact same_any w h h2
end Nt
end Go.Proofs.Ytnfpcklpmfemiaa
