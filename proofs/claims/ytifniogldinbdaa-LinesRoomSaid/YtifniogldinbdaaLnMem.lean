/-
  How lines, lists of lines and caches of lines stand in memory.
-/
import Derived.Test.YtifniogldinbdaaEvMem
import Derived.Test.YtifniogldinbdaaOgB
import Derived.Test.YtifniogldinbdaaOg3
import Derived.Test.YtifniogldinbdaaProg
import Derived.RangeFuncBox
import Derived.Laws.ResultCell
import Derived.Laws.AppendOwn
namespace Go.Proofs.Ytifniogldinbdaa
open Go.RowKit
set_option linter.unusedVariables false
set_option linter.unusedSimpArgs false
namespace Ln
/-- a line: its number, its state, its bytes -/
structure E where
  n : Int
  s : Int
  b : List Int
def cells (e : E) : List Value := .int .u32 e.n :: .int .i64 e.s :: e.b.map (Value.int .u8)
structure Ok (e : E) : Prop where
  n : Ev.u32B e.n
  s : Ev.i64B e.s
  b : e.b.length = 16
def EV (e : E) : Value := .agg (cells e).toArray
def E0 : E := ⟨0, 0, [0, 0, 0, 0, 0, 0, 0, 0, 0, 0, 0, 0, 0, 0, 0, 0]⟩
theorem E0_ok : Ok E0 := ⟨by unfold Ev.u32B E0; decide, by unfold Ev.i64B E0; decide, rfl⟩
theorem Ok.len {e : E} (h : Ok e) : (cells e).length = 18 := by unfold cells; simp [h.b]
theorem Ok.size {e : E} (h : Ok e) : (cells e).toArray.size = 18 := by simp [h.len]
theorem cells_one (e : E) : ∀ u ∈ cells e, u.oneCell' = true := by
  intro u hu
  unfold cells at hu
  rcases List.mem_cons.1 hu with rfl | hu
  · rfl
  rcases List.mem_cons.1 hu with rfl | hu
  · rfl
  obtain ⟨x, _, rfl⟩ := List.mem_map.1 hu
  rfl
theorem cells_all (e : E) : (cells e).toArray.all (·.oneCell') = true := by
  rw [Array.all_eq_true']
  intro u hu
  exact cells_one e u (by simpa using hu)
theorem cell0 (e : E) : (cells e)[0]? = some (.int .u32 e.n) := rfl
theorem cell1 (e : E) : (cells e)[1]? = some (.int .i64 e.s) := rfl
theorem val_inj {a b : List Int} (h : a.map (Value.int .u8) = b.map (Value.int .u8)) : a = b := by
  induction a generalizing b with
  | nil => cases b with | nil => rfl | cons y b => cases h
  | cons x a ih => cases b with
    | nil => cases h
    | cons y b =>
      simp only [List.map_cons, List.cons.injEq, Value.int.injEq, true_and] at h
      rw [h.1, ih h.2]
theorem cells_inj {a b : E} (h : cells a = cells b) : a = b := by
  unfold cells at h
  simp only [List.cons.injEq, Value.int.injEq, true_and] at h
  cases a; cases b
  simp only at h
  simp only [E.mk.injEq]
  exact ⟨h.1, h.2.1, val_inj h.2.2⟩
/-- are two lines the same -/
def same (a b : E) : Bool := a.n == b.n && a.s == b.s && a.b == b.b
theorem same_iff {a b : E} : same a b = true ↔ a = b := by
  unfold same
  cases a; cases b
  simp [and_assoc]
/-- rows of lines, flat -/
def flat (l : List E) : List Value := (l.map cells).flatten
theorem flat_len {l : List E} (h : ∀ e ∈ l, Ok e) : (flat l).length = l.length * 18 := by
  induction l with
  | nil => rfl
  | cons x l ih =>
    have := ih (fun e he => h e (List.mem_cons_of_mem _ he))
    have h1 := (h x (List.mem_cons_self ..)).len
    unfold flat at this ⊢
    simp only [List.map_cons, List.flatten_cons, List.length_append, List.length_cons]
    omega
theorem flat_at {l : List E} (h : ∀ e ∈ l, Ok e) {j : Nat} {e : E} (hj : l[j]? = some e) {i : Nat} {c : Value} (hi : (cells e)[i]? = some c) : (flat l)[j * 18 + i]? = some c := by
  induction l generalizing j with
  | nil => cases hj
  | cons x l ih =>
    have h1 := (h x (List.mem_cons_self ..)).len
    unfold flat at ih ⊢
    simp only [List.map_cons, List.flatten_cons]
    cases j with
    | zero =>
      obtain rfl : x = e := by simpa using hj
      have := (List.getElem?_eq_some_iff.1 hi).1
      rw [List.getElem?_append_left (by omega), Nat.zero_mul, Nat.zero_add]
      exact hi
    | succ j =>
      rw [List.getElem?_append_right (by omega), h1, show (j + 1) * 18 + i - 18 = j * 18 + i by omega]
      exact ih (fun e he => h e (List.mem_cons_of_mem _ he)) (by simpa using hj)
theorem flat_app (l m : List E) : flat (l ++ m) = flat l ++ flat m := by unfold flat; simp
theorem flat_one (e : E) : flat [e] = cells e := by unfold flat; simp
/-- lines in memory -/
structure LsIn (w : World) (a : Option Addr) (c : Nat) (l : List E) : Prop where
  rows : Ev.RowsIn w a 18 (l.map cells)
  ok : ∀ e ∈ l, Ok e
  le : l.length ≤ c
  max : c ≤ 9223372036854775807
theorem LsIn.kp {w w' : World} {a c l} (h : LsIn w a c l) (k : Ev.Kp w w') : LsIn w' a c l := ⟨h.rows.kp k, h.ok, h.le, h.max⟩
theorem LsIn.at_ {w : World} {a c l} (h : LsIn w a c l) {k : Nat} {e : E} (hk : l[k]? = some e) :
    ∃ g o, a = some ⟨g, o, none⟩ ∧ (∀ i c, (cells e)[i]? = some c → w.cell? ⟨g, o + k * 18 + i, none⟩ = some c) := by
  have hl := (List.getElem?_eq_some_iff.1 hk).1
  obtain ⟨g, o, e1, hc⟩ := h.rows (by simp; omega)
  exact ⟨g, o, e1, fun i c hi => hc k (cells e) (by rw [List.getElem?_map, hk]; rfl) i c hi⟩
theorem LsIn.ok_ {w : World} {a c l} (h : LsIn w a c l) {k : Nat} {e : E} (hk : l[k]? = some e) : Ok e := h.ok e (List.mem_of_getElem? hk)
theorem LsIn.nil (w : World) : LsIn w none 0 [] := ⟨fun h => absurd h (by simp), fun e h => (by cases h), Nat.le_refl _, by decide⟩
theorem add_at (g j : Nat) : (⟨g, 0, none⟩ : Addr).add j = ⟨g, j, none⟩ := by unfold Addr.add; split <;> simp_all
/-- one's own row of lines is lines in memory -/
theorem own_in {w : World} {base : Nat} {t : TypeId} {v : Value} {l : List E} (h : w.ownsRow base t 18 v l.length (flat l)) (hok : ∀ e ∈ l, Ok e) : ∃ a c, v = .slice a l.length c ∧ LsIn w a c l := by
  rcases h.2 with ⟨rfl, hn⟩ | ⟨g, cap, cur, rfl, _, hh, hnc, hcm, hcs, ht⟩
  · have : l = [] := List.eq_nil_of_length_eq_zero hn
    subst this
    exact ⟨none, 0, rfl, LsIn.nil w⟩
  · refine ⟨_, _, rfl, ⟨fun _ => ⟨g, 0, rfl, fun j v hv i c hi => ?_⟩, hok, hnc, by unfold maxLen at hcm; omega⟩⟩
    rw [List.getElem?_map] at hv
    obtain ⟨e, he, rfl⟩ := Option.map_eq_some_iff.1 hv
    have h1 := h.cells (g := g) rfl (j * 18 + i) c (flat_at hok he hi)
    rw [add_at] at h1; rw [Nat.zero_add]; exact h1
/-- what turns of a world lies in blocks of F, or is new -/
structure Fr (F : Nat → Prop) (w w' : World) : Prop where
  os : w'.os = w.os
  tape : w'.tape = w.tape
  output : w'.output = w.output
  size : w.heap.size ≤ w'.heap.size
  block : ∀ k, k < w.heap.size → ¬ F k → w'.heap[k]? = w.heap[k]?
theorem Fr.refl (F : Nat → Prop) (w : World) : Fr F w w := ⟨rfl, rfl, rfl, Nat.le_refl _, fun _ _ _ => rfl⟩
theorem Fr.of_below {F : Nat → Prop} {w w' : World} (h : Below w.heap.size w w') : Fr F w w' := ⟨h.os, h.tape, h.output, h.size, fun k hk _ => h.block k hk⟩
theorem Fr.trans {F G : Nat → Prop} {a b c : World} (h : Fr F a b) (k : Fr G b c) (hg : ∀ i, G i → F i ∨ a.heap.size ≤ i) : Fr F a c :=
  ⟨k.os.trans h.os, k.tape.trans h.tape, k.output.trans h.output, Nat.le_trans h.size k.size, fun i hi hf =>
    (k.block i (Nat.lt_of_lt_of_le hi h.size) (fun hG => by rcases hg i hG with h1 | h1; exact hf h1; omega)).trans (h.block i hi hf)⟩
theorem Fr.below {F : Nat → Prop} {B : Nat} {a b c : World} (h : Below B a b) (k : Fr F b c) (hf : ∀ i, F i → B ≤ i) (hB : B ≤ a.heap.size) : Below B a c :=
  ⟨k.os.trans h.os, k.tape.trans h.tape, k.output.trans h.output, Nat.le_trans h.size k.size, fun i hi =>
    (k.block i (by have := h.size; omega) (fun hF => by have := hf i hF; omega)).trans (h.block i hi)⟩
/-- a set of a cache: its address, its room, its lines -/
structure RW where
  a : Option Addr
  c : Nat
  l : List E
def RW.v (r : RW) : Value := .slice r.a r.l.length r.c
/-- a cache of lines: its block p, that of its sets g, its ways, its sets; F: the blocks that are its own -/
structure Cin (w : World) (F : Nat → Prop) (p g ways : Nat) (S : List RW) : Prop where
  box : w.heap[p]? = some (.cells #[.slice (some ⟨g, 0, none⟩) S.length S.length, .int .i64 (ways : Int)] 71 (0, 0))
  sets : w.heap[g]? = some (.cells (S.map RW.v).toArray 38 (0, 0))
  rows : ∀ (i : Nat) (r : RW), S[i]? = some r → w.ownsRow 0 30 18 r.v r.l.length (flat r.l)
  apt : ∀ (i j : Nat) (r s : RW), i ≠ j → S[i]? = some r → S[j]? = some s → r.v.ownBlock = none ∨ r.v.ownBlock ≠ s.v.ownBlock
  fp : F p
  fg : F g
  fr : ∀ r ∈ S, ∀ k, r.v.ownBlock = some k → F k
  lt : ∀ k, F k → k < w.heap.size
  ok : ∀ r ∈ S, ∀ e ∈ r.l, Ok e
  pos : 0 < S.length
  len : S.length ≤ 64
  wpos : 0 < ways
  wlen : ways ≤ 8
  fits : ∀ r ∈ S, r.l.length ≤ ways
theorem row_kept {w w' : World} {base : Nat} {t : TypeId} {sz : Nat} {v : Value} {n : Nat} {xs : List Value} (h : w.ownsRow base t sz v n xs) (hb : ∀ k, v.ownBlock = some k → w'.heap[k]? = w.heap[k]?) : w'.ownsRow base t sz v n xs := by
  refine ⟨h.1, ?_⟩
  rcases h.2 with hn | ⟨g, cap, cur, rfl, hb', hg, rest⟩
  · exact .inl hn
  · exact .inr ⟨g, cap, cur, rfl, hb', (hb g rfl).trans hg, rest⟩
/-- a cache stands where its blocks do -/
theorem Cin.kept {w w' : World} {F p g ways S} (h : Cin w F p g ways S) (hs : w.heap.size ≤ w'.heap.size) (hb : ∀ k, F k → w'.heap[k]? = w.heap[k]?) : Cin w' F p g ways S :=
  ⟨(hb p h.fp).trans h.box, (hb g h.fg).trans h.sets, fun i r hr => row_kept (h.rows i r hr) (fun k hk => hb k (h.fr r (List.mem_of_getElem? hr) k hk)), h.apt, h.fp, h.fg, h.fr, fun k hk => Nat.lt_of_lt_of_le (h.lt k hk) hs, h.ok, h.pos, h.len, h.wpos, h.wlen, h.fits⟩
theorem Cin.kp {w w' : World} {F p g ways S} (h : Cin w F p g ways S) (hb : Below w.heap.size w w') : Cin w' F p g ways S := h.kept hb.size fun k hk => hb.block k (h.lt k hk)
theorem Cin.c0 {w : World} {F p g ways S} (h : Cin w F p g ways S) : w.cell? ⟨p, 0, none⟩ = some (.slice (some ⟨g, 0, none⟩) S.length S.length) := by rw [cell_of_row _ _ _ _ _ _ h.box]; rfl
theorem Cin.c1 {w : World} {F p g ways S} (h : Cin w F p g ways S) : w.cell? ⟨p, 1, none⟩ = some (.int .i64 (ways : Int)) := by rw [cell_of_row _ _ _ _ _ _ h.box]; rfl
theorem Cin.cs {w : World} {F p g ways S} (h : Cin w F p g ways S) {i : Nat} {r : RW} (hr : S[i]? = some r) : w.cell? ⟨g, i, none⟩ = some (.slice r.a r.l.length r.c) := by
  rw [cell_of_row _ _ _ _ _ _ h.sets]; simp [hr, RW.v]
theorem Cin.row {w : World} {F p g ways S} (h : Cin w F p g ways S) {i : Nat} {r : RW} (hr : S[i]? = some r) : LsIn w r.a r.c r.l := by
  obtain ⟨a, c, e, hl⟩ := own_in (h.rows i r hr) (h.ok r (List.mem_of_getElem? hr))
  unfold RW.v at e
  injection e with e1 _ e3
  rw [e1, e3]; exact hl
/-- a cache, told by the lines of its sets -/
def Cache (w : World) (F : Nat → Prop) (p ways : Nat) (Q : List (List E)) : Prop := ∃ g S, Cin w F p g ways S ∧ S.map (·.l) = Q
theorem Cache.kp {w w' : World} {F p ways Q} (h : Cache w F p ways Q) (hb : Below w.heap.size w w') : Cache w' F p ways Q := by
  obtain ⟨g, S, h, e⟩ := h
  exact ⟨g, S, h.kp hb, e⟩
theorem Cache.lt {w : World} {F p ways Q} (h : Cache w F p ways Q) : ∀ k, F k → k < w.heap.size := by
  obtain ⟨g, S, h, e⟩ := h
  exact h.lt
theorem Cache.kept {w w' : World} {F p ways Q} (h : Cache w F p ways Q) (hs : w.heap.size ≤ w'.heap.size) (hb : ∀ k, F k → w'.heap[k]? = w.heap[k]?) : Cache w' F p ways Q := by
  obtain ⟨g, S, h, e⟩ := h
  exact ⟨g, S, h.kept hs hb, e⟩
theorem set_row {w : World} {g i : Nat} {cs : Array Value} {t : TypeId} (v : Value) (h : w.heap[g]? = some (.cells cs t (0, 0))) : (w.setCell ⟨g, i, none⟩ v).heap[g]? = some (.cells (cs.setIfInBounds i v) t (0, 0)) := by
  obtain ⟨hlt, hk⟩ := Array.getElem?_eq_some_iff.1 h
  show (w.heap.modify g _)[g]? = _
  rw [Array.getElem?_eq_getElem (by rw [Array.size_modify]; exact hlt), Array.getElem_modify_self, hk]
  rfl
theorem grown_cell (w : World) (b i : Nat) (v : Value) : w.grownBy (w.setCell ⟨b, i, none⟩ v) (some b) :=
  ⟨rfl, rfl, rfl, (KeepsWalks.setCell w _ v).size, fun k _ hk => Below.heap_setCell _ _ _ k (fun e => hk (by rw [e]))⟩
theorem free_row {w : World} {g i : Nat} {cs : Array Value} {t : TypeId} (h : w.heap[g]? = some (.cells cs t (0, 0))) : w.frozen? ⟨g, i, none⟩ = false := by simp [World.frozen?, h]
theorem info_line : ∃ i, Try.prog.info? 30 = some i ∧ i.zero = some (EV E0) ∧ i.size = 18 ∧ i.bytes = 32 := ⟨_, rfl, by kernel_rfl, by kernel_rfl, by kernel_rfl⟩
theorem size_line : (Try.prog.info? 30).map (·.size) = some 18 := by kernel_rfl
end Ln
end Go.Proofs.Ytifniogldinbdaa
