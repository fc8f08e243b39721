/-
  How messages, lists of messages and nets stand in memory.
-/
import Derived.Test.YtnfpcklpmfemiaaEvMem
import Derived.Test.YtnfpcklpmfemiaaOgB
import Derived.Test.YtnfpcklpmfemiaaOg3
import Derived.Test.YtnfpcklpmfemiaaOgSF
import Derived.Test.YtnfpcklpmfemiaaProg
import Derived.RangeFuncBox
import Derived.Laws.ResultCell
import Derived.Laws.AppendOwn
import Derived.Deep.AppendLies
namespace Go.Proofs.Ytnfpcklpmfemiaa
open Go.RowKit
set_option linter.unusedVariables false
set_option linter.unusedSimpArgs false
namespace Nt
/-- a message: its kind, from, to, its line's number, its bytes -/
structure E where
  k : Int
  f : Int
  t : Int
  n : Int
  b : List Int
def cells (e : E) : List Value := .int .i64 e.k :: .int .i64 e.f :: .int .i64 e.t :: .int .u32 e.n :: e.b.map (Value.int .u8)
structure Ok (e : E) : Prop where
  k : Ev.i64B e.k
  f : Ev.i64B e.f
  t : Ev.i64B e.t
  n : Ev.u32B e.n
  b : e.b.length = 16
def EV (e : E) : Value := .agg (cells e).toArray
def E0 : E := ⟨0, 0, 0, 0, [0, 0, 0, 0, 0, 0, 0, 0, 0, 0, 0, 0, 0, 0, 0, 0]⟩
theorem E0_ok : Ok E0 := ⟨by unfold Ev.i64B E0; decide, by unfold Ev.i64B E0; decide, by unfold Ev.i64B E0; decide, by unfold Ev.u32B E0; decide, rfl⟩
theorem Ok.len {e : E} (h : Ok e) : (cells e).length = 20 := by unfold cells; simp [h.b]
theorem Ok.size {e : E} (h : Ok e) : (cells e).toArray.size = 20 := by simp [h.len]
theorem cells_one (e : E) : ∀ u ∈ cells e, u.oneCell' = true := by
  intro u hu
  unfold cells at hu
  rcases List.mem_cons.1 hu with rfl | hu
  · rfl
  rcases List.mem_cons.1 hu with rfl | hu
  · rfl
  rcases List.mem_cons.1 hu with rfl | hu
  · rfl
  rcases List.mem_cons.1 hu with rfl | hu
  · rfl
  obtain ⟨x, _, rfl⟩ := List.mem_map.1 hu
  rfl
theorem cells_all (e : E) : (cells e).toArray.all (·.oneCell') = true := by
  rw [Array.all_eq_true']
  intro u hu
  exact cells_one e u (by simpa using hu)
theorem cell0 (e : E) : (cells e)[0]? = some (.int .i64 e.k) := rfl
theorem cell1 (e : E) : (cells e)[1]? = some (.int .i64 e.f) := rfl
theorem cell2 (e : E) : (cells e)[2]? = some (.int .i64 e.t) := rfl
theorem cell3 (e : E) : (cells e)[3]? = some (.int .u32 e.n) := rfl
theorem val_inj {a b : List Int} (h : a.map (Value.int .u8) = b.map (Value.int .u8)) : a = b := by
  induction a generalizing b with
  | nil => cases b with | nil => rfl | cons y b => cases h
  | cons x a ih => cases b with
    | nil => cases h
    | cons y b =>
      simp only [List.map_cons, List.cons.injEq, Value.int.injEq, true_and] at h
      rw [h.1, ih h.2]
theorem cells_inj {a b : E} (h : cells a = cells b) : a = b := by
  unfold cells at h
  simp only [List.cons.injEq, Value.int.injEq, true_and] at h
  cases a; cases b
  simp only at h
  simp only [E.mk.injEq]
  exact ⟨h.1, h.2.1, h.2.2.1, h.2.2.2.1, val_inj h.2.2.2.2⟩
/-- rows of messages, flat -/
def flat (l : List E) : List Value := (l.map cells).flatten
theorem flat_len {l : List E} (h : ∀ e ∈ l, Ok e) : (flat l).length = l.length * 20 := by
  induction l with
  | nil => rfl
  | cons x l ih =>
    have := ih (fun e he => h e (List.mem_cons_of_mem _ he))
    have h1 := (h x (List.mem_cons_self ..)).len
    unfold flat at this ⊢
    simp only [List.map_cons, List.flatten_cons, List.length_append, List.length_cons]
    omega
theorem flat_at {l : List E} (h : ∀ e ∈ l, Ok e) {j : Nat} {e : E} (hj : l[j]? = some e) {i : Nat} {c : Value} (hi : (cells e)[i]? = some c) : (flat l)[j * 20 + i]? = some c := by
  induction l generalizing j with
  | nil => cases hj
  | cons x l ih =>
    have h1 := (h x (List.mem_cons_self ..)).len
    unfold flat at ih ⊢
    simp only [List.map_cons, List.flatten_cons]
    cases j with
    | zero =>
      obtain rfl : x = e := by simpa using hj
      have := (List.getElem?_eq_some_iff.1 hi).1
      rw [List.getElem?_append_left (by omega), Nat.zero_mul, Nat.zero_add]
      exact hi
    | succ j =>
      rw [List.getElem?_append_right (by omega), h1, show (j + 1) * 20 + i - 20 = j * 20 + i by omega]
      exact ih (fun e he => h e (List.mem_cons_of_mem _ he)) (by simpa using hj)
theorem flat_app (l m : List E) : flat (l ++ m) = flat l ++ flat m := by unfold flat; simp
theorem flat_one (e : E) : flat [e] = cells e := by unfold flat; simp
/-- messages in memory -/
structure LsIn (w : World) (a : Option Addr) (c : Nat) (l : List E) : Prop where
  rows : Ev.RowsIn w a 20 (l.map cells)
  ok : ∀ e ∈ l, Ok e
  le : l.length ≤ c
  max : c ≤ 9223372036854775807
theorem LsIn.kp {w w' : World} {a c l} (h : LsIn w a c l) (k : Ev.Kp w w') : LsIn w' a c l := ⟨h.rows.kp k, h.ok, h.le, h.max⟩
theorem LsIn.at_ {w : World} {a c l} (h : LsIn w a c l) {k : Nat} {e : E} (hk : l[k]? = some e) :
    ∃ g o, a = some ⟨g, o, none⟩ ∧ (∀ i c, (cells e)[i]? = some c → w.cell? ⟨g, o + k * 20 + i, none⟩ = some c) := by
  have hl := (List.getElem?_eq_some_iff.1 hk).1
  obtain ⟨g, o, e1, hc⟩ := h.rows (by simp; omega)
  exact ⟨g, o, e1, fun i c hi => hc k (cells e) (by rw [List.getElem?_map, hk]; rfl) i c hi⟩
theorem LsIn.ok_ {w : World} {a c l} (h : LsIn w a c l) {k : Nat} {e : E} (hk : l[k]? = some e) : Ok e := h.ok e (List.mem_of_getElem? hk)
theorem LsIn.nil (w : World) : LsIn w none 0 [] := ⟨fun h => absurd h (by simp), fun e h => (by cases h), Nat.le_refl _, by decide⟩
theorem add_at (g j : Nat) : (⟨g, 0, none⟩ : Addr).add j = ⟨g, j, none⟩ := by unfold Addr.add; split <;> simp_all
/-- what turns of a world lies in blocks of F, or is new -/
structure Fr (F : Nat → Prop) (w w' : World) : Prop where
  os : w'.os = w.os
  tape : w'.tape = w.tape
  output : w'.output = w.output
  size : w.heap.size ≤ w'.heap.size
  block : ∀ k, k < w.heap.size → ¬ F k → w'.heap[k]? = w.heap[k]?
theorem Fr.refl (F : Nat → Prop) (w : World) : Fr F w w := ⟨rfl, rfl, rfl, Nat.le_refl _, fun _ _ _ => rfl⟩
theorem Fr.of_below {F : Nat → Prop} {w w' : World} (h : Below w.heap.size w w') : Fr F w w' := ⟨h.os, h.tape, h.output, h.size, fun k hk _ => h.block k hk⟩
theorem Fr.trans {F G : Nat → Prop} {a b c : World} (h : Fr F a b) (k : Fr G b c) (hg : ∀ i, G i → F i ∨ a.heap.size ≤ i) : Fr F a c :=
  ⟨k.os.trans h.os, k.tape.trans h.tape, k.output.trans h.output, Nat.le_trans h.size k.size, fun i hi hf =>
    (k.block i (Nat.lt_of_lt_of_le hi h.size) (fun hG => by rcases hg i hG with h1 | h1; exact hf h1; omega)).trans (h.block i hi hf)⟩
theorem Fr.below {F : Nat → Prop} {B : Nat} {a b c : World} (h : Below B a b) (k : Fr F b c) (hf : ∀ i, F i → B ≤ i) (hB : B ≤ a.heap.size) : Below B a c :=
  ⟨k.os.trans h.os, k.tape.trans h.tape, k.output.trans h.output, Nat.le_trans h.size k.size, fun i hi =>
    (k.block i (by have := h.size; omega) (fun hF => by have := hf i hF; omega)).trans (h.block i hi)⟩
/-- a list of one's own: it has no room, or stands in a block of F -/
def Own (w : World) (F : Nat → Prop) (a : Option Addr) (c : Nat) (l : List E) : Prop :=
  (l = [] ∧ c = 0) ∨ ∃ g cur, a = some ⟨g, 0, none⟩ ∧ F g ∧ w.heap[g]? = some (.cells cur 57 (0, 0)) ∧ l.length ≤ c ∧ c ≤ maxLen ∧ c * 20 ≤ cur.size ∧ cur.toList.take (l.length * 20) = flat l
theorem Own.mono {w : World} {F G : Nat → Prop} {a c l} (h : Own w F a c l) (hFG : ∀ k, F k → G k) : Own w G a c l := by
  rcases h with h | ⟨g, cur, e, hf, r⟩
  · exact .inl h
  · exact .inr ⟨g, cur, e, hFG g hf, r⟩
theorem Own.kept {w w' : World} {F : Nat → Prop} {a c l} (h : Own w F a c l) (hb : ∀ k, F k → k < w.heap.size → w'.heap[k]? = w.heap[k]?) : Own w' F a c l := by
  rcases h with h | ⟨g, cur, e, hf, hg, r⟩
  · exact .inl h
  · exact .inr ⟨g, cur, e, hf, (hb g hf (Array.getElem?_eq_some_iff.1 hg).1).trans hg, r⟩
theorem Own.kp {w w' : World} {F : Nat → Prop} {a c l} (h : Own w F a c l) (hb : Below w.heap.size w w') : Own w' F a c l := h.kept fun k _ hk => hb.block k hk
/-- only the blocks that stand there matter -/
theorem Own.lt {w : World} {F : Nat → Prop} {a c l} (h : Own w F a c l) : Own w (fun k => F k ∧ k < w.heap.size) a c l := by
  rcases h with h | ⟨g, cur, e, hf, hg, r⟩
  · exact .inl h
  · exact .inr ⟨g, cur, e, ⟨hf, (Array.getElem?_eq_some_iff.1 hg).1⟩, hg, r⟩
theorem Own.le {w : World} {F : Nat → Prop} {a c l} (h : Own w F a c l) : l.length ≤ c ∧ c ≤ maxLen := by
  rcases h with ⟨rfl, rfl⟩ | ⟨g, cur, e, hf, hg, h1, h2, _⟩
  · exact ⟨Nat.le_refl _, by unfold maxLen; omega⟩
  · exact ⟨h1, h2⟩
theorem take_at {cs xs : List Value} {n i : Nat} {c : Value} (h : cs.take n = xs) (hi : xs[i]? = some c) : cs[i]? = some c := by
  rw [← h, List.getElem?_take] at hi
  split at hi
  · exact hi
  · cases hi
theorem Own.ls {w : World} {F : Nat → Prop} {a c l} (h : Own w F a c l) (hok : ∀ e ∈ l, Ok e) : LsIn w a c l := by
  have hle := h.le
  rcases h with ⟨rfl, rfl⟩ | ⟨g, cur, rfl, hf, hg, h1, h2, h3, h4⟩
  · exact ⟨fun h => absurd h (by simp), hok, Nat.le_refl _, by decide⟩
  · refine ⟨fun _ => ⟨g, 0, rfl, fun j v hv i c hi => ?_⟩, hok, h1, by unfold maxLen at h2; omega⟩
    rw [List.getElem?_map] at hv
    obtain ⟨e, he, rfl⟩ := Option.map_eq_some_iff.1 hv
    rw [Nat.zero_add, cell_of_row _ _ _ _ _ _ hg]
    have := take_at h4 (flat_at hok he hi)
    simpa using this
theorem Own.nil (w : World) (F : Nat → Prop) : Own w F none 0 [] := .inl ⟨rfl, rfl⟩
/-- a net: its block p, how many there may be, the messages on their way; F: the blocks that are its own -/
structure Nin (w : World) (F : Nat → Prop) (p most : Nat) (a : Option Addr) (c : Nat) (l : List E) : Prop where
  box : w.heap[p]? = some (.cells #[.int .i64 (most : Int), .slice a l.length c] 110 (0, 0))
  own : Own w F a c l
  fp : F p
  lt : ∀ k, F k → k < w.heap.size
  ok : ∀ e ∈ l, Ok e
  pos : 0 < most
  max : most ≤ 1024
  len : l.length ≤ most
theorem Nin.kept {w w' : World} {F p most a c l} (h : Nin w F p most a c l) (hs : w.heap.size ≤ w'.heap.size) (hb : ∀ k, F k → w'.heap[k]? = w.heap[k]?) : Nin w' F p most a c l :=
  ⟨(hb p h.fp).trans h.box, h.own.kept fun k hk _ => hb k hk, h.fp, fun k hk => Nat.lt_of_lt_of_le (h.lt k hk) hs, h.ok, h.pos, h.max, h.len⟩
theorem Nin.kp {w w' : World} {F p most a c l} (h : Nin w F p most a c l) (hb : Below w.heap.size w w') : Nin w' F p most a c l := h.kept hb.size fun k hk => hb.block k (h.lt k hk)
theorem Nin.c0 {w : World} {F p most a c l} (h : Nin w F p most a c l) : w.cell? ⟨p, 0, none⟩ = some (.int .i64 (most : Int)) := by rw [cell_of_row _ _ _ _ _ _ h.box]; rfl
theorem Nin.c1 {w : World} {F p most a c l} (h : Nin w F p most a c l) : w.cell? ⟨p, 1, none⟩ = some (.slice a l.length c) := by rw [cell_of_row _ _ _ _ _ _ h.box]; rfl
theorem Nin.ls {w : World} {F p most a c l} (h : Nin w F p most a c l) : LsIn w a c l := h.own.ls h.ok
/-- a net, told by its messages -/
def Net (w : World) (F : Nat → Prop) (p most : Nat) (l : List E) : Prop := ∃ a c, Nin w F p most a c l
theorem Net.kp {w w' : World} {F p most l} (h : Net w F p most l) (hb : Below w.heap.size w w') : Net w' F p most l := by
  obtain ⟨a, c, h⟩ := h
  exact ⟨a, c, h.kp hb⟩
theorem Net.lt {w : World} {F p most l} (h : Net w F p most l) : ∀ k, F k → k < w.heap.size := by
  obtain ⟨a, c, h⟩ := h
  exact h.lt
theorem Net.ok {w : World} {F p most l} (h : Net w F p most l) : ∀ e ∈ l, Ok e := by
  obtain ⟨a, c, h⟩ := h
  exact h.ok
theorem Net.len {w : World} {F p most l} (h : Net w F p most l) : l.length ≤ 1024 := by
  obtain ⟨a, c, h⟩ := h
  exact Nat.le_trans h.len h.max
theorem Net.kept {w w' : World} {F p most l} (h : Net w F p most l) (hs : w.heap.size ≤ w'.heap.size) (hb : ∀ k, F k → w'.heap[k]? = w.heap[k]?) : Net w' F p most l := by
  obtain ⟨a, c, h⟩ := h
  exact ⟨a, c, h.kept hs hb⟩
/-- a net turns -/
def Turns (F : Nat → Prop) (w w' : World) (p most : Nat) (l : List E) : Prop := ∃ F', Net w' F' p most l ∧ Fr F w w' ∧ ∀ k, F' k → F k ∨ w.heap.size ≤ k
theorem set_row {w : World} {g i : Nat} {cs : Array Value} {t : TypeId} (v : Value) (h : w.heap[g]? = some (.cells cs t (0, 0))) : (w.setCell ⟨g, i, none⟩ v).heap[g]? = some (.cells (cs.setIfInBounds i v) t (0, 0)) := by
  obtain ⟨hlt, hk⟩ := Array.getElem?_eq_some_iff.1 h
  show (w.heap.modify g _)[g]? = _
  rw [Array.getElem?_eq_getElem (by rw [Array.size_modify]; exact hlt), Array.getElem_modify_self, hk]
  rfl
theorem grown_cell (w : World) (b i : Nat) (v : Value) : w.grownBy (w.setCell ⟨b, i, none⟩ v) (some b) :=
  ⟨rfl, rfl, rfl, (KeepsWalks.setCell w _ v).size, fun k _ hk => Below.heap_setCell _ _ _ k (fun e => hk (by rw [e]))⟩
theorem free_row {w : World} {g i : Nat} {cs : Array Value} {t : TypeId} (h : w.heap[g]? = some (.cells cs t (0, 0))) : w.frozen? ⟨g, i, none⟩ = false := by simp [World.frozen?, h]
set_option maxRecDepth 100000 in
theorem info_msg : ∃ i, Try.prog.info? 57 = some i ∧ i.zero = some (EV E0) ∧ i.size = 20 ∧ i.bytes = 48 := ⟨_, rfl, by kernel_rfl, by kernel_rfl, by kernel_rfl⟩
theorem size_msg : (Try.prog.info? 57).map (·.size) = some 20 := by kernel_rfl
end Nt
end Go.Proofs.Ytnfpcklpmfemiaa
