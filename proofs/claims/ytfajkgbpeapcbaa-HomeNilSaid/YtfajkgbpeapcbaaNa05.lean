import Derived.Test.YtfajkgbpeapcbaaNa02
import Derived.Test.YtfajkgbpeapcbaaNa01
import Derived.Test.YtfajkgbpeapcbaaNa04
import Derived.Test.YtfajkgbpeapcbaaProg
import Derived.RangeFuncBox
import Derived.Laws.ResultCell
import Derived.Laws.AppendOwn
import Derived.Deep.AppendLies
import Derived.Deep.MidRow
import Derived.Laws.CopyOwn
set_option linter.unusedVariables false
set_option linter.unusedSimpArgs false

section
namespace Go.Proofs.Ytfajkgbpeapcbaa
open Go.RowKit
namespace Nt
structure E where
  k : Int
  f : Int
  t : Int
  n : Int
  b : List Int
def cells (e : E) : List Value := .int .i64 e.k :: .int .i64 e.f :: .int .i64 e.t :: .int .u32 e.n :: e.b.map (Value.int .u8)
structure Ok (e : E) : Prop where
  k : Ev.i64B e.k
  f : Ev.i64B e.f
  t : Ev.i64B e.t
  n : Ev.u32B e.n
  b : e.b.length = 16
def EV (e : E) : Value := .agg (cells e).toArray
def E0 : E := ⟨0, 0, 0, 0, [0, 0, 0, 0, 0, 0, 0, 0, 0, 0, 0, 0, 0, 0, 0, 0]⟩
theorem Ok.len {e : E} (h : Ok e) : (cells e).length = 20 := by unfold cells; simp [h.b]
theorem Ok.size {e : E} (h : Ok e) : (cells e).toArray.size = 20 := by simp [h.len]
theorem cells_one (e : E) : ∀ u ∈ cells e, u.oneCell' = true := by
  intro u hu
  unfold cells at hu
  rcases List.mem_cons.1 hu with rfl | hu
  · rfl
  rcases List.mem_cons.1 hu with rfl | hu
  · rfl
  rcases List.mem_cons.1 hu with rfl | hu
  · rfl
  rcases List.mem_cons.1 hu with rfl | hu
  · rfl
  obtain ⟨x, _, rfl⟩ := List.mem_map.1 hu
  rfl
theorem cells_all (e : E) : (cells e).toArray.all (·.oneCell') = true := by
  rw [Array.all_eq_true']
  intro u hu
  exact cells_one e u (by simpa using hu)
theorem cell0 (e : E) : (cells e)[0]? = some (.int .i64 e.k) := rfl
theorem cell1 (e : E) : (cells e)[1]? = some (.int .i64 e.f) := rfl
theorem cell2 (e : E) : (cells e)[2]? = some (.int .i64 e.t) := rfl
def flat (l : List E) : List Value := (l.map cells).flatten
theorem flat_len {l : List E} (h : ∀ e ∈ l, Ok e) : (flat l).length = l.length * 20 := by
  induction l with
  | nil => rfl
  | cons x l ih =>
    have := ih (fun e he => h e (List.mem_cons_of_mem _ he))
    have h1 := (h x (List.mem_cons_self ..)).len
    unfold flat at this ⊢
    simp only [List.map_cons, List.flatten_cons, List.length_append, List.length_cons]
    omega
theorem flat_at {l : List E} (h : ∀ e ∈ l, Ok e) {j : Nat} {e : E} (hj : l[j]? = some e) {i : Nat} {c : Value} (hi : (cells e)[i]? = some c) : (flat l)[j * 20 + i]? = some c := by
  induction l generalizing j with
  | nil => cases hj
  | cons x l ih =>
    have h1 := (h x (List.mem_cons_self ..)).len
    unfold flat at ih ⊢
    simp only [List.map_cons, List.flatten_cons]
    cases j with
    | zero =>
      obtain rfl : x = e := by simpa using hj
      have := (List.getElem?_eq_some_iff.1 hi).1
      rw [List.getElem?_append_left (by omega), Nat.zero_mul, Nat.zero_add]
      exact hi
    | succ j =>
      rw [List.getElem?_append_right (by omega), h1, show (j + 1) * 20 + i - 20 = j * 20 + i by omega]
      exact ih (fun e he => h e (List.mem_cons_of_mem _ he)) (by simpa using hj)
theorem flat_app (l m : List E) : flat (l ++ m) = flat l ++ flat m := by unfold flat; simp
structure LsIn (w : World) (a : Option Addr) (c : Nat) (l : List E) : Prop where
  rows : Ev.RowsIn w a 20 (l.map cells)
  ok : ∀ e ∈ l, Ok e
  le : l.length ≤ c
  max : c ≤ 9223372036854775807
theorem LsIn.kp {w w' : World} {a c l} (h : LsIn w a c l) (k : Ev.Kp w w') : LsIn w' a c l := ⟨h.rows.kp k, h.ok, h.le, h.max⟩
theorem LsIn.at_ {w : World} {a c l} (h : LsIn w a c l) {k : Nat} {e : E} (hk : l[k]? = some e) :
    ∃ g o, a = some ⟨g, o, none⟩ ∧ (∀ i c, (cells e)[i]? = some c → w.cell? ⟨g, o + k * 20 + i, none⟩ = some c) := by
  have hl := (List.getElem?_eq_some_iff.1 hk).1
  obtain ⟨g, o, e1, hc⟩ := h.rows (by simp; omega)
  exact ⟨g, o, e1, fun i c hi => hc k (cells e) (by rw [List.getElem?_map, hk]; rfl) i c hi⟩
theorem LsIn.nil (w : World) : LsIn w none 0 [] := ⟨fun h => absurd h (by simp), fun e h => (by cases h), Nat.le_refl _, by decide⟩
structure Fr (F : Nat → Prop) (w w' : World) : Prop where
  os : w'.os = w.os
  tape : w'.tape = w.tape
  output : w'.output = w.output
  size : w.heap.size ≤ w'.heap.size
  block : ∀ k, k < w.heap.size → ¬ F k → w'.heap[k]? = w.heap[k]?
theorem Fr.refl (F : Nat → Prop) (w : World) : Fr F w w := ⟨rfl, rfl, rfl, Nat.le_refl _, fun _ _ _ => rfl⟩
theorem Fr.of_below {F : Nat → Prop} {w w' : World} (h : Below w.heap.size w w') : Fr F w w' := ⟨h.os, h.tape, h.output, h.size, fun k hk _ => h.block k hk⟩
theorem Fr.trans {F G : Nat → Prop} {a b c : World} (h : Fr F a b) (k : Fr G b c) (hg : ∀ i, G i → F i ∨ a.heap.size ≤ i) : Fr F a c :=
  ⟨k.os.trans h.os, k.tape.trans h.tape, k.output.trans h.output, Nat.le_trans h.size k.size, fun i hi hf =>
    (k.block i (Nat.lt_of_lt_of_le hi h.size) (fun hG => by rcases hg i hG with h1 | h1; exact hf h1; omega)).trans (h.block i hi hf)⟩
theorem Fr.below {F : Nat → Prop} {B : Nat} {a b c : World} (h : Below B a b) (k : Fr F b c) (hf : ∀ i, F i → B ≤ i) (hB : B ≤ a.heap.size) : Below B a c :=
  ⟨k.os.trans h.os, k.tape.trans h.tape, k.output.trans h.output, Nat.le_trans h.size k.size, fun i hi =>
    (k.block i (by have := h.size; omega) (fun hF => by have := hf i hF; omega)).trans (h.block i hi)⟩
def Own (w : World) (F : Nat → Prop) (a : Option Addr) (c : Nat) (l : List E) : Prop :=
  (l = [] ∧ c = 0) ∨ ∃ g cur, a = some ⟨g, 0, none⟩ ∧ F g ∧ w.heap[g]? = some (.cells cur 67 (0, 0)) ∧ l.length ≤ c ∧ c ≤ maxLen ∧ c * 20 ≤ cur.size ∧ cur.toList.take (l.length * 20) = flat l
theorem Own.mono {w : World} {F G : Nat → Prop} {a c l} (h : Own w F a c l) (hFG : ∀ k, F k → G k) : Own w G a c l := by
  rcases h with h | ⟨g, cur, e, hf, r⟩
  · exact .inl h
  · exact .inr ⟨g, cur, e, hFG g hf, r⟩
theorem Own.kept {w w' : World} {F : Nat → Prop} {a c l} (h : Own w F a c l) (hb : ∀ k, F k → k < w.heap.size → w'.heap[k]? = w.heap[k]?) : Own w' F a c l := by
  rcases h with h | ⟨g, cur, e, hf, hg, r⟩
  · exact .inl h
  · exact .inr ⟨g, cur, e, hf, (hb g hf (Array.getElem?_eq_some_iff.1 hg).1).trans hg, r⟩
theorem Own.kp {w w' : World} {F : Nat → Prop} {a c l} (h : Own w F a c l) (hb : Below w.heap.size w w') : Own w' F a c l := h.kept fun k _ hk => hb.block k hk
theorem Own.lt {w : World} {F : Nat → Prop} {a c l} (h : Own w F a c l) : Own w (fun k => F k ∧ k < w.heap.size) a c l := by
  rcases h with h | ⟨g, cur, e, hf, hg, r⟩
  · exact .inl h
  · exact .inr ⟨g, cur, e, ⟨hf, (Array.getElem?_eq_some_iff.1 hg).1⟩, hg, r⟩
theorem Own.le {w : World} {F : Nat → Prop} {a c l} (h : Own w F a c l) : l.length ≤ c ∧ c ≤ maxLen := by
  rcases h with ⟨rfl, rfl⟩ | ⟨g, cur, e, hf, hg, h1, h2, _⟩
  · exact ⟨Nat.le_refl _, by unfold maxLen; omega⟩
  · exact ⟨h1, h2⟩
theorem take_at {cs xs : List Value} {n i : Nat} {c : Value} (h : cs.take n = xs) (hi : xs[i]? = some c) : cs[i]? = some c := by
  rw [← h, List.getElem?_take] at hi
  split at hi
  · exact hi
  · cases hi
theorem Own.ls {w : World} {F : Nat → Prop} {a c l} (h : Own w F a c l) (hok : ∀ e ∈ l, Ok e) : LsIn w a c l := by
  have hle := h.le
  rcases h with ⟨rfl, rfl⟩ | ⟨g, cur, rfl, hf, hg, h1, h2, h3, h4⟩
  · exact ⟨fun h => absurd h (by simp), hok, Nat.le_refl _, by decide⟩
  · refine ⟨fun _ => ⟨g, 0, rfl, fun j v hv i c hi => ?_⟩, hok, h1, by unfold maxLen at h2; omega⟩
    rw [List.getElem?_map] at hv
    obtain ⟨e, he, rfl⟩ := Option.map_eq_some_iff.1 hv
    rw [Nat.zero_add, cell_of_row _ _ _ _ _ _ hg]
    have := take_at h4 (flat_at hok he hi)
    simpa using this
theorem Own.nil (w : World) (F : Nat → Prop) : Own w F none 0 [] := .inl ⟨rfl, rfl⟩
theorem set_row {w : World} {g i : Nat} {cs : Array Value} {t : TypeId} (v : Value) (h : w.heap[g]? = some (.cells cs t (0, 0))) : (w.setCell ⟨g, i, none⟩ v).heap[g]? = some (.cells (cs.setIfInBounds i v) t (0, 0)) := by
  obtain ⟨hlt, hk⟩ := Array.getElem?_eq_some_iff.1 h
  show (w.heap.modify g _)[g]? = _
  rw [Array.getElem?_eq_getElem (by rw [Array.size_modify]; exact hlt), Array.getElem_modify_self, hk]
  rfl
set_option maxRecDepth 100000 in
theorem info_msg : ∃ i, Try.prog.info? 67 = some i ∧ i.zero = some (EV E0) ∧ i.size = 20 ∧ i.bytes = 48 := ⟨_, rfl, by kernel_rfl, by kernel_rfl, by kernel_rfl⟩
theorem size_msg : (Try.prog.info? 67).map (·.size) = some 20 := by kernel_rfl
end Nt
end Go.Proofs.Ytfajkgbpeapcbaa
end

section
namespace Go.Proofs.Ytfajkgbpeapcbaa
set_option maxRecDepth 100000
open Go.RowKit Go.Maps
def Arr (w : World) (r : Nat) (ls : List Int) : Prop := w.heap[r]? = some (.cells (Im.vals ls).toArray 25 (0, 0))
theorem size45 : (Try.prog.info? 25).map (·.size) = some 16 := by kernel_rfl
theorem one_vals (ls : List Int) : (Im.vals ls).toArray.all (·.oneCell') = true := all_oneCell_toArray (ints_oneCell .u8 ls)
theorem run_arrayAt (w : World) (g o n c : Nat) (h : 16 ≤ n) : (Instr.arrayAt 25 (.slice (some ⟨g, o, none⟩) n c)).run Try.prog w = .ok (.pointer (some ⟨g, o, none⟩)) w := by
  have h' : ¬ n < 16 := by omega
  simp [Instr.arrayAt, run_underlying Try.underlying25, h']
theorem Row.range {w : World} {g : Nat} {bs : List Int} (h : Row w g bs) {o n : Nat} (ho : o + n ≤ bs.length) : w.rangeAt g o (Im.vals (Im.win bs o n)) := by
  intro j v hv
  have hj : j < n := by
    have := (List.getElem?_eq_some_iff.1 hv).1
    simpa [Im.vals, Im.length_win ho] using this
  have e : (Im.win bs o n)[j]? = some (bs.getD (o + j) 0) := by
    have h1 := Im.get_win bs o n j hj
    rw [List.getD_eq_getElem?_getD, List.getElem?_eq_getElem (by rw [Im.length_win ho]; exact hj), Option.getD_some] at h1
    rw [List.getElem?_eq_getElem (by rw [Im.length_win ho]; exact hj), h1]
  rw [h.cell (by omega)]
  simp [Im.vals, e] at hv
  rw [← hv]; simp
theorem len_vals (ls : List Int) : (Im.vals ls).length = ls.length := by simp [Im.vals]
theorem grownBy_setRow {a w : World} {g : Nat} (h : a.grownBy w (some g)) (cs : Array Value) : a.grownBy (w.setRow g cs) (some g) :=
  grownBy_trans h ⟨rfl, rfl, rfl, by simp, fun k _ hn => setRow_other _ _ _ _ (by simpa using hn)⟩
theorem line1_any (g o cap r : Nat) (bs ls : List Int) (w : World) (hr : Row w g bs) (ho : o + 16 ≤ bs.length) (hl : ls.length = 16) (hc : Arr w r ls) :
    Calls Try.prog 103 #[.slice (some ⟨g, o, none⟩) 16 cap, .pointer (some ⟨r, 0, none⟩)] w fun e w' => e = .returned (.tuple #[]) ∧ Arr w' r (Im.win bs o 16) ∧ w.grownBy w' (some r) := by
  have HR := Lib.hid hr; have HC := Lib.hid hc; clear hr hc
  have HLL := Lib.hid hl; clear hl
  have hat := fun (w : World) => run_arrayAt w g o 16 cap (Nat.le_refl _)
  go_enter Try.func103, Try.ntmps103
  go_wp2_with (first
    | (refine wpList_load_mid rfl 25 _ rfl g o rfl (Im.vals (Im.win bs o 16)) _ ?_ Try.underlying25 rfl ?_ ?_; rotate_right)
    | (refine wpList_store_row rfl 25 _ _ rfl r (Im.vals (Im.win bs o 16)).toArray rfl rfl 25 _ HC.out ?_ ?_ (one_vals _) ?_; rotate_right))
  · go_end0
    exact ⟨rfl, setRow_heap _ _ _ _ _ _ HC.out, grownBy_setRow (World.grownBy.refl _ _) _⟩
  · rw [size45, List.size_toArray, len_vals, Im.length_win ho]
  · rw [List.size_toArray, List.size_toArray, len_vals, len_vals, Im.length_win ho, HLL.out]
  · exact HR.out.range ho
  · rw [size45, len_vals, Im.length_win ho]
theorem setline1_any (g o cap r : Nat) (bs ls : List Int) (w : World) (hr : Row w g bs) (ho : o + 16 ≤ bs.length) (hl : ls.length = 16) (hc : Arr w r ls) :
    Calls Try.prog 120 #[.slice (some ⟨g, o, none⟩) 16 cap, .pointer (some ⟨r, 0, none⟩)] w fun e w' => e = .returned (.tuple #[]) ∧ Row w' g (Im.sets bs o (Im.nth ls) 16) ∧ w.grownBy w' (some g) := by
  have HR := Lib.hid hr; have HC := Lib.hid hc; clear hr hc
  have HLL := Lib.hid hl; clear hl
  go_enter Try.func120, Try.ntmps120
  have hsrc : ∀ (j : Nat) (v : Value), (Im.vals ls)[j]? = some v → w.cell? ((⟨r, 0, none⟩ : Addr).add j) = some v := fun j v hv => by
    have e : (⟨r, 0, none⟩ : Addr).add j = ⟨r, j, none⟩ := by unfold Addr.add; split <;> simp_all
    rw [e, cell_of_row w r j _ _ _ HC.out]; simpa using hv
  have HSRC := Lib.hid hsrc; clear hsrc
  go_wp2_with (refine wpList_copy_own (o := ⟨some 5, _, _, _, _, _⟩) rfl (.tmp 3) (.tmp 4) 55 55 rfl 5 Try.underlying55 (by kernel_rfl) g o 16 cap ⟨r, 0, none⟩ 16 16 rfl rfl (Im.vals bs).toArray 5 HR.out (Im.vals ls) ?_ HSRC.out ?_ (ints_oneCell .u8 ls) ?_; rotate_right)
  · go_end0
    refine ⟨rfl, ?_, grownBy_setRow (World.grownBy.refl _ _) _⟩
    have e := Im.sets_splice bs ls o (by rw [HLL.out]; exact ho)
    rw [HLL.out] at e
    unfold Row
    rw [← e, setRow_heap _ _ _ _ _ _ HR.out]
    simp [Im.vals, HLL.out]
  · rw [len_vals, HLL.out]; rfl
  · rw [len_vals, HLL.out, List.size_toArray, len_vals]; exact ho
end Go.Proofs.Ytfajkgbpeapcbaa
end
