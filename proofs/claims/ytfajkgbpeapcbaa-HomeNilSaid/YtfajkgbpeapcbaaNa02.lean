import Derived.WalkKit
import Derived.Laws.BitsAllLaws
import Derived.Lib.Hide
import Derived.Test.YtfajkgbpeapcbaaRows
import Derived.Test.YtfajkgbpeapcbaaNa01
import Derived.Below
import Derived.Laws.Rows
import Derived.Laws.Tables
set_option linter.unusedVariables false
set_option linter.unusedSimpArgs false

section
namespace Go.Proofs.Ytfajkgbpeapcbaa
open Go.RowKit
namespace Im
def Byt (l : List Int) : Prop := ∀ x ∈ l, 0 ≤ x ∧ x ≤ 255
def vals (l : List Int) : List Value := l.map (Value.int .u8)
def val : List Int → Int
  | [] => 0
  | x :: r => x + 256 * val r
def sets (bs : List Int) (off : Nat) (f : Nat → Int) : Nat → List Int
  | 0 => bs
  | k + 1 => (sets bs off f k).set (off + k) (f k)
def byt (v : Int) (i : Nat) : Int := v / 256 ^ i % 256
def win (bs : List Int) (off k : Nat) : List Int := (bs.drop off).take k
def okB (n : Int) : Bool := n == 16 || n == 32 || n == 64 || n == 128 || n == 256 || n == 512 || n == 1024 || n == 2048 || n == 4096
theorem okB_iff {n : Int} : okB n = true ↔ n = 16 ∨ n = 32 ∨ n = 64 ∨ n = 128 ∨ n = 256 ∨ n = 512 ∨ n = 1024 ∨ n = 2048 ∨ n = 4096 := by
  simp [okB, or_assoc]
theorem okB_bd {n : Int} (h : okB n = true) : 16 ≤ n ∧ n ≤ 4096 ∧ n % 16 = 0 := by
  rw [okB_iff] at h; omega
theorem and_small2 : ∀ a : Nat, a < 65 → ∀ b : Nat, b < 64 → ((16 ≤ a * 64 + b ∧ a * 64 + b ≤ 4096 ∧ (a * 64 + b) &&& (a * 64 + b - 1) = 0) ↔ okB ((a * 64 + b : Nat) : Int) = true) := by decide +kernel
theorem and_small (k : Nat) (h : k < 4097) : (16 ≤ k ∧ k &&& (k - 1) = 0) ↔ okB (k : Int) = true := by
  have := and_small2 (k / 64) (by omega) (k % 64) (by omega)
  rw [show k / 64 * 64 + k % 64 = k by omega] at this
  rw [← this]
  exact ⟨fun ⟨a, b⟩ => ⟨a, by omega, b⟩, fun ⟨a, _, b⟩ => ⟨a, b⟩⟩
theorem okB_and {n : Int} (h1 : 16 ≤ n) (h2 : n ≤ 4096) : okB n = decide (bits .and .i64 n (n - 1) = 0) := by
  obtain ⟨k, rfl⟩ := Int.eq_ofNat_of_zero_le (show 0 ≤ n by omega)
  have hk : k < 4097 := by omega
  have e1 : ((k : Int) - 1) = ((k - 1 : Nat) : Int) := by omega
  have hb := (bits_nat .i64 63 (by decide) (fun n h0 h1 => by rw [IntKind.wrap_i64]; omega) k (k - 1) (by omega) (by omega)).1
  rw [e1, hb]
  have := and_small k hk
  rw [Bool.eq_iff_iff, decide_eq_true_iff, ← this]
  constructor
  · rintro ⟨_, h⟩; rw [h]; rfl
  · intro h; exact ⟨by omega, by exact_mod_cast h⟩
theorem okB_no {n : Int} (h : n < 16 ∨ 4096 < n) : okB n = false := by
  rw [Bool.eq_false_iff]; intro h'; have := okB_bd h'; omega
theorem length_sets (bs : List Int) (off : Nat) (f : Nat → Int) (k : Nat) : (sets bs off f k).length = bs.length := by
  induction k with
  | zero => rfl
  | succ k ih => simp [sets, ih]
theorem get_sets (bs : List Int) (off : Nat) (f : Nat → Int) (k : Nat) (h : off + k ≤ bs.length) (j : Nat) :
    (sets bs off f k).getD j 0 = if off ≤ j ∧ j < off + k then f (j - off) else bs.getD j 0 := by
  induction k with
  | zero => simp only [sets]; rw [if_neg (by omega)]
  | succ k ih =>
    have ih := ih (by omega)
    simp only [sets, List.getD_eq_getElem?_getD, List.getElem?_set, length_sets] at ih ⊢
    by_cases hj : off + k = j
    · subst hj
      rw [if_pos rfl, if_pos (by omega), if_pos (by omega)]
      simp
    · rw [if_neg hj, ih]
      by_cases h1 : off ≤ j ∧ j < off + k
      · rw [if_pos h1, if_pos (by omega)]
      · rw [if_neg h1, if_neg (by omega)]
theorem ext_getD {l l' : List Int} (hl : l.length = l'.length) (h : ∀ j, j < l.length → l.getD j 0 = l'.getD j 0) : l = l' := by
  apply List.ext_getElem hl
  intro j h1 h2
  have := h j h1
  simpa [List.getD_eq_getElem?_getD, h1, h2] using this
theorem getD_byt {l : List Int} (h : Byt l) (j : Nat) : 0 ≤ l.getD j 0 ∧ l.getD j 0 ≤ 255 := by
  rw [List.getD_eq_getElem?_getD]
  by_cases hj : j < l.length
  · rw [List.getElem?_eq_getElem hj]; exact h _ (List.getElem_mem hj)
  · rw [List.getElem?_eq_none (by omega)]; exact ⟨Int.le_refl _, by decide⟩
theorem byt_sets {bs : List Int} (hb : Byt bs) (off : Nat) (f : Nat → Int) (k : Nat) (hf : ∀ i, i < k → 0 ≤ f i ∧ f i ≤ 255) : Byt (sets bs off f k) := by
  induction k with
  | zero => exact hb
  | succ k ih =>
    have ih := ih (fun i hi => hf i (by omega))
    intro x hx
    rcases List.mem_or_eq_of_mem_set hx with h | h
    · exact ih x h
    · subst h; exact hf k (by omega)
theorem length_win {bs : List Int} {off k : Nat} (h : off + k ≤ bs.length) : (win bs off k).length = k := by simp [win]; omega
theorem get_win (bs : List Int) (off k j : Nat) (hj : j < k) : (win bs off k).getD j 0 = bs.getD (off + j) 0 := by
  simp [win, List.getD_eq_getElem?_getD, hj, List.getElem?_drop]
def nth (ls : List Int) (i : Nat) : Int := ls.getD i 0
theorem sets_splice (bs ls : List Int) (o : Nat) (h : o + ls.length ≤ bs.length) : bs.take o ++ (ls ++ bs.drop (o + ls.length)) = sets bs o (nth ls) ls.length := by
  apply ext_getD
  · rw [length_sets]; simp; omega
  · intro j hj
    rw [get_sets _ _ _ _ h]
    simp only [nth, List.getD_eq_getElem?_getD]
    by_cases h1 : j < o
    · rw [if_neg (by omega), List.getElem?_append_left (by simp; omega), List.getElem?_take_of_lt h1]
    · rw [List.getElem?_append_right (by simp; omega)]
      have e : (bs.take o).length = o := by simp; omega
      rw [e]
      by_cases h2 : j < o + ls.length
      · rw [if_pos ⟨by omega, h2⟩, List.getElem?_append_left (by omega)]
      · rw [if_neg (by omega), List.getElem?_append_right (by omega), List.getElem?_drop, show o + ls.length + (j - o - ls.length) = j by omega]
end Im
end Go.Proofs.Ytfajkgbpeapcbaa
end

section
namespace Go.Proofs.Ytfajkgbpeapcbaa
open Go.RowKit
namespace Ev
structure Sl where
  a : Option Addr
  c : Nat
  l : List Int
structure R where
  h : Int
  k : Int
  a : Int
  v : Int
  r : Int
  q : Bool
  l : Bool
  p : Int
  s : Int
  z : Bool
  d1 : Sl
  d2 : Sl
  d3 : Sl
structure X where
  ae : Option Addr
  ce : Nat
  ev : List R
  fr : Sl
  ao : Option Addr
  co : Nat
  od : List Sl
def Sl.v (s : Sl) : Value := .slice s.a s.l.length s.c
def cells (x : R) : List Value := [.int .i64 x.h, .int .i64 x.k, .int .u32 x.a, .int .u32 x.v, .int .u32 x.r, .bool x.q, .bool x.l, .int .i64 x.p, .int .i64 x.s, .bool x.z, .slice x.d1.a x.d1.l.length x.d1.c, .slice x.d2.a x.d2.l.length x.d2.c, .slice x.d3.a x.d3.l.length x.d3.c]
def Kp (w w' : World) : Prop := ∀ p v, w.cell? p = some v → w'.cell? p = some v
theorem Kp.refl (w : World) : Kp w w := fun _ _ h => h
theorem Kp.trans {a b c : World} (h : Kp a b) (k : Kp b c) : Kp a c := fun p v e => k p v (h p v e)
theorem kp_below {w w' : World} (h : Below w.heap.size w w') : Kp w w' := fun p v e => (h.cell (World.block_lt_of_cell? w p e)).trans e
def RowsIn (w : World) (a : Option Addr) (n : Nat) (xs : List (List Value)) : Prop :=
  0 < xs.length → ∃ g o, a = some ⟨g, o, none⟩ ∧ ∀ j v, xs[j]? = some v → ∀ i c, v[i]? = some c → w.cell? ⟨g, o + j * n + i, none⟩ = some c
theorem RowsIn.kp {w w' : World} {a n xs} (h : RowsIn w a n xs) (k : Kp w w') : RowsIn w' a n xs := fun hp => by
  obtain ⟨g, o, e, hc⟩ := h hp
  exact ⟨g, o, e, fun j v hv i c hi => k _ _ (hc j v hv i c hi)⟩
def i64B (n : Int) : Prop := -9223372036854775808 ≤ n ∧ n ≤ 9223372036854775807
def u32B (n : Int) : Prop := 0 ≤ n ∧ n < 4294967296
def IntsIn (w : World) (s : Sl) : Prop :=
  (0 < s.l.length → ∃ g o, s.a = some ⟨g, o, none⟩ ∧ ∀ j v, s.l[j]? = some v → w.cell? ⟨g, o + j, none⟩ = some (.int .i64 v)) ∧ s.l.length ≤ s.c ∧ s.c ≤ 9223372036854775807 ∧ ∀ v ∈ s.l, i64B v
theorem IntsIn.kp {w w' : World} {s} (h : IntsIn w s) (k : Kp w w') : IntsIn w' s :=
  ⟨fun hp => by
    obtain ⟨g, o, e, hc⟩ := h.1 hp
    exact ⟨g, o, e, fun j v hv => k _ _ (hc j v hv)⟩, h.2⟩
structure ROk (w : World) (x : R) : Prop where
  h : i64B x.h
  k : i64B x.k
  a : u32B x.a
  v : u32B x.v
  r : u32B x.r
  p : i64B x.p
  s : i64B x.s
  d1 : IntsIn w x.d1
  d2 : IntsIn w x.d2
  d3 : IntsIn w x.d3
theorem ROk.kp {w w' : World} {x} (h : ROk w x) (k : Kp w w') : ROk w' x := ⟨h.h, h.k, h.a, h.v, h.r, h.p, h.s, h.d1.kp k, h.d2.kp k, h.d3.kp k⟩
structure EvsIn (w : World) (a : Option Addr) (c : Nat) (xs : List R) : Prop where
  rows : RowsIn w a 13 (xs.map cells)
  ok : ∀ x ∈ xs, ROk w x
  le : xs.length ≤ c
  max : c ≤ 9223372036854775807
theorem EvsIn.kp {w w' : World} {a c xs} (h : EvsIn w a c xs) (k : Kp w w') : EvsIn w' a c xs := ⟨h.rows.kp k, fun x hx => (h.ok x hx).kp k, h.le, h.max⟩
structure OdIn (w : World) (a : Option Addr) (c : Nat) (xs : List Sl) : Prop where
  rows : RowsIn w a 1 (xs.map fun s => [s.v])
  ok : ∀ x ∈ xs, IntsIn w x
  le : xs.length ≤ c
  max : c ≤ 9223372036854775807
theorem OdIn.kp {w w' : World} {a c xs} (h : OdIn w a c xs) (k : Kp w w') : OdIn w' a c xs := ⟨h.rows.kp k, fun x hx => (h.ok x hx).kp k, h.le, h.max⟩
structure XIn (w : World) (x : X) : Prop where
  ev : EvsIn w x.ae x.ce x.ev
  fr : IntsIn w x.fr
  od : OdIn w x.ao x.co x.od
theorem XIn.kp {w w' : World} {x} (h : XIn w x) (k : Kp w w') : XIn w' x := ⟨h.ev.kp k, h.fr.kp k, h.od.kp k⟩
theorem EvsIn.at_ {w : World} {a c xs} (h : EvsIn w a c xs) {k : Nat} {x : R} (hk : xs[k]? = some x) :
    ∃ g o, a = some ⟨g, o, none⟩ ∧ (∀ i c, (cells x)[i]? = some c → w.cell? ⟨g, o + k * 13 + i, none⟩ = some c) := by
  have hl := (List.getElem?_eq_some_iff.1 hk).1
  obtain ⟨g, o, e, hc⟩ := h.rows (by simp; omega)
  exact ⟨g, o, e, fun i c hi => hc k (cells x) (by rw [List.getElem?_map, hk]; rfl) i c hi⟩
theorem IntsIn.at_ {w : World} {s : Sl} (h : IntsIn w s) {k : Nat} {v : Int} (hk : s.l[k]? = some v) : ∃ g o, s.a = some ⟨g, o, none⟩ ∧ w.cell? ⟨g, o + k, none⟩ = some (.int .i64 v) := by
  have hl := (List.getElem?_eq_some_iff.1 hk).1
  obtain ⟨g, o, e, hc⟩ := h.1 (by omega)
  exact ⟨g, o, e, hc k v hk⟩
theorem OdIn.at_ {w : World} {a c xs} (h : OdIn w a c xs) {k : Nat} {s : Sl} (hk : xs[k]? = some s) : ∃ g o, a = some ⟨g, o, none⟩ ∧ w.cell? ⟨g, o + k, none⟩ = some (.slice s.a s.l.length s.c) := by
  have hl := (List.getElem?_eq_some_iff.1 hk).1
  obtain ⟨g, o, e, hc⟩ := h.rows (by simp; omega)
  exact ⟨g, o, e, by have := hc k [s.v] (by rw [List.getElem?_map, hk]; rfl) 0 _ rfl; simpa [Sl.v] using this⟩
end Ev
theorem run_loadVar_at {P : Program} (w : World) (g off : Nat) (ty : TypeId) (cs : List Value) (d : TypeDesc) (hc : ∀ i v, cs[i]? = some v → w.cell? ⟨g, off + i, none⟩ = some v)
    (hu : P.underlying ty = some d) (hd : (match d with | .struct _ | .array _ _ => true | _ => false) = true) (hi : (P.info? ty).map (·.size) = some cs.length) :
    (loadVar ty ⟨g, off, none⟩).run P w = .ok (.agg cs.toArray) w := by
  have hl : (loadCells ⟨g, off, none⟩ cs.length).run P w = .ok cs.toArray w :=
    run_loadCells_list (P := P) w ⟨g, off, none⟩ cs (fun j v hv => by
      have hadd : (⟨g, off, none⟩ : Addr).add j = ⟨g, off + j, none⟩ := by unfold Addr.add; split <;> simp_all
      rw [hadd]; exact hc j v hv)
  cases hq : P.info? ty with
  | none => simp [hq] at hi
  | some i =>
    have hs : i.size = cs.length := by simpa [hq] using hi
    have hagg : (isAgg ty).run P w = .ok true w := by
      unfold isAgg
      rw [Sem.run_bind, run_underlying hu w]
      cases d <;> simp_all
    simp [loadVar, Sem.run_bind, hagg, sizeOf, typeInfo, hq, hs, hl]
theorem wpList_load_at {P : Program} {ops : Array Oper} {rest : List Oper} {o : Oper} {a : Act} {w : World} {Q : Exit → Act → World → Prop} (hgd : o.guard = none) (ty : TypeId) (x : Operand) (ho : o.op = .load ty x)
    (g off : Nat) (hx : a.eval x = .pointer (some ⟨g, off, none⟩)) (cs : List Value) (d : TypeDesc) (hc : ∀ i v, cs[i]? = some v → w.cell? ⟨g, off + i, none⟩ = some v)
    (hu : P.underlying ty = some d) (hd : (match d with | .struct _ | .array _ _ => true | _ => false) = true) (hi : (P.info? ty).map (·.size) = some cs.length)
    (h : wpList P ops Q rest (a.put o.dst (.agg cs.toArray)) w) : wpList P ops Q (o :: rest) a w :=
  wpList_plain hgd fun _ hK => by
    unfold Oper.wp execOp
    simp only [ho, hx, Instr.loadAt, Instr.sureAddr, Sem.run_bind, Sem.run_pure, Result.andThen_ok, run_loadVar_at w g off ty cs d hc hu hd hi]
    exact hK _ _ h
namespace Ev
structure Set1 (w W : World) (g : Nat) (t : TypeId) (cs : Array Value) : Prop where
  row : W.heap[g]? = some (.cells cs t (0, 0))
  size : W.heap.size = w.heap.size
  below : Below g w W
  block : ∀ i, i ≠ g → W.heap[i]? = w.heap[i]?
theorem set1 {w : World} {g : Nat} {t : TypeId} {old cs : Array Value} (hg : w.heap[g]? = some (.cells old t (0, 0))) (hs : old.size = cs.size) : Set1 w (w.setRow g cs) g t cs := by
  refine ⟨?_, ?_, ⟨rfl, rfl, rfl, ?_, fun i hi => ?_⟩, fun i hi => ?_⟩
  · simp [World.setRow, Array.getElem?_modify, hg]
  · simp [World.setRow]
  · simp [World.setRow]
  · simp [World.setRow, Array.getElem?_modify]; omega
  · simp [World.setRow, Array.getElem?_modify, Ne.symm hi]
end Ev
theorem wpList_store_own {P : Program} {ops : Array Oper} {rest : List Oper} {o : Oper} {a : Act} {w : World} {Q : Exit → Act → World → Prop} (hgd : o.guard = none) (ty : TypeId) (x y : Operand) (ho : o.op = .store ty x y)
    (g : Nat) (cells : Array Value) (hx : a.eval x = .pointer (some ⟨g, 0, none⟩)) (hy : a.eval y = .agg cells)
    (t : TypeId) (old : Array Value) (hg : w.heap[g]? = some (.cells old t (0, 0))) (hi : (P.info? ty).map (·.size) = some cells.size)
    (hold : old.size = cells.size) (h1 : cells.all (·.oneCell') = true)
    (h : ∀ W, Ev.Set1 w W g t cells → wpList P ops Q rest (a.put o.dst undef) W) : wpList P ops Q (o :: rest) a w :=
  wpList_store_row hgd ty x y ho g cells hx hy t old hg hi hold h1 (h _ (Ev.set1 hg hold))
end Go.Proofs.Ytfajkgbpeapcbaa
end

section
namespace Go.Proofs.Ytfajkgbpeapcbaa
namespace Og
variable {P : Program}
open Go.RowKit
end Og
end Go.Proofs.Ytfajkgbpeapcbaa
end
