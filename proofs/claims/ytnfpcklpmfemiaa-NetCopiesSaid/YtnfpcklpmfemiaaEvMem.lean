/-
  How events and executions stand in memory.
-/
import Derived.Test.YtnfpcklpmfemiaaRows
import Derived.Test.YtnfpcklpmfemiaaEvMath
import Derived.Lib.Hide
import Derived.WalkKit
import Derived.Below
import Derived.Laws.Rows
import Derived.Laws.Tables
namespace Go.Proofs.Ytnfpcklpmfemiaa
open Go.RowKit
set_option linter.unusedVariables false
set_option linter.unusedSimpArgs false
namespace Ev
/-- a slice of ints: its address, its room, what it reads as -/
structure Sl where
  a : Option Addr
  c : Nat
  l : List Int
/-- an event -/
structure R where
  h : Int
  k : Int
  a : Int
  v : Int
  r : Int
  q : Bool
  l : Bool
  p : Int
  s : Int
  z : Bool
  d1 : Sl
  d2 : Sl
  d3 : Sl
/-- an execution -/
structure X where
  ae : Option Addr
  ce : Nat
  ev : List R
  fr : Sl
  ao : Option Addr
  co : Nat
  od : List Sl
def Sl.v (s : Sl) : Value := .slice s.a s.l.length s.c
def cells (x : R) : List Value := [.int .i64 x.h, .int .i64 x.k, .int .u32 x.a, .int .u32 x.v, .int .u32 x.r, .bool x.q, .bool x.l, .int .i64 x.p, .int .i64 x.s, .bool x.z, .slice x.d1.a x.d1.l.length x.d1.c, .slice x.d2.a x.d2.l.length x.d2.c, .slice x.d3.a x.d3.l.length x.d3.c]
def evV (x : R) : Value := .agg (cells x).toArray
def evsV (x : X) : Value := .slice x.ae x.ev.length x.ce
def odV (x : X) : Value := .slice x.ao x.od.length x.co
def xcells (x : X) : List Value := [.slice x.ae x.ev.length x.ce, .slice x.fr.a x.fr.l.length x.fr.c, .slice x.ao x.od.length x.co]
def exV (x : X) : Value := .agg (xcells x).toArray
/-- what stood in a world stands in another one -/
def Kp (w w' : World) : Prop := ∀ p v, w.cell? p = some v → w'.cell? p = some v
theorem Kp.refl (w : World) : Kp w w := fun _ _ h => h
theorem Kp.trans {a b c : World} (h : Kp a b) (k : Kp b c) : Kp a c := fun p v e => k p v (h p v e)
theorem kp_below {w w' : World} (h : Below w.heap.size w w') : Kp w w' := fun p v e => (h.cell (World.block_lt_of_cell? w p e)).trans e
theorem kp_of {B : Nat} {w w' : World} (h : Below B w w') (hB : w.heap.size ≤ B) : Kp w w' := fun p v e => (h.cell (Nat.lt_of_lt_of_le (World.block_lt_of_cell? w p e) hB)).trans e
/-- cells of one kind, a row of n each -/
def RowsIn (w : World) (a : Option Addr) (n : Nat) (xs : List (List Value)) : Prop :=
  0 < xs.length → ∃ g o, a = some ⟨g, o, none⟩ ∧ ∀ j v, xs[j]? = some v → ∀ i c, v[i]? = some c → w.cell? ⟨g, o + j * n + i, none⟩ = some c
theorem RowsIn.kp {w w' : World} {a n xs} (h : RowsIn w a n xs) (k : Kp w w') : RowsIn w' a n xs := fun hp => by
  obtain ⟨g, o, e, hc⟩ := h hp
  exact ⟨g, o, e, fun j v hv i c hi => k _ _ (hc j v hv i c hi)⟩
def i64B (n : Int) : Prop := -9223372036854775808 ≤ n ∧ n ≤ 9223372036854775807
def u32B (n : Int) : Prop := 0 ≤ n ∧ n < 4294967296
def IntsIn (w : World) (s : Sl) : Prop :=
  (0 < s.l.length → ∃ g o, s.a = some ⟨g, o, none⟩ ∧ ∀ j v, s.l[j]? = some v → w.cell? ⟨g, o + j, none⟩ = some (.int .i64 v)) ∧ s.l.length ≤ s.c ∧ s.c ≤ 9223372036854775807 ∧ ∀ v ∈ s.l, i64B v
theorem IntsIn.kp {w w' : World} {s} (h : IntsIn w s) (k : Kp w w') : IntsIn w' s :=
  ⟨fun hp => by
    obtain ⟨g, o, e, hc⟩ := h.1 hp
    exact ⟨g, o, e, fun j v hv => k _ _ (hc j v hv)⟩, h.2⟩
/-- an event's slices, and its numbers -/
structure ROk (w : World) (x : R) : Prop where
  h : i64B x.h
  k : i64B x.k
  a : u32B x.a
  v : u32B x.v
  r : u32B x.r
  p : i64B x.p
  s : i64B x.s
  d1 : IntsIn w x.d1
  d2 : IntsIn w x.d2
  d3 : IntsIn w x.d3
theorem ROk.kp {w w' : World} {x} (h : ROk w x) (k : Kp w w') : ROk w' x := ⟨h.h, h.k, h.a, h.v, h.r, h.p, h.s, h.d1.kp k, h.d2.kp k, h.d3.kp k⟩
/-- events in memory -/
structure EvsIn (w : World) (a : Option Addr) (c : Nat) (xs : List R) : Prop where
  rows : RowsIn w a 13 (xs.map cells)
  ok : ∀ x ∈ xs, ROk w x
  le : xs.length ≤ c
  max : c ≤ 9223372036854775807
theorem EvsIn.kp {w w' : World} {a c xs} (h : EvsIn w a c xs) (k : Kp w w') : EvsIn w' a c xs := ⟨h.rows.kp k, fun x hx => (h.ok x hx).kp k, h.le, h.max⟩
structure OdIn (w : World) (a : Option Addr) (c : Nat) (xs : List Sl) : Prop where
  rows : RowsIn w a 1 (xs.map fun s => [s.v])
  ok : ∀ x ∈ xs, IntsIn w x
  le : xs.length ≤ c
  max : c ≤ 9223372036854775807
theorem OdIn.kp {w w' : World} {a c xs} (h : OdIn w a c xs) (k : Kp w w') : OdIn w' a c xs := ⟨h.rows.kp k, fun x hx => (h.ok x hx).kp k, h.le, h.max⟩
structure XIn (w : World) (x : X) : Prop where
  ev : EvsIn w x.ae x.ce x.ev
  fr : IntsIn w x.fr
  od : OdIn w x.ao x.co x.od
theorem XIn.kp {w w' : World} {x} (h : XIn w x) (k : Kp w w') : XIn w' x := ⟨h.ev.kp k, h.fr.kp k, h.od.kp k⟩
/-- an event of several, where it stands -/
theorem EvsIn.at_ {w : World} {a c xs} (h : EvsIn w a c xs) {k : Nat} {x : R} (hk : xs[k]? = some x) :
    ∃ g o, a = some ⟨g, o, none⟩ ∧ (∀ i c, (cells x)[i]? = some c → w.cell? ⟨g, o + k * 13 + i, none⟩ = some c) := by
  have hl := (List.getElem?_eq_some_iff.1 hk).1
  obtain ⟨g, o, e, hc⟩ := h.rows (by simp; omega)
  exact ⟨g, o, e, fun i c hi => hc k (cells x) (by rw [List.getElem?_map, hk]; rfl) i c hi⟩
theorem EvsIn.ok_ {w : World} {a c xs} (h : EvsIn w a c xs) {k : Nat} {x : R} (hk : xs[k]? = some x) : ROk w x := h.ok x (List.mem_of_getElem? hk)
theorem IntsIn.at_ {w : World} {s : Sl} (h : IntsIn w s) {k : Nat} {v : Int} (hk : s.l[k]? = some v) : ∃ g o, s.a = some ⟨g, o, none⟩ ∧ w.cell? ⟨g, o + k, none⟩ = some (.int .i64 v) := by
  have hl := (List.getElem?_eq_some_iff.1 hk).1
  obtain ⟨g, o, e, hc⟩ := h.1 (by omega)
  exact ⟨g, o, e, hc k v hk⟩
theorem IntsIn.b_ {w : World} {s : Sl} (h : IntsIn w s) {k : Nat} {v : Int} (hk : s.l[k]? = some v) : i64B v := h.2.2.2 v (List.mem_of_getElem? hk)
theorem OdIn.at_ {w : World} {a c xs} (h : OdIn w a c xs) {k : Nat} {s : Sl} (hk : xs[k]? = some s) : ∃ g o, a = some ⟨g, o, none⟩ ∧ w.cell? ⟨g, o + k, none⟩ = some (.slice s.a s.l.length s.c) := by
  have hl := (List.getElem?_eq_some_iff.1 hk).1
  obtain ⟨g, o, e, hc⟩ := h.rows (by simp; omega)
  exact ⟨g, o, e, by have := hc k [s.v] (by rw [List.getElem?_map, hk]; rfl) 0 _ rfl; simpa [Sl.v] using this⟩
theorem OdIn.ok_ {w : World} {a c xs} (h : OdIn w a c xs) {k : Nat} {x : Sl} (hk : xs[k]? = some x) : IntsIn w x := h.ok x (List.mem_of_getElem? hk)
end Ev
/-- a struct, loaded cell by cell -/
theorem run_loadVar_at {P : Program} (w : World) (g off : Nat) (ty : TypeId) (cs : List Value) (d : TypeDesc) (hc : ∀ i v, cs[i]? = some v → w.cell? ⟨g, off + i, none⟩ = some v)
    (hu : P.underlying ty = some d) (hd : (match d with | .struct _ | .array _ _ => true | _ => false) = true) (hi : (P.info? ty).map (·.size) = some cs.length) :
    (loadVar ty ⟨g, off, none⟩).run P w = .ok (.agg cs.toArray) w := by
  have hl : (loadCells ⟨g, off, none⟩ cs.length).run P w = .ok cs.toArray w :=
    run_loadCells_list (P := P) w ⟨g, off, none⟩ cs (fun j v hv => by
      have hadd : (⟨g, off, none⟩ : Addr).add j = ⟨g, off + j, none⟩ := by unfold Addr.add; split <;> simp_all
      rw [hadd]; exact hc j v hv)
  cases hq : P.info? ty with
  | none => simp [hq] at hi
  | some i =>
    have hs : i.size = cs.length := by simpa [hq] using hi
    have hagg : (isAgg ty).run P w = .ok true w := by
      unfold isAgg
      rw [Sem.run_bind, run_underlying hu w]
      cases d <;> simp_all
    simp [loadVar, Sem.run_bind, hagg, sizeOf, typeInfo, hq, hs, hl]
theorem wpList_load_at {P : Program} {ops : Array Oper} {rest : List Oper} {o : Oper} {a : Act} {w : World} {Q : Exit → Act → World → Prop} (hgd : o.guard = none) (ty : TypeId) (x : Operand) (ho : o.op = .load ty x)
    (g off : Nat) (hx : a.eval x = .pointer (some ⟨g, off, none⟩)) (cs : List Value) (d : TypeDesc) (hc : ∀ i v, cs[i]? = some v → w.cell? ⟨g, off + i, none⟩ = some v)
    (hu : P.underlying ty = some d) (hd : (match d with | .struct _ | .array _ _ => true | _ => false) = true) (hi : (P.info? ty).map (·.size) = some cs.length)
    (h : wpList P ops Q rest (a.put o.dst (.agg cs.toArray)) w) : wpList P ops Q (o :: rest) a w :=
  wpList_plain hgd fun _ hK => by
    unfold Oper.wp execOp
    simp only [ho, hx, Instr.loadAt, Instr.sureAddr, Sem.run_bind, Sem.run_pure, Result.andThen_ok, run_loadVar_at w g off ty cs d hc hu hd hi]
    exact hK _ _ h
namespace Ev
/-- one's own new block, filled: a world of which it is known what stands in it -/
structure Set1 (w W : World) (g : Nat) (t : TypeId) (cs : Array Value) : Prop where
  row : W.heap[g]? = some (.cells cs t (0, 0))
  size : W.heap.size = w.heap.size
  below : Below g w W
  block : ∀ i, i ≠ g → W.heap[i]? = w.heap[i]?
theorem set1 {w : World} {g : Nat} {t : TypeId} {old cs : Array Value} (hg : w.heap[g]? = some (.cells old t (0, 0))) (hs : old.size = cs.size) : Set1 w (w.setRow g cs) g t cs := by
  refine ⟨?_, ?_, ⟨rfl, rfl, rfl, ?_, fun i hi => ?_⟩, fun i hi => ?_⟩
  · simp [World.setRow, Array.getElem?_modify, hg]
  · simp [World.setRow]
  · simp [World.setRow]
  · simp [World.setRow, Array.getElem?_modify]; omega
  · simp [World.setRow, Array.getElem?_modify, Ne.symm hi]
end Ev
/-- a row stored into one's own block: the world goes on under a name -/
theorem wpList_store_own {P : Program} {ops : Array Oper} {rest : List Oper} {o : Oper} {a : Act} {w : World} {Q : Exit → Act → World → Prop} (hgd : o.guard = none) (ty : TypeId) (x y : Operand) (ho : o.op = .store ty x y)
    (g : Nat) (cells : Array Value) (hx : a.eval x = .pointer (some ⟨g, 0, none⟩)) (hy : a.eval y = .agg cells)
    (t : TypeId) (old : Array Value) (hg : w.heap[g]? = some (.cells old t (0, 0))) (hi : (P.info? ty).map (·.size) = some cells.size)
    (hold : old.size = cells.size) (h1 : cells.all (·.oneCell') = true)
    (h : ∀ W, Ev.Set1 w W g t cells → wpList P ops Q rest (a.put o.dst undef) W) : wpList P ops Q (o :: rest) a w :=
  wpList_store_row hgd ty x y ho g cells hx hy t old hg hi hold h1 (h _ (Ev.set1 hg hold))
/-- a row, loaded by a guarded operation that is wanted -/
theorem Ev.load_row_g {P : Program} {ops : Array Oper} {rest : List Oper} {o : Oper} {a : Act} {w : World} {Q : Exit → Act → World → Prop} (ty : TypeId) (x : Operand) (ho : o.op = .load ty x) (hw : Region.wanted o (yielded ops a.tmps) = true)
    (g : Nat) (hx : a.eval x = .pointer (some ⟨g, 0, none⟩)) (t : TypeId) (cs : Array Value) (fr : Nat × Nat) (d : TypeDesc) (hg : w.heap[g]? = some (.cells cs t fr))
    (hu : P.underlying ty = some d) (hd : (match d with | .struct _ | .array _ _ => true | _ => false) = true) (hi : (P.info? ty).map (·.size) = some cs.size)
    (h : wpList P ops Q rest (a.put o.dst (.agg cs)) w) : wpList P ops Q (o :: rest) a w := by
  unfold wpList
  rw [if_pos hw]
  exact .inl (wp_load_row ty x ho g hx t cs fr d hg hu hd hi h)
end Go.Proofs.Ytnfpcklpmfemiaa
