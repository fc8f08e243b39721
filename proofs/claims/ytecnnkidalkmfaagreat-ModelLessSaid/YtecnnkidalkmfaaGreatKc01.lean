import Derived.Test.YtecnnkidalkmfaaGreatRows
import Derived.Lib.Hide
import Derived.WalkKit
import Derived.Below
import Derived.Laws.Rows
import Derived.Laws.Tables
import Derived.BigQuiet
import Derived.Deep.QuietTactic
set_option linter.unusedVariables false
set_option linter.unusedSimpArgs false

section
namespace Go.Proofs.YtecnnkidalkmfaaGreat
namespace Ev
def stores (k : Int) : Bool := k == 2 || k == 3 || k == 5
def loads (k : Int) : Bool := k == 1 || k == 3
def inB (n m : Int) : Bool := decide (0 ≤ n) && decide (n < m)
def parts (k : Int) : Int := if k = 1 then 1437 else if k = 2 then 1947 else if k = 3 then 1823 else if k = 4 then 1120 else if k = 5 then 3 else 0
def bit (b : Bool) (n : Nat) : Nat := if b then n else 0
end Ev
end Go.Proofs.YtecnnkidalkmfaaGreat
end

section
namespace Go.Proofs.YtecnnkidalkmfaaGreat
open Go.RowKit
namespace Ev
structure Sl where
  a : Option Addr
  c : Nat
  l : List Int
structure R where
  h : Int
  k : Int
  a : Int
  v : Int
  r : Int
  q : Bool
  l : Bool
  p : Int
  s : Int
  z : Bool
  d1 : Sl
  d2 : Sl
  d3 : Sl
structure X where
  ae : Option Addr
  ce : Nat
  ev : List R
  fr : Sl
  ao : Option Addr
  co : Nat
  od : List Sl
def Sl.v (s : Sl) : Value := .slice s.a s.l.length s.c
def cells (x : R) : List Value := [.int .i64 x.h, .int .i64 x.k, .int .u32 x.a, .int .u32 x.v, .int .u32 x.r, .bool x.q, .bool x.l, .int .i64 x.p, .int .i64 x.s, .bool x.z, .slice x.d1.a x.d1.l.length x.d1.c, .slice x.d2.a x.d2.l.length x.d2.c, .slice x.d3.a x.d3.l.length x.d3.c]
def evV (x : R) : Value := .agg (cells x).toArray
def xcells (x : X) : List Value := [.slice x.ae x.ev.length x.ce, .slice x.fr.a x.fr.l.length x.fr.c, .slice x.ao x.od.length x.co]
def exV (x : X) : Value := .agg (xcells x).toArray
def Kp (w w' : World) : Prop := ∀ p v, w.cell? p = some v → w'.cell? p = some v
theorem Kp.refl (w : World) : Kp w w := fun _ _ h => h
theorem Kp.trans {a b c : World} (h : Kp a b) (k : Kp b c) : Kp a c := fun p v e => k p v (h p v e)
theorem kp_below {w w' : World} (h : Below w.heap.size w w') : Kp w w' := fun p v e => (h.cell (World.block_lt_of_cell? w p e)).trans e
theorem kp_of {B : Nat} {w w' : World} (h : Below B w w') (hB : w.heap.size ≤ B) : Kp w w' := fun p v e => (h.cell (Nat.lt_of_lt_of_le (World.block_lt_of_cell? w p e) hB)).trans e
def RowsIn (w : World) (a : Option Addr) (n : Nat) (xs : List (List Value)) : Prop :=
  0 < xs.length → ∃ g o, a = some ⟨g, o, none⟩ ∧ ∀ j v, xs[j]? = some v → ∀ i c, v[i]? = some c → w.cell? ⟨g, o + j * n + i, none⟩ = some c
theorem RowsIn.kp {w w' : World} {a n xs} (h : RowsIn w a n xs) (k : Kp w w') : RowsIn w' a n xs := fun hp => by
  obtain ⟨g, o, e, hc⟩ := h hp
  exact ⟨g, o, e, fun j v hv i c hi => k _ _ (hc j v hv i c hi)⟩
def i64B (n : Int) : Prop := -9223372036854775808 ≤ n ∧ n ≤ 9223372036854775807
def u32B (n : Int) : Prop := 0 ≤ n ∧ n < 4294967296
def IntsIn (w : World) (s : Sl) : Prop :=
  (0 < s.l.length → ∃ g o, s.a = some ⟨g, o, none⟩ ∧ ∀ j v, s.l[j]? = some v → w.cell? ⟨g, o + j, none⟩ = some (.int .i64 v)) ∧ s.l.length ≤ s.c ∧ s.c ≤ 9223372036854775807 ∧ ∀ v ∈ s.l, i64B v
theorem IntsIn.kp {w w' : World} {s} (h : IntsIn w s) (k : Kp w w') : IntsIn w' s :=
  ⟨fun hp => by
    obtain ⟨g, o, e, hc⟩ := h.1 hp
    exact ⟨g, o, e, fun j v hv => k _ _ (hc j v hv)⟩, h.2⟩
structure ROk (w : World) (x : R) : Prop where
  h : i64B x.h
  k : i64B x.k
  a : u32B x.a
  v : u32B x.v
  r : u32B x.r
  p : i64B x.p
  s : i64B x.s
  d1 : IntsIn w x.d1
  d2 : IntsIn w x.d2
  d3 : IntsIn w x.d3
theorem ROk.kp {w w' : World} {x} (h : ROk w x) (k : Kp w w') : ROk w' x := ⟨h.h, h.k, h.a, h.v, h.r, h.p, h.s, h.d1.kp k, h.d2.kp k, h.d3.kp k⟩
structure EvsIn (w : World) (a : Option Addr) (c : Nat) (xs : List R) : Prop where
  rows : RowsIn w a 13 (xs.map cells)
  ok : ∀ x ∈ xs, ROk w x
  le : xs.length ≤ c
  max : c ≤ 9223372036854775807
theorem EvsIn.kp {w w' : World} {a c xs} (h : EvsIn w a c xs) (k : Kp w w') : EvsIn w' a c xs := ⟨h.rows.kp k, fun x hx => (h.ok x hx).kp k, h.le, h.max⟩
structure OdIn (w : World) (a : Option Addr) (c : Nat) (xs : List Sl) : Prop where
  rows : RowsIn w a 1 (xs.map fun s => [s.v])
  ok : ∀ x ∈ xs, IntsIn w x
  le : xs.length ≤ c
  max : c ≤ 9223372036854775807
theorem OdIn.kp {w w' : World} {a c xs} (h : OdIn w a c xs) (k : Kp w w') : OdIn w' a c xs := ⟨h.rows.kp k, fun x hx => (h.ok x hx).kp k, h.le, h.max⟩
structure XIn (w : World) (x : X) : Prop where
  ev : EvsIn w x.ae x.ce x.ev
  fr : IntsIn w x.fr
  od : OdIn w x.ao x.co x.od
theorem XIn.kp {w w' : World} {x} (h : XIn w x) (k : Kp w w') : XIn w' x := ⟨h.ev.kp k, h.fr.kp k, h.od.kp k⟩
theorem EvsIn.at_ {w : World} {a c xs} (h : EvsIn w a c xs) {k : Nat} {x : R} (hk : xs[k]? = some x) :
    ∃ g o, a = some ⟨g, o, none⟩ ∧ (∀ i c, (cells x)[i]? = some c → w.cell? ⟨g, o + k * 13 + i, none⟩ = some c) := by
  have hl := (List.getElem?_eq_some_iff.1 hk).1
  obtain ⟨g, o, e, hc⟩ := h.rows (by simp; omega)
  exact ⟨g, o, e, fun i c hi => hc k (cells x) (by rw [List.getElem?_map, hk]; rfl) i c hi⟩
theorem EvsIn.ok_ {w : World} {a c xs} (h : EvsIn w a c xs) {k : Nat} {x : R} (hk : xs[k]? = some x) : ROk w x := h.ok x (List.mem_of_getElem? hk)
theorem IntsIn.at_ {w : World} {s : Sl} (h : IntsIn w s) {k : Nat} {v : Int} (hk : s.l[k]? = some v) : ∃ g o, s.a = some ⟨g, o, none⟩ ∧ w.cell? ⟨g, o + k, none⟩ = some (.int .i64 v) := by
  have hl := (List.getElem?_eq_some_iff.1 hk).1
  obtain ⟨g, o, e, hc⟩ := h.1 (by omega)
  exact ⟨g, o, e, hc k v hk⟩
theorem IntsIn.b_ {w : World} {s : Sl} (h : IntsIn w s) {k : Nat} {v : Int} (hk : s.l[k]? = some v) : i64B v := h.2.2.2 v (List.mem_of_getElem? hk)
theorem OdIn.at_ {w : World} {a c xs} (h : OdIn w a c xs) {k : Nat} {s : Sl} (hk : xs[k]? = some s) : ∃ g o, a = some ⟨g, o, none⟩ ∧ w.cell? ⟨g, o + k, none⟩ = some (.slice s.a s.l.length s.c) := by
  have hl := (List.getElem?_eq_some_iff.1 hk).1
  obtain ⟨g, o, e, hc⟩ := h.rows (by simp; omega)
  exact ⟨g, o, e, by have := hc k [s.v] (by rw [List.getElem?_map, hk]; rfl) 0 _ rfl; simpa [Sl.v] using this⟩
theorem OdIn.ok_ {w : World} {a c xs} (h : OdIn w a c xs) {k : Nat} {x : Sl} (hk : xs[k]? = some x) : IntsIn w x := h.ok x (List.mem_of_getElem? hk)
end Ev
theorem run_loadVar_at {P : Program} (w : World) (g off : Nat) (ty : TypeId) (cs : List Value) (d : TypeDesc) (hc : ∀ i v, cs[i]? = some v → w.cell? ⟨g, off + i, none⟩ = some v)
    (hu : P.underlying ty = some d) (hd : (match d with | .struct _ | .array _ _ => true | _ => false) = true) (hi : (P.info? ty).map (·.size) = some cs.length) :
    (loadVar ty ⟨g, off, none⟩).run P w = .ok (.agg cs.toArray) w := by
  have hl : (loadCells ⟨g, off, none⟩ cs.length).run P w = .ok cs.toArray w :=
    run_loadCells_list (P := P) w ⟨g, off, none⟩ cs (fun j v hv => by
      have hadd : (⟨g, off, none⟩ : Addr).add j = ⟨g, off + j, none⟩ := by unfold Addr.add; split <;> simp_all
      rw [hadd]; exact hc j v hv)
  cases hq : P.info? ty with
  | none => simp [hq] at hi
  | some i =>
    have hs : i.size = cs.length := by simpa [hq] using hi
    have hagg : (isAgg ty).run P w = .ok true w := by
      unfold isAgg
      rw [Sem.run_bind, run_underlying hu w]
      cases d <;> simp_all
    simp [loadVar, Sem.run_bind, hagg, sizeOf, typeInfo, hq, hs, hl]
theorem wpList_load_at {P : Program} {ops : Array Oper} {rest : List Oper} {o : Oper} {a : Act} {w : World} {Q : Exit → Act → World → Prop} (hgd : o.guard = none) (ty : TypeId) (x : Operand) (ho : o.op = .load ty x)
    (g off : Nat) (hx : a.eval x = .pointer (some ⟨g, off, none⟩)) (cs : List Value) (d : TypeDesc) (hc : ∀ i v, cs[i]? = some v → w.cell? ⟨g, off + i, none⟩ = some v)
    (hu : P.underlying ty = some d) (hd : (match d with | .struct _ | .array _ _ => true | _ => false) = true) (hi : (P.info? ty).map (·.size) = some cs.length)
    (h : wpList P ops Q rest (a.put o.dst (.agg cs.toArray)) w) : wpList P ops Q (o :: rest) a w :=
  wpList_plain hgd fun _ hK => by
    unfold Oper.wp execOp
    simp only [ho, hx, Instr.loadAt, Instr.sureAddr, Sem.run_bind, Sem.run_pure, Result.andThen_ok, run_loadVar_at w g off ty cs d hc hu hd hi]
    exact hK _ _ h
namespace Ev
structure Set1 (w W : World) (g : Nat) (t : TypeId) (cs : Array Value) : Prop where
  row : W.heap[g]? = some (.cells cs t (0, 0))
  size : W.heap.size = w.heap.size
  below : Below g w W
  block : ∀ i, i ≠ g → W.heap[i]? = w.heap[i]?
theorem set1 {w : World} {g : Nat} {t : TypeId} {old cs : Array Value} (hg : w.heap[g]? = some (.cells old t (0, 0))) (hs : old.size = cs.size) : Set1 w (w.setRow g cs) g t cs := by
  refine ⟨?_, ?_, ⟨rfl, rfl, rfl, ?_, fun i hi => ?_⟩, fun i hi => ?_⟩
  · simp [World.setRow, Array.getElem?_modify, hg]
  · simp [World.setRow]
  · simp [World.setRow]
  · simp [World.setRow, Array.getElem?_modify]; omega
  · simp [World.setRow, Array.getElem?_modify, Ne.symm hi]
end Ev
theorem wpList_store_own {P : Program} {ops : Array Oper} {rest : List Oper} {o : Oper} {a : Act} {w : World} {Q : Exit → Act → World → Prop} (hgd : o.guard = none) (ty : TypeId) (x y : Operand) (ho : o.op = .store ty x y)
    (g : Nat) (cells : Array Value) (hx : a.eval x = .pointer (some ⟨g, 0, none⟩)) (hy : a.eval y = .agg cells)
    (t : TypeId) (old : Array Value) (hg : w.heap[g]? = some (.cells old t (0, 0))) (hi : (P.info? ty).map (·.size) = some cells.size)
    (hold : old.size = cells.size) (h1 : cells.all (·.oneCell') = true)
    (h : ∀ W, Ev.Set1 w W g t cells → wpList P ops Q rest (a.put o.dst undef) W) : wpList P ops Q (o :: rest) a w :=
  wpList_store_row hgd ty x y ho g cells hx hy t old hg hi hold h1 (h _ (Ev.set1 hg hold))
theorem Ev.load_row_g {P : Program} {ops : Array Oper} {rest : List Oper} {o : Oper} {a : Act} {w : World} {Q : Exit → Act → World → Prop} (ty : TypeId) (x : Operand) (ho : o.op = .load ty x) (hw : Region.wanted o (yielded ops a.tmps) = true)
    (g : Nat) (hx : a.eval x = .pointer (some ⟨g, 0, none⟩)) (t : TypeId) (cs : Array Value) (fr : Nat × Nat) (d : TypeDesc) (hg : w.heap[g]? = some (.cells cs t fr))
    (hu : P.underlying ty = some d) (hd : (match d with | .struct _ | .array _ _ => true | _ => false) = true) (hi : (P.info? ty).map (·.size) = some cs.size)
    (h : wpList P ops Q rest (a.put o.dst (.agg cs)) w) : wpList P ops Q (o :: rest) a w := by
  unfold wpList
  rw [if_pos hw]
  exact .inl (wp_load_row ty x ho g hx t cs fr d hg hu hd hi h)
end Go.Proofs.YtecnnkidalkmfaaGreat
end

section
namespace Go.Proofs.YtecnnkidalkmfaaGreat
open Go.RowKit
set_option maxHeartbeats 1000000
theorem stores_any (x : Ev.R) (w : World) : Calls Tryz.prog 100 #[Ev.evV x] w fun e w' => e = .returned (.bool (Ev.stores x.k)) ∧ Below w.heap.size w w' := by
  unfold Ev.evV Ev.cells
  by_cases h2 : x.k = 2
  · have e : Ev.stores x.k = true := by rw [h2]; rfl
    have t2 : (x.k == 2) = true := by simp [h2]
    rw [e]; clear e h2
    go_enter Tryz.func100, Tryz.ntmps100
    go_wp2
    go_ret
    exact ⟨rfl, (Below.refl _ _).alloc (Nat.le_refl _) _⟩
  have n2 : (x.k == 2) = false := by simpa using h2
  by_cases h3 : x.k = 3
  · have e : Ev.stores x.k = true := by rw [h3]; rfl
    have t2 : (x.k == 3) = true := by simp [h3]
    rw [e]; clear e h2 h3
    go_enter Tryz.func100, Tryz.ntmps100
    go_wp2
    go_ret
    exact ⟨rfl, (Below.refl _ _).alloc (Nat.le_refl _) _⟩
  have n3 : (x.k == 3) = false := by simpa using h3
  by_cases h5 : x.k = 5
  · have e : Ev.stores x.k = true := by rw [h5]; rfl
    have t2 : (x.k == 5) = true := by simp [h5]
    rw [e]; clear e h2 h3 h5
    go_enter Tryz.func100, Tryz.ntmps100
    go_wp2
    go_ret
    exact ⟨rfl, (Below.refl _ _).alloc (Nat.le_refl _) _⟩
  have n5 : (x.k == 5) = false := by simpa using h5
  have e : Ev.stores x.k = false := by unfold Ev.stores; simp [n2, n3, n5]
  rw [e]; clear e h2 h3 h5
  go_enter Tryz.func100, Tryz.ntmps100
  go_wp2
  go_ret
  exact ⟨rfl, (Below.refl _ _).alloc (Nat.le_refl _) _⟩
theorem loads_any (x : Ev.R) (w : World) : Calls Tryz.prog 98 #[Ev.evV x] w fun e w' => e = .returned (.bool (Ev.loads x.k)) ∧ Below w.heap.size w w' := by
  unfold Ev.evV Ev.cells
  by_cases h2 : x.k = 1
  · have e : Ev.loads x.k = true := by rw [h2]; rfl
    have t2 : (x.k == 1) = true := by simp [h2]
    rw [e]; clear e h2
    go_enter Tryz.func98, Tryz.ntmps98
    go_wp2
    go_ret
    exact ⟨rfl, (Below.refl _ _).alloc (Nat.le_refl _) _⟩
  have n2 : (x.k == 1) = false := by simpa using h2
  by_cases h3 : x.k = 3
  · have e : Ev.loads x.k = true := by rw [h3]; rfl
    have t2 : (x.k == 3) = true := by simp [h3]
    rw [e]; clear e h2 h3
    go_enter Tryz.func98, Tryz.ntmps98
    go_wp2
    go_ret
    exact ⟨rfl, (Below.refl _ _).alloc (Nat.le_refl _) _⟩
  have n3 : (x.k == 3) = false := by simpa using h3
  have e : Ev.loads x.k = false := by unfold Ev.loads; simp [n2, n3]
  rw [e]; clear e h2 h3
  go_enter Tryz.func98, Tryz.ntmps98
  go_wp2
  go_ret
  exact ⟨rfl, (Below.refl _ _).alloc (Nat.le_refl _) _⟩
theorem inB_any (n m : Int) (w : World) : Calls Tryz.prog 119 #[.int .i64 n, .int .i64 m] w fun e w' => e = .returned (.bool (Ev.inB n m)) ∧ w = w' := by
  by_cases h : 0 ≤ n
  · have e : Ev.inB n m = decide (n < m) := by unfold Ev.inB; simp [h]
    rw [e]; clear e
    go_enter Tryz.func119, Tryz.ntmps119
    go_wp2
    go_ret
    exact ⟨by first | rfl | simp, rfl⟩
  · have e : Ev.inB n m = false := by unfold Ev.inB; simp [h]
    rw [e]; clear e
    go_enter Tryz.func119, Tryz.ntmps119
    go_wp2
    go_ret
    exact ⟨rfl, rfl⟩
theorem bond_any (b : Bool) (w : World) : Calls Tryz.prog 109 #[.bool b] w fun e w' => e = .returned (.int .i64 (if b then 1 else 0)) ∧ w = w' := by
  cases b
  · go_enter Tryz.func109, Tryz.ntmps109
    go_wp2
    go_ret
    exact ⟨rfl, rfl⟩
  · go_enter Tryz.func109, Tryz.ntmps109
    go_wp2
    go_ret
    exact ⟨rfl, rfl⟩
theorem parts_any (k : Int) (w : World) : Calls Tryz.prog 116 #[.int .i64 k] w fun e w' => e = .returned (.int .i64 (Ev.parts k)) ∧ w = w' := by
  by_cases h1 : k = 1
  · subst h1; go_enter Tryz.func116, Tryz.ntmps116; go_wp2; go_ret; exact ⟨rfl, rfl⟩
  by_cases h2 : k = 2
  · subst h2; go_enter Tryz.func116, Tryz.ntmps116; go_wp2; go_ret; exact ⟨rfl, rfl⟩
  by_cases h3 : k = 3
  · subst h3; go_enter Tryz.func116, Tryz.ntmps116; go_wp2; go_ret; exact ⟨rfl, rfl⟩
  by_cases h4 : k = 4
  · subst h4; go_enter Tryz.func116, Tryz.ntmps116; go_wp2; go_ret; exact ⟨rfl, rfl⟩
  by_cases h5 : k = 5
  · subst h5; go_enter Tryz.func116, Tryz.ntmps116; go_wp2; go_ret; exact ⟨rfl, rfl⟩
  have e : Ev.parts k = 0 := by unfold Ev.parts; simp [h1, h2, h3, h4, h5]
  rw [e]
  have n1 : (k == 1) = false := by simpa using h1
  have n2 : (k == 2) = false := by simpa using h2
  have n3 : (k == 3) = false := by simpa using h3
  have n4 : (k == 4) = false := by simpa using h4
  have n5 : (k == 5) = false := by simpa using h5
  clear h1 h2 h3 h4 h5 e
  go_enter Tryz.func116, Tryz.ntmps116
  go_wp2
  go_ret
  exact ⟨rfl, rfl⟩
namespace Ev
def hartOk (x : R) : Bool := if x.k = 5 then x.h == -1 else inB x.h 4
def follow (x y : R) : Bool := if y.k = 5 ∧ x.k = 5 then decide (x.a < y.a) else decide (x.h ≤ y.h)
end Ev
theorem hart_any (x : Ev.R) (w : World) : Calls Tryz.prog 118 #[Ev.evV x] w fun e w' => e = .returned (.bool (Ev.hartOk x)) ∧ Below w.heap.size w w' := by
  unfold Ev.evV Ev.cells
  by_cases h5 : x.k = 5
  · have e : Ev.hartOk x = (x.h == -1) := by unfold Ev.hartOk; rw [if_pos h5]
    have t2 : (x.k == 5) = true := by simp [h5]
    rw [e]; clear e h5
    go_enter Tryz.func118, Tryz.ntmps118
    go_wp2
    go_ret
    exact ⟨rfl, (Below.refl _ _).alloc (Nat.le_refl _) _⟩
  · have e : Ev.hartOk x = Ev.inB x.h 4 := by unfold Ev.hartOk; rw [if_neg h5]
    have t2 : (x.k == 5) = false := by simpa using h5
    rw [e]; clear e h5
    go_enter Tryz.func118, Tryz.ntmps118
    go_wp2_with (go_at_call 119; refine (inB_any _ _ _).mono ?_; rintro e w' ⟨rfl, rfl⟩)
    go_ret
    exact ⟨rfl, (Below.refl _ _).alloc (Nat.le_refl _) _⟩
theorem follow_any (x y : Ev.R) (w : World) : Calls Tryz.prog 96 #[Ev.evV x, Ev.evV y] w fun e w' => e = .returned (.bool (Ev.follow x y)) ∧ Below w.heap.size w w' := by
  unfold Ev.evV Ev.cells
  have two : ∀ A B : Obj, Below w.heap.size w ((w.alloc A).alloc B) := fun A B => ((Below.refl _ _).alloc (Nat.le_refl _) _).alloc (by simp only [World.size_alloc]; omega) _
  by_cases h5 : y.k = 5
  · have t2 : (y.k == 5) = true := by simp [h5]
    by_cases h6 : x.k = 5
    · have t3 : (x.k == 5) = true := by simp [h6]
      have e : Ev.follow x y = decide (x.a < y.a) := by unfold Ev.follow; rw [if_pos ⟨h5, h6⟩]
      rw [e]; clear e h5 h6
      go_enter Tryz.func96, Tryz.ntmps96
      go_wp2
      go_ret
      exact ⟨rfl, two _ _⟩
    · have t3 : (x.k == 5) = false := by simpa using h6
      have e : Ev.follow x y = decide (x.h ≤ y.h) := by unfold Ev.follow; rw [if_neg (fun h => h6 h.2)]
      rw [e]; clear e h5 h6
      go_enter Tryz.func96, Tryz.ntmps96
      go_wp2
      go_ret
      exact ⟨rfl, two _ _⟩
  · have t2 : (y.k == 5) = false := by simpa using h5
    have e : Ev.follow x y = decide (x.h ≤ y.h) := by unfold Ev.follow; rw [if_neg (fun h => h5 h.1)]
    rw [e]; clear e h5
    go_enter Tryz.func96, Tryz.ntmps96
    go_wp2
    go_ret
    exact ⟨rfl, two _ _⟩
end Go.Proofs.YtecnnkidalkmfaaGreat
end

section
namespace Go.Proofs.YtecnnkidalkmfaaGreat
open Go.RowKit
namespace Og
structure On (n : Nat) (w : World) where
  x : World
  b : Below n w x
instance (n : Nat) (w : World) : Nonempty (On n w) := ⟨⟨w, Below.refl n w⟩⟩
theorem regionB {P : Program} {id : Nat} {l : List Oper} {Q : Exit → Act → World → Prop} {a : Act} {w : World} (hm : P.follows .mixedOrders = true) (hB : Region.lexB .any l.toArray = true)
    (h : wpQuiet P l.toArray (fun w' => ∃ q : On w.heap.size w, w' = q.x) (fun a' => ∀ w', (∃ q : On w.heap.size w, w' = q.x) → Q .normal a' w') l a) : (Code.region id l.toArray true).wp P Q a w :=
  wp_region_quiet (C := fun w' => ∃ q : On w.heap.size w, w' = q.x) hm hB ⟨⟨{ w with drawn := w.drawn + 1 }, ⟨rfl, rfl, rfl, Nat.le_refl _, fun _ _ => rfl⟩⟩, rfl⟩ (by simpa using h)
theorem callB {P : Program} {f : FuncId} {args : Array Value} {w : World} {q : On w.heap.size w} {v : Value} (h : Calls P f args q.x fun e w' => e = .returned v ∧ Below q.x.heap.size q.x w') :
    Calls P f args q.x fun e w'' => e = .returned v ∧ ∃ q' : On w.heap.size w, w'' = q'.x :=
  h.mono fun _ w'' ⟨he, hb⟩ => ⟨he, ⟨w'', q.b.trans (hb.mono q.b.size)⟩, rfl⟩
theorem callS {P : Program} {f : FuncId} {args : Array Value} {w : World} {q : On w.heap.size w} {v : Value} (h : Calls P f args q.x fun e w' => e = .returned v ∧ q.x = w') :
    Calls P f args q.x fun e w'' => e = .returned v ∧ ∃ q' : On w.heap.size w, w'' = q'.x :=
  h.mono fun _ w'' ⟨he, hb⟩ => ⟨he, q, hb.symm⟩
theorem rowB {P : Program} {w : World} (q : On w.heap.size w) {g : Nat} {t : TypeId} {cs : Array Value} {fr : Nat × Nat} (ty : TypeId) (d : TypeDesc) (hg : w.heap[g]? = some (.cells cs t fr))
    (hu : P.underlying ty = some d) (hd : (match d with | .struct _ | .array _ _ => true | _ => false) = true) (hi : (P.info? ty).map (·.size) = some cs.size) :
    (loadVar ty ⟨g, 0, none⟩).run P q.x = .ok (.agg cs) q.x :=
  run_loadVar_row q.x g t ty cs fr d ((q.b.block g (Array.getElem?_eq_some_iff.1 hg).1).trans hg) hu hd hi
theorem quiet_load {P : Program} {C : World → Prop} {o : Oper} {a : Act} {K : Act → Prop} (ty : TypeId) (x : Operand) (ho : o.op = .load ty x) (v : Value) (p : Addr) (a' : Act)
    (hx : a.eval x = .pointer (some p)) (hl : ∀ w, C w → (loadVar ty p).run P w = .ok v w) (ha : a.put o.dst v = a') (hk : K a') : o.quiet P a C K :=
  ⟨v, fun w hC => by
    unfold Oper.quietAt execOp
    simp only [ho, hx, Instr.loadAt, Instr.sureAddr, Sem.run_bind, Sem.run_pure, Result.andThen_ok, hl w hC]
    exact ⟨rfl, rfl⟩, by rw [ha]; exact hk⟩
theorem cellB {w : World} (q : On w.heap.size w) {p : Addr} {v : Value} (h : w.cell? p = some v) : q.x.cell? p = some v :=
  (q.b.cell (World.block_lt_of_cell? w p h)).trans h
end Og
end Go.Proofs.YtecnnkidalkmfaaGreat
end
