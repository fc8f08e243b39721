import Derived.Test.YtecnnkidalkmfaaGreatKc10
import Derived.Maps.RangeWalk
import Derived.Maps.OwnSet
import Derived.Sort.MapsRangeIn
import Derived.DeepKeys4
import Derived.Test.YtecnnkidalkmfaaGreatKc01
import Derived.Deep.QuietTactic
set_option linter.unusedVariables false
set_option linter.unusedSimpArgs false

section
namespace Go.Proofs.YtecnnkidalkmfaaGreat
open Go.RowKit Go.Maps Go.WideElems
namespace Md
def pkV (p : Nat × Nat) : Value := .agg #[.int .i64 (p.1 : Int), .int .i64 (p.2 : Int)]
def plit (p : Nat × Nat) : Lit := .string (keyBytes [.int .i64 (p.1 : Int), .int .i64 (p.2 : Int)])
set_option maxRecDepth 100000 in
theorem tiled_pair : Tryz.prog.tiled 2 72 = true := by kernel_rfl
set_option maxRecDepth 100000 in
theorem wide_pair : (match Tryz.prog.underlying 72 with | some (.array _ _) | some (.struct _) => true | _ => false) = true := by rw [Tryz.underlying72]
set_option maxRecDepth 100000 in
theorem law_pair : Keyed Tryz.prog 72 := Keyed.of_law (deep_law (m := 2) (by omega) (by kernel_rfl) tiled_pair wide_pair)
theorem cells_pair : Tryz.prog.cellsOf 72 = 2 := by kernel_rfl
theorem cells_int1 : Tryz.prog.cellsOf 3 = 1 := by kernel_rfl
set_option maxRecDepth 100000 in
theorem key_pair : Tryz.prog.keyType 72 = true := by kernel_rfl
set_option maxRecDepth 100000 in
theorem size_pair : ∃ n, Tryz.prog.types.size + 1 = n + 2 := ⟨_, rfl⟩
def i64ok (a : Int) : Bool := (Lit.int .i64 a).wf
theorem i64ok_of {a : Nat} (h : a < 64) : i64ok (a : Int) = true := wf_of_i64 ⟨by omega, by omega⟩
theorem lits_pair (a b : Int) : Tryz.prog.keyLits (Tryz.prog.types.size + 1) 72 [.int .i64 a, .int .i64 b] = if i64ok a = true ∧ i64ok b = true then some [.int .i64 a, .int .i64 b] else none := by
  obtain ⟨n, hn⟩ := size_pair
  rw [hn]
  unfold Program.keyLits
  rw [Tryz.underlying72]
  by_cases ha : (Lit.int .i64 a).wf = true <;> by_cases hb : (Lit.int .i64 b).wf = true <;> simp [Program.keyLits, cells_pair, cells_int1, Tryz.underlying3, i64ok, ha, hb]
theorem keyOf_pair (a b : Int) (ha : i64ok a = true) (hb : i64ok b = true) : keyOf Tryz.prog 72 (.agg #[.int .i64 a, .int .i64 b]) = some (.string (keyBytes [.int .i64 a, .int .i64 b])) := by
  unfold keyOf
  rw [Tryz.underlying72]
  simp only [key_pair, Bool.true_and]
  rw [show (Value.agg #[.int .i64 a, .int .i64 b]).formed Tryz.prog 72 = true by simp [Value.formed, Tryz.underlying72, cells_pair]]
  have h := lits_pair a b
  rw [if_pos ⟨ha, hb⟩] at h
  generalize Tryz.prog.types.size + 1 = m at h ⊢
  simp [Value.cells, h]
theorem key_mk {p : Nat × Nat} (h : p.1 < 64 ∧ p.2 < 64) : keyOf Tryz.prog 72 (pkV p) = some (plit p) := keyOf_pair _ _ (i64ok_of h.1) (i64ok_of h.2)
theorem plit_inj {p q : Nat × Nat} (hp : p.1 < 64 ∧ p.2 < 64) (hq : q.1 < 64 ∧ q.2 < 64) (h : plit p = plit q) : p = q := by
  have e := law_pair.inj (key_mk hp) (h ▸ key_mk hq)
  simp [pkV] at e
  exact Prod.ext (by omega) (by omega)
set_option maxRecDepth 100000 in
theorem lits_int {n : Nat} {c : Value} {l : List Lit} (h : Tryz.prog.keyLits (n + 1) 3 [c] = some l) : ∃ a, c = .int .i64 a := by
  unfold Program.keyLits at h
  rw [Tryz.underlying3] at h
  cases c <;> simp at h
  obtain ⟨⟨rfl, _⟩, _⟩ := h
  exact ⟨_, rfl⟩
set_option maxRecDepth 100000 in
theorem key_inv {v : Value} {l : Lit} (h : keyOf Tryz.prog 72 v = some l) : ∃ x : Int × Int, v = .agg #[.int .i64 x.1, .int .i64 x.2] := by
  unfold keyOf at h
  rw [Tryz.underlying72] at h
  simp only [key_pair, Bool.true_and] at h
  obtain ⟨n, hn⟩ := size_pair
  rw [hn] at h
  clear hn
  split at h
  · rename_i hf
    cases v with
    | agg cs =>
      simp [Value.formed, Tryz.underlying72, cells_pair] at hf
      obtain ⟨l0, hl0, _⟩ := Option.map_eq_some_iff.1 h
      obtain ⟨c0, c1, rfl⟩ : ∃ c0 c1, cs = #[c0, c1] := by
        obtain ⟨l⟩ := cs
        match l, hf with
        | [c0, c1], _ => exact ⟨c0, c1, rfl⟩
      unfold Program.keyLits at hl0
      rw [Tryz.underlying72] at hl0
      simp [Value.cells, cells_pair, cells_int1, List.mapM_cons] at hl0
      obtain ⟨l1, k1, k2⟩ := Option.bind_eq_some_iff.1 hl0
      obtain ⟨l2, k3, _⟩ := Option.map_eq_some_iff.1 k2
      obtain ⟨l3, k4, _⟩ := Option.bind_eq_some_iff.1 k3
      obtain ⟨l4, k5, _⟩ := Option.bind_eq_some_iff.1 k4
      obtain ⟨a, rfl⟩ := lits_int k1
      obtain ⟨b, rfl⟩ := lits_int k5
      exact ⟨(a, b), rfl⟩
    | _ => simp [Value.formed, Tryz.underlying72] at hf
  · cases h
theorem iskey_plit (p : Nat × Nat) : WideAt.IsKeyLit (plit p) := by first | trivial | exact rfl | simp [WideAt.IsKeyLit, plit]
structure PSet (w : World) (b n : Nat) (S : List (Nat × Nat)) : Prop where
  ex : ∃ D : DataW Unit, w.ownsMap Tryz.prog 72 unitElem b n D ∧ (∀ p : Nat × Nat, p.1 < 64 ∧ p.2 < 64 → Maps.has D (plit p) = decide (p ∈ S)) ∧ ∀ l, Maps.has D l = true → ∃ p ∈ S, l = plit p
  lt : ∀ p ∈ S, p.1 < 64 ∧ p.2 < 64
theorem PSet.kept {w w' : World} {b n : Nat} {S : List (Nat × Nat)} {row : Option Nat} (h : PSet w b n S) (hg : w.grownBy w' row) (hne : some b ≠ row) : PSet w' b n S := by
  obtain ⟨D, ho, hD⟩ := h.ex
  exact ⟨⟨D, ho.kept hg hne, hD⟩, h.lt⟩
theorem PSet.kp {w w' : World} {b n : Nat} {S : List (Nat × Nat)} (h : PSet w b n S) (hb : Below w.heap.size w w') : PSet w' b n S := h.kept (row := none) (World.grownBy.but_of hb) (by simp)
theorem PSet.new (w : World) : PSet (w.alloc (.map #[] 0)) w.heap.size 0 [] :=
  ⟨⟨.map [], World.ownsMap_made _ _ _ _, fun p _ => by simp [Maps.has], fun l h => by simp [Maps.has] at h⟩, fun p h => by cases h⟩
theorem put_ok {D : DataW Unit} {S : List (Nat × Nat)} (hm : IsMap D) (h : (∀ p : Nat × Nat, p.1 < 64 ∧ p.2 < 64 → Maps.has D (plit p) = decide (p ∈ S)) ∧ ∀ l, Maps.has D l = true → ∃ p ∈ S, l = plit p) {q : Nat × Nat} (hq : q.1 < 64 ∧ q.2 < 64) :
    (∀ p : Nat × Nat, p.1 < 64 ∧ p.2 < 64 → Maps.has (D.put (plit q) (.agg [])) (plit p) = decide (p ∈ S ++ [q])) ∧ ∀ l, Maps.has (D.put (plit q) (.agg [])) l = true → ∃ p ∈ S ++ [q], l = plit p := by
  constructor
  · intro p hp
    by_cases e : p = q
    · subst e; rw [Maps.has_put_same hm (iskey_plit _)]; simp
    · rw [Maps.has_put_other (fun he => e (plit_inj hp hq he)), h.1 p hp]; simp [e]
  · intro l hl
    by_cases e : l = plit q
    · exact ⟨q, by simp, e⟩
    · rw [Maps.has_put_other e] at hl
      obtain ⟨p, hp, rfl⟩ := h.2 l hl
      exact ⟨p, by simp [hp], rfl⟩
structure Met (S : List (Nat × Nat)) (left : Lit → Bool) (ss : List (Nat × Nat)) : Prop where
  nd : ss.Nodup
  sub : ∀ p ∈ ss, p ∈ S
  iff : ∀ p ∈ S, (left (plit p) = false ↔ p ∈ ss)
theorem Met.start {D : DataW Unit} {S : List (Nat × Nat)} (h : ∀ p : Nat × Nat, p.1 < 64 ∧ p.2 < 64 → Maps.has D (plit p) = decide (p ∈ S)) (hlt : ∀ p ∈ S, p.1 < 64 ∧ p.2 < 64) : Met S (Maps.has D) [] :=
  ⟨List.nodup_nil, fun p hp => (by cases hp), fun p hp => by rw [h p (hlt p hp)]; simp [hp]⟩
theorem Met.step {S : List (Nat × Nat)} {left : Lit → Bool} {ss : List (Nat × Nat)} (h : Met S left ss) (hlt : ∀ p ∈ S, p.1 < 64 ∧ p.2 < 64) {q : Nat × Nat} (hq : q ∈ S) (hl : left (plit q) = true) : q ∉ ss ∧ Met S (fun z => left z && !z.sameKey (plit q)) (ss ++ [q]) := by
  have hnew : q ∉ ss := fun hm => by have := (h.iff q hq).2 hm; rw [hl] at this; cases this
  refine ⟨hnew, List.nodup_append.2 ⟨h.nd, by simp, fun a ha b hb => by simp at hb; subst hb; exact fun e => hnew (e ▸ ha)⟩, fun p hp => ?_, fun p hp => ?_⟩
  · rcases List.mem_append.1 hp with h1 | h1
    · exact h.sub p h1
    · simp at h1; subst h1; exact hq
  · by_cases e : p = q
    · subst e
      have := WideAt.sameKey_self (iskey_plit p)
      simp [this]
    · have hk : (plit p).sameKey (plit q) = false := by
        cases hs : (plit p).sameKey (plit q)
        · rfl
        · exact absurd (plit_inj (hlt p hp) (hlt q hq) (WideAt.sameKey_eq hs)) e
      simp [hk, e, h.iff p hp]
theorem Met.all {S : List (Nat × Nat)} {left : Lit → Bool} {ss : List (Nat × Nat)} (h : Met S left ss) (hl : ∀ l, left l = false) : ∀ p, p ∈ ss ↔ p ∈ S := fun p => ⟨h.sub p, fun hp => (h.iff p hp).1 (hl _)⟩
end Md
end Go.Proofs.YtecnnkidalkmfaaGreat
end

section
namespace Go.Proofs.YtecnnkidalkmfaaGreat
open Go.RowKit
theorem oloads_is {x : Ev.R} {b : Bool} (h : Ev.loads x.k = b) (w : World) : Calls Tryz.prog 98 #[.agg (Ev.cells x).toArray] w fun e w' => e = .returned (.bool b) ∧ Below w.heap.size w w' := h ▸ loads_any x w
theorem ostores_is {x : Ev.R} {b : Bool} (h : Ev.stores x.k = b) (w : World) : Calls Tryz.prog 100 #[.agg (Ev.cells x).toArray] w fun e w' => e = .returned (.bool b) ∧ Below w.heap.size w w' := h ▸ stores_any x w
namespace Or
open Ev
def acc (x : R) : Bool := x.k != 5 && (loads x.k || stores x.k)
def atom (x : R) : Bool := x.k == 3 || x.z
def mark (x : R) : Bool := atom x && (x.q || x.l)
def isIn (n : Int) (x : R) : Bool := (bits .and .i64 n 1 != 0) && stores x.k || (bits .and .i64 n 2 != 0) && loads x.k
end Or
set_option maxRecDepth 100000 in
set_option maxHeartbeats 2000000 in
theorem access_any (x : Ev.R) (w : World) : Calls Tryz.prog 123 #[Ev.evV x] w fun e w' => e = .returned (.bool (Or.acc x)) ∧ Below w.heap.size w w' := by
  obtain ⟨B, hB⟩ : ∃ B, B = w.alloc (Obj.cells (Ev.cells x).toArray 48) := ⟨_, rfl⟩
  have HB := Lib.hid hB
  have B0 := Lib.hid (show Below w.heap.size w B by rw [hB]; exact (Below.refl w.heap.size w).alloc (Nat.le_refl _) _)
  have RX := Lib.hid (show B.heap[w.heap.size]? = some (.cells (Ev.cells x).toArray 48 (0, 0)) by rw [hB]; exact heap_alloc_new _ _)
  obtain ⟨s, hs⟩ : ∃ s, Ev.stores x.k = s := ⟨_, rfl⟩
  obtain ⟨l, hl⟩ : ∃ s, Ev.loads x.k = s := ⟨_, rfl⟩
  have HS := Lib.hid hs; have HL := Lib.hid hl
  have c1 : B.cell? ⟨w.heap.size, 1, none⟩ = some (.int .i64 x.k) := by rw [cell_of_row _ _ _ _ _ _ RX.out]; rfl
  have HRES := Lib.hid (show Or.acc x = (x.k != 5 && (l || s)) by unfold Or.acc; rw [hs, hl])
  clear hB hs hl
  unfold Ev.evV
  by_cases h5 : x.k = 5
  · have t5 : (x.k != 5) = false := by simp [h5]
    have HRES := Lib.hid (show Or.acc x = false by rw [HRES.out, t5]; rfl)
    clear h5
    go_enter Tryz.func123, Tryz.ntmps123
    go_wp2_with ((with_reducible show wpList _ _ _ (Oper.mk (some 3) _ _ _ _ _ :: _) _ _); rw [show w.alloc (Obj.cells (Ev.cells x).toArray 48) = B from HB.out.symm])
    go_ret
    exact ⟨by rw [HRES.out]; try rfl, by first | exact B0.out | (rw [← HB.out]; exact B0.out)⟩
  have t5 : (x.k != 5) = true := by simpa using h5
  have HRES := Lib.hid (show Or.acc x = (l || s) by rw [HRES.out, t5]; rfl)
  clear h5
  go_enter Tryz.func123, Tryz.ntmps123
  go_wp2_with (first
    | ((with_reducible show wpList _ _ _ (Oper.mk (some 3) _ _ _ _ _ :: _) _ _); rw [show w.alloc (Obj.cells (Ev.cells x).toArray 48) = B from HB.out.symm])
    | ((with_reducible show wpList _ _ _ (Oper.mk (some 7) _ _ _ _ _ :: _) _ _); (try rw [show w.alloc (Obj.cells (Ev.cells x).toArray 48) = B from HB.out.symm]); refine Ev.load_row_g 48 (.tmp 1) rfl rfl w.heap.size (by kernel_rfl) 48 (Ev.cells x).toArray (0, 0) _ RX.out Tryz.underlying48 rfl (by kernel_rfl) ?_))
  refine (oloads_is HL.out _).mono ?_
  rintro e W1 ⟨rfl, hb⟩
  have R1 := Lib.hid ((hb.block w.heap.size (Array.getElem?_eq_some_iff.1 RX.out).1).trans RX.out)
  have B1 := Lib.hid (B0.out.trans (hb.mono B0.out.size)); clear hb c1
  cases l
  case true =>
    go_wp2_with fail
    go_ret
    exact ⟨by rw [HRES.out]; try rfl, B1.out⟩
  go_wp2_with ((with_reducible show wpList _ _ _ (Oper.mk (some 10) _ _ _ _ _ :: _) _ _); (try rw [show w.alloc (Obj.cells (Ev.cells x).toArray 48) = B from HB.out.symm]); refine Ev.load_row_g 48 (.tmp 1) rfl rfl w.heap.size (by kernel_rfl) 48 (Ev.cells x).toArray (0, 0) _ R1.out Tryz.underlying48 rfl (by kernel_rfl) ?_)
  refine (ostores_is HS.out _).mono ?_
  rintro e W2 ⟨rfl, hb⟩
  have B2 := Lib.hid (B1.out.trans (hb.mono B1.out.size)); clear hb
  cases s
  · go_wp2_with fail
    go_ret
    exact ⟨by rw [HRES.out]; try rfl, B2.out⟩
  · go_wp2_with fail
    go_ret
    exact ⟨by rw [HRES.out]; try rfl, B2.out⟩
set_option maxRecDepth 100000 in
set_option maxHeartbeats 2000000 in
theorem atom_any (x : Ev.R) (w : World) : Calls Tryz.prog 153 #[Ev.evV x] w fun e w' => e = .returned (.bool (Or.atom x)) ∧ Below w.heap.size w w' := by
  obtain ⟨B, hB⟩ : ∃ B, B = w.alloc (Obj.cells (Ev.cells x).toArray 48) := ⟨_, rfl⟩
  have HB := Lib.hid hB
  have B0 := Lib.hid (show Below w.heap.size w B by rw [hB]; exact (Below.refl w.heap.size w).alloc (Nat.le_refl _) _)
  have RX := Lib.hid (show B.heap[w.heap.size]? = some (.cells (Ev.cells x).toArray 48 (0, 0)) by rw [hB]; exact heap_alloc_new _ _)
  obtain ⟨z, hz⟩ : ∃ s, x.z = s := ⟨_, rfl⟩
  have c1 : B.cell? ⟨w.heap.size, 1, none⟩ = some (.int .i64 x.k) := by rw [cell_of_row _ _ _ _ _ _ RX.out]; rfl
  have c9 : B.cell? ⟨w.heap.size, 9, none⟩ = some (.bool z) := by rw [cell_of_row _ _ _ _ _ _ RX.out, ← hz]; rfl
  have HRES := Lib.hid (show Or.atom x = (x.k == 3 || z) by unfold Or.atom; rw [hz])
  clear hB hz
  unfold Ev.evV
  by_cases h5 : x.k = 3
  · have t5 : (x.k == 3) = true := by simp [h5]
    have HRES := Lib.hid (show Or.atom x = true by rw [HRES.out, t5]; rfl)
    clear h5
    go_enter Tryz.func153, Tryz.ntmps153
    go_wp2_with ((with_reducible show wpList _ _ _ (Oper.mk (some 3) _ _ _ _ _ :: _) _ _); rw [show w.alloc (Obj.cells (Ev.cells x).toArray 48) = B from HB.out.symm])
    go_ret
    exact ⟨by rw [HRES.out]; try rfl, by first | exact B0.out | (rw [← HB.out]; exact B0.out)⟩
  have t5 : (x.k == 3) = false := by simpa using h5
  have HRES := Lib.hid (show Or.atom x = z by rw [HRES.out, t5]; rfl)
  clear h5
  go_enter Tryz.func153, Tryz.ntmps153
  go_wp2_with ((with_reducible show wpList _ _ _ (Oper.mk (some 3) _ _ _ _ _ :: _) _ _); rw [show w.alloc (Obj.cells (Ev.cells x).toArray 48) = B from HB.out.symm])
  go_ret
  exact ⟨by rw [HRES.out]; try rfl, by first | exact B0.out | (rw [← HB.out]; exact B0.out)⟩
theorem atom_is {x : Ev.R} {b : Bool} (h : Or.atom x = b) (w : World) : Calls Tryz.prog 153 #[.agg (Ev.cells x).toArray] w fun e w' => e = .returned (.bool b) ∧ Below w.heap.size w w' := h ▸ atom_any x w
theorem access_is {x : Ev.R} {b : Bool} (h : Or.acc x = b) (w : World) : Calls Tryz.prog 123 #[.agg (Ev.cells x).toArray] w fun e w' => e = .returned (.bool b) ∧ Below w.heap.size w w' := h ▸ access_any x w
set_option maxRecDepth 100000 in
set_option maxHeartbeats 2000000 in
theorem mark_any (x : Ev.R) (w : World) : Calls Tryz.prog 156 #[Ev.evV x] w fun e w' => e = .returned (.bool (Or.mark x)) ∧ Below w.heap.size w w' := by
  obtain ⟨B, hB⟩ : ∃ B, B = w.alloc (Obj.cells (Ev.cells x).toArray 48) := ⟨_, rfl⟩
  have HB := Lib.hid hB
  have B0 := Lib.hid (show Below w.heap.size w B by rw [hB]; exact (Below.refl w.heap.size w).alloc (Nat.le_refl _) _)
  have RX := Lib.hid (show B.heap[w.heap.size]? = some (.cells (Ev.cells x).toArray 48 (0, 0)) by rw [hB]; exact heap_alloc_new _ _)
  obtain ⟨a, ha⟩ : ∃ s, Or.atom x = s := ⟨_, rfl⟩
  obtain ⟨q, hq⟩ : ∃ s, x.q = s := ⟨_, rfl⟩
  obtain ⟨l, hl⟩ : ∃ s, x.l = s := ⟨_, rfl⟩
  have HA := Lib.hid ha
  have C5 := Lib.hid (show ∀ W, Below B.heap.size B W → W.cell? ⟨w.heap.size, 5, none⟩ = some (.bool q) from fun W h => by rw [cell_of_row _ _ _ _ _ _ ((h.block w.heap.size (Array.getElem?_eq_some_iff.1 RX.out).1).trans RX.out), ← hq]; rfl)
  have C6 := Lib.hid (show ∀ W, Below B.heap.size B W → W.cell? ⟨w.heap.size, 6, none⟩ = some (.bool l) from fun W h => by rw [cell_of_row _ _ _ _ _ _ ((h.block w.heap.size (Array.getElem?_eq_some_iff.1 RX.out).1).trans RX.out), ← hl]; rfl)
  have HRES := Lib.hid (show Or.mark x = (a && (q || l)) by unfold Or.mark; rw [ha, hq, hl])
  clear hB ha hq hl
  unfold Ev.evV
  go_enter Tryz.func156, Tryz.ntmps156
  go_wp2_with ((with_reducible show wpList _ _ _ (Oper.mk (some 3) _ _ _ _ _ :: _) _ _); (try rw [show w.alloc (Obj.cells (Ev.cells x).toArray 48) = B from HB.out.symm]); refine wpList_load_row rfl 48 (.tmp 1) rfl w.heap.size (by kernel_rfl) 48 (Ev.cells x).toArray (0, 0) _ RX.out Tryz.underlying48 rfl (by kernel_rfl) ?_)
  refine (atom_is HA.out _).mono ?_
  rintro e W1 ⟨rfl, hb⟩
  have c5 := C5.out W1 hb; have c6 := C6.out W1 hb
  have B1 := Lib.hid (B0.out.trans (hb.mono B0.out.size)); clear hb
  cases a
  · go_wp2_with fail
    go_ret
    exact ⟨by rw [HRES.out]; try rfl, B1.out⟩
  cases q
  · go_wp2_with fail
    go_ret
    exact ⟨by rw [HRES.out]; try rfl, B1.out⟩
  · go_wp2_with fail
    go_ret
    exact ⟨by rw [HRES.out]; try rfl, B1.out⟩
theorem mark_is {x : Ev.R} {b : Bool} (h : Or.mark x = b) (w : World) : Calls Tryz.prog 156 #[.agg (Ev.cells x).toArray] w fun e w' => e = .returned (.bool b) ∧ Below w.heap.size w w' := h ▸ mark_any x w
set_option maxRecDepth 100000 in
set_option maxHeartbeats 4000000 in
theorem isIn_any (n : Int) (x : Ev.R) (w : World) : Calls Tryz.prog 155 #[.int .i64 n, Ev.evV x] w fun e w' => e = .returned (.bool (Or.isIn n x)) ∧ Below w.heap.size w w' := by
  obtain ⟨B, hB⟩ : ∃ B, B = w.alloc (Obj.cells (Ev.cells x).toArray 48) := ⟨_, rfl⟩
  have HB := Lib.hid hB
  have B0 := Lib.hid (show Below w.heap.size w B by rw [hB]; exact (Below.refl w.heap.size w).alloc (Nat.le_refl _) _)
  have RX := Lib.hid (show B.heap[w.heap.size]? = some (.cells (Ev.cells x).toArray 48 (0, 0)) by rw [hB]; exact heap_alloc_new _ _)
  obtain ⟨s, hs⟩ : ∃ s, Ev.stores x.k = s := ⟨_, rfl⟩
  obtain ⟨l, hl⟩ : ∃ s, Ev.loads x.k = s := ⟨_, rfl⟩
  obtain ⟨t, ht⟩ : ∃ t, (bits .and .i64 n 1 != 0) = t := ⟨_, rfl⟩
  obtain ⟨u, hu⟩ : ∃ t, (bits .and .i64 n 2 != 0) = t := ⟨_, rfl⟩
  have HS := Lib.hid hs; have HL := Lib.hid hl
  have HRES := Lib.hid (show Or.isIn n x = (t && s || u && l) by unfold Or.isIn; rw [hs, hl, ht, hu])
  clear hB hs hl
  unfold Ev.evV
  cases t
  · go_enter Tryz.func155, Tryz.ntmps155
    cases u
    · go_wp2_with ((with_reducible show wpList _ _ _ (Oper.mk (some 5) _ _ _ _ _ :: _) _ _); rw [show w.alloc (Obj.cells (Ev.cells x).toArray 48) = B from HB.out.symm])
      go_ret
      exact ⟨by rw [HRES.out]; try rfl, by first | exact B0.out | (rw [← HB.out]; exact B0.out)⟩
    · go_wp2_with ((with_reducible show wpList _ _ _ (Oper.mk (some 17) _ _ _ _ _ :: _) _ _); (try rw [show w.alloc (Obj.cells (Ev.cells x).toArray 48) = B from HB.out.symm]); refine Ev.load_row_g 48 (.tmp 3) rfl rfl w.heap.size (by kernel_rfl) 48 (Ev.cells x).toArray (0, 0) _ RX.out Tryz.underlying48 rfl (by kernel_rfl) ?_)
      refine (oloads_is HL.out _).mono ?_
      rintro e W9 ⟨rfl, hb⟩
      have HEND := Lib.hid ((B0.out).trans (hb.mono (B0.out).size)); clear hb
      go_wp2_with fail
      go_ret
      exact ⟨by rw [HRES.out]; try rfl, HEND.out⟩
  · go_enter Tryz.func155, Tryz.ntmps155
    go_wp2_with ((with_reducible show wpList _ _ _ (Oper.mk (some 9) _ _ _ _ _ :: _) _ _); (try rw [show w.alloc (Obj.cells (Ev.cells x).toArray 48) = B from HB.out.symm]); refine Ev.load_row_g 48 (.tmp 3) rfl rfl w.heap.size (by kernel_rfl) 48 (Ev.cells x).toArray (0, 0) _ RX.out Tryz.underlying48 rfl (by kernel_rfl) ?_)
    refine (ostores_is HS.out _).mono ?_
    rintro e W1 ⟨rfl, hb⟩
    have R1 := Lib.hid ((hb.block w.heap.size (Array.getElem?_eq_some_iff.1 RX.out).1).trans RX.out)
    have B1 := Lib.hid (B0.out.trans (hb.mono B0.out.size)); clear hb
    cases s
    · cases u
      · go_wp2_with ((with_reducible show wpList _ _ _ (Oper.mk (some 5) _ _ _ _ _ :: _) _ _); rw [show w.alloc (Obj.cells (Ev.cells x).toArray 48) = B from HB.out.symm])
        go_ret
        exact ⟨by rw [HRES.out]; try rfl, B1.out⟩
      · go_wp2_with ((with_reducible show wpList _ _ _ (Oper.mk (some 17) _ _ _ _ _ :: _) _ _); (try rw [show w.alloc (Obj.cells (Ev.cells x).toArray 48) = B from HB.out.symm]); refine Ev.load_row_g 48 (.tmp 3) rfl rfl w.heap.size (by kernel_rfl) 48 (Ev.cells x).toArray (0, 0) _ R1.out Tryz.underlying48 rfl (by kernel_rfl) ?_)
        refine (oloads_is HL.out _).mono ?_
        rintro e W9 ⟨rfl, hb⟩
        have HEND := Lib.hid ((B1.out).trans (hb.mono (B1.out).size)); clear hb
        go_wp2_with fail
        go_ret
        exact ⟨by rw [HRES.out]; try rfl, HEND.out⟩
    · go_wp2_with fail
      go_ret
      exact ⟨by rw [HRES.out]; try rfl, B1.out⟩
theorem isIn_is {n : Int} {x : Ev.R} {b : Bool} (h : Or.isIn n x = b) (w : World) : Calls Tryz.prog 155 #[.int .i64 n, .agg (Ev.cells x).toArray] w fun e w' => e = .returned (.bool b) ∧ Below w.heap.size w w' := h ▸ isIn_any n x w
end Go.Proofs.YtecnnkidalkmfaaGreat
end

section
namespace Go.Proofs.YtecnnkidalkmfaaGreat
open Go.RowKit
namespace Ev
def bnd (b : Bool) : Int := if b then 1 else 0
def frAt (x : X) (b : Nat) : Int := x.fr.l.getD b 0
def bondRf (x : X) (a b : Nat) : Int := if stores (nth x.ev a).k = false then 2 else bnd (frAt x b == (a : Int))
def bondPo (x : X) (a b : Nat) : Int := if (nth x.ev a).k = 5 ∨ (nth x.ev a).h < (nth x.ev b).h then 2 else bnd (decide ((a : Int) < (b : Int)))
structure Bx (w : World) (q : Nat) (x : X) : Prop where
  row : w.heap[q]? = some (.cells (xcells x).toArray 26 (0, 0))
  xin : XIn w x
theorem Bx.kp {w w' : World} {q : Nat} {x : X} (h : Bx w q x) (hb : Below w.heap.size w w') : Bx w' q x :=
  ⟨(hb.block q (Array.getElem?_eq_some_iff.1 h.row).1).trans h.row, h.xin.kp (kp_below hb)⟩
theorem Bx.c0 {w : World} {q : Nat} {x : X} (h : Bx w q x) : w.cell? ⟨q, 0, none⟩ = some (.slice x.ae x.ev.length x.ce) := by rw [cell_of_row _ _ _ _ _ _ h.row]; rfl
theorem Bx.c1 {w : World} {q : Nat} {x : X} (h : Bx w q x) : w.cell? ⟨q, 1, none⟩ = some (.slice x.fr.a x.fr.l.length x.fr.c) := by rw [cell_of_row _ _ _ _ _ _ h.row]; rfl
theorem Bx.c2 {w : World} {q : Nat} {x : X} (h : Bx w q x) : w.cell? ⟨q, 2, none⟩ = some (.slice x.ao x.od.length x.co) := by rw [cell_of_row _ _ _ _ _ _ h.row]; rfl
theorem bx_new {w : World} {x : X} (h : XIn w x) : Bx (w.alloc (.cells (xcells x).toArray 26)) w.heap.size x :=
  ⟨heap_alloc_new _ _, h.kp (kp_below ((Below.refl _ _).alloc (Nat.le_refl _) _))⟩
def CPost (R : Bool → Prop) (w : World) (e : Ending) (w' : World) : Prop := ∃ b, e = .returned (.bool b) ∧ R b ∧ Below w.heap.size w w'
theorem CPost.mk {R : Bool → Prop} {w : World} {e : Ending} {w' : World} (b : Bool) (h1 : e = .returned (.bool b)) (h2 : R b) (h3 : Below w.heap.size w w') : CPost R w e w' := ⟨b, h1, h2, h3⟩
theorem enters_of (F : FuncId) (h : ∀ args w, (callFunc F args).run Tryz.prog w = .ok (.enter F args) w) : Enters F := h
end Ev
theorem bond_is (b : Bool) (w : World) : Calls Tryz.prog 109 #[.bool b] w fun e w' => e = .returned (.int .i64 (Ev.bnd b)) ∧ w = w' := bond_any b w
theorem run_load_slice {P : Program} {w : World} {ty e : TypeId} {p : Addr} {v : Value} (hu : P.underlying ty = some (.slice e)) (hc : w.cell? p = some v) : (loadVar ty p).run P w = .ok v w := by
  unfold loadVar isAgg
  simp only [Sem.run_bind, run_underlying hu w, Sem.run_pure, Result.andThen_ok]
  go_simp
  first | done | rw [hc]
theorem check_from {x : Ev.X} (h : Ev.check x = 0) : x.fr.l.length = x.ev.length := by
  unfold Ev.check at h
  split at h
  · cases h
  split at h
  · cases h
  split at h
  · cases h
  · rename_i h1 h2
    simp at h2
    unfold Ev.fromOk at h2
    simp at h2
    exact h2.1
end Go.Proofs.YtecnnkidalkmfaaGreat
end
