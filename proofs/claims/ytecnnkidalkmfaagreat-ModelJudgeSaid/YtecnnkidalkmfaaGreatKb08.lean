import Derived.Test.YtecnnkidalkmfaaGreatKb01
import Derived.Deep.QuietTactic
import Derived.Test.YtecnnkidalkmfaaGreatKb07
import Derived.RangeFuncNested
import Derived.RangeFuncBound
import Derived.RangeFuncCalls
import Derived.RangeFuncLeaves
import Derived.Shelf.Abstract
import Derived.WalkKit
import Derived.OwnWalkIn
import Derived.TacticsInMore
import Derived.LoopNIn
import Derived.LoopIn
set_option linter.unusedVariables false
set_option linter.unusedSimpArgs false

section
namespace Go.Proofs.YtecnnkidalkmfaaGreat
open Go.RowKit
theorem oloads_is {x : Ev.R} {b : Bool} (h : Ev.loads x.k = b) (w : World) : Calls Tryz.prog 98 #[.agg (Ev.cells x).toArray] w fun e w' => e = .returned (.bool b) ∧ Below w.heap.size w w' := h ▸ loads_any x w
theorem ostores_is {x : Ev.R} {b : Bool} (h : Ev.stores x.k = b) (w : World) : Calls Tryz.prog 100 #[.agg (Ev.cells x).toArray] w fun e w' => e = .returned (.bool b) ∧ Below w.heap.size w w' := h ▸ stores_any x w
namespace Or
open Ev
def acc (x : R) : Bool := x.k != 5 && (loads x.k || stores x.k)
def atom (x : R) : Bool := x.k == 3 || x.z
def mark (x : R) : Bool := atom x && (x.q || x.l)
def isIn (n : Int) (x : R) : Bool := (bits .and .i64 n 1 != 0) && stores x.k || (bits .and .i64 n 2 != 0) && loads x.k
end Or
set_option maxRecDepth 100000 in
set_option maxHeartbeats 2000000 in
theorem access_any (x : Ev.R) (w : World) : Calls Tryz.prog 123 #[Ev.evV x] w fun e w' => e = .returned (.bool (Or.acc x)) ∧ Below w.heap.size w w' := by
  obtain ⟨B, hB⟩ : ∃ B, B = w.alloc (Obj.cells (Ev.cells x).toArray 48) := ⟨_, rfl⟩
  have HB := Lib.hid hB
  have B0 := Lib.hid (show Below w.heap.size w B by rw [hB]; exact (Below.refl w.heap.size w).alloc (Nat.le_refl _) _)
  have RX := Lib.hid (show B.heap[w.heap.size]? = some (.cells (Ev.cells x).toArray 48 (0, 0)) by rw [hB]; exact heap_alloc_new _ _)
  obtain ⟨s, hs⟩ : ∃ s, Ev.stores x.k = s := ⟨_, rfl⟩
  obtain ⟨l, hl⟩ : ∃ s, Ev.loads x.k = s := ⟨_, rfl⟩
  have HS := Lib.hid hs; have HL := Lib.hid hl
  have c1 : B.cell? ⟨w.heap.size, 1, none⟩ = some (.int .i64 x.k) := by rw [cell_of_row _ _ _ _ _ _ RX.out]; rfl
  have HRES := Lib.hid (show Or.acc x = (x.k != 5 && (l || s)) by unfold Or.acc; rw [hs, hl])
  clear hB hs hl
  unfold Ev.evV
  by_cases h5 : x.k = 5
  · have t5 : (x.k != 5) = false := by simp [h5]
    have HRES := Lib.hid (show Or.acc x = false by rw [HRES.out, t5]; rfl)
    clear h5
    go_enter Tryz.func123, Tryz.ntmps123
    go_wp2_with ((with_reducible show wpList _ _ _ (Oper.mk (some 3) _ _ _ _ _ :: _) _ _); rw [show w.alloc (Obj.cells (Ev.cells x).toArray 48) = B from HB.out.symm])
    go_ret
    exact ⟨by rw [HRES.out]; try rfl, by first | exact B0.out | (rw [← HB.out]; exact B0.out)⟩
  have t5 : (x.k != 5) = true := by simpa using h5
  have HRES := Lib.hid (show Or.acc x = (l || s) by rw [HRES.out, t5]; rfl)
  clear h5
  go_enter Tryz.func123, Tryz.ntmps123
  go_wp2_with (first
    | ((with_reducible show wpList _ _ _ (Oper.mk (some 3) _ _ _ _ _ :: _) _ _); rw [show w.alloc (Obj.cells (Ev.cells x).toArray 48) = B from HB.out.symm])
    | ((with_reducible show wpList _ _ _ (Oper.mk (some 7) _ _ _ _ _ :: _) _ _); (try rw [show w.alloc (Obj.cells (Ev.cells x).toArray 48) = B from HB.out.symm]); refine Ev.load_row_g 48 (.tmp 1) rfl rfl w.heap.size (by kernel_rfl) 48 (Ev.cells x).toArray (0, 0) _ RX.out Tryz.underlying48 rfl (by kernel_rfl) ?_))
  refine (oloads_is HL.out _).mono ?_
  rintro e W1 ⟨rfl, hb⟩
  have R1 := Lib.hid ((hb.block w.heap.size (Array.getElem?_eq_some_iff.1 RX.out).1).trans RX.out)
  have B1 := Lib.hid (B0.out.trans (hb.mono B0.out.size)); clear hb c1
  cases l
  case true =>
    go_wp2_with fail
    go_ret
    exact ⟨by rw [HRES.out]; try rfl, B1.out⟩
  go_wp2_with ((with_reducible show wpList _ _ _ (Oper.mk (some 10) _ _ _ _ _ :: _) _ _); (try rw [show w.alloc (Obj.cells (Ev.cells x).toArray 48) = B from HB.out.symm]); refine Ev.load_row_g 48 (.tmp 1) rfl rfl w.heap.size (by kernel_rfl) 48 (Ev.cells x).toArray (0, 0) _ R1.out Tryz.underlying48 rfl (by kernel_rfl) ?_)
  refine (ostores_is HS.out _).mono ?_
  rintro e W2 ⟨rfl, hb⟩
  have B2 := Lib.hid (B1.out.trans (hb.mono B1.out.size)); clear hb
  cases s
  · go_wp2_with fail
    go_ret
    exact ⟨by rw [HRES.out]; try rfl, B2.out⟩
  · go_wp2_with fail
    go_ret
    exact ⟨by rw [HRES.out]; try rfl, B2.out⟩
set_option maxRecDepth 100000 in
set_option maxHeartbeats 2000000 in
theorem atom_any (x : Ev.R) (w : World) : Calls Tryz.prog 153 #[Ev.evV x] w fun e w' => e = .returned (.bool (Or.atom x)) ∧ Below w.heap.size w w' := by
  obtain ⟨B, hB⟩ : ∃ B, B = w.alloc (Obj.cells (Ev.cells x).toArray 48) := ⟨_, rfl⟩
  have HB := Lib.hid hB
  have B0 := Lib.hid (show Below w.heap.size w B by rw [hB]; exact (Below.refl w.heap.size w).alloc (Nat.le_refl _) _)
  have RX := Lib.hid (show B.heap[w.heap.size]? = some (.cells (Ev.cells x).toArray 48 (0, 0)) by rw [hB]; exact heap_alloc_new _ _)
  obtain ⟨z, hz⟩ : ∃ s, x.z = s := ⟨_, rfl⟩
  have c1 : B.cell? ⟨w.heap.size, 1, none⟩ = some (.int .i64 x.k) := by rw [cell_of_row _ _ _ _ _ _ RX.out]; rfl
  have c9 : B.cell? ⟨w.heap.size, 9, none⟩ = some (.bool z) := by rw [cell_of_row _ _ _ _ _ _ RX.out, ← hz]; rfl
  have HRES := Lib.hid (show Or.atom x = (x.k == 3 || z) by unfold Or.atom; rw [hz])
  clear hB hz
  unfold Ev.evV
  by_cases h5 : x.k = 3
  · have t5 : (x.k == 3) = true := by simp [h5]
    have HRES := Lib.hid (show Or.atom x = true by rw [HRES.out, t5]; rfl)
    clear h5
    go_enter Tryz.func153, Tryz.ntmps153
    go_wp2_with ((with_reducible show wpList _ _ _ (Oper.mk (some 3) _ _ _ _ _ :: _) _ _); rw [show w.alloc (Obj.cells (Ev.cells x).toArray 48) = B from HB.out.symm])
    go_ret
    exact ⟨by rw [HRES.out]; try rfl, by first | exact B0.out | (rw [← HB.out]; exact B0.out)⟩
  have t5 : (x.k == 3) = false := by simpa using h5
  have HRES := Lib.hid (show Or.atom x = z by rw [HRES.out, t5]; rfl)
  clear h5
  go_enter Tryz.func153, Tryz.ntmps153
  go_wp2_with ((with_reducible show wpList _ _ _ (Oper.mk (some 3) _ _ _ _ _ :: _) _ _); rw [show w.alloc (Obj.cells (Ev.cells x).toArray 48) = B from HB.out.symm])
  go_ret
  exact ⟨by rw [HRES.out]; try rfl, by first | exact B0.out | (rw [← HB.out]; exact B0.out)⟩
theorem atom_is {x : Ev.R} {b : Bool} (h : Or.atom x = b) (w : World) : Calls Tryz.prog 153 #[.agg (Ev.cells x).toArray] w fun e w' => e = .returned (.bool b) ∧ Below w.heap.size w w' := h ▸ atom_any x w
theorem access_is {x : Ev.R} {b : Bool} (h : Or.acc x = b) (w : World) : Calls Tryz.prog 123 #[.agg (Ev.cells x).toArray] w fun e w' => e = .returned (.bool b) ∧ Below w.heap.size w w' := h ▸ access_any x w
set_option maxRecDepth 100000 in
set_option maxHeartbeats 2000000 in
theorem mark_any (x : Ev.R) (w : World) : Calls Tryz.prog 156 #[Ev.evV x] w fun e w' => e = .returned (.bool (Or.mark x)) ∧ Below w.heap.size w w' := by
  obtain ⟨B, hB⟩ : ∃ B, B = w.alloc (Obj.cells (Ev.cells x).toArray 48) := ⟨_, rfl⟩
  have HB := Lib.hid hB
  have B0 := Lib.hid (show Below w.heap.size w B by rw [hB]; exact (Below.refl w.heap.size w).alloc (Nat.le_refl _) _)
  have RX := Lib.hid (show B.heap[w.heap.size]? = some (.cells (Ev.cells x).toArray 48 (0, 0)) by rw [hB]; exact heap_alloc_new _ _)
  obtain ⟨a, ha⟩ : ∃ s, Or.atom x = s := ⟨_, rfl⟩
  obtain ⟨q, hq⟩ : ∃ s, x.q = s := ⟨_, rfl⟩
  obtain ⟨l, hl⟩ : ∃ s, x.l = s := ⟨_, rfl⟩
  have HA := Lib.hid ha
  have C5 := Lib.hid (show ∀ W, Below B.heap.size B W → W.cell? ⟨w.heap.size, 5, none⟩ = some (.bool q) from fun W h => by rw [cell_of_row _ _ _ _ _ _ ((h.block w.heap.size (Array.getElem?_eq_some_iff.1 RX.out).1).trans RX.out), ← hq]; rfl)
  have C6 := Lib.hid (show ∀ W, Below B.heap.size B W → W.cell? ⟨w.heap.size, 6, none⟩ = some (.bool l) from fun W h => by rw [cell_of_row _ _ _ _ _ _ ((h.block w.heap.size (Array.getElem?_eq_some_iff.1 RX.out).1).trans RX.out), ← hl]; rfl)
  have HRES := Lib.hid (show Or.mark x = (a && (q || l)) by unfold Or.mark; rw [ha, hq, hl])
  clear hB ha hq hl
  unfold Ev.evV
  go_enter Tryz.func156, Tryz.ntmps156
  go_wp2_with ((with_reducible show wpList _ _ _ (Oper.mk (some 3) _ _ _ _ _ :: _) _ _); (try rw [show w.alloc (Obj.cells (Ev.cells x).toArray 48) = B from HB.out.symm]); refine wpList_load_row rfl 48 (.tmp 1) rfl w.heap.size (by kernel_rfl) 48 (Ev.cells x).toArray (0, 0) _ RX.out Tryz.underlying48 rfl (by kernel_rfl) ?_)
  refine (atom_is HA.out _).mono ?_
  rintro e W1 ⟨rfl, hb⟩
  have c5 := C5.out W1 hb; have c6 := C6.out W1 hb
  have B1 := Lib.hid (B0.out.trans (hb.mono B0.out.size)); clear hb
  cases a
  · go_wp2_with fail
    go_ret
    exact ⟨by rw [HRES.out]; try rfl, B1.out⟩
  cases q
  · go_wp2_with fail
    go_ret
    exact ⟨by rw [HRES.out]; try rfl, B1.out⟩
  · go_wp2_with fail
    go_ret
    exact ⟨by rw [HRES.out]; try rfl, B1.out⟩
theorem mark_is {x : Ev.R} {b : Bool} (h : Or.mark x = b) (w : World) : Calls Tryz.prog 156 #[.agg (Ev.cells x).toArray] w fun e w' => e = .returned (.bool b) ∧ Below w.heap.size w w' := h ▸ mark_any x w
set_option maxRecDepth 100000 in
set_option maxHeartbeats 4000000 in
theorem isIn_any (n : Int) (x : Ev.R) (w : World) : Calls Tryz.prog 155 #[.int .i64 n, Ev.evV x] w fun e w' => e = .returned (.bool (Or.isIn n x)) ∧ Below w.heap.size w w' := by
  obtain ⟨B, hB⟩ : ∃ B, B = w.alloc (Obj.cells (Ev.cells x).toArray 48) := ⟨_, rfl⟩
  have HB := Lib.hid hB
  have B0 := Lib.hid (show Below w.heap.size w B by rw [hB]; exact (Below.refl w.heap.size w).alloc (Nat.le_refl _) _)
  have RX := Lib.hid (show B.heap[w.heap.size]? = some (.cells (Ev.cells x).toArray 48 (0, 0)) by rw [hB]; exact heap_alloc_new _ _)
  obtain ⟨s, hs⟩ : ∃ s, Ev.stores x.k = s := ⟨_, rfl⟩
  obtain ⟨l, hl⟩ : ∃ s, Ev.loads x.k = s := ⟨_, rfl⟩
  obtain ⟨t, ht⟩ : ∃ t, (bits .and .i64 n 1 != 0) = t := ⟨_, rfl⟩
  obtain ⟨u, hu⟩ : ∃ t, (bits .and .i64 n 2 != 0) = t := ⟨_, rfl⟩
  have HS := Lib.hid hs; have HL := Lib.hid hl
  have HRES := Lib.hid (show Or.isIn n x = (t && s || u && l) by unfold Or.isIn; rw [hs, hl, ht, hu])
  clear hB hs hl
  unfold Ev.evV
  cases t
  · go_enter Tryz.func155, Tryz.ntmps155
    cases u
    · go_wp2_with ((with_reducible show wpList _ _ _ (Oper.mk (some 5) _ _ _ _ _ :: _) _ _); rw [show w.alloc (Obj.cells (Ev.cells x).toArray 48) = B from HB.out.symm])
      go_ret
      exact ⟨by rw [HRES.out]; try rfl, by first | exact B0.out | (rw [← HB.out]; exact B0.out)⟩
    · go_wp2_with ((with_reducible show wpList _ _ _ (Oper.mk (some 17) _ _ _ _ _ :: _) _ _); (try rw [show w.alloc (Obj.cells (Ev.cells x).toArray 48) = B from HB.out.symm]); refine Ev.load_row_g 48 (.tmp 3) rfl rfl w.heap.size (by kernel_rfl) 48 (Ev.cells x).toArray (0, 0) _ RX.out Tryz.underlying48 rfl (by kernel_rfl) ?_)
      refine (oloads_is HL.out _).mono ?_
      rintro e W9 ⟨rfl, hb⟩
      have HEND := Lib.hid ((B0.out).trans (hb.mono (B0.out).size)); clear hb
      go_wp2_with fail
      go_ret
      exact ⟨by rw [HRES.out]; try rfl, HEND.out⟩
  · go_enter Tryz.func155, Tryz.ntmps155
    go_wp2_with ((with_reducible show wpList _ _ _ (Oper.mk (some 9) _ _ _ _ _ :: _) _ _); (try rw [show w.alloc (Obj.cells (Ev.cells x).toArray 48) = B from HB.out.symm]); refine Ev.load_row_g 48 (.tmp 3) rfl rfl w.heap.size (by kernel_rfl) 48 (Ev.cells x).toArray (0, 0) _ RX.out Tryz.underlying48 rfl (by kernel_rfl) ?_)
    refine (ostores_is HS.out _).mono ?_
    rintro e W1 ⟨rfl, hb⟩
    have R1 := Lib.hid ((hb.block w.heap.size (Array.getElem?_eq_some_iff.1 RX.out).1).trans RX.out)
    have B1 := Lib.hid (B0.out.trans (hb.mono B0.out.size)); clear hb
    cases s
    · cases u
      · go_wp2_with ((with_reducible show wpList _ _ _ (Oper.mk (some 5) _ _ _ _ _ :: _) _ _); rw [show w.alloc (Obj.cells (Ev.cells x).toArray 48) = B from HB.out.symm])
        go_ret
        exact ⟨by rw [HRES.out]; try rfl, B1.out⟩
      · go_wp2_with ((with_reducible show wpList _ _ _ (Oper.mk (some 17) _ _ _ _ _ :: _) _ _); (try rw [show w.alloc (Obj.cells (Ev.cells x).toArray 48) = B from HB.out.symm]); refine Ev.load_row_g 48 (.tmp 3) rfl rfl w.heap.size (by kernel_rfl) 48 (Ev.cells x).toArray (0, 0) _ R1.out Tryz.underlying48 rfl (by kernel_rfl) ?_)
        refine (oloads_is HL.out _).mono ?_
        rintro e W9 ⟨rfl, hb⟩
        have HEND := Lib.hid ((B1.out).trans (hb.mono (B1.out).size)); clear hb
        go_wp2_with fail
        go_ret
        exact ⟨by rw [HRES.out]; try rfl, HEND.out⟩
    · go_wp2_with fail
      go_ret
      exact ⟨by rw [HRES.out]; try rfl, B1.out⟩
theorem isIn_is {n : Int} {x : Ev.R} {b : Bool} (h : Or.isIn n x = b) (w : World) : Calls Tryz.prog 155 #[.int .i64 n, .agg (Ev.cells x).toArray] w fun e w' => e = .returned (.bool b) ∧ Below w.heap.size w w' := h ▸ isIn_any n x w
end Go.Proofs.YtecnnkidalkmfaaGreat
end

section
namespace Go.Proofs.YtecnnkidalkmfaaGreat
open Go.RowKit
namespace Ev
def bnd (b : Bool) : Int := if b then 1 else 0
def frAt (x : X) (b : Nat) : Int := x.fr.l.getD b 0
def bondRf (x : X) (a b : Nat) : Int := if stores (nth x.ev a).k = false then 2 else bnd (frAt x b == (a : Int))
def bondPo (x : X) (a b : Nat) : Int := if (nth x.ev a).k = 5 ∨ (nth x.ev a).h < (nth x.ev b).h then 2 else bnd (decide ((a : Int) < (b : Int)))
structure Bx (w : World) (q : Nat) (x : X) : Prop where
  row : w.heap[q]? = some (.cells (xcells x).toArray 26 (0, 0))
  xin : XIn w x
theorem Bx.kp {w w' : World} {q : Nat} {x : X} (h : Bx w q x) (hb : Below w.heap.size w w') : Bx w' q x :=
  ⟨(hb.block q (Array.getElem?_eq_some_iff.1 h.row).1).trans h.row, h.xin.kp (kp_below hb)⟩
theorem Bx.c0 {w : World} {q : Nat} {x : X} (h : Bx w q x) : w.cell? ⟨q, 0, none⟩ = some (.slice x.ae x.ev.length x.ce) := by rw [cell_of_row _ _ _ _ _ _ h.row]; rfl
theorem Bx.c1 {w : World} {q : Nat} {x : X} (h : Bx w q x) : w.cell? ⟨q, 1, none⟩ = some (.slice x.fr.a x.fr.l.length x.fr.c) := by rw [cell_of_row _ _ _ _ _ _ h.row]; rfl
theorem Bx.c2 {w : World} {q : Nat} {x : X} (h : Bx w q x) : w.cell? ⟨q, 2, none⟩ = some (.slice x.ao x.od.length x.co) := by rw [cell_of_row _ _ _ _ _ _ h.row]; rfl
theorem bx_new {w : World} {x : X} (h : XIn w x) : Bx (w.alloc (.cells (xcells x).toArray 26)) w.heap.size x :=
  ⟨heap_alloc_new _ _, h.kp (kp_below ((Below.refl _ _).alloc (Nat.le_refl _) _))⟩
def CPost (R : Bool → Prop) (w : World) (e : Ending) (w' : World) : Prop := ∃ b, e = .returned (.bool b) ∧ R b ∧ Below w.heap.size w w'
theorem CPost.mk {R : Bool → Prop} {w : World} {e : Ending} {w' : World} (b : Bool) (h1 : e = .returned (.bool b)) (h2 : R b) (h3 : Below w.heap.size w w') : CPost R w e w' := ⟨b, h1, h2, h3⟩
theorem enters_of (F : FuncId) (h : ∀ args w, (callFunc F args).run Tryz.prog w = .ok (.enter F args) w) : Enters F := h
end Ev
theorem bond_is (b : Bool) (w : World) : Calls Tryz.prog 109 #[.bool b] w fun e w' => e = .returned (.int .i64 (Ev.bnd b)) ∧ w = w' := bond_any b w
theorem run_load_slice {P : Program} {w : World} {ty e : TypeId} {p : Addr} {v : Value} (hu : P.underlying ty = some (.slice e)) (hc : w.cell? p = some v) : (loadVar ty p).run P w = .ok v w := by
  unfold loadVar isAgg
  simp only [Sem.run_bind, run_underlying hu w, Sem.run_pure, Result.andThen_ok]
  go_simp
  first | done | rw [hc]
theorem check_from {x : Ev.X} (h : Ev.check x = 0) : x.fr.l.length = x.ev.length := by
  unfold Ev.check at h
  split at h
  · cases h
  split at h
  · cases h
  split at h
  · cases h
  · rename_i h1 h2
    simp at h2
    unfold Ev.fromOk at h2
    simp at h2
    exact h2.1
end Go.Proofs.YtecnnkidalkmfaaGreat
end

section
namespace Go.Proofs.YtecnnkidalkmfaaGreat
open Go.RowKit
namespace Ev
theorem check_order {x : X} (h : check x = 0) : orderOk x.ev x.od = true ∧ fromOk x.ev x.fr.l = true ∧ x.ev.length ≤ 64 := by
  unfold check at h
  split at h
  · cases h
  split at h
  · cases h
  split at h
  · cases h
  split at h
  · cases h
  · rename_i h1 h2 h3 h4
    exact ⟨by simpa using h4, by simpa using h3, by omega⟩
theorem check_lens {x : X} (h : check x = 0) : x.od.length ≤ 64 ∧ ∀ s ∈ x.od, s.l.length ≤ 64 := by
  obtain ⟨h1, _, h3⟩ := check_order h
  unfold orderOk at h1
  simp only [Bool.and_eq_true, beq_iff_eq, List.all_eq_true] at h1
  have hb := beg_le x.ev
  refine ⟨by omega, fun s hs => ?_⟩
  obtain ⟨j, hj⟩ := List.mem_iff_getElem?.1 hs
  have := h1.2 j (List.mem_range.2 (List.getElem?_eq_some_iff.1 hj).1)
  unfold orderAt at this
  rw [hj] at this
  simp only [Bool.and_eq_true, beq_iff_eq] at this
  have hc := cnt_le x.ev (nth x.ev j).a
  omega
theorem from_in {x : X} (h : check x = 0) {a : Nat} (ha : a < x.ev.length) (hl : loads (nth x.ev a).k = true) : ∃ f : Nat, f < x.ev.length ∧ x.fr.l[a]? = some (f : Int) ∧ frAt x a = f := by
  obtain ⟨_, h2, _⟩ := check_order h
  have hfl : x.fr.l.length = x.ev.length := check_from h
  unfold fromOk at h2
  simp only [Bool.and_eq_true, beq_iff_eq, List.all_eq_true] at h2
  have := h2.2 a (List.mem_range.2 ha)
  unfold fromAt at this
  rw [if_pos hl] at this
  unfold readOk inB at this
  simp only [Bool.and_eq_true, decide_eq_true_eq] at this
  have hg := List.getElem?_eq_getElem (show a < x.fr.l.length by omega)
  have e : x.fr.l.getD a 0 = x.fr.l[a] := by simp [List.getD, hg]
  rw [e] at this
  refine ⟨x.fr.l[a].toNat, by omega, ?_, ?_⟩
  · rw [hg]; congr 1; omega
  · unfold frAt; rw [e]; omega
end Ev
end Go.Proofs.YtecnnkidalkmfaaGreat
end

section
namespace Go.Og
open Go Go.RowKit
variable {F : Fence} {n : Nat} {P : Program}
def IterL {α : Type} (F : Fence) (n : Nat) (P : Program) (g : Nat) (lb : Array Value) (R : World → Prop) (enc : α → Array Value) (xs : List α) : Prop :=
  ∀ (l : Nat) (J : Nat → World → Prop) (Jx : World → Prop) (W : World),
    (∀ k A A', J k A → Below A.heap.size A A' → J k A') → (∀ k A, J k A → R A) →
    (∀ k x W1, xs[k]? = some x → J k W1 → YieldAt F (n - 1) P l (enc x) W1 fun e W' => (e = .returned (.bool true) ∧ J (k + 1) W') ∨ (e = .returned (.bool false) ∧ Jx W')) →
    J 0 W → CallsIn F n P g (#[.func (.yield l) #[] #[]] ++ lb) W fun e W' => (∃ v, e = .returned v) ∧ (J xs.length W' ∨ Jx W')
def liPost (I : Nat → World → Prop) (Ix : Code → World → Prop) (k : Nat) (W : World) : Exit → Act → World → Prop
  | .normal, _, W' => KeepsOthers W W' ∧ I (k + 1) W'
  | .ret, _, W' => KeepsOthers W W' ∧ Ix .ret W'
  | .exit id, _, W' => KeepsOthers W W' ∧ Ix (.exit id) W'
  | .goto t, _, W' => KeepsOthers W W' ∧ Ix (.goto t) W'
  | .panic _, _, _ => False
  | .outgrown, _, _ => False
theorem wpIn_rangeFunc_list {α : Type} {g : Operand} {ps : Array Tmp} {assign body : Code} {Q : Exit → Act → World → Prop} {a : Act} {w : World}
    (hro : F.round = none) (h1 : 1 ≤ n) {gf : Nat} {lb : Array Value} (hg : a.eval g = .func (.func gf) #[] lb) (hFg : F.fn gf) (eg : ∀ args w, (callFunc gf args).run P w = .ok (.enter gf args) w)
    {R : World → Prop} {enc : α → Array Value} {xs : List α} (hit : IterL F (n - 1) P gf lb R enc xs) (hps : ∀ s, (enc s).size = ps.size)
    (I : Nat → World → Prop) (Ix : Code → World → Prop)
    (hb : ∀ k A A', I k A → Below A.heap.size A A' → I k A') (hp : ∀ k A l o o', I k A → w.heap.size ≤ l → A.heap[l]? = some o → o.isCells = false → I k (A.putObj l o'))
    (hpx : ∀ c A l o o', Ix c A → w.heap.size ≤ l → A.heap[l]? = some o → o.isCells = false → Ix c (A.putObj l o'))
    (hR : ∀ k A, I k A → R A)
    (h0 : I 0 w) (a₁ : α → Act)
    (hassign : ∀ (l : Nat) (s : α) (W : World) (K : Act → World → Prop), K (a₁ s) W →
      assign.wpIn (F.inRound l) (n - 1 - 1) P (Exit.then K (fun _ _ _ => False)) { tmps := (ps.zip (enc s)).foldl (fun t (p, v) => t.setIfInBounds p v) a.tmps, defers := [] } W)
    (hbody : ∀ (l k : Nat) (s : α) (W : World), xs[k]? = some s → I k W → body.wpIn (F.inRound l) (n - 1 - 1) P (liPost I Ix k W) (a₁ s) W)
    (hdone : ∀ (D : Nat) (W : World), w.heap.size ≤ D → I xs.length W → W.heap[D]? = some (.deferred (some [])) → Q .normal { a with defers := { target := .collected D, args := #[] } :: a.defers } W)
    (hstop : ∀ (D : Nat) (c : Code) (W : World), w.heap.size ≤ D → Ix c W → W.heap[D]? = some (.deferred (some [])) → c.wpIn F n P Q { a with defers := { target := .collected D, args := #[] } :: a.defers } W) :
    (Code.rangeFunc g ps assign body).wpIn F n P Q a w := by
  refine wpIn_rangeFunc fun fn hfn => ?_
  rw [hro]
  obtain ⟨rec, hrec⟩ : ∃ rec : LoopState → Option Code → Loop, rec = fun st pe => { state := st, pending := pe, fn, tmps := a.tmps, params := ps, assign, body, defers := w.heap.size } := ⟨_, rfl⟩
  obtain ⟨W1, hW1⟩ : ∃ W1, (w.alloc (.deferred (some []))).alloc (.loop (rec .ready none)) = W1 := ⟨_, rfl⟩
  have hD : W1.heap[w.heap.size]? = some (.deferred (some [])) := by
    rw [← hW1]; exact (Below.heap_alloc _ _ _ (by simp)).trans (World.alloc_heap_new w _)
  have hL : W1.heap[w.heap.size + 1]? = some (.loop (rec .ready none)) := by
    have := World.alloc_heap_new (w.alloc (.deferred (some []))) (.loop (rec .ready none)); rw [World.size_alloc] at this; rw [← hW1]; exact this
  have hI1 : I 0 W1 := by
    rw [← hW1]; exact hb _ _ _ h0 (((Below.refl _ w).alloc (Nat.le_refl _) _).alloc (by simp) _)
  refine ⟨w.heap.size + 1, [{ target := .collected w.heap.size, args := #[] }], W1, { target := .fn (.func gf) lb, args := #[.func (.yield (w.heap.size + 1)) #[] #[]] }, W1, gf,
    #[.func (.yield (w.heap.size + 1)) #[] #[]] ++ lb, W1, ?_, ?_, ?_, ?_, fun _ => h1, ?_⟩
  · rw [← hW1, hrec]; exact run_enterLoop_outer _ _ _ _ _
  · simp only [resolve, hg]; simp [go_sem]
  · intro f' hf'; simp [Target.leads] at hf'; subst hf'; exact hFg
  · simp [invoke, go_sem, eg]
  · have kd : ∀ {A A' : World} {k : Nat} {o : Obj}, Below A.heap.size A A' → A.heap[k]? = some o → A'.heap[k]? = some o := fun hb' h => (hb'.block _ (Array.getElem?_eq_some_iff.1 h).1).trans h
    refine (hit (w.heap.size + 1) (fun k W => I k W ∧ W.heap[w.heap.size + 1]? = some (.loop (rec .ready none)) ∧ W.heap[w.heap.size]? = some (.deferred (some [])))
      (fun W => ∃ c, Ix c W ∧ W.heap[w.heap.size + 1]? = some (.loop (rec .done (some c))) ∧ W.heap[w.heap.size]? = some (.deferred (some []))) W1
      (fun k A A' h hb' => ⟨hb _ _ _ h.1 hb', kd hb' h.2.1, kd hb' h.2.2⟩) (fun k A h => hR _ _ h.1) ?_ ⟨hI1, hL, hD⟩).mono ?_
    · rintro k s W hs ⟨hi, hl, hk⟩
      have hlt : w.heap.size + 1 < W.heap.size := (Array.getElem?_eq_some_iff.1 hl).1
      have hy := run_yield (P := P) (args := enc s) hl (by rw [hrec]; exact hps s)
      rw [hrec] at hy
      refine ⟨fn, _, assign, body, hy, roundIn_of_wpIn hfn (hassign _ s W _ ⟨_, run_beginRound hl (by rw [hrec]), ?_⟩)⟩
      have hl2 : (W.putObj (w.heap.size + 1) (.loop { rec .ready none with state := .busy })).heap[w.heap.size + 1]? = some (.loop { rec .ready none with state := .busy }) := World.putObj_heap_same hlt
      have hk2 : (W.putObj (w.heap.size + 1) (.loop { rec .ready none with state := .busy })).heap[w.heap.size]? = some (.deferred (some [])) := (World.putObj_heap_other (by omega)).trans hk
      have fin : ∀ (jump : Option Code) (W3 : World), KeepsOthers (W.putObj (w.heap.size + 1) (.loop { rec .ready none with state := .busy })) W3 →
          (Instr.endRound (w.heap.size + 1) jump).run P W3 = .ok (.bool jump.isNone) (W3.putObj (w.heap.size + 1) (.loop (rec (if jump.isNone then .ready else .done) jump))) ∧
          W3.heap[w.heap.size + 1]? = some (.loop { rec .ready none with state := .busy }) ∧
          (W3.putObj (w.heap.size + 1) (.loop (rec (if jump.isNone then .ready else .done) jump))).heap[w.heap.size + 1]? = some (.loop (rec (if jump.isNone then .ready else .done) jump)) ∧
          (W3.putObj (w.heap.size + 1) (.loop (rec (if jump.isNone then .ready else .done) jump))).heap[w.heap.size]? = some (.deferred (some [])) := fun jump W3 hk3 => by
        have hl3 := hk3.same _ _ hl2 rfl
        have he := run_endRound (P := P) jump hl3
        rw [hrec] at he ⊢
        exact ⟨he, by rw [hrec] at hl3; exact hl3, World.putObj_heap_same (Array.getElem?_eq_some_iff.1 hl3).1, (World.putObj_heap_other (by omega)).trans (hk3.same _ _ hk2 rfl)⟩
      refine wpIn_mono (hbody _ k s _ hs (hp _ _ _ _ _ hi (Nat.le_succ _) hl rfl)) ?_
      rintro e a3 W3 hpost
      cases e with
      | normal =>
        obtain ⟨hk3, hi3⟩ := hpost
        obtain ⟨hr3, hl3, hl4, hk4⟩ := fin none W3 hk3
        exact ⟨_, _, hr3, .inl ⟨rfl, hp _ _ _ _ _ hi3 (Nat.le_succ _) hl3 rfl, hl4, hk4⟩⟩
      | ret =>
        obtain ⟨hk3, hi3⟩ := hpost
        obtain ⟨hr3, hl3, hl4, hk4⟩ := fin (some .ret) W3 hk3
        exact ⟨_, _, hr3, .inr ⟨rfl, .ret, hpx _ _ _ _ _ hi3 (Nat.le_succ _) hl3 rfl, hl4, hk4⟩⟩
      | exit id =>
        obtain ⟨hk3, hi3⟩ := hpost
        obtain ⟨hr3, hl3, hl4, hk4⟩ := fin (some (.exit id)) W3 hk3
        exact ⟨_, _, hr3, .inr ⟨rfl, .exit id, hpx _ _ _ _ _ hi3 (Nat.le_succ _) hl3 rfl, hl4, hk4⟩⟩
      | goto t =>
        obtain ⟨hk3, hi3⟩ := hpost
        obtain ⟨hr3, hl3, hl4, hk4⟩ := fin (some (.goto t)) W3 hk3
        exact ⟨_, _, hr3, .inr ⟨rfl, .goto t, hpx _ _ _ _ _ hi3 (Nat.le_succ _) hl3 rfl, hl4, hk4⟩⟩
      | panic ch => exact hpost.elim
      | outgrown => exact hpost.elim
    · rintro e W2 ⟨⟨v, rfl⟩, (⟨hi, hl, hk⟩ | ⟨c, hi, hl, hk⟩)⟩
      · exact ⟨none, _, by have := run_endLoop (P := P) hl (by rw [hrec]; simp); rw [hrec] at this; exact this, hdone _ _ (Nat.le_refl _) (hp _ _ _ _ _ hi (Nat.le_succ _) hl rfl) ((World.putObj_heap_other (by omega)).trans hk)⟩
      · exact ⟨some c, _, by have := run_endLoop (P := P) hl (by rw [hrec]; simp); rw [hrec] at this; exact this, hstop _ c _ (Nat.le_refl _) (hpx _ _ _ _ _ hi (Nat.le_succ _) hl rfl) ((World.putObj_heap_other (by omega)).trans hk)⟩
theorem keeps_below {W W' : World} (h : Below W.heap.size W W') : KeepsOthers W W' := ⟨h.size, fun k o hk _ => (h.block k (Array.getElem?_eq_some_iff.1 hk).1).trans hk⟩
end Go.Og
end
