import Derived.Test.YtnjnpbabgefaeaaGreatKg04
import Derived.Deep.QuietTactic
import Derived.WalkKit
import Derived.BigQuiet
import Derived.IntWalk
set_option linter.unusedVariables false
set_option linter.unusedSimpArgs false

section
namespace Go.Proofs.YtnjnpbabgefaeaaGreat
open Go.RowKit
theorem oloads_is {x : Ev.R} {b : Bool} (h : Ev.loads x.k = b) (w : World) : Calls Tryz.prog 98 #[.agg (Ev.cells x).toArray] w fun e w' => e = .returned (.bool b) ∧ Below w.heap.size w w' := h ▸ loads_any x w
theorem ostores_is {x : Ev.R} {b : Bool} (h : Ev.stores x.k = b) (w : World) : Calls Tryz.prog 100 #[.agg (Ev.cells x).toArray] w fun e w' => e = .returned (.bool b) ∧ Below w.heap.size w w' := h ▸ stores_any x w
namespace Or
open Ev
def acc (x : R) : Bool := x.k != 5 && (loads x.k || stores x.k)
def atom (x : R) : Bool := x.k == 3 || x.z
def mark (x : R) : Bool := atom x && (x.q || x.l)
def isIn (n : Int) (x : R) : Bool := (bits .and .i64 n 1 != 0) && stores x.k || (bits .and .i64 n 2 != 0) && loads x.k
end Or
set_option maxRecDepth 100000 in
set_option maxHeartbeats 2000000 in
theorem access_any (x : Ev.R) (w : World) : Calls Tryz.prog 123 #[Ev.evV x] w fun e w' => e = .returned (.bool (Or.acc x)) ∧ Below w.heap.size w w' := by
  obtain ⟨B, hB⟩ : ∃ B, B = w.alloc (Obj.cells (Ev.cells x).toArray 48) := ⟨_, rfl⟩
  have HB := Lib.hid hB
  have B0 := Lib.hid (show Below w.heap.size w B by rw [hB]; exact (Below.refl w.heap.size w).alloc (Nat.le_refl _) _)
  have RX := Lib.hid (show B.heap[w.heap.size]? = some (.cells (Ev.cells x).toArray 48 (0, 0)) by rw [hB]; exact heap_alloc_new _ _)
  obtain ⟨s, hs⟩ : ∃ s, Ev.stores x.k = s := ⟨_, rfl⟩
  obtain ⟨l, hl⟩ : ∃ s, Ev.loads x.k = s := ⟨_, rfl⟩
  have HS := Lib.hid hs; have HL := Lib.hid hl
  have c1 : B.cell? ⟨w.heap.size, 1, none⟩ = some (.int .i64 x.k) := by rw [cell_of_row _ _ _ _ _ _ RX.out]; rfl
  have HRES := Lib.hid (show Or.acc x = (x.k != 5 && (l || s)) by unfold Or.acc; rw [hs, hl])
  clear hB hs hl
  unfold Ev.evV
  by_cases h5 : x.k = 5
  · have t5 : (x.k != 5) = false := by simp [h5]
    have HRES := Lib.hid (show Or.acc x = false by rw [HRES.out, t5]; rfl)
    clear h5
    go_enter Tryz.func123, Tryz.ntmps123
    go_wp2_with ((with_reducible show wpList _ _ _ (Oper.mk (some 3) _ _ _ _ _ :: _) _ _); rw [show w.alloc (Obj.cells (Ev.cells x).toArray 48) = B from HB.out.symm])
    go_ret
    exact ⟨by rw [HRES.out]; try rfl, by first | exact B0.out | (rw [← HB.out]; exact B0.out)⟩
  have t5 : (x.k != 5) = true := by simpa using h5
  have HRES := Lib.hid (show Or.acc x = (l || s) by rw [HRES.out, t5]; rfl)
  clear h5
  go_enter Tryz.func123, Tryz.ntmps123
  go_wp2_with (first
    | ((with_reducible show wpList _ _ _ (Oper.mk (some 3) _ _ _ _ _ :: _) _ _); rw [show w.alloc (Obj.cells (Ev.cells x).toArray 48) = B from HB.out.symm])
    | ((with_reducible show wpList _ _ _ (Oper.mk (some 7) _ _ _ _ _ :: _) _ _); (try rw [show w.alloc (Obj.cells (Ev.cells x).toArray 48) = B from HB.out.symm]); refine Ev.load_row_g 48 (.tmp 1) rfl rfl w.heap.size (by kernel_rfl) 48 (Ev.cells x).toArray (0, 0) _ RX.out Tryz.underlying48 rfl (by kernel_rfl) ?_))
  refine (oloads_is HL.out _).mono ?_
  rintro e W1 ⟨rfl, hb⟩
  have R1 := Lib.hid ((hb.block w.heap.size (Array.getElem?_eq_some_iff.1 RX.out).1).trans RX.out)
  have B1 := Lib.hid (B0.out.trans (hb.mono B0.out.size)); clear hb c1
  cases l
  case true =>
    go_wp2_with fail
    go_ret
    exact ⟨by rw [HRES.out]; try rfl, B1.out⟩
  go_wp2_with ((with_reducible show wpList _ _ _ (Oper.mk (some 10) _ _ _ _ _ :: _) _ _); (try rw [show w.alloc (Obj.cells (Ev.cells x).toArray 48) = B from HB.out.symm]); refine Ev.load_row_g 48 (.tmp 1) rfl rfl w.heap.size (by kernel_rfl) 48 (Ev.cells x).toArray (0, 0) _ R1.out Tryz.underlying48 rfl (by kernel_rfl) ?_)
  refine (ostores_is HS.out _).mono ?_
  rintro e W2 ⟨rfl, hb⟩
  have B2 := Lib.hid (B1.out.trans (hb.mono B1.out.size)); clear hb
  cases s
  · go_wp2_with fail
    go_ret
    exact ⟨by rw [HRES.out]; try rfl, B2.out⟩
  · go_wp2_with fail
    go_ret
    exact ⟨by rw [HRES.out]; try rfl, B2.out⟩
set_option maxRecDepth 100000 in
set_option maxHeartbeats 2000000 in
theorem atom_any (x : Ev.R) (w : World) : Calls Tryz.prog 153 #[Ev.evV x] w fun e w' => e = .returned (.bool (Or.atom x)) ∧ Below w.heap.size w w' := by
  obtain ⟨B, hB⟩ : ∃ B, B = w.alloc (Obj.cells (Ev.cells x).toArray 48) := ⟨_, rfl⟩
  have HB := Lib.hid hB
  have B0 := Lib.hid (show Below w.heap.size w B by rw [hB]; exact (Below.refl w.heap.size w).alloc (Nat.le_refl _) _)
  have RX := Lib.hid (show B.heap[w.heap.size]? = some (.cells (Ev.cells x).toArray 48 (0, 0)) by rw [hB]; exact heap_alloc_new _ _)
  obtain ⟨z, hz⟩ : ∃ s, x.z = s := ⟨_, rfl⟩
  have c1 : B.cell? ⟨w.heap.size, 1, none⟩ = some (.int .i64 x.k) := by rw [cell_of_row _ _ _ _ _ _ RX.out]; rfl
  have c9 : B.cell? ⟨w.heap.size, 9, none⟩ = some (.bool z) := by rw [cell_of_row _ _ _ _ _ _ RX.out, ← hz]; rfl
  have HRES := Lib.hid (show Or.atom x = (x.k == 3 || z) by unfold Or.atom; rw [hz])
  clear hB hz
  unfold Ev.evV
  by_cases h5 : x.k = 3
  · have t5 : (x.k == 3) = true := by simp [h5]
    have HRES := Lib.hid (show Or.atom x = true by rw [HRES.out, t5]; rfl)
    clear h5
    go_enter Tryz.func153, Tryz.ntmps153
    go_wp2_with ((with_reducible show wpList _ _ _ (Oper.mk (some 3) _ _ _ _ _ :: _) _ _); rw [show w.alloc (Obj.cells (Ev.cells x).toArray 48) = B from HB.out.symm])
    go_ret
    exact ⟨by rw [HRES.out]; try rfl, by first | exact B0.out | (rw [← HB.out]; exact B0.out)⟩
  have t5 : (x.k == 3) = false := by simpa using h5
  have HRES := Lib.hid (show Or.atom x = z by rw [HRES.out, t5]; rfl)
  clear h5
  go_enter Tryz.func153, Tryz.ntmps153
  go_wp2_with ((with_reducible show wpList _ _ _ (Oper.mk (some 3) _ _ _ _ _ :: _) _ _); rw [show w.alloc (Obj.cells (Ev.cells x).toArray 48) = B from HB.out.symm])
  go_ret
  exact ⟨by rw [HRES.out]; try rfl, by first | exact B0.out | (rw [← HB.out]; exact B0.out)⟩
theorem atom_is {x : Ev.R} {b : Bool} (h : Or.atom x = b) (w : World) : Calls Tryz.prog 153 #[.agg (Ev.cells x).toArray] w fun e w' => e = .returned (.bool b) ∧ Below w.heap.size w w' := h ▸ atom_any x w
theorem access_is {x : Ev.R} {b : Bool} (h : Or.acc x = b) (w : World) : Calls Tryz.prog 123 #[.agg (Ev.cells x).toArray] w fun e w' => e = .returned (.bool b) ∧ Below w.heap.size w w' := h ▸ access_any x w
set_option maxRecDepth 100000 in
set_option maxHeartbeats 2000000 in
theorem mark_any (x : Ev.R) (w : World) : Calls Tryz.prog 156 #[Ev.evV x] w fun e w' => e = .returned (.bool (Or.mark x)) ∧ Below w.heap.size w w' := by
  obtain ⟨B, hB⟩ : ∃ B, B = w.alloc (Obj.cells (Ev.cells x).toArray 48) := ⟨_, rfl⟩
  have HB := Lib.hid hB
  have B0 := Lib.hid (show Below w.heap.size w B by rw [hB]; exact (Below.refl w.heap.size w).alloc (Nat.le_refl _) _)
  have RX := Lib.hid (show B.heap[w.heap.size]? = some (.cells (Ev.cells x).toArray 48 (0, 0)) by rw [hB]; exact heap_alloc_new _ _)
  obtain ⟨a, ha⟩ : ∃ s, Or.atom x = s := ⟨_, rfl⟩
  obtain ⟨q, hq⟩ : ∃ s, x.q = s := ⟨_, rfl⟩
  obtain ⟨l, hl⟩ : ∃ s, x.l = s := ⟨_, rfl⟩
  have HA := Lib.hid ha
  have C5 := Lib.hid (show ∀ W, Below B.heap.size B W → W.cell? ⟨w.heap.size, 5, none⟩ = some (.bool q) from fun W h => by rw [cell_of_row _ _ _ _ _ _ ((h.block w.heap.size (Array.getElem?_eq_some_iff.1 RX.out).1).trans RX.out), ← hq]; rfl)
  have C6 := Lib.hid (show ∀ W, Below B.heap.size B W → W.cell? ⟨w.heap.size, 6, none⟩ = some (.bool l) from fun W h => by rw [cell_of_row _ _ _ _ _ _ ((h.block w.heap.size (Array.getElem?_eq_some_iff.1 RX.out).1).trans RX.out), ← hl]; rfl)
  have HRES := Lib.hid (show Or.mark x = (a && (q || l)) by unfold Or.mark; rw [ha, hq, hl])
  clear hB ha hq hl
  unfold Ev.evV
  go_enter Tryz.func156, Tryz.ntmps156
  go_wp2_with ((with_reducible show wpList _ _ _ (Oper.mk (some 3) _ _ _ _ _ :: _) _ _); (try rw [show w.alloc (Obj.cells (Ev.cells x).toArray 48) = B from HB.out.symm]); refine wpList_load_row rfl 48 (.tmp 1) rfl w.heap.size (by kernel_rfl) 48 (Ev.cells x).toArray (0, 0) _ RX.out Tryz.underlying48 rfl (by kernel_rfl) ?_)
  refine (atom_is HA.out _).mono ?_
  rintro e W1 ⟨rfl, hb⟩
  have c5 := C5.out W1 hb; have c6 := C6.out W1 hb
  have B1 := Lib.hid (B0.out.trans (hb.mono B0.out.size)); clear hb
  cases a
  · go_wp2_with fail
    go_ret
    exact ⟨by rw [HRES.out]; try rfl, B1.out⟩
  cases q
  · go_wp2_with fail
    go_ret
    exact ⟨by rw [HRES.out]; try rfl, B1.out⟩
  · go_wp2_with fail
    go_ret
    exact ⟨by rw [HRES.out]; try rfl, B1.out⟩
theorem mark_is {x : Ev.R} {b : Bool} (h : Or.mark x = b) (w : World) : Calls Tryz.prog 156 #[.agg (Ev.cells x).toArray] w fun e w' => e = .returned (.bool b) ∧ Below w.heap.size w w' := h ▸ mark_any x w
set_option maxRecDepth 100000 in
set_option maxHeartbeats 4000000 in
theorem isIn_any (n : Int) (x : Ev.R) (w : World) : Calls Tryz.prog 155 #[.int .i64 n, Ev.evV x] w fun e w' => e = .returned (.bool (Or.isIn n x)) ∧ Below w.heap.size w w' := by
  obtain ⟨B, hB⟩ : ∃ B, B = w.alloc (Obj.cells (Ev.cells x).toArray 48) := ⟨_, rfl⟩
  have HB := Lib.hid hB
  have B0 := Lib.hid (show Below w.heap.size w B by rw [hB]; exact (Below.refl w.heap.size w).alloc (Nat.le_refl _) _)
  have RX := Lib.hid (show B.heap[w.heap.size]? = some (.cells (Ev.cells x).toArray 48 (0, 0)) by rw [hB]; exact heap_alloc_new _ _)
  obtain ⟨s, hs⟩ : ∃ s, Ev.stores x.k = s := ⟨_, rfl⟩
  obtain ⟨l, hl⟩ : ∃ s, Ev.loads x.k = s := ⟨_, rfl⟩
  obtain ⟨t, ht⟩ : ∃ t, (bits .and .i64 n 1 != 0) = t := ⟨_, rfl⟩
  obtain ⟨u, hu⟩ : ∃ t, (bits .and .i64 n 2 != 0) = t := ⟨_, rfl⟩
  have HS := Lib.hid hs; have HL := Lib.hid hl
  have HRES := Lib.hid (show Or.isIn n x = (t && s || u && l) by unfold Or.isIn; rw [hs, hl, ht, hu])
  clear hB hs hl
  unfold Ev.evV
  cases t
  · go_enter Tryz.func155, Tryz.ntmps155
    cases u
    · go_wp2_with ((with_reducible show wpList _ _ _ (Oper.mk (some 5) _ _ _ _ _ :: _) _ _); rw [show w.alloc (Obj.cells (Ev.cells x).toArray 48) = B from HB.out.symm])
      go_ret
      exact ⟨by rw [HRES.out]; try rfl, by first | exact B0.out | (rw [← HB.out]; exact B0.out)⟩
    · go_wp2_with ((with_reducible show wpList _ _ _ (Oper.mk (some 17) _ _ _ _ _ :: _) _ _); (try rw [show w.alloc (Obj.cells (Ev.cells x).toArray 48) = B from HB.out.symm]); refine Ev.load_row_g 48 (.tmp 3) rfl rfl w.heap.size (by kernel_rfl) 48 (Ev.cells x).toArray (0, 0) _ RX.out Tryz.underlying48 rfl (by kernel_rfl) ?_)
      refine (oloads_is HL.out _).mono ?_
      rintro e W9 ⟨rfl, hb⟩
      have HEND := Lib.hid ((B0.out).trans (hb.mono (B0.out).size)); clear hb
      go_wp2_with fail
      go_ret
      exact ⟨by rw [HRES.out]; try rfl, HEND.out⟩
  · go_enter Tryz.func155, Tryz.ntmps155
    go_wp2_with ((with_reducible show wpList _ _ _ (Oper.mk (some 9) _ _ _ _ _ :: _) _ _); (try rw [show w.alloc (Obj.cells (Ev.cells x).toArray 48) = B from HB.out.symm]); refine Ev.load_row_g 48 (.tmp 3) rfl rfl w.heap.size (by kernel_rfl) 48 (Ev.cells x).toArray (0, 0) _ RX.out Tryz.underlying48 rfl (by kernel_rfl) ?_)
    refine (ostores_is HS.out _).mono ?_
    rintro e W1 ⟨rfl, hb⟩
    have R1 := Lib.hid ((hb.block w.heap.size (Array.getElem?_eq_some_iff.1 RX.out).1).trans RX.out)
    have B1 := Lib.hid (B0.out.trans (hb.mono B0.out.size)); clear hb
    cases s
    · cases u
      · go_wp2_with ((with_reducible show wpList _ _ _ (Oper.mk (some 5) _ _ _ _ _ :: _) _ _); rw [show w.alloc (Obj.cells (Ev.cells x).toArray 48) = B from HB.out.symm])
        go_ret
        exact ⟨by rw [HRES.out]; try rfl, B1.out⟩
      · go_wp2_with ((with_reducible show wpList _ _ _ (Oper.mk (some 17) _ _ _ _ _ :: _) _ _); (try rw [show w.alloc (Obj.cells (Ev.cells x).toArray 48) = B from HB.out.symm]); refine Ev.load_row_g 48 (.tmp 3) rfl rfl w.heap.size (by kernel_rfl) 48 (Ev.cells x).toArray (0, 0) _ R1.out Tryz.underlying48 rfl (by kernel_rfl) ?_)
        refine (oloads_is HL.out _).mono ?_
        rintro e W9 ⟨rfl, hb⟩
        have HEND := Lib.hid ((B1.out).trans (hb.mono (B1.out).size)); clear hb
        go_wp2_with fail
        go_ret
        exact ⟨by rw [HRES.out]; try rfl, HEND.out⟩
    · go_wp2_with fail
      go_ret
      exact ⟨by rw [HRES.out]; try rfl, B1.out⟩
theorem isIn_is {n : Int} {x : Ev.R} {b : Bool} (h : Or.isIn n x = b) (w : World) : Calls Tryz.prog 155 #[.int .i64 n, .agg (Ev.cells x).toArray] w fun e w' => e = .returned (.bool b) ∧ Below w.heap.size w w' := h ▸ isIn_any n x w
end Go.Proofs.YtnjnpbabgefaeaaGreat
end

section
namespace Go.Proofs.YtnjnpbabgefaeaaGreat
open Go.RowKit
namespace Ev
def atGo (n : Int) : Int → List Int → Int
  | _, [] => -1
  | i, v :: r => if v = n then i else atGo n (i + 1) r
def at_ (l : List Int) (n : Int) : Int := atGo n 0 l
theorem atGo_neg {n : Int} : ∀ {l : List Int} {i : Int}, n ∉ l → atGo n i l = -1
  | [], _, _ => rfl
  | v :: r, i, h => by
    unfold atGo
    rw [if_neg (fun e => h (by rw [e]; exact List.mem_cons_self))]
    exact atGo_neg fun hm => h (List.mem_cons_of_mem _ hm)
theorem atGo_pos {n : Int} : ∀ {l : List Int} {i : Int}, n ∈ l → i ≤ atGo n i l
  | v :: r, i, h => by
    unfold atGo
    by_cases e : v = n
    · rw [if_pos e]; exact Int.le_refl _
    · rw [if_neg e]
      have := atGo_pos (i := i + 1) (List.mem_of_ne_of_mem (Ne.symm e) h)
      omega
theorem at_neg (l : List Int) (n : Int) : at_ l n < 0 ↔ n ∉ l := by
  constructor
  · intro h hm
    have := atGo_pos (i := 0) hm
    unfold at_ at h; omega
  · intro h
    unfold at_; rw [atGo_neg h]; omega
end Ev
set_option maxRecDepth 100000 in
set_option maxHeartbeats 1000000 in
theorem rat_any (S : Ev.Sl) (n : Int) (w : World) (hS : Ev.IntsIn w S) :
    Calls Tryz.prog 33 #[.slice S.a S.l.length S.c, .int .i64 n] w fun e w' => e = .returned (.int .i64 (Ev.at_ S.l n)) ∧ w = w' := by
  have hsm := hS.2.2.1; have hsl := hS.2.1
  have HS := Lib.hid hS; clear hS
  go_enter Tryz.func33, Tryz.ntmps33
  go_wp2
  go_loopw [5] (fun i wr => ∃ k : Nat, k ≤ S.l.length ∧ i = .int .i64 (k : Int) ∧ Ev.at_ S.l n = Ev.atGo n k (S.l.drop k) ∧ wr = w) (fun i _ => S.l.length - (intOf i).toNat)
  case atStart => exact ⟨0, Nat.zero_le _, rfl, rfl, rfl⟩
  case round =>
    obtain ⟨k, hk, rfl, hgo, rfl⟩ := hrel
    have HGO := Lib.hid hgo; clear hgo
    by_cases hlt : k < S.l.length
    · obtain ⟨d, hd⟩ : ∃ d, S.l[k]? = some d := ⟨_, List.getElem?_eq_getElem hlt⟩
      have hdrop : S.l.drop k = d :: S.l.drop (k + 1) := by
        rw [List.drop_eq_getElem_cons hlt]; congr 1; rw [List.getElem?_eq_getElem hlt] at hd; exact Option.some.inj hd
      obtain ⟨g, o, e, c⟩ := HS.out.at_ hd
      have hki : (k : Int) < (S.l.length : Int) := by omega
      rw [e]
      by_cases hq : d = n
      · have HR := Lib.hid (show Ev.at_ S.l n = (k : Int) by rw [HGO.out, hdrop]; unfold Ev.atGo; rw [if_pos hq])
        have tq : (d == n) = true := by simpa using hq
        clear hd hdrop e hq
        go_wp2
        go_ret
        refine ⟨?_, rfl⟩
        rw [HR.out]; rfl
      · have HR := Lib.hid (show Ev.at_ S.l n = Ev.atGo n ((k + 1 : Nat) : Int) (S.l.drop (k + 1)) by rw [HGO.out, hdrop]; simp only [Ev.atGo]; rw [if_neg hq]; rfl)
        have tq : (d == n) = false := by simpa using hq
        clear hd hdrop e hq
        go_wp2
        try go_roundw
        first
        | exact ⟨⟨k + 1, by omega, by go_num, HR.out, by first | rfl | trivial⟩, by simp [intOf]; omega⟩
        | (case rel => exact ⟨k + 1, by omega, by go_num, HR.out, by first | rfl | trivial⟩
           case measure => simp [intOf]; omega)
    · have hki : ¬ (k : Int) < (S.l.length : Int) := by omega
      have HR := Lib.hid (show Ev.at_ S.l n = -1 by rw [HGO.out, List.drop_eq_nil_of_le (by omega)]; rfl)
      go_wp2
      go_ret
      refine ⟨?_, rfl⟩
      rw [HR.out]; rfl
end Go.Proofs.YtnjnpbabgefaeaaGreat
end

section
namespace Go.Proofs.YtnjnpbabgefaeaaGreat
open Go.RowKit
theorem below_drewN {B : Nat} {a w : World} (h : Below B a w) (n : Nat) : Below B a (w.drewN n) := ⟨h.os, h.tape, h.output, h.size, h.block⟩
theorem Ev.list_eq {s t : List Int} (hl : s.length = t.length) (h : ∀ j, j < s.length → s[j]? = t[j]?) : s = t := by
  apply List.ext_getElem? 
  intro j
  by_cases hj : j < s.length
  · exact h j hj
  · rw [List.getElem?_eq_none (by omega), List.getElem?_eq_none (by omega)]
set_option maxHeartbeats 2000000 in
theorem sameInts_any (s t : Ev.Sl) (w : World) (hs : Ev.IntsIn w s) (ht : Ev.IntsIn w t) :
    Calls Tryz.prog 26 #[.slice s.a s.l.length s.c, .slice t.a t.l.length t.c] w fun e w' => e = .returned (.bool (decide (s.l = t.l))) ∧ ∃ n, w' = w.drewN n := by
  have HS := Lib.hid hs; have HT := Lib.hid ht
  have hsc := hs.2.1; have hsm := hs.2.2.1; have htc := ht.2.1; have htm := ht.2.2.1
  clear hs ht
  by_cases hl : s.l.length = t.l.length
  · have HL := Lib.hid hl
    have hne : ((s.l.length : Int) != (t.l.length : Int)) = false := by simp [hl]
    clear hl
    go_enter Tryz.func26, Tryz.ntmps26
    go_wp2
    go_loopw [5] (fun i wr => ∃ k n : Nat, k ≤ s.l.length ∧ i = .int .i64 (k : Int) ∧ (∀ j, j < k → s.l[j]? = t.l[j]?) ∧ wr = w.drewN n) (fun i _ => s.l.length - (intOf i).toNat)
    case atStart => exact ⟨0, 0, Nat.zero_le _, rfl, fun j hj => absurd hj (by omega), rfl⟩
    case round =>
      obtain ⟨k, n, hk, rfl, hall, rfl⟩ := hrel
      have HA := Lib.hid hall; clear hall
      by_cases hlt : k < s.l.length
      · have hltt : k < t.l.length := by have := HL.out; omega
        obtain ⟨a, ha⟩ : ∃ a, s.l[k]? = some a := ⟨_, List.getElem?_eq_getElem hlt⟩
        obtain ⟨b, hb⟩ : ∃ b, t.l[k]? = some b := ⟨_, List.getElem?_eq_getElem hltt⟩
        obtain ⟨g1, o1, e1, c1⟩ := HS.out.at_ ha
        obtain ⟨g2, o2, e2, c2⟩ := HT.out.at_ hb
        have HAk := Lib.hid ha; have HBk := Lib.hid hb
        have hki : (k : Int) < (s.l.length : Int) := by omega
        have hkt : (k : Int) < (t.l.length : Int) := by omega
        clear ha hb
        rw [e1, e2]
        clear e1 e2
        by_cases hab : a = b
        · have hq : (a != b) = false := by simp [hab]
          have HAB := Lib.hid hab; clear hab
          go_wp2
          go_quiet ((fail))
          go_wp2
          go_roundw
          case rel =>
            refine ⟨k + 1, _, by omega, by go_num, fun j hj => ?_, by first | rfl | exact World.drewN_drewN _ _ _⟩
            by_cases hjk : j = k
            · subst hjk; rw [HAk.out, HBk.out, HAB.out]
            · exact HA.out j (by omega)
          case measure => simp [intOf]; omega
        · have hq : (a != b) = true := by simpa using hab
          have hf : decide (s.l = t.l) = false := by
            apply decide_eq_false
            intro e
            rw [e, HBk.out] at HAk
            exact hab (Option.some.inj HAk.out).symm
          have HF := Lib.hid hf; clear hf hab
          go_wp2
          go_quiet ((fail))
          go_wp2
          go_ret
          exact ⟨by rw [HF.out]; rfl, _, by first | rfl | exact World.drewN_drewN _ _ _⟩
      · have hkk : k = s.l.length := by omega
        have hf : decide (s.l = t.l) = true := decide_eq_true (Ev.list_eq HL.out fun j hj => HA.out j (by omega))
        have hki : ¬ (k : Int) < (s.l.length : Int) := by omega
        have HF := Lib.hid hf; clear hf hkk
        go_wp2
        go_ret
        exact ⟨by rw [HF.out]; rfl, _, by first | rfl | exact World.drewN_drewN _ _ _⟩
  · have hf : decide (s.l = t.l) = false := decide_eq_false fun e => hl (by rw [e])
    have hne : ((s.l.length : Int) != (t.l.length : Int)) = true := by simp; omega
    rw [hf]; clear hf hl
    go_enter Tryz.func26, Tryz.ntmps26
    go_wp2
    go_ret
    exact ⟨rfl, 0, rfl⟩
end Go.Proofs.YtnjnpbabgefaeaaGreat
end

section
namespace Go.Proofs.YtnjnpbabgefaeaaGreat
open Go.RowKit
namespace Og
structure One (w W : World) (g : Nat) (t : TypeId) (c : Array Value) : Prop where
  row : W.heap[g]? = some (.cells c t (0, 0))
  ge : w.heap.size ≤ g
  below : Below w.heap.size w W
structure OneF (P : Program) (ops : Array Oper) (listed : Array Bool) (a : Act) (p s q dp x1 dq : Nat) (T : TypeId) (Z c : Array Value) (v : Value) : Prop where
  ap : ∃ o, ops[p]? = some o ∧ o.guard = none ∧ o.dst = some dp ∧ ∀ ρ w, (execOp ρ o).run P w = .ok (.value (.pointer (some ⟨w.heap.size, 0, none⟩))) (w.alloc (.cells Z T))
  a1 : ∃ o, ops[s]? = some o ∧ o.guard = none ∧ o.dst = none ∧ o.op = .store T (.tmp dp) (.tmp x1)
  aq : ∃ o x, ops[q]? = some o ∧ o.guard = none ∧ o.dst = some dq ∧ o.op = .assign (.tmp x) ∧ x ≠ dp ∧ a.tmps.getD x undef = v
  r0 : Region.ready .any ops listed = [p]
  r1 : Region.ready .any ops (listed.setIfInBounds p true) = [s]
  r2 : Region.ready .any ops ((listed.setIfInBounds p true).setIfInBounds s true) = [q]
  r3 : Region.ready .any ops (((listed.setIfInBounds p true).setIfInBounds s true).setIfInBounds q true) = []
  v1 : a.tmps.getD x1 undef = .agg c
  hdp : dp < a.tmps.size
  n1 : x1 ≠ dp
  z1 : Z.size = c.size
  i1 : (P.info? T).map (·.size) = some c.size
  o1 : c.all (·.oneCell') = true
theorem oneA {P : Program} {ops : Array Oper} {Q : Exit → Act → World → Prop} {w w1 : World} {listed : Array Bool} {a : Act} {fuel p s q dp x1 dq : Nat} {T : TypeId} {Z c : Array Value} {v : Value} (F : OneF P ops listed a p s q dp x1 dq T Z c v) (S0 : Std w w1)
    (h : ∀ W g, One w W g T c → Q .normal ((a.put (some dp) (.pointer (some ⟨g, 0, none⟩))).put (some dq) v) W) :
    wpAnyH P .any ops Q (Std w) (fuel + 3) listed a w1 := by
  obtain ⟨op, hp, gp, dpe, rp⟩ := F.ap
  obtain ⟨b1, hb1, gb1, db1, ob1⟩ := F.a1
  obtain ⟨oq, x, hq, gq, dqe, oqe, hx, hv⟩ := F.aq
  have s0 : w.heap.size ≤ w1.heap.size := Below.size S0
  have A1 : Std w (w1.alloc (.cells Z T)) := Below.alloc S0 s0 _
  have m1 : (w1.alloc (.cells Z T)).heap[w1.heap.size]? = some (.cells Z T (0, 0)) := heap_alloc_new _ _
  refine held_one p F.r0 (held_op p op _ _ _ hp gp (rp _ _) rfl A1 ?_)
  rw [dpe]
  have t1 := Ev.set1 m1 F.z1
  have B1 : Std w ((w1.alloc (.cells Z T)).setRow w1.heap.size c) := Below.trans A1 (t1.below.mono s0)
  refine store_step s b1 hb1 gb1 db1 T dp x1 ob1 F.r1 w1.heap.size c Z ?_ ?_ m1 F.i1 F.z1 F.o1 B1 ?_
  · rw [dget_put _ _ _ _ F.hdp, if_pos rfl]
  · rw [dget_put _ _ _ _ F.hdp, if_neg F.n1]; exact F.v1
  refine held_one q F.r2 (held_op q oq v _ _ hq gq ?_ rfl B1 ?_)
  · unfold execOp
    simp only [oqe]
    have : (a.put (some dp) (.pointer (some ⟨w1.heap.size, 0, none⟩))).eval (.tmp x) = v := by
      show (a.put (some dp) _).tmps.getD x undef = v
      rw [dget_put _ _ _ _ F.hdp, if_neg hx]; exact hv
    rw [this]; rfl
  · rw [dqe]
    exact wpAnyH_done F.r3 (h _ _ ⟨t1.row, s0, B1⟩) _
end Og
end Go.Proofs.YtnjnpbabgefaeaaGreat
end

section
namespace Go.Proofs.YtnjnpbabgefaeaaGreat
open Go.RowKit
namespace Og
section
variable {P : Program} {ops : Array Oper} {Q : Exit → Act → World → Prop} {md : Region.Mode} {S : Nat → World → Prop}
def Keep (md : Region.Mode) (ops : Array Oper) (S : Nat → World → Prop) (j : Nat) (w w' : World) : Prop := ∀ oj, ops[j]? = some oj → ∀ i, i ≠ j → (∀ e ∈ oj.after, Region.binds md e = true → e.on ≠ i) → S i w → S i w'
def wpAnyS (P : Program) (md : Region.Mode) (ops : Array Oper) (Q : Exit → Act → World → Prop) (S : Nat → World → Prop) : Nat → Array Bool → Act → World → Prop
  | 0, listed, a, w => Region.ready md ops listed = [] ∧ Q .normal a w
  | fuel + 1, listed, a, w =>
    (Region.ready md ops listed = [] → Q .normal a w) ∧
    ∀ i ∈ Region.ready md ops listed, wpOp P ops Q i (fun a' w' => Keep md ops S i w w' ∧ wpAnyS P md ops Q S fuel (listed.setIfInBounds i true) a' w') a w
theorem wpAny_of_S : ∀ (fuel : Nat) (listed : Array Bool) (a : Act) (w : World), wpAnyS P md ops Q S fuel listed a w → wpAny P md ops Q fuel listed a w
  | 0, _, _, _, h => h
  | fuel + 1, _, _, _, h => ⟨h.1, fun i hi => wpOp_mono (fun a' w' h' => wpAny_of_S fuel _ a' w' h'.2) (h.2 i hi)⟩
theorem wpAnyS_first {i : Nat} {oi : Oper} {v : Value} (hi : ops[i]? = some oi) (hsel : ∀ (j : Nat) (o : Oper) cs b, ops[j]? = some o → o.op ≠ .select cs b)
    (hQ : ∀ c a w, Q (.panic c) (a.put oi.dst v) w → Q (.panic c) a w) :
    ∀ (fuel : Nat) (listed : Array Bool) (a : Act) (w : World),
      (∀ j oj, ops[j]? = some oj → j ≠ i → listed.getD j true = false → (∀ e ∈ oj.after, Region.binds md e = true → e.on ≠ i) → oi.apart ops oj = true) →
      i ∈ Region.ready md ops listed → YieldsIf P ops (S i) oi v a → S i w →
      wpAnyS P md ops Q S fuel (listed.setIfInBounds i true) (a.put oi.dst v) w → wpAnyS P md ops Q S (fuel + 1) listed a w := by
  intro fuel
  induction fuel with
  | zero =>
    intro listed a w _ hr hy hS H
    refine ⟨fun h => (by rw [h] at hr; cases hr), fun j hj => ?_⟩
    by_cases hji : j = i
    · subst hji; exact hy.wpOp hi hS ⟨fun _ _ _ _ _ h => h, H⟩
    · have := ready_mono hj hji
      rw [H.1] at this
      cases this
  | succ fuel ih =>
    intro listed a w hfree hr hy hS H
    refine ⟨fun h => (by rw [h] at hr; cases hr), fun j hj => ?_⟩
    by_cases hji : j = i
    · subst hji; exact hy.wpOp hi hS ⟨fun _ _ _ _ _ h => h, H⟩
    · have h1 := H.2 j (ready_mono hj hji)
      obtain ⟨hjun, oj, hoj, hall⟩ := mem_ready.1 hj
      have hnot : ∀ e ∈ oj.after, Region.binds md e = true → e.on ≠ i := fun e he hb heq => by
        have h1 := hall e he hb
        have h0 := (mem_ready.1 hr).1
        rw [heq] at h1
        rcases Nat.lt_or_ge i listed.size with h' | h'
        · simp [h'] at h0 h1; rw [h0] at h1; cases h1
        · simp [Array.getElem?_eq_none h'] at h1
      have h2 := wpOp_putIf hoj (hfree j oj hoj hji hjun hnot) (fun cs b => hsel i oi cs b hi) (fun cs b => hsel j oj cs b hoj) hQ hy h1
      have hfree' : ∀ k ok, ops[k]? = some ok → k ≠ i → (listed.setIfInBounds j true).getD k true = false →
          (∀ e ∈ ok.after, Region.binds md e = true → e.on ≠ i) → oi.apart ops ok = true := fun k ok hk hki hun hno => by
        refine hfree k ok hk hki ?_ hno
        by_cases hjk : j = k
        · subst hjk; exact hjun
        · rw [getD_set_ne true hjk] at hun; exact hun
      refine wpOp_mono (fun a' w' h3 => ?_) h2
      obtain ⟨hy', hKj, H'⟩ := h3
      have hSi : S i w' := hKj oj hoj i (Ne.symm hji) hnot hS
      rw [Array.setIfInBounds_comm _ _ (Ne.symm hji)] at H'
      exact ⟨hKj, ih (listed.setIfInBounds j true) a' w' hfree' (ready_mono hr (Ne.symm hji)) hy' hSi H'⟩
theorem s_take {fuel : Nat} {listed : Array Bool} {a : Act} {w : World} (i : Nat) (o : Oper) (v : Value) (a' : Act) (hi : ops[i]? = some o) (hg : o.guard = none)
    (hs : Region.noSelect ops = true) (hf : Region.free md ops listed i = true) (hr : (Region.ready md ops listed).contains i = true)
    (hQ : ∀ c a w, Q (.panic c) (a.put o.dst v) w → Q (.panic c) a w) (hS : S i w)
    (hrun : ∀ x, S i x → (execOp a.eval o).run P x = .ok (.value v) x) (ha : a.put o.dst v = a')
    (h : wpAnyS P md ops Q S fuel (listed.setIfInBounds i true) a' w) : wpAnyS P md ops Q S (fuel + 1) listed a w :=
  wpAnyS_first hi (Region.noSelect_spec hs) hQ fuel listed a w (Region.free_spec hi hf) (by simpa using hr) (Or.inl ⟨by unfold Region.wanted; rw [hg], hrun⟩) hS (by rw [ha]; exact h)
theorem s_one {fuel : Nat} {listed : Array Bool} {a : Act} {w : World} (i : Nat) (o : Oper) (hi : ops[i]? = some o) (hg : o.guard = none) (hr : Region.ready md ops listed = [i])
    (h : o.wp P a w (fun a' w' => Keep md ops S i w w' ∧ wpAnyS P md ops Q S fuel (listed.setIfInBounds i true) a' w') Q) : wpAnyS P md ops Q S (fuel + 1) listed a w :=
  ⟨fun h0 => absurd (hr ▸ h0) (by simp), fun j hj => by
    rw [hr] at hj
    obtain rfl : j = i := by simpa using hj
    unfold wpOp
    rw [hi]
    have hw : Region.wanted o (yielded ops a.tmps) = true := by unfold Region.wanted; rw [hg]
    simp only [hw, if_true]
    exact .inl h⟩
theorem s_done {listed : Array Bool} {a : Act} {w : World} (hr : Region.ready md ops listed = []) (h : Q .normal a w) : ∀ fuel, wpAnyS P md ops Q S fuel listed a w
  | 0 => ⟨hr, h⟩
  | _ + 1 => ⟨fun _ => h, by rw [hr]; simp⟩
theorem region_S {id : Nat} {a : Act} {w : World} (hm : P.follows .mixedOrders = true)
    (h : wpAnyS P .any ops Q S ops.size (Array.replicate ops.size false) a { w with drawn := w.drawn + 1 }) : (Code.region id ops true).wp P Q a w :=
  wp_region_any hm (wpAny_of_S _ _ _ _ h)
end
end Og
end Go.Proofs.YtnjnpbabgefaeaaGreat
end
