import Derived.Test.YtecnnkidalkmfaaGreatKb14
import Derived.Test.YtecnnkidalkmfaaGreatKb13
import Derived.Test.YtecnnkidalkmfaaGreatKb01
import Derived.Test.YtecnnkidalkmfaaGreatKb23
import Derived.Test.YtecnnkidalkmfaaGreatKb04
set_option linter.unusedVariables false
set_option linter.unusedSimpArgs false

section
namespace Go.Proofs.YtecnnkidalkmfaaGreat
open Go.RowKit
namespace Ev
def pairGo (xs : List R) (e : R) : Nat → Int
  | 0 => -1
  | a + 1 => if (nth xs a).h ≠ e.h then -1 else if ((nth xs a).z && (nth xs a).k == 2) = true then -1 else if (nth xs a).z = true then (if (nth xs a).a = e.a then (a : Int) else -1) else pairGo xs e a
def paired (x : X) (b : Nat) : Int := if ((nth x.ev b).k != 2 || !(nth x.ev b).z) = true then -1 else pairGo x.ev (nth x.ev b) b
end Ev
set_option maxRecDepth 100000 in
set_option maxHeartbeats 4000000 in
theorem rpaired_any (x : Ev.X) (b : Nat) (hb : b < x.ev.length) (w : World) (hin : Ev.XIn w x) :
    Calls Tryz.prog 38 #[Ev.exV x, .int .i64 (b : Int)] w fun e w' => e = .returned (.int .i64 (Ev.paired x b)) ∧ Below w.heap.size w w' := by
  have hl1 := hin.ev.le; have hl2 := hin.ev.max
  obtain ⟨B, hB⟩ : ∃ B, B = w.alloc (Obj.cells (Ev.xcells x).toArray 26) := ⟨_, rfl⟩
  have HB := Lib.hid hB
  have B0 := Lib.hid (show Below w.heap.size w B by rw [hB]; exact (Below.refl w.heap.size w).alloc (Nat.le_refl _) _)
  have HX := Lib.hid (show Ev.XIn B x from hin.kp (Ev.kp_below B0.out))
  have RX := Lib.hid (show B.heap[w.heap.size]? = some (.cells (Ev.xcells x).toArray 26 (0, 0)) by rw [hB]; exact heap_alloc_new _ _)
  obtain ⟨e, he⟩ : ∃ e, x.ev[b]? = some e := ⟨_, List.getElem?_eq_getElem hb⟩
  obtain ⟨g, o, eg, hce⟩ := HX.out.ev.at_ he
  have HE := Lib.hid (Ev.nth_some he)
  have HEG := Lib.hid eg; have HCE := Lib.hid hce
  have hbi : (b : Int) < (x.ev.length : Int) := by omega
  have CX := Lib.hid (show ∀ W, Below B.heap.size B W → W.cell? ⟨w.heap.size, 0, none⟩ = some (.slice (some ⟨g, o, none⟩) x.ev.length x.ce) from fun W h => by
    rw [← eg]; exact Ev.xcell0 ((h.block w.heap.size (Array.getElem?_eq_some_iff.1 RX.out).1).trans RX.out))
  have cx := CX.out B (Below.refl _ _)
  clear hin hB he eg hce
  have HP := Lib.hid (show Ev.paired x b = if (e.k != 2 || !e.z) = true then -1 else Ev.pairGo x.ev e b by unfold Ev.paired; rw [HE.out])
  obtain ⟨ez, hez⟩ : ∃ z, e.z = z := ⟨_, rfl⟩
  have HEZ := Lib.hid hez
  clear hez
  unfold Ev.exV Ev.xcells
  by_cases hk : e.k = 2
  case neg =>
    have tk : (e.k != 2) = true := by simpa using hk
    have HF := Lib.hid (show Ev.paired x b = -1 by rw [HP.out, tk]; rfl)
    clear hk
    go_enter Tryz.func38, Tryz.ntmps38
    go_wp2_with (first
      | ((with_reducible show wpList _ _ _ (Oper.mk (some 8) _ _ _ _ _ :: _) _ _); rw [show w.alloc (Obj.cells #[Value.slice x.ae x.ev.length x.ce, Value.slice x.fr.a x.fr.l.length x.fr.c, Value.slice x.ao x.od.length x.co] 26) = B from HB.out.symm])
      | ((with_reducible show wpList _ _ _ (Oper.mk (some 12) _ _ _ _ _ :: _) _ _); refine wpList_load_at rfl 48 (.tmp 11) rfl g (o + b * 13) (by kernel_rfl) (Ev.cells e) _ HCE.out Tryz.underlying48 rfl (by kernel_rfl) ?_)
      | ((with_reducible show wpList _ _ _ (Oper.mk none (Op.store 48 (Operand.tmp 5) _) _ _ _ _ :: _) _ _); refine wpList_store_own rfl 48 (.tmp 5) (.tmp 12) rfl B.heap.size (Ev.cells e).toArray rfl rfl 48 (Ev.cells Ev.R0).toArray (heap_alloc_new _ _) (by kernel_rfl) (by kernel_rfl) (by kernel_rfl) ?_
         intro W2 HW
         have B2 := Lib.hid (((Below.refl B.heap.size B).alloc (Nat.le_refl _) _).trans HW.below)
         have RE := Lib.hid HW.row
         have cek : W2.cell? ⟨B.heap.size, 1, none⟩ = some (.int .i64 e.k) := by rw [cell_of_row _ _ _ _ _ _ HW.row]; rfl
         have cez : W2.cell? ⟨B.heap.size, 9, none⟩ = some (.bool ez) := by rw [cell_of_row _ _ _ _ _ _ HW.row, ← HEZ.out]; rfl
         clear HW))
    go_ret
    exact ⟨by rw [HF.out]; try rfl, B0.out.trans (B2.out.mono B0.out.size)⟩
  have tk : (e.k != 2) = false := by simp [hk]
  clear hk
  cases ez
  · have HF := Lib.hid (show Ev.paired x b = -1 by rw [HP.out, HEZ.out]; simp)
    go_enter Tryz.func38, Tryz.ntmps38
    go_wp2_with (first
      | ((with_reducible show wpList _ _ _ (Oper.mk (some 8) _ _ _ _ _ :: _) _ _); rw [show w.alloc (Obj.cells #[Value.slice x.ae x.ev.length x.ce, Value.slice x.fr.a x.fr.l.length x.fr.c, Value.slice x.ao x.od.length x.co] 26) = B from HB.out.symm])
      | ((with_reducible show wpList _ _ _ (Oper.mk (some 12) _ _ _ _ _ :: _) _ _); refine wpList_load_at rfl 48 (.tmp 11) rfl g (o + b * 13) (by kernel_rfl) (Ev.cells e) _ HCE.out Tryz.underlying48 rfl (by kernel_rfl) ?_)
      | ((with_reducible show wpList _ _ _ (Oper.mk none (Op.store 48 (Operand.tmp 5) _) _ _ _ _ :: _) _ _); refine wpList_store_own rfl 48 (.tmp 5) (.tmp 12) rfl B.heap.size (Ev.cells e).toArray rfl rfl 48 (Ev.cells Ev.R0).toArray (heap_alloc_new _ _) (by kernel_rfl) (by kernel_rfl) (by kernel_rfl) ?_
         intro W2 HW
         have B2 := Lib.hid (((Below.refl B.heap.size B).alloc (Nat.le_refl _) _).trans HW.below)
         have RE := Lib.hid HW.row
         have cek : W2.cell? ⟨B.heap.size, 1, none⟩ = some (.int .i64 e.k) := by rw [cell_of_row _ _ _ _ _ _ HW.row]; rfl
         have cez : W2.cell? ⟨B.heap.size, 9, none⟩ = some (.bool false) := by rw [cell_of_row _ _ _ _ _ _ HW.row, ← HEZ.out]; rfl
         clear HW))
    go_ret
    exact ⟨by rw [HF.out]; try rfl, B0.out.trans (B2.out.mono B0.out.size)⟩
  have HGO := Lib.hid (show Ev.paired x b = Ev.pairGo x.ev e b by rw [HP.out, HEZ.out, tk]; rfl)
  go_enter Tryz.func38, Tryz.ntmps38
  go_wp2_with (first
    | ((with_reducible show wpList _ _ _ (Oper.mk (some 8) _ _ _ _ _ :: _) _ _); rw [show w.alloc (Obj.cells #[Value.slice x.ae x.ev.length x.ce, Value.slice x.fr.a x.fr.l.length x.fr.c, Value.slice x.ao x.od.length x.co] 26) = B from HB.out.symm])
    | ((with_reducible show wpList _ _ _ (Oper.mk (some 12) _ _ _ _ _ :: _) _ _); refine wpList_load_at rfl 48 (.tmp 11) rfl g (o + b * 13) (by kernel_rfl) (Ev.cells e) _ HCE.out Tryz.underlying48 rfl (by kernel_rfl) ?_)
    | ((with_reducible show wpList _ _ _ (Oper.mk none (Op.store 48 (Operand.tmp 5) _) _ _ _ _ :: _) _ _); refine wpList_store_own rfl 48 (.tmp 5) (.tmp 12) rfl B.heap.size (Ev.cells e).toArray rfl rfl 48 (Ev.cells Ev.R0).toArray (heap_alloc_new _ _) (by kernel_rfl) (by kernel_rfl) (by kernel_rfl) ?_
       intro W2 HW
       have B2 := Lib.hid (((Below.refl B.heap.size B).alloc (Nat.le_refl _) _).trans HW.below)
       have RE := Lib.hid HW.row
       have cek : W2.cell? ⟨B.heap.size, 1, none⟩ = some (.int .i64 e.k) := by rw [cell_of_row _ _ _ _ _ _ HW.row]; rfl
       have cez : W2.cell? ⟨B.heap.size, 9, none⟩ = some (.bool true) := by rw [cell_of_row _ _ _ _ _ _ HW.row, ← HEZ.out]; rfl
       clear HW))
  clear cek cez cx
  go_loopw [6] (fun i wr => ∃ m : Nat, m ≤ b ∧ i = .int .i64 ((m : Int) - 1) ∧ Ev.paired x b = Ev.pairGo x.ev e m ∧ Below W2.heap.size W2 wr) (fun i _ => (intOf i + 1).toNat)
  case atStart => exact ⟨b, Nat.le_refl _, rfl, HGO.out, Below.refl _ _⟩
  case round =>
    obtain ⟨m, hm, rfl, hgo, hbr⟩ := hrel
    have HG := Lib.hid hgo; have HBR := Lib.hid hbr; clear hgo hbr
    have BB := Lib.hid (B2.out.trans (HBR.out.mono B2.out.size))
    cases m with
    | zero =>
      have HF := Lib.hid (show Ev.paired x b = -1 by rw [HG.out]; rfl)
      rw [show ((0 : Nat) : Int) - 1 = -1 from rfl]
      go_wp2
      go_ret
      exact ⟨by rw [HF.out]; try rfl, B0.out.trans (BB.out.mono B0.out.size)⟩
    | succ a =>
      rw [show ((a + 1 : Nat) : Int) - 1 = (a : Int) by omega]
      have hai : (a : Int) < (x.ev.length : Int) := by omega
      obtain ⟨y, hy⟩ : ∃ y, x.ev[a]? = some y := ⟨_, List.getElem?_eq_getElem (by omega)⟩
      obtain ⟨g', o', eg', hcy⟩ := (HX.out.ev.kp (Ev.kp_below BB.out)).at_ hy
      obtain ⟨rfl, rfl⟩ : g' = g ∧ o' = o := by rw [HEG.out] at eg'; cases eg'; exact ⟨rfl, rfl⟩
      have HCY := Lib.hid hcy
      have HG2 := Lib.hid (show Ev.paired x b = if y.h ≠ e.h then -1 else if (y.z && y.k == 2) = true then -1 else if y.z = true then (if y.a = e.a then (a : Int) else -1) else Ev.pairGo x.ev e a by
        rw [HG.out]; show (if (Ev.nth x.ev a).h ≠ e.h then -1 else if ((Ev.nth x.ev a).z && (Ev.nth x.ev a).k == 2) = true then -1 else if (Ev.nth x.ev a).z = true then (if (Ev.nth x.ev a).a = e.a then (a : Int) else -1) else Ev.pairGo x.ev e a) = _; rw [Ev.nth_some hy])
      have cx := CX.out wr BB.out
      have REW := Lib.hid ((HBR.out.block B.heap.size (Array.getElem?_eq_some_iff.1 RE.out).1).trans RE.out)
      obtain ⟨yz, hyz⟩ : ∃ z, y.z = z := ⟨_, rfl⟩
      have HYZ := Lib.hid hyz
      clear hy eg' hcy hyz
      have W3S := Lib.hid (fun (W : World) (h : Ev.Set1 (wr.alloc (.cells (Ev.cells Ev.R0).toArray 48)) W wr.heap.size 48 (Ev.cells y).toArray) => (((Below.refl wr.heap.size wr).alloc (Nat.le_refl _) _).trans h.below))
      by_cases hh : y.h = e.h
      case neg =>
        have th : (y.h != e.h) = true := by simpa using hh
        have HF := Lib.hid (show Ev.paired x b = -1 by rw [HG2.out, if_pos hh])
        clear hh
        go_wp2_with (first
          | ((with_reducible show wpList _ _ _ (Oper.mk (some 31) _ _ _ _ _ :: _) _ _); refine wpList_load_at rfl 48 (.tmp 30) rfl g' (o' + a * 13) (by kernel_rfl) (Ev.cells y) _ HCY.out Tryz.underlying48 rfl (by kernel_rfl) ?_)
          | ((with_reducible show wpList _ _ _ (Oper.mk none (Op.store 48 (Operand.tmp 7) _) _ _ _ _ :: _) _ _); refine wpList_store_own rfl 48 (.tmp 7) (.tmp 31) rfl wr.heap.size (Ev.cells y).toArray rfl rfl 48 (Ev.cells Ev.R0).toArray (heap_alloc_new _ _) (by kernel_rfl) (by kernel_rfl) (by kernel_rfl) ?_
             intro W3 HW
             have BY := Lib.hid (((Below.refl wr.heap.size wr).alloc (Nat.le_refl _) _).trans HW.below)
             have B3 := Lib.hid (BB.out.trans (BY.out.mono BB.out.size))
             have HBR3 := Lib.hid (HBR.out.trans (BY.out.mono HBR.out.size))
             have RE3 := Lib.hid ((BY.out.block B.heap.size (Array.getElem?_eq_some_iff.1 REW.out).1).trans REW.out)
             have y0 : W3.cell? ⟨wr.heap.size, 0, none⟩ = some (.int .i64 y.h) := by rw [cell_of_row _ _ _ _ _ _ HW.row]; rfl
             have y1 : W3.cell? ⟨wr.heap.size, 1, none⟩ = some (.int .i64 y.k) := by rw [cell_of_row _ _ _ _ _ _ HW.row]; rfl
             have y2 : W3.cell? ⟨wr.heap.size, 2, none⟩ = some (.int .u32 y.a) := by rw [cell_of_row _ _ _ _ _ _ HW.row]; rfl
             have y9 : W3.cell? ⟨wr.heap.size, 9, none⟩ = some (.bool yz) := by rw [cell_of_row _ _ _ _ _ _ HW.row, ← HYZ.out]; rfl
             have e0 : W3.cell? ⟨B.heap.size, 0, none⟩ = some (.int .i64 e.h) := by rw [cell_of_row _ _ _ _ _ _ RE3.out]; rfl
             have e2 : W3.cell? ⟨B.heap.size, 2, none⟩ = some (.int .u32 e.a) := by rw [cell_of_row _ _ _ _ _ _ RE3.out]; rfl
             clear HW))
        go_ret
        exact ⟨by rw [HF.out]; try rfl, B0.out.trans (B3.out.mono B0.out.size)⟩
      have th : (y.h != e.h) = false := by simp [hh]
      have HG3 := Lib.hid (show Ev.paired x b = if (yz && y.k == 2) = true then -1 else if yz = true then (if y.a = e.a then (a : Int) else -1) else Ev.pairGo x.ev e a by rw [HG2.out, if_neg (fun h => h hh), HYZ.out])
      clear hh
      cases yz
      · have HF := Lib.hid (show Ev.paired x b = Ev.pairGo x.ev e a by rw [HG3.out]; simp)
        go_wp2_with (first
          | ((with_reducible show wpList _ _ _ (Oper.mk (some 31) _ _ _ _ _ :: _) _ _); refine wpList_load_at rfl 48 (.tmp 30) rfl g' (o' + a * 13) (by kernel_rfl) (Ev.cells y) _ HCY.out Tryz.underlying48 rfl (by kernel_rfl) ?_)
          | ((with_reducible show wpList _ _ _ (Oper.mk none (Op.store 48 (Operand.tmp 7) _) _ _ _ _ :: _) _ _); refine wpList_store_own rfl 48 (.tmp 7) (.tmp 31) rfl wr.heap.size (Ev.cells y).toArray rfl rfl 48 (Ev.cells Ev.R0).toArray (heap_alloc_new _ _) (by kernel_rfl) (by kernel_rfl) (by kernel_rfl) ?_
             intro W3 HW
             have BY := Lib.hid (((Below.refl wr.heap.size wr).alloc (Nat.le_refl _) _).trans HW.below)
             have B3 := Lib.hid (BB.out.trans (BY.out.mono BB.out.size))
             have HBR3 := Lib.hid (HBR.out.trans (BY.out.mono HBR.out.size))
             have RE3 := Lib.hid ((BY.out.block B.heap.size (Array.getElem?_eq_some_iff.1 REW.out).1).trans REW.out)
             have y0 : W3.cell? ⟨wr.heap.size, 0, none⟩ = some (.int .i64 y.h) := by rw [cell_of_row _ _ _ _ _ _ HW.row]; rfl
             have y1 : W3.cell? ⟨wr.heap.size, 1, none⟩ = some (.int .i64 y.k) := by rw [cell_of_row _ _ _ _ _ _ HW.row]; rfl
             have y2 : W3.cell? ⟨wr.heap.size, 2, none⟩ = some (.int .u32 y.a) := by rw [cell_of_row _ _ _ _ _ _ HW.row]; rfl
             have y9 : W3.cell? ⟨wr.heap.size, 9, none⟩ = some (.bool false) := by rw [cell_of_row _ _ _ _ _ _ HW.row, ← HYZ.out]; rfl
             have e0 : W3.cell? ⟨B.heap.size, 0, none⟩ = some (.int .i64 e.h) := by rw [cell_of_row _ _ _ _ _ _ RE3.out]; rfl
             have e2 : W3.cell? ⟨B.heap.size, 2, none⟩ = some (.int .u32 e.a) := by rw [cell_of_row _ _ _ _ _ _ RE3.out]; rfl
             clear HW))
        go_roundw
        case rel => exact ⟨a, by omega, rfl, HF.out, HBR3.out⟩
        case measure => simp [intOf] <;> omega
      by_cases hk : y.k = 2
      · have tk : (y.k == 2) = true := by simpa using hk
        have HF := Lib.hid (show Ev.paired x b = -1 by rw [HG3.out, tk]; simp)
        clear hk
        go_wp2_with (first
          | ((with_reducible show wpList _ _ _ (Oper.mk (some 31) _ _ _ _ _ :: _) _ _); refine wpList_load_at rfl 48 (.tmp 30) rfl g' (o' + a * 13) (by kernel_rfl) (Ev.cells y) _ HCY.out Tryz.underlying48 rfl (by kernel_rfl) ?_)
          | ((with_reducible show wpList _ _ _ (Oper.mk none (Op.store 48 (Operand.tmp 7) _) _ _ _ _ :: _) _ _); refine wpList_store_own rfl 48 (.tmp 7) (.tmp 31) rfl wr.heap.size (Ev.cells y).toArray rfl rfl 48 (Ev.cells Ev.R0).toArray (heap_alloc_new _ _) (by kernel_rfl) (by kernel_rfl) (by kernel_rfl) ?_
             intro W3 HW
             have BY := Lib.hid (((Below.refl wr.heap.size wr).alloc (Nat.le_refl _) _).trans HW.below)
             have B3 := Lib.hid (BB.out.trans (BY.out.mono BB.out.size))
             have HBR3 := Lib.hid (HBR.out.trans (BY.out.mono HBR.out.size))
             have RE3 := Lib.hid ((BY.out.block B.heap.size (Array.getElem?_eq_some_iff.1 REW.out).1).trans REW.out)
             have y0 : W3.cell? ⟨wr.heap.size, 0, none⟩ = some (.int .i64 y.h) := by rw [cell_of_row _ _ _ _ _ _ HW.row]; rfl
             have y1 : W3.cell? ⟨wr.heap.size, 1, none⟩ = some (.int .i64 y.k) := by rw [cell_of_row _ _ _ _ _ _ HW.row]; rfl
             have y2 : W3.cell? ⟨wr.heap.size, 2, none⟩ = some (.int .u32 y.a) := by rw [cell_of_row _ _ _ _ _ _ HW.row]; rfl
             have y9 : W3.cell? ⟨wr.heap.size, 9, none⟩ = some (.bool true) := by rw [cell_of_row _ _ _ _ _ _ HW.row, ← HYZ.out]; rfl
             have e0 : W3.cell? ⟨B.heap.size, 0, none⟩ = some (.int .i64 e.h) := by rw [cell_of_row _ _ _ _ _ _ RE3.out]; rfl
             have e2 : W3.cell? ⟨B.heap.size, 2, none⟩ = some (.int .u32 e.a) := by rw [cell_of_row _ _ _ _ _ _ RE3.out]; rfl
             clear HW))
        go_ret
        exact ⟨by rw [HF.out]; try rfl, B0.out.trans (B3.out.mono B0.out.size)⟩
      have tk : (y.k == 2) = false := by simpa using hk
      clear hk
      by_cases ha : y.a = e.a
      · have ta : (y.a == e.a) = true := by simpa using ha
        have HF := Lib.hid (show Ev.paired x b = (a : Int) by rw [HG3.out, tk, if_pos ha]; simp)
        clear ha
        go_wp2_with (first
          | ((with_reducible show wpList _ _ _ (Oper.mk (some 31) _ _ _ _ _ :: _) _ _); refine wpList_load_at rfl 48 (.tmp 30) rfl g' (o' + a * 13) (by kernel_rfl) (Ev.cells y) _ HCY.out Tryz.underlying48 rfl (by kernel_rfl) ?_)
          | ((with_reducible show wpList _ _ _ (Oper.mk none (Op.store 48 (Operand.tmp 7) _) _ _ _ _ :: _) _ _); refine wpList_store_own rfl 48 (.tmp 7) (.tmp 31) rfl wr.heap.size (Ev.cells y).toArray rfl rfl 48 (Ev.cells Ev.R0).toArray (heap_alloc_new _ _) (by kernel_rfl) (by kernel_rfl) (by kernel_rfl) ?_
             intro W3 HW
             have BY := Lib.hid (((Below.refl wr.heap.size wr).alloc (Nat.le_refl _) _).trans HW.below)
             have B3 := Lib.hid (BB.out.trans (BY.out.mono BB.out.size))
             have HBR3 := Lib.hid (HBR.out.trans (BY.out.mono HBR.out.size))
             have RE3 := Lib.hid ((BY.out.block B.heap.size (Array.getElem?_eq_some_iff.1 REW.out).1).trans REW.out)
             have y0 : W3.cell? ⟨wr.heap.size, 0, none⟩ = some (.int .i64 y.h) := by rw [cell_of_row _ _ _ _ _ _ HW.row]; rfl
             have y1 : W3.cell? ⟨wr.heap.size, 1, none⟩ = some (.int .i64 y.k) := by rw [cell_of_row _ _ _ _ _ _ HW.row]; rfl
             have y2 : W3.cell? ⟨wr.heap.size, 2, none⟩ = some (.int .u32 y.a) := by rw [cell_of_row _ _ _ _ _ _ HW.row]; rfl
             have y9 : W3.cell? ⟨wr.heap.size, 9, none⟩ = some (.bool true) := by rw [cell_of_row _ _ _ _ _ _ HW.row, ← HYZ.out]; rfl
             have e0 : W3.cell? ⟨B.heap.size, 0, none⟩ = some (.int .i64 e.h) := by rw [cell_of_row _ _ _ _ _ _ RE3.out]; rfl
             have e2 : W3.cell? ⟨B.heap.size, 2, none⟩ = some (.int .u32 e.a) := by rw [cell_of_row _ _ _ _ _ _ RE3.out]; rfl
             clear HW))
        go_ret
        exact ⟨by rw [HF.out]; try rfl, B0.out.trans (B3.out.mono B0.out.size)⟩
      · have ta : (y.a == e.a) = false := by simpa using ha
        have HF := Lib.hid (show Ev.paired x b = -1 by rw [HG3.out, tk, if_neg ha]; simp)
        clear ha
        go_wp2_with (first
          | ((with_reducible show wpList _ _ _ (Oper.mk (some 31) _ _ _ _ _ :: _) _ _); refine wpList_load_at rfl 48 (.tmp 30) rfl g' (o' + a * 13) (by kernel_rfl) (Ev.cells y) _ HCY.out Tryz.underlying48 rfl (by kernel_rfl) ?_)
          | ((with_reducible show wpList _ _ _ (Oper.mk none (Op.store 48 (Operand.tmp 7) _) _ _ _ _ :: _) _ _); refine wpList_store_own rfl 48 (.tmp 7) (.tmp 31) rfl wr.heap.size (Ev.cells y).toArray rfl rfl 48 (Ev.cells Ev.R0).toArray (heap_alloc_new _ _) (by kernel_rfl) (by kernel_rfl) (by kernel_rfl) ?_
             intro W3 HW
             have BY := Lib.hid (((Below.refl wr.heap.size wr).alloc (Nat.le_refl _) _).trans HW.below)
             have B3 := Lib.hid (BB.out.trans (BY.out.mono BB.out.size))
             have HBR3 := Lib.hid (HBR.out.trans (BY.out.mono HBR.out.size))
             have RE3 := Lib.hid ((BY.out.block B.heap.size (Array.getElem?_eq_some_iff.1 REW.out).1).trans REW.out)
             have y0 : W3.cell? ⟨wr.heap.size, 0, none⟩ = some (.int .i64 y.h) := by rw [cell_of_row _ _ _ _ _ _ HW.row]; rfl
             have y1 : W3.cell? ⟨wr.heap.size, 1, none⟩ = some (.int .i64 y.k) := by rw [cell_of_row _ _ _ _ _ _ HW.row]; rfl
             have y2 : W3.cell? ⟨wr.heap.size, 2, none⟩ = some (.int .u32 y.a) := by rw [cell_of_row _ _ _ _ _ _ HW.row]; rfl
             have y9 : W3.cell? ⟨wr.heap.size, 9, none⟩ = some (.bool true) := by rw [cell_of_row _ _ _ _ _ _ HW.row, ← HYZ.out]; rfl
             have e0 : W3.cell? ⟨B.heap.size, 0, none⟩ = some (.int .i64 e.h) := by rw [cell_of_row _ _ _ _ _ _ RE3.out]; rfl
             have e2 : W3.cell? ⟨B.heap.size, 2, none⟩ = some (.int .u32 e.a) := by rw [cell_of_row _ _ _ _ _ _ RE3.out]; rfl
             clear HW))
        go_ret
        exact ⟨by rw [HF.out]; try rfl, B0.out.trans (B3.out.mono B0.out.size)⟩
end Go.Proofs.YtecnnkidalkmfaaGreat
end

section
namespace Go.Proofs.YtecnnkidalkmfaaGreat
open Go.RowKit
namespace Ev
def strong (x : R) : Bool := (x.q || x.l) && (x.k == 3 || x.z)
def inSet (n : Int) (x : R) : Bool := n.tmod 2 == 1 && stores x.k || decide (2 ≤ n) && loads x.k
end Ev
set_option maxRecDepth 100000 in
set_option maxHeartbeats 2000000 in
theorem rstrong_any (x : Ev.R) (w : World) : Calls Tryz.prog 91 #[Ev.evV x] w fun e w' => e = .returned (.bool (Ev.strong x)) ∧ Below w.heap.size w w' := by
  have B0 := Lib.hid ((Below.refl w.heap.size w).alloc (Nat.le_refl _) (.cells (Ev.cells x).toArray 48))
  obtain ⟨h, k, a, v, r, q, l, p, s, z, d1, d2, d3⟩ := x
  unfold Ev.evV Ev.cells Ev.strong
  have HB := B0
  unfold Ev.cells at B0
  by_cases hk : k = 3
  · have tk : (k == 3) = true := by simpa using hk
    rw [show ((⟨h, k, a, v, r, q, l, p, s, z, d1, d2, d3⟩ : Ev.R).k == 3) = true from tk]
    clear hk
    cases q <;> cases l <;> cases z
    all_goals
      go_enter Tryz.func91, Tryz.ntmps91
      go_wp2
      go_ret
      exact ⟨rfl, B0.out⟩
  · have tk : (k == 3) = false := by simpa using hk
    rw [show ((⟨h, k, a, v, r, q, l, p, s, z, d1, d2, d3⟩ : Ev.R).k == 3) = false from tk]
    clear hk
    cases q <;> cases l <;> cases z
    all_goals
      go_enter Tryz.func91, Tryz.ntmps91
      go_wp2
      go_ret
      exact ⟨rfl, B0.out⟩
set_option maxRecDepth 100000 in
set_option maxHeartbeats 4000000 in
theorem rin_any (n : Int) (x : Ev.R) (w : World) : Calls Tryz.prog 92 #[.int .i64 n, Ev.evV x] w fun e w' => e = .returned (.bool (Ev.inSet n x)) ∧ Below w.heap.size w w' := by
  obtain ⟨B, hB⟩ : ∃ B, B = w.alloc (Obj.cells (Ev.cells x).toArray 48) := ⟨_, rfl⟩
  have HB := Lib.hid hB
  have B0 := Lib.hid (show Below w.heap.size w B by rw [hB]; exact (Below.refl w.heap.size w).alloc (Nat.le_refl _) _)
  have RX := Lib.hid (show B.heap[w.heap.size]? = some (.cells (Ev.cells x).toArray 48 (0, 0)) by rw [hB]; exact heap_alloc_new _ _)
  obtain ⟨s, hs⟩ : ∃ s, Ev.stores x.k = s := ⟨_, rfl⟩
  obtain ⟨l, hl⟩ : ∃ s, Ev.loads x.k = s := ⟨_, rfl⟩
  obtain ⟨t, ht⟩ : ∃ t, (n.tmod 2 == 1) = t := ⟨_, rfl⟩
  obtain ⟨u, hu⟩ : ∃ t, decide (2 ≤ n) = t := ⟨_, rfl⟩
  have HS := Lib.hid hs; have HL := Lib.hid hl
  have HRES := Lib.hid (show Ev.inSet n x = (t && s || u && l) by unfold Ev.inSet; rw [hs, hl, ht, hu])
  clear hB hs hl
  unfold Ev.evV
  cases t
  · cases u
    · go_enter Tryz.func92, Tryz.ntmps92
      go_wp2
      go_ret
      exact ⟨by rw [HRES.out]; try rfl, by rw [← HB.out]; exact B0.out⟩
    · go_enter Tryz.func92, Tryz.ntmps92
      go_wp2_with ((with_reducible show wpList _ _ _ (Oper.mk (some 16) _ _ _ _ _ :: _) _ _); (try rw [show w.alloc (Obj.cells (Ev.cells x).toArray 48) = B from HB.out.symm]); refine Ev.load_row_g 48 (.tmp 3) rfl rfl w.heap.size (by kernel_rfl) 48 (Ev.cells x).toArray (0, 0) _ RX.out Tryz.underlying48 rfl (by kernel_rfl) ?_)
      refine (rloads_is HL.out _).mono ?_
      rintro e W9 ⟨rfl, hb⟩
      have HEND := Lib.hid ((B0.out).trans (hb.mono (B0.out).size)); clear hb
      go_wp2_with fail
      go_ret
      exact ⟨by rw [HRES.out]; try rfl, HEND.out⟩
  · go_enter Tryz.func92, Tryz.ntmps92
    go_wp2_with ((with_reducible show wpList _ _ _ (Oper.mk (some 9) _ _ _ _ _ :: _) _ _); (try rw [show w.alloc (Obj.cells (Ev.cells x).toArray 48) = B from HB.out.symm]); refine Ev.load_row_g 48 (.tmp 3) rfl rfl w.heap.size (by kernel_rfl) 48 (Ev.cells x).toArray (0, 0) _ RX.out Tryz.underlying48 rfl (by kernel_rfl) ?_)
    refine (rstores_is HS.out _).mono ?_
    rintro e W1 ⟨rfl, hb⟩
    have R1 := Lib.hid ((hb.block w.heap.size (Array.getElem?_eq_some_iff.1 RX.out).1).trans RX.out)
    have B1 := Lib.hid (B0.out.trans (hb.mono B0.out.size)); clear hb
    cases s
    · cases u
      · go_wp2_with fail
        go_ret
        exact ⟨by rw [HRES.out]; try rfl, B1.out⟩
      · go_wp2_with ((with_reducible show wpList _ _ _ (Oper.mk (some 16) _ _ _ _ _ :: _) _ _); (try rw [show w.alloc (Obj.cells (Ev.cells x).toArray 48) = B from HB.out.symm]); refine Ev.load_row_g 48 (.tmp 3) rfl rfl w.heap.size (by kernel_rfl) 48 (Ev.cells x).toArray (0, 0) _ R1.out Tryz.underlying48 rfl (by kernel_rfl) ?_)
        refine (rloads_is HL.out _).mono ?_
        rintro e W9 ⟨rfl, hb⟩
        have HEND := Lib.hid ((B1.out).trans (hb.mono (B1.out).size)); clear hb
        go_wp2_with fail
        go_ret
        exact ⟨by rw [HRES.out]; try rfl, HEND.out⟩
    · go_wp2_with fail
      go_ret
      exact ⟨by rw [HRES.out]; try rfl, B1.out⟩
end Go.Proofs.YtecnnkidalkmfaaGreat
end

section
namespace Go.Proofs.YtecnnkidalkmfaaGreat
open Go.RowKit
namespace Ev
def ruleOf (x : X) (r : Int) (a b : Nat) : Bool :=
  let e := nth x.ev a; let f := nth x.ev b
  if r = 1 then e.a == f.a && stores f.k
  else if r = 3 then (e.k == 3 || (e.k == 2 && e.z)) && frAt x b == (a : Int)
  else if r = 5 then e.q
  else if r = 6 then f.l
  else if r = 7 then strong e && strong f
  else if r = 8 then paired x b == (a : Int)
  else if r = 9 then decide (0 ≤ at_ f.d1.l a)
  else if r = 10 then decide (0 ≤ at_ f.d2.l a)
  else if r = 11 then stores f.k && decide (0 ≤ at_ f.d3.l a)
  else
    let ms := (List.range (b - (a + 1))).map fun i => a + 1 + i
    let clear := ms.all fun m => !(stores (nth x.ev m).k && (nth x.ev m).a == e.a)
    let some := ms.any fun m =>
      let g := nth x.ev m
      r == 4 && g.k == 4 && inSet g.p e && inSet g.s f || r == 12 && loads f.k && stores g.k && frAt x b == (m : Int) && (decide (0 ≤ at_ g.d1.l a) || decide (0 ≤ at_ g.d2.l a)) || r == 13 && stores f.k && decide (0 ≤ at_ g.d1.l a)
    if r = 2 then loads e.k && loads f.k && e.a == f.a && !(frAt x a == frAt x b) && clear else some
def rule (x : X) (r : Int) (a b : Nat) : Bool := if isPo x a b = false ∨ (nth x.ev a).k = 4 ∨ (nth x.ev b).k = 4 then false else ruleOf x r a b
end Ev
theorem rpo_is {x : Ev.X} {a b : Nat} {v : Bool} (h : Ev.isPo x a b = v) (ha : a < x.ev.length) (hb : b < x.ev.length) (w : World) (hin : Ev.XIn w x) :
    Calls Tryz.prog 42 #[.agg (Ev.xcells x).toArray, .int .i64 (a : Int), .int .i64 (b : Int)] w fun e w' => e = .returned (.bool v) ∧ Below w.heap.size w w' := h ▸ rpo_any x a b ha hb w hin
theorem rpaired_is {x : Ev.X} {b : Nat} {v : Int} (h : Ev.paired x b = v) (hb : b < x.ev.length) (w : World) (hin : Ev.XIn w x) :
    Calls Tryz.prog 38 #[.agg (Ev.xcells x).toArray, .int .i64 (b : Int)] w fun e w' => e = .returned (.int .i64 v) ∧ Below w.heap.size w w' := h ▸ rpaired_any x b hb w hin
theorem rstrong_is {x : Ev.R} {v : Bool} (h : Ev.strong x = v) (w : World) : Calls Tryz.prog 91 #[.agg (Ev.cells x).toArray] w fun e w' => e = .returned (.bool v) ∧ Below w.heap.size w w' := h ▸ rstrong_any x w
theorem rin_is {n : Int} {x : Ev.R} {v : Bool} (h : Ev.inSet n x = v) (w : World) : Calls Tryz.prog 92 #[.int .i64 n, .agg (Ev.cells x).toArray] w fun e w' => e = .returned (.bool v) ∧ Below w.heap.size w w' := h ▸ rin_any n x w
end Go.Proofs.YtecnnkidalkmfaaGreat
end

section
namespace Go.Proofs.YtecnnkidalkmfaaGreat
open Go.RowKit
set_option maxRecDepth 100000 in
set_option maxHeartbeats 4000000 in
theorem rule_no (x : Ev.X) (r : Int) (a b : Nat) (ha : a < x.ev.length) (hb : b < x.ev.length) (hno : Ev.isPo x a b = false ∨ (Ev.nth x.ev a).k = 4 ∨ (Ev.nth x.ev b).k = 4) (w : World) (hin : Ev.XIn w x) :
    Calls Tryz.prog 65 #[Ev.exV x, .int .i64 r, .int .i64 (a : Int), .int .i64 (b : Int)] w fun e w' => e = .returned (.bool false) ∧ Below w.heap.size w w' := by
  have hl1 := hin.ev.le; have hl2 := hin.ev.max
  obtain ⟨B, hB⟩ : ∃ B, B = w.alloc (Obj.cells (Ev.xcells x).toArray 26) := ⟨_, rfl⟩
  have HB := Lib.hid hB
  have B0 := Lib.hid (show Below w.heap.size w B by rw [hB]; exact (Below.refl w.heap.size w).alloc (Nat.le_refl _) _)
  have HX := Lib.hid (show Ev.XIn B x from hin.kp (Ev.kp_below B0.out))
  have RX := Lib.hid (show B.heap[w.heap.size]? = some (.cells (Ev.xcells x).toArray 26 (0, 0)) by rw [hB]; exact heap_alloc_new _ _)
  obtain ⟨e, he⟩ : ∃ e, x.ev[a]? = some e := ⟨_, List.getElem?_eq_getElem ha⟩
  obtain ⟨f, hf⟩ : ∃ f, x.ev[b]? = some f := ⟨_, List.getElem?_eq_getElem hb⟩
  obtain ⟨g, o, eg, hce⟩ := HX.out.ev.at_ he
  obtain ⟨g', o', eg', hcf⟩ := HX.out.ev.at_ hf
  obtain ⟨rfl, rfl⟩ : g' = g ∧ o' = o := by rw [eg] at eg'; cases eg'; exact ⟨rfl, rfl⟩
  have HEO := Lib.hid (HX.out.ev.ok_ he); have HFO := Lib.hid (HX.out.ev.ok_ hf)
  have HE := Lib.hid (Ev.nth_some he); have HF := Lib.hid (Ev.nth_some hf)
  have HCE := Lib.hid hce; have HCF := Lib.hid hcf
  have hai : (a : Int) < (x.ev.length : Int) := by omega
  have hbi : (b : Int) < (x.ev.length : Int) := by omega
  have CX := Lib.hid (show ∀ W, Below B.heap.size B W → W.cell? ⟨w.heap.size, 0, none⟩ = some (.slice (some ⟨g', o', none⟩) x.ev.length x.ce) from fun W h => by
    rw [← eg]; exact Ev.xcell0 ((h.block w.heap.size (Array.getElem?_eq_some_iff.1 RX.out).1).trans RX.out))
  clear hin hB he hf eg eg' hce hcf
  obtain ⟨po, hpo⟩ : ∃ v, Ev.isPo x a b = v := ⟨_, rfl⟩
  have HPO := Lib.hid hpo
  rw [hpo, HE.out, HF.out] at hno
  clear hpo
  obtain ⟨bx0⟩ : Nonempty (B.cell? ⟨w.heap.size, 0, none⟩ = some (.slice (some ⟨g', o', none⟩) x.ev.length x.ce)) := ⟨CX.out B (Below.refl _ _)⟩
  unfold Ev.exV Ev.xcells
  go_enter Tryz.func65, Tryz.ntmps65
  go_wp2_with (first
    | ((with_reducible show wpList _ _ _ (Oper.mk (some 16) _ _ _ _ _ :: _) _ _); (try rw [show w.alloc (Obj.cells #[Value.slice x.ae x.ev.length x.ce, Value.slice x.fr.a x.fr.l.length x.fr.c, Value.slice x.ao x.od.length x.co] 26) = B from HB.out.symm]); refine wpList_load_row rfl 26 (.tmp 4) rfl w.heap.size (by kernel_rfl) 26 (Ev.xcells x).toArray (0, 0) _ RX.out Tryz.underlying26 rfl (by kernel_rfl) ?_))
  refine (rpo_is HPO.out ha hb _ HX.out).mono ?_
  rintro q W1 ⟨rfl, hb1⟩
  have B1 := Lib.hid hb1
  have cx := CX.out W1 hb1
  have cek : W1.cell? ⟨g', o' + a * 13 + 1, none⟩ = some (.int .i64 e.k) := Ev.kp_below hb1 _ _ (HCE.out 1 _ rfl)
  have cfk : W1.cell? ⟨g', o' + b * 13 + 1, none⟩ = some (.int .i64 f.k) := Ev.kp_below hb1 _ _ (HCF.out 1 _ rfl)
  clear hb1 bx0
  cases po
  · clear hno
    go_wp2_with fail
    go_ret
    exact ⟨rfl, B0.out.trans (B1.out.mono B0.out.size)⟩
  by_cases h1 : e.k = 4
  · have t1 : (e.k == 4) = true := by simpa using h1
    clear hno h1
    go_wp2_with fail
    go_ret
    exact ⟨rfl, B0.out.trans (B1.out.mono B0.out.size)⟩
  have t1 : (e.k == 4) = false := by simpa using h1
  have t2 : (f.k == 4) = true := by simpa [h1] using hno
  clear hno h1
  go_wp2_with fail
  go_ret
  exact ⟨rfl, B0.out.trans (B1.out.mono B0.out.size)⟩
end Go.Proofs.YtecnnkidalkmfaaGreat
end
