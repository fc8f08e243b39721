/-
  The program's Same.
-/
import Derived.Test.YtnlfdepeimjliaaEvSlEq
import Derived.Test.YtnlfdepeimjliaaEvHang
namespace Go.Proofs.Ytnlfdepeimjliaa
open Go.RowKit
set_option linter.unusedVariables false
set_option linter.unusedSimpArgs false
namespace Ev
/-- two boxed executions -/
theorem two_box {w : World} (x y : X) : Below w.heap.size w ((w.alloc (.cells (xcells x).toArray 26)).alloc (.cells (xcells y).toArray 26)) ∧
    ((w.alloc (.cells (xcells x).toArray 26)).alloc (.cells (xcells y).toArray 26)).heap[w.heap.size]? = some (.cells (xcells x).toArray 26 (0, 0)) ∧
    ((w.alloc (.cells (xcells x).toArray 26)).alloc (.cells (xcells y).toArray 26)).heap[w.heap.size + 1]? = some (.cells (xcells y).toArray 26 (0, 0)) := by
  refine ⟨((Below.refl _ _).alloc (Nat.le_refl _) _).alloc (by simp only [World.size_alloc]; omega) _, ?_, ?_⟩
  · exact (Below.heap_alloc _ _ _ (by simp only [World.size_alloc]; omega)).trans (heap_alloc_new _ _)
  · have := heap_alloc_new (w.alloc (.cells (xcells x).toArray 26)) (.cells (xcells y).toArray 26)
    simpa only [World.size_alloc] using this
end Ev
theorem eqEvs_is {x y : Ev.X} {v : Bool} (h : Ev.sameEvs x.ev y.ev = v) (w : World) (ha : Ev.XIn w x) (hb : Ev.XIn w y) : Calls Try.prog 47 #[.slice x.ae x.ev.length x.ce, .slice y.ae y.ev.length y.ce, .func (.func 48) #[] #[]] w fun e w' => e = .returned (.bool v) ∧ Below w.heap.size w w' := h ▸ eqEvs_any _ _ _ _ _ _ w ha.ev hb.ev
theorem eqOd_is {x y : Ev.X} {v : Bool} (h : Ev.sameOd x.od y.od = v) (w : World) (ha : Ev.XIn w x) (hb : Ev.XIn w y) : Calls Try.prog 50 #[.slice x.ao x.od.length x.co, .slice y.ao y.od.length y.co, .func (.func 49) #[] #[]] w fun e w' => e = .returned (.bool v) ∧ Below w.heap.size w w' := h ▸ eqOd_any _ _ _ _ _ _ w ha.od hb.od
set_option maxRecDepth 100000 in
set_option maxHeartbeats 4000000 in
theorem same2_any (x y : Ev.X) (w : World) (hx : Ev.XIn w x) (hy : Ev.XIn w y) :
    Calls Try.prog 24 #[Ev.exV x, Ev.exV y] w fun e w' => e = .returned (.bool (Ev.same x y)) ∧ Below w.heap.size w w' := by
  have HX0 := Lib.hid hx; have HY0 := Lib.hid hy
  obtain ⟨B, hB⟩ : ∃ B, B = (w.alloc (.cells (Ev.xcells x).toArray 26)).alloc (.cells (Ev.xcells y).toArray 26) := ⟨_, rfl⟩
  have HB := Lib.hid hB
  have B0 := Lib.hid (show Below w.heap.size w B by rw [hB]; exact (Ev.two_box x y).1)
  have RX := Lib.hid (show B.heap[w.heap.size]? = some (.cells (Ev.xcells x).toArray 26 (0, 0)) by rw [hB]; exact (Ev.two_box x y).2.1)
  have RY := Lib.hid (show B.heap[w.heap.size + 1]? = some (.cells (Ev.xcells y).toArray 26 (0, 0)) by rw [hB]; exact (Ev.two_box x y).2.2)
  have HX := Lib.hid (show Ev.XIn B x from hx.kp (Ev.kp_below B0.out)); have HY := Lib.hid (show Ev.XIn B y from hy.kp (Ev.kp_below B0.out))
  have CX := Lib.hid (show ∀ W, Below B.heap.size B W → W.cell? ⟨w.heap.size, 0, none⟩ = some (.slice x.ae x.ev.length x.ce) ∧ W.cell? ⟨w.heap.size, 1, none⟩ = some (.slice x.fr.a x.fr.l.length x.fr.c) ∧ W.cell? ⟨w.heap.size, 2, none⟩ = some (.slice x.ao x.od.length x.co) from fun W h => by
    have r := (h.block w.heap.size (Array.getElem?_eq_some_iff.1 RX.out).1).trans RX.out
    exact ⟨Ev.xcell0 r, Ev.xcell1 r, Ev.xcell2 r⟩)
  have CY := Lib.hid (show ∀ W, Below B.heap.size B W → W.cell? ⟨w.heap.size + 1, 0, none⟩ = some (.slice y.ae y.ev.length y.ce) ∧ W.cell? ⟨w.heap.size + 1, 1, none⟩ = some (.slice y.fr.a y.fr.l.length y.fr.c) ∧ W.cell? ⟨w.heap.size + 1, 2, none⟩ = some (.slice y.ao y.od.length y.co) from fun W h => by
    have r := (h.block (w.heap.size + 1) (Array.getElem?_eq_some_iff.1 RY.out).1).trans RY.out
    exact ⟨Ev.xcell0 r, Ev.xcell1 r, Ev.xcell2 r⟩)
  clear hx hy hB
  obtain ⟨b1, hb1⟩ : ∃ b, Ev.sameEvs x.ev y.ev = b := ⟨_, rfl⟩
  obtain ⟨b2, hb2⟩ : ∃ b, decide (x.fr.l = y.fr.l) = b := ⟨_, rfl⟩
  obtain ⟨b3, hb3⟩ : ∃ b, Ev.sameOd x.od y.od = b := ⟨_, rfl⟩
  have H1 := Lib.hid hb1; have H2 := Lib.hid hb2; have H3 := Lib.hid hb3
  have HS := Lib.hid (show Ev.same x y = (b1 && b2 && b3) by unfold Ev.same; rw [hb1, hb2, hb3])
  clear hb1 hb2 hb3
  obtain ⟨bx0, bx1, bx2⟩ := CX.out B (Below.refl _ _)
  obtain ⟨by0, by1, by2⟩ := CY.out B (Below.refl _ _)
  unfold Ev.exV Ev.xcells
  go_enter Try.func24, Try.ntmps24
  go_wp2_with (first | ((with_reducible show wpList _ _ _ (Oper.mk (some 5) _ _ _ _ _ :: _) _ _); rw [show (w.alloc (Obj.cells #[Value.slice x.ae x.ev.length x.ce, Value.slice x.fr.a x.fr.l.length x.fr.c, Value.slice x.ao x.od.length x.co] 26)).alloc (Obj.cells #[Value.slice y.ae y.ev.length y.ce, Value.slice y.fr.a y.fr.l.length y.fr.c, Value.slice y.ao y.od.length y.co] 26) = B from HB.out.symm]) | fail)
  refine (eqEvs_is H1.out _ HX.out HY.out).mono ?_
  rintro e W1 ⟨rfl, hb⟩
  have B1 := Lib.hid hb
  clear bx0 bx1 bx2 by0 by1 by2
  obtain ⟨cx0, cx1, cx2⟩ := CX.out W1 hb
  obtain ⟨cy0, cy1, cy2⟩ := CY.out W1 hb
  clear hb
  cases b1
  · go_wp2_with fail
    go_ret
    exact ⟨by rw [HS.out]; rfl, B0.out.trans (B1.out.mono B0.out.size)⟩
  go_wp2_with fail
  refine (equal_is H2.out _ (HX.out.fr.kp (Ev.kp_below B1.out)) (HY.out.fr.kp (Ev.kp_below B1.out))).mono ?_
  rintro e W2 ⟨rfl, hb⟩
  have B2 := Lib.hid (B1.out.trans (hb.mono B1.out.size))
  clear hb cx0 cx1 cx2 cy0 cy1 cy2
  obtain ⟨cx0, cx1, cx2⟩ := CX.out W2 B2.out
  obtain ⟨cy0, cy1, cy2⟩ := CY.out W2 B2.out
  cases b2
  · go_wp2_with fail
    go_ret
    exact ⟨by rw [HS.out]; rfl, B0.out.trans (B2.out.mono B0.out.size)⟩
  go_wp2_with fail
  refine (eqOd_is H3.out _ (HX.out.kp (Ev.kp_below B2.out)) (HY.out.kp (Ev.kp_below B2.out))).mono ?_
  rintro e W3 ⟨rfl, hb⟩
  have B3 := Lib.hid (B2.out.trans (hb.mono B2.out.size))
  clear hb
  go_wp2_with fail
  go_ret
  exact ⟨by rw [HS.out]; rfl, B0.out.trans (B3.out.mono B0.out.size)⟩
end Go.Proofs.Ytnlfdepeimjliaa
