/-
  The document's own Same tells what the program's does.
-/
import Derived.Test.YtnlfdepeimjliaaEvSame2
import Derived.Test.YtnlfdepeimjliaaEvRel
namespace Go.Proofs.Ytnlfdepeimjliaa
open Go.RowKit
set_option linter.unusedVariables false
set_option linter.unusedSimpArgs false
theorem sameInts_is {s t : Ev.Sl} {v : Bool} (h : decide (s.l = t.l) = v) (w : World) (hs : Ev.IntsIn w s) (ht : Ev.IntsIn w t) : Calls Try.prog 51 #[.slice s.a s.l.length s.c, .slice t.a t.l.length t.c] w fun e w' => e = .returned (.bool v) ∧ Below w.heap.size w w' :=
  (sameInts_any s t w hs ht).mono fun e w' ⟨he, n, hw⟩ => ⟨by rw [he, h], by rw [hw]; exact below_drewN (Below.refl _ _) n⟩
theorem Ev.same_od {x y : Ev.X} (h : x.od.length = y.od.length) {k : Nat} (hk : k < x.od.length) (hn : decide (Ev.rowAt x.od k = Ev.rowAt y.od k) = false) : Ev.same x y = false := by
  unfold Ev.same Ev.sameOd
  rw [Ev.all_no hk hn]; simp
theorem Ev.same_ev {x y : Ev.X} (h : x.ev.length = y.ev.length) {k : Nat} (hk : k < x.ev.length) (hn : Ev.sameR (Ev.nth x.ev k) (Ev.nth y.ev k) = false) : Ev.same x y = false := by
  unfold Ev.same Ev.sameEvs
  rw [Ev.all_no (f := fun k : Nat => Ev.sameR (Ev.nth x.ev k) (Ev.nth y.ev k)) hk hn]; simp
set_option maxRecDepth 100000 in
set_option maxHeartbeats 16000000 in
theorem rsame_any (x y : Ev.X) (w : World) (hx : Ev.XIn w x) (hy : Ev.XIn w y) :
    Calls Try.prog 25 #[Ev.exV x, Ev.exV y] w fun e w' => e = .returned (.bool (Ev.same x y)) ∧ Below w.heap.size w w' := by
  have HX0 := Lib.hid hx; have HY0 := Lib.hid hy
  obtain ⟨B, hB⟩ : ∃ B, B = (w.alloc (.cells (Ev.xcells x).toArray 26)).alloc (.cells (Ev.xcells y).toArray 26) := ⟨_, rfl⟩
  have HB := Lib.hid hB
  have B0 := Lib.hid (show Below w.heap.size w B by rw [hB]; exact (Ev.two_box x y).1)
  have RX := Lib.hid (show B.heap[w.heap.size]? = some (.cells (Ev.xcells x).toArray 26 (0, 0)) by rw [hB]; exact (Ev.two_box x y).2.1)
  have RY := Lib.hid (show B.heap[w.heap.size + 1]? = some (.cells (Ev.xcells y).toArray 26 (0, 0)) by rw [hB]; exact (Ev.two_box x y).2.2)
  have HX := Lib.hid (show Ev.XIn B x from hx.kp (Ev.kp_below B0.out)); have HY := Lib.hid (show Ev.XIn B y from hy.kp (Ev.kp_below B0.out))
  have CX := Lib.hid (show ∀ W, Below B.heap.size B W → W.cell? ⟨w.heap.size, 0, none⟩ = some (.slice x.ae x.ev.length x.ce) ∧ W.cell? ⟨w.heap.size, 1, none⟩ = some (.slice x.fr.a x.fr.l.length x.fr.c) ∧ W.cell? ⟨w.heap.size, 2, none⟩ = some (.slice x.ao x.od.length x.co) from fun W h => by
    have r := (h.block w.heap.size (Array.getElem?_eq_some_iff.1 RX.out).1).trans RX.out
    exact ⟨Ev.xcell0 r, Ev.xcell1 r, Ev.xcell2 r⟩)
  have CY := Lib.hid (show ∀ W, Below B.heap.size B W → W.cell? ⟨w.heap.size + 1, 0, none⟩ = some (.slice y.ae y.ev.length y.ce) ∧ W.cell? ⟨w.heap.size + 1, 1, none⟩ = some (.slice y.fr.a y.fr.l.length y.fr.c) ∧ W.cell? ⟨w.heap.size + 1, 2, none⟩ = some (.slice y.ao y.od.length y.co) from fun W h => by
    have r := (h.block (w.heap.size + 1) (Array.getElem?_eq_some_iff.1 RY.out).1).trans RY.out
    exact ⟨Ev.xcell0 r, Ev.xcell1 r, Ev.xcell2 r⟩)
  clear hx hy hB
  have xl1 := HX0.out.ev.le; have xl2 := HX0.out.ev.max; have yl1 := HY0.out.ev.le; have yl2 := HY0.out.ev.max
  have xo1 := HX0.out.od.le; have xo2 := HX0.out.od.max; have yo1 := HY0.out.od.le; have yo2 := HY0.out.od.max
  obtain ⟨bx0, bx1, bx2⟩ := CX.out B (Below.refl _ _)
  obtain ⟨by0, by1, by2⟩ := CY.out B (Below.refl _ _)
  unfold Ev.exV Ev.xcells
  by_cases hl1 : x.ev.length = y.ev.length
  case neg =>
    have t1 : ((x.ev.length : Int) != (y.ev.length : Int)) = true := by simp; omega
    have t1' : (x.ev.length != y.ev.length) = true := by simpa using hl1
    have HF := Lib.hid (show Ev.same x y = false by unfold Ev.same Ev.sameEvs; rw [show (x.ev.length == y.ev.length) = false by simpa using hl1]; rfl)
    clear hl1
    go_enter Try.func25, Try.ntmps25
    go_wp2_with (first | ((with_reducible show wpList _ _ _ (Oper.mk (some 9) _ _ _ _ _ :: _) _ _); rw [show (w.alloc (Obj.cells #[Value.slice x.ae x.ev.length x.ce, Value.slice x.fr.a x.fr.l.length x.fr.c, Value.slice x.ao x.od.length x.co] 26)).alloc (Obj.cells #[Value.slice y.ae y.ev.length y.ce, Value.slice y.fr.a y.fr.l.length y.fr.c, Value.slice y.ao y.od.length y.co] 26) = B from HB.out.symm]) | fail)
    go_ret
    exact ⟨by rw [HF.out]; rfl, B0.out⟩
  have t1 : ((x.ev.length : Int) != (y.ev.length : Int)) = false := by simp [hl1]
  have t1' : (x.ev.length != y.ev.length) = false := by simpa using hl1
  have HL1 := Lib.hid hl1
  clear hl1
  by_cases hl2 : x.od.length = y.od.length
  case neg =>
    have t2 : ((x.od.length : Int) != (y.od.length : Int)) = true := by simp; omega
    have t2' : (x.od.length != y.od.length) = true := by simpa using hl2
    have HF := Lib.hid (show Ev.same x y = false by unfold Ev.same Ev.sameOd; rw [show (x.od.length == y.od.length) = false by simpa using hl2]; simp)
    clear hl2
    go_enter Try.func25, Try.ntmps25
    go_wp2_with (first | ((with_reducible show wpList _ _ _ (Oper.mk (some 9) _ _ _ _ _ :: _) _ _); rw [show (w.alloc (Obj.cells #[Value.slice x.ae x.ev.length x.ce, Value.slice x.fr.a x.fr.l.length x.fr.c, Value.slice x.ao x.od.length x.co] 26)).alloc (Obj.cells #[Value.slice y.ae y.ev.length y.ce, Value.slice y.fr.a y.fr.l.length y.fr.c, Value.slice y.ao y.od.length y.co] 26) = B from HB.out.symm]) | fail)
    go_ret
    exact ⟨by rw [HF.out]; rfl, B0.out⟩
  have t2 : ((x.od.length : Int) != (y.od.length : Int)) = false := by simp [hl2]
  have t2' : (x.od.length != y.od.length) = false := by simpa using hl2
  have HL2 := Lib.hid hl2
  clear hl2
  obtain ⟨b, hb⟩ : ∃ b, decide (x.fr.l = y.fr.l) = b := ⟨_, rfl⟩
  have HFR := Lib.hid hb
  clear hb
  go_enter Try.func25, Try.ntmps25
  go_wp2_with (first | ((with_reducible show wpList _ _ _ (Oper.mk (some 9) _ _ _ _ _ :: _) _ _); rw [show (w.alloc (Obj.cells #[Value.slice x.ae x.ev.length x.ce, Value.slice x.fr.a x.fr.l.length x.fr.c, Value.slice x.ao x.od.length x.co] 26)).alloc (Obj.cells #[Value.slice y.ae y.ev.length y.ce, Value.slice y.fr.a y.fr.l.length y.fr.c, Value.slice y.ao y.od.length y.co] 26) = B from HB.out.symm]) | fail)
  refine (sameInts_is HFR.out _ HX.out.fr HY.out.fr).mono ?_
  rintro e W1 ⟨rfl, hb⟩
  have B1 := Lib.hid hb
  clear hb bx0 bx1 bx2 by0 by1 by2
  cases b
  · have HF := Lib.hid (show Ev.same x y = false by unfold Ev.same; rw [HFR.out]; simp)
    go_wp2_with fail
    go_ret
    exact ⟨by rw [HF.out]; rfl, B0.out.trans (B1.out.mono B0.out.size)⟩
  go_wp2
  go_loopw [5] (fun i wr => ∃ k : Nat, k ≤ x.od.length ∧ i = .int .i64 (k : Int) ∧ (∀ j : Nat, j < k → decide (Ev.rowAt x.od j = Ev.rowAt y.od j) = true) ∧ Below B.heap.size B wr) (fun i _ => x.od.length - (intOf i).toNat)
  case atStart => exact ⟨0, Nat.zero_le _, rfl, fun j hj => absurd hj (by omega), B1.out⟩
  case round =>
    obtain ⟨k, hk, rfl, hall, hbr⟩ := hrel
    have HALL := Lib.hid hall; have HBR := Lib.hid hbr; clear hall hbr
    by_cases hlt : k < x.od.length
    · have HNO := Lib.hid (fun h => Ev.same_od HL2.out hlt h)
      have hly := HL2.out
      obtain ⟨s, hs⟩ : ∃ s, x.od[k]? = some s := ⟨_, List.getElem?_eq_getElem hlt⟩
      obtain ⟨t, ht⟩ : ∃ t, y.od[k]? = some t := ⟨_, List.getElem?_eq_getElem (by omega)⟩
      obtain ⟨g, o, ea, hcx⟩ := (HX.out.od.kp (Ev.kp_below HBR.out)).at_ hs
      obtain ⟨g2, o2, eb, hcy⟩ := (HY.out.od.kp (Ev.kp_below HBR.out)).at_ ht
      have HSX := Lib.hid ((HX.out.od.kp (Ev.kp_below HBR.out)).ok_ hs); have HSY := Lib.hid ((HY.out.od.kp (Ev.kp_below HBR.out)).ok_ ht)
      have hki : (k : Int) < (x.od.length : Int) := by omega
      have hkj : (k : Int) < (y.od.length : Int) := by omega
      obtain ⟨v, hv⟩ : ∃ v, decide (s.l = t.l) = v := ⟨_, rfl⟩
      have HV := Lib.hid hv
      have HF := Lib.hid (show decide (Ev.rowAt x.od k = Ev.rowAt y.od k) = v by rw [Ev.rowAt_some hs, Ev.rowAt_some ht]; exact hv)
      have c0 := (CX.out wr HBR.out).2.2
      have d0 := (CY.out wr HBR.out).2.2
      rw [ea] at c0
      rw [eb] at d0
      have c1 : ∀ z : Og.On wr.heap.size wr, z.x.cell? ⟨w.heap.size, 2, none⟩ = some (.slice (some ⟨g, o, none⟩) x.od.length x.co) := fun z => Og.cellB z c0
      have d1 : ∀ z : Og.On wr.heap.size wr, z.x.cell? ⟨w.heap.size + 1, 2, none⟩ = some (.slice (some ⟨g2, o2, none⟩) y.od.length y.co) := fun z => Og.cellB z d0
      have c2 : ∀ z : Og.On wr.heap.size wr, z.x.cell? ⟨g, o + k, none⟩ = some (.slice s.a s.l.length s.c) := fun z => Og.cellB z hcx
      have d2 : ∀ z : Og.On wr.heap.size wr, z.x.cell? ⟨g2, o2 + k, none⟩ = some (.slice t.a t.l.length t.c) := fun z => Og.cellB z hcy
      clear hs ht ea eb hcx hcy hly hv
      cases v
      · go_wp2
        refine Og.regionB (by kernel_rfl) (by kernel_rfl) ?_
        repeat (first
          | go_big_quiet_skip
          | (go_big_quiet_want
             first
              | (go_big_quiet_op
                 first
                  | go_big_quiet_on
                  | (apply Exists.intro
                     refine ⟨fun z => ?_, ?_⟩
                     · first
                        | (with_reducible exact Og.callB (sameInts_is HV.out _ (HSX.out.kp (Ev.kp_below z.b)) (HSY.out.kp (Ev.kp_below z.b))))
                     go_big_quiet_on))))
        refine wpQuiet_nil ?_
        intro _ hw'
        obtain ⟨q9, hw''⟩ := hw'
        subst hw''
        have HEND := Lib.hid (HBR.out.trans (q9.b.mono HBR.out.size))
        go_wp2_with fail
        go_ret
        exact ⟨by rw [HNO.out HF.out]; rfl, B0.out.trans ((HEND.out).mono B0.out.size)⟩
      · go_wp2
        refine Og.regionB (by kernel_rfl) (by kernel_rfl) ?_
        repeat (first
          | go_big_quiet_skip
          | (go_big_quiet_want
             first
              | (go_big_quiet_op
                 first
                  | go_big_quiet_on
                  | (apply Exists.intro
                     refine ⟨fun z => ?_, ?_⟩
                     · first
                        | (with_reducible exact Og.callB (sameInts_is HV.out _ (HSX.out.kp (Ev.kp_below z.b)) (HSY.out.kp (Ev.kp_below z.b))))
                     go_big_quiet_on))))
        refine wpQuiet_nil ?_
        intro _ hw'
        obtain ⟨q9, hw''⟩ := hw'
        subst hw''
        have HEND := Lib.hid (HBR.out.trans (q9.b.mono HBR.out.size))
        go_wp2_with fail
        go_roundw
        case rel =>
          refine ⟨k + 1, by omega, by go_num, fun j hj => ?_, HEND.out⟩
          rcases Nat.lt_or_eq_of_le (Nat.le_of_lt_succ hj) with h | h
          · exact HALL.out j h
          · subst h; exact HF.out
        case measure => simp [intOf]; omega
    · have hki : ¬ (k : Int) < (x.od.length : Int) := by omega
      have HOD := Lib.hid (show ∀ j : Nat, j < x.od.length → decide (Ev.rowAt x.od j = Ev.rowAt y.od j) = true from fun j hj => HALL.out j (by omega))
      have c0 := (CX.out wr HBR.out).2.2
      have HB1 := HBR
      go_wp2
      clear c0
      go_loopw [6] (fun i wr => ∃ k : Nat, k ≤ x.ev.length ∧ i = .int .i64 (k : Int) ∧ (∀ j : Nat, j < k → Ev.sameR (Ev.nth x.ev (j : Int)) (Ev.nth y.ev (j : Int)) = true) ∧ Below B.heap.size B wr) (fun i _ => x.ev.length - (intOf i).toNat)
      case atStart => exact ⟨0, Nat.zero_le _, rfl, fun j hj => absurd hj (by omega), HB1.out⟩
      case round =>
        obtain ⟨k, hk, rfl, hall, hbr⟩ := hrel
        have HALL := Lib.hid hall; have HBR := Lib.hid hbr; clear hall hbr
        by_cases hlt : k < x.ev.length
        · have HNO := Lib.hid (fun h => Ev.same_ev HL1.out hlt h)
          have hly := HL1.out
          obtain ⟨ex, hex⟩ : ∃ e, x.ev[k]? = some e := ⟨_, List.getElem?_eq_getElem hlt⟩
          obtain ⟨ey, hey⟩ : ∃ e, y.ev[k]? = some e := ⟨_, List.getElem?_eq_getElem (by omega)⟩
          obtain ⟨g, o, ea, hcx⟩ := (HX.out.ev.kp (Ev.kp_below HBR.out)).at_ hex
          obtain ⟨g2, o2, eb, hcy⟩ := (HY.out.ev.kp (Ev.kp_below HBR.out)).at_ hey
          have HEX := Lib.hid ((HX.out.ev.kp (Ev.kp_below HBR.out)).ok_ hex); have HEY := Lib.hid ((HY.out.ev.kp (Ev.kp_below HBR.out)).ok_ hey)
          have HNX := Lib.hid (Ev.nth_some hex); have HNY := Lib.hid (Ev.nth_some hey)
          have hki : (k : Int) < (x.ev.length : Int) := by omega
          have hkj : (k : Int) < (y.ev.length : Int) := by omega
          have cx := (CX.out wr HBR.out).1
          have cy := (CY.out wr HBR.out).1
          rw [ea] at cx
          rw [eb] at cy
          have LX := Lib.hid (fun (z : World) (hz : Og.Std wr z) => Ev.ld (w := z) (g := g) (o := o + k * 13) (x := ex) (fun i c hi => Og.std_cell hz (hcx i c hi)))
          have LY := Lib.hid (fun (z : World) (hz : Og.Std wr z) => Ev.ld (w := z) (g := g2) (o := o2 + k * 13) (x := ey) (fun i c hi => Og.std_cell hz (hcy i c hi)))
          clear hex hey ea eb hcx hcy hly
          go_wp2
          refine wp_region_held (S := Og.Std wr) (by kernel_rfl) ?_
          have S0 : Og.Std wr { wr with drawn := wr.drawn + 1 } := ⟨rfl, rfl, rfl, Nat.le_refl _, fun _ _ => rfl⟩
          refine Og.held_take 0 _ (.pointer (some ⟨w.heap.size, 0, none⟩)) _ rfl rfl (by kernel_rfl) (by kernel_rfl) (by kernel_rfl) (fun _ _ _ h => h) S0 (fun z hz => ?_) (by simp only [Act.put, List.setIfInBounds_toArray, List.set_cons_zero, List.set_cons_succ]; rfl) ?_
          · go_simp; try (with_reducible rfl)
          refine Og.held_take 1 _ (.slice (some ⟨g, o, none⟩) x.ev.length x.ce) _ rfl rfl (by kernel_rfl) (by kernel_rfl) (by kernel_rfl) (fun _ _ _ h => h) S0 (fun z hz => ?_) (by simp only [Act.put, List.setIfInBounds_toArray, List.set_cons_zero, List.set_cons_succ]; rfl) ?_
          · exact Og.load_run 22 (.tmp 59) rfl ⟨w.heap.size, 0, none⟩ (by kernel_rfl) (run_load_slice Try.underlying22 (Og.std_cell hz cx))
          refine Og.held_take 2 _ (.int .i64 (k : Int)) _ rfl rfl (by kernel_rfl) (by kernel_rfl) (by kernel_rfl) (fun _ _ _ h => h) S0 (fun z hz => ?_) (by simp only [Act.put, List.setIfInBounds_toArray, List.set_cons_zero, List.set_cons_succ]; rfl) ?_
          · go_simp; try (with_reducible rfl)
          refine Og.held_take 3 _ (.pointer (some ⟨g, o + k * 13, none⟩)) _ rfl rfl (by kernel_rfl) (by kernel_rfl) (by kernel_rfl) (fun _ _ _ h => h) S0 (fun z hz => ?_) (by simp only [Act.put, List.setIfInBounds_toArray, List.set_cons_zero, List.set_cons_succ]; rfl) ?_
          · go_simp; try (with_reducible rfl)
          refine Og.held_take 4 _ (.agg (Ev.cells ex).toArray) _ rfl rfl (by kernel_rfl) (by kernel_rfl) (by kernel_rfl) (fun _ _ _ h => h) S0 (fun z hz => ?_) (by simp only [Act.put, List.setIfInBounds_toArray, List.set_cons_zero, List.set_cons_succ]; rfl) ?_
          · exact Og.load_run 44 (.tmp 62) rfl ⟨g, o + k * 13, none⟩ (by kernel_rfl) (LX.out z hz)
          refine Og.held_take 5 _ (.pointer (some ⟨w.heap.size + 1, 0, none⟩)) _ rfl rfl (by kernel_rfl) (by kernel_rfl) (by kernel_rfl) (fun _ _ _ h => h) S0 (fun z hz => ?_) (by simp only [Act.put, List.setIfInBounds_toArray, List.set_cons_zero, List.set_cons_succ]; rfl) ?_
          · go_simp; try (with_reducible rfl)
          refine Og.held_take 6 _ (.slice (some ⟨g2, o2, none⟩) y.ev.length y.ce) _ rfl rfl (by kernel_rfl) (by kernel_rfl) (by kernel_rfl) (fun _ _ _ h => h) S0 (fun z hz => ?_) (by simp only [Act.put, List.setIfInBounds_toArray, List.set_cons_zero, List.set_cons_succ]; rfl) ?_
          · exact Og.load_run 22 (.tmp 64) rfl ⟨w.heap.size + 1, 0, none⟩ (by kernel_rfl) (run_load_slice Try.underlying22 (Og.std_cell hz cy))
          refine Og.held_take 7 _ (.int .i64 (k : Int)) _ rfl rfl (by kernel_rfl) (by kernel_rfl) (by kernel_rfl) (fun _ _ _ h => h) S0 (fun z hz => ?_) (by simp only [Act.put, List.setIfInBounds_toArray, List.set_cons_zero, List.set_cons_succ]; rfl) ?_
          · go_simp; try (with_reducible rfl)
          refine Og.held_take 8 _ (.pointer (some ⟨g2, o2 + k * 13, none⟩)) _ rfl rfl (by kernel_rfl) (by kernel_rfl) (by kernel_rfl) (fun _ _ _ h => h) S0 (fun z hz => ?_) (by simp only [Act.put, List.setIfInBounds_toArray, List.set_cons_zero, List.set_cons_succ]; rfl) ?_
          · go_simp; try (with_reducible rfl)
          refine Og.held_take 9 _ (.agg (Ev.cells ey).toArray) _ rfl rfl (by kernel_rfl) (by kernel_rfl) (by kernel_rfl) (fun _ _ _ h => h) S0 (fun z hz => ?_) (by simp only [Act.put, List.setIfInBounds_toArray, List.set_cons_zero, List.set_cons_succ]; rfl) ?_
          · exact Og.load_run 44 (.tmp 67) rfl ⟨g2, o2 + k * 13, none⟩ (by kernel_rfl) (LY.out z hz)
          refine Og.four (p := 10) (q := 11) (s1 := 12) (s2 := 13) (dp := 7) (dq := 8) (x1 := 63) (x2 := 68) (T := 44) (Z := (Ev.cells Ev.R0).toArray) (c1 := (Ev.cells ex).toArray) (c2 := (Ev.cells ey).toArray)
            ⟨⟨_, rfl, rfl, rfl, fun ρ w => by kernel_rfl⟩, ⟨_, rfl, rfl, rfl, fun ρ w => by kernel_rfl⟩, ⟨_, rfl, rfl, rfl, rfl⟩, ⟨_, rfl, rfl, rfl, rfl⟩, (by kernel_rfl), (by kernel_rfl), (by kernel_rfl), (by kernel_rfl), (by kernel_rfl), (by kernel_rfl), (by kernel_rfl), (by kernel_rfl), (by kernel_rfl), (by kernel_rfl), (by kernel_rfl), of_decide_eq_true (by kernel_rfl), of_decide_eq_true (by kernel_rfl), (by decide), rfl, rfl, (by kernel_rfl), (by kernel_rfl), (by kernel_rfl), (by kernel_rfl)⟩ S0 ?_
          intro W g1' g2' HT
          simp only [Act.put, List.setIfInBounds_toArray, List.set_cons_zero, List.set_cons_succ]
          have R1 := Lib.hid HT.r1; have R2 := Lib.hid HT.r2; have BZ := Lib.hid HT.below
          have HEND := Lib.hid (HBR.out.trans (BZ.out.mono HBR.out.size))
          clear HT S0 cx cy
          have cx0 : W.cell? ⟨g1', 0, none⟩ = some (.int .i64 ex.h) := by rw [cell_of_row _ _ _ _ _ _ R1.out]; rfl
          have cy0 : W.cell? ⟨g2', 0, none⟩ = some (.int .i64 ey.h) := by rw [cell_of_row _ _ _ _ _ _ R2.out]; rfl
          have cx1 : W.cell? ⟨g1', 1, none⟩ = some (.int .i64 ex.k) := by rw [cell_of_row _ _ _ _ _ _ R1.out]; rfl
          have cy1 : W.cell? ⟨g2', 1, none⟩ = some (.int .i64 ey.k) := by rw [cell_of_row _ _ _ _ _ _ R2.out]; rfl
          have cx2 : W.cell? ⟨g1', 2, none⟩ = some (.int .u32 ex.a) := by rw [cell_of_row _ _ _ _ _ _ R1.out]; rfl
          have cy2 : W.cell? ⟨g2', 2, none⟩ = some (.int .u32 ey.a) := by rw [cell_of_row _ _ _ _ _ _ R2.out]; rfl
          have cx3 : W.cell? ⟨g1', 3, none⟩ = some (.int .u32 ex.v) := by rw [cell_of_row _ _ _ _ _ _ R1.out]; rfl
          have cy3 : W.cell? ⟨g2', 3, none⟩ = some (.int .u32 ey.v) := by rw [cell_of_row _ _ _ _ _ _ R2.out]; rfl
          have cx4 : W.cell? ⟨g1', 4, none⟩ = some (.int .u32 ex.r) := by rw [cell_of_row _ _ _ _ _ _ R1.out]; rfl
          have cy4 : W.cell? ⟨g2', 4, none⟩ = some (.int .u32 ey.r) := by rw [cell_of_row _ _ _ _ _ _ R2.out]; rfl
          have cx5 : W.cell? ⟨g1', 5, none⟩ = some (.bool ex.q) := by rw [cell_of_row _ _ _ _ _ _ R1.out]; rfl
          have cy5 : W.cell? ⟨g2', 5, none⟩ = some (.bool ey.q) := by rw [cell_of_row _ _ _ _ _ _ R2.out]; rfl
          have cx6 : W.cell? ⟨g1', 6, none⟩ = some (.bool ex.l) := by rw [cell_of_row _ _ _ _ _ _ R1.out]; rfl
          have cy6 : W.cell? ⟨g2', 6, none⟩ = some (.bool ey.l) := by rw [cell_of_row _ _ _ _ _ _ R2.out]; rfl
          have cx7 : W.cell? ⟨g1', 7, none⟩ = some (.int .i64 ex.p) := by rw [cell_of_row _ _ _ _ _ _ R1.out]; rfl
          have cy7 : W.cell? ⟨g2', 7, none⟩ = some (.int .i64 ey.p) := by rw [cell_of_row _ _ _ _ _ _ R2.out]; rfl
          have cx8 : W.cell? ⟨g1', 8, none⟩ = some (.int .i64 ex.s) := by rw [cell_of_row _ _ _ _ _ _ R1.out]; rfl
          have cy8 : W.cell? ⟨g2', 8, none⟩ = some (.int .i64 ey.s) := by rw [cell_of_row _ _ _ _ _ _ R2.out]; rfl
          have cx9 : W.cell? ⟨g1', 9, none⟩ = some (.bool ex.z) := by rw [cell_of_row _ _ _ _ _ _ R1.out]; rfl
          have cy9 : W.cell? ⟨g2', 9, none⟩ = some (.bool ey.z) := by rw [cell_of_row _ _ _ _ _ _ R2.out]; rfl
          have p10 : W.cell? ⟨g1', 10, none⟩ = some (.slice ex.d1.a ex.d1.l.length ex.d1.c) := by rw [cell_of_row _ _ _ _ _ _ R1.out]; rfl
          have p20 : W.cell? ⟨g2', 10, none⟩ = some (.slice ey.d1.a ey.d1.l.length ey.d1.c) := by rw [cell_of_row _ _ _ _ _ _ R2.out]; rfl
          have p11 : W.cell? ⟨g1', 11, none⟩ = some (.slice ex.d2.a ex.d2.l.length ex.d2.c) := by rw [cell_of_row _ _ _ _ _ _ R1.out]; rfl
          have p21 : W.cell? ⟨g2', 11, none⟩ = some (.slice ey.d2.a ey.d2.l.length ey.d2.c) := by rw [cell_of_row _ _ _ _ _ _ R2.out]; rfl
          have p12 : W.cell? ⟨g1', 12, none⟩ = some (.slice ex.d3.a ex.d3.l.length ex.d3.c) := by rw [cell_of_row _ _ _ _ _ _ R1.out]; rfl
          have p22 : W.cell? ⟨g2', 12, none⟩ = some (.slice ey.d3.a ey.d3.l.length ey.d3.c) := by rw [cell_of_row _ _ _ _ _ _ R2.out]; rfl
          by_cases hh : ex.h = ey.h
          case neg =>
            have th : (ex.h != ey.h) = true := by simpa using hh
            have HF := Lib.hid (show Ev.sameR (Ev.nth x.ev (k : Int)) (Ev.nth y.ev (k : Int)) = false by rw [HNX.out, HNY.out]; unfold Ev.sameR; rw [show decide (ex.h = ey.h) = false from decide_eq_false hh]; simp)
            clear hh
            go_wp2
            go_ret
            exact ⟨by rw [HNO.out HF.out]; rfl, B0.out.trans ((HEND.out).mono B0.out.size)⟩
          have th : (ex.h != ey.h) = false := by simp [hh]
          have EQh := Lib.hid hh
          clear hh
          by_cases hk : ex.k = ey.k
          case neg =>
            have tk : (ex.k != ey.k) = true := by simpa using hk
            have HF := Lib.hid (show Ev.sameR (Ev.nth x.ev (k : Int)) (Ev.nth y.ev (k : Int)) = false by rw [HNX.out, HNY.out]; unfold Ev.sameR; rw [show decide (ex.k = ey.k) = false from decide_eq_false hk]; simp)
            clear hk
            go_wp2
            go_ret
            exact ⟨by rw [HNO.out HF.out]; rfl, B0.out.trans ((HEND.out).mono B0.out.size)⟩
          have tk : (ex.k != ey.k) = false := by simp [hk]
          have EQk := Lib.hid hk
          clear hk
          by_cases ha : ex.a = ey.a
          case neg =>
            have ta : (ex.a != ey.a) = true := by simpa using ha
            have HF := Lib.hid (show Ev.sameR (Ev.nth x.ev (k : Int)) (Ev.nth y.ev (k : Int)) = false by rw [HNX.out, HNY.out]; unfold Ev.sameR; rw [show decide (ex.a = ey.a) = false from decide_eq_false ha]; simp)
            clear ha
            go_wp2
            go_ret
            exact ⟨by rw [HNO.out HF.out]; rfl, B0.out.trans ((HEND.out).mono B0.out.size)⟩
          have ta : (ex.a != ey.a) = false := by simp [ha]
          have EQa := Lib.hid ha
          clear ha
          by_cases hv : ex.v = ey.v
          case neg =>
            have tv : (ex.v != ey.v) = true := by simpa using hv
            have HF := Lib.hid (show Ev.sameR (Ev.nth x.ev (k : Int)) (Ev.nth y.ev (k : Int)) = false by rw [HNX.out, HNY.out]; unfold Ev.sameR; rw [show decide (ex.v = ey.v) = false from decide_eq_false hv]; simp)
            clear hv
            go_wp2
            go_ret
            exact ⟨by rw [HNO.out HF.out]; rfl, B0.out.trans ((HEND.out).mono B0.out.size)⟩
          have tv : (ex.v != ey.v) = false := by simp [hv]
          have EQv := Lib.hid hv
          clear hv
          by_cases hr : ex.r = ey.r
          case neg =>
            have tr : (ex.r != ey.r) = true := by simpa using hr
            have HF := Lib.hid (show Ev.sameR (Ev.nth x.ev (k : Int)) (Ev.nth y.ev (k : Int)) = false by rw [HNX.out, HNY.out]; unfold Ev.sameR; rw [show decide (ex.r = ey.r) = false from decide_eq_false hr]; simp)
            clear hr
            go_wp2
            go_ret
            exact ⟨by rw [HNO.out HF.out]; rfl, B0.out.trans ((HEND.out).mono B0.out.size)⟩
          have tr : (ex.r != ey.r) = false := by simp [hr]
          have EQr := Lib.hid hr
          clear hr
          obtain ⟨vq, hvq⟩ : ∃ v, ex.q = v := ⟨_, rfl⟩
          obtain ⟨uq, huq⟩ : ∃ v, ey.q = v := ⟨_, rfl⟩
          rw [hvq] at cx5
          rw [huq] at cy5
          have HVq := Lib.hid hvq
          have HUq := Lib.hid huq
          clear hvq huq
          by_cases hq : vq = uq
          case neg =>
            have HF := Lib.hid (show Ev.sameR (Ev.nth x.ev (k : Int)) (Ev.nth y.ev (k : Int)) = false by rw [HNX.out, HNY.out]; unfold Ev.sameR; rw [HVq.out, HUq.out, show decide (vq = uq) = false from decide_eq_false hq]; simp)
            cases vq <;> cases uq
            all_goals first
              | exact absurd rfl hq
              | (clear hq
                 go_wp2
                 go_ret
                 exact ⟨by rw [HNO.out HF.out]; rfl, B0.out.trans ((HEND.out).mono B0.out.size)⟩)
          subst hq
          have EQq := Lib.hid (show ex.q = ey.q by rw [HVq.out, HUq.out])
          obtain ⟨vl, hvl⟩ : ∃ v, ex.l = v := ⟨_, rfl⟩
          obtain ⟨ul, hul⟩ : ∃ v, ey.l = v := ⟨_, rfl⟩
          rw [hvl] at cx6
          rw [hul] at cy6
          have HVl := Lib.hid hvl
          have HUl := Lib.hid hul
          clear hvl hul
          by_cases hl : vl = ul
          case neg =>
            have HF := Lib.hid (show Ev.sameR (Ev.nth x.ev (k : Int)) (Ev.nth y.ev (k : Int)) = false by rw [HNX.out, HNY.out]; unfold Ev.sameR; rw [HVl.out, HUl.out, show decide (vl = ul) = false from decide_eq_false hl]; simp)
            cases vl <;> cases ul
            all_goals first
              | exact absurd rfl hl
              | (clear hl
                 go_wp2
                 go_ret
                 exact ⟨by rw [HNO.out HF.out]; rfl, B0.out.trans ((HEND.out).mono B0.out.size)⟩)
          subst hl
          have EQl := Lib.hid (show ex.l = ey.l by rw [HVl.out, HUl.out])
          by_cases hp : ex.p = ey.p
          case neg =>
            have tp : (ex.p != ey.p) = true := by simpa using hp
            have HF := Lib.hid (show Ev.sameR (Ev.nth x.ev (k : Int)) (Ev.nth y.ev (k : Int)) = false by rw [HNX.out, HNY.out]; unfold Ev.sameR; rw [show decide (ex.p = ey.p) = false from decide_eq_false hp]; simp)
            clear hp
            go_wp2
            go_ret
            exact ⟨by rw [HNO.out HF.out]; rfl, B0.out.trans ((HEND.out).mono B0.out.size)⟩
          have tp : (ex.p != ey.p) = false := by simp [hp]
          have EQp := Lib.hid hp
          clear hp
          by_cases hs : ex.s = ey.s
          case neg =>
            have ts : (ex.s != ey.s) = true := by simpa using hs
            have HF := Lib.hid (show Ev.sameR (Ev.nth x.ev (k : Int)) (Ev.nth y.ev (k : Int)) = false by rw [HNX.out, HNY.out]; unfold Ev.sameR; rw [show decide (ex.s = ey.s) = false from decide_eq_false hs]; simp)
            clear hs
            go_wp2
            go_ret
            exact ⟨by rw [HNO.out HF.out]; rfl, B0.out.trans ((HEND.out).mono B0.out.size)⟩
          have ts : (ex.s != ey.s) = false := by simp [hs]
          have EQs := Lib.hid hs
          clear hs
          obtain ⟨vz, hvz⟩ : ∃ v, ex.z = v := ⟨_, rfl⟩
          obtain ⟨uz, huz⟩ : ∃ v, ey.z = v := ⟨_, rfl⟩
          rw [hvz] at cx9
          rw [huz] at cy9
          have HVz := Lib.hid hvz
          have HUz := Lib.hid huz
          clear hvz huz
          by_cases hz : vz = uz
          case neg =>
            have HF := Lib.hid (show Ev.sameR (Ev.nth x.ev (k : Int)) (Ev.nth y.ev (k : Int)) = false by rw [HNX.out, HNY.out]; unfold Ev.sameR; rw [HVz.out, HUz.out, show decide (vz = uz) = false from decide_eq_false hz]; simp)
            cases vz <;> cases uz
            all_goals first
              | exact absurd rfl hz
              | (clear hz
                 go_wp2
                 go_ret
                 exact ⟨by rw [HNO.out HF.out]; rfl, B0.out.trans ((HEND.out).mono B0.out.size)⟩)
          subst hz
          have EQz := Lib.hid (show ex.z = ey.z by rw [HVz.out, HUz.out])
          have HS3 := Lib.hid (show Ev.sameR (Ev.nth x.ev (k : Int)) (Ev.nth y.ev (k : Int)) = (decide (ex.d1.l = ey.d1.l) && decide (ex.d2.l = ey.d2.l) && decide (ex.d3.l = ey.d3.l)) by
            rw [HNX.out, HNY.out]; unfold Ev.sameR; simp [EQh.out, EQk.out, EQa.out, EQv.out, EQr.out, EQq.out, EQl.out, EQz.out, EQp.out, EQs.out])
          obtain ⟨b1, hb1⟩ : ∃ b, decide (ex.d1.l = ey.d1.l) = b := ⟨_, rfl⟩
          obtain ⟨b2, hb2⟩ : ∃ b, decide (ex.d2.l = ey.d2.l) = b := ⟨_, rfl⟩
          obtain ⟨b3, hb3⟩ : ∃ b, decide (ex.d3.l = ey.d3.l) = b := ⟨_, rfl⟩
          have HS4 := Lib.hid (show Ev.sameR (Ev.nth x.ev (k : Int)) (Ev.nth y.ev (k : Int)) = (b1 && b2 && b3) by rw [HS3.out, hb1, hb2, hb3])
          have H1 := Lib.hid hb1; have H2 := Lib.hid hb2; have H3 := Lib.hid hb3
          clear hb1 hb2 hb3
          go_wp2_with fail
          refine (sameInts_is H1.out _ (HEX.out.d1.kp (Ev.kp_below BZ.out)) (HEY.out.d1.kp (Ev.kp_below BZ.out))).mono ?_
          rintro e Z1 ⟨rfl, hb⟩
          have D1 := Lib.hid hb
          have q1 := Ev.kp_below hb _ _ p11; have q2 := Ev.kp_below hb _ _ p12; have r1 := Ev.kp_below hb _ _ p21; have r2 := Ev.kp_below hb _ _ p22
          have HEND1 := Lib.hid (HEND.out.trans (hb.mono HEND.out.size))
          clear hb
          cases b1
          · have HF := Lib.hid (show Ev.sameR (Ev.nth x.ev (k : Int)) (Ev.nth y.ev (k : Int)) = false by rw [HS4.out]; rfl)
            go_wp2_with fail
            go_ret
            exact ⟨by rw [HNO.out HF.out]; rfl, B0.out.trans ((HEND1.out).mono B0.out.size)⟩
          go_wp2_with fail
          refine (sameInts_is H2.out _ (HEX.out.d2.kp (Ev.kp_below (BZ.out.trans (D1.out.mono BZ.out.size)))) (HEY.out.d2.kp (Ev.kp_below (BZ.out.trans (D1.out.mono BZ.out.size))))).mono ?_
          rintro e Z2 ⟨rfl, hb⟩
          have D2 := Lib.hid (D1.out.trans (hb.mono D1.out.size))
          have s2 := Ev.kp_below hb _ _ q2; have u2 := Ev.kp_below hb _ _ r2
          have HEND2 := Lib.hid (HEND1.out.trans (hb.mono HEND1.out.size))
          clear hb q1 q2 r1 r2
          cases b2
          · have HF := Lib.hid (show Ev.sameR (Ev.nth x.ev (k : Int)) (Ev.nth y.ev (k : Int)) = false by rw [HS4.out]; rfl)
            go_wp2_with fail
            go_ret
            exact ⟨by rw [HNO.out HF.out]; rfl, B0.out.trans ((HEND2.out).mono B0.out.size)⟩
          go_wp2_with fail
          refine (sameInts_is H3.out _ (HEX.out.d3.kp (Ev.kp_below (BZ.out.trans (D2.out.mono BZ.out.size)))) (HEY.out.d3.kp (Ev.kp_below (BZ.out.trans (D2.out.mono BZ.out.size))))).mono ?_
          rintro e Z3 ⟨rfl, hb⟩
          have HEND3 := Lib.hid (HEND2.out.trans (hb.mono HEND2.out.size))
          clear hb s2 u2
          cases b3
          · have HF := Lib.hid (show Ev.sameR (Ev.nth x.ev (k : Int)) (Ev.nth y.ev (k : Int)) = false by rw [HS4.out]; rfl)
            go_wp2_with fail
            go_ret
            exact ⟨by rw [HNO.out HF.out]; rfl, B0.out.trans ((HEND3.out).mono B0.out.size)⟩
          have HF := Lib.hid (show Ev.sameR (Ev.nth x.ev (k : Int)) (Ev.nth y.ev (k : Int)) = true by rw [HS4.out]; rfl)
          go_wp2_with fail
          go_roundw
          case rel =>
            refine ⟨k + 1, by omega, by go_num, fun j hj => ?_, HEND3.out⟩
            rcases Nat.lt_or_eq_of_le (Nat.le_of_lt_succ hj) with h | h
            · exact HALL.out j h
            · subst h; exact HF.out
          case measure => simp [intOf]; omega
        · have hki : ¬ (k : Int) < (x.ev.length : Int) := by omega
          have cx := (CX.out wr HBR.out).1
          have HRES := Lib.hid (show Ev.same x y = true by
            unfold Ev.same Ev.sameEvs Ev.sameOd
            rw [Ev.all_yes (f := fun k : Nat => Ev.sameR (Ev.nth x.ev k) (Ev.nth y.ev k)) (fun j hj => HALL.out j (by omega)), Ev.all_yes (f := fun k => decide (Ev.rowAt x.od k = Ev.rowAt y.od k)) HOD.out, HFR.out]
            simp [HL1.out, HL2.out])
          go_wp2
          go_ret
          exact ⟨by rw [HRES.out]; rfl, B0.out.trans (HBR.out.mono B0.out.size)⟩
end Go.Proofs.Ytnlfdepeimjliaa
