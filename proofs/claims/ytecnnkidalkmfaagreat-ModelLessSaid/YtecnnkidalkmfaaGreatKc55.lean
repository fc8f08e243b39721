import Derived.Test.YtecnnkidalkmfaaGreatKc54
set_option linter.unusedVariables false
set_option linter.unusedSimpArgs false

section
namespace Go.Proofs.YtecnnkidalkmfaaGreat.modelLess
open Go.ChangeShapes Go.WideShapes Go.ChangeAt Go.RowKit
set_option maxRecDepth 100000 in
set_option maxHeartbeats 8000000 in
theorem walk (w : World) (x0 : Ev.X) (b0 : Ev.XIn w x0) (a1 : Int) (w1 : (Lit.int .i64 a1).wf = true) :
    Calls Tryz.prog 7 #[Ev.exV x0, .int .i64 a1] w fun e w' => e = .returned (.bool true) ∧ Below w.heap.size w w' := by
  have HIN := Lib.hid b0
  obtain ⟨B, hB⟩ : ∃ B, B = w.alloc (.cells (Ev.xcells x0).toArray 26) := ⟨_, rfl⟩
  have HB := Lib.hid hB
  have R0 := Lib.hid (show B.heap[w.heap.size]? = some (.cells (Ev.xcells x0).toArray 26 (0, 0)) by rw [hB]; exact heap_alloc_new _ _)
  have B0 := Lib.hid (show Below w.heap.size w B by rw [hB]; exact (Below.refl w.heap.size w).alloc (Nat.le_refl _) _)
  clear hB b0
  unfold Ev.exV
  go_enter Tryz.func7, Tryz.ntmps7
  go_wp2_with (first
    | ((with_reducible show wpList _ _ _ (Oper.mk (some 11) _ _ _ _ _ :: _) _ _); rw [show w.alloc (Obj.cells (Ev.xcells x0).toArray 26) = B from HB.out.symm])
    | ((with_reducible show wpList _ _ _ (Oper.mk (some 11) _ _ _ _ _ :: _) _ _); refine wpList_load_row rfl 26 (.tmp 2) rfl w.heap.size (by kernel_rfl) 26 (Ev.xcells x0).toArray (0, 0) _ R0.out Tryz.underlying26 rfl (by kernel_rfl) ?_))
  refine (wide8_any x0 _ (HIN.out.kp (Ev.kp_below B0.out))).mono ?_
  rintro e W1 ⟨b, rfl, hw, hb⟩
  have BW := Lib.hid (B0.out.trans (hb.mono B0.out.size))
  have R1 := Lib.hid ((hb.block w.heap.size (Array.getElem?_eq_some_iff.1 R0.out).1).trans R0.out)
  have HW := Lib.hid hw
  clear hb hw
  cases b
  case true =>
    go_wp2_with fail
    refine (known8_any _).mono ?_
    rintro e W99 ⟨rfl, hb99⟩
    have HEND := Lib.hid (BW.out.trans (hb99.mono BW.out.size)); clear hb99
    go_wp2_with fail
    go_ret
    exact ⟨rfl, HEND.out⟩
  obtain ⟨v, hv⟩ : ∃ v, Ev.check x0 = v := ⟨_, rfl⟩
  have HV := Lib.hid hv
  clear hv
  go_wp2_with ((with_reducible show wpList _ _ _ (Oper.mk (some 14) _ _ _ _ _ :: _) _ _); refine Ev.load_row_g 26 (.tmp 2) rfl rfl w.heap.size (by kernel_rfl) 26 (Ev.xcells x0).toArray (0, 0) _ R1.out Tryz.underlying26 rfl (by kernel_rfl) ?_)
  refine (rcheck_is HV.out _ (HIN.out.kp (Ev.kp_below BW.out))).mono ?_
  rintro e W2 ⟨rfl, hb⟩
  have B2 := Lib.hid (BW.out.trans (hb.mono BW.out.size))
  have R2 := Lib.hid ((hb.block w.heap.size (Array.getElem?_eq_some_iff.1 R1.out).1).trans R1.out)
  clear hb
  by_cases hv0 : v = 0
  case neg =>
    have t0 : (v != 0) = true := by simpa using hv0
    go_wp2_with fail
    refine (known8_any _).mono ?_
    rintro e W99 ⟨rfl, hb99⟩
    have HEND := Lib.hid (B2.out.trans (hb99.mono B2.out.size)); clear hb99
    go_wp2_with fail
    go_ret
    exact ⟨rfl, HEND.out⟩
  subst hv0
  have HC := Lib.hid HV.out
  obtain ⟨yb, hyb⟩ : ∃ g, g = W2.heap.size := ⟨_, rfl⟩
  obtain ⟨Y, hY⟩ : ∃ Y, Y = W2.alloc (.cells #[.slice x0.ae x0.ev.length x0.ce, .slice x0.fr.a x0.fr.l.length x0.fr.c, .slice x0.ao x0.od.length x0.co] 26) := ⟨_, rfl⟩
  have HY := Lib.hid hY; have HYB := Lib.hid hyb
  have hby : Below W2.heap.size W2 Y := by rw [hY]; exact (Below.refl _ _).alloc (Nat.le_refl _) _
  have BY := Lib.hid hby
  have ry : Y.heap[yb]? = some (.cells #[.slice x0.ae x0.ev.length x0.ce, .slice x0.fr.a x0.fr.l.length x0.fr.c, .slice x0.ao x0.od.length x0.co] 26 (0, 0)) := by rw [hY, hyb]; exact heap_alloc_new _ _
  have HLT := Lib.hid (show yb < Y.heap.size from (Array.getElem?_eq_some_iff.1 ry).1)
  have RY := Lib.hid ry
  have rx : Y.heap[w.heap.size]? = some (.cells (Ev.xcells x0).toArray 26 (0, 0)) := (hby.block _ (Array.getElem?_eq_some_iff.1 R2.out).1).trans R2.out
  have RXY := Lib.hid rx
  have cx : Y.cell? ⟨w.heap.size, 0, none⟩ = some (.slice x0.ae x0.ev.length x0.ce) := by rw [cell_of_row _ _ _ _ _ _ rx]; rfl
  have HXY := Lib.hid (HIN.out.kp (Ev.kp_below (B2.out.trans (hby.mono B2.out.size))))
  have HW20 := Lib.hid (show x0.ev.length ≤ 1000 by have := HW.out trivial; omega)
  clear hY hyb hby ry rx
  go_wp2_with (first
    | ((with_reducible show wpList _ _ _ (Oper.mk (some 19) _ _ _ _ _ :: _) _ _); refine wpList_load_row rfl 26 (.tmp 2) rfl w.heap.size (by kernel_rfl) 26 #[.slice x0.ae x0.ev.length x0.ce, .slice x0.fr.a x0.fr.l.length x0.fr.c, .slice x0.ao x0.od.length x0.co] (0, 0) _ R2.out Tryz.underlying26 rfl (by kernel_rfl) ?_)
    | ((with_reducible show wpList _ _ _ (Oper.mk (some 20) _ _ _ _ _ :: _) _ _); rw [← HY.out, ← HYB.out])
    | ((with_reducible show wpList _ _ _ (Oper.mk (some 22) _ _ _ _ _ :: _) _ _); refine Md.copyEv rfl (.const (.slice none 0 0)) (.tmp 21) rfl Y.heap.size rfl x0.ae x0.ce x0.ev (by kernel_rfl) HXY.out.ev HW20.out (Nat.le_refl _) ?_
       intro a' c' Z hrow hgrow
       have HROW := Lib.hid hrow
       have BZ := Lib.hid (Below.grown (Below.refl Y.heap.size Y) hgrow (Nat.le_refl _) (fun k hk => by cases hk))
       have RZ := Lib.hid ((BZ.out.block _ HLT.out).trans RY.out)
       have cz : Z.cell? ⟨yb, 0, none⟩ = some (.slice x0.ae x0.ev.length x0.ce) := by rw [cell_of_row _ _ _ _ _ _ RZ.out]; rfl
       have fz : Z.frozen? ⟨yb, 0, none⟩ = false := by simp [World.frozen?, RZ.out]
       clear hrow hgrow cx))
  obtain ⟨Y2, hY2⟩ : ∃ Y2, Y2 = Z.setCell ⟨yb, 0, none⟩ (.slice a' x0.ev.length c') := ⟨_, rfl⟩
  have ry2 : Y2.heap[yb]? = some (.cells #[.slice a' x0.ev.length c', .slice x0.fr.a x0.fr.l.length x0.fr.c, .slice x0.ao x0.od.length x0.co] 26 (0, 0)) := by rw [hY2]; exact Md.box_put RZ.out
  have hr2 : Md.EvRow Y2 Y.heap.size a' c' x0.ev := by rw [hY2]; exact Md.EvRow.else HROW.out HLT.out
  have hb2 : Below W2.heap.size W2 Y2 := by rw [hY2]; exact Md.put_below (BY.out.trans (BZ.out.mono BY.out.size)) (by rw [HYB.out]; exact Nat.le_refl _)
  rw [← hY2]
  have RY2 := Lib.hid ry2; have HR2 := Lib.hid hr2; have HB2 := Lib.hid hb2
  clear hY2 ry2 hr2 hb2 HROW BZ RZ cz fz
  obtain ⟨c1, e1⟩ : ∃ c, decide (a1.tmod 2 = 0) = c := ⟨_, rfl⟩
  obtain ⟨c2, e2⟩ : ∃ c, decide (a1.tmod 3 = 0) = c := ⟨_, rfl⟩
  obtain ⟨c3, e3⟩ : ∃ c, decide (a1.tmod 5 = 0) = c := ⟨_, rfl⟩
  have HE1 := Lib.hid e1; have HE2 := Lib.hid e2; have HE3 := Lib.hid e3
  clear e1 e2 e3
  go_loopw [6] (fun i wr => ∃ k : Nat, k ≤ x0.ev.length ∧ i = .int .i64 (k : Int) ∧ Md.EvRow wr Y.heap.size a' c' (Md.cur (Md.less c1 c2 c3) x0.ev k) ∧ wr.heap[yb]? = some (.cells #[.slice a' x0.ev.length c', .slice x0.fr.a x0.fr.l.length x0.fr.c, .slice x0.ao x0.od.length x0.co] 26 (0, 0)) ∧ Below W2.heap.size W2 wr) (fun i _ => x0.ev.length - (intOf i).toNat)
  case atStart => exact ⟨0, Nat.zero_le _, rfl, by rw [Md.cur_zero]; exact HR2.out, RY2.out, HB2.out⟩
  case round =>
    obtain ⟨k, hk, rfl, hrow, hyr, hbr⟩ := hrel
    by_cases hlt : k < x0.ev.length
    · have hki : (k : Int) < (x0.ev.length : Int) := by omega
      obtain ⟨y, hy⟩ : ∃ y, x0.ev[k]? = some y := ⟨_, List.getElem?_eq_getElem hlt⟩
      have hcl := Md.cur_len (Md.less c1 c2 c3) x0.ev hk
      obtain ⟨g, cur, ea, hgb, hgr, hnc, hcm⟩ := Md.EvRow.form hrow (by omega)
      subst ea
      rw [hcl] at hnc
      have HKL := Lib.hid (show k < (Md.cur (Md.less c1 c2 c3) x0.ev k).length by omega)
      have HSET := Lib.hid (Md.cur_set (Md.less c1 c2 c3) hy)
      have E0 := Lib.hid (Md.EvRow.start (Md.cur_at (Md.less c1 c2 c3) hy) hrow)
      have HYR := Lib.hid hyr; have HBR := Lib.hid hbr
      have HGN := Lib.hid (show yb ≠ g by have := HLT.out; omega)
      have HGB := Lib.hid (show W2.heap.size ≤ g by have := HLT.out; have := HYB.out; omega)
      obtain ⟨L, hL⟩ : ∃ L, L = Md.cur (Md.less c1 c2 c3) x0.ev k := ⟨_, rfl⟩
      rw [← hL] at HKL HSET E0
      clear hrow hyr hbr hL hcl hgr hgb hy RY2 HR2 HB2 HXY HY
      cases c1 <;> cases c2 <;> cases c3
      · have cyH : wr.cell? ⟨yb, 0, none⟩ = some (.slice (some ⟨g, 0, none⟩) x0.ev.length c') := by rw [cell_of_row _ _ _ _ _ _ HYR.out]; rfl
        have HF : (Md.less false false false y) = y := by simp [Md.less]
        have HS := HSET.out
        rw [HF] at HS
        have HSS := Lib.hid HS
        clear HS HF HSET
        have h2 := HE1.out; have h3 := HE2.out; have h5 := HE3.out
        simp only [decide_eq_true_eq, decide_eq_false_iff_not] at h2 h3 h5
        go_wp2_with fail
        exact ⟨⟨k + 1, by omega, by go_num, by rw [← HSS.out]; exact E0.out, HYR.out, HBR.out⟩, by simp [intOf]; omega⟩
      · by_cases h4 : y.k = 4
        · have cyH : wr.cell? ⟨yb, 0, none⟩ = some (.slice (some ⟨g, 0, none⟩) x0.ev.length c') := by rw [cell_of_row _ _ _ _ _ _ HYR.out]; rfl
          have cy20 : wr.cell? ⟨yb, 0, none⟩ = some (.slice (some ⟨g, 0, none⟩) x0.ev.length c') := by rw [cell_of_row _ _ _ _ _ _ HYR.out]; rfl
          have ck20 : wr.cell? ⟨g, k * 13 + 1, none⟩ = some (.int .i64 y.k) := Md.EvRow.re_cell HKL.out E0.out rfl
          have cs207 : wr.cell? ⟨g, k * 13 + 7, none⟩ = some (.int .i64 y.p) := Md.EvRow.re_cell HKL.out E0.out rfl
          have fs207 : wr.frozen? ⟨g, k * 13 + 7, none⟩ = false := Md.EvRow.thaw E0.out _
          obtain ⟨A1, hA1⟩ : ∃ W, W = wr.setCell ⟨g, k * 13 + 7, none⟩ (.int .i64 0) := ⟨_, rfl⟩
          have e1 : Md.EvRow A1 Y.heap.size (some ⟨g, 0, none⟩) c' (L.set k { y with p := 0 }) := by rw [hA1]; exact Md.EvRow.re HKL.out E0.out (by decide) rfl
          have r1 : A1.heap[yb]? = some (.cells #[.slice (some ⟨g, 0, none⟩) x0.ev.length c', .slice x0.fr.a x0.fr.l.length x0.fr.c, .slice x0.ao x0.od.length x0.co] 26 (0, 0)) := by rw [hA1]; exact Md.put_else HYR.out HGN.out
          have b1 : Below W2.heap.size W2 A1 := by rw [hA1]; exact Md.put_below HBR.out HGB.out
          have E1 := Lib.hid e1; have Q1 := Lib.hid r1; have D1 := Lib.hid b1; have HA1 := Lib.hid hA1
          clear e1 r1 b1 hA1
          have HF : (Md.less false false true y) = { y with p := 0 } := by simp [Md.less, h4]
          have HS := HSET.out
          rw [HF] at HS
          have HSS := Lib.hid HS
          clear HS HF HSET
          have h2 := HE1.out; have h3 := HE2.out; have h5 := HE3.out
          simp only [decide_eq_true_eq, decide_eq_false_iff_not] at h2 h3 h5
          go_wp2_with fail
          rw [← HA1.out]
          exact ⟨⟨k + 1, by omega, by go_num, by rw [← HSS.out]; exact E1.out, Q1.out, D1.out⟩, by simp [intOf]; omega⟩
        · have cyH : wr.cell? ⟨yb, 0, none⟩ = some (.slice (some ⟨g, 0, none⟩) x0.ev.length c') := by rw [cell_of_row _ _ _ _ _ _ HYR.out]; rfl
          have cy20 : wr.cell? ⟨yb, 0, none⟩ = some (.slice (some ⟨g, 0, none⟩) x0.ev.length c') := by rw [cell_of_row _ _ _ _ _ _ HYR.out]; rfl
          have ck20 : wr.cell? ⟨g, k * 13 + 1, none⟩ = some (.int .i64 y.k) := Md.EvRow.re_cell HKL.out E0.out rfl
          have HF : (Md.less false false true y) = y := by simp [Md.less, h4]
          have HS := HSET.out
          rw [HF] at HS
          have HSS := Lib.hid HS
          clear HS HF HSET
          have h2 := HE1.out; have h3 := HE2.out; have h5 := HE3.out
          simp only [decide_eq_true_eq, decide_eq_false_iff_not] at h2 h3 h5
          go_wp2_with fail
          exact ⟨⟨k + 1, by omega, by go_num, by rw [← HSS.out]; exact E0.out, HYR.out, HBR.out⟩, by simp [intOf]; omega⟩
      · have cyH : wr.cell? ⟨yb, 0, none⟩ = some (.slice (some ⟨g, 0, none⟩) x0.ev.length c') := by rw [cell_of_row _ _ _ _ _ _ HYR.out]; rfl
        have cy10 : wr.cell? ⟨yb, 0, none⟩ = some (.slice (some ⟨g, 0, none⟩) x0.ev.length c') := by rw [cell_of_row _ _ _ _ _ _ HYR.out]; rfl
        have cs106 : wr.cell? ⟨g, k * 13 + 6, none⟩ = some (.bool y.l) := Md.EvRow.re_cell HKL.out E0.out rfl
        have fs106 : wr.frozen? ⟨g, k * 13 + 6, none⟩ = false := Md.EvRow.thaw E0.out _
        obtain ⟨A1, hA1⟩ : ∃ W, W = wr.setCell ⟨g, k * 13 + 6, none⟩ (.bool false) := ⟨_, rfl⟩
        have e1 : Md.EvRow A1 Y.heap.size (some ⟨g, 0, none⟩) c' (L.set k { y with l := false }) := by rw [hA1]; exact Md.EvRow.re HKL.out E0.out (by decide) rfl
        have r1 : A1.heap[yb]? = some (.cells #[.slice (some ⟨g, 0, none⟩) x0.ev.length c', .slice x0.fr.a x0.fr.l.length x0.fr.c, .slice x0.ao x0.od.length x0.co] 26 (0, 0)) := by rw [hA1]; exact Md.put_else HYR.out HGN.out
        have b1 : Below W2.heap.size W2 A1 := by rw [hA1]; exact Md.put_below HBR.out HGB.out
        have E1 := Lib.hid e1; have Q1 := Lib.hid r1; have D1 := Lib.hid b1; have HA1 := Lib.hid hA1
        clear e1 r1 b1 hA1
        have HF : (Md.less false true false y) = { y with l := false } := by simp [Md.less]
        have HS := HSET.out
        rw [HF] at HS
        have HSS := Lib.hid HS
        clear HS HF HSET
        have h2 := HE1.out; have h3 := HE2.out; have h5 := HE3.out
        simp only [decide_eq_true_eq, decide_eq_false_iff_not] at h2 h3 h5
        go_wp2_with fail
        rw [← HA1.out]
        exact ⟨⟨k + 1, by omega, by go_num, by rw [← HSS.out]; exact E1.out, Q1.out, D1.out⟩, by simp [intOf]; omega⟩
      · by_cases h4 : y.k = 4
        · have cyH : wr.cell? ⟨yb, 0, none⟩ = some (.slice (some ⟨g, 0, none⟩) x0.ev.length c') := by rw [cell_of_row _ _ _ _ _ _ HYR.out]; rfl
          have cy10 : wr.cell? ⟨yb, 0, none⟩ = some (.slice (some ⟨g, 0, none⟩) x0.ev.length c') := by rw [cell_of_row _ _ _ _ _ _ HYR.out]; rfl
          have cs106 : wr.cell? ⟨g, k * 13 + 6, none⟩ = some (.bool y.l) := Md.EvRow.re_cell HKL.out E0.out rfl
          have fs106 : wr.frozen? ⟨g, k * 13 + 6, none⟩ = false := Md.EvRow.thaw E0.out _
          obtain ⟨A1, hA1⟩ : ∃ W, W = wr.setCell ⟨g, k * 13 + 6, none⟩ (.bool false) := ⟨_, rfl⟩
          have e1 : Md.EvRow A1 Y.heap.size (some ⟨g, 0, none⟩) c' (L.set k { y with l := false }) := by rw [hA1]; exact Md.EvRow.re HKL.out E0.out (by decide) rfl
          have r1 : A1.heap[yb]? = some (.cells #[.slice (some ⟨g, 0, none⟩) x0.ev.length c', .slice x0.fr.a x0.fr.l.length x0.fr.c, .slice x0.ao x0.od.length x0.co] 26 (0, 0)) := by rw [hA1]; exact Md.put_else HYR.out HGN.out
          have b1 : Below W2.heap.size W2 A1 := by rw [hA1]; exact Md.put_below HBR.out HGB.out
          have E1 := Lib.hid e1; have Q1 := Lib.hid r1; have D1 := Lib.hid b1; have HA1 := Lib.hid hA1
          clear e1 r1 b1 hA1
          have cy21 : A1.cell? ⟨yb, 0, none⟩ = some (.slice (some ⟨g, 0, none⟩) x0.ev.length c') := by rw [cell_of_row _ _ _ _ _ _ Q1.out]; rfl
          have ck21 : A1.cell? ⟨g, k * 13 + 1, none⟩ = some (.int .i64 y.k) := Md.EvRow.re_cell HKL.out E1.out rfl
          have cs217 : A1.cell? ⟨g, k * 13 + 7, none⟩ = some (.int .i64 y.p) := Md.EvRow.re_cell HKL.out E1.out rfl
          have fs217 : A1.frozen? ⟨g, k * 13 + 7, none⟩ = false := Md.EvRow.thaw E1.out _
          obtain ⟨A2, hA2⟩ : ∃ W, W = A1.setCell ⟨g, k * 13 + 7, none⟩ (.int .i64 0) := ⟨_, rfl⟩
          have e2 : Md.EvRow A2 Y.heap.size (some ⟨g, 0, none⟩) c' (L.set k { y with l := false, p := 0 }) := by rw [hA2]; exact Md.EvRow.re HKL.out E1.out (by decide) rfl
          have r2 : A2.heap[yb]? = some (.cells #[.slice (some ⟨g, 0, none⟩) x0.ev.length c', .slice x0.fr.a x0.fr.l.length x0.fr.c, .slice x0.ao x0.od.length x0.co] 26 (0, 0)) := by rw [hA2]; exact Md.put_else Q1.out HGN.out
          have b2 : Below W2.heap.size W2 A2 := by rw [hA2]; exact Md.put_below D1.out HGB.out
          have E2 := Lib.hid e2; have Q2 := Lib.hid r2; have D2 := Lib.hid b2; have HA2 := Lib.hid hA2
          clear e2 r2 b2 hA2
          have HF : (Md.less false true true y) = { y with l := false, p := 0 } := by simp [Md.less, h4]
          have HS := HSET.out
          rw [HF] at HS
          have HSS := Lib.hid HS
          clear HS HF HSET
          have h2 := HE1.out; have h3 := HE2.out; have h5 := HE3.out
          simp only [decide_eq_true_eq, decide_eq_false_iff_not] at h2 h3 h5
          go_wp2_with (first
            | ((with_reducible show wpList _ _ _ (Oper.mk (some 51) _ _ _ _ _ :: _) _ _); rw [← HA1.out]))
          rw [← HA2.out]
          exact ⟨⟨k + 1, by omega, by go_num, by rw [← HSS.out]; exact E2.out, Q2.out, D2.out⟩, by simp [intOf]; omega⟩
        · have cyH : wr.cell? ⟨yb, 0, none⟩ = some (.slice (some ⟨g, 0, none⟩) x0.ev.length c') := by rw [cell_of_row _ _ _ _ _ _ HYR.out]; rfl
          have cy10 : wr.cell? ⟨yb, 0, none⟩ = some (.slice (some ⟨g, 0, none⟩) x0.ev.length c') := by rw [cell_of_row _ _ _ _ _ _ HYR.out]; rfl
          have cs106 : wr.cell? ⟨g, k * 13 + 6, none⟩ = some (.bool y.l) := Md.EvRow.re_cell HKL.out E0.out rfl
          have fs106 : wr.frozen? ⟨g, k * 13 + 6, none⟩ = false := Md.EvRow.thaw E0.out _
          obtain ⟨A1, hA1⟩ : ∃ W, W = wr.setCell ⟨g, k * 13 + 6, none⟩ (.bool false) := ⟨_, rfl⟩
          have e1 : Md.EvRow A1 Y.heap.size (some ⟨g, 0, none⟩) c' (L.set k { y with l := false }) := by rw [hA1]; exact Md.EvRow.re HKL.out E0.out (by decide) rfl
          have r1 : A1.heap[yb]? = some (.cells #[.slice (some ⟨g, 0, none⟩) x0.ev.length c', .slice x0.fr.a x0.fr.l.length x0.fr.c, .slice x0.ao x0.od.length x0.co] 26 (0, 0)) := by rw [hA1]; exact Md.put_else HYR.out HGN.out
          have b1 : Below W2.heap.size W2 A1 := by rw [hA1]; exact Md.put_below HBR.out HGB.out
          have E1 := Lib.hid e1; have Q1 := Lib.hid r1; have D1 := Lib.hid b1; have HA1 := Lib.hid hA1
          clear e1 r1 b1 hA1
          have cy21 : A1.cell? ⟨yb, 0, none⟩ = some (.slice (some ⟨g, 0, none⟩) x0.ev.length c') := by rw [cell_of_row _ _ _ _ _ _ Q1.out]; rfl
          have ck21 : A1.cell? ⟨g, k * 13 + 1, none⟩ = some (.int .i64 y.k) := Md.EvRow.re_cell HKL.out E1.out rfl
          have HF : (Md.less false true true y) = { y with l := false } := by simp [Md.less, h4]
          have HS := HSET.out
          rw [HF] at HS
          have HSS := Lib.hid HS
          clear HS HF HSET
          have h2 := HE1.out; have h3 := HE2.out; have h5 := HE3.out
          simp only [decide_eq_true_eq, decide_eq_false_iff_not] at h2 h3 h5
          go_wp2_with (first
            | ((with_reducible show wpList _ _ _ (Oper.mk (some 51) _ _ _ _ _ :: _) _ _); rw [← HA1.out]))
          exact ⟨⟨k + 1, by omega, by go_num, by rw [← HSS.out]; exact E1.out, Q1.out, D1.out⟩, by simp [intOf]; omega⟩
      · have cyH : wr.cell? ⟨yb, 0, none⟩ = some (.slice (some ⟨g, 0, none⟩) x0.ev.length c') := by rw [cell_of_row _ _ _ _ _ _ HYR.out]; rfl
        have cy0 : wr.cell? ⟨yb, 0, none⟩ = some (.slice (some ⟨g, 0, none⟩) x0.ev.length c') := by rw [cell_of_row _ _ _ _ _ _ HYR.out]; rfl
        have cs05 : wr.cell? ⟨g, k * 13 + 5, none⟩ = some (.bool y.q) := Md.EvRow.re_cell HKL.out E0.out rfl
        have fs05 : wr.frozen? ⟨g, k * 13 + 5, none⟩ = false := Md.EvRow.thaw E0.out _
        obtain ⟨A1, hA1⟩ : ∃ W, W = wr.setCell ⟨g, k * 13 + 5, none⟩ (.bool false) := ⟨_, rfl⟩
        have e1 : Md.EvRow A1 Y.heap.size (some ⟨g, 0, none⟩) c' (L.set k { y with q := false }) := by rw [hA1]; exact Md.EvRow.re HKL.out E0.out (by decide) rfl
        have r1 : A1.heap[yb]? = some (.cells #[.slice (some ⟨g, 0, none⟩) x0.ev.length c', .slice x0.fr.a x0.fr.l.length x0.fr.c, .slice x0.ao x0.od.length x0.co] 26 (0, 0)) := by rw [hA1]; exact Md.put_else HYR.out HGN.out
        have b1 : Below W2.heap.size W2 A1 := by rw [hA1]; exact Md.put_below HBR.out HGB.out
        have E1 := Lib.hid e1; have Q1 := Lib.hid r1; have D1 := Lib.hid b1; have HA1 := Lib.hid hA1
        clear e1 r1 b1 hA1
        have HF : (Md.less true false false y) = { y with q := false } := by simp [Md.less]
        have HS := HSET.out
        rw [HF] at HS
        have HSS := Lib.hid HS
        clear HS HF HSET
        have h2 := HE1.out; have h3 := HE2.out; have h5 := HE3.out
        simp only [decide_eq_true_eq, decide_eq_false_iff_not] at h2 h3 h5
        go_wp2_with fail
        rw [← HA1.out]
        exact ⟨⟨k + 1, by omega, by go_num, by rw [← HSS.out]; exact E1.out, Q1.out, D1.out⟩, by simp [intOf]; omega⟩
      · by_cases h4 : y.k = 4
        · have cyH : wr.cell? ⟨yb, 0, none⟩ = some (.slice (some ⟨g, 0, none⟩) x0.ev.length c') := by rw [cell_of_row _ _ _ _ _ _ HYR.out]; rfl
          have cy0 : wr.cell? ⟨yb, 0, none⟩ = some (.slice (some ⟨g, 0, none⟩) x0.ev.length c') := by rw [cell_of_row _ _ _ _ _ _ HYR.out]; rfl
          have cs05 : wr.cell? ⟨g, k * 13 + 5, none⟩ = some (.bool y.q) := Md.EvRow.re_cell HKL.out E0.out rfl
          have fs05 : wr.frozen? ⟨g, k * 13 + 5, none⟩ = false := Md.EvRow.thaw E0.out _
          obtain ⟨A1, hA1⟩ : ∃ W, W = wr.setCell ⟨g, k * 13 + 5, none⟩ (.bool false) := ⟨_, rfl⟩
          have e1 : Md.EvRow A1 Y.heap.size (some ⟨g, 0, none⟩) c' (L.set k { y with q := false }) := by rw [hA1]; exact Md.EvRow.re HKL.out E0.out (by decide) rfl
          have r1 : A1.heap[yb]? = some (.cells #[.slice (some ⟨g, 0, none⟩) x0.ev.length c', .slice x0.fr.a x0.fr.l.length x0.fr.c, .slice x0.ao x0.od.length x0.co] 26 (0, 0)) := by rw [hA1]; exact Md.put_else HYR.out HGN.out
          have b1 : Below W2.heap.size W2 A1 := by rw [hA1]; exact Md.put_below HBR.out HGB.out
          have E1 := Lib.hid e1; have Q1 := Lib.hid r1; have D1 := Lib.hid b1; have HA1 := Lib.hid hA1
          clear e1 r1 b1 hA1
          have cy21 : A1.cell? ⟨yb, 0, none⟩ = some (.slice (some ⟨g, 0, none⟩) x0.ev.length c') := by rw [cell_of_row _ _ _ _ _ _ Q1.out]; rfl
          have ck21 : A1.cell? ⟨g, k * 13 + 1, none⟩ = some (.int .i64 y.k) := Md.EvRow.re_cell HKL.out E1.out rfl
          have cs217 : A1.cell? ⟨g, k * 13 + 7, none⟩ = some (.int .i64 y.p) := Md.EvRow.re_cell HKL.out E1.out rfl
          have fs217 : A1.frozen? ⟨g, k * 13 + 7, none⟩ = false := Md.EvRow.thaw E1.out _
          obtain ⟨A2, hA2⟩ : ∃ W, W = A1.setCell ⟨g, k * 13 + 7, none⟩ (.int .i64 0) := ⟨_, rfl⟩
          have e2 : Md.EvRow A2 Y.heap.size (some ⟨g, 0, none⟩) c' (L.set k { y with q := false, p := 0 }) := by rw [hA2]; exact Md.EvRow.re HKL.out E1.out (by decide) rfl
          have r2 : A2.heap[yb]? = some (.cells #[.slice (some ⟨g, 0, none⟩) x0.ev.length c', .slice x0.fr.a x0.fr.l.length x0.fr.c, .slice x0.ao x0.od.length x0.co] 26 (0, 0)) := by rw [hA2]; exact Md.put_else Q1.out HGN.out
          have b2 : Below W2.heap.size W2 A2 := by rw [hA2]; exact Md.put_below D1.out HGB.out
          have E2 := Lib.hid e2; have Q2 := Lib.hid r2; have D2 := Lib.hid b2; have HA2 := Lib.hid hA2
          clear e2 r2 b2 hA2
          have HF : (Md.less true false true y) = { y with q := false, p := 0 } := by simp [Md.less, h4]
          have HS := HSET.out
          rw [HF] at HS
          have HSS := Lib.hid HS
          clear HS HF HSET
          have h2 := HE1.out; have h3 := HE2.out; have h5 := HE3.out
          simp only [decide_eq_true_eq, decide_eq_false_iff_not] at h2 h3 h5
          go_wp2_with (first
            | ((with_reducible show wpList _ _ _ (Oper.mk (some 51) _ _ _ _ _ :: _) _ _); rw [← HA1.out]))
          rw [← HA2.out]
          exact ⟨⟨k + 1, by omega, by go_num, by rw [← HSS.out]; exact E2.out, Q2.out, D2.out⟩, by simp [intOf]; omega⟩
        · have cyH : wr.cell? ⟨yb, 0, none⟩ = some (.slice (some ⟨g, 0, none⟩) x0.ev.length c') := by rw [cell_of_row _ _ _ _ _ _ HYR.out]; rfl
          have cy0 : wr.cell? ⟨yb, 0, none⟩ = some (.slice (some ⟨g, 0, none⟩) x0.ev.length c') := by rw [cell_of_row _ _ _ _ _ _ HYR.out]; rfl
          have cs05 : wr.cell? ⟨g, k * 13 + 5, none⟩ = some (.bool y.q) := Md.EvRow.re_cell HKL.out E0.out rfl
          have fs05 : wr.frozen? ⟨g, k * 13 + 5, none⟩ = false := Md.EvRow.thaw E0.out _
          obtain ⟨A1, hA1⟩ : ∃ W, W = wr.setCell ⟨g, k * 13 + 5, none⟩ (.bool false) := ⟨_, rfl⟩
          have e1 : Md.EvRow A1 Y.heap.size (some ⟨g, 0, none⟩) c' (L.set k { y with q := false }) := by rw [hA1]; exact Md.EvRow.re HKL.out E0.out (by decide) rfl
          have r1 : A1.heap[yb]? = some (.cells #[.slice (some ⟨g, 0, none⟩) x0.ev.length c', .slice x0.fr.a x0.fr.l.length x0.fr.c, .slice x0.ao x0.od.length x0.co] 26 (0, 0)) := by rw [hA1]; exact Md.put_else HYR.out HGN.out
          have b1 : Below W2.heap.size W2 A1 := by rw [hA1]; exact Md.put_below HBR.out HGB.out
          have E1 := Lib.hid e1; have Q1 := Lib.hid r1; have D1 := Lib.hid b1; have HA1 := Lib.hid hA1
          clear e1 r1 b1 hA1
          have cy21 : A1.cell? ⟨yb, 0, none⟩ = some (.slice (some ⟨g, 0, none⟩) x0.ev.length c') := by rw [cell_of_row _ _ _ _ _ _ Q1.out]; rfl
          have ck21 : A1.cell? ⟨g, k * 13 + 1, none⟩ = some (.int .i64 y.k) := Md.EvRow.re_cell HKL.out E1.out rfl
          have HF : (Md.less true false true y) = { y with q := false } := by simp [Md.less, h4]
          have HS := HSET.out
          rw [HF] at HS
          have HSS := Lib.hid HS
          clear HS HF HSET
          have h2 := HE1.out; have h3 := HE2.out; have h5 := HE3.out
          simp only [decide_eq_true_eq, decide_eq_false_iff_not] at h2 h3 h5
          go_wp2_with (first
            | ((with_reducible show wpList _ _ _ (Oper.mk (some 51) _ _ _ _ _ :: _) _ _); rw [← HA1.out]))
          exact ⟨⟨k + 1, by omega, by go_num, by rw [← HSS.out]; exact E1.out, Q1.out, D1.out⟩, by simp [intOf]; omega⟩
      · have cyH : wr.cell? ⟨yb, 0, none⟩ = some (.slice (some ⟨g, 0, none⟩) x0.ev.length c') := by rw [cell_of_row _ _ _ _ _ _ HYR.out]; rfl
        have cy0 : wr.cell? ⟨yb, 0, none⟩ = some (.slice (some ⟨g, 0, none⟩) x0.ev.length c') := by rw [cell_of_row _ _ _ _ _ _ HYR.out]; rfl
        have cs05 : wr.cell? ⟨g, k * 13 + 5, none⟩ = some (.bool y.q) := Md.EvRow.re_cell HKL.out E0.out rfl
        have fs05 : wr.frozen? ⟨g, k * 13 + 5, none⟩ = false := Md.EvRow.thaw E0.out _
        obtain ⟨A1, hA1⟩ : ∃ W, W = wr.setCell ⟨g, k * 13 + 5, none⟩ (.bool false) := ⟨_, rfl⟩
        have e1 : Md.EvRow A1 Y.heap.size (some ⟨g, 0, none⟩) c' (L.set k { y with q := false }) := by rw [hA1]; exact Md.EvRow.re HKL.out E0.out (by decide) rfl
        have r1 : A1.heap[yb]? = some (.cells #[.slice (some ⟨g, 0, none⟩) x0.ev.length c', .slice x0.fr.a x0.fr.l.length x0.fr.c, .slice x0.ao x0.od.length x0.co] 26 (0, 0)) := by rw [hA1]; exact Md.put_else HYR.out HGN.out
        have b1 : Below W2.heap.size W2 A1 := by rw [hA1]; exact Md.put_below HBR.out HGB.out
        have E1 := Lib.hid e1; have Q1 := Lib.hid r1; have D1 := Lib.hid b1; have HA1 := Lib.hid hA1
        clear e1 r1 b1 hA1
        have cy11 : A1.cell? ⟨yb, 0, none⟩ = some (.slice (some ⟨g, 0, none⟩) x0.ev.length c') := by rw [cell_of_row _ _ _ _ _ _ Q1.out]; rfl
        have cs116 : A1.cell? ⟨g, k * 13 + 6, none⟩ = some (.bool y.l) := Md.EvRow.re_cell HKL.out E1.out rfl
        have fs116 : A1.frozen? ⟨g, k * 13 + 6, none⟩ = false := Md.EvRow.thaw E1.out _
        obtain ⟨A2, hA2⟩ : ∃ W, W = A1.setCell ⟨g, k * 13 + 6, none⟩ (.bool false) := ⟨_, rfl⟩
        have e2 : Md.EvRow A2 Y.heap.size (some ⟨g, 0, none⟩) c' (L.set k { y with q := false, l := false }) := by rw [hA2]; exact Md.EvRow.re HKL.out E1.out (by decide) rfl
        have r2 : A2.heap[yb]? = some (.cells #[.slice (some ⟨g, 0, none⟩) x0.ev.length c', .slice x0.fr.a x0.fr.l.length x0.fr.c, .slice x0.ao x0.od.length x0.co] 26 (0, 0)) := by rw [hA2]; exact Md.put_else Q1.out HGN.out
        have b2 : Below W2.heap.size W2 A2 := by rw [hA2]; exact Md.put_below D1.out HGB.out
        have E2 := Lib.hid e2; have Q2 := Lib.hid r2; have D2 := Lib.hid b2; have HA2 := Lib.hid hA2
        clear e2 r2 b2 hA2
        have HF : (Md.less true true false y) = { y with q := false, l := false } := by simp [Md.less]
        have HS := HSET.out
        rw [HF] at HS
        have HSS := Lib.hid HS
        clear HS HF HSET
        have h2 := HE1.out; have h3 := HE2.out; have h5 := HE3.out
        simp only [decide_eq_true_eq, decide_eq_false_iff_not] at h2 h3 h5
        go_wp2_with (first
          | ((with_reducible show wpList _ _ _ (Oper.mk (some 42) _ _ _ _ _ :: _) _ _); rw [← HA1.out]))
        rw [← HA2.out]
        exact ⟨⟨k + 1, by omega, by go_num, by rw [← HSS.out]; exact E2.out, Q2.out, D2.out⟩, by simp [intOf]; omega⟩
      · by_cases h4 : y.k = 4
        · have cyH : wr.cell? ⟨yb, 0, none⟩ = some (.slice (some ⟨g, 0, none⟩) x0.ev.length c') := by rw [cell_of_row _ _ _ _ _ _ HYR.out]; rfl
          have cy0 : wr.cell? ⟨yb, 0, none⟩ = some (.slice (some ⟨g, 0, none⟩) x0.ev.length c') := by rw [cell_of_row _ _ _ _ _ _ HYR.out]; rfl
          have cs05 : wr.cell? ⟨g, k * 13 + 5, none⟩ = some (.bool y.q) := Md.EvRow.re_cell HKL.out E0.out rfl
          have fs05 : wr.frozen? ⟨g, k * 13 + 5, none⟩ = false := Md.EvRow.thaw E0.out _
          obtain ⟨A1, hA1⟩ : ∃ W, W = wr.setCell ⟨g, k * 13 + 5, none⟩ (.bool false) := ⟨_, rfl⟩
          have e1 : Md.EvRow A1 Y.heap.size (some ⟨g, 0, none⟩) c' (L.set k { y with q := false }) := by rw [hA1]; exact Md.EvRow.re HKL.out E0.out (by decide) rfl
          have r1 : A1.heap[yb]? = some (.cells #[.slice (some ⟨g, 0, none⟩) x0.ev.length c', .slice x0.fr.a x0.fr.l.length x0.fr.c, .slice x0.ao x0.od.length x0.co] 26 (0, 0)) := by rw [hA1]; exact Md.put_else HYR.out HGN.out
          have b1 : Below W2.heap.size W2 A1 := by rw [hA1]; exact Md.put_below HBR.out HGB.out
          have E1 := Lib.hid e1; have Q1 := Lib.hid r1; have D1 := Lib.hid b1; have HA1 := Lib.hid hA1
          clear e1 r1 b1 hA1
          have cy11 : A1.cell? ⟨yb, 0, none⟩ = some (.slice (some ⟨g, 0, none⟩) x0.ev.length c') := by rw [cell_of_row _ _ _ _ _ _ Q1.out]; rfl
          have cs116 : A1.cell? ⟨g, k * 13 + 6, none⟩ = some (.bool y.l) := Md.EvRow.re_cell HKL.out E1.out rfl
          have fs116 : A1.frozen? ⟨g, k * 13 + 6, none⟩ = false := Md.EvRow.thaw E1.out _
          obtain ⟨A2, hA2⟩ : ∃ W, W = A1.setCell ⟨g, k * 13 + 6, none⟩ (.bool false) := ⟨_, rfl⟩
          have e2 : Md.EvRow A2 Y.heap.size (some ⟨g, 0, none⟩) c' (L.set k { y with q := false, l := false }) := by rw [hA2]; exact Md.EvRow.re HKL.out E1.out (by decide) rfl
          have r2 : A2.heap[yb]? = some (.cells #[.slice (some ⟨g, 0, none⟩) x0.ev.length c', .slice x0.fr.a x0.fr.l.length x0.fr.c, .slice x0.ao x0.od.length x0.co] 26 (0, 0)) := by rw [hA2]; exact Md.put_else Q1.out HGN.out
          have b2 : Below W2.heap.size W2 A2 := by rw [hA2]; exact Md.put_below D1.out HGB.out
          have E2 := Lib.hid e2; have Q2 := Lib.hid r2; have D2 := Lib.hid b2; have HA2 := Lib.hid hA2
          clear e2 r2 b2 hA2
          have cy22 : A2.cell? ⟨yb, 0, none⟩ = some (.slice (some ⟨g, 0, none⟩) x0.ev.length c') := by rw [cell_of_row _ _ _ _ _ _ Q2.out]; rfl
          have ck22 : A2.cell? ⟨g, k * 13 + 1, none⟩ = some (.int .i64 y.k) := Md.EvRow.re_cell HKL.out E2.out rfl
          have cs227 : A2.cell? ⟨g, k * 13 + 7, none⟩ = some (.int .i64 y.p) := Md.EvRow.re_cell HKL.out E2.out rfl
          have fs227 : A2.frozen? ⟨g, k * 13 + 7, none⟩ = false := Md.EvRow.thaw E2.out _
          obtain ⟨A3, hA3⟩ : ∃ W, W = A2.setCell ⟨g, k * 13 + 7, none⟩ (.int .i64 0) := ⟨_, rfl⟩
          have e3 : Md.EvRow A3 Y.heap.size (some ⟨g, 0, none⟩) c' (L.set k { y with q := false, l := false, p := 0 }) := by rw [hA3]; exact Md.EvRow.re HKL.out E2.out (by decide) rfl
          have r3 : A3.heap[yb]? = some (.cells #[.slice (some ⟨g, 0, none⟩) x0.ev.length c', .slice x0.fr.a x0.fr.l.length x0.fr.c, .slice x0.ao x0.od.length x0.co] 26 (0, 0)) := by rw [hA3]; exact Md.put_else Q2.out HGN.out
          have b3 : Below W2.heap.size W2 A3 := by rw [hA3]; exact Md.put_below D2.out HGB.out
          have E3 := Lib.hid e3; have Q3 := Lib.hid r3; have D3 := Lib.hid b3; have HA3 := Lib.hid hA3
          clear e3 r3 b3 hA3
          have HF : (Md.less true true true y) = { y with q := false, l := false, p := 0 } := by simp [Md.less, h4]
          have HS := HSET.out
          rw [HF] at HS
          have HSS := Lib.hid HS
          clear HS HF HSET
          have h2 := HE1.out; have h3 := HE2.out; have h5 := HE3.out
          simp only [decide_eq_true_eq, decide_eq_false_iff_not] at h2 h3 h5
          go_wp2_with (first
            | ((with_reducible show wpList _ _ _ (Oper.mk (some 42) _ _ _ _ _ :: _) _ _); rw [← HA1.out])
            | ((with_reducible show wpList _ _ _ (Oper.mk (some 51) _ _ _ _ _ :: _) _ _); rw [← HA2.out]))
          rw [← HA3.out]
          exact ⟨⟨k + 1, by omega, by go_num, by rw [← HSS.out]; exact E3.out, Q3.out, D3.out⟩, by simp [intOf]; omega⟩
        · have cyH : wr.cell? ⟨yb, 0, none⟩ = some (.slice (some ⟨g, 0, none⟩) x0.ev.length c') := by rw [cell_of_row _ _ _ _ _ _ HYR.out]; rfl
          have cy0 : wr.cell? ⟨yb, 0, none⟩ = some (.slice (some ⟨g, 0, none⟩) x0.ev.length c') := by rw [cell_of_row _ _ _ _ _ _ HYR.out]; rfl
          have cs05 : wr.cell? ⟨g, k * 13 + 5, none⟩ = some (.bool y.q) := Md.EvRow.re_cell HKL.out E0.out rfl
          have fs05 : wr.frozen? ⟨g, k * 13 + 5, none⟩ = false := Md.EvRow.thaw E0.out _
          obtain ⟨A1, hA1⟩ : ∃ W, W = wr.setCell ⟨g, k * 13 + 5, none⟩ (.bool false) := ⟨_, rfl⟩
          have e1 : Md.EvRow A1 Y.heap.size (some ⟨g, 0, none⟩) c' (L.set k { y with q := false }) := by rw [hA1]; exact Md.EvRow.re HKL.out E0.out (by decide) rfl
          have r1 : A1.heap[yb]? = some (.cells #[.slice (some ⟨g, 0, none⟩) x0.ev.length c', .slice x0.fr.a x0.fr.l.length x0.fr.c, .slice x0.ao x0.od.length x0.co] 26 (0, 0)) := by rw [hA1]; exact Md.put_else HYR.out HGN.out
          have b1 : Below W2.heap.size W2 A1 := by rw [hA1]; exact Md.put_below HBR.out HGB.out
          have E1 := Lib.hid e1; have Q1 := Lib.hid r1; have D1 := Lib.hid b1; have HA1 := Lib.hid hA1
          clear e1 r1 b1 hA1
          have cy11 : A1.cell? ⟨yb, 0, none⟩ = some (.slice (some ⟨g, 0, none⟩) x0.ev.length c') := by rw [cell_of_row _ _ _ _ _ _ Q1.out]; rfl
          have cs116 : A1.cell? ⟨g, k * 13 + 6, none⟩ = some (.bool y.l) := Md.EvRow.re_cell HKL.out E1.out rfl
          have fs116 : A1.frozen? ⟨g, k * 13 + 6, none⟩ = false := Md.EvRow.thaw E1.out _
          obtain ⟨A2, hA2⟩ : ∃ W, W = A1.setCell ⟨g, k * 13 + 6, none⟩ (.bool false) := ⟨_, rfl⟩
          have e2 : Md.EvRow A2 Y.heap.size (some ⟨g, 0, none⟩) c' (L.set k { y with q := false, l := false }) := by rw [hA2]; exact Md.EvRow.re HKL.out E1.out (by decide) rfl
          have r2 : A2.heap[yb]? = some (.cells #[.slice (some ⟨g, 0, none⟩) x0.ev.length c', .slice x0.fr.a x0.fr.l.length x0.fr.c, .slice x0.ao x0.od.length x0.co] 26 (0, 0)) := by rw [hA2]; exact Md.put_else Q1.out HGN.out
          have b2 : Below W2.heap.size W2 A2 := by rw [hA2]; exact Md.put_below D1.out HGB.out
          have E2 := Lib.hid e2; have Q2 := Lib.hid r2; have D2 := Lib.hid b2; have HA2 := Lib.hid hA2
          clear e2 r2 b2 hA2
          have cy22 : A2.cell? ⟨yb, 0, none⟩ = some (.slice (some ⟨g, 0, none⟩) x0.ev.length c') := by rw [cell_of_row _ _ _ _ _ _ Q2.out]; rfl
          have ck22 : A2.cell? ⟨g, k * 13 + 1, none⟩ = some (.int .i64 y.k) := Md.EvRow.re_cell HKL.out E2.out rfl
          have HF : (Md.less true true true y) = { y with q := false, l := false } := by simp [Md.less, h4]
          have HS := HSET.out
          rw [HF] at HS
          have HSS := Lib.hid HS
          clear HS HF HSET
          have h2 := HE1.out; have h3 := HE2.out; have h5 := HE3.out
          simp only [decide_eq_true_eq, decide_eq_false_iff_not] at h2 h3 h5
          go_wp2_with (first
            | ((with_reducible show wpList _ _ _ (Oper.mk (some 42) _ _ _ _ _ :: _) _ _); rw [← HA1.out])
            | ((with_reducible show wpList _ _ _ (Oper.mk (some 51) _ _ _ _ _ :: _) _ _); rw [← HA2.out]))
          exact ⟨⟨k + 1, by omega, by go_num, by rw [← HSS.out]; exact E2.out, Q2.out, D2.out⟩, by simp [intOf]; omega⟩
    · have hke : k = x0.ev.length := by omega
      have hki : ¬ (k : Int) < (x0.ev.length : Int) := by omega
      rw [hke, Md.cur_all] at hrow
      have BR := Lib.hid (B2.out.trans (hbr.mono B2.out.size))
      have RXr := Lib.hid ((hbr.block _ (Array.getElem?_eq_some_iff.1 R2.out).1).trans R2.out)
      have HXL := Lib.hid (Md.lessX_in (HIN.out.kp (Ev.kp_below BR.out)) hrow)
      have HYR := Lib.hid hyr
      have cy : wr.cell? ⟨yb, 0, none⟩ = some (.slice a' x0.ev.length c') := by rw [cell_of_row _ _ _ _ _ _ HYR.out]; rfl
      clear hrow hyr hbr hke RY2 HR2 HB2 HXY HY
      go_wp2_with ((with_reducible show wpList _ _ _ (Oper.mk (some 65) _ _ _ _ _ :: _) _ _); refine wpList_load_row rfl 26 (.tmp 2) rfl w.heap.size (by kernel_rfl) 26 (Ev.xcells x0).toArray (0, 0) _ RXr.out Tryz.underlying26 rfl (by kernel_rfl) ?_)
      refine (allowed_any x0 _ (HIN.out.kp (Ev.kp_below BR.out))).mono ?_
      rintro e W5 ⟨hb, (⟨hc, _⟩ | ⟨_, b1, rfl, k1⟩)⟩
      case inl => exact absurd HC.out hc
      have B5 := Lib.hid (BR.out.trans (hb.mono BR.out.size))
      have YR5 := Lib.hid ((hb.block _ (Array.getElem?_eq_some_iff.1 HYR.out).1).trans HYR.out)
      have XL5 := Lib.hid (HXL.out.kp (Ev.kp_below hb))
      have K1 := Lib.hid k1
      clear hb k1 cy
      go_wp2_with ((with_reducible show wpList _ _ _ (Oper.mk (some 70) _ _ _ _ _ :: _) _ _); refine wpList_load_row rfl 26 (.tmp 5) rfl yb (by kernel_rfl) 26 #[.slice a' x0.ev.length c', .slice x0.fr.a x0.fr.l.length x0.fr.c, .slice x0.ao x0.od.length x0.co] (0, 0) _ YR5.out Tryz.underlying26 rfl (by kernel_rfl) ?_)
      refine (allowed_less x0 a' c' HC.out _ XL5.out).mono ?_
      rintro e W6 ⟨hb, b2, rfl, k2⟩
      have B6 := Lib.hid (B5.out.trans (hb.mono B5.out.size))
      have HIMP := Lib.hid (show b1 = true → b2 = true from Md.less_imp HC.out K1.out k2)
      clear hb k2
      cases b1
      case true =>
        obtain rfl : b2 = true := HIMP.out rfl
        go_wp2_with fail
        refine (known8_any _).mono ?_
        rintro e W99 ⟨rfl, hb99⟩
        have HEND := Lib.hid (B6.out.trans (hb99.mono B6.out.size)); clear hb99
        go_wp2_with fail
        go_ret
        exact ⟨rfl, HEND.out⟩
      cases b2
      all_goals
        go_wp2_with fail
        refine (known8_any _).mono ?_
        rintro e W99 ⟨rfl, hb99⟩
        have HEND := Lib.hid (B6.out.trans (hb99.mono B6.out.size)); clear hb99
        go_wp2_with fail
        go_ret
        exact ⟨rfl, HEND.out⟩
set_option maxRecDepth 100000 in
theorem lifted (os : Os) (started : os.Started) (H : Type) (enc : TypeId × Value → H) :
    ReturnsInHanded {} Tryz.checked os 7 .any (Rows.modelLessSpec.pre6 enc Tryz.prog Tryz.f7 Rows.modelLessRow.domain false) (Rows.modelLessSpec.post enc Tryz.prog Tryz.f7 false true false false) := by
  refine returnsInHanded_of_change (C := Tryz.checked) own started (by kernel_rfl) Tryz.func7
    (ChangeSpec.witness6 (enc := enc) (C := Tryz.checked) false ⟨#[], #[.agg #[.slice none 0 0, .slice none 0 0, .slice none 0 0], .int .i64 0], []⟩ 8 (by kernel_rfl) (by kernel_rfl) (by kernel_rfl) (by kernel_rfl)) ?_
  intro W base args ds gs before hval0 hW hcnd _
  have hval : ∀ (j : Nat) t v, Tryz.f7.params[j]? = some t → args[j]? = some v → Value.okWide Tryz.prog W .any base t v := hval0
  have hW' := hW
  obtain ⟨p, q, hA0, hV, rfl, hfz, hnd⟩ := hW
  have hA : DataW.TrodAll enc Tryz.prog W 0 (fun _ => true) true Tryz.f7.params.toList args.toList ds p := hA0
  rw [Tryz.params7] at hA hval
  obtain ⟨v0, vs0, d0, ds0, p0, q0, hargs, rfl, rfl, h0, r0⟩ := trodAll_cons hA
  obtain ⟨v1, vs1, d1, ds1, p1, q1, rfl, rfl, rfl, h1, r1⟩ := trodAll_cons r0
  obtain ⟨rfl, rfl, rfl⟩ := trodAll_nil r1
  obtain rfl : args = #[v0, v1] := by cases args; simp_all
  obtain ⟨rfl, rfl⟩ := trodVars_none hV
  clear hA0 hval0
  simp only [List.append_nil] at hW'
  have hlt : ∀ x ∈ p0 ++ (p1), x.block < W.heap.size := fun x hx => by simpa using hW'.lt x (by simpa using hx)
  obtain ⟨x0, rfl, b0⟩ := open_exec (hval 0 26 v0 rfl rfl) h0
  have h1k := h1
  obtain ⟨a1, rfl, rfl, rfl, w1⟩ := open_int Tryz.underlying3 (hval 1 3 v1 rfl rfl) h1
  refine (walk W x0 b0 a1 w1).mono fun e W' ⟨he, hb⟩ => ?_
  subst he
  have harg0 : DataW.Trod enc Tryz.prog W' 0 (fun b => decide (b < W.heap.size)) true 26 _ _ _ := Below.trod laidOut (by kernel_rfl) (of_decide_eq_true (by kernel_rfl)) h0 hb (fun x hx => hlt x (by simp [hx]))
  have harg1 : DataW.Trod enc Tryz.prog W' 0 (fun b => decide (b < W.heap.size)) true 3 _ _ _ := Below.trod laidOut (by kernel_rfl) (of_decide_eq_true (by kernel_rfl)) h1k hb (fun x hx => by cases hx)
  exact ⟨_, rfl, _, _, _, [], _, [], hW', trodAll_mk1 (shut_bool Tryz.underlying4 _), (trodAll_cons_mk harg0 (trodAll_cons_mk harg1 trodAll_mk0)), rfl, hb.frame _, fun h => by cases h⟩
theorem over : Rows.modelLessRow.holds Tryz.pinned (OpenSpec.ofChange Rows.modelLessSpec) :=
  OpenClaim.holds_of_wide 7 Tryz.f7 rfl rfl rfl rfl rfl rfl rfl ⟨rfl, rfl, rfl, rfl, rfl⟩ rfl rfl rfl rfl rfl (by kernel_rfl) Tryz.func7 (by kernel_rfl)
    (of_decide_eq_true (by kernel_rfl)) (by unfold Func.isWrapper; first | (rw [if_pos (by decide +kernel)]; kernel_rfl) | (rw [if_neg (by decide +kernel)]; exact ⟨rfl, rfl⟩))
    (fun os started H enc _ => lifted os started H enc)
theorem proved : Rows.ModelLessSaid :=
  over
end Go.Proofs.YtecnnkidalkmfaaGreat.modelLess
end
