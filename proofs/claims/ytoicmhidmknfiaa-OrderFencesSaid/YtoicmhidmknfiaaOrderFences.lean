/-
  OrderFences: for every input the statement's function returns true, with no condition; each argument reads behind the call as before. By contracts of the program's and the document's functions.
-/
import Derived.Test.YtoicmhidmknfiaaOrLayF
namespace Go.Proofs.Ytoicmhidmknfiaa.orderFences
open Go.ChangeShapes Go.WideShapes Go.ChangeAt Go.RowKit
set_option linter.unusedVariables false
set_option linter.unusedSimpArgs false

/-! THE WALK: the Go text returns true; of memory nothing that stood there has turned. -/
set_option maxRecDepth 100000 in
set_option maxHeartbeats 64000000 in
theorem walk (w : World) (a0 : Int) (w0 : (Lit.int .i64 a0).wf = true) (a1 : Int) (w1 : (Lit.int .i64 a1).wf = true) (a2 : Option Addr) (n2 c2 : Nat) (x2 : List Int) (l2 : x2.length = n2) (b2 : Ev.IntsIn w ⟨a2, c2, x2⟩) :
    Calls Try.prog 9 #[.int .i64 a0, .int .i64 a1, .slice a2 n2 c2] w fun e w' => e = .returned (.bool true) ∧ Below w.heap.size w w' := by
  subst l2
  have HL := Lib.hid b2
  have hl2 := b2.2.1; have hl3 := b2.2.2.1
  obtain ⟨i0, hi, hz0, hz1, hz2⟩ := or_info_int
  have HI := Lib.hid hi; have HZ0 := Lib.hid hz0; have HZ1 := Lib.hid hz1; have HZ2 := Lib.hid hz2
  obtain ⟨ie, hie, hye, hse, hbe⟩ := or_info_event
  have IE := Lib.hid hie; have IY := Lib.hid hye; have IS := Lib.hid hse; have IB := Lib.hid hbe
  obtain ⟨ir, hir, hyr, hsr, hbr⟩ := or_info_row
  have IR := Lib.hid hir; have IRY := Lib.hid hyr; have IRS := Lib.hid hsr; have IRB := Lib.hid hbr
  clear hi hz0 hz1 hz2 hie hye hse hbe hir hyr hsr hbr b2
  have HBW := Lib.hid (Below.refl w.heap.size w)
  by_cases q0 : a0 < 0
  case pos =>
    have t0 : decide (a0 < 0) = true := decide_eq_true q0
    go_enter Try.func9, Try.ntmps9
    go_wp2_with fail
    refine (known7_any _).mono ?_
    rintro e W99 ⟨rfl, hb99⟩
    have HEND := Lib.hid (HBW.out.trans (hb99.mono HBW.out.size)); clear hb99
    go_wp2_with fail
    go_ret
    exact ⟨rfl, HEND.out⟩
  have t0 : decide (a0 < 0) = false := decide_eq_false q0
  by_cases q1 : 3 < a0
  case pos =>
    have t1 : decide (3 < a0) = true := decide_eq_true q1
    go_enter Try.func9, Try.ntmps9
    go_wp2_with fail
    refine (known7_any _).mono ?_
    rintro e W99 ⟨rfl, hb99⟩
    have HEND := Lib.hid (HBW.out.trans (hb99.mono HBW.out.size)); clear hb99
    go_wp2_with fail
    go_ret
    exact ⟨rfl, HEND.out⟩
  have t1 : decide (3 < a0) = false := decide_eq_false q1
  by_cases q2 : a1 < 0
  case pos =>
    have t2 : decide (a1 < 0) = true := decide_eq_true q2
    go_enter Try.func9, Try.ntmps9
    go_wp2_with fail
    refine (known7_any _).mono ?_
    rintro e W99 ⟨rfl, hb99⟩
    have HEND := Lib.hid (HBW.out.trans (hb99.mono HBW.out.size)); clear hb99
    go_wp2_with fail
    go_ret
    exact ⟨rfl, HEND.out⟩
  have t2 : decide (a1 < 0) = false := decide_eq_false q2
  by_cases q3 : 3 < a1
  case pos =>
    have t3 : decide (3 < a1) = true := decide_eq_true q3
    go_enter Try.func9, Try.ntmps9
    go_wp2_with fail
    refine (known7_any _).mono ?_
    rintro e W99 ⟨rfl, hb99⟩
    have HEND := Lib.hid (HBW.out.trans (hb99.mono HBW.out.size)); clear hb99
    go_wp2_with fail
    go_ret
    exact ⟨rfl, HEND.out⟩
  have t3 : decide (3 < a1) = false := decide_eq_false q3
  by_cases q4 : 8 < x2.length
  case pos =>
    have q4i : (8 : Int) < (x2.length : Int) := by omega
    have t4 : decide ((8 : Int) < (x2.length : Int)) = true := decide_eq_true q4i
    go_enter Try.func9, Try.ntmps9
    go_wp2_with fail
    refine (known7_any _).mono ?_
    rintro e W99 ⟨rfl, hb99⟩
    have HEND := Lib.hid (HBW.out.trans (hb99.mono HBW.out.size)); clear hb99
    go_wp2_with fail
    go_ret
    exact ⟨rfl, HEND.out⟩
  have q4i : ¬ (8 : Int) < (x2.length : Int) := by omega
  have t4 : decide ((8 : Int) < (x2.length : Int)) = false := decide_eq_false q4i
  have HP := Lib.hid (show 0 ≤ a0 ∧ a0 < 4 by omega)
  have HS := Lib.hid (show 0 ≤ a1 ∧ a1 < 4 by omega)
  have HN := Lib.hid (show x2.length ≤ 8 by omega)
  have hst : ∀ W, W = w.alloc (.cells (Ev.xcells Ev.nilX).toArray 26) → Ev.FenI w W w.heap.size 0 Ev.nilX := fun W e => e ▸ ⟨Ev.nilX_lay w, Ev.Bld.nil, rfl, rfl⟩
  have HST := Lib.hid hst
  clear hst q0 q1 q2 q3 q4
  go_enter Try.func9, Try.ntmps9
  go_wp2_with fail
  clear t0 t1 t2 t3 t4 q4i
  go_loopw [8] (fun iv wr => ∃ (i : Nat) (x : Ev.X), i ≤ x2.length ∧ iv = .int .i64 (i : Int) ∧ Ev.FenI w wr w.heap.size i x) (fun iv _ => x2.length - (intOf iv).toNat)
  case atStart => exact ⟨0, Ev.nilX, Nat.zero_le _, rfl, HST.out _ rfl⟩
  case round =>
    clear HST
    obtain ⟨i, x, hi, rfl, hx⟩ := hrel
    have HX := Lib.hid hx
    clear hx
    have hi8 : i ≤ 8 := Nat.le_trans hi HN.out
    by_cases hlt : i < x2.length
    case neg =>
      have hii : ¬ (i : Int) < (x2.length : Int) := by omega
      obtain rfl : i = x2.length := by omega
      have hst2 : ∀ W, W = wr → Ev.FenJ w W w.heap.size x2.length 0 x := fun W e => e ▸ ⟨HX.out.lay, HX.out.bld, by rw [HX.out.len]; omega, HX.out.ol⟩
      have HST2 := Lib.hid hst2
      clear hst2
      go_wp2_with fail
      go_loopw [9, 10, 11, 12, 13] (fun iv _ _ _ _ wr => ∃ (i : Nat) (x : Ev.X), i ≤ x2.length ∧ iv = .int .i64 (i : Int) ∧ Ev.FenJ w wr w.heap.size x2.length i x) (fun iv _ _ _ _ _ => x2.length + 1 - (intOf iv).toNat)
      case atStart => exact ⟨0, x, Nat.zero_le _, rfl, HST2.out _ rfl⟩
      case round =>
        clear HST2 HX x hii hlt hi8 hi
        obtain ⟨i, x, hi, rfl, hx⟩ := hrel
        have HX := Lib.hid hx
        clear hx
        have hi8 : i ≤ 8 := Nat.le_trans hi HN.out
        have hle : (i : Int) ≤ (x2.length : Int) := by omega
        obtain ⟨HF2, hHF⟩ : ∃ HF2 : Nat, HF2 = x2.length / 2 := ⟨_, rfl⟩
        have hq2 : (x2.length : Int) / 2 = (HF2 : Int) := by rw [hHF]; omega
        have HQ2 := Lib.hid hq2
        have HHF := Lib.hid hHF
        clear hq2 hHF
        have NX := Lib.hid (show x.ev.length ≤ 24 by have := HX.out.len; have := HN.out; omega)
        have NF := Lib.hid (show x.fr.l.length ≤ 24 by rw [HX.out.bld.fl]; exact NX.out)
        have HFB := Lib.hid (show Ev.i64B (-1) by unfold Ev.i64B; omega)
        have HDL := Lib.hid (show (x.od.map (·.l)).length = x2.length by rw [List.length_map]; exact HX.out.ol)
        have cx0 := Ev.xcell0 HX.out.lay.box
        by_cases hlt : i < x2.length
        case neg =>
          obtain rfl : i = x2.length := by omega
          have tE : ((x2.length : Int) == (x2.length : Int)) = true := by simp
          by_cases hf : x2.length = HF2
          case pos =>
            have tF : ((x2.length : Int) == (HF2 : Int)) = true := by rw [beq_iff_eq]; omega
            clear hf
            obtain ⟨y, hy⟩ : ∃ y : Ev.R, y = ⟨0, 4, 0, 0, 0, false, false, a0, a1, false, Ev.noS, Ev.noS, Ev.noS⟩ := ⟨_, rfl⟩
            have HY := Lib.hid (show Ev.Laid (x.od.map (·.l)).length y (-1) by rw [hy]; exact .fence a0 a1 HP.out HS.out)
            have HYV := Lib.hid (show ∀ V, Ev.ROk V y from Ev.laid_ok (by rw [HDL.out]; have := HN.out; omega) HY.out (by rw [hy]; show Ev.u32B 0; unfold Ev.u32B; omega))
            have HYC := Lib.hid (show Ev.cells y = #[.int .i64 0, .int .i64 4, .int .u32 0, .int .u32 0, .int .u32 0, .bool false, .bool false, .int .i64 a0, .int .i64 a1, .bool false, .slice none 0 0, .slice none 0 0, .slice none 0 0].toList by rw [hy]; rfl)
            have HYS := Lib.hid (show Ev.stores y.k = false by rw [hy]; rfl)
            have L1 := Lib.hid HX.out.lay
            clear hy
            go_wp2_with (first
              | ((with_reducible show wpList _ _ _ (Oper.mk (some 73) _ _ _ _ _ :: _) _ _); rw [HQ2.out])
              | ((with_reducible show wpList _ _ _ (Oper.mk (some 80) _ _ _ _ _ :: _) _ _); refine wpList_append_own_at _ rfl (.tmp 75) (.tmp 79) 22 rfl w.heap.size 54 ie (.agg (Ev.cells Ev.R0).toArray) 13 128 Try.underlying22 IE.out IY.out IS.out IB.out rfl (by decide) (Ev.evsV x) x.ev.length (x.ev.map Ev.cells).flatten rfl (Ev.row_kp L1.out.ev ((Below.refl _ _).alloc (Nat.le_refl _) _)) ⟨_, 0, none⟩ 1 1 (Ev.cells y) rfl rfl (by rw [HYC.out]; exact World.news_of_block (heap_alloc_new _ _)) (Ev.cells_one _) (by have := NX.out; unfold maxLen; omega) (by have := NX.out; omega) (by have := L1.out.bel.size; simp only [World.size_alloc]; omega) ?_
                 intro v1 w1 hown1 hgrow1 _ hat1
                 obtain ⟨a1', c1', rfl, hb1, hl1⟩ := L1.out.pushEv HYV.out hown1 hgrow1
                 have k0 := Ev.xcell0 hb1
                 have k1 := Ev.box_free (i := 0) hb1
                 obtain ⟨W2, hW2⟩ : ∃ W2, W2 = w1.setCell ⟨w.heap.size, 0, none⟩ (.slice a1' (x.ev.length + 1) c1') := ⟨_, rfl⟩
                 have HW2x := Lib.hid hW2
                 have L2 := Lib.hid (hW2 ▸ hl1)
                 clear hown1 hgrow1 hat1 hb1 hl1 hW2)
              | ((with_reducible show wpList _ _ _ (Oper.mk (some 82) _ _ _ _ _ :: _) _ _); rw [show w1.setCell ⟨w.heap.size, 0, none⟩ (.slice a1' (x.ev.length + 1) c1') = W2 from HW2x.out.symm]; have k2 := Ev.xcell1 L2.out.box)
              | ((with_reducible show wpList _ _ _ (Oper.mk (some 85) _ _ _ _ _ :: _) _ _); refine wpList_append_own_at _ rfl (.tmp 83) (.tmp 84) 23 rfl w.heap.size 3 i0 (.int .i64 0) 1 8 Try.underlying23 HI.out HZ0.out HZ1.out HZ2.out rfl (by decide) x.fr.v x.fr.l.length (x.fr.l.map Ev.nv) rfl (Ev.row_kp L2.out.fr ((Below.refl _ _).alloc (Nat.le_refl _) _)) ⟨_, 0, none⟩ 1 1 [Ev.nv (-1)] rfl rfl (World.news_of_block (heap_alloc_new _ _)) (Ev.nv_one _) (by have := NF.out; unfold maxLen; omega) (by have := NF.out; omega) (by have := L2.out.bel.size; simp only [World.size_alloc]; omega) ?_
                 intro v3 w3 hown3 hgrow3 _ hat3
                 obtain ⟨a3, c3, rfl, hb3, hl3⟩ := L2.out.pushFr HFB.out hown3 hgrow3 hat3
                 have k3 := Ev.xcell1 hb3
                 have k4 := Ev.box_free (i := 1) hb3
                 have L3 := Lib.hid hl3
                 clear hown3 hgrow3 hat3 hb3 hl3)
              | ((with_reducible show wpList _ _ _ (Oper.mk (some 138) _ _ _ _ _ :: _) _ _); refine Ev.Stop.out ?_))
            refine ⟨?_⟩
            obtain ⟨W3, hW3⟩ : ∃ W3, W3 = w3.setCell ⟨w.heap.size, 1, none⟩ (.slice a3 (x.fr.l.length + 1) c3) := ⟨_, rfl⟩
            rw [← hW3]
            obtain ⟨xf, hxf⟩ : ∃ xf : Ev.X, xf = ⟨a1', c1', x.ev ++ [y], ⟨a3, c3, x.fr.l ++ [-1]⟩, x.ao, x.co, x.od⟩ := ⟨_, rfl⟩
            have LX := Lib.hid (show Ev.Lay w W3 w.heap.size xf by rw [hW3, hxf]; exact L3.out)
            have BX := Lib.hid (show Ev.Bld xf.ev xf.fr.l (xf.od.map (·.l)) by rw [hxf]; exact HX.out.bld.more HY.out HYS.out)
            have NXF := Lib.hid (show xf.ev.length ≤ x2.length + 2 * x2.length + 1 by rw [hxf]; have := HX.out.len; simp; omega)
            have OXF := Lib.hid (show xf.od.length = x2.length by rw [hxf]; exact HX.out.ol)
            clear hW3 hxf cx0 HYV HYC HYS HY y HX NX NF HDL L1 L2 L3 HW2x k0 k1 k2 k3 k4
            have B1 := Lib.hid LX.out.bel
            have R1 := Lib.hid LX.out.box
            have I1 := Lib.hid LX.out.xin
            have HC := Lib.hid (BX.out.check (by have := NXF.out; have := HN.out; omega))
            have t00 : ((0 : Int) == 0) = true := by decide
            go_wp2_with (((with_reducible show wpList _ _ _ (Oper.mk (some 138) _ _ _ _ _ :: _) _ _); refine wpList_load_row rfl 26 (.tmp 7) rfl (w.heap.size) (by kernel_rfl) 26 (Ev.xcells xf).toArray (0, 0) _ R1.out Try.underlying26 rfl (by kernel_rfl) ?_))
            refine (oppo_any xf _ I1.out).mono ?_
            rintro e W2 ⟨hb2, (⟨hc, rfl⟩ | ⟨hc, ad, cc, rfl, hp⟩)⟩
            · exact absurd HC.out hc
            have B2 := Lib.hid (B1.out.trans (hb2.mono B1.out.size))
            have R2 := Lib.hid ((hb2.block _ (Array.getElem?_eq_some_iff.1 R1.out).1).trans R1.out)
            have I2 := Lib.hid (I1.out.kp (Ev.kp_below hb2))
            rw [ppo_pl hc] at hp ⊢
            obtain ⟨L, hL⟩ : ∃ L, Ev.pl (Ev.isPpo xf) xf.ev.length xf.ev.length = L := ⟨_, rfl⟩
            have H5 := Lib.hid (fun (W : World) (hin : Ev.XIn W xf) => rpairs5_any xf W hin hc)
            rw [hL] at hp ⊢
            have HLL := Lib.hid hL; have HPP := Lib.hid hp
            clear hb2 hc hp hL
            go_wp2_with (((with_reducible show wpList _ _ _ (Oper.mk (some 145) _ _ _ _ _ :: _) _ _); refine Ev.load_row_g 26 (.tmp 7) rfl rfl (w.heap.size) (by kernel_rfl) 26 (Ev.xcells xf).toArray (0, 0) _ R2.out Try.underlying26 rfl (by kernel_rfl) ?_))
            refine (rcheck_is HC.out _ I2.out).mono ?_
            rintro e W3 ⟨rfl, hb3⟩
            have B3 := Lib.hid (B2.out.trans (hb3.mono B2.out.size))
            have R3 := Lib.hid ((hb3.block _ (Array.getElem?_eq_some_iff.1 R2.out).1).trans R2.out)
            have I3 := Lib.hid (I2.out.kp (Ev.kp_below hb3))
            have HP3 := Lib.hid (HPP.out.kp (Ev.kp_below hb3))
            clear hb3
            go_wp2_with (((with_reducible show wpList _ _ _ (Oper.mk (some 151) _ _ _ _ _ :: _) _ _); refine Ev.load_row_g 26 (.tmp 7) rfl rfl (w.heap.size) (by kernel_rfl) 26 (Ev.xcells xf).toArray (0, 0) _ R3.out Try.underlying26 rfl (by kernel_rfl) ?_))
            refine (H5.out _ I3.out).mono ?_
            rw [HLL.out]
            rintro e W4 ⟨ad2, cc2, rfl, hp2, hb4⟩
            have B4 := Lib.hid (B3.out.trans (hb4.mono B3.out.size))
            have R4 := Lib.hid ((hb4.block _ (Array.getElem?_eq_some_iff.1 R3.out).1).trans R3.out)
            have I4 := Lib.hid (I3.out.kp (Ev.kp_below hb4))
            have HP4 := Lib.hid (HP3.out.kp (Ev.kp_below hb4)); have HP2 := Lib.hid hp2
            clear hb4 hp2
            go_wp2_with fail
            refine (samePairs_yes ad ad2 cc cc2 L _ HP4.out HP2.out).mono ?_
            rintro e W5 ⟨rfl, hb5⟩
            have B5 := Lib.hid (B4.out.trans (hb5.mono B4.out.size))
            have R5 := Lib.hid ((hb5.block _ (Array.getElem?_eq_some_iff.1 R4.out).1).trans R4.out)
            have I5 := Lib.hid (I4.out.kp (Ev.kp_below hb5))
            clear hb5
            go_wp2_with fail
            refine (known7_any _).mono ?_
            rintro e W99 ⟨rfl, hb99⟩
            have HEND := Lib.hid (B5.out.trans (hb99.mono B5.out.size)); clear hb99
            go_wp2_with fail
            go_ret
            exact ⟨rfl, HEND.out⟩
          have tF : ((x2.length : Int) == (HF2 : Int)) = false := by rw [beq_eq_false_iff_ne]; omega
          clear hf
          have L1 := Lib.hid HX.out.lay
          go_wp2_with (first
            | ((with_reducible show wpList _ _ _ (Oper.mk (some 73) _ _ _ _ _ :: _) _ _); rw [HQ2.out])
            | ((with_reducible show wpList _ _ _ (Oper.mk (some 138) _ _ _ _ _ :: _) _ _); refine Ev.Stop.out ?_))
          refine ⟨?_⟩
          clear cx0
          have B1 := Lib.hid L1.out.bel
          have R1 := Lib.hid L1.out.box
          have I1 := Lib.hid L1.out.xin
          have HC := Lib.hid (HX.out.bld.check (by have := HX.out.len; have := HN.out; omega))
          have t00 : ((0 : Int) == 0) = true := by decide
          go_wp2_with (((with_reducible show wpList _ _ _ (Oper.mk (some 138) _ _ _ _ _ :: _) _ _); refine wpList_load_row rfl 26 (.tmp 7) rfl (w.heap.size) (by kernel_rfl) 26 (Ev.xcells x).toArray (0, 0) _ R1.out Try.underlying26 rfl (by kernel_rfl) ?_))
          refine (oppo_any x _ I1.out).mono ?_
          rintro e W2 ⟨hb2, (⟨hc, rfl⟩ | ⟨hc, ad, cc, rfl, hp⟩)⟩
          · exact absurd HC.out hc
          have B2 := Lib.hid (B1.out.trans (hb2.mono B1.out.size))
          have R2 := Lib.hid ((hb2.block _ (Array.getElem?_eq_some_iff.1 R1.out).1).trans R1.out)
          have I2 := Lib.hid (I1.out.kp (Ev.kp_below hb2))
          rw [ppo_pl hc] at hp ⊢
          obtain ⟨L, hL⟩ : ∃ L, Ev.pl (Ev.isPpo x) x.ev.length x.ev.length = L := ⟨_, rfl⟩
          have H5 := Lib.hid (fun (W : World) (hin : Ev.XIn W x) => rpairs5_any x W hin hc)
          rw [hL] at hp ⊢
          have HLL := Lib.hid hL; have HPP := Lib.hid hp
          clear hb2 hc hp hL
          go_wp2_with (((with_reducible show wpList _ _ _ (Oper.mk (some 145) _ _ _ _ _ :: _) _ _); refine Ev.load_row_g 26 (.tmp 7) rfl rfl (w.heap.size) (by kernel_rfl) 26 (Ev.xcells x).toArray (0, 0) _ R2.out Try.underlying26 rfl (by kernel_rfl) ?_))
          refine (rcheck_is HC.out _ I2.out).mono ?_
          rintro e W3 ⟨rfl, hb3⟩
          have B3 := Lib.hid (B2.out.trans (hb3.mono B2.out.size))
          have R3 := Lib.hid ((hb3.block _ (Array.getElem?_eq_some_iff.1 R2.out).1).trans R2.out)
          have I3 := Lib.hid (I2.out.kp (Ev.kp_below hb3))
          have HP3 := Lib.hid (HPP.out.kp (Ev.kp_below hb3))
          clear hb3
          go_wp2_with (((with_reducible show wpList _ _ _ (Oper.mk (some 151) _ _ _ _ _ :: _) _ _); refine Ev.load_row_g 26 (.tmp 7) rfl rfl (w.heap.size) (by kernel_rfl) 26 (Ev.xcells x).toArray (0, 0) _ R3.out Try.underlying26 rfl (by kernel_rfl) ?_))
          refine (H5.out _ I3.out).mono ?_
          rw [HLL.out]
          rintro e W4 ⟨ad2, cc2, rfl, hp2, hb4⟩
          have B4 := Lib.hid (B3.out.trans (hb4.mono B3.out.size))
          have R4 := Lib.hid ((hb4.block _ (Array.getElem?_eq_some_iff.1 R3.out).1).trans R3.out)
          have I4 := Lib.hid (I3.out.kp (Ev.kp_below hb4))
          have HP4 := Lib.hid (HP3.out.kp (Ev.kp_below hb4)); have HP2 := Lib.hid hp2
          clear hb4 hp2
          go_wp2_with fail
          refine (samePairs_yes ad ad2 cc cc2 L _ HP4.out HP2.out).mono ?_
          rintro e W5 ⟨rfl, hb5⟩
          have B5 := Lib.hid (B4.out.trans (hb5.mono B4.out.size))
          have R5 := Lib.hid ((hb5.block _ (Array.getElem?_eq_some_iff.1 R4.out).1).trans R4.out)
          have I5 := Lib.hid (I4.out.kp (Ev.kp_below hb5))
          clear hb5
          go_wp2_with fail
          refine (known7_any _).mono ?_
          rintro e W99 ⟨rfl, hb99⟩
          have HEND := Lib.hid (B5.out.trans (hb99.mono B5.out.size)); clear hb99
          go_wp2_with fail
          go_ret
          exact ⟨rfl, HEND.out⟩
        have hii : (i : Int) < (x2.length : Int) := by omega
        have tE : ((i : Int) == (x2.length : Int)) = false := by rw [beq_eq_false_iff_ne]; omega
        obtain ⟨v, hv⟩ : ∃ v, x2[i]? = some v := ⟨_, List.getElem?_eq_getElem hlt⟩
        obtain ⟨r, hr⟩ : ∃ r, v.tmod 3 = r := ⟨_, rfl⟩
        have hr1 : -3 < r ∧ r < 3 := by
          rw [← hr]
          have h1 := Int.tmod_lt_of_pos v (show (0 : Int) < 3 by decide)
          have h2 := Int.lt_tmod_of_pos v (show (0 : Int) < 3 by decide)
          omega
        have hr2 := hr1.1; have hr3 := hr1.2
        have HR := Lib.hid hr
        have hm3 : r % 3 = 0 ∨ r % 3 = 1 ∨ r % 3 = 2 := by omega
        have HM3 := Lib.hid hm3
        obtain ⟨g0, o0, ea, hcell⟩ := HL.out.at_ hv
        have HC0 := Lib.hid hcell
        have hea : a2 = some ⟨g0, o0, none⟩ := ea
        clear hr hr1 hm3 hv hcell ea
        subst hea
        by_cases hf : i = HF2
        case pos =>
          have tF : ((i : Int) == (HF2 : Int)) = true := by rw [beq_iff_eq]; omega
          clear hf
          obtain ⟨y, hy⟩ : ∃ y : Ev.R, y = ⟨0, 4, 0, 0, 0, false, false, a0, a1, false, Ev.noS, Ev.noS, Ev.noS⟩ := ⟨_, rfl⟩
          have HY := Lib.hid (show Ev.Laid (x.od.map (·.l)).length y (-1) by rw [hy]; exact .fence a0 a1 HP.out HS.out)
          have HYV := Lib.hid (show ∀ V, Ev.ROk V y from Ev.laid_ok (by rw [HDL.out]; have := HN.out; omega) HY.out (by rw [hy]; show Ev.u32B 0; unfold Ev.u32B; omega))
          have HYC := Lib.hid (show Ev.cells y = #[.int .i64 0, .int .i64 4, .int .u32 0, .int .u32 0, .int .u32 0, .bool false, .bool false, .int .i64 a0, .int .i64 a1, .bool false, .slice none 0 0, .slice none 0 0, .slice none 0 0].toList by rw [hy]; rfl)
          have HYS := Lib.hid (show Ev.stores y.k = false by rw [hy]; rfl)
          have L1 := Lib.hid HX.out.lay
          clear hy
          go_wp2_with (first
            | ((with_reducible show wpList _ _ _ (Oper.mk (some 73) _ _ _ _ _ :: _) _ _); rw [HQ2.out])
            | ((with_reducible show wpList _ _ _ (Oper.mk (some 80) _ _ _ _ _ :: _) _ _); refine wpList_append_own_at _ rfl (.tmp 75) (.tmp 79) 22 rfl w.heap.size 54 ie (.agg (Ev.cells Ev.R0).toArray) 13 128 Try.underlying22 IE.out IY.out IS.out IB.out rfl (by decide) (Ev.evsV x) x.ev.length (x.ev.map Ev.cells).flatten rfl (Ev.row_kp L1.out.ev ((Below.refl _ _).alloc (Nat.le_refl _) _)) ⟨_, 0, none⟩ 1 1 (Ev.cells y) rfl rfl (by rw [HYC.out]; exact World.news_of_block (heap_alloc_new _ _)) (Ev.cells_one _) (by have := NX.out; unfold maxLen; omega) (by have := NX.out; omega) (by have := L1.out.bel.size; simp only [World.size_alloc]; omega) ?_
               intro v1 w1 hown1 hgrow1 _ hat1
               obtain ⟨a1', c1', rfl, hb1, hl1⟩ := L1.out.pushEv HYV.out hown1 hgrow1
               have k0 := Ev.xcell0 hb1
               have k1 := Ev.box_free (i := 0) hb1
               obtain ⟨W2, hW2⟩ : ∃ W2, W2 = w1.setCell ⟨w.heap.size, 0, none⟩ (.slice a1' (x.ev.length + 1) c1') := ⟨_, rfl⟩
               have HW2x := Lib.hid hW2
               have L2 := Lib.hid (hW2 ▸ hl1)
               clear hown1 hgrow1 hat1 hb1 hl1 hW2)
            | ((with_reducible show wpList _ _ _ (Oper.mk (some 82) _ _ _ _ _ :: _) _ _); rw [show w1.setCell ⟨w.heap.size, 0, none⟩ (.slice a1' (x.ev.length + 1) c1') = W2 from HW2x.out.symm]; have k2 := Ev.xcell1 L2.out.box)
            | ((with_reducible show wpList _ _ _ (Oper.mk (some 85) _ _ _ _ _ :: _) _ _); refine wpList_append_own_at _ rfl (.tmp 83) (.tmp 84) 23 rfl w.heap.size 3 i0 (.int .i64 0) 1 8 Try.underlying23 HI.out HZ0.out HZ1.out HZ2.out rfl (by decide) x.fr.v x.fr.l.length (x.fr.l.map Ev.nv) rfl (Ev.row_kp L2.out.fr ((Below.refl _ _).alloc (Nat.le_refl _) _)) ⟨_, 0, none⟩ 1 1 [Ev.nv (-1)] rfl rfl (World.news_of_block (heap_alloc_new _ _)) (Ev.nv_one _) (by have := NF.out; unfold maxLen; omega) (by have := NF.out; omega) (by have := L2.out.bel.size; simp only [World.size_alloc]; omega) ?_
               intro v3 w3 hown3 hgrow3 _ hat3
               obtain ⟨a3, c3, rfl, hb3, hl3⟩ := L2.out.pushFr HFB.out hown3 hgrow3 hat3
               have k3 := Ev.xcell1 hb3
               have k4 := Ev.box_free (i := 1) hb3
               have L3 := Lib.hid hl3
               clear hown3 hgrow3 hat3 hb3 hl3)
            | ((with_reducible show wpList _ _ _ (Oper.mk (some 91) _ _ _ _ _ :: _) _ _); refine Ev.Stop.out ?_))
          refine ⟨?_⟩
          obtain ⟨W3, hW3⟩ : ∃ W3, W3 = w3.setCell ⟨w.heap.size, 1, none⟩ (.slice a3 (x.fr.l.length + 1) c3) := ⟨_, rfl⟩
          rw [← hW3]
          obtain ⟨xf, hxf⟩ : ∃ xf : Ev.X, xf = ⟨a1', c1', x.ev ++ [y], ⟨a3, c3, x.fr.l ++ [-1]⟩, x.ao, x.co, x.od⟩ := ⟨_, rfl⟩
          have LX := Lib.hid (show Ev.Lay w W3 w.heap.size xf by rw [hW3, hxf]; exact L3.out)
          have BX := Lib.hid (show Ev.Bld xf.ev xf.fr.l (xf.od.map (·.l)) by rw [hxf]; exact HX.out.bld.more HY.out HYS.out)
          have NXF := Lib.hid (show xf.ev.length ≤ x2.length + 2 * i + 1 by rw [hxf]; have := HX.out.len; simp; omega)
          have OXF := Lib.hid (show xf.od.length = x2.length by rw [hxf]; exact HX.out.ol)
          clear hW3 hxf cx0 HYV HYC HYS HY y HX NX NF HDL L1 L2 L3 HW2x k0 k1 k2 k3 k4
          clear tF
          have NXP := Lib.hid (show xf.ev.length ≤ 40 by have := NXF.out; have := HN.out; omega)
          have NFP := Lib.hid (show xf.fr.l.length ≤ 40 by rw [BX.out.fl]; exact NXP.out)
          have HDL := Lib.hid (show (xf.od.map (·.l)).length = x2.length by rw [List.length_map]; exact OXF.out)
          rcases HM3.out with hm | hm | hm
          · have HMM := Lib.hid (show 1 + r % 3 = 1 by omega)
            clear hm
            obtain ⟨W1, hW1⟩ : ∃ W1, W1 = W3.alloc (Obj.cells #[.int .i64 0, .int .i64 1, .int .u32 (4 * (i : Int)), .int .u32 0, .int .u32 0, .bool false, .bool false, .int .i64 0, .int .i64 0, .bool false, .slice none 0 0, .slice none 0 0, .slice none 0 0] 54) := ⟨_, rfl⟩
            have HW1 := Lib.hid hW1
            have BW1 := Lib.hid (show Below W3.heap.size W3 W1 by rw [hW1]; exact (Below.refl _ _).alloc (Nat.le_refl _) _)
            have RW1 := Lib.hid (show W1.heap[W3.heap.size]? = some (.cells #[.int .i64 0, .int .i64 1, .int .u32 (4 * (i : Int)), .int .u32 0, .int .u32 0, .bool false, .bool false, .int .i64 0, .int .i64 0, .bool false, .slice none 0 0, .slice none 0 0, .slice none 0 0] 54 (0, 0)) by rw [hW1]; exact heap_alloc_new _ _)
            have LW1 := Lib.hid (LX.out.kp BW1.out)
            obtain ⟨y, hy⟩ : ∃ y : Ev.R, y = ⟨0, 1, 4 * (i : Int), 0, 0, false, false, 0, 0, false, Ev.noS, Ev.noS, Ev.noS⟩ := ⟨_, rfl⟩
            have HLT := Lib.hid hlt
            have HY := Lib.hid (show Ev.Laid (xf.od.map (·.l)).length y (i : Int) by rw [hy]; exact .load i (by rw [HDL.out]; exact HLT.out) false)
            have HYV := Lib.hid (show ∀ V, Ev.ROk V y from Ev.laid_ok (by rw [HDL.out]; have := HN.out; omega) HY.out (by rw [hy]; show Ev.u32B 0; unfold Ev.u32B; omega))
            have HYC := Lib.hid (show Ev.cells y = #[.int .i64 0, .int .i64 1, .int .u32 (4 * (i : Int)), .int .u32 0, .int .u32 0, .bool false, .bool false, .int .i64 0, .int .i64 0, .bool false, .slice none 0 0, .slice none 0 0, .slice none 0 0].toList by rw [hy]; rfl)
            have HYS := Lib.hid (show Ev.stores y.k = false by rw [hy]; rfl)
            have HYA := Lib.hid (show y.a = 4 * (i : Int) by rw [hy])
            have HFI := Lib.hid (show Ev.i64B (i : Int) by unfold Ev.i64B; omega)
            have hc0 := ((Ev.kp_below LX.out.bel) _ _ HC0.out)
            have hw4 : wrap64 (4 * (i : Int)) = 4 * i := (by unfold wrap64; omega)
            have HW4 := Lib.hid hw4
            have cxa := Ev.xcell0 LX.out.box
            clear hy hW1 hw4
            have cx1 := Ev.xcell0 LW1.out.box
            go_wp2_with (first
              | ((with_reducible show wpList _ _ _ (Oper.mk (some 73) _ _ _ _ _ :: _) _ _); rw [HQ2.out])
              | ((with_reducible show wpList _ _ _ (Oper.mk (some 99) _ _ _ _ _ :: _) _ _); rw [HR.out])
              | ((with_reducible show wpList _ _ _ (Oper.mk (some 104) _ _ _ _ _ :: _) _ _); rw [HMM.out])
              | ((with_reducible show wpList _ _ _ (Oper.mk (some 106) _ _ _ _ _ :: _) _ _); rw [HMM.out])
              | ((with_reducible show wpList _ _ _ (Oper.mk (some 105) _ _ _ _ _ :: _) _ _); rw [HW4.out])
              | ((with_reducible show wpList _ _ _ (Oper.mk (some 125) _ _ _ _ _ :: _) _ _); rw [show W3.alloc (Obj.cells #[.int .i64 0, .int .i64 1, .int .u32 (4 * (i : Int)), .int .u32 0, .int .u32 0, .bool false, .bool false, .int .i64 0, .int .i64 0, .bool false, .slice none 0 0, .slice none 0 0, .slice none 0 0] 54) = W1 from HW1.out.symm])
              | ((with_reducible show wpList _ _ _ (Oper.mk (some 127) _ _ _ _ _ :: _) _ _); refine wpList_load_row rfl 54 (.tmp 12) rfl W3.heap.size (by kernel_rfl) 54 #[.int .i64 0, .int .i64 1, .int .u32 (4 * (i : Int)), .int .u32 0, .int .u32 0, .bool false, .bool false, .int .i64 0, .int .i64 0, .bool false, .slice none 0 0, .slice none 0 0, .slice none 0 0] (0, 0) _ RW1.out Try.underlying54 rfl (by kernel_rfl) ?_)
              | ((with_reducible show wpList _ _ _ (Oper.mk (some 129) _ _ _ _ _ :: _) _ _); refine wpList_append_own_at _ rfl (.tmp 126) (.tmp 128) 22 rfl w.heap.size 54 ie (.agg (Ev.cells Ev.R0).toArray) 13 128 Try.underlying22 IE.out IY.out IS.out IB.out rfl (by decide) (Ev.evsV xf) xf.ev.length (xf.ev.map Ev.cells).flatten rfl (Ev.row_kp LW1.out.ev ((Below.refl _ _).alloc (Nat.le_refl _) _)) ⟨_, 0, none⟩ 1 1 (Ev.cells y) rfl rfl (by rw [HYC.out]; exact World.news_of_block (heap_alloc_new _ _)) (Ev.cells_one _) (by have := NXP.out; unfold maxLen; omega) (by have := NXP.out; omega) (by have := LW1.out.bel.size; simp only [World.size_alloc]; omega) ?_
                 intro v1 w1 hown1 hgrow1 _ hat1
                 obtain ⟨a1', c1', rfl, hb1, hl1⟩ := LW1.out.pushEv HYV.out hown1 hgrow1
                 have k0 := Ev.xcell0 hb1
                 have k1 := Ev.box_free (i := 0) hb1
                 obtain ⟨W2, hW2⟩ : ∃ W2, W2 = w1.setCell ⟨w.heap.size, 0, none⟩ (.slice a1' (xf.ev.length + 1) c1') := ⟨_, rfl⟩
                 have HW2x := Lib.hid hW2
                 have L2 := Lib.hid (hW2 ▸ hl1)
                 clear hown1 hgrow1 hat1 hb1 hl1 hW2)
              | ((with_reducible show wpList _ _ _ (Oper.mk (some 131) _ _ _ _ _ :: _) _ _); rw [show w1.setCell ⟨w.heap.size, 0, none⟩ (.slice a1' (xf.ev.length + 1) c1') = W2 from HW2x.out.symm]; have k2 := Ev.xcell1 L2.out.box)
              | ((with_reducible show wpList _ _ _ (Oper.mk (some 135) _ _ _ _ _ :: _) _ _); refine wpList_append_own_at _ rfl (.tmp 132) (.tmp 134) 23 rfl w.heap.size 3 i0 (.int .i64 0) 1 8 Try.underlying23 HI.out HZ0.out HZ1.out HZ2.out rfl (by decide) xf.fr.v xf.fr.l.length (xf.fr.l.map Ev.nv) rfl (Ev.row_kp L2.out.fr ((Below.refl _ _).alloc (Nat.le_refl _) _)) ⟨_, 0, none⟩ 1 1 [Ev.nv (i : Int)] rfl rfl (World.news_of_block (heap_alloc_new _ _)) (Ev.nv_one _) (by have := NFP.out; unfold maxLen; omega) (by have := NFP.out; omega) (by have := L2.out.bel.size; simp only [World.size_alloc]; omega) ?_
                 intro v3 w3 hown3 hgrow3 _ hat3
                 obtain ⟨a3, c3, rfl, hb3, hl3⟩ := L2.out.pushFr HFI.out hown3 hgrow3 hat3
                 have k3 := Ev.xcell1 hb3
                 have k4 := Ev.box_free (i := 1) hb3
                 have L3 := Lib.hid hl3
                 clear hown3 hgrow3 hat3 hb3 hl3))
            go_roundw
            case rel => exact ⟨i + 1, _, by omega, by go_num, ⟨L3.out, BX.out.more HY.out HYS.out, by have := NXF.out; simp; omega, OXF.out⟩⟩
            case measure => simp [intOf]; omega
          · have HMM := Lib.hid (show 1 + r % 3 = 2 by omega)
            clear hm
            obtain ⟨W1, hW1⟩ : ∃ W1, W1 = W3.alloc (Obj.cells #[.int .i64 0, .int .i64 2, .int .u32 (4 * (i : Int)), .int .u32 0, .int .u32 0, .bool false, .bool false, .int .i64 0, .int .i64 0, .bool false, .slice none 0 0, .slice none 0 0, .slice none 0 0] 54) := ⟨_, rfl⟩
            have HW1 := Lib.hid hW1
            have BW1 := Lib.hid (show Below W3.heap.size W3 W1 by rw [hW1]; exact (Below.refl _ _).alloc (Nat.le_refl _) _)
            have RW1 := Lib.hid (show W1.heap[W3.heap.size]? = some (.cells #[.int .i64 0, .int .i64 2, .int .u32 (4 * (i : Int)), .int .u32 0, .int .u32 0, .bool false, .bool false, .int .i64 0, .int .i64 0, .bool false, .slice none 0 0, .slice none 0 0, .slice none 0 0] 54 (0, 0)) by rw [hW1]; exact heap_alloc_new _ _)
            have LW1 := Lib.hid (LX.out.kp BW1.out)
            obtain ⟨y, hy⟩ : ∃ y : Ev.R, y = ⟨0, 2, 4 * (i : Int), 1, 0, false, false, 0, 0, false, Ev.noS, Ev.noS, Ev.noS⟩ := ⟨_, rfl⟩
            have HLT := Lib.hid hlt
            have HY := Lib.hid (show Ev.Laid (xf.od.map (·.l)).length y (-1) by rw [hy]; exact .store i (by rw [HDL.out]; exact HLT.out) 1 false)
            have HYV := Lib.hid (show ∀ V, Ev.ROk V y from Ev.laid_ok (by rw [HDL.out]; have := HN.out; omega) HY.out (by rw [hy]; show Ev.u32B 1; unfold Ev.u32B; omega))
            have HYC := Lib.hid (show Ev.cells y = #[.int .i64 0, .int .i64 2, .int .u32 (4 * (i : Int)), .int .u32 1, .int .u32 0, .bool false, .bool false, .int .i64 0, .int .i64 0, .bool false, .slice none 0 0, .slice none 0 0, .slice none 0 0].toList by rw [hy]; rfl)
            have HYS := Lib.hid (show Ev.stores y.k = true by rw [hy]; rfl)
            have HYA := Lib.hid (show y.a = 4 * (i : Int) by rw [hy])
            have HFI := Lib.hid (show Ev.i64B (-1) by unfold Ev.i64B; omega)
            have hc0 := ((Ev.kp_below LX.out.bel) _ _ HC0.out)
            have hw4 : wrap64 (4 * (i : Int)) = 4 * i := (by unfold wrap64; omega)
            have HW4 := Lib.hid hw4
            have cxa := Ev.xcell0 LX.out.box
            clear hy hW1 hw4
            obtain ⟨W1b, hW1b⟩ : ∃ W1b, W1b = W3.alloc (Obj.cells #[.int .i64 0, .int .i64 2, .int .u32 (4 * (i : Int)), .int .u32 1, .int .u32 0, .bool false, .bool false, .int .i64 0, .int .i64 0, .bool false, .slice none 0 0, .slice none 0 0, .slice none 0 0] 54) := ⟨_, rfl⟩
            have HW1b := Lib.hid hW1b
            have R1b := Lib.hid (show W1b.heap[W3.heap.size]? = some (.cells #[.int .i64 0, .int .i64 2, .int .u32 (4 * (i : Int)), .int .u32 1, .int .u32 0, .bool false, .bool false, .int .i64 0, .int .i64 0, .bool false, .slice none 0 0, .slice none 0 0, .slice none 0 0] 54 (0, 0)) by rw [hW1b]; exact heap_alloc_new _ _)
            have B1b := Lib.hid (show Below W3.heap.size W3 W1b by rw [hW1b]; exact (Below.refl _ _).alloc (Nat.le_refl _) _)
            have L1b := Lib.hid (LX.out.kp B1b.out)
            obtain ⟨g, hg⟩ := LX.out.aoSome (by rw [OXF.out]; omega)
            have HG := Lib.hid hg
            obtain ⟨sv, hsv⟩ : ∃ sv, xf.od[i]? = some sv := ⟨_, List.getElem?_eq_getElem (by rw [OXF.out]; exact hlt)⟩
            have HSV := Lib.hid hsv
            have NS := Lib.hid (show sv.l.length ≤ 40 from Nat.le_trans (BX.out.rowLen (by rw [List.getElem?_map, hsv]; rfl)) (by have := NXP.out; omega))
            clear hW1b hg hsv
            go_wp2_with (first
              | ((with_reducible show wpList _ _ _ (Oper.mk (some 73) _ _ _ _ _ :: _) _ _); rw [HQ2.out])
              | ((with_reducible show wpList _ _ _ (Oper.mk (some 99) _ _ _ _ _ :: _) _ _); rw [HR.out])
              | ((with_reducible show wpList _ _ _ (Oper.mk (some 104) _ _ _ _ _ :: _) _ _); rw [HMM.out])
              | ((with_reducible show wpList _ _ _ (Oper.mk (some 106) _ _ _ _ _ :: _) _ _); rw [HMM.out])
              | ((with_reducible show wpList _ _ _ (Oper.mk (some 105) _ _ _ _ _ :: _) _ _); rw [HW4.out]))
            rw [show W3.alloc (Obj.cells #[.int .i64 0, .int .i64 2, .int .u32 (4 * (i : Int)), .int .u32 1, .int .u32 0, .bool false, .bool false, .int .i64 0, .int .i64 0, .bool false, .slice none 0 0, .slice none 0 0, .slice none 0 0] 54) = W1b from HW1b.out.symm]
            clear cxa
            obtain ⟨wq, hwq⟩ : ∃ wq, wq = { W1b with drawn := W1b.drawn + 1 } := ⟨_, rfl⟩
            have BQ := Lib.hid (show Below W1b.heap.size W1b wq by rw [hwq]; exact ⟨rfl, rfl, rfl, Nat.le_refl _, fun _ _ => rfl⟩)
            have LQ := Lib.hid (L1b.out.kp BQ.out)
            have HWQ := Lib.hid hwq
            clear hwq
            have SB := Lib.hid (Ev.xcell2 LQ.out.box)
            have SR := Lib.hid (Ev.od_cell LQ.out HSV.out HG.out)
            have HSD := Lib.hid (fun ii : Nat => (show Ev.Sd (w.heap.size) g i (.slice (some ⟨g, 0, none⟩) xf.od.length xf.co) sv.v ii wq from ⟨by have := SB.out; rw [HG.out] at this; exact this, fun _ => SR.out⟩))
            have hwo : (i : Int) < (xf.od.length : Int) := by have := (List.getElem?_eq_some_iff.1 HSV.out).1; omega
            refine Og.region_S (S := Ev.Sd (w.heap.size) g i (.slice (some ⟨g, 0, none⟩) xf.od.length xf.co) sv.v) (by kernel_rfl) ?_
            rw [← HWQ.out]
            refine Og.s_take 0 { dst := some 113, op := .fieldAddr 26 (.tmp 7) 2, type := 0, pos := "law.go:229", after := #[], guard := none } (.pointer (some ⟨w.heap.size, 2, none⟩)) _ (by kernel_rfl) (by kernel_rfl) (by kernel_rfl) (by kernel_rfl) (by kernel_rfl) (fun _ _ _ h => h) (HSD.out 0) (fun x' hx => ?_) (by simp only [Act.put, List.setIfInBounds_toArray, List.set_cons_zero, List.set_cons_succ]; rfl) ?_
            · go_simp; try (with_reducible rfl)
            refine Og.s_take 1 { dst := some 114, op := .load 24 (.tmp 113), type := 24, pos := "law.go:229", after := #[{ on := 0, ground := .data }], guard := none } (.slice (some ⟨g, 0, none⟩) xf.od.length xf.co) _ (by kernel_rfl) (by kernel_rfl) (by kernel_rfl) (by kernel_rfl) (by kernel_rfl) (fun _ _ _ h => h) (HSD.out 1) (fun x' hx => ?_) (by simp only [Act.put, List.setIfInBounds_toArray, List.set_cons_zero, List.set_cons_succ]; rfl) ?_
            · have hx1 := hx.1; go_simp; try (with_reducible rfl)
            refine Og.s_take 2 { dst := some 115, op := .move (.tmp 9), type := 3, pos := "law.go:229", after := #[], guard := none } (.int .i64 (i : Int)) _ (by kernel_rfl) (by kernel_rfl) (by kernel_rfl) (by kernel_rfl) (by kernel_rfl) (fun _ _ _ h => h) (HSD.out 2) (fun x' hx => ?_) (by simp only [Act.put, List.setIfInBounds_toArray, List.set_cons_zero, List.set_cons_succ]; rfl) ?_
            · go_simp; try (with_reducible rfl)
            refine Og.s_take 3 { dst := some 116, op := .fieldAddr 26 (.tmp 7) 2, type := 0, pos := "law.go:229", after := #[], guard := none } (.pointer (some ⟨w.heap.size, 2, none⟩)) _ (by kernel_rfl) (by kernel_rfl) (by kernel_rfl) (by kernel_rfl) (by kernel_rfl) (fun _ _ _ h => h) (HSD.out 3) (fun x' hx => ?_) (by simp only [Act.put, List.setIfInBounds_toArray, List.set_cons_zero, List.set_cons_succ]; rfl) ?_
            · go_simp; try (with_reducible rfl)
            refine Og.s_take 4 { dst := some 117, op := .load 24 (.tmp 116), type := 24, pos := "law.go:229", after := #[{ on := 3, ground := .data }], guard := none } (.slice (some ⟨g, 0, none⟩) xf.od.length xf.co) _ (by kernel_rfl) (by kernel_rfl) (by kernel_rfl) (by kernel_rfl) (by kernel_rfl) (fun _ _ _ h => h) (HSD.out 4) (fun x' hx => ?_) (by simp only [Act.put, List.setIfInBounds_toArray, List.set_cons_zero, List.set_cons_succ]; rfl) ?_
            · have hx1 := hx.1; go_simp; try (with_reducible rfl)
            refine Og.s_take 5 { dst := some 118, op := .move (.tmp 9), type := 3, pos := "law.go:229", after := #[], guard := none } (.int .i64 (i : Int)) _ (by kernel_rfl) (by kernel_rfl) (by kernel_rfl) (by kernel_rfl) (by kernel_rfl) (fun _ _ _ h => h) (HSD.out 5) (fun x' hx => ?_) (by simp only [Act.put, List.setIfInBounds_toArray, List.set_cons_zero, List.set_cons_succ]; rfl) ?_
            · go_simp; try (with_reducible rfl)
            refine Og.s_take 6 { dst := some 119, op := .indexAddr 24 (.tmp 117) (.tmp 118), type := 0, pos := "law.go:229", after := #[{ on := 4, ground := .data }, { on := 5, ground := .data }], guard := none } (.pointer (some ⟨g, i, none⟩)) _ (by kernel_rfl) (by kernel_rfl) (by kernel_rfl) (by kernel_rfl) (by kernel_rfl) (fun _ _ _ h => h) (HSD.out 6) (fun x' hx => ?_) (by simp only [Act.put, List.setIfInBounds_toArray, List.set_cons_zero, List.set_cons_succ]; rfl) ?_
            · go_simp; try (with_reducible rfl)
            refine Og.s_take 7 { dst := some 120, op := .load 23 (.tmp 119), type := 23, pos := "law.go:229", after := #[{ on := 6, ground := .data }], guard := none } (.slice sv.a sv.l.length sv.c) _ (by kernel_rfl) (by kernel_rfl) (by kernel_rfl) (by kernel_rfl) (by kernel_rfl) (fun _ _ _ h => h) (HSD.out 7) (fun x' hx => ?_) (by simp only [Act.put, List.setIfInBounds_toArray, List.set_cons_zero, List.set_cons_succ]; rfl) ?_
            · have hx1 := hx.2 rfl; unfold Ev.Sl.v at hx1; go_simp; try (with_reducible rfl)
            refine Og.s_take 8 { dst := some 121, op := .move (.tmp 10), type := 3, pos := "law.go:229", after := #[], guard := none } (.int .i64 (xf.ev.length : Int)) _ (by kernel_rfl) (by kernel_rfl) (by kernel_rfl) (by kernel_rfl) (by kernel_rfl) (fun _ _ _ h => h) (HSD.out 8) (fun x' hx => ?_) (by simp only [Act.put, List.setIfInBounds_toArray, List.set_cons_zero, List.set_cons_succ]; rfl) ?_
            · go_simp; try (with_reducible rfl)
            -- what is built, appended, stored
            refine Og.s_one 9 { dst := some 122, op := .buildSlice 23 1 #[(0, .tmp 121)], type := 23, pos := "law.go:229", after := #[{ on := 8, ground := .data }], guard := none } (by kernel_rfl) (by kernel_rfl) (by kernel_rfl) ?_
            refine Og.run_to (v := .slice (some ⟨wq.heap.size, 0, none⟩) 1 1) (w' := wq.alloc (.cells #[.int .i64 (xf.ev.length : Int)] 3)) (by go_simp; try (with_reducible rfl)) ⟨Ev.keep_d (o := { dst := some 122, op := .buildSlice 23 1 #[(0, .tmp 121)], type := 23, pos := "law.go:229", after := #[{ on := 8, ground := .data }], guard := none }) (by kernel_rfl) (.inr fun h => Ev.cell_alloc _ h) (fun h => Ev.cell_alloc _ h), ?_⟩
            obtain ⟨v', w10, hrun10, hown10, hgrow10, _, hloc10⟩ := run_append_own_at (P := Try.prog) (wq.alloc (.cells #[.int .i64 (xf.ev.length : Int)] 3)) w.heap.size 23 23 3 i0 (.int .i64 0) 1 8 Try.underlying23 HI.out HZ0.out HZ1.out HZ2.out rfl (by decide) sv.v sv.l.length (sv.l.map Ev.nv) (Ev.row_kp (LQ.out.row _ _ HSV.out) ((Below.refl _ _).alloc (Nat.le_refl _) _)) ⟨wq.heap.size, 0, none⟩ 1 1 [Ev.nv (xf.ev.length : Int)] rfl (World.news_of_block (cs := #[.int .i64 (xf.ev.length : Int)]) (heap_alloc_new wq _)) (Ev.nv_one _) (by have := NS.out; unfold maxLen; omega) (by have := NS.out; omega) (by have := LQ.out.bel.size; simp only [World.size_alloc]; omega)
            obtain ⟨a10, c10, hv10, hq1, hq2, hl10⟩ := LQ.out.pushOd HSV.out (show Ev.i64B (xf.ev.length : Int) by have := NXP.out; unfold Ev.i64B; omega) hown10 hgrow10 hloc10 HG.out
            subst hv10
            have MV := Lib.hid (Ev.mv_of (B := g) (i := i) (u := .slice a10 (sv.l.length + 1) c10) hgrow10)
            have HR10 := Lib.hid hrun10; have L12 := Lib.hid hl10; have HQ1 := Lib.hid hq1; have HQ2 := Lib.hid hq2; have HG10 := Lib.hid hgrow10
            clear hrun10 hown10 hgrow10 hloc10 hl10 hq1 hq2
            refine Og.s_one 10 { dst := some 123, op := .call { callee := .builtin .append, args := #[.tmp 120, .tmp 122], argTypes := #[23, 23] }, type := 23, pos := "law.go:229", after := #[{ on := 7, ground := .data }, { on := 9, ground := .data }], guard := none } (by kernel_rfl) (by kernel_rfl) (by kernel_rfl) ?_
            refine Og.run_to (v := .slice a10 (sv.l.length + 1) c10) (w' := w10) (Og.append_to (.tmp 120) (.tmp 122) 23 (by kernel_rfl) (by kernel_rfl) (by kernel_rfl) HR10.out) ⟨Ev.keep_d (o := { dst := some 123, op := .call { callee := .builtin .append, args := #[.tmp 120, .tmp 122], argTypes := #[23, 23] }, type := 23, pos := "law.go:229", after := #[{ on := 7, ground := .data }, { on := 9, ground := .data }], guard := none }) (by kernel_rfl) (.inl ⟨{ on := 7, ground := .data }, by simp, by kernel_rfl, rfl⟩) (fun h => (Ev.grown_box LQ.out HG10.out (LQ.out.bne.2.2.2 _ _ HSV.out)).trans h), ?_⟩
            have HSB := Lib.hid (show Ev.Sd (w.heap.size) g i (.slice (some ⟨g, 0, none⟩) xf.od.length xf.co) sv.v 11 w10 from ⟨(Ev.grown_box LQ.out HG10.out (LQ.out.bne.2.2.2 _ _ HSV.out)).trans (Ev.cell_alloc _ (HSD.out 11).1), fun e => absurd e (by decide)⟩)
            refine Og.s_take 11 { dst := some 124, op := .indexAddr 24 (.tmp 114) (.tmp 115), type := 0, pos := "law.go:229", after := #[{ on := 1, ground := .data }, { on := 2, ground := .data }, { on := 0, ground := .phase }, { on := 1, ground := .phase }, { on := 2, ground := .phase }, { on := 3, ground := .phase }, { on := 4, ground := .phase }, { on := 5, ground := .phase }, { on := 6, ground := .phase }, { on := 7, ground := .phase }, { on := 8, ground := .phase }, { on := 9, ground := .phase }, { on := 10, ground := .phase }], guard := none } (.pointer (some ⟨g, i, none⟩)) _ (by kernel_rfl) (by kernel_rfl) (by kernel_rfl) (by kernel_rfl) (by kernel_rfl) (fun _ _ _ h => h) HSB.out (fun x' hx => ?_) (by simp only [Act.put, List.setIfInBounds_toArray, List.set_cons_zero, List.set_cons_succ]; rfl) ?_
            · go_simp; try (with_reducible rfl)
            refine Og.s_one 12 { dst := none, op := .store 23 (.tmp 124) (.tmp 123), type := 0, pos := "law.go:229", after := #[{ on := 11, ground := .data }, { on := 10, ground := .data }, { on := 10, ground := .chain }, { on := 0, ground := .phase }, { on := 1, ground := .phase }, { on := 2, ground := .phase }, { on := 3, ground := .phase }, { on := 4, ground := .phase }, { on := 5, ground := .phase }, { on := 6, ground := .phase }, { on := 7, ground := .phase }, { on := 8, ground := .phase }, { on := 9, ground := .phase }, { on := 10, ground := .phase }], guard := none } (by kernel_rfl) (by kernel_rfl) (by kernel_rfl) ?_
            refine Og.skip_to (w' := w10.setCell ⟨g, i, none⟩ (.slice a10 (sv.l.length + 1) c10)) ?_ ?_
            · exact Og.store_to 23 (.tmp 124) (.tmp 123) rfl (by kernel_rfl) (by kernel_rfl) (by kernel_rfl) HQ1.out HQ2.out
            obtain ⟨w12, hw12⟩ : ∃ w12, w12 = w10.setCell ⟨g, i, none⟩ (.slice a10 (sv.l.length + 1) c10) := ⟨_, rfl⟩
            rw [← hw12]
            refine And.intro (Ev.keep_d (o := { dst := none, op := .store 23 (.tmp 124) (.tmp 123), type := 0, pos := "law.go:229", after := #[{ on := 11, ground := .data }, { on := 10, ground := .data }, { on := 10, ground := .chain }, { on := 0, ground := .phase }, { on := 1, ground := .phase }, { on := 2, ground := .phase }, { on := 3, ground := .phase }, { on := 4, ground := .phase }, { on := 5, ground := .phase }, { on := 6, ground := .phase }, { on := 7, ground := .phase }, { on := 8, ground := .phase }, { on := 9, ground := .phase }, { on := 10, ground := .phase }], guard := none }) (by kernel_rfl) (.inl ⟨{ on := 7, ground := .phase }, Array.mem_of_getElem? (i := 10) (by kernel_rfl), by kernel_rfl, rfl⟩) (fun h => by rw [hw12]; exact (Ev.set_box LQ.out HG.out).trans h)) ?_
            rw [← hw12] at L12 MV
            clear hw12
            refine Og.s_done (by kernel_rfl) ?_ _
            simp only [Act.put, List.setIfInBounds_toArray, List.set_cons_zero, List.set_cons_succ]
            have RQ := Lib.hid ((BQ.out.block _ (Array.getElem?_eq_some_iff.1 R1b.out).1).trans R1b.out)
            have R12 := Lib.hid (MV.out.blk RQ.out (Ev.row_ne_box (LQ.out.row _ _ HSV.out) RQ.out (by decide)) (Ev.eb_ne LQ.out HG.out RQ.out))
            obtain ⟨x1, hx1⟩ : ∃ x1 : Ev.X, x1 = ⟨xf.ae, xf.ce, xf.ev, xf.fr, xf.ao, xf.co, xf.od.set i ⟨a10, c10, sv.l ++ [(xf.ev.length : Int)]⟩⟩ := ⟨_, rfl⟩
            have LX1 := Lib.hid (show Ev.Lay w w12 w.heap.size x1 by rw [hx1]; exact L12.out)
            have NX1 := Lib.hid (show x1.ev.length ≤ 40 by rw [hx1]; exact NXP.out)
            have NF1 := Lib.hid (show x1.fr.l.length ≤ 40 by rw [hx1]; exact NFP.out)
            have HX1 := Lib.hid hx1
            clear hx1
            have cx12 := Ev.xcell0 LX1.out.box
            go_wp2_with (first
              | ((with_reducible show wpList _ _ _ (Oper.mk (some 127) _ _ _ _ _ :: _) _ _); refine wpList_load_row rfl 54 (.tmp 12) rfl W3.heap.size (by kernel_rfl) 54 #[.int .i64 0, .int .i64 2, .int .u32 (4 * (i : Int)), .int .u32 1, .int .u32 0, .bool false, .bool false, .int .i64 0, .int .i64 0, .bool false, .slice none 0 0, .slice none 0 0, .slice none 0 0] (0, 0) _ R12.out Try.underlying54 rfl (by kernel_rfl) ?_)
              | ((with_reducible show wpList _ _ _ (Oper.mk (some 129) _ _ _ _ _ :: _) _ _); refine wpList_append_own_at _ rfl (.tmp 126) (.tmp 128) 22 rfl w.heap.size 54 ie (.agg (Ev.cells Ev.R0).toArray) 13 128 Try.underlying22 IE.out IY.out IS.out IB.out rfl (by decide) (Ev.evsV x1) x1.ev.length (x1.ev.map Ev.cells).flatten rfl (Ev.row_kp LX1.out.ev ((Below.refl _ _).alloc (Nat.le_refl _) _)) ⟨_, 0, none⟩ 1 1 (Ev.cells y) rfl rfl (by rw [HYC.out]; exact World.news_of_block (heap_alloc_new _ _)) (Ev.cells_one _) (by have := NX1.out; unfold maxLen; omega) (by have := NX1.out; omega) (by have := LX1.out.bel.size; simp only [World.size_alloc]; omega) ?_
                 intro v1 w1 hown1 hgrow1 _ hat1
                 obtain ⟨a1', c1', rfl, hb1, hl1⟩ := LX1.out.pushEv HYV.out hown1 hgrow1
                 have k0 := Ev.xcell0 hb1
                 have k1 := Ev.box_free (i := 0) hb1
                 obtain ⟨W2, hW2⟩ : ∃ W2, W2 = w1.setCell ⟨w.heap.size, 0, none⟩ (.slice a1' (x1.ev.length + 1) c1') := ⟨_, rfl⟩
                 have HW2x := Lib.hid hW2
                 have L2 := Lib.hid (hW2 ▸ hl1)
                 clear hown1 hgrow1 hat1 hb1 hl1 hW2)
              | ((with_reducible show wpList _ _ _ (Oper.mk (some 131) _ _ _ _ _ :: _) _ _); rw [show w1.setCell ⟨w.heap.size, 0, none⟩ (.slice a1' (x1.ev.length + 1) c1') = W2 from HW2x.out.symm]; have k2 := Ev.xcell1 L2.out.box)
              | ((with_reducible show wpList _ _ _ (Oper.mk (some 135) _ _ _ _ _ :: _) _ _); refine wpList_append_own_at _ rfl (.tmp 132) (.tmp 134) 23 rfl w.heap.size 3 i0 (.int .i64 0) 1 8 Try.underlying23 HI.out HZ0.out HZ1.out HZ2.out rfl (by decide) x1.fr.v x1.fr.l.length (x1.fr.l.map Ev.nv) rfl (Ev.row_kp L2.out.fr ((Below.refl _ _).alloc (Nat.le_refl _) _)) ⟨_, 0, none⟩ 1 1 [Ev.nv (-1)] rfl rfl (World.news_of_block (heap_alloc_new _ _)) (Ev.nv_one _) (by have := NF1.out; unfold maxLen; omega) (by have := NF1.out; omega) (by have := L2.out.bel.size; simp only [World.size_alloc]; omega) ?_
                 intro v3 w3 hown3 hgrow3 _ hat3
                 obtain ⟨a3, c3, rfl, hb3, hl3⟩ := L2.out.pushFr HFI.out hown3 hgrow3 hat3
                 have k3 := Ev.xcell1 hb3
                 have k4 := Ev.box_free (i := 1) hb3
                 have L3 := Lib.hid hl3
                 clear hown3 hgrow3 hat3 hb3 hl3))
            go_roundw
            case rel =>
              have hbl := BX.out.put HY.out HYS.out (w := i) (l := sv.l) (by rw [List.getElem?_map, HSV.out]; rfl) HYA.out
              refine ⟨i + 1, _, by omega, by go_num, ⟨L3.out, ?_, ?_, ?_⟩⟩
              · rw [HX1.out]
                show Ev.Bld (xf.ev ++ [y]) (xf.fr.l ++ [(-1)]) ((xf.od.set i _).map fun s : Ev.Sl => s.l)
                rw [List.map_set]; exact hbl
              · rw [HX1.out]; have := NXF.out; simp; omega
              · rw [HX1.out]; have := OXF.out; simpa using this
            case measure => simp [intOf]; omega
          · have HMM := Lib.hid (show 1 + r % 3 = 3 by omega)
            clear hm
            obtain ⟨W1, hW1⟩ : ∃ W1, W1 = W3.alloc (Obj.cells #[.int .i64 0, .int .i64 3, .int .u32 (4 * (i : Int)), .int .u32 0, .int .u32 0, .bool false, .bool false, .int .i64 0, .int .i64 0, .bool false, .slice none 0 0, .slice none 0 0, .slice none 0 0] 54) := ⟨_, rfl⟩
            have HW1 := Lib.hid hW1
            have BW1 := Lib.hid (show Below W3.heap.size W3 W1 by rw [hW1]; exact (Below.refl _ _).alloc (Nat.le_refl _) _)
            have RW1 := Lib.hid (show W1.heap[W3.heap.size]? = some (.cells #[.int .i64 0, .int .i64 3, .int .u32 (4 * (i : Int)), .int .u32 0, .int .u32 0, .bool false, .bool false, .int .i64 0, .int .i64 0, .bool false, .slice none 0 0, .slice none 0 0, .slice none 0 0] 54 (0, 0)) by rw [hW1]; exact heap_alloc_new _ _)
            have LW1 := Lib.hid (LX.out.kp BW1.out)
            obtain ⟨y, hy⟩ : ∃ y : Ev.R, y = ⟨0, 3, 4 * (i : Int), 1, 0, false, false, 0, 0, false, Ev.noS, Ev.noS, Ev.noS⟩ := ⟨_, rfl⟩
            have HLT := Lib.hid hlt
            have HY := Lib.hid (show Ev.Laid (xf.od.map (·.l)).length y (i : Int) by rw [hy]; exact .both i (by rw [HDL.out]; exact HLT.out) 1)
            have HYV := Lib.hid (show ∀ V, Ev.ROk V y from Ev.laid_ok (by rw [HDL.out]; have := HN.out; omega) HY.out (by rw [hy]; show Ev.u32B 1; unfold Ev.u32B; omega))
            have HYC := Lib.hid (show Ev.cells y = #[.int .i64 0, .int .i64 3, .int .u32 (4 * (i : Int)), .int .u32 1, .int .u32 0, .bool false, .bool false, .int .i64 0, .int .i64 0, .bool false, .slice none 0 0, .slice none 0 0, .slice none 0 0].toList by rw [hy]; rfl)
            have HYS := Lib.hid (show Ev.stores y.k = true by rw [hy]; rfl)
            have HYA := Lib.hid (show y.a = 4 * (i : Int) by rw [hy])
            have HFI := Lib.hid (show Ev.i64B (i : Int) by unfold Ev.i64B; omega)
            have hc0 := ((Ev.kp_below LX.out.bel) _ _ HC0.out)
            have hw4 : wrap64 (4 * (i : Int)) = 4 * i := (by unfold wrap64; omega)
            have HW4 := Lib.hid hw4
            have cxa := Ev.xcell0 LX.out.box
            clear hy hW1 hw4
            obtain ⟨W1b, hW1b⟩ : ∃ W1b, W1b = W3.alloc (Obj.cells #[.int .i64 0, .int .i64 3, .int .u32 (4 * (i : Int)), .int .u32 1, .int .u32 0, .bool false, .bool false, .int .i64 0, .int .i64 0, .bool false, .slice none 0 0, .slice none 0 0, .slice none 0 0] 54) := ⟨_, rfl⟩
            have HW1b := Lib.hid hW1b
            have R1b := Lib.hid (show W1b.heap[W3.heap.size]? = some (.cells #[.int .i64 0, .int .i64 3, .int .u32 (4 * (i : Int)), .int .u32 1, .int .u32 0, .bool false, .bool false, .int .i64 0, .int .i64 0, .bool false, .slice none 0 0, .slice none 0 0, .slice none 0 0] 54 (0, 0)) by rw [hW1b]; exact heap_alloc_new _ _)
            have B1b := Lib.hid (show Below W3.heap.size W3 W1b by rw [hW1b]; exact (Below.refl _ _).alloc (Nat.le_refl _) _)
            have L1b := Lib.hid (LX.out.kp B1b.out)
            obtain ⟨g, hg⟩ := LX.out.aoSome (by rw [OXF.out]; omega)
            have HG := Lib.hid hg
            obtain ⟨sv, hsv⟩ : ∃ sv, xf.od[i]? = some sv := ⟨_, List.getElem?_eq_getElem (by rw [OXF.out]; exact hlt)⟩
            have HSV := Lib.hid hsv
            have NS := Lib.hid (show sv.l.length ≤ 40 from Nat.le_trans (BX.out.rowLen (by rw [List.getElem?_map, hsv]; rfl)) (by have := NXP.out; omega))
            clear hW1b hg hsv
            go_wp2_with (first
              | ((with_reducible show wpList _ _ _ (Oper.mk (some 73) _ _ _ _ _ :: _) _ _); rw [HQ2.out])
              | ((with_reducible show wpList _ _ _ (Oper.mk (some 99) _ _ _ _ _ :: _) _ _); rw [HR.out])
              | ((with_reducible show wpList _ _ _ (Oper.mk (some 104) _ _ _ _ _ :: _) _ _); rw [HMM.out])
              | ((with_reducible show wpList _ _ _ (Oper.mk (some 106) _ _ _ _ _ :: _) _ _); rw [HMM.out])
              | ((with_reducible show wpList _ _ _ (Oper.mk (some 105) _ _ _ _ _ :: _) _ _); rw [HW4.out]))
            rw [show W3.alloc (Obj.cells #[.int .i64 0, .int .i64 3, .int .u32 (4 * (i : Int)), .int .u32 1, .int .u32 0, .bool false, .bool false, .int .i64 0, .int .i64 0, .bool false, .slice none 0 0, .slice none 0 0, .slice none 0 0] 54) = W1b from HW1b.out.symm]
            clear cxa
            obtain ⟨wq, hwq⟩ : ∃ wq, wq = { W1b with drawn := W1b.drawn + 1 } := ⟨_, rfl⟩
            have BQ := Lib.hid (show Below W1b.heap.size W1b wq by rw [hwq]; exact ⟨rfl, rfl, rfl, Nat.le_refl _, fun _ _ => rfl⟩)
            have LQ := Lib.hid (L1b.out.kp BQ.out)
            have HWQ := Lib.hid hwq
            clear hwq
            have SB := Lib.hid (Ev.xcell2 LQ.out.box)
            have SR := Lib.hid (Ev.od_cell LQ.out HSV.out HG.out)
            have HSD := Lib.hid (fun ii : Nat => (show Ev.Sd (w.heap.size) g i (.slice (some ⟨g, 0, none⟩) xf.od.length xf.co) sv.v ii wq from ⟨by have := SB.out; rw [HG.out] at this; exact this, fun _ => SR.out⟩))
            have hwo : (i : Int) < (xf.od.length : Int) := by have := (List.getElem?_eq_some_iff.1 HSV.out).1; omega
            refine Og.region_S (S := Ev.Sd (w.heap.size) g i (.slice (some ⟨g, 0, none⟩) xf.od.length xf.co) sv.v) (by kernel_rfl) ?_
            rw [← HWQ.out]
            refine Og.s_take 0 { dst := some 113, op := .fieldAddr 26 (.tmp 7) 2, type := 0, pos := "law.go:229", after := #[], guard := none } (.pointer (some ⟨w.heap.size, 2, none⟩)) _ (by kernel_rfl) (by kernel_rfl) (by kernel_rfl) (by kernel_rfl) (by kernel_rfl) (fun _ _ _ h => h) (HSD.out 0) (fun x' hx => ?_) (by simp only [Act.put, List.setIfInBounds_toArray, List.set_cons_zero, List.set_cons_succ]; rfl) ?_
            · go_simp; try (with_reducible rfl)
            refine Og.s_take 1 { dst := some 114, op := .load 24 (.tmp 113), type := 24, pos := "law.go:229", after := #[{ on := 0, ground := .data }], guard := none } (.slice (some ⟨g, 0, none⟩) xf.od.length xf.co) _ (by kernel_rfl) (by kernel_rfl) (by kernel_rfl) (by kernel_rfl) (by kernel_rfl) (fun _ _ _ h => h) (HSD.out 1) (fun x' hx => ?_) (by simp only [Act.put, List.setIfInBounds_toArray, List.set_cons_zero, List.set_cons_succ]; rfl) ?_
            · have hx1 := hx.1; go_simp; try (with_reducible rfl)
            refine Og.s_take 2 { dst := some 115, op := .move (.tmp 9), type := 3, pos := "law.go:229", after := #[], guard := none } (.int .i64 (i : Int)) _ (by kernel_rfl) (by kernel_rfl) (by kernel_rfl) (by kernel_rfl) (by kernel_rfl) (fun _ _ _ h => h) (HSD.out 2) (fun x' hx => ?_) (by simp only [Act.put, List.setIfInBounds_toArray, List.set_cons_zero, List.set_cons_succ]; rfl) ?_
            · go_simp; try (with_reducible rfl)
            refine Og.s_take 3 { dst := some 116, op := .fieldAddr 26 (.tmp 7) 2, type := 0, pos := "law.go:229", after := #[], guard := none } (.pointer (some ⟨w.heap.size, 2, none⟩)) _ (by kernel_rfl) (by kernel_rfl) (by kernel_rfl) (by kernel_rfl) (by kernel_rfl) (fun _ _ _ h => h) (HSD.out 3) (fun x' hx => ?_) (by simp only [Act.put, List.setIfInBounds_toArray, List.set_cons_zero, List.set_cons_succ]; rfl) ?_
            · go_simp; try (with_reducible rfl)
            refine Og.s_take 4 { dst := some 117, op := .load 24 (.tmp 116), type := 24, pos := "law.go:229", after := #[{ on := 3, ground := .data }], guard := none } (.slice (some ⟨g, 0, none⟩) xf.od.length xf.co) _ (by kernel_rfl) (by kernel_rfl) (by kernel_rfl) (by kernel_rfl) (by kernel_rfl) (fun _ _ _ h => h) (HSD.out 4) (fun x' hx => ?_) (by simp only [Act.put, List.setIfInBounds_toArray, List.set_cons_zero, List.set_cons_succ]; rfl) ?_
            · have hx1 := hx.1; go_simp; try (with_reducible rfl)
            refine Og.s_take 5 { dst := some 118, op := .move (.tmp 9), type := 3, pos := "law.go:229", after := #[], guard := none } (.int .i64 (i : Int)) _ (by kernel_rfl) (by kernel_rfl) (by kernel_rfl) (by kernel_rfl) (by kernel_rfl) (fun _ _ _ h => h) (HSD.out 5) (fun x' hx => ?_) (by simp only [Act.put, List.setIfInBounds_toArray, List.set_cons_zero, List.set_cons_succ]; rfl) ?_
            · go_simp; try (with_reducible rfl)
            refine Og.s_take 6 { dst := some 119, op := .indexAddr 24 (.tmp 117) (.tmp 118), type := 0, pos := "law.go:229", after := #[{ on := 4, ground := .data }, { on := 5, ground := .data }], guard := none } (.pointer (some ⟨g, i, none⟩)) _ (by kernel_rfl) (by kernel_rfl) (by kernel_rfl) (by kernel_rfl) (by kernel_rfl) (fun _ _ _ h => h) (HSD.out 6) (fun x' hx => ?_) (by simp only [Act.put, List.setIfInBounds_toArray, List.set_cons_zero, List.set_cons_succ]; rfl) ?_
            · go_simp; try (with_reducible rfl)
            refine Og.s_take 7 { dst := some 120, op := .load 23 (.tmp 119), type := 23, pos := "law.go:229", after := #[{ on := 6, ground := .data }], guard := none } (.slice sv.a sv.l.length sv.c) _ (by kernel_rfl) (by kernel_rfl) (by kernel_rfl) (by kernel_rfl) (by kernel_rfl) (fun _ _ _ h => h) (HSD.out 7) (fun x' hx => ?_) (by simp only [Act.put, List.setIfInBounds_toArray, List.set_cons_zero, List.set_cons_succ]; rfl) ?_
            · have hx1 := hx.2 rfl; unfold Ev.Sl.v at hx1; go_simp; try (with_reducible rfl)
            refine Og.s_take 8 { dst := some 121, op := .move (.tmp 10), type := 3, pos := "law.go:229", after := #[], guard := none } (.int .i64 (xf.ev.length : Int)) _ (by kernel_rfl) (by kernel_rfl) (by kernel_rfl) (by kernel_rfl) (by kernel_rfl) (fun _ _ _ h => h) (HSD.out 8) (fun x' hx => ?_) (by simp only [Act.put, List.setIfInBounds_toArray, List.set_cons_zero, List.set_cons_succ]; rfl) ?_
            · go_simp; try (with_reducible rfl)
            -- what is built, appended, stored
            refine Og.s_one 9 { dst := some 122, op := .buildSlice 23 1 #[(0, .tmp 121)], type := 23, pos := "law.go:229", after := #[{ on := 8, ground := .data }], guard := none } (by kernel_rfl) (by kernel_rfl) (by kernel_rfl) ?_
            refine Og.run_to (v := .slice (some ⟨wq.heap.size, 0, none⟩) 1 1) (w' := wq.alloc (.cells #[.int .i64 (xf.ev.length : Int)] 3)) (by go_simp; try (with_reducible rfl)) ⟨Ev.keep_d (o := { dst := some 122, op := .buildSlice 23 1 #[(0, .tmp 121)], type := 23, pos := "law.go:229", after := #[{ on := 8, ground := .data }], guard := none }) (by kernel_rfl) (.inr fun h => Ev.cell_alloc _ h) (fun h => Ev.cell_alloc _ h), ?_⟩
            obtain ⟨v', w10, hrun10, hown10, hgrow10, _, hloc10⟩ := run_append_own_at (P := Try.prog) (wq.alloc (.cells #[.int .i64 (xf.ev.length : Int)] 3)) w.heap.size 23 23 3 i0 (.int .i64 0) 1 8 Try.underlying23 HI.out HZ0.out HZ1.out HZ2.out rfl (by decide) sv.v sv.l.length (sv.l.map Ev.nv) (Ev.row_kp (LQ.out.row _ _ HSV.out) ((Below.refl _ _).alloc (Nat.le_refl _) _)) ⟨wq.heap.size, 0, none⟩ 1 1 [Ev.nv (xf.ev.length : Int)] rfl (World.news_of_block (cs := #[.int .i64 (xf.ev.length : Int)]) (heap_alloc_new wq _)) (Ev.nv_one _) (by have := NS.out; unfold maxLen; omega) (by have := NS.out; omega) (by have := LQ.out.bel.size; simp only [World.size_alloc]; omega)
            obtain ⟨a10, c10, hv10, hq1, hq2, hl10⟩ := LQ.out.pushOd HSV.out (show Ev.i64B (xf.ev.length : Int) by have := NXP.out; unfold Ev.i64B; omega) hown10 hgrow10 hloc10 HG.out
            subst hv10
            have MV := Lib.hid (Ev.mv_of (B := g) (i := i) (u := .slice a10 (sv.l.length + 1) c10) hgrow10)
            have HR10 := Lib.hid hrun10; have L12 := Lib.hid hl10; have HQ1 := Lib.hid hq1; have HQ2 := Lib.hid hq2; have HG10 := Lib.hid hgrow10
            clear hrun10 hown10 hgrow10 hloc10 hl10 hq1 hq2
            refine Og.s_one 10 { dst := some 123, op := .call { callee := .builtin .append, args := #[.tmp 120, .tmp 122], argTypes := #[23, 23] }, type := 23, pos := "law.go:229", after := #[{ on := 7, ground := .data }, { on := 9, ground := .data }], guard := none } (by kernel_rfl) (by kernel_rfl) (by kernel_rfl) ?_
            refine Og.run_to (v := .slice a10 (sv.l.length + 1) c10) (w' := w10) (Og.append_to (.tmp 120) (.tmp 122) 23 (by kernel_rfl) (by kernel_rfl) (by kernel_rfl) HR10.out) ⟨Ev.keep_d (o := { dst := some 123, op := .call { callee := .builtin .append, args := #[.tmp 120, .tmp 122], argTypes := #[23, 23] }, type := 23, pos := "law.go:229", after := #[{ on := 7, ground := .data }, { on := 9, ground := .data }], guard := none }) (by kernel_rfl) (.inl ⟨{ on := 7, ground := .data }, by simp, by kernel_rfl, rfl⟩) (fun h => (Ev.grown_box LQ.out HG10.out (LQ.out.bne.2.2.2 _ _ HSV.out)).trans h), ?_⟩
            have HSB := Lib.hid (show Ev.Sd (w.heap.size) g i (.slice (some ⟨g, 0, none⟩) xf.od.length xf.co) sv.v 11 w10 from ⟨(Ev.grown_box LQ.out HG10.out (LQ.out.bne.2.2.2 _ _ HSV.out)).trans (Ev.cell_alloc _ (HSD.out 11).1), fun e => absurd e (by decide)⟩)
            refine Og.s_take 11 { dst := some 124, op := .indexAddr 24 (.tmp 114) (.tmp 115), type := 0, pos := "law.go:229", after := #[{ on := 1, ground := .data }, { on := 2, ground := .data }, { on := 0, ground := .phase }, { on := 1, ground := .phase }, { on := 2, ground := .phase }, { on := 3, ground := .phase }, { on := 4, ground := .phase }, { on := 5, ground := .phase }, { on := 6, ground := .phase }, { on := 7, ground := .phase }, { on := 8, ground := .phase }, { on := 9, ground := .phase }, { on := 10, ground := .phase }], guard := none } (.pointer (some ⟨g, i, none⟩)) _ (by kernel_rfl) (by kernel_rfl) (by kernel_rfl) (by kernel_rfl) (by kernel_rfl) (fun _ _ _ h => h) HSB.out (fun x' hx => ?_) (by simp only [Act.put, List.setIfInBounds_toArray, List.set_cons_zero, List.set_cons_succ]; rfl) ?_
            · go_simp; try (with_reducible rfl)
            refine Og.s_one 12 { dst := none, op := .store 23 (.tmp 124) (.tmp 123), type := 0, pos := "law.go:229", after := #[{ on := 11, ground := .data }, { on := 10, ground := .data }, { on := 10, ground := .chain }, { on := 0, ground := .phase }, { on := 1, ground := .phase }, { on := 2, ground := .phase }, { on := 3, ground := .phase }, { on := 4, ground := .phase }, { on := 5, ground := .phase }, { on := 6, ground := .phase }, { on := 7, ground := .phase }, { on := 8, ground := .phase }, { on := 9, ground := .phase }, { on := 10, ground := .phase }], guard := none } (by kernel_rfl) (by kernel_rfl) (by kernel_rfl) ?_
            refine Og.skip_to (w' := w10.setCell ⟨g, i, none⟩ (.slice a10 (sv.l.length + 1) c10)) ?_ ?_
            · exact Og.store_to 23 (.tmp 124) (.tmp 123) rfl (by kernel_rfl) (by kernel_rfl) (by kernel_rfl) HQ1.out HQ2.out
            obtain ⟨w12, hw12⟩ : ∃ w12, w12 = w10.setCell ⟨g, i, none⟩ (.slice a10 (sv.l.length + 1) c10) := ⟨_, rfl⟩
            rw [← hw12]
            refine And.intro (Ev.keep_d (o := { dst := none, op := .store 23 (.tmp 124) (.tmp 123), type := 0, pos := "law.go:229", after := #[{ on := 11, ground := .data }, { on := 10, ground := .data }, { on := 10, ground := .chain }, { on := 0, ground := .phase }, { on := 1, ground := .phase }, { on := 2, ground := .phase }, { on := 3, ground := .phase }, { on := 4, ground := .phase }, { on := 5, ground := .phase }, { on := 6, ground := .phase }, { on := 7, ground := .phase }, { on := 8, ground := .phase }, { on := 9, ground := .phase }, { on := 10, ground := .phase }], guard := none }) (by kernel_rfl) (.inl ⟨{ on := 7, ground := .phase }, Array.mem_of_getElem? (i := 10) (by kernel_rfl), by kernel_rfl, rfl⟩) (fun h => by rw [hw12]; exact (Ev.set_box LQ.out HG.out).trans h)) ?_
            rw [← hw12] at L12 MV
            clear hw12
            refine Og.s_done (by kernel_rfl) ?_ _
            simp only [Act.put, List.setIfInBounds_toArray, List.set_cons_zero, List.set_cons_succ]
            have RQ := Lib.hid ((BQ.out.block _ (Array.getElem?_eq_some_iff.1 R1b.out).1).trans R1b.out)
            have R12 := Lib.hid (MV.out.blk RQ.out (Ev.row_ne_box (LQ.out.row _ _ HSV.out) RQ.out (by decide)) (Ev.eb_ne LQ.out HG.out RQ.out))
            obtain ⟨x1, hx1⟩ : ∃ x1 : Ev.X, x1 = ⟨xf.ae, xf.ce, xf.ev, xf.fr, xf.ao, xf.co, xf.od.set i ⟨a10, c10, sv.l ++ [(xf.ev.length : Int)]⟩⟩ := ⟨_, rfl⟩
            have LX1 := Lib.hid (show Ev.Lay w w12 w.heap.size x1 by rw [hx1]; exact L12.out)
            have NX1 := Lib.hid (show x1.ev.length ≤ 40 by rw [hx1]; exact NXP.out)
            have NF1 := Lib.hid (show x1.fr.l.length ≤ 40 by rw [hx1]; exact NFP.out)
            have HX1 := Lib.hid hx1
            clear hx1
            have cx12 := Ev.xcell0 LX1.out.box
            go_wp2_with (first
              | ((with_reducible show wpList _ _ _ (Oper.mk (some 127) _ _ _ _ _ :: _) _ _); refine wpList_load_row rfl 54 (.tmp 12) rfl W3.heap.size (by kernel_rfl) 54 #[.int .i64 0, .int .i64 3, .int .u32 (4 * (i : Int)), .int .u32 1, .int .u32 0, .bool false, .bool false, .int .i64 0, .int .i64 0, .bool false, .slice none 0 0, .slice none 0 0, .slice none 0 0] (0, 0) _ R12.out Try.underlying54 rfl (by kernel_rfl) ?_)
              | ((with_reducible show wpList _ _ _ (Oper.mk (some 129) _ _ _ _ _ :: _) _ _); refine wpList_append_own_at _ rfl (.tmp 126) (.tmp 128) 22 rfl w.heap.size 54 ie (.agg (Ev.cells Ev.R0).toArray) 13 128 Try.underlying22 IE.out IY.out IS.out IB.out rfl (by decide) (Ev.evsV x1) x1.ev.length (x1.ev.map Ev.cells).flatten rfl (Ev.row_kp LX1.out.ev ((Below.refl _ _).alloc (Nat.le_refl _) _)) ⟨_, 0, none⟩ 1 1 (Ev.cells y) rfl rfl (by rw [HYC.out]; exact World.news_of_block (heap_alloc_new _ _)) (Ev.cells_one _) (by have := NX1.out; unfold maxLen; omega) (by have := NX1.out; omega) (by have := LX1.out.bel.size; simp only [World.size_alloc]; omega) ?_
                 intro v1 w1 hown1 hgrow1 _ hat1
                 obtain ⟨a1', c1', rfl, hb1, hl1⟩ := LX1.out.pushEv HYV.out hown1 hgrow1
                 have k0 := Ev.xcell0 hb1
                 have k1 := Ev.box_free (i := 0) hb1
                 obtain ⟨W2, hW2⟩ : ∃ W2, W2 = w1.setCell ⟨w.heap.size, 0, none⟩ (.slice a1' (x1.ev.length + 1) c1') := ⟨_, rfl⟩
                 have HW2x := Lib.hid hW2
                 have L2 := Lib.hid (hW2 ▸ hl1)
                 clear hown1 hgrow1 hat1 hb1 hl1 hW2)
              | ((with_reducible show wpList _ _ _ (Oper.mk (some 131) _ _ _ _ _ :: _) _ _); rw [show w1.setCell ⟨w.heap.size, 0, none⟩ (.slice a1' (x1.ev.length + 1) c1') = W2 from HW2x.out.symm]; have k2 := Ev.xcell1 L2.out.box)
              | ((with_reducible show wpList _ _ _ (Oper.mk (some 135) _ _ _ _ _ :: _) _ _); refine wpList_append_own_at _ rfl (.tmp 132) (.tmp 134) 23 rfl w.heap.size 3 i0 (.int .i64 0) 1 8 Try.underlying23 HI.out HZ0.out HZ1.out HZ2.out rfl (by decide) x1.fr.v x1.fr.l.length (x1.fr.l.map Ev.nv) rfl (Ev.row_kp L2.out.fr ((Below.refl _ _).alloc (Nat.le_refl _) _)) ⟨_, 0, none⟩ 1 1 [Ev.nv (i : Int)] rfl rfl (World.news_of_block (heap_alloc_new _ _)) (Ev.nv_one _) (by have := NF1.out; unfold maxLen; omega) (by have := NF1.out; omega) (by have := L2.out.bel.size; simp only [World.size_alloc]; omega) ?_
                 intro v3 w3 hown3 hgrow3 _ hat3
                 obtain ⟨a3, c3, rfl, hb3, hl3⟩ := L2.out.pushFr HFI.out hown3 hgrow3 hat3
                 have k3 := Ev.xcell1 hb3
                 have k4 := Ev.box_free (i := 1) hb3
                 have L3 := Lib.hid hl3
                 clear hown3 hgrow3 hat3 hb3 hl3))
            go_roundw
            case rel =>
              have hbl := BX.out.put HY.out HYS.out (w := i) (l := sv.l) (by rw [List.getElem?_map, HSV.out]; rfl) HYA.out
              refine ⟨i + 1, _, by omega, by go_num, ⟨L3.out, ?_, ?_, ?_⟩⟩
              · rw [HX1.out]
                show Ev.Bld (xf.ev ++ [y]) (xf.fr.l ++ [(i : Int)]) ((xf.od.set i _).map fun s : Ev.Sl => s.l)
                rw [List.map_set]; exact hbl
              · rw [HX1.out]; have := NXF.out; simp; omega
              · rw [HX1.out]; have := OXF.out; simpa using this
            case measure => simp [intOf]; omega
        have tF : ((i : Int) == (HF2 : Int)) = false := by rw [beq_eq_false_iff_ne]; omega
        clear hf
        have OXF := Lib.hid HX.out.ol
        have LX := Lib.hid HX.out.lay
        clear HDL
        have NXP := Lib.hid (show x.ev.length ≤ 40 by have := HX.out.len; have := HN.out; omega)
        have NFP := Lib.hid (show x.fr.l.length ≤ 40 by rw [HX.out.bld.fl]; exact NXP.out)
        have HDL := Lib.hid (show (x.od.map (·.l)).length = x2.length by rw [List.length_map]; exact OXF.out)
        rcases HM3.out with hm | hm | hm
        · have HMM := Lib.hid (show 1 + r % 3 = 1 by omega)
          clear hm
          obtain ⟨W1, hW1⟩ : ∃ W1, W1 = wr.alloc (Obj.cells #[.int .i64 0, .int .i64 1, .int .u32 (4 * (i : Int)), .int .u32 0, .int .u32 0, .bool false, .bool false, .int .i64 0, .int .i64 0, .bool false, .slice none 0 0, .slice none 0 0, .slice none 0 0] 54) := ⟨_, rfl⟩
          have HW1 := Lib.hid hW1
          have BW1 := Lib.hid (show Below wr.heap.size wr W1 by rw [hW1]; exact (Below.refl _ _).alloc (Nat.le_refl _) _)
          have RW1 := Lib.hid (show W1.heap[wr.heap.size]? = some (.cells #[.int .i64 0, .int .i64 1, .int .u32 (4 * (i : Int)), .int .u32 0, .int .u32 0, .bool false, .bool false, .int .i64 0, .int .i64 0, .bool false, .slice none 0 0, .slice none 0 0, .slice none 0 0] 54 (0, 0)) by rw [hW1]; exact heap_alloc_new _ _)
          have LW1 := Lib.hid (LX.out.kp BW1.out)
          obtain ⟨y, hy⟩ : ∃ y : Ev.R, y = ⟨0, 1, 4 * (i : Int), 0, 0, false, false, 0, 0, false, Ev.noS, Ev.noS, Ev.noS⟩ := ⟨_, rfl⟩
          have HLT := Lib.hid hlt
          have HY := Lib.hid (show Ev.Laid (x.od.map (·.l)).length y (i : Int) by rw [hy]; exact .load i (by rw [HDL.out]; exact HLT.out) false)
          have HYV := Lib.hid (show ∀ V, Ev.ROk V y from Ev.laid_ok (by rw [HDL.out]; have := HN.out; omega) HY.out (by rw [hy]; show Ev.u32B 0; unfold Ev.u32B; omega))
          have HYC := Lib.hid (show Ev.cells y = #[.int .i64 0, .int .i64 1, .int .u32 (4 * (i : Int)), .int .u32 0, .int .u32 0, .bool false, .bool false, .int .i64 0, .int .i64 0, .bool false, .slice none 0 0, .slice none 0 0, .slice none 0 0].toList by rw [hy]; rfl)
          have HYS := Lib.hid (show Ev.stores y.k = false by rw [hy]; rfl)
          have HYA := Lib.hid (show y.a = 4 * (i : Int) by rw [hy])
          have HFI := Lib.hid (show Ev.i64B (i : Int) by unfold Ev.i64B; omega)
          have hc0 := ((Ev.kp_below LX.out.bel) _ _ HC0.out)
          have hw4 : wrap64 (4 * (i : Int)) = 4 * i := (by unfold wrap64; omega)
          have HW4 := Lib.hid hw4
          have cxa := Ev.xcell0 LX.out.box
          clear hy hW1 hw4
          have cx1 := Ev.xcell0 LW1.out.box
          go_wp2_with (first
            | ((with_reducible show wpList _ _ _ (Oper.mk (some 73) _ _ _ _ _ :: _) _ _); rw [HQ2.out])
            | ((with_reducible show wpList _ _ _ (Oper.mk (some 99) _ _ _ _ _ :: _) _ _); rw [HR.out])
            | ((with_reducible show wpList _ _ _ (Oper.mk (some 104) _ _ _ _ _ :: _) _ _); rw [HMM.out])
            | ((with_reducible show wpList _ _ _ (Oper.mk (some 106) _ _ _ _ _ :: _) _ _); rw [HMM.out])
            | ((with_reducible show wpList _ _ _ (Oper.mk (some 105) _ _ _ _ _ :: _) _ _); rw [HW4.out])
            | ((with_reducible show wpList _ _ _ (Oper.mk (some 125) _ _ _ _ _ :: _) _ _); rw [show wr.alloc (Obj.cells #[.int .i64 0, .int .i64 1, .int .u32 (4 * (i : Int)), .int .u32 0, .int .u32 0, .bool false, .bool false, .int .i64 0, .int .i64 0, .bool false, .slice none 0 0, .slice none 0 0, .slice none 0 0] 54) = W1 from HW1.out.symm])
            | ((with_reducible show wpList _ _ _ (Oper.mk (some 127) _ _ _ _ _ :: _) _ _); refine wpList_load_row rfl 54 (.tmp 12) rfl wr.heap.size (by kernel_rfl) 54 #[.int .i64 0, .int .i64 1, .int .u32 (4 * (i : Int)), .int .u32 0, .int .u32 0, .bool false, .bool false, .int .i64 0, .int .i64 0, .bool false, .slice none 0 0, .slice none 0 0, .slice none 0 0] (0, 0) _ RW1.out Try.underlying54 rfl (by kernel_rfl) ?_)
            | ((with_reducible show wpList _ _ _ (Oper.mk (some 129) _ _ _ _ _ :: _) _ _); refine wpList_append_own_at _ rfl (.tmp 126) (.tmp 128) 22 rfl w.heap.size 54 ie (.agg (Ev.cells Ev.R0).toArray) 13 128 Try.underlying22 IE.out IY.out IS.out IB.out rfl (by decide) (Ev.evsV x) x.ev.length (x.ev.map Ev.cells).flatten rfl (Ev.row_kp LW1.out.ev ((Below.refl _ _).alloc (Nat.le_refl _) _)) ⟨_, 0, none⟩ 1 1 (Ev.cells y) rfl rfl (by rw [HYC.out]; exact World.news_of_block (heap_alloc_new _ _)) (Ev.cells_one _) (by have := NXP.out; unfold maxLen; omega) (by have := NXP.out; omega) (by have := LW1.out.bel.size; simp only [World.size_alloc]; omega) ?_
               intro v1 w1 hown1 hgrow1 _ hat1
               obtain ⟨a1', c1', rfl, hb1, hl1⟩ := LW1.out.pushEv HYV.out hown1 hgrow1
               have k0 := Ev.xcell0 hb1
               have k1 := Ev.box_free (i := 0) hb1
               obtain ⟨W2, hW2⟩ : ∃ W2, W2 = w1.setCell ⟨w.heap.size, 0, none⟩ (.slice a1' (x.ev.length + 1) c1') := ⟨_, rfl⟩
               have HW2x := Lib.hid hW2
               have L2 := Lib.hid (hW2 ▸ hl1)
               clear hown1 hgrow1 hat1 hb1 hl1 hW2)
            | ((with_reducible show wpList _ _ _ (Oper.mk (some 131) _ _ _ _ _ :: _) _ _); rw [show w1.setCell ⟨w.heap.size, 0, none⟩ (.slice a1' (x.ev.length + 1) c1') = W2 from HW2x.out.symm]; have k2 := Ev.xcell1 L2.out.box)
            | ((with_reducible show wpList _ _ _ (Oper.mk (some 135) _ _ _ _ _ :: _) _ _); refine wpList_append_own_at _ rfl (.tmp 132) (.tmp 134) 23 rfl w.heap.size 3 i0 (.int .i64 0) 1 8 Try.underlying23 HI.out HZ0.out HZ1.out HZ2.out rfl (by decide) x.fr.v x.fr.l.length (x.fr.l.map Ev.nv) rfl (Ev.row_kp L2.out.fr ((Below.refl _ _).alloc (Nat.le_refl _) _)) ⟨_, 0, none⟩ 1 1 [Ev.nv (i : Int)] rfl rfl (World.news_of_block (heap_alloc_new _ _)) (Ev.nv_one _) (by have := NFP.out; unfold maxLen; omega) (by have := NFP.out; omega) (by have := L2.out.bel.size; simp only [World.size_alloc]; omega) ?_
               intro v3 w3 hown3 hgrow3 _ hat3
               obtain ⟨a3, c3, rfl, hb3, hl3⟩ := L2.out.pushFr HFI.out hown3 hgrow3 hat3
               have k3 := Ev.xcell1 hb3
               have k4 := Ev.box_free (i := 1) hb3
               have L3 := Lib.hid hl3
               clear hown3 hgrow3 hat3 hb3 hl3))
          go_roundw
          case rel => exact ⟨i + 1, _, by omega, by go_num, ⟨L3.out, HX.out.bld.more HY.out HYS.out, by have := HX.out.len; simp; omega, OXF.out⟩⟩
          case measure => simp [intOf]; omega
        · have HMM := Lib.hid (show 1 + r % 3 = 2 by omega)
          clear hm
          obtain ⟨W1, hW1⟩ : ∃ W1, W1 = wr.alloc (Obj.cells #[.int .i64 0, .int .i64 2, .int .u32 (4 * (i : Int)), .int .u32 0, .int .u32 0, .bool false, .bool false, .int .i64 0, .int .i64 0, .bool false, .slice none 0 0, .slice none 0 0, .slice none 0 0] 54) := ⟨_, rfl⟩
          have HW1 := Lib.hid hW1
          have BW1 := Lib.hid (show Below wr.heap.size wr W1 by rw [hW1]; exact (Below.refl _ _).alloc (Nat.le_refl _) _)
          have RW1 := Lib.hid (show W1.heap[wr.heap.size]? = some (.cells #[.int .i64 0, .int .i64 2, .int .u32 (4 * (i : Int)), .int .u32 0, .int .u32 0, .bool false, .bool false, .int .i64 0, .int .i64 0, .bool false, .slice none 0 0, .slice none 0 0, .slice none 0 0] 54 (0, 0)) by rw [hW1]; exact heap_alloc_new _ _)
          have LW1 := Lib.hid (LX.out.kp BW1.out)
          obtain ⟨y, hy⟩ : ∃ y : Ev.R, y = ⟨0, 2, 4 * (i : Int), 1, 0, false, false, 0, 0, false, Ev.noS, Ev.noS, Ev.noS⟩ := ⟨_, rfl⟩
          have HLT := Lib.hid hlt
          have HY := Lib.hid (show Ev.Laid (x.od.map (·.l)).length y (-1) by rw [hy]; exact .store i (by rw [HDL.out]; exact HLT.out) 1 false)
          have HYV := Lib.hid (show ∀ V, Ev.ROk V y from Ev.laid_ok (by rw [HDL.out]; have := HN.out; omega) HY.out (by rw [hy]; show Ev.u32B 1; unfold Ev.u32B; omega))
          have HYC := Lib.hid (show Ev.cells y = #[.int .i64 0, .int .i64 2, .int .u32 (4 * (i : Int)), .int .u32 1, .int .u32 0, .bool false, .bool false, .int .i64 0, .int .i64 0, .bool false, .slice none 0 0, .slice none 0 0, .slice none 0 0].toList by rw [hy]; rfl)
          have HYS := Lib.hid (show Ev.stores y.k = true by rw [hy]; rfl)
          have HYA := Lib.hid (show y.a = 4 * (i : Int) by rw [hy])
          have HFI := Lib.hid (show Ev.i64B (-1) by unfold Ev.i64B; omega)
          have hc0 := ((Ev.kp_below LX.out.bel) _ _ HC0.out)
          have hw4 : wrap64 (4 * (i : Int)) = 4 * i := (by unfold wrap64; omega)
          have HW4 := Lib.hid hw4
          have cxa := Ev.xcell0 LX.out.box
          clear hy hW1 hw4
          obtain ⟨W1b, hW1b⟩ : ∃ W1b, W1b = wr.alloc (Obj.cells #[.int .i64 0, .int .i64 2, .int .u32 (4 * (i : Int)), .int .u32 1, .int .u32 0, .bool false, .bool false, .int .i64 0, .int .i64 0, .bool false, .slice none 0 0, .slice none 0 0, .slice none 0 0] 54) := ⟨_, rfl⟩
          have HW1b := Lib.hid hW1b
          have R1b := Lib.hid (show W1b.heap[wr.heap.size]? = some (.cells #[.int .i64 0, .int .i64 2, .int .u32 (4 * (i : Int)), .int .u32 1, .int .u32 0, .bool false, .bool false, .int .i64 0, .int .i64 0, .bool false, .slice none 0 0, .slice none 0 0, .slice none 0 0] 54 (0, 0)) by rw [hW1b]; exact heap_alloc_new _ _)
          have B1b := Lib.hid (show Below wr.heap.size wr W1b by rw [hW1b]; exact (Below.refl _ _).alloc (Nat.le_refl _) _)
          have L1b := Lib.hid (LX.out.kp B1b.out)
          obtain ⟨g, hg⟩ := LX.out.aoSome (by rw [OXF.out]; omega)
          have HG := Lib.hid hg
          obtain ⟨sv, hsv⟩ : ∃ sv, x.od[i]? = some sv := ⟨_, List.getElem?_eq_getElem (by rw [OXF.out]; exact hlt)⟩
          have HSV := Lib.hid hsv
          have NS := Lib.hid (show sv.l.length ≤ 40 from Nat.le_trans (HX.out.bld.rowLen (by rw [List.getElem?_map, hsv]; rfl)) (by have := NXP.out; omega))
          clear hW1b hg hsv
          go_wp2_with (first
            | ((with_reducible show wpList _ _ _ (Oper.mk (some 73) _ _ _ _ _ :: _) _ _); rw [HQ2.out])
            | ((with_reducible show wpList _ _ _ (Oper.mk (some 99) _ _ _ _ _ :: _) _ _); rw [HR.out])
            | ((with_reducible show wpList _ _ _ (Oper.mk (some 104) _ _ _ _ _ :: _) _ _); rw [HMM.out])
            | ((with_reducible show wpList _ _ _ (Oper.mk (some 106) _ _ _ _ _ :: _) _ _); rw [HMM.out])
            | ((with_reducible show wpList _ _ _ (Oper.mk (some 105) _ _ _ _ _ :: _) _ _); rw [HW4.out]))
          rw [show wr.alloc (Obj.cells #[.int .i64 0, .int .i64 2, .int .u32 (4 * (i : Int)), .int .u32 1, .int .u32 0, .bool false, .bool false, .int .i64 0, .int .i64 0, .bool false, .slice none 0 0, .slice none 0 0, .slice none 0 0] 54) = W1b from HW1b.out.symm]
          clear cxa
          obtain ⟨wq, hwq⟩ : ∃ wq, wq = { W1b with drawn := W1b.drawn + 1 } := ⟨_, rfl⟩
          have BQ := Lib.hid (show Below W1b.heap.size W1b wq by rw [hwq]; exact ⟨rfl, rfl, rfl, Nat.le_refl _, fun _ _ => rfl⟩)
          have LQ := Lib.hid (L1b.out.kp BQ.out)
          have HWQ := Lib.hid hwq
          clear hwq
          have SB := Lib.hid (Ev.xcell2 LQ.out.box)
          have SR := Lib.hid (Ev.od_cell LQ.out HSV.out HG.out)
          have HSD := Lib.hid (fun ii : Nat => (show Ev.Sd (w.heap.size) g i (.slice (some ⟨g, 0, none⟩) x.od.length x.co) sv.v ii wq from ⟨by have := SB.out; rw [HG.out] at this; exact this, fun _ => SR.out⟩))
          have hwo : (i : Int) < (x.od.length : Int) := by have := (List.getElem?_eq_some_iff.1 HSV.out).1; omega
          refine Og.region_S (S := Ev.Sd (w.heap.size) g i (.slice (some ⟨g, 0, none⟩) x.od.length x.co) sv.v) (by kernel_rfl) ?_
          rw [← HWQ.out]
          refine Og.s_take 0 { dst := some 113, op := .fieldAddr 26 (.tmp 7) 2, type := 0, pos := "law.go:229", after := #[], guard := none } (.pointer (some ⟨w.heap.size, 2, none⟩)) _ (by kernel_rfl) (by kernel_rfl) (by kernel_rfl) (by kernel_rfl) (by kernel_rfl) (fun _ _ _ h => h) (HSD.out 0) (fun x' hx => ?_) (by simp only [Act.put, List.setIfInBounds_toArray, List.set_cons_zero, List.set_cons_succ]; rfl) ?_
          · go_simp; try (with_reducible rfl)
          refine Og.s_take 1 { dst := some 114, op := .load 24 (.tmp 113), type := 24, pos := "law.go:229", after := #[{ on := 0, ground := .data }], guard := none } (.slice (some ⟨g, 0, none⟩) x.od.length x.co) _ (by kernel_rfl) (by kernel_rfl) (by kernel_rfl) (by kernel_rfl) (by kernel_rfl) (fun _ _ _ h => h) (HSD.out 1) (fun x' hx => ?_) (by simp only [Act.put, List.setIfInBounds_toArray, List.set_cons_zero, List.set_cons_succ]; rfl) ?_
          · have hx1 := hx.1; go_simp; try (with_reducible rfl)
          refine Og.s_take 2 { dst := some 115, op := .move (.tmp 9), type := 3, pos := "law.go:229", after := #[], guard := none } (.int .i64 (i : Int)) _ (by kernel_rfl) (by kernel_rfl) (by kernel_rfl) (by kernel_rfl) (by kernel_rfl) (fun _ _ _ h => h) (HSD.out 2) (fun x' hx => ?_) (by simp only [Act.put, List.setIfInBounds_toArray, List.set_cons_zero, List.set_cons_succ]; rfl) ?_
          · go_simp; try (with_reducible rfl)
          refine Og.s_take 3 { dst := some 116, op := .fieldAddr 26 (.tmp 7) 2, type := 0, pos := "law.go:229", after := #[], guard := none } (.pointer (some ⟨w.heap.size, 2, none⟩)) _ (by kernel_rfl) (by kernel_rfl) (by kernel_rfl) (by kernel_rfl) (by kernel_rfl) (fun _ _ _ h => h) (HSD.out 3) (fun x' hx => ?_) (by simp only [Act.put, List.setIfInBounds_toArray, List.set_cons_zero, List.set_cons_succ]; rfl) ?_
          · go_simp; try (with_reducible rfl)
          refine Og.s_take 4 { dst := some 117, op := .load 24 (.tmp 116), type := 24, pos := "law.go:229", after := #[{ on := 3, ground := .data }], guard := none } (.slice (some ⟨g, 0, none⟩) x.od.length x.co) _ (by kernel_rfl) (by kernel_rfl) (by kernel_rfl) (by kernel_rfl) (by kernel_rfl) (fun _ _ _ h => h) (HSD.out 4) (fun x' hx => ?_) (by simp only [Act.put, List.setIfInBounds_toArray, List.set_cons_zero, List.set_cons_succ]; rfl) ?_
          · have hx1 := hx.1; go_simp; try (with_reducible rfl)
          refine Og.s_take 5 { dst := some 118, op := .move (.tmp 9), type := 3, pos := "law.go:229", after := #[], guard := none } (.int .i64 (i : Int)) _ (by kernel_rfl) (by kernel_rfl) (by kernel_rfl) (by kernel_rfl) (by kernel_rfl) (fun _ _ _ h => h) (HSD.out 5) (fun x' hx => ?_) (by simp only [Act.put, List.setIfInBounds_toArray, List.set_cons_zero, List.set_cons_succ]; rfl) ?_
          · go_simp; try (with_reducible rfl)
          refine Og.s_take 6 { dst := some 119, op := .indexAddr 24 (.tmp 117) (.tmp 118), type := 0, pos := "law.go:229", after := #[{ on := 4, ground := .data }, { on := 5, ground := .data }], guard := none } (.pointer (some ⟨g, i, none⟩)) _ (by kernel_rfl) (by kernel_rfl) (by kernel_rfl) (by kernel_rfl) (by kernel_rfl) (fun _ _ _ h => h) (HSD.out 6) (fun x' hx => ?_) (by simp only [Act.put, List.setIfInBounds_toArray, List.set_cons_zero, List.set_cons_succ]; rfl) ?_
          · go_simp; try (with_reducible rfl)
          refine Og.s_take 7 { dst := some 120, op := .load 23 (.tmp 119), type := 23, pos := "law.go:229", after := #[{ on := 6, ground := .data }], guard := none } (.slice sv.a sv.l.length sv.c) _ (by kernel_rfl) (by kernel_rfl) (by kernel_rfl) (by kernel_rfl) (by kernel_rfl) (fun _ _ _ h => h) (HSD.out 7) (fun x' hx => ?_) (by simp only [Act.put, List.setIfInBounds_toArray, List.set_cons_zero, List.set_cons_succ]; rfl) ?_
          · have hx1 := hx.2 rfl; unfold Ev.Sl.v at hx1; go_simp; try (with_reducible rfl)
          refine Og.s_take 8 { dst := some 121, op := .move (.tmp 10), type := 3, pos := "law.go:229", after := #[], guard := none } (.int .i64 (x.ev.length : Int)) _ (by kernel_rfl) (by kernel_rfl) (by kernel_rfl) (by kernel_rfl) (by kernel_rfl) (fun _ _ _ h => h) (HSD.out 8) (fun x' hx => ?_) (by simp only [Act.put, List.setIfInBounds_toArray, List.set_cons_zero, List.set_cons_succ]; rfl) ?_
          · go_simp; try (with_reducible rfl)
          -- what is built, appended, stored
          refine Og.s_one 9 { dst := some 122, op := .buildSlice 23 1 #[(0, .tmp 121)], type := 23, pos := "law.go:229", after := #[{ on := 8, ground := .data }], guard := none } (by kernel_rfl) (by kernel_rfl) (by kernel_rfl) ?_
          refine Og.run_to (v := .slice (some ⟨wq.heap.size, 0, none⟩) 1 1) (w' := wq.alloc (.cells #[.int .i64 (x.ev.length : Int)] 3)) (by go_simp; try (with_reducible rfl)) ⟨Ev.keep_d (o := { dst := some 122, op := .buildSlice 23 1 #[(0, .tmp 121)], type := 23, pos := "law.go:229", after := #[{ on := 8, ground := .data }], guard := none }) (by kernel_rfl) (.inr fun h => Ev.cell_alloc _ h) (fun h => Ev.cell_alloc _ h), ?_⟩
          obtain ⟨v', w10, hrun10, hown10, hgrow10, _, hloc10⟩ := run_append_own_at (P := Try.prog) (wq.alloc (.cells #[.int .i64 (x.ev.length : Int)] 3)) w.heap.size 23 23 3 i0 (.int .i64 0) 1 8 Try.underlying23 HI.out HZ0.out HZ1.out HZ2.out rfl (by decide) sv.v sv.l.length (sv.l.map Ev.nv) (Ev.row_kp (LQ.out.row _ _ HSV.out) ((Below.refl _ _).alloc (Nat.le_refl _) _)) ⟨wq.heap.size, 0, none⟩ 1 1 [Ev.nv (x.ev.length : Int)] rfl (World.news_of_block (cs := #[.int .i64 (x.ev.length : Int)]) (heap_alloc_new wq _)) (Ev.nv_one _) (by have := NS.out; unfold maxLen; omega) (by have := NS.out; omega) (by have := LQ.out.bel.size; simp only [World.size_alloc]; omega)
          obtain ⟨a10, c10, hv10, hq1, hq2, hl10⟩ := LQ.out.pushOd HSV.out (show Ev.i64B (x.ev.length : Int) by have := NXP.out; unfold Ev.i64B; omega) hown10 hgrow10 hloc10 HG.out
          subst hv10
          have MV := Lib.hid (Ev.mv_of (B := g) (i := i) (u := .slice a10 (sv.l.length + 1) c10) hgrow10)
          have HR10 := Lib.hid hrun10; have L12 := Lib.hid hl10; have HQ1 := Lib.hid hq1; have HQ2 := Lib.hid hq2; have HG10 := Lib.hid hgrow10
          clear hrun10 hown10 hgrow10 hloc10 hl10 hq1 hq2
          refine Og.s_one 10 { dst := some 123, op := .call { callee := .builtin .append, args := #[.tmp 120, .tmp 122], argTypes := #[23, 23] }, type := 23, pos := "law.go:229", after := #[{ on := 7, ground := .data }, { on := 9, ground := .data }], guard := none } (by kernel_rfl) (by kernel_rfl) (by kernel_rfl) ?_
          refine Og.run_to (v := .slice a10 (sv.l.length + 1) c10) (w' := w10) (Og.append_to (.tmp 120) (.tmp 122) 23 (by kernel_rfl) (by kernel_rfl) (by kernel_rfl) HR10.out) ⟨Ev.keep_d (o := { dst := some 123, op := .call { callee := .builtin .append, args := #[.tmp 120, .tmp 122], argTypes := #[23, 23] }, type := 23, pos := "law.go:229", after := #[{ on := 7, ground := .data }, { on := 9, ground := .data }], guard := none }) (by kernel_rfl) (.inl ⟨{ on := 7, ground := .data }, by simp, by kernel_rfl, rfl⟩) (fun h => (Ev.grown_box LQ.out HG10.out (LQ.out.bne.2.2.2 _ _ HSV.out)).trans h), ?_⟩
          have HSB := Lib.hid (show Ev.Sd (w.heap.size) g i (.slice (some ⟨g, 0, none⟩) x.od.length x.co) sv.v 11 w10 from ⟨(Ev.grown_box LQ.out HG10.out (LQ.out.bne.2.2.2 _ _ HSV.out)).trans (Ev.cell_alloc _ (HSD.out 11).1), fun e => absurd e (by decide)⟩)
          refine Og.s_take 11 { dst := some 124, op := .indexAddr 24 (.tmp 114) (.tmp 115), type := 0, pos := "law.go:229", after := #[{ on := 1, ground := .data }, { on := 2, ground := .data }, { on := 0, ground := .phase }, { on := 1, ground := .phase }, { on := 2, ground := .phase }, { on := 3, ground := .phase }, { on := 4, ground := .phase }, { on := 5, ground := .phase }, { on := 6, ground := .phase }, { on := 7, ground := .phase }, { on := 8, ground := .phase }, { on := 9, ground := .phase }, { on := 10, ground := .phase }], guard := none } (.pointer (some ⟨g, i, none⟩)) _ (by kernel_rfl) (by kernel_rfl) (by kernel_rfl) (by kernel_rfl) (by kernel_rfl) (fun _ _ _ h => h) HSB.out (fun x' hx => ?_) (by simp only [Act.put, List.setIfInBounds_toArray, List.set_cons_zero, List.set_cons_succ]; rfl) ?_
          · go_simp; try (with_reducible rfl)
          refine Og.s_one 12 { dst := none, op := .store 23 (.tmp 124) (.tmp 123), type := 0, pos := "law.go:229", after := #[{ on := 11, ground := .data }, { on := 10, ground := .data }, { on := 10, ground := .chain }, { on := 0, ground := .phase }, { on := 1, ground := .phase }, { on := 2, ground := .phase }, { on := 3, ground := .phase }, { on := 4, ground := .phase }, { on := 5, ground := .phase }, { on := 6, ground := .phase }, { on := 7, ground := .phase }, { on := 8, ground := .phase }, { on := 9, ground := .phase }, { on := 10, ground := .phase }], guard := none } (by kernel_rfl) (by kernel_rfl) (by kernel_rfl) ?_
          refine Og.skip_to (w' := w10.setCell ⟨g, i, none⟩ (.slice a10 (sv.l.length + 1) c10)) ?_ ?_
          · exact Og.store_to 23 (.tmp 124) (.tmp 123) rfl (by kernel_rfl) (by kernel_rfl) (by kernel_rfl) HQ1.out HQ2.out
          obtain ⟨w12, hw12⟩ : ∃ w12, w12 = w10.setCell ⟨g, i, none⟩ (.slice a10 (sv.l.length + 1) c10) := ⟨_, rfl⟩
          rw [← hw12]
          refine And.intro (Ev.keep_d (o := { dst := none, op := .store 23 (.tmp 124) (.tmp 123), type := 0, pos := "law.go:229", after := #[{ on := 11, ground := .data }, { on := 10, ground := .data }, { on := 10, ground := .chain }, { on := 0, ground := .phase }, { on := 1, ground := .phase }, { on := 2, ground := .phase }, { on := 3, ground := .phase }, { on := 4, ground := .phase }, { on := 5, ground := .phase }, { on := 6, ground := .phase }, { on := 7, ground := .phase }, { on := 8, ground := .phase }, { on := 9, ground := .phase }, { on := 10, ground := .phase }], guard := none }) (by kernel_rfl) (.inl ⟨{ on := 7, ground := .phase }, Array.mem_of_getElem? (i := 10) (by kernel_rfl), by kernel_rfl, rfl⟩) (fun h => by rw [hw12]; exact (Ev.set_box LQ.out HG.out).trans h)) ?_
          rw [← hw12] at L12 MV
          clear hw12
          refine Og.s_done (by kernel_rfl) ?_ _
          simp only [Act.put, List.setIfInBounds_toArray, List.set_cons_zero, List.set_cons_succ]
          have RQ := Lib.hid ((BQ.out.block _ (Array.getElem?_eq_some_iff.1 R1b.out).1).trans R1b.out)
          have R12 := Lib.hid (MV.out.blk RQ.out (Ev.row_ne_box (LQ.out.row _ _ HSV.out) RQ.out (by decide)) (Ev.eb_ne LQ.out HG.out RQ.out))
          obtain ⟨x1, hx1⟩ : ∃ x1 : Ev.X, x1 = ⟨x.ae, x.ce, x.ev, x.fr, x.ao, x.co, x.od.set i ⟨a10, c10, sv.l ++ [(x.ev.length : Int)]⟩⟩ := ⟨_, rfl⟩
          have LX1 := Lib.hid (show Ev.Lay w w12 w.heap.size x1 by rw [hx1]; exact L12.out)
          have NX1 := Lib.hid (show x1.ev.length ≤ 40 by rw [hx1]; exact NXP.out)
          have NF1 := Lib.hid (show x1.fr.l.length ≤ 40 by rw [hx1]; exact NFP.out)
          have HX1 := Lib.hid hx1
          clear hx1
          have cx12 := Ev.xcell0 LX1.out.box
          go_wp2_with (first
            | ((with_reducible show wpList _ _ _ (Oper.mk (some 127) _ _ _ _ _ :: _) _ _); refine wpList_load_row rfl 54 (.tmp 12) rfl wr.heap.size (by kernel_rfl) 54 #[.int .i64 0, .int .i64 2, .int .u32 (4 * (i : Int)), .int .u32 1, .int .u32 0, .bool false, .bool false, .int .i64 0, .int .i64 0, .bool false, .slice none 0 0, .slice none 0 0, .slice none 0 0] (0, 0) _ R12.out Try.underlying54 rfl (by kernel_rfl) ?_)
            | ((with_reducible show wpList _ _ _ (Oper.mk (some 129) _ _ _ _ _ :: _) _ _); refine wpList_append_own_at _ rfl (.tmp 126) (.tmp 128) 22 rfl w.heap.size 54 ie (.agg (Ev.cells Ev.R0).toArray) 13 128 Try.underlying22 IE.out IY.out IS.out IB.out rfl (by decide) (Ev.evsV x1) x1.ev.length (x1.ev.map Ev.cells).flatten rfl (Ev.row_kp LX1.out.ev ((Below.refl _ _).alloc (Nat.le_refl _) _)) ⟨_, 0, none⟩ 1 1 (Ev.cells y) rfl rfl (by rw [HYC.out]; exact World.news_of_block (heap_alloc_new _ _)) (Ev.cells_one _) (by have := NX1.out; unfold maxLen; omega) (by have := NX1.out; omega) (by have := LX1.out.bel.size; simp only [World.size_alloc]; omega) ?_
               intro v1 w1 hown1 hgrow1 _ hat1
               obtain ⟨a1', c1', rfl, hb1, hl1⟩ := LX1.out.pushEv HYV.out hown1 hgrow1
               have k0 := Ev.xcell0 hb1
               have k1 := Ev.box_free (i := 0) hb1
               obtain ⟨W2, hW2⟩ : ∃ W2, W2 = w1.setCell ⟨w.heap.size, 0, none⟩ (.slice a1' (x1.ev.length + 1) c1') := ⟨_, rfl⟩
               have HW2x := Lib.hid hW2
               have L2 := Lib.hid (hW2 ▸ hl1)
               clear hown1 hgrow1 hat1 hb1 hl1 hW2)
            | ((with_reducible show wpList _ _ _ (Oper.mk (some 131) _ _ _ _ _ :: _) _ _); rw [show w1.setCell ⟨w.heap.size, 0, none⟩ (.slice a1' (x1.ev.length + 1) c1') = W2 from HW2x.out.symm]; have k2 := Ev.xcell1 L2.out.box)
            | ((with_reducible show wpList _ _ _ (Oper.mk (some 135) _ _ _ _ _ :: _) _ _); refine wpList_append_own_at _ rfl (.tmp 132) (.tmp 134) 23 rfl w.heap.size 3 i0 (.int .i64 0) 1 8 Try.underlying23 HI.out HZ0.out HZ1.out HZ2.out rfl (by decide) x1.fr.v x1.fr.l.length (x1.fr.l.map Ev.nv) rfl (Ev.row_kp L2.out.fr ((Below.refl _ _).alloc (Nat.le_refl _) _)) ⟨_, 0, none⟩ 1 1 [Ev.nv (-1)] rfl rfl (World.news_of_block (heap_alloc_new _ _)) (Ev.nv_one _) (by have := NF1.out; unfold maxLen; omega) (by have := NF1.out; omega) (by have := L2.out.bel.size; simp only [World.size_alloc]; omega) ?_
               intro v3 w3 hown3 hgrow3 _ hat3
               obtain ⟨a3, c3, rfl, hb3, hl3⟩ := L2.out.pushFr HFI.out hown3 hgrow3 hat3
               have k3 := Ev.xcell1 hb3
               have k4 := Ev.box_free (i := 1) hb3
               have L3 := Lib.hid hl3
               clear hown3 hgrow3 hat3 hb3 hl3))
          go_roundw
          case rel =>
            have hbl := HX.out.bld.put HY.out HYS.out (w := i) (l := sv.l) (by rw [List.getElem?_map, HSV.out]; rfl) HYA.out
            refine ⟨i + 1, _, by omega, by go_num, ⟨L3.out, ?_, ?_, ?_⟩⟩
            · rw [HX1.out]
              show Ev.Bld (x.ev ++ [y]) (x.fr.l ++ [(-1)]) ((x.od.set i _).map fun s : Ev.Sl => s.l)
              rw [List.map_set]; exact hbl
            · rw [HX1.out]; have := HX.out.len; simp; omega
            · rw [HX1.out]; have := OXF.out; simpa using this
          case measure => simp [intOf]; omega
        · have HMM := Lib.hid (show 1 + r % 3 = 3 by omega)
          clear hm
          obtain ⟨W1, hW1⟩ : ∃ W1, W1 = wr.alloc (Obj.cells #[.int .i64 0, .int .i64 3, .int .u32 (4 * (i : Int)), .int .u32 0, .int .u32 0, .bool false, .bool false, .int .i64 0, .int .i64 0, .bool false, .slice none 0 0, .slice none 0 0, .slice none 0 0] 54) := ⟨_, rfl⟩
          have HW1 := Lib.hid hW1
          have BW1 := Lib.hid (show Below wr.heap.size wr W1 by rw [hW1]; exact (Below.refl _ _).alloc (Nat.le_refl _) _)
          have RW1 := Lib.hid (show W1.heap[wr.heap.size]? = some (.cells #[.int .i64 0, .int .i64 3, .int .u32 (4 * (i : Int)), .int .u32 0, .int .u32 0, .bool false, .bool false, .int .i64 0, .int .i64 0, .bool false, .slice none 0 0, .slice none 0 0, .slice none 0 0] 54 (0, 0)) by rw [hW1]; exact heap_alloc_new _ _)
          have LW1 := Lib.hid (LX.out.kp BW1.out)
          obtain ⟨y, hy⟩ : ∃ y : Ev.R, y = ⟨0, 3, 4 * (i : Int), 1, 0, false, false, 0, 0, false, Ev.noS, Ev.noS, Ev.noS⟩ := ⟨_, rfl⟩
          have HLT := Lib.hid hlt
          have HY := Lib.hid (show Ev.Laid (x.od.map (·.l)).length y (i : Int) by rw [hy]; exact .both i (by rw [HDL.out]; exact HLT.out) 1)
          have HYV := Lib.hid (show ∀ V, Ev.ROk V y from Ev.laid_ok (by rw [HDL.out]; have := HN.out; omega) HY.out (by rw [hy]; show Ev.u32B 1; unfold Ev.u32B; omega))
          have HYC := Lib.hid (show Ev.cells y = #[.int .i64 0, .int .i64 3, .int .u32 (4 * (i : Int)), .int .u32 1, .int .u32 0, .bool false, .bool false, .int .i64 0, .int .i64 0, .bool false, .slice none 0 0, .slice none 0 0, .slice none 0 0].toList by rw [hy]; rfl)
          have HYS := Lib.hid (show Ev.stores y.k = true by rw [hy]; rfl)
          have HYA := Lib.hid (show y.a = 4 * (i : Int) by rw [hy])
          have HFI := Lib.hid (show Ev.i64B (i : Int) by unfold Ev.i64B; omega)
          have hc0 := ((Ev.kp_below LX.out.bel) _ _ HC0.out)
          have hw4 : wrap64 (4 * (i : Int)) = 4 * i := (by unfold wrap64; omega)
          have HW4 := Lib.hid hw4
          have cxa := Ev.xcell0 LX.out.box
          clear hy hW1 hw4
          obtain ⟨W1b, hW1b⟩ : ∃ W1b, W1b = wr.alloc (Obj.cells #[.int .i64 0, .int .i64 3, .int .u32 (4 * (i : Int)), .int .u32 1, .int .u32 0, .bool false, .bool false, .int .i64 0, .int .i64 0, .bool false, .slice none 0 0, .slice none 0 0, .slice none 0 0] 54) := ⟨_, rfl⟩
          have HW1b := Lib.hid hW1b
          have R1b := Lib.hid (show W1b.heap[wr.heap.size]? = some (.cells #[.int .i64 0, .int .i64 3, .int .u32 (4 * (i : Int)), .int .u32 1, .int .u32 0, .bool false, .bool false, .int .i64 0, .int .i64 0, .bool false, .slice none 0 0, .slice none 0 0, .slice none 0 0] 54 (0, 0)) by rw [hW1b]; exact heap_alloc_new _ _)
          have B1b := Lib.hid (show Below wr.heap.size wr W1b by rw [hW1b]; exact (Below.refl _ _).alloc (Nat.le_refl _) _)
          have L1b := Lib.hid (LX.out.kp B1b.out)
          obtain ⟨g, hg⟩ := LX.out.aoSome (by rw [OXF.out]; omega)
          have HG := Lib.hid hg
          obtain ⟨sv, hsv⟩ : ∃ sv, x.od[i]? = some sv := ⟨_, List.getElem?_eq_getElem (by rw [OXF.out]; exact hlt)⟩
          have HSV := Lib.hid hsv
          have NS := Lib.hid (show sv.l.length ≤ 40 from Nat.le_trans (HX.out.bld.rowLen (by rw [List.getElem?_map, hsv]; rfl)) (by have := NXP.out; omega))
          clear hW1b hg hsv
          go_wp2_with (first
            | ((with_reducible show wpList _ _ _ (Oper.mk (some 73) _ _ _ _ _ :: _) _ _); rw [HQ2.out])
            | ((with_reducible show wpList _ _ _ (Oper.mk (some 99) _ _ _ _ _ :: _) _ _); rw [HR.out])
            | ((with_reducible show wpList _ _ _ (Oper.mk (some 104) _ _ _ _ _ :: _) _ _); rw [HMM.out])
            | ((with_reducible show wpList _ _ _ (Oper.mk (some 106) _ _ _ _ _ :: _) _ _); rw [HMM.out])
            | ((with_reducible show wpList _ _ _ (Oper.mk (some 105) _ _ _ _ _ :: _) _ _); rw [HW4.out]))
          rw [show wr.alloc (Obj.cells #[.int .i64 0, .int .i64 3, .int .u32 (4 * (i : Int)), .int .u32 1, .int .u32 0, .bool false, .bool false, .int .i64 0, .int .i64 0, .bool false, .slice none 0 0, .slice none 0 0, .slice none 0 0] 54) = W1b from HW1b.out.symm]
          clear cxa
          obtain ⟨wq, hwq⟩ : ∃ wq, wq = { W1b with drawn := W1b.drawn + 1 } := ⟨_, rfl⟩
          have BQ := Lib.hid (show Below W1b.heap.size W1b wq by rw [hwq]; exact ⟨rfl, rfl, rfl, Nat.le_refl _, fun _ _ => rfl⟩)
          have LQ := Lib.hid (L1b.out.kp BQ.out)
          have HWQ := Lib.hid hwq
          clear hwq
          have SB := Lib.hid (Ev.xcell2 LQ.out.box)
          have SR := Lib.hid (Ev.od_cell LQ.out HSV.out HG.out)
          have HSD := Lib.hid (fun ii : Nat => (show Ev.Sd (w.heap.size) g i (.slice (some ⟨g, 0, none⟩) x.od.length x.co) sv.v ii wq from ⟨by have := SB.out; rw [HG.out] at this; exact this, fun _ => SR.out⟩))
          have hwo : (i : Int) < (x.od.length : Int) := by have := (List.getElem?_eq_some_iff.1 HSV.out).1; omega
          refine Og.region_S (S := Ev.Sd (w.heap.size) g i (.slice (some ⟨g, 0, none⟩) x.od.length x.co) sv.v) (by kernel_rfl) ?_
          rw [← HWQ.out]
          refine Og.s_take 0 { dst := some 113, op := .fieldAddr 26 (.tmp 7) 2, type := 0, pos := "law.go:229", after := #[], guard := none } (.pointer (some ⟨w.heap.size, 2, none⟩)) _ (by kernel_rfl) (by kernel_rfl) (by kernel_rfl) (by kernel_rfl) (by kernel_rfl) (fun _ _ _ h => h) (HSD.out 0) (fun x' hx => ?_) (by simp only [Act.put, List.setIfInBounds_toArray, List.set_cons_zero, List.set_cons_succ]; rfl) ?_
          · go_simp; try (with_reducible rfl)
          refine Og.s_take 1 { dst := some 114, op := .load 24 (.tmp 113), type := 24, pos := "law.go:229", after := #[{ on := 0, ground := .data }], guard := none } (.slice (some ⟨g, 0, none⟩) x.od.length x.co) _ (by kernel_rfl) (by kernel_rfl) (by kernel_rfl) (by kernel_rfl) (by kernel_rfl) (fun _ _ _ h => h) (HSD.out 1) (fun x' hx => ?_) (by simp only [Act.put, List.setIfInBounds_toArray, List.set_cons_zero, List.set_cons_succ]; rfl) ?_
          · have hx1 := hx.1; go_simp; try (with_reducible rfl)
          refine Og.s_take 2 { dst := some 115, op := .move (.tmp 9), type := 3, pos := "law.go:229", after := #[], guard := none } (.int .i64 (i : Int)) _ (by kernel_rfl) (by kernel_rfl) (by kernel_rfl) (by kernel_rfl) (by kernel_rfl) (fun _ _ _ h => h) (HSD.out 2) (fun x' hx => ?_) (by simp only [Act.put, List.setIfInBounds_toArray, List.set_cons_zero, List.set_cons_succ]; rfl) ?_
          · go_simp; try (with_reducible rfl)
          refine Og.s_take 3 { dst := some 116, op := .fieldAddr 26 (.tmp 7) 2, type := 0, pos := "law.go:229", after := #[], guard := none } (.pointer (some ⟨w.heap.size, 2, none⟩)) _ (by kernel_rfl) (by kernel_rfl) (by kernel_rfl) (by kernel_rfl) (by kernel_rfl) (fun _ _ _ h => h) (HSD.out 3) (fun x' hx => ?_) (by simp only [Act.put, List.setIfInBounds_toArray, List.set_cons_zero, List.set_cons_succ]; rfl) ?_
          · go_simp; try (with_reducible rfl)
          refine Og.s_take 4 { dst := some 117, op := .load 24 (.tmp 116), type := 24, pos := "law.go:229", after := #[{ on := 3, ground := .data }], guard := none } (.slice (some ⟨g, 0, none⟩) x.od.length x.co) _ (by kernel_rfl) (by kernel_rfl) (by kernel_rfl) (by kernel_rfl) (by kernel_rfl) (fun _ _ _ h => h) (HSD.out 4) (fun x' hx => ?_) (by simp only [Act.put, List.setIfInBounds_toArray, List.set_cons_zero, List.set_cons_succ]; rfl) ?_
          · have hx1 := hx.1; go_simp; try (with_reducible rfl)
          refine Og.s_take 5 { dst := some 118, op := .move (.tmp 9), type := 3, pos := "law.go:229", after := #[], guard := none } (.int .i64 (i : Int)) _ (by kernel_rfl) (by kernel_rfl) (by kernel_rfl) (by kernel_rfl) (by kernel_rfl) (fun _ _ _ h => h) (HSD.out 5) (fun x' hx => ?_) (by simp only [Act.put, List.setIfInBounds_toArray, List.set_cons_zero, List.set_cons_succ]; rfl) ?_
          · go_simp; try (with_reducible rfl)
          refine Og.s_take 6 { dst := some 119, op := .indexAddr 24 (.tmp 117) (.tmp 118), type := 0, pos := "law.go:229", after := #[{ on := 4, ground := .data }, { on := 5, ground := .data }], guard := none } (.pointer (some ⟨g, i, none⟩)) _ (by kernel_rfl) (by kernel_rfl) (by kernel_rfl) (by kernel_rfl) (by kernel_rfl) (fun _ _ _ h => h) (HSD.out 6) (fun x' hx => ?_) (by simp only [Act.put, List.setIfInBounds_toArray, List.set_cons_zero, List.set_cons_succ]; rfl) ?_
          · go_simp; try (with_reducible rfl)
          refine Og.s_take 7 { dst := some 120, op := .load 23 (.tmp 119), type := 23, pos := "law.go:229", after := #[{ on := 6, ground := .data }], guard := none } (.slice sv.a sv.l.length sv.c) _ (by kernel_rfl) (by kernel_rfl) (by kernel_rfl) (by kernel_rfl) (by kernel_rfl) (fun _ _ _ h => h) (HSD.out 7) (fun x' hx => ?_) (by simp only [Act.put, List.setIfInBounds_toArray, List.set_cons_zero, List.set_cons_succ]; rfl) ?_
          · have hx1 := hx.2 rfl; unfold Ev.Sl.v at hx1; go_simp; try (with_reducible rfl)
          refine Og.s_take 8 { dst := some 121, op := .move (.tmp 10), type := 3, pos := "law.go:229", after := #[], guard := none } (.int .i64 (x.ev.length : Int)) _ (by kernel_rfl) (by kernel_rfl) (by kernel_rfl) (by kernel_rfl) (by kernel_rfl) (fun _ _ _ h => h) (HSD.out 8) (fun x' hx => ?_) (by simp only [Act.put, List.setIfInBounds_toArray, List.set_cons_zero, List.set_cons_succ]; rfl) ?_
          · go_simp; try (with_reducible rfl)
          -- what is built, appended, stored
          refine Og.s_one 9 { dst := some 122, op := .buildSlice 23 1 #[(0, .tmp 121)], type := 23, pos := "law.go:229", after := #[{ on := 8, ground := .data }], guard := none } (by kernel_rfl) (by kernel_rfl) (by kernel_rfl) ?_
          refine Og.run_to (v := .slice (some ⟨wq.heap.size, 0, none⟩) 1 1) (w' := wq.alloc (.cells #[.int .i64 (x.ev.length : Int)] 3)) (by go_simp; try (with_reducible rfl)) ⟨Ev.keep_d (o := { dst := some 122, op := .buildSlice 23 1 #[(0, .tmp 121)], type := 23, pos := "law.go:229", after := #[{ on := 8, ground := .data }], guard := none }) (by kernel_rfl) (.inr fun h => Ev.cell_alloc _ h) (fun h => Ev.cell_alloc _ h), ?_⟩
          obtain ⟨v', w10, hrun10, hown10, hgrow10, _, hloc10⟩ := run_append_own_at (P := Try.prog) (wq.alloc (.cells #[.int .i64 (x.ev.length : Int)] 3)) w.heap.size 23 23 3 i0 (.int .i64 0) 1 8 Try.underlying23 HI.out HZ0.out HZ1.out HZ2.out rfl (by decide) sv.v sv.l.length (sv.l.map Ev.nv) (Ev.row_kp (LQ.out.row _ _ HSV.out) ((Below.refl _ _).alloc (Nat.le_refl _) _)) ⟨wq.heap.size, 0, none⟩ 1 1 [Ev.nv (x.ev.length : Int)] rfl (World.news_of_block (cs := #[.int .i64 (x.ev.length : Int)]) (heap_alloc_new wq _)) (Ev.nv_one _) (by have := NS.out; unfold maxLen; omega) (by have := NS.out; omega) (by have := LQ.out.bel.size; simp only [World.size_alloc]; omega)
          obtain ⟨a10, c10, hv10, hq1, hq2, hl10⟩ := LQ.out.pushOd HSV.out (show Ev.i64B (x.ev.length : Int) by have := NXP.out; unfold Ev.i64B; omega) hown10 hgrow10 hloc10 HG.out
          subst hv10
          have MV := Lib.hid (Ev.mv_of (B := g) (i := i) (u := .slice a10 (sv.l.length + 1) c10) hgrow10)
          have HR10 := Lib.hid hrun10; have L12 := Lib.hid hl10; have HQ1 := Lib.hid hq1; have HQ2 := Lib.hid hq2; have HG10 := Lib.hid hgrow10
          clear hrun10 hown10 hgrow10 hloc10 hl10 hq1 hq2
          refine Og.s_one 10 { dst := some 123, op := .call { callee := .builtin .append, args := #[.tmp 120, .tmp 122], argTypes := #[23, 23] }, type := 23, pos := "law.go:229", after := #[{ on := 7, ground := .data }, { on := 9, ground := .data }], guard := none } (by kernel_rfl) (by kernel_rfl) (by kernel_rfl) ?_
          refine Og.run_to (v := .slice a10 (sv.l.length + 1) c10) (w' := w10) (Og.append_to (.tmp 120) (.tmp 122) 23 (by kernel_rfl) (by kernel_rfl) (by kernel_rfl) HR10.out) ⟨Ev.keep_d (o := { dst := some 123, op := .call { callee := .builtin .append, args := #[.tmp 120, .tmp 122], argTypes := #[23, 23] }, type := 23, pos := "law.go:229", after := #[{ on := 7, ground := .data }, { on := 9, ground := .data }], guard := none }) (by kernel_rfl) (.inl ⟨{ on := 7, ground := .data }, by simp, by kernel_rfl, rfl⟩) (fun h => (Ev.grown_box LQ.out HG10.out (LQ.out.bne.2.2.2 _ _ HSV.out)).trans h), ?_⟩
          have HSB := Lib.hid (show Ev.Sd (w.heap.size) g i (.slice (some ⟨g, 0, none⟩) x.od.length x.co) sv.v 11 w10 from ⟨(Ev.grown_box LQ.out HG10.out (LQ.out.bne.2.2.2 _ _ HSV.out)).trans (Ev.cell_alloc _ (HSD.out 11).1), fun e => absurd e (by decide)⟩)
          refine Og.s_take 11 { dst := some 124, op := .indexAddr 24 (.tmp 114) (.tmp 115), type := 0, pos := "law.go:229", after := #[{ on := 1, ground := .data }, { on := 2, ground := .data }, { on := 0, ground := .phase }, { on := 1, ground := .phase }, { on := 2, ground := .phase }, { on := 3, ground := .phase }, { on := 4, ground := .phase }, { on := 5, ground := .phase }, { on := 6, ground := .phase }, { on := 7, ground := .phase }, { on := 8, ground := .phase }, { on := 9, ground := .phase }, { on := 10, ground := .phase }], guard := none } (.pointer (some ⟨g, i, none⟩)) _ (by kernel_rfl) (by kernel_rfl) (by kernel_rfl) (by kernel_rfl) (by kernel_rfl) (fun _ _ _ h => h) HSB.out (fun x' hx => ?_) (by simp only [Act.put, List.setIfInBounds_toArray, List.set_cons_zero, List.set_cons_succ]; rfl) ?_
          · go_simp; try (with_reducible rfl)
          refine Og.s_one 12 { dst := none, op := .store 23 (.tmp 124) (.tmp 123), type := 0, pos := "law.go:229", after := #[{ on := 11, ground := .data }, { on := 10, ground := .data }, { on := 10, ground := .chain }, { on := 0, ground := .phase }, { on := 1, ground := .phase }, { on := 2, ground := .phase }, { on := 3, ground := .phase }, { on := 4, ground := .phase }, { on := 5, ground := .phase }, { on := 6, ground := .phase }, { on := 7, ground := .phase }, { on := 8, ground := .phase }, { on := 9, ground := .phase }, { on := 10, ground := .phase }], guard := none } (by kernel_rfl) (by kernel_rfl) (by kernel_rfl) ?_
          refine Og.skip_to (w' := w10.setCell ⟨g, i, none⟩ (.slice a10 (sv.l.length + 1) c10)) ?_ ?_
          · exact Og.store_to 23 (.tmp 124) (.tmp 123) rfl (by kernel_rfl) (by kernel_rfl) (by kernel_rfl) HQ1.out HQ2.out
          obtain ⟨w12, hw12⟩ : ∃ w12, w12 = w10.setCell ⟨g, i, none⟩ (.slice a10 (sv.l.length + 1) c10) := ⟨_, rfl⟩
          rw [← hw12]
          refine And.intro (Ev.keep_d (o := { dst := none, op := .store 23 (.tmp 124) (.tmp 123), type := 0, pos := "law.go:229", after := #[{ on := 11, ground := .data }, { on := 10, ground := .data }, { on := 10, ground := .chain }, { on := 0, ground := .phase }, { on := 1, ground := .phase }, { on := 2, ground := .phase }, { on := 3, ground := .phase }, { on := 4, ground := .phase }, { on := 5, ground := .phase }, { on := 6, ground := .phase }, { on := 7, ground := .phase }, { on := 8, ground := .phase }, { on := 9, ground := .phase }, { on := 10, ground := .phase }], guard := none }) (by kernel_rfl) (.inl ⟨{ on := 7, ground := .phase }, Array.mem_of_getElem? (i := 10) (by kernel_rfl), by kernel_rfl, rfl⟩) (fun h => by rw [hw12]; exact (Ev.set_box LQ.out HG.out).trans h)) ?_
          rw [← hw12] at L12 MV
          clear hw12
          refine Og.s_done (by kernel_rfl) ?_ _
          simp only [Act.put, List.setIfInBounds_toArray, List.set_cons_zero, List.set_cons_succ]
          have RQ := Lib.hid ((BQ.out.block _ (Array.getElem?_eq_some_iff.1 R1b.out).1).trans R1b.out)
          have R12 := Lib.hid (MV.out.blk RQ.out (Ev.row_ne_box (LQ.out.row _ _ HSV.out) RQ.out (by decide)) (Ev.eb_ne LQ.out HG.out RQ.out))
          obtain ⟨x1, hx1⟩ : ∃ x1 : Ev.X, x1 = ⟨x.ae, x.ce, x.ev, x.fr, x.ao, x.co, x.od.set i ⟨a10, c10, sv.l ++ [(x.ev.length : Int)]⟩⟩ := ⟨_, rfl⟩
          have LX1 := Lib.hid (show Ev.Lay w w12 w.heap.size x1 by rw [hx1]; exact L12.out)
          have NX1 := Lib.hid (show x1.ev.length ≤ 40 by rw [hx1]; exact NXP.out)
          have NF1 := Lib.hid (show x1.fr.l.length ≤ 40 by rw [hx1]; exact NFP.out)
          have HX1 := Lib.hid hx1
          clear hx1
          have cx12 := Ev.xcell0 LX1.out.box
          go_wp2_with (first
            | ((with_reducible show wpList _ _ _ (Oper.mk (some 127) _ _ _ _ _ :: _) _ _); refine wpList_load_row rfl 54 (.tmp 12) rfl wr.heap.size (by kernel_rfl) 54 #[.int .i64 0, .int .i64 3, .int .u32 (4 * (i : Int)), .int .u32 1, .int .u32 0, .bool false, .bool false, .int .i64 0, .int .i64 0, .bool false, .slice none 0 0, .slice none 0 0, .slice none 0 0] (0, 0) _ R12.out Try.underlying54 rfl (by kernel_rfl) ?_)
            | ((with_reducible show wpList _ _ _ (Oper.mk (some 129) _ _ _ _ _ :: _) _ _); refine wpList_append_own_at _ rfl (.tmp 126) (.tmp 128) 22 rfl w.heap.size 54 ie (.agg (Ev.cells Ev.R0).toArray) 13 128 Try.underlying22 IE.out IY.out IS.out IB.out rfl (by decide) (Ev.evsV x1) x1.ev.length (x1.ev.map Ev.cells).flatten rfl (Ev.row_kp LX1.out.ev ((Below.refl _ _).alloc (Nat.le_refl _) _)) ⟨_, 0, none⟩ 1 1 (Ev.cells y) rfl rfl (by rw [HYC.out]; exact World.news_of_block (heap_alloc_new _ _)) (Ev.cells_one _) (by have := NX1.out; unfold maxLen; omega) (by have := NX1.out; omega) (by have := LX1.out.bel.size; simp only [World.size_alloc]; omega) ?_
               intro v1 w1 hown1 hgrow1 _ hat1
               obtain ⟨a1', c1', rfl, hb1, hl1⟩ := LX1.out.pushEv HYV.out hown1 hgrow1
               have k0 := Ev.xcell0 hb1
               have k1 := Ev.box_free (i := 0) hb1
               obtain ⟨W2, hW2⟩ : ∃ W2, W2 = w1.setCell ⟨w.heap.size, 0, none⟩ (.slice a1' (x1.ev.length + 1) c1') := ⟨_, rfl⟩
               have HW2x := Lib.hid hW2
               have L2 := Lib.hid (hW2 ▸ hl1)
               clear hown1 hgrow1 hat1 hb1 hl1 hW2)
            | ((with_reducible show wpList _ _ _ (Oper.mk (some 131) _ _ _ _ _ :: _) _ _); rw [show w1.setCell ⟨w.heap.size, 0, none⟩ (.slice a1' (x1.ev.length + 1) c1') = W2 from HW2x.out.symm]; have k2 := Ev.xcell1 L2.out.box)
            | ((with_reducible show wpList _ _ _ (Oper.mk (some 135) _ _ _ _ _ :: _) _ _); refine wpList_append_own_at _ rfl (.tmp 132) (.tmp 134) 23 rfl w.heap.size 3 i0 (.int .i64 0) 1 8 Try.underlying23 HI.out HZ0.out HZ1.out HZ2.out rfl (by decide) x1.fr.v x1.fr.l.length (x1.fr.l.map Ev.nv) rfl (Ev.row_kp L2.out.fr ((Below.refl _ _).alloc (Nat.le_refl _) _)) ⟨_, 0, none⟩ 1 1 [Ev.nv (i : Int)] rfl rfl (World.news_of_block (heap_alloc_new _ _)) (Ev.nv_one _) (by have := NF1.out; unfold maxLen; omega) (by have := NF1.out; omega) (by have := L2.out.bel.size; simp only [World.size_alloc]; omega) ?_
               intro v3 w3 hown3 hgrow3 _ hat3
               obtain ⟨a3, c3, rfl, hb3, hl3⟩ := L2.out.pushFr HFI.out hown3 hgrow3 hat3
               have k3 := Ev.xcell1 hb3
               have k4 := Ev.box_free (i := 1) hb3
               have L3 := Lib.hid hl3
               clear hown3 hgrow3 hat3 hb3 hl3))
          go_roundw
          case rel =>
            have hbl := HX.out.bld.put HY.out HYS.out (w := i) (l := sv.l) (by rw [List.getElem?_map, HSV.out]; rfl) HYA.out
            refine ⟨i + 1, _, by omega, by go_num, ⟨L3.out, ?_, ?_, ?_⟩⟩
            · rw [HX1.out]
              show Ev.Bld (x.ev ++ [y]) (x.fr.l ++ [(i : Int)]) ((x.od.set i _).map fun s : Ev.Sl => s.l)
              rw [List.map_set]; exact hbl
            · rw [HX1.out]; have := HX.out.len; simp; omega
            · rw [HX1.out]; have := OXF.out; simpa using this
          case measure => simp [intOf]; omega
    have hii : (i : Int) < (x2.length : Int) := by omega
    have NX := Lib.hid (show x.ev.length ≤ 16 by rw [HX.out.len]; omega)
    have NF := Lib.hid (show x.fr.l.length ≤ 16 by rw [HX.out.bld.fl]; exact NX.out)
    have NO := Lib.hid (show x.od.length ≤ 16 by rw [HX.out.ol]; omega)
    obtain ⟨y, hy⟩ : ∃ y : Ev.R, y = Ev.begE (4 * (i : Int)) := ⟨_, rfl⟩
    have HYV := Lib.hid (show ∀ V, Ev.ROk V y by rw [hy]; exact Ev.begE_ok _ (by unfold Ev.u32B; omega))
    have HYC := Lib.hid (show Ev.cells y = #[.int .i64 (-1), .int .i64 5, .int .u32 (4 * (i : Int)), .int .u32 0, .int .u32 0, .bool false, .bool false, .int .i64 0, .int .i64 0, .bool false, .slice none 0 0, .slice none 0 0, .slice none 0 0].toList by rw [hy]; rfl)
    have HY := Lib.hid hy
    have HFB := Lib.hid (show Ev.i64B (-1) by unfold Ev.i64B; omega)
    have HIB := Lib.hid (show Ev.i64B (i : Int) by unfold Ev.i64B; omega)
    have L1 := Lib.hid HX.out.lay
    have cx1 := Ev.xcell0 L1.out.box
    have hw4 : wrap64 (4 * (i : Int)) = 4 * i := (by unfold wrap64; omega)
    have HW4 := Lib.hid hw4
    clear hy hw4
    go_wp2_with (first
      | ((with_reducible show wpList _ _ _ (Oper.mk (some 46) _ _ _ _ _ :: _) _ _); rw [HW4.out])
      | ((with_reducible show wpList _ _ _ (Oper.mk (some 49) _ _ _ _ _ :: _) _ _); refine wpList_append_own_at _ rfl (.tmp 43) (.tmp 48) 22 rfl w.heap.size 54 ie (.agg (Ev.cells Ev.R0).toArray) 13 128 Try.underlying22 IE.out IY.out IS.out IB.out rfl (by decide) (Ev.evsV x) x.ev.length (x.ev.map Ev.cells).flatten rfl (Ev.row_kp L1.out.ev ((Below.refl _ _).alloc (Nat.le_refl _) _)) ⟨_, 0, none⟩ 1 1 (Ev.cells y) rfl rfl (by rw [HYC.out]; exact World.news_of_block (heap_alloc_new _ _)) (Ev.cells_one _) (by have := NX.out; unfold maxLen; omega) (by have := NX.out; omega) (by have := L1.out.bel.size; simp only [World.size_alloc]; omega) ?_
         intro v1 w1 hown1 hgrow1 _ hat1
         obtain ⟨a1', c1', rfl, hb1, hl1⟩ := L1.out.pushEv HYV.out hown1 hgrow1
         have k0 := Ev.xcell0 hb1
         have k1 := Ev.box_free (i := 0) hb1
         obtain ⟨W2, hW2⟩ : ∃ W2, W2 = w1.setCell ⟨w.heap.size, 0, none⟩ (.slice a1' (x.ev.length + 1) c1') := ⟨_, rfl⟩
         have HW2x := Lib.hid hW2
         have L2 := Lib.hid (hW2 ▸ hl1)
         clear hown1 hgrow1 hat1 hb1 hl1 hW2)
      | ((with_reducible show wpList _ _ _ (Oper.mk (some 51) _ _ _ _ _ :: _) _ _); rw [show w1.setCell ⟨w.heap.size, 0, none⟩ (.slice a1' (x.ev.length + 1) c1') = W2 from HW2x.out.symm]; have k2 := Ev.xcell1 L2.out.box)
      | ((with_reducible show wpList _ _ _ (Oper.mk (some 54) _ _ _ _ _ :: _) _ _); refine wpList_append_own_at _ rfl (.tmp 52) (.tmp 53) 23 rfl w.heap.size 3 i0 (.int .i64 0) 1 8 Try.underlying23 HI.out HZ0.out HZ1.out HZ2.out rfl (by decide) x.fr.v x.fr.l.length (x.fr.l.map Ev.nv) rfl (Ev.row_kp L2.out.fr ((Below.refl _ _).alloc (Nat.le_refl _) _)) ⟨_, 0, none⟩ 1 1 [Ev.nv (-1)] rfl rfl (World.news_of_block (heap_alloc_new _ _)) (Ev.nv_one _) (by have := NF.out; unfold maxLen; omega) (by have := NF.out; omega) (by have := L2.out.bel.size; simp only [World.size_alloc]; omega) ?_
         intro v3 w3 hown3 hgrow3 _ hat3
         obtain ⟨a3, c3, rfl, hb3, hl3⟩ := L2.out.pushFr HFB.out hown3 hgrow3 hat3
         have k3 := Ev.xcell1 hb3
         have k4 := Ev.box_free (i := 1) hb3
         have L3 := Lib.hid hl3
         clear hown3 hgrow3 hat3 hb3 hl3)
      | ((with_reducible show wpList _ _ _ (Oper.mk (some 56) _ _ _ _ _ :: _) _ _); refine Ev.Stop.out ?_))
    refine ⟨?_⟩
    obtain ⟨W3, hW3⟩ : ∃ W3, W3 = w3.setCell ⟨w.heap.size, 1, none⟩ (.slice a3 (x.fr.l.length + 1) c3) := ⟨_, rfl⟩
    rw [← hW3]
    have LX := Lib.hid (hW3 ▸ L3.out)
    clear hW3 cx1
    have k5 := Ev.xcell2 LX.out.box
    go_wp2_with (first
      | ((with_reducible show wpList _ _ _ (Oper.mk (some 61) _ _ _ _ _ :: _) _ _); refine wpList_append_own_at _ rfl (.tmp 57) (.tmp 60) 24 rfl w.heap.size 23 ir (.slice none 0 0) 1 24 Try.underlying24 IR.out IRY.out IRS.out IRB.out rfl (by decide) (Ev.odV x) x.od.length (x.od.map Ev.Sl.v) rfl (Ev.row_kp LX.out.od (((Below.refl _ _).alloc (Nat.le_refl _) _).alloc (by simp only [World.size_alloc]; omega) _)) ⟨_, 0, none⟩ 1 1 [.slice (some ⟨W3.heap.size, 0, none⟩) 1 1] rfl rfl (World.news_of_block (Ev.heap_at (by simp only [World.size_alloc]))) (by intro u hu; simp at hu; subst hu; rfl) (by have := NO.out; unfold maxLen; omega) (by have := NO.out; omega) (by have := LX.out.bel.size; simp only [World.size_alloc]; omega) ?_
         intro v5 w5 hown5 hgrow5 _ hat5
         obtain ⟨a5, c5, rfl, hb5, hl5⟩ := LX.out.addRow HIB.out hown5 hgrow5
         have k6 := Ev.xcell2 hb5
         have k7 := Ev.box_free (i := 2) hb5
         have L5 := Lib.hid hl5
         clear hown5 hgrow5 hat5 hb5 hl5))
    go_roundw
    case rel =>
      have hb := HX.out.bld.begin (by rw [List.length_map, HX.out.len, HX.out.ol])
      refine ⟨i + 1, _, by omega, by go_num, ⟨L5.out, ?_, ?_, ?_⟩⟩
      · show Ev.Bld (x.ev ++ [y]) (x.fr.l ++ [-1]) ((x.od ++ [_]).map fun s : Ev.Sl => s.l)
        rw [HY.out, List.map_append]
        rw [HX.out.len] at hb; exact hb
      · have := HX.out.len; simp; omega
      · have := HX.out.ol; simp; omega
    case measure => simp [intOf]; omega

/-! THE ROW -/
set_option maxRecDepth 100000 in
theorem lifted (os : Os) (started : os.Started) (H : Type) (enc : TypeId × Value → H) :
    ReturnsInHanded {} Try.checked os 9 .any (Rows.orderFencesSpec.pre6 enc Try.prog Try.f9 Rows.orderFencesRow.domain false) (Rows.orderFencesSpec.post enc Try.prog Try.f9 false true false false) := by
  refine returnsInHanded_of_change (C := Try.checked) own started (by kernel_rfl) Try.func9
    (ChangeSpec.witness6 (enc := enc) (C := Try.checked) false ⟨#[], #[.int .i64 0, .int .i64 0, .slice none 0 0], []⟩ 8 (by kernel_rfl) (by kernel_rfl) (by kernel_rfl) (by kernel_rfl)) ?_
  intro W base args ds gs before hval0 hW hcnd _
  have hval : ∀ (j : Nat) t v, Try.f9.params[j]? = some t → args[j]? = some v → Value.okWide Try.prog W .any base t v := hval0
  have hW' := hW
  obtain ⟨p, q, hA0, hV, rfl, hfz, hnd⟩ := hW
  have hA : DataW.TrodAll enc Try.prog W 0 (fun _ => true) true Try.f9.params.toList args.toList ds p := hA0
  rw [Try.params9] at hA hval
  obtain ⟨v0, vs0, d0, ds0, p0, q0, hargs, rfl, rfl, h0, r0⟩ := trodAll_cons hA
  obtain ⟨v1, vs1, d1, ds1, p1, q1, rfl, rfl, rfl, h1, r1⟩ := trodAll_cons r0
  obtain ⟨v2, vs2, d2, ds2, p2, q2, rfl, rfl, rfl, h2, r2⟩ := trodAll_cons r1
  obtain ⟨rfl, rfl, rfl⟩ := trodAll_nil r2
  obtain rfl : args = #[v0, v1, v2] := by cases args; simp_all
  obtain ⟨rfl, rfl⟩ := trodVars_none hV
  clear hA0 hval0
  simp only [List.append_nil] at hW'
  have hlt : ∀ x ∈ p0 ++ (p1 ++ (p2)), x.block < W.heap.size := fun x hx => by simpa using hW'.lt x (by simpa using hx)
  have h0k := h0
  obtain ⟨a0, rfl, rfl, rfl, w0⟩ := open_int Try.underlying3 (hval 0 3 v0 rfl rfl) h0
  have h1k := h1
  obtain ⟨a1, rfl, rfl, rfl, w1⟩ := open_int Try.underlying3 (hval 1 3 v1 rfl rfl) h1
  obtain ⟨a2, n2, c2, rfl⟩ := okWide_slice Try.underlying23 (hval 2 23 v2 rfl rfl)
  obtain ⟨x2, l2, b2⟩ := open_numbers h2
  refine (walk W a0 w0 a1 w1 a2 n2 c2 x2 l2 b2).mono fun e W' ⟨he, hb⟩ => ?_
  subst he
  have harg0 : DataW.Trod enc Try.prog W' 0 (fun b => decide (b < W.heap.size)) true 3 _ _ _ := Below.trod laidOut (by kernel_rfl) (of_decide_eq_true (by kernel_rfl)) h0k hb (fun x hx => by cases hx)
  have harg1 : DataW.Trod enc Try.prog W' 0 (fun b => decide (b < W.heap.size)) true 3 _ _ _ := Below.trod laidOut (by kernel_rfl) (of_decide_eq_true (by kernel_rfl)) h1k hb (fun x hx => by cases hx)
  have harg2 : DataW.Trod enc Try.prog W' 0 (fun b => decide (b < W.heap.size)) true 23 _ _ _ := Below.trod laidOut (by kernel_rfl) (of_decide_eq_true (by kernel_rfl)) h2 hb (fun x hx => hlt x (by simp [hx]))
  exact ⟨_, rfl, _, _, _, [], _, [], hW', trodAll_mk1 (shut_bool Try.underlying4 _), (trodAll_cons_mk harg0 (trodAll_cons_mk harg1 (trodAll_cons_mk harg2 trodAll_mk0))), rfl, hb.frame _, fun h => by cases h⟩

theorem over : Rows.orderFencesRow.holds Try.pinned (OpenSpec.ofChange Rows.orderFencesSpec) :=
  OpenClaim.holds_of_wide 9 Try.f9 rfl rfl rfl rfl rfl rfl rfl ⟨rfl, rfl, rfl, rfl, rfl⟩ rfl rfl rfl rfl rfl (by kernel_rfl) Try.func9 (by kernel_rfl)
    (of_decide_eq_true (by kernel_rfl)) (by unfold Func.isWrapper; first | (rw [if_pos (by decide +kernel)]; kernel_rfl) | (rw [if_neg (by decide +kernel)]; exact ⟨rfl, rfl⟩))
    (fun os started H enc _ => lifted os started H enc)

/-- THE STATEMENT -/
theorem proved : Rows.OrderFencesSaid :=
  over
end Go.Proofs.Ytoicmhidmknfiaa.orderFences
