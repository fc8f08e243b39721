/-
  OrderReserves: for every input the statement's function returns true, with no condition; each argument reads behind the call as before. By contracts of the program's and the document's functions.
-/
import Derived.Test.YtoicmhidmknfiaaOrLay
namespace Go.Proofs.Ytoicmhidmknfiaa.orderReserves
open Go.ChangeShapes Go.WideShapes Go.ChangeAt Go.RowKit
set_option linter.unusedVariables false
set_option linter.unusedSimpArgs false

/-! THE WALK: the Go text returns true; of memory nothing that stood there has turned. -/
set_option maxRecDepth 100000 in
set_option maxHeartbeats 16000000 in
theorem walk (w : World) (a0 : Option Addr) (n0 c0 : Nat) (x0 : List Int) (l0 : x0.length = n0) (m0 : n0 ≤ 9223372036854775807) (b0 : Ev.BsIn w a0 x0) :
    Calls Try.prog 11 #[.slice a0 n0 c0] w fun e w' => e = .returned (.bool true) ∧ Below w.heap.size w w' := by
  subst l0
  have HBS := Lib.hid b0
  obtain ⟨s, hs⟩ : ∃ s, s = w.heap.size := ⟨_, rfl⟩
  have HS := Lib.hid hs
  obtain ⟨W6, hW6⟩ : ∃ W6, W6 = ((((((w.alloc (Obj.cells ([Ev.begE 0, Ev.begE 4].map Ev.cells).flatten.toArray 54)).alloc (Obj.cells #[.int .i64 (-1), .int .i64 (-1)] 3)).alloc (Obj.cells #[.int .i64 0] 3)).alloc (Obj.cells #[.int .i64 1] 3)).alloc (Obj.cells #[.slice (some ⟨w.heap.size + 1 + 1, 0, none⟩) 1 1, .slice (some ⟨w.heap.size + 1 + 1 + 1, 0, none⟩) 1 1] 23)).alloc (Obj.cells (Ev.xcells (Ev.resX w.heap.size)).toArray 26)) := ⟨_, rfl⟩
  obtain ⟨h0, h1, h2, h3, h4, h5⟩ := heap_a6 w (Obj.cells ([Ev.begE 0, Ev.begE 4].map Ev.cells).flatten.toArray 54) (Obj.cells #[.int .i64 (-1), .int .i64 (-1)] 3) (Obj.cells #[.int .i64 0] 3) (Obj.cells #[.int .i64 1] 3) (Obj.cells #[.slice (some ⟨w.heap.size + 1 + 1, 0, none⟩) 1 1, .slice (some ⟨w.heap.size + 1 + 1 + 1, 0, none⟩) 1 1] 23) (Obj.cells (Ev.xcells (Ev.resX w.heap.size)).toArray 26)
  rw [← hW6] at h0 h1 h2 h3 h4 h5
  have B6 := Lib.hid (show Below w.heap.size w W6 by
    rw [hW6]
    exact ((((((Below.refl _ _).alloc (Nat.le_refl _) _).alloc (by simp only [World.size_alloc]; omega) _).alloc (by simp only [World.size_alloc]; omega) _).alloc (by simp only [World.size_alloc]; omega) _).alloc (by simp only [World.size_alloc]; omega) _).alloc (by simp only [World.size_alloc]; omega) _)
  have L0 := Lib.hid (Ev.resX_lay rfl B6.out h0 h1 h2 h3 h4 h5)
  have HW6 := Lib.hid hW6
  clear hW6 h0 h1 h2 h3 h4 h5 hs b0
  obtain ⟨i0, hi, hz0, hz1, hz2⟩ := or_info_int
  have HI := Lib.hid hi; have HZ0 := Lib.hid hz0; have HZ1 := Lib.hid hz1; have HZ2 := Lib.hid hz2
  clear hi hz0 hz1 hz2
  by_cases hl : 14 < x0.length
  case pos =>
    have hlen : (14 : Int) < (x0.length : Int) := by omega
    go_enter Try.func11, Try.ntmps11
    go_wp2_with fail
    refine (known7_any _).mono ?_
    rintro e W99 ⟨rfl, hb99⟩
    have HEND := Lib.hid hb99; clear hb99
    go_wp2_with fail
    go_ret
    exact ⟨rfl, HEND.out⟩
  have hlen : ¬ (14 : Int) < (x0.length : Int) := by omega
  go_enter Try.func11, Try.ntmps11
  go_wp2_with fail
  have hst : ∀ W, W = W6 → Ev.ResI w W (w.heap.size + 1 + 1 + 1 + 1 + 1) 0 (Ev.resX w.heap.size) := fun W e => e ▸ ⟨L0.out, Ev.resX_bld _, rfl, rfl, ⟨_, rfl⟩⟩
  have HST := Lib.hid hst
  clear hst
  go_loopw [4, 5, 6, 7, 8] (fun iv _ _ _ _ wr => ∃ (i : Nat) (x : Ev.X), i ≤ x0.length ∧ iv = .int .i64 (i : Int) ∧ Ev.ResI w wr (w.heap.size + 1 + 1 + 1 + 1 + 1) i x) (fun iv _ _ _ _ _ => x0.length - (intOf iv).toNat)
  case atStart => exact ⟨0, Ev.resX w.heap.size, Nat.zero_le _, rfl, HST.out _ HW6.out.symm⟩
  case round =>
    clear HST HW6 L0
    obtain ⟨i, x, hi, rfl, hx⟩ := hrel
    have HX := Lib.hid hx
    clear hx
    by_cases hlt : i < x0.length
    case neg =>
      have hii : ¬ (i : Int) < (x0.length : Int) := by omega
      have B1 := Lib.hid HX.out.lay.bel
      have R1 := Lib.hid HX.out.lay.box
      have I1 := Lib.hid HX.out.lay.xin
      have NX := Lib.hid (show x.ev.length ≤ 16 by rw [HX.out.len]; omega)
      have HC := Lib.hid (HX.out.bld.check (by have := NX.out; omega))
      have t00 : ((0 : Int) != 0) = false := by decide
      go_wp2_with (((with_reducible show wpList _ _ _ (Oper.mk (some 89) _ _ _ _ _ :: _) _ _); refine wpList_load_row rfl 26 (.tmp 3) rfl (w.heap.size + 1 + 1 + 1 + 1 + 1) (by kernel_rfl) 26 (Ev.xcells x).toArray (0, 0) _ R1.out Try.underlying26 rfl (by kernel_rfl) ?_))
      refine (rcheck_is HC.out _ I1.out).mono ?_
      rintro e W2 ⟨rfl, hb2⟩
      have B2 := Lib.hid (B1.out.trans (hb2.mono B1.out.size))
      have R2 := Lib.hid ((hb2.block _ (Array.getElem?_eq_some_iff.1 R1.out).1).trans R1.out)
      have I2 := Lib.hid (I1.out.kp (Ev.kp_below hb2))
      clear hb2
      go_wp2_with (((with_reducible show wpList _ _ _ (Oper.mk (some 93) _ _ _ _ _ :: _) _ _); refine wpList_load_row rfl 26 (.tmp 3) rfl (w.heap.size + 1 + 1 + 1 + 1 + 1) (by kernel_rfl) 26 (Ev.xcells x).toArray (0, 0) _ R2.out Try.underlying26 rfl (by kernel_rfl) ?_))
      refine (oppo_any x _ I2.out).mono ?_
      rintro e W3 ⟨hb3, (⟨hc, rfl⟩ | ⟨hc, ad, cc, rfl, hp⟩)⟩
      · exact absurd HC.out hc
      have B3 := Lib.hid (B2.out.trans (hb3.mono B2.out.size))
      have R3 := Lib.hid ((hb3.block _ (Array.getElem?_eq_some_iff.1 R2.out).1).trans R2.out)
      have I3 := Lib.hid (I2.out.kp (Ev.kp_below hb3))
      rw [ppo_pl hc] at hp ⊢
      obtain ⟨L, hL⟩ : ∃ L, Ev.pl (Ev.isPpo x) x.ev.length x.ev.length = L := ⟨_, rfl⟩
      have H5 := Lib.hid (fun (W : World) (hin : Ev.XIn W x) => rpairs5_any x W hin hc)
      rw [hL] at hp ⊢
      have HL := Lib.hid hL; have HP := Lib.hid hp
      clear hb3 hc hp hL
      go_wp2_with fail
      go_loopw [11, 12, 13, 14] (fun bv _ _ _ wl => ∃ k : Nat, k ≤ x.ev.length ∧ bv = .int .i64 (k : Int) ∧ Below W3.heap.size W3 wl) (fun bv _ _ _ _ => x.ev.length - (intOf bv).toNat)
      case atStart => exact ⟨0, Nat.zero_le _, rfl, Below.refl _ _⟩
      case round =>
        obtain ⟨k, hk, rfl, hbl⟩ := hrel
        have B4 := Lib.hid (B3.out.trans (hbl.mono B3.out.size))
        have R4 := Lib.hid ((hbl.block _ (Array.getElem?_eq_some_iff.1 R3.out).1).trans R3.out)
        have I4 := Lib.hid (I3.out.kp (Ev.kp_below hbl))
        have HBL := Lib.hid hbl
        clear hbl
        have cx := Ev.xcell0 R4.out
        by_cases hkl : k < x.ev.length
        case neg =>
          have hki : ¬ (k : Int) < (x.ev.length : Int) := by omega
          clear hkl
          have t01 : ((0 : Int) == 0) = true := by decide
          go_wp2_with (((with_reducible show wpList _ _ _ (Oper.mk (some 127) _ _ _ _ _ :: _) _ _); refine Ev.load_row_g 26 (.tmp 3) rfl rfl (w.heap.size + 1 + 1 + 1 + 1 + 1) (by kernel_rfl) 26 (Ev.xcells x).toArray (0, 0) _ R4.out Try.underlying26 rfl (by kernel_rfl) ?_))
          refine (H5.out _ I4.out).mono ?_
          rw [HL.out]
          rintro e W5 ⟨ad2, cc2, rfl, hp2, hb5⟩
          have B5 := Lib.hid (B4.out.trans (hb5.mono B4.out.size))
          have R5 := Lib.hid ((hb5.block _ (Array.getElem?_eq_some_iff.1 R4.out).1).trans R4.out)
          have I5 := Lib.hid (I4.out.kp (Ev.kp_below hb5))
          have HP5 := Lib.hid (HP.out.kp (Ev.kp_below (HBL.out.trans (hb5.mono HBL.out.size)))); have HP2 := Lib.hid hp2
          clear hb5 hp2
          go_wp2_with fail
          refine (samePairs_yes ad ad2 cc cc2 L _ HP5.out HP2.out).mono ?_
          rintro e W6 ⟨rfl, hb6⟩
          have B6 := Lib.hid (B5.out.trans (hb6.mono B5.out.size))
          have R6 := Lib.hid ((hb6.block _ (Array.getElem?_eq_some_iff.1 R5.out).1).trans R5.out)
          have I6 := Lib.hid (I5.out.kp (Ev.kp_below hb6))
          clear hb6
          go_wp2_with fail
          refine (known7_any _).mono ?_
          rintro e W99 ⟨rfl, hb99⟩
          have HEND := Lib.hid (B6.out.trans (hb99.mono B6.out.size)); clear hb99
          go_wp2_with fail
          go_ret
          exact ⟨rfl, HEND.out⟩
        have hki : (k : Int) < (x.ev.length : Int) := by omega
        have HKL := Lib.hid hkl
        have KB := Lib.hid (show Ev.i64B (k : Int) by have := NX.out; unfold Ev.i64B; omega)
        have PB := Lib.hid (Or.pairOf_eq HC.out hkl)
        clear hkl
        go_wp2_with (((with_reducible show wpList _ _ _ (Oper.mk (some 105) _ _ _ _ _ :: _) _ _); refine wpList_load_row rfl 26 (.tmp 3) rfl (w.heap.size + 1 + 1 + 1 + 1 + 1) (by kernel_rfl) 26 (Ev.xcells x).toArray (0, 0) _ R4.out Try.underlying26 rfl (by kernel_rfl) ?_))
        refine (opaired_any x (k : Int) KB.out _ I4.out).mono ?_
        rintro e W5 ⟨hb5, hr⟩
        have hr := (show e = .returned (.tuple (match Or.pairOf x k with | none => #[.int .i64 0, .bool false] | some a => #[.int .i64 (a : Int), .bool true])) by
          rcases hr with ⟨h, _⟩ | ⟨_, _, h⟩
          · rcases h with h | h
            · exact absurd HC.out h
            · exact absurd (show Or.inR x (k : Int) from ⟨by omega, by have := HKL.out; omega⟩) h
          · rw [show ((k : Int)).toNat = k by omega] at h; exact h)
        have B5 := Lib.hid (B4.out.trans (hb5.mono B4.out.size))
        have R5 := Lib.hid ((hb5.block _ (Array.getElem?_eq_some_iff.1 R4.out).1).trans R4.out)
        have I5 := Lib.hid (I4.out.kp (Ev.kp_below hb5))
        have HB5 := Lib.hid (HBL.out.trans (hb5.mono HBL.out.size))
        clear hb5 cx
        rcases PB.out with ⟨hp, ho⟩ | ⟨c, hp, ho⟩
        · rw [ho] at hr
          subst hr
          have HPP := Lib.hid hp
          clear hp ho
          go_wp2_with (((with_reducible show wpList _ _ _ (Oper.mk (some 110) _ _ _ _ _ :: _) _ _); refine wpList_load_row rfl 26 (.tmp 3) rfl (w.heap.size + 1 + 1 + 1 + 1 + 1) (by kernel_rfl) 26 (Ev.xcells x).toArray (0, 0) _ R5.out Try.underlying26 rfl (by kernel_rfl) ?_))
          refine (rpaired_is HPP.out HKL.out W5 I5.out).mono ?_
          rintro e W6 ⟨rfl, hb6⟩
          have HB6 := Lib.hid (HB5.out.trans (hb6.mono HB5.out.size))
          have hk64 : (k : Int) < 64 := by have := NX.out; have := HKL.out; omega
          clear hb6
          have q1 : decide ((0 : Int) ≤ -1) = false := by decide
          go_wp2_with fail
          go_roundw
          case rel => exact ⟨k + 1, by have := HKL.out; omega, by go_num, HB6.out⟩
          case measure => have hk2 := HKL.out; simp [intOf]; omega
        · rw [ho] at hr
          subst hr
          have HPP := Lib.hid hp
          clear hp ho
          go_wp2_with (((with_reducible show wpList _ _ _ (Oper.mk (some 110) _ _ _ _ _ :: _) _ _); refine wpList_load_row rfl 26 (.tmp 3) rfl (w.heap.size + 1 + 1 + 1 + 1 + 1) (by kernel_rfl) 26 (Ev.xcells x).toArray (0, 0) _ R5.out Try.underlying26 rfl (by kernel_rfl) ?_))
          refine (rpaired_is HPP.out HKL.out W5 I5.out).mono ?_
          rintro e W6 ⟨rfl, hb6⟩
          have HB6 := Lib.hid (HB5.out.trans (hb6.mono HB5.out.size))
          have hk64 : (k : Int) < 64 := by have := NX.out; have := HKL.out; omega
          clear hb6
          have q1 : decide ((0 : Int) ≤ (c : Int)) = true := decide_eq_true (by omega)
          have q2 : ¬ (c : Int) < 0 := by omega
          go_wp2_with fail
          go_roundw
          case rel => exact ⟨k + 1, by have := HKL.out; omega, by go_num, HB6.out⟩
          case measure => have hk2 := HKL.out; simp [intOf]; omega
    have hii : (i : Int) < (x0.length : Int) := by omega
    obtain ⟨v, hv⟩ : ∃ v, x0[i]? = some v := ⟨_, List.getElem?_eq_getElem hlt⟩
    have VB := Lib.hid (HBS.out.2 v (List.mem_of_getElem? hv))
    obtain ⟨g0, o0, ea, hcell⟩ := (HBS.out.kp (Ev.kp_below HX.out.lay.bel)).1 (by omega)
    have hc0 := hcell i v hv
    subst ea
    have cx0 := Ev.xcell0 HX.out.lay.box
    obtain ⟨wd, hwd⟩ : ∃ wd : Nat, wd = (v % 2).toNat := ⟨_, rfl⟩
    have hw2 : v.tmod 2 = (wd : Int) := by rw [Int.tmod_eq_emod_of_nonneg VB.out.1, hwd]; omega
    have hwl : wd < 2 := by omega
    have hw64 : wrap64 (wd : Int) = wd := (by unfold wrap64; omega)
    have hw644 : wrap64 (4 * (wd : Int)) = 4 * wd := (by unfold wrap64; omega)
    have HW2 := Lib.hid hw2; have HW64 := Lib.hid hw64; have HW644 := Lib.hid hw644; have HWL := Lib.hid hwl
    obtain ⟨z, hz⟩ : ∃ z, decide (v.tmod 8 < 4) = z := ⟨_, rfl⟩
    have HZ := Lib.hid hz
    have hst : (v.tdiv 2).tmod 2 = 1 ∨ (v.tdiv 2).tmod 2 = 0 := by
      have h1 : (0 : Int) ≤ v.tdiv 2 := Int.tdiv_nonneg VB.out.1 (by omega)
      rw [Int.tmod_eq_emod_of_nonneg h1]; omega
    clear hcell hv hwd hw2 hw64 hw644 hz cx0
    obtain ⟨ie, hie, hye, hse, hbe⟩ := or_info_event
    have IE := Lib.hid hie; have IY := Lib.hid hye; have IS := Lib.hid hse; have IB := Lib.hid hbe
    clear hie hye hse hbe
    have NX := Lib.hid (show x.ev.length ≤ 16 by rw [HX.out.len]; omega)
    have NF := Lib.hid (show x.fr.l.length ≤ 16 by rw [HX.out.bld.fl]; exact NX.out)
    have cx0 := Ev.xcell0 HX.out.lay.box
    rcases hst with hst | hst
    · have ht : (v.tdiv 2 % 2 == 1) = true := by
        have h1 : (0 : Int) ≤ v.tdiv 2 := Int.tdiv_nonneg VB.out.1 (by omega)
        rw [Int.tmod_eq_emod_of_nonneg h1] at hst; rw [hst]; rfl
      clear hst
      obtain ⟨W1, hW1⟩ : ∃ W1, W1 = wr.alloc (Obj.cells #[.int .i64 0, .int .i64 1, .int .u32 (4 * (wd : Int)), .int .u32 0, .int .u32 0, .bool false, .bool false, .int .i64 0, .int .i64 0, .bool z, .slice none 0 0, .slice none 0 0, .slice none 0 0] 54) := ⟨_, rfl⟩
      have HW1 := Lib.hid hW1
      have B1 := Lib.hid (show Below wr.heap.size wr W1 by rw [hW1]; exact (Below.refl wr.heap.size wr).alloc (Nat.le_refl _) _)
      have R1 := Lib.hid (show W1.heap[wr.heap.size]? = some (.cells #[.int .i64 0, .int .i64 1, .int .u32 (4 * (wd : Int)), .int .u32 0, .int .u32 0, .bool false, .bool false, .int .i64 0, .int .i64 0, .bool z, .slice none 0 0, .slice none 0 0, .slice none 0 0] 54 (0, 0)) by rw [hW1]; exact heap_alloc_new _ _)
      have L1 := Lib.hid (HX.out.lay.kp B1.out)
      have hc1 := Ev.kp_below B1.out _ _ hc0
      obtain ⟨y, hy⟩ : ∃ y : Ev.R, y = ⟨0, 2, 4 * (wd : Int), 1 + (i : Int), 0, false, false, 0, 0, z, Ev.noS, Ev.noS, Ev.noS⟩ := ⟨_, rfl⟩
      have OL := Lib.hid (show (x.od.map (·.l)).length = 2 by rw [List.length_map]; exact HX.out.ol)
      have HY := Lib.hid (show Ev.Laid (x.od.map (·.l)).length y (-1) by rw [hy]; exact .store wd (by rw [OL.out]; exact HWL.out) _ z)
      have HYV := Lib.hid (show ∀ V, Ev.ROk V y from Ev.laid_ok (by rw [OL.out]; omega) HY.out (by rw [hy]; show Ev.u32B (1 + (i : Int)); unfold Ev.u32B; omega))
      have HYC := Lib.hid (show Ev.cells y = #[.int .i64 0, .int .i64 2, .int .u32 (4 * (wd : Int)), .int .u32 (1 + (i : Int)), .int .u32 0, .bool false, .bool false, .int .i64 0, .int .i64 0, .bool z, .slice none 0 0, .slice none 0 0, .slice none 0 0].toList by rw [hy]; rfl)
      have HFB := Lib.hid (show Ev.i64B (-1) by have := HWL.out; unfold Ev.i64B; omega)
      have HYS := Lib.hid (show Ev.stores y.k = true by rw [hy]; rfl)
      have HYA := Lib.hid (show y.a = 4 * wd by rw [hy])
      obtain ⟨W1a, hW1a⟩ : ∃ W1a, W1a = W1.setCell ⟨wr.heap.size, 1, none⟩ (.int .i64 2) := ⟨_, rfl⟩
      have HW1a := Lib.hid hW1a
      have R1a := Lib.hid (show W1a.heap[wr.heap.size]? = some (.cells #[.int .i64 0, .int .i64 2, .int .u32 (4 * (wd : Int)), .int .u32 0, .int .u32 0, .bool false, .bool false, .int .i64 0, .int .i64 0, .bool z, .slice none 0 0, .slice none 0 0, .slice none 0 0] 54 (0, 0)) by rw [hW1a]; exact Ev.row_set _ R1.out)
      have B1a := Lib.hid (show Below wr.heap.size wr W1a by rw [hW1a]; exact B1.out.setCell (Nat.le_refl _) _)
      obtain ⟨W1b, hW1b⟩ : ∃ W1b, W1b = W1a.setCell ⟨wr.heap.size, 3, none⟩ (.int .u32 (1 + (i : Int))) := ⟨_, rfl⟩
      have HW1b := Lib.hid hW1b
      have R1b := Lib.hid (show W1b.heap[wr.heap.size]? = some (.cells #[.int .i64 0, .int .i64 2, .int .u32 (4 * (wd : Int)), .int .u32 (1 + (i : Int)), .int .u32 0, .bool false, .bool false, .int .i64 0, .int .i64 0, .bool z, .slice none 0 0, .slice none 0 0, .slice none 0 0] 54 (0, 0)) by rw [hW1b]; exact Ev.row_set _ R1a.out)
      have B1b := Lib.hid (show Below wr.heap.size wr W1b by rw [hW1b]; exact B1a.out.setCell (Nat.le_refl _) _)
      have L1b := Lib.hid (HX.out.lay.kp B1b.out)
      have k1 := Ev.ecell R1.out 1 rfl
      have k2 := Ev.box_free (i := 1) R1.out
      have k3 := Ev.ecell R1a.out 3 rfl
      have k4 := Ev.box_free (i := 3) R1a.out
      have hi1 : wrap64 (1 + (i : Int)) = 1 + i := (by unfold wrap64; omega)
      have HI1 := Lib.hid hi1
      obtain ⟨g, hg⟩ := HX.out.ao
      have HG := Lib.hid hg
      obtain ⟨sv, hsv⟩ : ∃ sv, x.od[wd]? = some sv := ⟨_, List.getElem?_eq_getElem (by rw [HX.out.ol]; exact HWL.out)⟩
      have HSV := Lib.hid hsv
      have NS := Lib.hid (show sv.l.length ≤ 20 from Nat.le_trans (HX.out.bld.rowLen (by rw [List.getElem?_map, hsv]; rfl)) (by rw [HX.out.len]; omega))
      clear hy hW1 hW1a hW1b hg hsv hi1
      go_wp2_with (first
        | ((with_reducible show wpList _ _ _ (Oper.mk (some 55) _ _ _ _ _ :: _) _ _); rw [show wr.alloc (Obj.cells #[.int .i64 0, .int .i64 1, .int .u32 (4 * (wd : Int)), .int .u32 0, .int .u32 0, .bool false, .bool false, .int .i64 0, .int .i64 0, .bool z, .slice none 0 0, .slice none 0 0, .slice none 0 0] 54) = W1 from HW1.out.symm])
        | ((with_reducible show wpList _ _ _ (Oper.mk (some 56) _ _ _ _ _ :: _) _ _); rw [show wr.alloc (Obj.cells #[.int .i64 0, .int .i64 1, .int .u32 (4 * (wd : Int)), .int .u32 0, .int .u32 0, .bool false, .bool false, .int .i64 0, .int .i64 0, .bool z, .slice none 0 0, .slice none 0 0, .slice none 0 0] 54) = W1 from HW1.out.symm])
        | ((with_reducible show wpList _ _ _ (Oper.mk (some 38) _ _ _ _ _ :: _) _ _); rw [HW2.out])
        | ((with_reducible show wpList _ _ _ (Oper.mk (some 5) _ _ _ _ _ :: _) _ _); rw [HW64.out])
        | ((with_reducible show wpList _ _ _ (Oper.mk (some 44) _ _ _ _ _ :: _) _ _); rw [HW644.out])
        | ((with_reducible show wpList _ _ _ (Oper.mk (some 51) _ _ _ _ _ :: _) _ _); rw [HZ.out])
        | ((with_reducible show wpList _ _ _ (Oper.mk (some 62) _ _ _ _ _ :: _) _ _); rw [HI1.out])
        | ((with_reducible show wpList _ _ _ (Oper.mk (some 64) _ _ _ _ _ :: _) _ _); rw [show W1.setCell ⟨wr.heap.size, 1, none⟩ (.int .i64 2) = W1a from HW1a.out.symm]))
      rw [show W1a.setCell ⟨wr.heap.size, 3, none⟩ (.int .u32 (1 + (i : Int))) = W1b from HW1b.out.symm]
      clear k1 k2 k3 k4
      obtain ⟨wq, hwq⟩ : ∃ wq, wq = { W1b with drawn := W1b.drawn + 1 } := ⟨_, rfl⟩
      have BQ := Lib.hid (show Below W1b.heap.size W1b wq by rw [hwq]; exact ⟨rfl, rfl, rfl, Nat.le_refl _, fun _ _ => rfl⟩)
      have LQ := Lib.hid (L1b.out.kp BQ.out)
      have HWQ := Lib.hid hwq
      clear hwq
      have SB := Lib.hid (Ev.xcell2 LQ.out.box)
      have SR := Lib.hid (Ev.od_cell LQ.out HSV.out HG.out)
      have HSD := Lib.hid (fun i : Nat => (show Ev.Sd (w.heap.size + 1 + 1 + 1 + 1 + 1) g wd (.slice (some ⟨g, 0, none⟩) x.od.length x.co) sv.v i wq from ⟨by have := SB.out; rw [HG.out] at this; exact this, fun _ => SR.out⟩))
      have hwo : (wd : Int) < (x.od.length : Int) := by have := (List.getElem?_eq_some_iff.1 HSV.out).1; omega
      refine Og.region_S (S := Ev.Sd (w.heap.size + 1 + 1 + 1 + 1 + 1) g wd (.slice (some ⟨g, 0, none⟩) x.od.length x.co) sv.v) (by kernel_rfl) ?_
      rw [← HWQ.out]
      refine Og.s_take 0 { dst := some 65, op := .fieldAddr 26 (.tmp 3) 2, type := 0, pos := "law.go:270", after := #[], guard := none } (.pointer (some ⟨w.heap.size + 1 + 1 + 1 + 1 + 1, 2, none⟩)) _ (by kernel_rfl) (by kernel_rfl) (by kernel_rfl) (by kernel_rfl) (by kernel_rfl) (fun _ _ _ h => h) (HSD.out 0) (fun x' hx => ?_) (by simp only [Act.put, List.setIfInBounds_toArray, List.set_cons_zero, List.set_cons_succ]; rfl) ?_
      · go_simp; try (with_reducible rfl)
      refine Og.s_take 1 { dst := some 66, op := .load 24 (.tmp 65), type := 24, pos := "law.go:270", after := #[{ on := 0, ground := .data }], guard := none } (.slice (some ⟨g, 0, none⟩) x.od.length x.co) _ (by kernel_rfl) (by kernel_rfl) (by kernel_rfl) (by kernel_rfl) (by kernel_rfl) (fun _ _ _ h => h) (HSD.out 1) (fun x' hx => ?_) (by simp only [Act.put, List.setIfInBounds_toArray, List.set_cons_zero, List.set_cons_succ]; rfl) ?_
      · have hx1 := hx.1; go_simp; try (with_reducible rfl)
      refine Og.s_take 2 { dst := some 67, op := .move (.tmp 5), type := 3, pos := "law.go:270", after := #[], guard := none } (.int .i64 (wd : Int)) _ (by kernel_rfl) (by kernel_rfl) (by kernel_rfl) (by kernel_rfl) (by kernel_rfl) (fun _ _ _ h => h) (HSD.out 2) (fun x' hx => ?_) (by simp only [Act.put, List.setIfInBounds_toArray, List.set_cons_zero, List.set_cons_succ]; rfl) ?_
      · go_simp; try (with_reducible rfl)
      refine Og.s_take 3 { dst := some 68, op := .fieldAddr 26 (.tmp 3) 2, type := 0, pos := "law.go:270", after := #[], guard := none } (.pointer (some ⟨w.heap.size + 1 + 1 + 1 + 1 + 1, 2, none⟩)) _ (by kernel_rfl) (by kernel_rfl) (by kernel_rfl) (by kernel_rfl) (by kernel_rfl) (fun _ _ _ h => h) (HSD.out 3) (fun x' hx => ?_) (by simp only [Act.put, List.setIfInBounds_toArray, List.set_cons_zero, List.set_cons_succ]; rfl) ?_
      · go_simp; try (with_reducible rfl)
      refine Og.s_take 4 { dst := some 69, op := .load 24 (.tmp 68), type := 24, pos := "law.go:270", after := #[{ on := 3, ground := .data }], guard := none } (.slice (some ⟨g, 0, none⟩) x.od.length x.co) _ (by kernel_rfl) (by kernel_rfl) (by kernel_rfl) (by kernel_rfl) (by kernel_rfl) (fun _ _ _ h => h) (HSD.out 4) (fun x' hx => ?_) (by simp only [Act.put, List.setIfInBounds_toArray, List.set_cons_zero, List.set_cons_succ]; rfl) ?_
      · have hx1 := hx.1; go_simp; try (with_reducible rfl)
      refine Og.s_take 5 { dst := some 70, op := .move (.tmp 5), type := 3, pos := "law.go:270", after := #[], guard := none } (.int .i64 (wd : Int)) _ (by kernel_rfl) (by kernel_rfl) (by kernel_rfl) (by kernel_rfl) (by kernel_rfl) (fun _ _ _ h => h) (HSD.out 5) (fun x' hx => ?_) (by simp only [Act.put, List.setIfInBounds_toArray, List.set_cons_zero, List.set_cons_succ]; rfl) ?_
      · go_simp; try (with_reducible rfl)
      refine Og.s_take 6 { dst := some 71, op := .indexAddr 24 (.tmp 69) (.tmp 70), type := 0, pos := "law.go:270", after := #[{ on := 4, ground := .data }, { on := 5, ground := .data }], guard := none } (.pointer (some ⟨g, wd, none⟩)) _ (by kernel_rfl) (by kernel_rfl) (by kernel_rfl) (by kernel_rfl) (by kernel_rfl) (fun _ _ _ h => h) (HSD.out 6) (fun x' hx => ?_) (by simp only [Act.put, List.setIfInBounds_toArray, List.set_cons_zero, List.set_cons_succ]; rfl) ?_
      · go_simp; try (with_reducible rfl)
      refine Og.s_take 7 { dst := some 72, op := .load 23 (.tmp 71), type := 23, pos := "law.go:270", after := #[{ on := 6, ground := .data }], guard := none } (.slice sv.a sv.l.length sv.c) _ (by kernel_rfl) (by kernel_rfl) (by kernel_rfl) (by kernel_rfl) (by kernel_rfl) (fun _ _ _ h => h) (HSD.out 7) (fun x' hx => ?_) (by simp only [Act.put, List.setIfInBounds_toArray, List.set_cons_zero, List.set_cons_succ]; rfl) ?_
      · have hx1 := hx.2 rfl; unfold Ev.Sl.v at hx1; go_simp; try (with_reducible rfl)
      refine Og.s_take 8 { dst := some 73, op := .move (.tmp 6), type := 3, pos := "law.go:270", after := #[], guard := none } (.int .i64 (x.ev.length : Int)) _ (by kernel_rfl) (by kernel_rfl) (by kernel_rfl) (by kernel_rfl) (by kernel_rfl) (fun _ _ _ h => h) (HSD.out 8) (fun x' hx => ?_) (by simp only [Act.put, List.setIfInBounds_toArray, List.set_cons_zero, List.set_cons_succ]; rfl) ?_
      · go_simp; try (with_reducible rfl)
      -- what is built, appended, stored
      refine Og.s_one 9 { dst := some 74, op := .buildSlice 23 1 #[(0, .tmp 73)], type := 23, pos := "law.go:270", after := #[{ on := 8, ground := .data }], guard := none } (by kernel_rfl) (by kernel_rfl) (by kernel_rfl) ?_
      refine Og.run_to (v := .slice (some ⟨wq.heap.size, 0, none⟩) 1 1) (w' := wq.alloc (.cells #[.int .i64 (x.ev.length : Int)] 3)) (by go_simp; try (with_reducible rfl)) ⟨Ev.keep_d (o := { dst := some 74, op := .buildSlice 23 1 #[(0, .tmp 73)], type := 23, pos := "law.go:270", after := #[{ on := 8, ground := .data }], guard := none }) (by kernel_rfl) (.inr fun h => Ev.cell_alloc _ h) (fun h => Ev.cell_alloc _ h), ?_⟩
      obtain ⟨v', w10, hrun10, hown10, hgrow10, _, hloc10⟩ := run_append_own_at (P := Try.prog) (wq.alloc (.cells #[.int .i64 (x.ev.length : Int)] 3)) w.heap.size 23 23 3 i0 (.int .i64 0) 1 8 Try.underlying23 HI.out HZ0.out HZ1.out HZ2.out rfl (by decide) sv.v sv.l.length (sv.l.map Ev.nv) (Ev.row_kp (LQ.out.row _ _ HSV.out) ((Below.refl _ _).alloc (Nat.le_refl _) _)) ⟨wq.heap.size, 0, none⟩ 1 1 [Ev.nv (x.ev.length : Int)] rfl (World.news_of_block (cs := #[.int .i64 (x.ev.length : Int)]) (heap_alloc_new wq _)) (Ev.nv_one _) (by have := NS.out; unfold maxLen; omega) (by have := NS.out; omega) (by have := LQ.out.bel.size; simp only [World.size_alloc]; omega)
      obtain ⟨a10, c10, hv10, hq1, hq2, hl10⟩ := LQ.out.pushOd HSV.out (show Ev.i64B (x.ev.length : Int) by have := NX.out; unfold Ev.i64B; omega) hown10 hgrow10 hloc10 HG.out
      subst hv10
      have MV := Lib.hid (Ev.mv_of (B := g) (i := wd) (u := .slice a10 (sv.l.length + 1) c10) hgrow10)
      have HR10 := Lib.hid hrun10; have L12 := Lib.hid hl10; have HQ1 := Lib.hid hq1; have HQ2 := Lib.hid hq2; have HG10 := Lib.hid hgrow10
      clear hrun10 hown10 hgrow10 hloc10 hl10 hq1 hq2
      refine Og.s_one 10 { dst := some 75, op := .call { callee := .builtin .append, args := #[.tmp 72, .tmp 74], argTypes := #[23, 23] }, type := 23, pos := "law.go:270", after := #[{ on := 7, ground := .data }, { on := 9, ground := .data }], guard := none } (by kernel_rfl) (by kernel_rfl) (by kernel_rfl) ?_
      refine Og.run_to (v := .slice a10 (sv.l.length + 1) c10) (w' := w10) (Og.append_to (.tmp 72) (.tmp 74) 23 (by kernel_rfl) (by kernel_rfl) (by kernel_rfl) HR10.out) ⟨Ev.keep_d (o := { dst := some 75, op := .call { callee := .builtin .append, args := #[.tmp 72, .tmp 74], argTypes := #[23, 23] }, type := 23, pos := "law.go:270", after := #[{ on := 7, ground := .data }, { on := 9, ground := .data }], guard := none }) (by kernel_rfl) (.inl ⟨{ on := 7, ground := .data }, by simp, by kernel_rfl, rfl⟩) (fun h => (Ev.grown_box LQ.out HG10.out (LQ.out.bne.2.2.2 _ _ HSV.out)).trans h), ?_⟩
      have HSB := Lib.hid (show Ev.Sd (w.heap.size + 1 + 1 + 1 + 1 + 1) g wd (.slice (some ⟨g, 0, none⟩) x.od.length x.co) sv.v 11 w10 from ⟨(Ev.grown_box LQ.out HG10.out (LQ.out.bne.2.2.2 _ _ HSV.out)).trans (Ev.cell_alloc _ (HSD.out 11).1), fun e => absurd e (by decide)⟩)
      refine Og.s_take 11 { dst := some 76, op := .indexAddr 24 (.tmp 66) (.tmp 67), type := 0, pos := "law.go:270", after := #[{ on := 1, ground := .data }, { on := 2, ground := .data }, { on := 0, ground := .phase }, { on := 1, ground := .phase }, { on := 2, ground := .phase }, { on := 3, ground := .phase }, { on := 4, ground := .phase }, { on := 5, ground := .phase }, { on := 6, ground := .phase }, { on := 7, ground := .phase }, { on := 8, ground := .phase }, { on := 9, ground := .phase }, { on := 10, ground := .phase }], guard := none } (.pointer (some ⟨g, wd, none⟩)) _ (by kernel_rfl) (by kernel_rfl) (by kernel_rfl) (by kernel_rfl) (by kernel_rfl) (fun _ _ _ h => h) HSB.out (fun x' hx => ?_) (by simp only [Act.put, List.setIfInBounds_toArray, List.set_cons_zero, List.set_cons_succ]; rfl) ?_
      · go_simp; try (with_reducible rfl)
      refine Og.s_one 12 { dst := none, op := .store 23 (.tmp 76) (.tmp 75), type := 0, pos := "law.go:270", after := #[{ on := 11, ground := .data }, { on := 10, ground := .data }, { on := 10, ground := .chain }, { on := 0, ground := .phase }, { on := 1, ground := .phase }, { on := 2, ground := .phase }, { on := 3, ground := .phase }, { on := 4, ground := .phase }, { on := 5, ground := .phase }, { on := 6, ground := .phase }, { on := 7, ground := .phase }, { on := 8, ground := .phase }, { on := 9, ground := .phase }, { on := 10, ground := .phase }], guard := none } (by kernel_rfl) (by kernel_rfl) (by kernel_rfl) ?_
      refine Og.skip_to (w' := w10.setCell ⟨g, wd, none⟩ (.slice a10 (sv.l.length + 1) c10)) ?_ ?_
      · exact Og.store_to 23 (.tmp 76) (.tmp 75) rfl (by kernel_rfl) (by kernel_rfl) (by kernel_rfl) HQ1.out HQ2.out
      obtain ⟨w12, hw12⟩ : ∃ w12, w12 = w10.setCell ⟨g, wd, none⟩ (.slice a10 (sv.l.length + 1) c10) := ⟨_, rfl⟩
      rw [← hw12]
      refine And.intro (Ev.keep_d (o := { dst := none, op := .store 23 (.tmp 76) (.tmp 75), type := 0, pos := "law.go:270", after := #[{ on := 11, ground := .data }, { on := 10, ground := .data }, { on := 10, ground := .chain }, { on := 0, ground := .phase }, { on := 1, ground := .phase }, { on := 2, ground := .phase }, { on := 3, ground := .phase }, { on := 4, ground := .phase }, { on := 5, ground := .phase }, { on := 6, ground := .phase }, { on := 7, ground := .phase }, { on := 8, ground := .phase }, { on := 9, ground := .phase }, { on := 10, ground := .phase }], guard := none }) (by kernel_rfl) (.inl ⟨{ on := 7, ground := .phase }, Array.mem_of_getElem? (i := 10) (by kernel_rfl), by kernel_rfl, rfl⟩) (fun h => by rw [hw12]; exact (Ev.set_box LQ.out HG.out).trans h)) ?_
      rw [← hw12] at L12 MV
      clear hw12
      refine Og.s_done (by kernel_rfl) ?_ _
      simp only [Act.put, List.setIfInBounds_toArray, List.set_cons_zero, List.set_cons_succ]
      have RQ := Lib.hid ((BQ.out.block _ (Array.getElem?_eq_some_iff.1 R1b.out).1).trans R1b.out)
      have R12 := Lib.hid (MV.out.blk RQ.out (Ev.row_ne_box (LQ.out.row _ _ HSV.out) RQ.out (by decide)) (Ev.eb_ne LQ.out HG.out RQ.out))
      obtain ⟨x1, hx1⟩ : ∃ x1 : Ev.X, x1 = ⟨x.ae, x.ce, x.ev, x.fr, x.ao, x.co, x.od.set wd ⟨a10, c10, sv.l ++ [(x.ev.length : Int)]⟩⟩ := ⟨_, rfl⟩
      have LX1 := Lib.hid (show Ev.Lay w w12 (w.heap.size + 1 + 1 + 1 + 1 + 1) x1 by rw [hx1]; exact L12.out)
      have NX1 := Lib.hid (show x1.ev.length ≤ 16 by rw [hx1]; exact NX.out)
      have NF1 := Lib.hid (show x1.fr.l.length ≤ 16 by rw [hx1]; exact NF.out)
      have HX1 := Lib.hid hx1
      clear hx1
      have cx12 := Ev.xcell0 LX1.out.box
      go_wp2_with (first
        | ((with_reducible show wpList _ _ _ (Oper.mk (some 79) _ _ _ _ _ :: _) _ _); refine wpList_load_row rfl 54 (.tmp 7) rfl wr.heap.size (by kernel_rfl) 54 #[.int .i64 0, .int .i64 2, .int .u32 (4 * (wd : Int)), .int .u32 (1 + (i : Int)), .int .u32 0, .bool false, .bool false, .int .i64 0, .int .i64 0, .bool z, .slice none 0 0, .slice none 0 0, .slice none 0 0] (0, 0) _ R12.out Try.underlying54 rfl (by kernel_rfl) ?_)
        | ((with_reducible show wpList _ _ _ (Oper.mk (some 81) _ _ _ _ _ :: _) _ _); refine wpList_append_own_at _ rfl (.tmp 78) (.tmp 80) 22 rfl w.heap.size 54 ie (.agg (Ev.cells Ev.R0).toArray) 13 128 Try.underlying22 IE.out IY.out IS.out IB.out rfl (by decide) (Ev.evsV x1) x1.ev.length (x1.ev.map Ev.cells).flatten rfl (Ev.row_kp LX1.out.ev ((Below.refl _ _).alloc (Nat.le_refl _) _)) ⟨_, 0, none⟩ 1 1 (Ev.cells y) rfl rfl (by rw [HYC.out]; exact World.news_of_block (heap_alloc_new _ _)) (Ev.cells_one _) (by have := NX1.out; unfold maxLen; omega) (by have := NX1.out; omega) (by have := LX1.out.bel.size; simp only [World.size_alloc]; omega) ?_
           intro v1 w1 hown1 hgrow1 _ hat1
           obtain ⟨a1, c1, rfl, hb1, hl1⟩ := LX1.out.pushEv HYV.out hown1 hgrow1
           have k0 := Ev.xcell0 hb1
           have k1 := Ev.box_free (i := 0) hb1
           obtain ⟨W2, hW2⟩ : ∃ W2, W2 = w1.setCell ⟨w.heap.size + 1 + 1 + 1 + 1 + 1, 0, none⟩ (.slice a1 (x1.ev.length + 1) c1) := ⟨_, rfl⟩
           have HW2x := Lib.hid hW2
           have L2 := Lib.hid (hW2 ▸ hl1)
           clear hown1 hgrow1 hat1 hb1 hl1 hW2)
        | ((with_reducible show wpList _ _ _ (Oper.mk (some 83) _ _ _ _ _ :: _) _ _); rw [show w1.setCell ⟨w.heap.size + 1 + 1 + 1 + 1 + 1, 0, none⟩ (.slice a1 (x1.ev.length + 1) c1) = W2 from HW2x.out.symm]; have k2 := Ev.xcell1 L2.out.box)
        | ((with_reducible show wpList _ _ _ (Oper.mk (some 87) _ _ _ _ _ :: _) _ _); refine wpList_append_own_at _ rfl (.tmp 84) (.tmp 86) 23 rfl w.heap.size 3 i0 (.int .i64 0) 1 8 Try.underlying23 HI.out HZ0.out HZ1.out HZ2.out rfl (by decide) x1.fr.v x1.fr.l.length (x1.fr.l.map Ev.nv) rfl (Ev.row_kp L2.out.fr ((Below.refl _ _).alloc (Nat.le_refl _) _)) ⟨_, 0, none⟩ 1 1 [Ev.nv (-1)] rfl rfl (World.news_of_block (heap_alloc_new _ _)) (Ev.nv_one _) (by have := NF1.out; unfold maxLen; omega) (by have := NF1.out; omega) (by have := L2.out.bel.size; simp only [World.size_alloc]; omega) ?_
           intro v3 w3 hown3 hgrow3 _ hat3
           obtain ⟨a3, c3, rfl, hb3, hl3⟩ := L2.out.pushFr HFB.out hown3 hgrow3 hat3
           have k3 := Ev.xcell1 hb3
           have k4 := Ev.box_free (i := 1) hb3
           have L3 := Lib.hid hl3
           clear hown3 hgrow3 hat3 hb3 hl3))
      go_roundw
      case rel =>
        have hbl := HX.out.bld.put HY.out HYS.out (w := wd) (l := sv.l) (by rw [List.getElem?_map, HSV.out]; rfl) HYA.out
        refine ⟨i + 1, _, by omega, by go_num, ⟨L3.out, ?_, ?_, ?_, ?_⟩⟩
        · rw [HX1.out]
          show Ev.Bld (x.ev ++ [y]) (x.fr.l ++ [-1]) ((x.od.set wd _).map (·.l))
          rw [List.map_set]; exact hbl
        · rw [HX1.out]; have := HX.out.len; simp; omega
        · rw [HX1.out]; have := HX.out.ol; simpa using this
        · rw [HX1.out]; exact ⟨g, HG.out⟩
      case measure => simp [intOf]; omega
    · have ht : (v.tdiv 2 % 2 == 1) = false := by
        have h1 : (0 : Int) ≤ v.tdiv 2 := Int.tdiv_nonneg VB.out.1 (by omega)
        rw [Int.tmod_eq_emod_of_nonneg h1] at hst; rw [hst]; rfl
      clear hst
      obtain ⟨W1, hW1⟩ : ∃ W1, W1 = wr.alloc (Obj.cells #[.int .i64 0, .int .i64 1, .int .u32 (4 * (wd : Int)), .int .u32 0, .int .u32 0, .bool false, .bool false, .int .i64 0, .int .i64 0, .bool z, .slice none 0 0, .slice none 0 0, .slice none 0 0] 54) := ⟨_, rfl⟩
      have HW1 := Lib.hid hW1
      have B1 := Lib.hid (show Below wr.heap.size wr W1 by rw [hW1]; exact (Below.refl wr.heap.size wr).alloc (Nat.le_refl _) _)
      have R1 := Lib.hid (show W1.heap[wr.heap.size]? = some (.cells #[.int .i64 0, .int .i64 1, .int .u32 (4 * (wd : Int)), .int .u32 0, .int .u32 0, .bool false, .bool false, .int .i64 0, .int .i64 0, .bool z, .slice none 0 0, .slice none 0 0, .slice none 0 0] 54 (0, 0)) by rw [hW1]; exact heap_alloc_new _ _)
      have L1 := Lib.hid (HX.out.lay.kp B1.out)
      have hc1 := Ev.kp_below B1.out _ _ hc0
      obtain ⟨y, hy⟩ : ∃ y : Ev.R, y = ⟨0, 1, 4 * (wd : Int), 0, 0, false, false, 0, 0, z, Ev.noS, Ev.noS, Ev.noS⟩ := ⟨_, rfl⟩
      have OL := Lib.hid (show (x.od.map (·.l)).length = 2 by rw [List.length_map]; exact HX.out.ol)
      have HY := Lib.hid (show Ev.Laid (x.od.map (·.l)).length y (wd : Int) by rw [hy]; exact .load wd (by rw [OL.out]; exact HWL.out) z)
      have HYV := Lib.hid (show ∀ V, Ev.ROk V y from Ev.laid_ok (by rw [OL.out]; omega) HY.out (by rw [hy]; show Ev.u32B (0); unfold Ev.u32B; omega))
      have HYC := Lib.hid (show Ev.cells y = #[.int .i64 0, .int .i64 1, .int .u32 (4 * (wd : Int)), .int .u32 0, .int .u32 0, .bool false, .bool false, .int .i64 0, .int .i64 0, .bool z, .slice none 0 0, .slice none 0 0, .slice none 0 0].toList by rw [hy]; rfl)
      have HFB := Lib.hid (show Ev.i64B (wd : Int) by have := HWL.out; unfold Ev.i64B; omega)
      have HYS := Lib.hid (show Ev.stores y.k = false by rw [hy]; rfl)
      have HYA := Lib.hid (show y.a = 4 * wd by rw [hy])
      have cx1 := Ev.xcell0 L1.out.box
      clear hy hW1
      go_wp2_with (first
        | ((with_reducible show wpList _ _ _ (Oper.mk (some 55) _ _ _ _ _ :: _) _ _); rw [show wr.alloc (Obj.cells #[.int .i64 0, .int .i64 1, .int .u32 (4 * (wd : Int)), .int .u32 0, .int .u32 0, .bool false, .bool false, .int .i64 0, .int .i64 0, .bool z, .slice none 0 0, .slice none 0 0, .slice none 0 0] 54) = W1 from HW1.out.symm])
        | ((with_reducible show wpList _ _ _ (Oper.mk (some 56) _ _ _ _ _ :: _) _ _); rw [show wr.alloc (Obj.cells #[.int .i64 0, .int .i64 1, .int .u32 (4 * (wd : Int)), .int .u32 0, .int .u32 0, .bool false, .bool false, .int .i64 0, .int .i64 0, .bool z, .slice none 0 0, .slice none 0 0, .slice none 0 0] 54) = W1 from HW1.out.symm])
        | ((with_reducible show wpList _ _ _ (Oper.mk (some 38) _ _ _ _ _ :: _) _ _); rw [HW2.out])
        | ((with_reducible show wpList _ _ _ (Oper.mk (some 5) _ _ _ _ _ :: _) _ _); rw [HW64.out])
        | ((with_reducible show wpList _ _ _ (Oper.mk (some 44) _ _ _ _ _ :: _) _ _); rw [HW644.out])
        | ((with_reducible show wpList _ _ _ (Oper.mk (some 51) _ _ _ _ _ :: _) _ _); rw [HZ.out])
        | ((with_reducible show wpList _ _ _ (Oper.mk (some 79) _ _ _ _ _ :: _) _ _); refine wpList_load_row rfl 54 (.tmp 7) rfl wr.heap.size (by kernel_rfl) 54 #[.int .i64 0, .int .i64 1, .int .u32 (4 * (wd : Int)), .int .u32 0, .int .u32 0, .bool false, .bool false, .int .i64 0, .int .i64 0, .bool z, .slice none 0 0, .slice none 0 0, .slice none 0 0] (0, 0) _ R1.out Try.underlying54 rfl (by kernel_rfl) ?_)
        | ((with_reducible show wpList _ _ _ (Oper.mk (some 81) _ _ _ _ _ :: _) _ _); refine wpList_append_own_at _ rfl (.tmp 78) (.tmp 80) 22 rfl w.heap.size 54 ie (.agg (Ev.cells Ev.R0).toArray) 13 128 Try.underlying22 IE.out IY.out IS.out IB.out rfl (by decide) (Ev.evsV x) x.ev.length (x.ev.map Ev.cells).flatten rfl (Ev.row_kp L1.out.ev ((Below.refl _ _).alloc (Nat.le_refl _) _)) ⟨_, 0, none⟩ 1 1 (Ev.cells y) rfl rfl (by rw [HYC.out]; exact World.news_of_block (heap_alloc_new _ _)) (Ev.cells_one _) (by have := NX.out; unfold maxLen; omega) (by have := NX.out; omega) (by have := L1.out.bel.size; simp only [World.size_alloc]; omega) ?_
           intro v1 w1 hown1 hgrow1 _ hat1
           obtain ⟨a1, c1, rfl, hb1, hl1⟩ := L1.out.pushEv HYV.out hown1 hgrow1
           have k0 := Ev.xcell0 hb1
           have k1 := Ev.box_free (i := 0) hb1
           obtain ⟨W2, hW2⟩ : ∃ W2, W2 = w1.setCell ⟨w.heap.size + 1 + 1 + 1 + 1 + 1, 0, none⟩ (.slice a1 (x.ev.length + 1) c1) := ⟨_, rfl⟩
           have HW2x := Lib.hid hW2
           have L2 := Lib.hid (hW2 ▸ hl1)
           clear hown1 hgrow1 hat1 hb1 hl1 hW2)
        | ((with_reducible show wpList _ _ _ (Oper.mk (some 83) _ _ _ _ _ :: _) _ _); rw [show w1.setCell ⟨w.heap.size + 1 + 1 + 1 + 1 + 1, 0, none⟩ (.slice a1 (x.ev.length + 1) c1) = W2 from HW2x.out.symm]; have k2 := Ev.xcell1 L2.out.box)
        | ((with_reducible show wpList _ _ _ (Oper.mk (some 87) _ _ _ _ _ :: _) _ _); refine wpList_append_own_at _ rfl (.tmp 84) (.tmp 86) 23 rfl w.heap.size 3 i0 (.int .i64 0) 1 8 Try.underlying23 HI.out HZ0.out HZ1.out HZ2.out rfl (by decide) x.fr.v x.fr.l.length (x.fr.l.map Ev.nv) rfl (Ev.row_kp L2.out.fr ((Below.refl _ _).alloc (Nat.le_refl _) _)) ⟨_, 0, none⟩ 1 1 [Ev.nv (wd : Int)] rfl rfl (World.news_of_block (heap_alloc_new _ _)) (Ev.nv_one _) (by have := NF.out; unfold maxLen; omega) (by have := NF.out; omega) (by have := L2.out.bel.size; simp only [World.size_alloc]; omega) ?_
           intro v3 w3 hown3 hgrow3 _ hat3
           obtain ⟨a3, c3, rfl, hb3, hl3⟩ := L2.out.pushFr HFB.out hown3 hgrow3 hat3
           have k3 := Ev.xcell1 hb3
           have k4 := Ev.box_free (i := 1) hb3
           have L3 := Lib.hid hl3
           clear hown3 hgrow3 hat3 hb3 hl3))
      go_roundw
      case rel => exact ⟨i + 1, _, by omega, by go_num, ⟨L3.out, HX.out.bld.more HY.out HYS.out, by have := HX.out.len; simp; omega, HX.out.ol, HX.out.ao⟩⟩
      case measure => simp [intOf]; omega

/-! THE ROW -/
set_option maxRecDepth 100000 in
theorem lifted (os : Os) (started : os.Started) (H : Type) (enc : TypeId × Value → H) :
    ReturnsInHanded {} Try.checked os 11 .any (Rows.orderReservesSpec.pre6 enc Try.prog Try.f11 Rows.orderReservesRow.domain false) (Rows.orderReservesSpec.post enc Try.prog Try.f11 false true false false) := by
  refine returnsInHanded_of_change (C := Try.checked) own started (by kernel_rfl) Try.func11
    (ChangeSpec.witness6 (enc := enc) (C := Try.checked) false ⟨#[], #[.slice none 0 0], []⟩ 8 (by kernel_rfl) (by kernel_rfl) (by kernel_rfl) (by kernel_rfl)) ?_
  intro W base args ds gs before hval0 hW hcnd _
  have hval : ∀ (j : Nat) t v, Try.f11.params[j]? = some t → args[j]? = some v → Value.okWide Try.prog W .any base t v := hval0
  have hW' := hW
  obtain ⟨p, q, hA0, hV, rfl, hfz, hnd⟩ := hW
  have hA : DataW.TrodAll enc Try.prog W 0 (fun _ => true) true Try.f11.params.toList args.toList ds p := hA0
  rw [Try.params11] at hA hval
  obtain ⟨v0, vs0, d0, ds0, p0, q0, hargs, rfl, rfl, h0, r0⟩ := trodAll_cons hA
  obtain ⟨rfl, rfl, rfl⟩ := trodAll_nil r0
  obtain rfl : args = #[v0] := by cases args; simp_all
  obtain ⟨rfl, rfl⟩ := trodVars_none hV
  clear hA0 hval0
  simp only [List.append_nil] at hW'
  have hlt : ∀ x ∈ p0, x.block < W.heap.size := fun x hx => by simpa using hW'.lt x (by simpa using hx)
  obtain ⟨a0, n0, c0, rfl⟩ := okWide_slice Try.underlying59 (hval 0 59 v0 rfl rfl)
  obtain ⟨x0, l0, m0, b0⟩ := open_bytes h0
  refine (walk W a0 n0 c0 x0 l0 m0 b0).mono fun e W' ⟨he, hb⟩ => ?_
  subst he
  have harg0 : DataW.Trod enc Try.prog W' 0 (fun b => decide (b < W.heap.size)) true 59 _ _ _ := Below.trod laidOut (by kernel_rfl) (of_decide_eq_true (by kernel_rfl)) h0 hb (fun x hx => hlt x (by simp [hx]))
  exact ⟨_, rfl, _, _, _, [], _, [], hW', trodAll_mk1 (shut_bool Try.underlying4 _), (trodAll_cons_mk harg0 trodAll_mk0), rfl, hb.frame _, fun h => by cases h⟩

theorem over : Rows.orderReservesRow.holds Try.pinned (OpenSpec.ofChange Rows.orderReservesSpec) :=
  OpenClaim.holds_of_wide 11 Try.f11 rfl rfl rfl rfl rfl rfl rfl ⟨rfl, rfl, rfl, rfl, rfl⟩ rfl rfl rfl rfl rfl (by kernel_rfl) Try.func11 (by kernel_rfl)
    (of_decide_eq_true (by kernel_rfl)) (by unfold Func.isWrapper; first | (rw [if_pos (by decide +kernel)]; kernel_rfl) | (rw [if_neg (by decide +kernel)]; exact ⟨rfl, rfl⟩))
    (fun os started H enc _ => lifted os started H enc)

/-- THE STATEMENT -/
theorem proved : Rows.OrderReservesSaid :=
  over
end Go.Proofs.Ytoicmhidmknfiaa.orderReserves
