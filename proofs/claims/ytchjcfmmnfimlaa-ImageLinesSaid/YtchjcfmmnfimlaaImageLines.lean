/-
  ImageLines: for every input the statement's function returns true, with no condition; each argument reads behind the call as before. By contracts of the program's and the document's functions.
-/
import Derived.Test.YtchjcfmmnfimlaaImBox
namespace Go.Proofs.Ytchjcfmmnfimlaa.imageLines
open Go.ChangeShapes Go.WideShapes Go.ChangeAt Go.RowKit
set_option linter.unusedVariables false

/-! THE WALK: the Go text returns true; of memory nothing that stood there has turned. -/
set_option maxRecDepth 100000 in
set_option maxHeartbeats 8000000 in
theorem walk (w : World) (a0 : Option Addr) (n0 c0 : Nat) (x0 : List Int) (l0 : x0.length = n0) (m0 : n0 ≤ 9223372036854775807) (b0 : BIn w a0 x0) (a1 : Int) (w1 : (Lit.int .i64 a1).wf = true) (a2 : Int) (w2 : (Lit.int .u32 a2).wf = true) (s3 : List Int) (l3 : s3.length = 16) (b3 : Im.Byt s3) :
    Calls Try.prog 5 #[.slice a0 n0 c0, .int .i64 a1, .int .u32 a2, .agg (Im.vals s3).toArray] w fun e w' => e = .returned (.bool true) ∧ Below w.heap.size w w' := by
  have B0 := Lib.hid b0; clear b0
  have B3 := Lib.hid b3; have L3 := Lib.hid l3; clear b3 l3
  by_cases hbig : 10000 < n0
  · go_enter Try.func5, Try.ntmps5
    go_wp2_with (go_at_call 11; refine (works_any _).mono ?_; rintro e wz ⟨rfl, hbz⟩)
    go_ret
    exact ⟨rfl, (arr_first hbz).1⟩
  · obtain ⟨num, rfl⟩ := Int.eq_ofNat_of_zero_le (wf_u32 w2).1
    have hn := (wf_u32 w2).2
    clear w2
    have hbx := (Below.refl w.heap.size w).alloc (Nat.le_refl _) (.cells (Im.vals s3).toArray 45)
    have HBX := Lib.hid hbx; clear hbx
    go_enter Try.func5, Try.ntmps5
    go_wp2_with fail
    refine (sized_any a0 n0 c0 x0 a1 _ (B0.out.old HBX.out) l0 (by omega) (wf_i64 w1)).mono ?_
    rintro e wa ⟨g, ys, rfl, hr, hok, hyb, hg, hba⟩
    have hbd := Im.okB_bd hok
    have HR := Lib.hid hr; have HOK := Lib.hid hok; have HY := Lib.hid hyb; have HG := Lib.hid hg; have HBA := Lib.hid hba; clear hr hok hyb hg hba
    go_wp2_with fail
    refine (of_yes ys.length ys.length _ ys HOK.out rfl HY.out _ (Sl.of_row HR.out)).mono ?_
    rintro e wb ⟨p, h, rfl, hi, hp, hh, hbb⟩
    have HI := Lib.hid hi; have HP := Lib.hid hp; have HH := Lib.hid hh; have HBB := Lib.hid hbb; clear hi hp hh hbb
    have HRB := Lib.hid (HR.out.old HBB.out)
    obtain ⟨hba1, harr⟩ := arr_first HBA.out
    have HBA1 := Lib.hid hba1; have HARR := Lib.hid harr; clear hba1 harr
    have HAB := Lib.hid (HARR.out.old HBB.out)
    have HGH := Lib.hid (show g < h from Nat.lt_of_lt_of_le HR.out.lt HH.out)
    have HRH := Lib.hid (show w.heap.size < h from Nat.lt_of_lt_of_le HARR.out.lt HH.out)
    have HTB := Lib.hid (below_tr HBA1.out HBB.out)
    have HIC0 := Lib.hid HI.out.row.lt
    by_cases nin : num * 16 < ys.length
    · have hq : decide ((ys.length : Int) / 16 ≤ (num : Int)) = false := by rw [decide_eq_false_iff_not]; omega
      have HLW := Lib.hid (Im.length_win (bs := ys) (off := num * 16) (k := 16) (by omega))
      go_wp2_with (first | (go_at_call 14; refine (num_any _ _).mono ?_; rintro e w' ⟨rfl, rfl⟩))
      refine (line_goes p h ys num _ HI.out nin).mono ?_
      rintro e wc ⟨rfl, hb⟩
      have HB := Lib.hid hb; clear hb
      have HWC := Lib.hid (show h < wc.heap.size from Nat.lt_of_lt_of_le HIC0.out HB.out.size)
      have HMI := Lib.hid (HI.out.old HB.out); have HX := Lib.hid (HAB.out.old HB.out); have HRX := Lib.hid (HRB.out.old HB.out); have HT := Lib.hid (below_tr HTB.out HB.out)
      go_wp2_with (first
        | (refine wpList_store_arr rfl _ _ rfl wc.heap.size (Im.win ys (num * 16) 16) zs16 rfl rfl HLW.out rfl (arr_new wc) ?_; intro wd had hgd; have HL := Lib.hid had; have HB := Lib.hid (below_new hgd); have HXD := Lib.hid (HX.out.old HB.out); clear had hgd)
        | (refine wpList_load_arr rfl _ rfl w.heap.size rfl s3 L3.out HXD.out ?_))
      have HT := Lib.hid (below_tr HT.out HB.out)
      have HMI := Lib.hid (HMI.out.old HB.out)
      have HRX := Lib.hid (HRX.out.old HB.out)
      refine (setline_goes p h ys s3 num _ HMI.out nin L3.out B3.out).mono ?_
      rintro e we ⟨rfl, hi2, hge⟩
      have hlen : (Im.sets ys (num * 16) (Im.nth s3) 16).length = ys.length := Im.length_sets _ _ _ _
      obtain ⟨bs, hbs⟩ : ∃ bs, bs = Im.sets ys (num * 16) (Im.nth s3) 16 := ⟨_, rfl⟩
      rw [← hbs] at hlen hi2
      have HMI := Lib.hid hi2; have HGE := Lib.hid hge; have HLEN := Lib.hid hlen; have HBS := Lib.hid hbs; clear hi2 hge hlen hbs
      have HHL := Lib.hid (show wc.heap.size ≠ h from fun e => by have := HWC.out; omega)
      have HL := Lib.hid (HL.out.kept HGE.out (by have := HHL.out; simp; omega))
      have HRX := Lib.hid (HRX.out.kept HGE.out (by have := HGH.out; simp; omega))
      have HXE := Lib.hid (HXD.out.kept HGE.out (by have := HRH.out; simp; omega))
      have HT := Lib.hid (HT.out.grown HGE.out HT.out.size (fun k hk => by cases hk; exact Nat.le_of_lt HRH.out))
      obtain ⟨m, hm⟩ : ∃ m, m = ys.length := ⟨_, rfl⟩
      have HM := Lib.hid hm
      have hmb : 16 ≤ m ∧ m ≤ 4096 ∧ num * 16 + 16 ≤ m ∧ 16 * num + 16 ≤ m := by omega
      obtain ⟨i0, hi0, hz0, hz1, hz2⟩ := info_parts info5
      have I0 := Lib.hid hi0; have Z0 := Lib.hid hz0; have Z1 := Lib.hid hz1; have Z2 := Lib.hid hz2; clear hi0 hz0 hz1 hz2
      have hown := World.ownsRow_made (base := we.heap.size) (e := 5) (size := 1) we #[] 0 (Nat.le_refl _) (by unfold maxLen; omega) rfl
      have hsrc : ∀ (j : Nat) (v : Value), (Im.vals ys)[j]? = some v → (we.alloc (.cells #[] 5)).cell? ((⟨g, 0, none⟩ : Addr).add j) = some v := fun j v hv => by
        have e : (⟨g, 0, none⟩ : Addr).add j = ⟨g, j, none⟩ := by unfold Addr.add; split <;> simp_all
        rw [e, cell_of_row _ g j _ _ _ (HRX.out.alloc _)]; simpa using hv
      have HO := Lib.hid hown; have HS := Lib.hid hsrc; clear hown hsrc hm
      go_wp2_with (first
        | (go_at_call 14; refine (num_any _ _).mono ?_; rintro e w' ⟨rfl, rfl⟩)
        | (at_builtin; refine wpList_append_own _ rfl (.tmp 72) (.tmp 73) 22 rfl we.heap.size 5 i0 (.int .u8 0) 1 1 Try.underlying22 I0.out Z0.out Z1.out Z2.out rfl (by decide) _ 0 [] rfl HO.out ⟨g, 0, none⟩ ys.length ys.length (Im.vals ys) rfl (by rw [len_vals]; omega) HS.out (ints_oneCell .u8 ys) (by unfold maxLen; omega) (by omega) (by simp) ?_; intro v' wf hown1 hg1 _; simp only [Nat.zero_add, List.nil_append] at hown1; obtain ⟨gw, cap, rfl, hgw⟩ := own_at hown1 (by omega); have HO1 := Lib.hid hown1; have HG1 := Lib.hid hg1; have HGW := Lib.hid hgw; clear hown1 hg1 hgw))
      have HB := Lib.hid (((Below.refl we.heap.size we).alloc (Nat.le_refl _) (.cells #[] 5)).grown HG1.out (by simp) (fun k hk => by cases hk; exact Nat.le_refl _))
      go_loopw [16] (fun i wr => ∃ j : Nat, i = .int .i64 j ∧ j ≤ 16 ∧ wr.ownsRow we.heap.size 5 1 (.slice (some ⟨gw, 0, none⟩) ys.length cap) ys.length (Im.vals (Im.sets ys (16 * num) (Im.nth s3) j)) ∧ Below we.heap.size we wr) (fun i wr => 16 - (intOf i).toNat)
      case atStart => exact ⟨0, rfl, by omega, HO1.out, HB.out⟩
      case round =>
        obtain ⟨j, rfl, hj, hown, hbel⟩ := hrel
        have HOW := Lib.hid hown; have HBEL := Lib.hid hbel; clear hown hbel
        have hylen : 16 * num + 16 ≤ ys.length := by have := HM.out; omega
        have hy2 : ys.length ≤ 4096 := by have := HM.out; omega
        by_cases hlt : j < 16
        · have hc := own_cell HOW.out (j := 16 * num + j) (by omega)
          have hf := own_frozen HOW.out (16 * num + j)
          have hx : wr.cell? ⟨w.heap.size, j, none⟩ = some (Value.int .u8 (s3.getD j 0)) := (cell_of_row _ w.heap.size j _ _ _ (HXE.out.old HBEL.out)).trans (by simp [Im.vals, L3.out, hlt, List.getD_eq_getElem?_getD])
          have hz := Im.getD_byt B3.out j
          obtain ⟨z, ez⟩ : ∃ z, z = s3.getD j 0 := ⟨_, rfl⟩
          rw [← ez] at hx hz
          obtain ⟨y, ey⟩ : ∃ y, y = (Im.sets ys (16 * num) (Im.nth s3) j).getD (16 * num + j) 0 := ⟨_, rfl⟩
          rw [← ey] at hc
          clear ey
          have EZ := Lib.hid ez; clear ez
          go_wp2
          go_roundw
          case rel => exact ⟨j + 1, by go_num, by omega, (by have h1 := own_set HOW.out (16 * num + j) z (by omega); rw [EZ.out] at h1 ⊢; exact h1), HBEL.out.setCell HGW.out _⟩
          case measure => simp [intOf]; omega
        · obtain rfl : j = 16 := by omega
          have HB := Lib.hid HBEL.out
          have hown2 := HOW.out
          rw [show 16 * num = num * 16 by omega, ← HBS.out] at hown2
          have HSW := Lib.hid (show Sl wr (some ⟨gw, 0, none⟩) bs from by
            obtain ⟨a5, c5, hv, hsl, _, _⟩ := sl_own hown2
            injection hv with hv1
            rw [hv1]; exact hsl)
          clear hown2
          have HMI := Lib.hid (HMI.out.old HB.out); have HL := Lib.hid (HL.out.old HB.out); have HRX := Lib.hid (HRX.out.old HB.out)
          have HT := Lib.hid (below_tr HT.out HB.out)
          go_wp2_with (first | (go_at_call 14; refine (num_any _ _).mono ?_; rintro e w' ⟨rfl, rfl⟩))
          refine Og.region2 (by kernel_rfl) (fun t => if t = 8 then some 26 else if 89 ≤ t ∧ t ≤ 114 then some (t - 89) else none) [.is (.agg (Im.vals (Im.win ys (num * 16) 16)).toArray), .is (.slice (some ⟨g, 0, none⟩) ys.length ys.length), .is (.int .u32 (num : Int)), .is (.agg (Im.vals (Im.win ys (num * 16) 16)).toArray), .is (.bool true), .is (.bool true), .is (.int .i64 0), .is (.int .i64 0), .is (.bool true), .is (.bool true), .is (.bool true), .is (.int .i64 0), .is (.int .i64 0), .is (.bool true), .is (.bool true), .is (.bool true), .is (.pointer (some ⟨p, 0, none⟩)), .says (fun v w => ∃ a c, v = .slice a bs.length c ∧ Sl w a bs), .is (.string (strOfNums bs)), .is (.slice (some ⟨gw, 0, none⟩) ys.length cap), .is (.string (strOfNums bs)), .is (.bool true), .is (.bool true), .is (.bool true), .is (.bool true), .is (.bool true), .is (.bool true)] [true, true, true, true, true, true, true, true, true, true, true, true, true, true, true, true, true, true, true, true, true, true, true, true, true, true, true] (by kernel_rfl) ?_ ?_
          · refine ⟨?_, ?_, ?_, ?_, ?_, ?_, ?_, ?_, ?_, ?_, ?_, ?_, ?_, ?_, ?_, ?_, ?_, ?_, ?_, ?_, ?_, ?_, ?_, ?_, ?_, ?_, ?_, trivial⟩
            · refine ⟨rfl, fun ρ w1 hr hd => ?_⟩
              obtain ⟨d0, _⟩ := hd
              have d0 : ρ (.tmp 12) = .pointer (some ⟨wc.heap.size, 0, none⟩) := d0
              refine (if_pos (by rfl)).mpr ?_
              refine Og.gives_is (.agg (Im.vals (Im.win ys (num * 16) 16)).toArray) ?_ (And.intro (Below.refl _ _) rfl)
              exact og_load_arr (HL.out.old hr) HLW.out rfl d0
            · refine ⟨rfl, fun ρ w1 hr hd => ?_⟩
              obtain ⟨d0, _⟩ := hd
              have d0 : ρ (.tmp 9) = .slice (some ⟨g, 0, none⟩) ys.length ys.length := d0
              refine (if_pos (by rfl)).mpr ?_
              refine Og.gives_is (.slice (some ⟨g, 0, none⟩) ys.length ys.length) ?_ (And.intro (Below.refl _ _) rfl)
              go_simp
            · refine ⟨rfl, fun ρ w1 hr hd => ?_⟩
              obtain ⟨d0, _⟩ := hd
              have d0 : ρ (.tmp 2) = .int .u32 (num : Int) := d0
              refine (if_pos (by rfl)).mpr ?_
              refine Og.gives_is (.int .u32 (num : Int)) ?_ (And.intro (Below.refl _ _) rfl)
              go_simp
            · refine ⟨rfl, fun ρ w1 hr hd => ?_⟩
              obtain ⟨d0, d1, d2, _⟩ := hd
              have d0 : ρ (.func 26) = .func (.func 26) #[] #[] := d0
              have d1 : ρ (.tmp 90) = .slice (some ⟨g, 0, none⟩) ys.length ys.length := d1
              have d2 : ρ (.tmp 91) = .int .u32 (num : Int) := d2
              refine (if_pos (by rfl)).mpr ?_
              refine Og.gives_call 26 #[.slice (some ⟨g, 0, none⟩) ys.length ys.length, .int .u32 (num : Int)] ?_ ?_
              · go_simp
              · exact (rline_any g num ys w1 (HRX.out.old hr) (by omega) (by omega) nin).mono fun e w' ⟨he, hb⟩ => ⟨_, he, hb, rfl⟩
            · refine ⟨rfl, fun ρ w1 hr hd => ?_⟩
              obtain ⟨d0, d1, _⟩ := hd
              have d0 : ρ (.tmp 89) = .agg (Im.vals (Im.win ys (num * 16) 16)).toArray := d0
              have d1 : ρ (.tmp 92) = .agg (Im.vals (Im.win ys (num * 16) 16)).toArray := d1
              have HQ := fun wx => eq_arr wx (Im.win ys (num * 16) 16) HLW.out
              refine (if_pos (by rfl)).mpr ?_
              refine Og.gives_is (.bool true) ?_ (And.intro (Below.refl _ _) rfl)
              go_simp
            · refine ⟨rfl, fun ρ w1 hr hd => ?_⟩
              obtain ⟨d0, _⟩ := hd
              have d0 : ρ (.tmp 93) = .bool true := d0
              refine (if_pos (by rfl)).mpr ?_
              refine Og.gives_is (.bool true) ?_ (And.intro (Below.refl _ _) rfl)
              go_simp
            · refine ⟨fun v w hv => by (have hv' : v = .bool true := hv); subst hv'; exact (if_pos (by rfl)).mpr rfl, fun ρ w1 hr hd => ?_⟩
              obtain ⟨d0, _⟩ := hd
              have d0 : ρ (.tmp 13) = .int .i64 0 := d0
              refine (if_pos (by rfl)).mpr ?_
              refine Og.gives_is (.int .i64 0) ?_ (And.intro (Below.refl _ _) rfl)
              go_simp
            · refine ⟨fun v w hv => by (have hv' : v = .bool true := hv); subst hv'; exact (if_pos (by rfl)).mpr rfl, fun ρ w1 hr hd => ?_⟩
              obtain ⟨d0, d1, _⟩ := hd
              have d0 : ρ (.func 14) = .func (.func 14) #[] #[] := d0
              have d1 : ρ (.tmp 95) = .int .i64 0 := d1
              refine (if_pos (by rfl)).mpr ?_
              refine Og.gives_call 14 #[.int .i64 0] ?_ ?_
              · go_simp
              · exact (num_any _ w1).mono fun e w' ⟨he, hw⟩ => ⟨_, he, by subst hw; exact Below.refl _ _, rfl⟩
            · refine ⟨fun v w hv => by (have hv' : v = .bool true := hv); subst hv'; exact (if_pos (by rfl)).mpr rfl, fun ρ w1 hr hd => ?_⟩
              obtain ⟨d0, d1, _⟩ := hd
              have d0 : ρ (.tmp 96) = .int .i64 0 := d0
              have d1 : ρ (.const (.int .i64 0)) = .int .i64 0 := d1
              refine (if_pos (by rfl)).mpr ?_
              refine Og.gives_is (.bool true) ?_ (And.intro (Below.refl _ _) rfl)
              go_simp
            · refine ⟨rfl, fun ρ w1 hr hd => ?_⟩
              obtain ⟨d0, d1, d2, _⟩ := hd
              have d0 : ρ (.tmp 94) = .bool true := d0
              have d1 : ρ (.tmp 97) = .bool true := d1
              have d2 : ρ (.const (.bool false)) = .bool false := d2
              refine (if_pos (by rfl)).mpr ?_
              refine Og.gives_is (.bool true) ?_ (And.intro (Below.refl _ _) rfl)
              go_simp
            · refine ⟨rfl, fun ρ w1 hr hd => ?_⟩
              obtain ⟨d0, _⟩ := hd
              have d0 : ρ (.tmp 98) = .bool true := d0
              refine (if_pos (by rfl)).mpr ?_
              refine Og.gives_is (.bool true) ?_ (And.intro (Below.refl _ _) rfl)
              go_simp
            · refine ⟨fun v w hv => by (have hv' : v = .bool true := hv); subst hv'; exact (if_pos (by rfl)).mpr rfl, fun ρ w1 hr hd => ?_⟩
              obtain ⟨d0, _⟩ := hd
              have d0 : ρ (.tmp 14) = .int .i64 0 := d0
              refine (if_pos (by rfl)).mpr ?_
              refine Og.gives_is (.int .i64 0) ?_ (And.intro (Below.refl _ _) rfl)
              go_simp
            · refine ⟨fun v w hv => by (have hv' : v = .bool true := hv); subst hv'; exact (if_pos (by rfl)).mpr rfl, fun ρ w1 hr hd => ?_⟩
              obtain ⟨d0, d1, _⟩ := hd
              have d0 : ρ (.func 14) = .func (.func 14) #[] #[] := d0
              have d1 : ρ (.tmp 100) = .int .i64 0 := d1
              refine (if_pos (by rfl)).mpr ?_
              refine Og.gives_call 14 #[.int .i64 0] ?_ ?_
              · go_simp
              · exact (num_any _ w1).mono fun e w' ⟨he, hw⟩ => ⟨_, he, by subst hw; exact Below.refl _ _, rfl⟩
            · refine ⟨fun v w hv => by (have hv' : v = .bool true := hv); subst hv'; exact (if_pos (by rfl)).mpr rfl, fun ρ w1 hr hd => ?_⟩
              obtain ⟨d0, d1, _⟩ := hd
              have d0 : ρ (.tmp 101) = .int .i64 0 := d0
              have d1 : ρ (.const (.int .i64 0)) = .int .i64 0 := d1
              refine (if_pos (by rfl)).mpr ?_
              refine Og.gives_is (.bool true) ?_ (And.intro (Below.refl _ _) rfl)
              go_simp
            · refine ⟨rfl, fun ρ w1 hr hd => ?_⟩
              obtain ⟨d0, d1, d2, _⟩ := hd
              have d0 : ρ (.tmp 99) = .bool true := d0
              have d1 : ρ (.tmp 102) = .bool true := d1
              have d2 : ρ (.const (.bool false)) = .bool false := d2
              refine (if_pos (by rfl)).mpr ?_
              refine Og.gives_is (.bool true) ?_ (And.intro (Below.refl _ _) rfl)
              go_simp
            · refine ⟨rfl, fun ρ w1 hr hd => ?_⟩
              obtain ⟨d0, _⟩ := hd
              have d0 : ρ (.tmp 103) = .bool true := d0
              refine (if_pos (by rfl)).mpr ?_
              refine Og.gives_is (.bool true) ?_ (And.intro (Below.refl _ _) rfl)
              go_simp
            · refine ⟨fun v w hv => by (have hv' : v = .bool true := hv); subst hv'; exact (if_pos (by rfl)).mpr rfl, fun ρ w1 hr hd => ?_⟩
              obtain ⟨d0, _⟩ := hd
              have d0 : ρ (.tmp 10) = .pointer (some ⟨p, 0, none⟩) := d0
              refine (if_pos (by rfl)).mpr ?_
              refine Og.gives_is (.pointer (some ⟨p, 0, none⟩)) ?_ (And.intro (Below.refl _ _) rfl)
              go_simp
            · refine ⟨fun v w hv => by (have hv' : v = .bool true := hv); subst hv'; exact (if_pos (by rfl)).mpr rfl, fun ρ w1 hr hd => ?_⟩
              obtain ⟨d0, d1, _⟩ := hd
              have d0 : ρ (.func 16) = .func (.func 16) #[] #[] := d0
              have d1 : ρ (.tmp 105) = .pointer (some ⟨p, 0, none⟩) := d1
              refine (if_pos (by rfl)).mpr ?_
              refine Og.gives_call 16 #[.pointer (some ⟨p, 0, none⟩)] ?_ ?_
              · go_simp
              · refine (bytes_any p h bs w1 (HMI.out.old hr)).mono fun e w' ⟨v, he, hown, hb⟩ => ?_
                obtain ⟨a5, c5, hv, hsl, _, _⟩ := sl_own hown
                exact ⟨v, he, hb, w', Below.refl _ _, a5, c5, hv, hsl⟩
            · refine ⟨fun v w hv => by (have hv' : v = .bool true := hv); subst hv'; exact (if_pos (by rfl)).mpr rfl, fun ρ w1 hr hd => ?_⟩
              obtain ⟨d0, _⟩ := hd
              have d0 : ∃ w1', Below w1'.heap.size w1' w1 ∧ (fun v w => ∃ a c, v = .slice a bs.length c ∧ Sl w a bs) (ρ (.tmp 106)) w1' := d0
              obtain ⟨w2, hb2, a5, c5, d0, hs⟩ := d0
              have cv := conv_sl w1 a5 bs.length c5 bs (hs.old hb2) rfl
              refine (if_pos (by rfl)).mpr ?_
              refine Og.gives_is (.string (strOfNums bs)) ?_ (And.intro (Below.refl _ _) rfl)
              go_simp
            · refine ⟨fun v w hv => by (have hv' : v = .bool true := hv); subst hv'; exact (if_pos (by rfl)).mpr rfl, fun ρ w1 hr hd => ?_⟩
              obtain ⟨d0, _⟩ := hd
              have d0 : ρ (.tmp 15) = .slice (some ⟨gw, 0, none⟩) ys.length cap := d0
              refine (if_pos (by rfl)).mpr ?_
              refine Og.gives_is (.slice (some ⟨gw, 0, none⟩) ys.length cap) ?_ (And.intro (Below.refl _ _) rfl)
              go_simp
            · refine ⟨fun v w hv => by (have hv' : v = .bool true := hv); subst hv'; exact (if_pos (by rfl)).mpr rfl, fun ρ w1 hr hd => ?_⟩
              obtain ⟨d0, _⟩ := hd
              have d0 : ρ (.tmp 108) = .slice (some ⟨gw, 0, none⟩) ys.length cap := d0
              have cv := conv_sl w1 _ ys.length cap bs (HSW.out.old hr) HLEN.out
              refine (if_pos (by rfl)).mpr ?_
              refine Og.gives_is (.string (strOfNums bs)) ?_ (And.intro (Below.refl _ _) rfl)
              go_simp
            · refine ⟨fun v w hv => by (have hv' : v = .bool true := hv); subst hv'; exact (if_pos (by rfl)).mpr rfl, fun ρ w1 hr hd => ?_⟩
              obtain ⟨d0, d1, _⟩ := hd
              have d0 : ρ (.tmp 107) = .string (strOfNums bs) := d0
              have d1 : ρ (.tmp 109) = .string (strOfNums bs) := d1
              refine (if_pos (by rfl)).mpr ?_
              refine Og.gives_is (.bool true) ?_ (And.intro (Below.refl _ _) rfl)
              go_simp
            · refine ⟨rfl, fun ρ w1 hr hd => ?_⟩
              obtain ⟨d0, d1, d2, _⟩ := hd
              have d0 : ρ (.tmp 104) = .bool true := d0
              have d1 : ρ (.tmp 110) = .bool true := d1
              have d2 : ρ (.const (.bool false)) = .bool false := d2
              refine (if_pos (by rfl)).mpr ?_
              refine Og.gives_is (.bool true) ?_ (And.intro (Below.refl _ _) rfl)
              go_simp
            · refine ⟨rfl, fun ρ w1 hr hd => ?_⟩
              obtain ⟨d0, _⟩ := hd
              have d0 : ρ (.tmp 111) = .bool true := d0
              refine (if_pos (by rfl)).mpr ?_
              refine Og.gives_is (.bool true) ?_ (And.intro (Below.refl _ _) rfl)
              go_simp
            · refine ⟨fun v w hv => by (have hv' : v = .bool true := hv); subst hv'; exact (if_pos (by rfl)).mpr rfl, fun ρ w1 hr hd => ?_⟩
              obtain ⟨d0, _⟩ := hd
              have d0 : ρ (.func 11) = .func (.func 11) #[] #[] := d0
              refine (if_pos (by rfl)).mpr ?_
              refine Og.gives_call 11 #[] ?_ ?_
              · go_simp
              · exact (works_any w1).mono fun e w' ⟨he, hb⟩ => ⟨_, he, hb, rfl⟩
            · refine ⟨rfl, fun ρ w1 hr hd => ?_⟩
              obtain ⟨d0, d1, d2, _⟩ := hd
              have d0 : ρ (.tmp 112) = .bool true := d0
              have d1 : ρ (.tmp 113) = .bool true := d1
              have d2 : ρ (.const (.bool false)) = .bool false := d2
              refine (if_pos (by rfl)).mpr ?_
              refine Og.gives_is (.bool true) ?_ (And.intro (Below.refl _ _) rfl)
              go_simp
            · refine ⟨rfl, fun ρ w1 hr hd => ?_⟩
              obtain ⟨d0, _⟩ := hd
              have d0 : ρ (.tmp 114) = .bool true := d0
              refine (if_pos (by rfl)).mpr ?_
              refine Og.gives_is (.bool true) ?_ (And.intro (Below.refl _ _) rfl)
              go_simp
          · intro a w1 hbz hdf hsz hall
            have hres : a.tmps.getD 8 undef = .bool true := hall 26 _ 8 rfl rfl
            go_wp2
            refine bodyPost_ret (v := .bool true) (by rw [results_tmp rfl]; rw [hres]) hdf ⟨rfl, below_tr HT.out hbz⟩
    · have hq : decide ((ys.length : Int) / 16 ≤ (num : Int)) = true := by rw [decide_eq_true_iff]; omega
      go_wp2_with (first | (go_at_call 14; refine (num_any _ _).mono ?_; rintro e w' ⟨rfl, rfl⟩))
      refine (line_no p h ys num _ HI.out (by omega) (by omega)).mono ?_
      rintro e wc ⟨rfl, hb⟩
      have HB := Lib.hid hb; clear hb
      have HM := Lib.hid (HI.out.old HB.out); have HX := Lib.hid (HAB.out.old HB.out); have HRX := Lib.hid (HRB.out.old HB.out); have HT := Lib.hid (below_tr HTB.out HB.out)
      go_wp2_with (first
        | (refine wpList_store_arr rfl _ _ rfl wc.heap.size zs16 zs16 rfl rfl rfl rfl (arr_new wc) ?_; intro wd had hgd; have HL := Lib.hid had; have HB := Lib.hid (below_new hgd); have HXD := Lib.hid (HX.out.old HB.out); clear had hgd)
        | (refine wpList_load_arr rfl _ rfl w.heap.size rfl s3 L3.out HXD.out ?_))
      have HT := Lib.hid (below_tr HT.out HB.out)
      have HM := Lib.hid (HM.out.old HB.out)
      have HRX := Lib.hid (HRX.out.old HB.out)
      refine (setline_no p h ys s3 num _ HM.out (by omega) (by omega)).mono ?_
      rintro e we ⟨rfl, hb⟩
      have HB := Lib.hid hb; clear hb
      have HT := Lib.hid (below_tr HT.out HB.out)
      have HM := Lib.hid (HM.out.old HB.out)
      have HRX := Lib.hid (HRX.out.old HB.out)
      have HL := Lib.hid (HL.out.old HB.out)
      go_wp2_with (first | (go_at_call 14; refine (num_any _ _).mono ?_; rintro e w' ⟨rfl, rfl⟩))
      refine Og.region2 (by kernel_rfl) (fun t => if t = 8 then some 24 else if 48 ≤ t ∧ t ≤ 71 then some (t - 48) else none) [.is (.agg (Im.vals zs16).toArray), .is (.agg #[.int .u8 0, .int .u8 0, .int .u8 0, .int .u8 0, .int .u8 0, .int .u8 0, .int .u8 0, .int .u8 0, .int .u8 0, .int .u8 0, .int .u8 0, .int .u8 0, .int .u8 0, .int .u8 0, .int .u8 0, .int .u8 0]), .is (.bool true), .is (.bool true), .is (.int .i64 4), .is (.int .i64 4), .is (.bool true), .is (.bool true), .is (.bool true), .is (.int .i64 4), .is (.int .i64 4), .is (.bool true), .is (.bool true), .is (.bool true), .is (.pointer (some ⟨p, 0, none⟩)), .says (fun v w => ∃ a c, v = .slice a ys.length c ∧ Sl w a ys), .is (.string (strOfNums ys)), .is (.slice (some ⟨g, 0, none⟩) ys.length ys.length), .is (.string (strOfNums ys)), .is (.bool true), .is (.bool true), .is (.bool true), .is (.bool true), .is (.bool true), .is (.bool true)] [true, true, true, true, true, true, true, true, true, true, true, true, true, true, true, true, true, true, true, true, true, true, true, true, true] (by kernel_rfl) ?_ ?_
      · refine ⟨?_, ?_, ?_, ?_, ?_, ?_, ?_, ?_, ?_, ?_, ?_, ?_, ?_, ?_, ?_, ?_, ?_, ?_, ?_, ?_, ?_, ?_, ?_, ?_, ?_, trivial⟩
        · refine ⟨rfl, fun ρ w1 hr hd => ?_⟩
          obtain ⟨d0, _⟩ := hd
          have d0 : ρ (.tmp 12) = .pointer (some ⟨wc.heap.size, 0, none⟩) := d0
          refine (if_pos (by rfl)).mpr ?_
          refine Og.gives_is (.agg (Im.vals zs16).toArray) ?_ (And.intro (Below.refl _ _) rfl)
          exact og_load_arr (HL.out.old hr) rfl rfl d0
        · refine ⟨rfl, fun ρ w1 hr hd => ?_⟩
          clear hd
          refine (if_pos (by rfl)).mpr ?_
          refine Og.gives_is (.agg #[.int .u8 0, .int .u8 0, .int .u8 0, .int .u8 0, .int .u8 0, .int .u8 0, .int .u8 0, .int .u8 0, .int .u8 0, .int .u8 0, .int .u8 0, .int .u8 0, .int .u8 0, .int .u8 0, .int .u8 0, .int .u8 0]) ?_ (And.intro (Below.refl _ _) rfl)
          go_simp
        · refine ⟨rfl, fun ρ w1 hr hd => ?_⟩
          obtain ⟨d0, d1, _⟩ := hd
          have d0 : ρ (.tmp 48) = .agg (Im.vals zs16).toArray := d0
          have d1 : ρ (.tmp 49) = .agg #[.int .u8 0, .int .u8 0, .int .u8 0, .int .u8 0, .int .u8 0, .int .u8 0, .int .u8 0, .int .u8 0, .int .u8 0, .int .u8 0, .int .u8 0, .int .u8 0, .int .u8 0, .int .u8 0, .int .u8 0, .int .u8 0] := d1
          have HZ := eq_zeros
          refine (if_pos (by rfl)).mpr ?_
          refine Og.gives_is (.bool true) ?_ (And.intro (Below.refl _ _) rfl)
          go_simp
        · refine ⟨rfl, fun ρ w1 hr hd => ?_⟩
          obtain ⟨d0, _⟩ := hd
          have d0 : ρ (.tmp 50) = .bool true := d0
          refine (if_pos (by rfl)).mpr ?_
          refine Og.gives_is (.bool true) ?_ (And.intro (Below.refl _ _) rfl)
          go_simp
        · refine ⟨fun v w hv => by (have hv' : v = .bool true := hv); subst hv'; exact (if_pos (by rfl)).mpr rfl, fun ρ w1 hr hd => ?_⟩
          obtain ⟨d0, _⟩ := hd
          have d0 : ρ (.tmp 13) = .int .i64 4 := d0
          refine (if_pos (by rfl)).mpr ?_
          refine Og.gives_is (.int .i64 4) ?_ (And.intro (Below.refl _ _) rfl)
          go_simp
        · refine ⟨fun v w hv => by (have hv' : v = .bool true := hv); subst hv'; exact (if_pos (by rfl)).mpr rfl, fun ρ w1 hr hd => ?_⟩
          obtain ⟨d0, d1, _⟩ := hd
          have d0 : ρ (.func 14) = .func (.func 14) #[] #[] := d0
          have d1 : ρ (.tmp 52) = .int .i64 4 := d1
          refine (if_pos (by rfl)).mpr ?_
          refine Og.gives_call 14 #[.int .i64 4] ?_ ?_
          · go_simp
          · exact (num_any _ w1).mono fun e w' ⟨he, hw⟩ => ⟨_, he, by subst hw; exact Below.refl _ _, rfl⟩
        · refine ⟨fun v w hv => by (have hv' : v = .bool true := hv); subst hv'; exact (if_pos (by rfl)).mpr rfl, fun ρ w1 hr hd => ?_⟩
          obtain ⟨d0, d1, _⟩ := hd
          have d0 : ρ (.tmp 53) = .int .i64 4 := d0
          have d1 : ρ (.const (.int .i64 4)) = .int .i64 4 := d1
          refine (if_pos (by rfl)).mpr ?_
          refine Og.gives_is (.bool true) ?_ (And.intro (Below.refl _ _) rfl)
          go_simp
        · refine ⟨rfl, fun ρ w1 hr hd => ?_⟩
          obtain ⟨d0, d1, d2, _⟩ := hd
          have d0 : ρ (.tmp 51) = .bool true := d0
          have d1 : ρ (.tmp 54) = .bool true := d1
          have d2 : ρ (.const (.bool false)) = .bool false := d2
          refine (if_pos (by rfl)).mpr ?_
          refine Og.gives_is (.bool true) ?_ (And.intro (Below.refl _ _) rfl)
          go_simp
        · refine ⟨rfl, fun ρ w1 hr hd => ?_⟩
          obtain ⟨d0, _⟩ := hd
          have d0 : ρ (.tmp 55) = .bool true := d0
          refine (if_pos (by rfl)).mpr ?_
          refine Og.gives_is (.bool true) ?_ (And.intro (Below.refl _ _) rfl)
          go_simp
        · refine ⟨fun v w hv => by (have hv' : v = .bool true := hv); subst hv'; exact (if_pos (by rfl)).mpr rfl, fun ρ w1 hr hd => ?_⟩
          obtain ⟨d0, _⟩ := hd
          have d0 : ρ (.tmp 14) = .int .i64 4 := d0
          refine (if_pos (by rfl)).mpr ?_
          refine Og.gives_is (.int .i64 4) ?_ (And.intro (Below.refl _ _) rfl)
          go_simp
        · refine ⟨fun v w hv => by (have hv' : v = .bool true := hv); subst hv'; exact (if_pos (by rfl)).mpr rfl, fun ρ w1 hr hd => ?_⟩
          obtain ⟨d0, d1, _⟩ := hd
          have d0 : ρ (.func 14) = .func (.func 14) #[] #[] := d0
          have d1 : ρ (.tmp 57) = .int .i64 4 := d1
          refine (if_pos (by rfl)).mpr ?_
          refine Og.gives_call 14 #[.int .i64 4] ?_ ?_
          · go_simp
          · exact (num_any _ w1).mono fun e w' ⟨he, hw⟩ => ⟨_, he, by subst hw; exact Below.refl _ _, rfl⟩
        · refine ⟨fun v w hv => by (have hv' : v = .bool true := hv); subst hv'; exact (if_pos (by rfl)).mpr rfl, fun ρ w1 hr hd => ?_⟩
          obtain ⟨d0, d1, _⟩ := hd
          have d0 : ρ (.tmp 58) = .int .i64 4 := d0
          have d1 : ρ (.const (.int .i64 4)) = .int .i64 4 := d1
          refine (if_pos (by rfl)).mpr ?_
          refine Og.gives_is (.bool true) ?_ (And.intro (Below.refl _ _) rfl)
          go_simp
        · refine ⟨rfl, fun ρ w1 hr hd => ?_⟩
          obtain ⟨d0, d1, d2, _⟩ := hd
          have d0 : ρ (.tmp 56) = .bool true := d0
          have d1 : ρ (.tmp 59) = .bool true := d1
          have d2 : ρ (.const (.bool false)) = .bool false := d2
          refine (if_pos (by rfl)).mpr ?_
          refine Og.gives_is (.bool true) ?_ (And.intro (Below.refl _ _) rfl)
          go_simp
        · refine ⟨rfl, fun ρ w1 hr hd => ?_⟩
          obtain ⟨d0, _⟩ := hd
          have d0 : ρ (.tmp 60) = .bool true := d0
          refine (if_pos (by rfl)).mpr ?_
          refine Og.gives_is (.bool true) ?_ (And.intro (Below.refl _ _) rfl)
          go_simp
        · refine ⟨fun v w hv => by (have hv' : v = .bool true := hv); subst hv'; exact (if_pos (by rfl)).mpr rfl, fun ρ w1 hr hd => ?_⟩
          obtain ⟨d0, _⟩ := hd
          have d0 : ρ (.tmp 10) = .pointer (some ⟨p, 0, none⟩) := d0
          refine (if_pos (by rfl)).mpr ?_
          refine Og.gives_is (.pointer (some ⟨p, 0, none⟩)) ?_ (And.intro (Below.refl _ _) rfl)
          go_simp
        · refine ⟨fun v w hv => by (have hv' : v = .bool true := hv); subst hv'; exact (if_pos (by rfl)).mpr rfl, fun ρ w1 hr hd => ?_⟩
          obtain ⟨d0, d1, _⟩ := hd
          have d0 : ρ (.func 16) = .func (.func 16) #[] #[] := d0
          have d1 : ρ (.tmp 62) = .pointer (some ⟨p, 0, none⟩) := d1
          refine (if_pos (by rfl)).mpr ?_
          refine Og.gives_call 16 #[.pointer (some ⟨p, 0, none⟩)] ?_ ?_
          · go_simp
          · refine (bytes_any p h ys w1 (HM.out.old hr)).mono fun e w' ⟨v, he, hown, hb⟩ => ?_
            obtain ⟨a5, c5, hv, hsl, _, _⟩ := sl_own hown
            exact ⟨v, he, hb, w', Below.refl _ _, a5, c5, hv, hsl⟩
        · refine ⟨fun v w hv => by (have hv' : v = .bool true := hv); subst hv'; exact (if_pos (by rfl)).mpr rfl, fun ρ w1 hr hd => ?_⟩
          obtain ⟨d0, _⟩ := hd
          have d0 : ∃ w1', Below w1'.heap.size w1' w1 ∧ (fun v w => ∃ a c, v = .slice a ys.length c ∧ Sl w a ys) (ρ (.tmp 63)) w1' := d0
          obtain ⟨w2, hb2, a5, c5, d0, hs⟩ := d0
          have cv := conv_sl w1 a5 ys.length c5 ys (hs.old hb2) rfl
          refine (if_pos (by rfl)).mpr ?_
          refine Og.gives_is (.string (strOfNums ys)) ?_ (And.intro (Below.refl _ _) rfl)
          go_simp
        · refine ⟨fun v w hv => by (have hv' : v = .bool true := hv); subst hv'; exact (if_pos (by rfl)).mpr rfl, fun ρ w1 hr hd => ?_⟩
          obtain ⟨d0, _⟩ := hd
          have d0 : ρ (.tmp 9) = .slice (some ⟨g, 0, none⟩) ys.length ys.length := d0
          refine (if_pos (by rfl)).mpr ?_
          refine Og.gives_is (.slice (some ⟨g, 0, none⟩) ys.length ys.length) ?_ (And.intro (Below.refl _ _) rfl)
          go_simp
        · refine ⟨fun v w hv => by (have hv' : v = .bool true := hv); subst hv'; exact (if_pos (by rfl)).mpr rfl, fun ρ w1 hr hd => ?_⟩
          obtain ⟨d0, _⟩ := hd
          have d0 : ρ (.tmp 65) = .slice (some ⟨g, 0, none⟩) ys.length ys.length := d0
          have cv := conv_sl w1 _ ys.length ys.length ys (Sl.of_row (HRX.out.old hr)) rfl
          refine (if_pos (by rfl)).mpr ?_
          refine Og.gives_is (.string (strOfNums ys)) ?_ (And.intro (Below.refl _ _) rfl)
          go_simp
        · refine ⟨fun v w hv => by (have hv' : v = .bool true := hv); subst hv'; exact (if_pos (by rfl)).mpr rfl, fun ρ w1 hr hd => ?_⟩
          obtain ⟨d0, d1, _⟩ := hd
          have d0 : ρ (.tmp 64) = .string (strOfNums ys) := d0
          have d1 : ρ (.tmp 66) = .string (strOfNums ys) := d1
          refine (if_pos (by rfl)).mpr ?_
          refine Og.gives_is (.bool true) ?_ (And.intro (Below.refl _ _) rfl)
          go_simp
        · refine ⟨rfl, fun ρ w1 hr hd => ?_⟩
          obtain ⟨d0, d1, d2, _⟩ := hd
          have d0 : ρ (.tmp 61) = .bool true := d0
          have d1 : ρ (.tmp 67) = .bool true := d1
          have d2 : ρ (.const (.bool false)) = .bool false := d2
          refine (if_pos (by rfl)).mpr ?_
          refine Og.gives_is (.bool true) ?_ (And.intro (Below.refl _ _) rfl)
          go_simp
        · refine ⟨rfl, fun ρ w1 hr hd => ?_⟩
          obtain ⟨d0, _⟩ := hd
          have d0 : ρ (.tmp 68) = .bool true := d0
          refine (if_pos (by rfl)).mpr ?_
          refine Og.gives_is (.bool true) ?_ (And.intro (Below.refl _ _) rfl)
          go_simp
        · refine ⟨fun v w hv => by (have hv' : v = .bool true := hv); subst hv'; exact (if_pos (by rfl)).mpr rfl, fun ρ w1 hr hd => ?_⟩
          obtain ⟨d0, _⟩ := hd
          have d0 : ρ (.func 11) = .func (.func 11) #[] #[] := d0
          refine (if_pos (by rfl)).mpr ?_
          refine Og.gives_call 11 #[] ?_ ?_
          · go_simp
          · exact (works_any w1).mono fun e w' ⟨he, hb⟩ => ⟨_, he, hb, rfl⟩
        · refine ⟨rfl, fun ρ w1 hr hd => ?_⟩
          obtain ⟨d0, d1, d2, _⟩ := hd
          have d0 : ρ (.tmp 69) = .bool true := d0
          have d1 : ρ (.tmp 70) = .bool true := d1
          have d2 : ρ (.const (.bool false)) = .bool false := d2
          refine (if_pos (by rfl)).mpr ?_
          refine Og.gives_is (.bool true) ?_ (And.intro (Below.refl _ _) rfl)
          go_simp
        · refine ⟨rfl, fun ρ w1 hr hd => ?_⟩
          obtain ⟨d0, _⟩ := hd
          have d0 : ρ (.tmp 71) = .bool true := d0
          refine (if_pos (by rfl)).mpr ?_
          refine Og.gives_is (.bool true) ?_ (And.intro (Below.refl _ _) rfl)
          go_simp
      · intro a w1 hbz hdf hsz hall
        have hres : a.tmps.getD 8 undef = .bool true := hall 24 _ 8 rfl rfl
        go_wp2
        refine bodyPost_ret (v := .bool true) (by rw [results_tmp rfl]; rw [hres]) hdf ⟨rfl, below_tr HT.out hbz⟩

/-! THE ROW -/
set_option maxRecDepth 100000 in
theorem lifted (os : Os) (started : os.Started) (H : Type) (enc : TypeId × Value → H) :
    ReturnsInHanded {} Try.checked os 5 .any (Rows.imageLinesSpec.pre6 enc Try.prog Try.f5 Rows.imageLinesRow.domain false) (Rows.imageLinesSpec.post enc Try.prog Try.f5 false true false false) := by
  refine returnsInHanded_of_change (C := Try.checked) own started (by kernel_rfl) Try.func5
    (ChangeSpec.witness6 (enc := enc) (C := Try.checked) false ⟨#[], #[.slice none 0 0, .int .i64 0, .int .u32 0, .agg #[.int .u8 0, .int .u8 0, .int .u8 0, .int .u8 0, .int .u8 0, .int .u8 0, .int .u8 0, .int .u8 0, .int .u8 0, .int .u8 0, .int .u8 0, .int .u8 0, .int .u8 0, .int .u8 0, .int .u8 0, .int .u8 0]], []⟩ 8 (by kernel_rfl) (by kernel_rfl) (by kernel_rfl) (by kernel_rfl)) ?_
  intro W base args ds gs before hval0 hW hcnd _
  have hval : ∀ (j : Nat) t v, Try.f5.params[j]? = some t → args[j]? = some v → Value.okWide Try.prog W .any base t v := hval0
  have hW' := hW
  obtain ⟨p, q, hA0, hV, rfl, hfz, hnd⟩ := hW
  have hA : DataW.TrodAll enc Try.prog W 0 (fun _ => true) true Try.f5.params.toList args.toList ds p := hA0
  rw [Try.params5] at hA hval
  obtain ⟨v0, vs0, d0, ds0, p0, q0, hargs, rfl, rfl, h0, r0⟩ := trodAll_cons hA
  obtain ⟨v1, vs1, d1, ds1, p1, q1, rfl, rfl, rfl, h1, r1⟩ := trodAll_cons r0
  obtain ⟨v2, vs2, d2, ds2, p2, q2, rfl, rfl, rfl, h2, r2⟩ := trodAll_cons r1
  obtain ⟨v3, vs3, d3, ds3, p3, q3, rfl, rfl, rfl, h3, r3⟩ := trodAll_cons r2
  obtain ⟨rfl, rfl, rfl⟩ := trodAll_nil r3
  obtain rfl : args = #[v0, v1, v2, v3] := by cases args; simp_all
  obtain ⟨rfl, rfl⟩ := trodVars_none hV
  clear hA0 hval0
  simp only [List.append_nil] at hW'
  have hlt : ∀ x ∈ p0 ++ (p1 ++ (p2 ++ (p3))), x.block < W.heap.size := fun x hx => by simpa using hW'.lt x (by simpa using hx)
  obtain ⟨a0, n0, c0, rfl⟩ := okWide_slice Try.underlying22 (hval 0 22 v0 rfl rfl)
  obtain ⟨x0, l0, m0, b0⟩ := open_bytes h0
  have h1k := h1
  obtain ⟨a1, rfl, rfl, rfl, w1⟩ := open_int Try.underlying3 (hval 1 3 v1 rfl rfl) h1
  have h2k := h2
  obtain ⟨a2, rfl, rfl, rfl, w2⟩ := open_int Try.underlying34 (hval 2 34 v2 rfl rfl) h2
  obtain ⟨s3, rfl, l3, b3⟩ := open_arr (hval 3 45 v3 rfl rfl) h3
  refine (walk W a0 n0 c0 x0 l0 m0 b0 a1 w1 a2 w2 s3 l3 b3).mono fun e W' ⟨he, hb⟩ => ?_
  subst he
  have harg0 : DataW.Trod enc Try.prog W' 0 (fun b => decide (b < W.heap.size)) true 22 _ _ _ := Below.trod laidOut (by kernel_rfl) (of_decide_eq_true (by kernel_rfl)) h0 hb (fun x hx => hlt x (by simp [hx]))
  have harg1 : DataW.Trod enc Try.prog W' 0 (fun b => decide (b < W.heap.size)) true 3 _ _ _ := Below.trod laidOut (by kernel_rfl) (of_decide_eq_true (by kernel_rfl)) h1k hb (fun x hx => by cases hx)
  have harg2 : DataW.Trod enc Try.prog W' 0 (fun b => decide (b < W.heap.size)) true 34 _ _ _ := Below.trod laidOut (by kernel_rfl) (of_decide_eq_true (by kernel_rfl)) h2k hb (fun x hx => by cases hx)
  have harg3 : DataW.Trod enc Try.prog W' 0 (fun b => decide (b < W.heap.size)) true 45 _ _ _ := Below.trod laidOut (by kernel_rfl) (of_decide_eq_true (by kernel_rfl)) h3 hb (fun x hx => hlt x (by simp [hx]))
  exact ⟨_, rfl, _, _, _, [], _, [], hW', trodAll_mk1 (shut_bool Try.underlying4 _), (trodAll_cons_mk harg0 (trodAll_cons_mk harg1 (trodAll_cons_mk harg2 (trodAll_cons_mk harg3 trodAll_mk0)))), rfl, hb.frame _, fun h => by cases h⟩

theorem over : Rows.imageLinesRow.holds Try.pinned (OpenSpec.ofChange Rows.imageLinesSpec) :=
  OpenClaim.holds_of_wide 5 Try.f5 rfl rfl rfl rfl rfl rfl rfl ⟨rfl, rfl, rfl, rfl, rfl⟩ rfl rfl rfl rfl rfl (by kernel_rfl) Try.func5 (by kernel_rfl)
    (of_decide_eq_true (by kernel_rfl)) (by unfold Func.isWrapper; first | (rw [if_pos (by decide +kernel)]; kernel_rfl) | (rw [if_neg (by decide +kernel)]; exact ⟨rfl, rfl⟩))
    (fun os started H enc _ => lifted os started H enc)

/-- THE STATEMENT -/
theorem proved : Rows.ImageLinesSaid :=
  over
end Go.Proofs.Ytchjcfmmnfimlaa.imageLines
