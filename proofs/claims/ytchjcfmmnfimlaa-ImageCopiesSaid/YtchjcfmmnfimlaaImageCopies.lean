/-
  ImageCopies: for every input the statement's function returns true, with no condition; each argument reads behind the call as before. By contracts of the program's and the document's functions.
-/
import Derived.Test.YtchjcfmmnfimlaaImBox
namespace Go.Proofs.Ytchjcfmmnfimlaa.imageCopies
open Go.ChangeShapes Go.WideShapes Go.ChangeAt Go.RowKit
set_option linter.unusedVariables false

/-! THE WALK: the Go text returns true; of memory nothing that stood there has turned. -/
set_option maxRecDepth 100000 in
set_option maxHeartbeats 8000000 in
theorem walk (w : World) (a0 : Option Addr) (n0 c0 : Nat) (x0 : List Int) (l0 : x0.length = n0) (m0 : n0 ≤ 9223372036854775807) (b0 : BIn w a0 x0) (a1 : Int) (w1 : (Lit.int .i64 a1).wf = true) (a2 a2w a2v : Int) (w2 : (Lit.int .u32 a2).wf = true) (w2w : (Lit.int .i64 a2w).wf = true) (w2v : (Lit.int .u32 a2v).wf = true) :
    Calls Try.prog 6 #[.slice a0 n0 c0, .int .i64 a1, .agg #[.int .u32 a2, .int .i64 a2w, .int .u32 a2v]] w fun e w' => e = .returned (.bool true) ∧ Below w.heap.size w w' := by
  have B0 := Lib.hid b0; clear b0
  by_cases hbig : 10000 < n0
  · go_enter Try.func6, Try.ntmps6
    go_wp2_with (go_at_call 11; refine (works_any _).mono ?_; rintro e wz ⟨rfl, hbz⟩)
    go_ret
    exact ⟨rfl, (box_first hbz).1⟩
  · obtain ⟨addr, rfl⟩ := Int.eq_ofNat_of_zero_le (wf_u32 w2).1
    have ha := (wf_u32 w2).2
    have hv := wf_u32 w2v
    have hw := wf_i64 w2w
    have HW := Lib.hid w2w
    clear w2 w2v w2w
    have hbx := (Below.refl w.heap.size w).alloc (Nat.le_refl _) (.cells #[.int .u32 (addr : Int), .int .i64 a2w, .int .u32 a2v] 36)
    have HBX := Lib.hid hbx; clear hbx
    go_enter Try.func6, Try.ntmps6
    go_wp2_with fail
    refine (sized_any a0 n0 c0 x0 a1 _ (B0.out.old HBX.out) l0 (by omega) (wf_i64 w1)).mono ?_
    rintro e wa ⟨g, ys, rfl, hr, hok, hyb, hg, hba⟩
    have hbd := Im.okB_bd hok
    have HR := Lib.hid hr; have HOK := Lib.hid hok; have HY := Lib.hid hyb; have HG := Lib.hid hg; have HBA := Lib.hid hba; clear hr hok hyb hg hba
    go_wp2_with fail
    refine (of_yes ys.length ys.length _ ys HOK.out rfl HY.out _ (Sl.of_row HR.out)).mono ?_
    rintro e wb ⟨p, h, rfl, hi, hp, hh, hbb⟩
    have HI := Lib.hid hi; have HP := Lib.hid hp; have HH := Lib.hid hh; have HBB := Lib.hid hbb; clear hi hp hh hbb
    have HRB := Lib.hid (HR.out.old HBB.out)
    obtain ⟨hba1, hbox⟩ := box_first HBA.out
    have HBA1 := Lib.hid hba1; have HBOX := Lib.hid hbox; clear hba1 hbox
    have HXB := Lib.hid (HBOX.out.old HBB.out)
    have HRH := Lib.hid (show w.heap.size < h from Nat.lt_of_lt_of_le HBOX.out.lt HH.out)
    have HGH := Lib.hid (show g < h from Nat.lt_of_lt_of_le HR.out.lt HH.out)
    have HTB := Lib.hid (below_tr HBA1.out HBB.out)
    go_wp2_with (go_at_call 14; refine (num_any _ _).mono ?_; rintro e w' ⟨rfl, rfl⟩)
    refine (copy_any p h ys _ HI.out).mono ?_
    rintro e wc ⟨q, k, rfl, hi2, hq, hk, hbc⟩
    have HC := Lib.hid hi2; have HQ := Lib.hid hq; have HK := Lib.hid hk; have HBC := Lib.hid hbc; clear hi2 hq hk hbc
    have HIC := Lib.hid (HI.out.old HBC.out); have HRC := Lib.hid (HRB.out.old HBC.out); have HXC := Lib.hid (HXB.out.old HBC.out)
    have HTC := Lib.hid (below_tr HTB.out HBC.out)
    have HKH := Lib.hid (show h < k ∧ h < q from ⟨Nat.lt_of_lt_of_le HI.out.row.lt HK.out, Nat.lt_of_lt_of_le HI.out.row.lt HQ.out⟩)
    go_wp2_with fail
    refine (same_any p h q k ys ys _ HIC.out HC.out).mono ?_
    rw [decide_eq_true (rfl : ys = ys)]
    rintro e w' ⟨rfl, rfl⟩
    have k0 := HXC.out.c0; have k1 := HXC.out.c1; have k2 := HXC.out.c2
    go_wp2_with fail
    refine (write_any p h ys addr a2w a2v _ HIC.out (by omega) HW.out hv).mono ?_
    clear k0 k1 k2
    rintro e wd ⟨bs, code, rfl, hi2, hgd, hlen, hcode, hcb⟩
    have HID := Lib.hid hi2; have HGD := Lib.hid hgd; have HLEN := Lib.hid hlen; clear hi2 hgd hlen
    have HCD := Lib.hid (HC.out.kept HGD.out (by have := HKH.out; simp; omega) (by have := HKH.out; simp; omega))
    have HRD := Lib.hid (HRC.out.kept HGD.out (by have := HGH.out; simp; omega))
    have HXD := Lib.hid (HXC.out.kept HGD.out (by have := HRH.out; simp; omega))
    have HTD := Lib.hid (HTC.out.grown HGD.out HTC.out.size (fun k hk => by cases hk; exact Nat.le_of_lt HRH.out))
    have HLB := Lib.hid (show bs.length ≤ 4096 ∧ 16 ≤ bs.length from ⟨HID.out.bd.2.1, HID.out.bd.1⟩)
    go_wp2_with fail
    refine (bytes_any p h bs _ HID.out).mono ?_
    rintro e we ⟨v, rfl, hown, hbe⟩
    obtain ⟨gx, cap, rfl, hgx⟩ := own_at hown (by have := HLB.out.2; omega)
    obtain ⟨_, _, hvv, hsl, _, _⟩ := sl_own hown
    injection hvv with hv1 _ hv3
    subst hv1
    have HOWN := Lib.hid hown; have HBE := Lib.hid hbe; have HGX := Lib.hid hgx; have HSL := Lib.hid hsl; clear hown hbe hgx hsl hv3
    have hconv := conv_sl we _ bs.length cap bs HSL.out rfl
    obtain ⟨m, hm⟩ : ∃ m, m = bs.length := ⟨_, rfl⟩
    have hlb := HLB.out
    rw [← hm] at hlb hconv ⊢
    have HM := Lib.hid hm; clear hm
    have h3 : (((strOfNums bs).toList == (strOfNums ys).toList) = true ∧ decide (bs = ys) = true ∧ (code == 0) = true) ∨ (((strOfNums bs).toList == (strOfNums ys).toList) = true ∧ decide (bs = ys) = true ∧ (code == 0) = false) ∨ (((strOfNums bs).toList == (strOfNums ys).toList) = false ∧ decide (bs = ys) = false ∧ (code == 0) = true) := by
      by_cases hE : bs = ys
      · have e1 : ((strOfNums bs).toList == (strOfNums ys).toList) = true := by rw [hE]; exact beq_self_eq_true _
        by_cases h0 : code = 0
        · exact .inl ⟨e1, decide_eq_true hE, by rw [h0]; rfl⟩
        · exact .inr (.inl ⟨e1, decide_eq_true hE, by rw [beq_eq_false_iff_ne]; exact h0⟩)
      · have h0 : code = 0 := by rcases hcode with h | h; exact h; exact absurd h hE
        exact .inr (.inr ⟨str_ne HID.out.byt HY.out hE, decide_eq_false hE, by rw [h0]; rfl⟩)
    clear hcode
    rcases h3 with ⟨s1, s2, s3⟩ | ⟨s1, s2, s3⟩ | ⟨s1, s2, s3⟩
    · have HS2 := Lib.hid s2
      clear s2
      go_wp2_with fail
      go_loopw [15] (fun i wr => ∃ (j : Nat) (xs' : List Int), i = .int .i64 j ∧ j ≤ m ∧ xs'.length = m ∧ Im.Byt xs' ∧ wr.ownsRow wd.heap.size 5 1 (.slice (some ⟨gx, 0, none⟩) m cap) m (Im.vals xs') ∧ Below wd.heap.size wd wr) (fun i wr => m - (intOf i).toNat)
      case atStart => exact ⟨0, bs, rfl, Nat.zero_le _, HM.out.symm, HID.out.byt, (by rw [HM.out]; exact HOWN.out), HBE.out⟩
      case round =>
        obtain ⟨j, zs, rfl, hj, hzl, hzb, hown, hbel⟩ := hrel
        have HZL := Lib.hid hzl; have HZB := Lib.hid hzb; have HOW := Lib.hid hown; have HBEL := Lib.hid hbel; clear hzl hzb hown hbel
        clear hconv
        by_cases hlt : j < m
        · have hc := own_cell HOW.out hlt
          have hf := own_frozen HOW.out j
          have hz := Im.getD_byt HZB.out j
          obtain ⟨z, ez⟩ : ∃ z, z = zs.getD j 0 := ⟨_, rfl⟩
          rw [← ez] at hc hz
          clear ez
          go_wp2
          go_roundw
          case rel => exact ⟨j + 1, zs.set j ((z + 1) % 256), by go_num, by omega, by rw [List.length_set]; exact HZL.out, Im.byt_set HZB.out j (by omega), own_set HOW.out j _ hlt, HBEL.out.setCell HGX.out _⟩
          case measure => simp [intOf]; omega
        · have HI := Lib.hid (HID.out.old HBEL.out); have HC := Lib.hid (HCD.out.old HBEL.out); have HR := Lib.hid (HRD.out.old HBEL.out); have HX := Lib.hid (HXD.out.old HBEL.out)
          have HT := Lib.hid (below_tr HTD.out HBEL.out)
          clear HZL HZB HOW HBEL
          have k0 := HX.out.c0; have k1 := HX.out.c1; have k2 := HX.out.c2
          go_wp2_with fail
          refine (read_nil addr a2w _ (by omega) HW.out).mono ?_
          clear k0 k1 k2
          rintro e wg ⟨rfl, hb⟩
          have HB := Lib.hid hb; clear hb
          have HT := Lib.hid (below_tr HT.out HB.out)
          have HI := Lib.hid (HI.out.old HB.out)
          have HC := Lib.hid (HC.out.old HB.out)
          have HR := Lib.hid (HR.out.old HB.out)
          have HX := Lib.hid (HX.out.old HB.out)
          go_wp2_with fail
          refine (line_nil 0 _ (by omega)).mono ?_
          rintro e wh ⟨rfl, hb⟩
          have HB := Lib.hid hb; clear hb
          have HT := Lib.hid (below_tr HT.out HB.out)
          have HI := Lib.hid (HI.out.old HB.out)
          have HC := Lib.hid (HC.out.old HB.out)
          have HR := Lib.hid (HR.out.old HB.out)
          have HX := Lib.hid (HX.out.old HB.out)
          go_wp2_with (first | (refine wpList_store_arr rfl _ _ rfl wh.heap.size zs16 zs16 rfl rfl rfl rfl (arr_new wh) ?_; intro wi hai hgi; have HB := Lib.hid (below_new hgi); clear hai hgi))
          have HT := Lib.hid (below_tr HT.out HB.out)
          have HI := Lib.hid (HI.out.old HB.out)
          have HC := Lib.hid (HC.out.old HB.out)
          have HR := Lib.hid (HR.out.old HB.out)
          have HX := Lib.hid (HX.out.old HB.out)
          refine (new_yes 16 (by decide) _).mono ?_
          rintro e wj ⟨p2, g2, rfl, hi2, _, _, hb⟩
          have HO := Lib.hid (show Img wj p2 g2 zs16 from hi2); have HB := Lib.hid hb; clear hi2 hb
          have HT := Lib.hid (below_tr HT.out HB.out)
          have HI := Lib.hid (HI.out.old HB.out)
          have HC := Lib.hid (HC.out.old HB.out)
          have HR := Lib.hid (HR.out.old HB.out)
          have HX := Lib.hid (HX.out.old HB.out)
          go_wp2_with fail
          refine Og.region2 (by kernel_rfl) (fun t => if t = 6 then some 101 else if 87 ≤ t ∧ t ≤ 187 then some (t - 87) else none) [.is (.bool true), .is (.bool true), .is (.int .i64 code), .is (.int .i64 code), .is (.bool true), .is (.bool true), .is (undef), .is (undef), .is (undef), .is (undef), .is (.bool true), .is (.bool true), .is (.bool true), .is (.pointer (some ⟨q, 0, none⟩)), .says (fun v w => ∃ a c, v = .slice a ys.length c ∧ Sl w a ys), .is (.string (strOfNums ys)), .is (.slice (some ⟨g, 0, none⟩) ys.length ys.length), .is (.string (strOfNums ys)), .is (.bool true), .is (.bool true), .is (.bool true), .is (.pointer (some ⟨p, 0, none⟩)), .says (fun v w => ∃ a c, v = .slice a bs.length c ∧ Sl w a bs), .is (.string (strOfNums bs)), .is (.string (strOfNums bs)), .is (.bool true), .is (.bool true), .is (.bool true), .is (.pointer (some ⟨p, 0, none⟩)), .is (.pointer (some ⟨q, 0, none⟩)), .is (.bool true), .is (.string (strOfNums bs)), .is (.slice (some ⟨g, 0, none⟩) ys.length ys.length), .is (.string (strOfNums ys)), .is (.bool true), .is (.bool true), .is (.bool true), .is (.bool true), .is (.int .i64 1), .is (.int .i64 1), .is (.bool true), .is (.bool true), .is (.bool true), .is (.int .i64 1), .is (.int .i64 1), .is (.bool true), .is (.bool true), .is (.bool true), .is (.pointer none), .is (.pointer (some ⟨w.heap.size, 0, none⟩)), .is (.int .u32 (addr : Int)), .is (.pointer (some ⟨w.heap.size, 1, none⟩)), .is (.int .i64 a2w), .is (.pointer (some ⟨w.heap.size, 2, none⟩)), .is (.int .u32 a2v), .is (.int .i64 1), .is (.int .i64 1), .is (.bool true), .is (.bool true), .is (.bool true), .is (.pointer none), .is (.agg #[.int .u8 0, .int .u8 0, .int .u8 0, .int .u8 0, .int .u8 0, .int .u8 0, .int .u8 0, .int .u8 0, .int .u8 0, .int .u8 0, .int .u8 0, .int .u8 0, .int .u8 0, .int .u8 0, .int .u8 0, .int .u8 0]), .is (.int .i64 1), .is (.int .i64 1), .is (.bool true), .is (.bool true), .is (.bool true), .is (.pointer none), .is (.int .i64 0), .is (.bool true), .is (.bool true), .is (.bool true), .is (.pointer none), .is (.slice none 0 0), .is (.int .i64 0), .is (.bool true), .is (.bool true), .is (.bool true), .is (.pointer none), .is (.pointer none), .is (.bool true), .is (.bool true), .is (.bool true), .is (.pointer none), .is (.bool true), .is (.bool true), .is (.bool true), .is (.pointer none), .is (.pointer (some ⟨p2, 0, none⟩)), .is (.bool false), .is (.bool true), .is (.bool true), .is (.bool true), .is (.pointer (some ⟨p2, 0, none⟩)), .is (.pointer none), .is (.bool false), .is (.bool true), .is (.bool true), .is (.bool true), .is (.bool true), .is (.bool true), .is (.bool true)] [true, true, true, true, true, true, false, false, false, false, true, true, true, true, true, true, true, true, true, true, true, true, true, true, true, true, true, true, true, true, true, true, true, true, true, true, true, true, true, true, true, true, true, true, true, true, true, true, true, true, true, true, true, true, true, true, true, true, true, true, true, true, true, true, true, true, true, true, true, true, true, true, true, true, true, true, true, true, true, true, true, true, true, true, true, true, true, true, true, true, true, true, true, true, true, true, true, true, true, true, true, true] (by kernel_rfl) ?_ ?_
          · refine ⟨?_, ?_, ?_, ?_, ?_, ?_, ?_, ?_, ?_, ?_, ?_, ?_, ?_, ?_, ?_, ?_, ?_, ?_, ?_, ?_, ?_, ?_, ?_, ?_, ?_, ?_, ?_, ?_, ?_, ?_, ?_, ?_, ?_, ?_, ?_, ?_, ?_, ?_, ?_, ?_, ?_, ?_, ?_, ?_, ?_, ?_, ?_, ?_, ?_, ?_, ?_, ?_, ?_, ?_, ?_, ?_, ?_, ?_, ?_, ?_, ?_, ?_, ?_, ?_, ?_, ?_, ?_, ?_, ?_, ?_, ?_, ?_, ?_, ?_, ?_, ?_, ?_, ?_, ?_, ?_, ?_, ?_, ?_, ?_, ?_, ?_, ?_, ?_, ?_, ?_, ?_, ?_, ?_, ?_, ?_, ?_, ?_, ?_, ?_, ?_, ?_, ?_, trivial⟩
            · refine ⟨rfl, fun ρ w1 hr hd => ?_⟩
              obtain ⟨d0, _⟩ := hd
              have d0 : ρ (.tmp 11) = .bool true := d0
              refine (if_pos (by rfl)).mpr ?_
              refine Og.gives_is (.bool true) ?_ (And.intro (Below.refl _ _) rfl)
              go_simp
            · refine ⟨rfl, fun ρ w1 hr hd => ?_⟩
              obtain ⟨d0, _⟩ := hd
              have d0 : ρ (.tmp 87) = .bool true := d0
              refine (if_pos (by rfl)).mpr ?_
              refine Og.gives_is (.bool true) ?_ (And.intro (Below.refl _ _) rfl)
              go_simp
            · refine ⟨fun v w hv => by (have hv' : v = .bool true := hv); subst hv'; exact (if_pos (by rfl)).mpr rfl, fun ρ w1 hr hd => ?_⟩
              obtain ⟨d0, _⟩ := hd
              have d0 : ρ (.tmp 12) = .int .i64 code := d0
              refine (if_pos (by rfl)).mpr ?_
              refine Og.gives_is (.int .i64 code) ?_ (And.intro (Below.refl _ _) rfl)
              go_simp
            · refine ⟨fun v w hv => by (have hv' : v = .bool true := hv); subst hv'; exact (if_pos (by rfl)).mpr rfl, fun ρ w1 hr hd => ?_⟩
              obtain ⟨d0, d1, _⟩ := hd
              have d0 : ρ (.func 14) = .func (.func 14) #[] #[] := d0
              have d1 : ρ (.tmp 89) = .int .i64 code := d1
              refine (if_pos (by rfl)).mpr ?_
              refine Og.gives_call 14 #[.int .i64 code] ?_ ?_
              · go_simp
              · exact (num_any _ w1).mono fun e w' ⟨he, hw⟩ => ⟨_, he, by subst hw; exact Below.refl _ _, rfl⟩
            · refine ⟨fun v w hv => by (have hv' : v = .bool true := hv); subst hv'; exact (if_pos (by rfl)).mpr rfl, fun ρ w1 hr hd => ?_⟩
              obtain ⟨d0, d1, _⟩ := hd
              have d0 : ρ (.tmp 90) = .int .i64 code := d0
              have d1 : ρ (.const (.int .i64 0)) = .int .i64 0 := d1
              refine (if_pos (by rfl)).mpr ?_
              refine Og.gives_is (.bool true) ?_ (And.intro (Below.refl _ _) rfl)
              go_simp
            · refine ⟨fun v w hv => by (have hv' : v = .bool true := hv); subst hv'; exact (if_pos (by rfl)).mpr rfl, fun ρ w1 hr hd => ?_⟩
              obtain ⟨d0, _⟩ := hd
              have d0 : ρ (.tmp 91) = .bool true := d0
              refine (if_pos (by rfl)).mpr ?_
              refine Og.gives_is (.bool true) ?_ (And.intro (Below.refl _ _) rfl)
              go_simp
            · refine ⟨fun v w hv => by (have hv' : v = .bool true := hv); subst hv'; exact (if_neg (by exact Bool.false_ne_true)).mpr (fun h => by cases h), fun ρ w1 hr hd => ?_⟩
              exact (if_neg (by exact Bool.false_ne_true)).mpr (rfl : undef = undef)
            · refine ⟨fun v w hv => by (have hv' : v = .bool true := hv); subst hv'; exact (if_neg (by exact Bool.false_ne_true)).mpr (fun h => by cases h), fun ρ w1 hr hd => ?_⟩
              exact (if_neg (by exact Bool.false_ne_true)).mpr (rfl : undef = undef)
            · refine ⟨fun v w hv => by (have hv' : v = .bool true := hv); subst hv'; exact (if_neg (by exact Bool.false_ne_true)).mpr (fun h => by cases h), fun ρ w1 hr hd => ?_⟩
              exact (if_neg (by exact Bool.false_ne_true)).mpr (rfl : undef = undef)
            · refine ⟨fun v w hv => by (have hv' : v = .bool true := hv); subst hv'; exact (if_neg (by exact Bool.false_ne_true)).mpr (fun h => by cases h), fun ρ w1 hr hd => ?_⟩
              exact (if_neg (by exact Bool.false_ne_true)).mpr (rfl : undef = undef)
            · refine ⟨fun v w hv => by (have hv' : v = .bool true := hv); subst hv'; exact (if_pos (by rfl)).mpr rfl, fun ρ w1 hr hd => ?_⟩
              obtain ⟨d0, d1, d2, _⟩ := hd
              have d0 : ρ (.tmp 92) = .bool true := d0
              have d1 : ρ (.const (.bool true)) = .bool true := d1
              have d2 : ρ (.tmp 96) = undef := d2
              refine (if_pos (by rfl)).mpr ?_
              refine Og.gives_is (.bool true) ?_ (And.intro (Below.refl _ _) rfl)
              go_simp
            · refine ⟨rfl, fun ρ w1 hr hd => ?_⟩
              obtain ⟨d0, d1, d2, _⟩ := hd
              have d0 : ρ (.tmp 88) = .bool true := d0
              have d1 : ρ (.tmp 97) = .bool true := d1
              have d2 : ρ (.const (.bool false)) = .bool false := d2
              refine (if_pos (by rfl)).mpr ?_
              refine Og.gives_is (.bool true) ?_ (And.intro (Below.refl _ _) rfl)
              go_simp
            · refine ⟨rfl, fun ρ w1 hr hd => ?_⟩
              obtain ⟨d0, _⟩ := hd
              have d0 : ρ (.tmp 98) = .bool true := d0
              refine (if_pos (by rfl)).mpr ?_
              refine Og.gives_is (.bool true) ?_ (And.intro (Below.refl _ _) rfl)
              go_simp
            · refine ⟨fun v w hv => by (have hv' : v = .bool true := hv); subst hv'; exact (if_pos (by rfl)).mpr rfl, fun ρ w1 hr hd => ?_⟩
              obtain ⟨d0, _⟩ := hd
              have d0 : ρ (.tmp 10) = .pointer (some ⟨q, 0, none⟩) := d0
              refine (if_pos (by rfl)).mpr ?_
              refine Og.gives_is (.pointer (some ⟨q, 0, none⟩)) ?_ (And.intro (Below.refl _ _) rfl)
              go_simp
            · refine ⟨fun v w hv => by (have hv' : v = .bool true := hv); subst hv'; exact (if_pos (by rfl)).mpr rfl, fun ρ w1 hr hd => ?_⟩
              obtain ⟨d0, d1, _⟩ := hd
              have d0 : ρ (.func 16) = .func (.func 16) #[] #[] := d0
              have d1 : ρ (.tmp 100) = .pointer (some ⟨q, 0, none⟩) := d1
              refine (if_pos (by rfl)).mpr ?_
              refine Og.gives_call 16 #[.pointer (some ⟨q, 0, none⟩)] ?_ ?_
              · go_simp
              · refine (bytes_any q k ys w1 (HC.out.old hr)).mono fun e w' ⟨v, he, hown, hb⟩ => ?_
                obtain ⟨a5, c5, hv, hsl, _, _⟩ := sl_own hown
                exact ⟨v, he, hb, w', Below.refl _ _, a5, c5, hv, hsl⟩
            · refine ⟨fun v w hv => by (have hv' : v = .bool true := hv); subst hv'; exact (if_pos (by rfl)).mpr rfl, fun ρ w1 hr hd => ?_⟩
              obtain ⟨d0, _⟩ := hd
              have d0 : ∃ w1', Below w1'.heap.size w1' w1 ∧ (fun v w => ∃ a c, v = .slice a ys.length c ∧ Sl w a ys) (ρ (.tmp 101)) w1' := d0
              obtain ⟨w2, hb2, a5, c5, d0, hs⟩ := d0
              have cv := conv_sl w1 a5 ys.length c5 ys (hs.old hb2) rfl
              refine (if_pos (by rfl)).mpr ?_
              refine Og.gives_is (.string (strOfNums ys)) ?_ (And.intro (Below.refl _ _) rfl)
              go_simp
            · refine ⟨fun v w hv => by (have hv' : v = .bool true := hv); subst hv'; exact (if_pos (by rfl)).mpr rfl, fun ρ w1 hr hd => ?_⟩
              obtain ⟨d0, _⟩ := hd
              have d0 : ρ (.tmp 7) = .slice (some ⟨g, 0, none⟩) ys.length ys.length := d0
              refine (if_pos (by rfl)).mpr ?_
              refine Og.gives_is (.slice (some ⟨g, 0, none⟩) ys.length ys.length) ?_ (And.intro (Below.refl _ _) rfl)
              go_simp
            · refine ⟨fun v w hv => by (have hv' : v = .bool true := hv); subst hv'; exact (if_pos (by rfl)).mpr rfl, fun ρ w1 hr hd => ?_⟩
              obtain ⟨d0, _⟩ := hd
              have d0 : ρ (.tmp 103) = .slice (some ⟨g, 0, none⟩) ys.length ys.length := d0
              have cv := conv_sl w1 _ ys.length ys.length ys (Sl.of_row (HR.out.old hr)) rfl
              refine (if_pos (by rfl)).mpr ?_
              refine Og.gives_is (.string (strOfNums ys)) ?_ (And.intro (Below.refl _ _) rfl)
              go_simp
            · refine ⟨fun v w hv => by (have hv' : v = .bool true := hv); subst hv'; exact (if_pos (by rfl)).mpr rfl, fun ρ w1 hr hd => ?_⟩
              obtain ⟨d0, d1, _⟩ := hd
              have d0 : ρ (.tmp 102) = .string (strOfNums ys) := d0
              have d1 : ρ (.tmp 104) = .string (strOfNums ys) := d1
              refine (if_pos (by rfl)).mpr ?_
              refine Og.gives_is (.bool true) ?_ (And.intro (Below.refl _ _) rfl)
              go_simp
            · refine ⟨rfl, fun ρ w1 hr hd => ?_⟩
              obtain ⟨d0, d1, d2, _⟩ := hd
              have d0 : ρ (.tmp 99) = .bool true := d0
              have d1 : ρ (.tmp 105) = .bool true := d1
              have d2 : ρ (.const (.bool false)) = .bool false := d2
              refine (if_pos (by rfl)).mpr ?_
              refine Og.gives_is (.bool true) ?_ (And.intro (Below.refl _ _) rfl)
              go_simp
            · refine ⟨rfl, fun ρ w1 hr hd => ?_⟩
              obtain ⟨d0, _⟩ := hd
              have d0 : ρ (.tmp 106) = .bool true := d0
              refine (if_pos (by rfl)).mpr ?_
              refine Og.gives_is (.bool true) ?_ (And.intro (Below.refl _ _) rfl)
              go_simp
            · refine ⟨fun v w hv => by (have hv' : v = .bool true := hv); subst hv'; exact (if_pos (by rfl)).mpr rfl, fun ρ w1 hr hd => ?_⟩
              obtain ⟨d0, _⟩ := hd
              have d0 : ρ (.tmp 8) = .pointer (some ⟨p, 0, none⟩) := d0
              refine (if_pos (by rfl)).mpr ?_
              refine Og.gives_is (.pointer (some ⟨p, 0, none⟩)) ?_ (And.intro (Below.refl _ _) rfl)
              go_simp
            · refine ⟨fun v w hv => by (have hv' : v = .bool true := hv); subst hv'; exact (if_pos (by rfl)).mpr rfl, fun ρ w1 hr hd => ?_⟩
              obtain ⟨d0, d1, _⟩ := hd
              have d0 : ρ (.func 16) = .func (.func 16) #[] #[] := d0
              have d1 : ρ (.tmp 108) = .pointer (some ⟨p, 0, none⟩) := d1
              refine (if_pos (by rfl)).mpr ?_
              refine Og.gives_call 16 #[.pointer (some ⟨p, 0, none⟩)] ?_ ?_
              · go_simp
              · refine (bytes_any p h bs w1 (HI.out.old hr)).mono fun e w' ⟨v, he, hown, hb⟩ => ?_
                obtain ⟨a5, c5, hv, hsl, _, _⟩ := sl_own hown
                exact ⟨v, he, hb, w', Below.refl _ _, a5, c5, hv, hsl⟩
            · refine ⟨fun v w hv => by (have hv' : v = .bool true := hv); subst hv'; exact (if_pos (by rfl)).mpr rfl, fun ρ w1 hr hd => ?_⟩
              obtain ⟨d0, _⟩ := hd
              have d0 : ∃ w1', Below w1'.heap.size w1' w1 ∧ (fun v w => ∃ a c, v = .slice a bs.length c ∧ Sl w a bs) (ρ (.tmp 109)) w1' := d0
              obtain ⟨w2, hb2, a5, c5, d0, hs⟩ := d0
              have cv := conv_sl w1 a5 bs.length c5 bs (hs.old hb2) rfl
              refine (if_pos (by rfl)).mpr ?_
              refine Og.gives_is (.string (strOfNums bs)) ?_ (And.intro (Below.refl _ _) rfl)
              go_simp
            · refine ⟨fun v w hv => by (have hv' : v = .bool true := hv); subst hv'; exact (if_pos (by rfl)).mpr rfl, fun ρ w1 hr hd => ?_⟩
              obtain ⟨d0, _⟩ := hd
              have d0 : ρ (.tmp 14) = .string (strOfNums bs) := d0
              refine (if_pos (by rfl)).mpr ?_
              refine Og.gives_is (.string (strOfNums bs)) ?_ (And.intro (Below.refl _ _) rfl)
              go_simp
            · refine ⟨fun v w hv => by (have hv' : v = .bool true := hv); subst hv'; exact (if_pos (by rfl)).mpr rfl, fun ρ w1 hr hd => ?_⟩
              obtain ⟨d0, d1, _⟩ := hd
              have d0 : ρ (.tmp 110) = .string (strOfNums bs) := d0
              have d1 : ρ (.tmp 111) = .string (strOfNums bs) := d1
              refine (if_pos (by rfl)).mpr ?_
              refine Og.gives_is (.bool true) ?_ (And.intro (Below.refl _ _) rfl)
              go_simp
            · refine ⟨rfl, fun ρ w1 hr hd => ?_⟩
              obtain ⟨d0, d1, d2, _⟩ := hd
              have d0 : ρ (.tmp 107) = .bool true := d0
              have d1 : ρ (.tmp 112) = .bool true := d1
              have d2 : ρ (.const (.bool false)) = .bool false := d2
              refine (if_pos (by rfl)).mpr ?_
              refine Og.gives_is (.bool true) ?_ (And.intro (Below.refl _ _) rfl)
              go_simp
            · refine ⟨rfl, fun ρ w1 hr hd => ?_⟩
              obtain ⟨d0, _⟩ := hd
              have d0 : ρ (.tmp 113) = .bool true := d0
              refine (if_pos (by rfl)).mpr ?_
              refine Og.gives_is (.bool true) ?_ (And.intro (Below.refl _ _) rfl)
              go_simp
            · refine ⟨fun v w hv => by (have hv' : v = .bool true := hv); subst hv'; exact (if_pos (by rfl)).mpr rfl, fun ρ w1 hr hd => ?_⟩
              obtain ⟨d0, _⟩ := hd
              have d0 : ρ (.tmp 8) = .pointer (some ⟨p, 0, none⟩) := d0
              refine (if_pos (by rfl)).mpr ?_
              refine Og.gives_is (.pointer (some ⟨p, 0, none⟩)) ?_ (And.intro (Below.refl _ _) rfl)
              go_simp
            · refine ⟨fun v w hv => by (have hv' : v = .bool true := hv); subst hv'; exact (if_pos (by rfl)).mpr rfl, fun ρ w1 hr hd => ?_⟩
              obtain ⟨d0, _⟩ := hd
              have d0 : ρ (.tmp 10) = .pointer (some ⟨q, 0, none⟩) := d0
              refine (if_pos (by rfl)).mpr ?_
              refine Og.gives_is (.pointer (some ⟨q, 0, none⟩)) ?_ (And.intro (Below.refl _ _) rfl)
              go_simp
            · refine ⟨fun v w hv => by (have hv' : v = .bool true := hv); subst hv'; exact (if_pos (by rfl)).mpr rfl, fun ρ w1 hr hd => ?_⟩
              obtain ⟨d0, d1, d2, _⟩ := hd
              have d0 : ρ (.func 28) = .func (.func 28) #[] #[] := d0
              have d1 : ρ (.tmp 115) = .pointer (some ⟨p, 0, none⟩) := d1
              have d2 : ρ (.tmp 116) = .pointer (some ⟨q, 0, none⟩) := d2
              refine (if_pos (by rfl)).mpr ?_
              refine Og.gives_call 28 #[.pointer (some ⟨p, 0, none⟩), .pointer (some ⟨q, 0, none⟩)] ?_ ?_
              · go_simp
              · exact (same_any p h q k bs ys w1 (HI.out.old hr) (HC.out.old hr)).mono fun e w' ⟨he, hw⟩ => ⟨_, he, by subst hw; exact Below.refl _ _, congrArg Value.bool HS2.out⟩
            · refine ⟨fun v w hv => by (have hv' : v = .bool true := hv); subst hv'; exact (if_pos (by rfl)).mpr rfl, fun ρ w1 hr hd => ?_⟩
              obtain ⟨d0, _⟩ := hd
              have d0 : ρ (.tmp 14) = .string (strOfNums bs) := d0
              refine (if_pos (by rfl)).mpr ?_
              refine Og.gives_is (.string (strOfNums bs)) ?_ (And.intro (Below.refl _ _) rfl)
              go_simp
            · refine ⟨fun v w hv => by (have hv' : v = .bool true := hv); subst hv'; exact (if_pos (by rfl)).mpr rfl, fun ρ w1 hr hd => ?_⟩
              obtain ⟨d0, _⟩ := hd
              have d0 : ρ (.tmp 7) = .slice (some ⟨g, 0, none⟩) ys.length ys.length := d0
              refine (if_pos (by rfl)).mpr ?_
              refine Og.gives_is (.slice (some ⟨g, 0, none⟩) ys.length ys.length) ?_ (And.intro (Below.refl _ _) rfl)
              go_simp
            · refine ⟨fun v w hv => by (have hv' : v = .bool true := hv); subst hv'; exact (if_pos (by rfl)).mpr rfl, fun ρ w1 hr hd => ?_⟩
              obtain ⟨d0, _⟩ := hd
              have d0 : ρ (.tmp 119) = .slice (some ⟨g, 0, none⟩) ys.length ys.length := d0
              have cv := conv_sl w1 _ ys.length ys.length ys (Sl.of_row (HR.out.old hr)) rfl
              refine (if_pos (by rfl)).mpr ?_
              refine Og.gives_is (.string (strOfNums ys)) ?_ (And.intro (Below.refl _ _) rfl)
              go_simp
            · refine ⟨fun v w hv => by (have hv' : v = .bool true := hv); subst hv'; exact (if_pos (by rfl)).mpr rfl, fun ρ w1 hr hd => ?_⟩
              obtain ⟨d0, d1, _⟩ := hd
              have d0 : ρ (.tmp 118) = .string (strOfNums bs) := d0
              have d1 : ρ (.tmp 120) = .string (strOfNums ys) := d1
              refine (if_pos (by rfl)).mpr ?_
              refine Og.gives_is (.bool true) ?_ (And.intro (Below.refl _ _) rfl)
              go_simp
            · refine ⟨fun v w hv => by (have hv' : v = .bool true := hv); subst hv'; exact (if_pos (by rfl)).mpr rfl, fun ρ w1 hr hd => ?_⟩
              obtain ⟨d0, d1, _⟩ := hd
              have d0 : ρ (.tmp 117) = .bool true := d0
              have d1 : ρ (.tmp 121) = .bool true := d1
              refine (if_pos (by rfl)).mpr ?_
              refine Og.gives_is (.bool true) ?_ (And.intro (Below.refl _ _) rfl)
              go_simp
            · refine ⟨rfl, fun ρ w1 hr hd => ?_⟩
              obtain ⟨d0, d1, d2, _⟩ := hd
              have d0 : ρ (.tmp 114) = .bool true := d0
              have d1 : ρ (.tmp 122) = .bool true := d1
              have d2 : ρ (.const (.bool false)) = .bool false := d2
              refine (if_pos (by rfl)).mpr ?_
              refine Og.gives_is (.bool true) ?_ (And.intro (Below.refl _ _) rfl)
              go_simp
            · refine ⟨rfl, fun ρ w1 hr hd => ?_⟩
              obtain ⟨d0, _⟩ := hd
              have d0 : ρ (.tmp 123) = .bool true := d0
              refine (if_pos (by rfl)).mpr ?_
              refine Og.gives_is (.bool true) ?_ (And.intro (Below.refl _ _) rfl)
              go_simp
            · refine ⟨fun v w hv => by (have hv' : v = .bool true := hv); subst hv'; exact (if_pos (by rfl)).mpr rfl, fun ρ w1 hr hd => ?_⟩
              obtain ⟨d0, _⟩ := hd
              have d0 : ρ (.tmp 18) = .int .i64 1 := d0
              refine (if_pos (by rfl)).mpr ?_
              refine Og.gives_is (.int .i64 1) ?_ (And.intro (Below.refl _ _) rfl)
              go_simp
            · refine ⟨fun v w hv => by (have hv' : v = .bool true := hv); subst hv'; exact (if_pos (by rfl)).mpr rfl, fun ρ w1 hr hd => ?_⟩
              obtain ⟨d0, d1, _⟩ := hd
              have d0 : ρ (.func 14) = .func (.func 14) #[] #[] := d0
              have d1 : ρ (.tmp 125) = .int .i64 1 := d1
              refine (if_pos (by rfl)).mpr ?_
              refine Og.gives_call 14 #[.int .i64 1] ?_ ?_
              · go_simp
              · exact (num_any _ w1).mono fun e w' ⟨he, hw⟩ => ⟨_, he, by subst hw; exact Below.refl _ _, rfl⟩
            · refine ⟨fun v w hv => by (have hv' : v = .bool true := hv); subst hv'; exact (if_pos (by rfl)).mpr rfl, fun ρ w1 hr hd => ?_⟩
              obtain ⟨d0, d1, _⟩ := hd
              have d0 : ρ (.tmp 126) = .int .i64 1 := d0
              have d1 : ρ (.const (.int .i64 1)) = .int .i64 1 := d1
              refine (if_pos (by rfl)).mpr ?_
              refine Og.gives_is (.bool true) ?_ (And.intro (Below.refl _ _) rfl)
              go_simp
            · refine ⟨rfl, fun ρ w1 hr hd => ?_⟩
              obtain ⟨d0, d1, d2, _⟩ := hd
              have d0 : ρ (.tmp 124) = .bool true := d0
              have d1 : ρ (.tmp 127) = .bool true := d1
              have d2 : ρ (.const (.bool false)) = .bool false := d2
              refine (if_pos (by rfl)).mpr ?_
              refine Og.gives_is (.bool true) ?_ (And.intro (Below.refl _ _) rfl)
              go_simp
            · refine ⟨rfl, fun ρ w1 hr hd => ?_⟩
              obtain ⟨d0, _⟩ := hd
              have d0 : ρ (.tmp 128) = .bool true := d0
              refine (if_pos (by rfl)).mpr ?_
              refine Og.gives_is (.bool true) ?_ (And.intro (Below.refl _ _) rfl)
              go_simp
            · refine ⟨fun v w hv => by (have hv' : v = .bool true := hv); subst hv'; exact (if_pos (by rfl)).mpr rfl, fun ρ w1 hr hd => ?_⟩
              obtain ⟨d0, _⟩ := hd
              have d0 : ρ (.tmp 20) = .int .i64 1 := d0
              refine (if_pos (by rfl)).mpr ?_
              refine Og.gives_is (.int .i64 1) ?_ (And.intro (Below.refl _ _) rfl)
              go_simp
            · refine ⟨fun v w hv => by (have hv' : v = .bool true := hv); subst hv'; exact (if_pos (by rfl)).mpr rfl, fun ρ w1 hr hd => ?_⟩
              obtain ⟨d0, d1, _⟩ := hd
              have d0 : ρ (.func 14) = .func (.func 14) #[] #[] := d0
              have d1 : ρ (.tmp 130) = .int .i64 1 := d1
              refine (if_pos (by rfl)).mpr ?_
              refine Og.gives_call 14 #[.int .i64 1] ?_ ?_
              · go_simp
              · exact (num_any _ w1).mono fun e w' ⟨he, hw⟩ => ⟨_, he, by subst hw; exact Below.refl _ _, rfl⟩
            · refine ⟨fun v w hv => by (have hv' : v = .bool true := hv); subst hv'; exact (if_pos (by rfl)).mpr rfl, fun ρ w1 hr hd => ?_⟩
              obtain ⟨d0, d1, _⟩ := hd
              have d0 : ρ (.tmp 131) = .int .i64 1 := d0
              have d1 : ρ (.const (.int .i64 1)) = .int .i64 1 := d1
              refine (if_pos (by rfl)).mpr ?_
              refine Og.gives_is (.bool true) ?_ (And.intro (Below.refl _ _) rfl)
              go_simp
            · refine ⟨rfl, fun ρ w1 hr hd => ?_⟩
              obtain ⟨d0, d1, d2, _⟩ := hd
              have d0 : ρ (.tmp 129) = .bool true := d0
              have d1 : ρ (.tmp 132) = .bool true := d1
              have d2 : ρ (.const (.bool false)) = .bool false := d2
              refine (if_pos (by rfl)).mpr ?_
              refine Og.gives_is (.bool true) ?_ (And.intro (Below.refl _ _) rfl)
              go_simp
            · refine ⟨rfl, fun ρ w1 hr hd => ?_⟩
              obtain ⟨d0, _⟩ := hd
              have d0 : ρ (.tmp 133) = .bool true := d0
              refine (if_pos (by rfl)).mpr ?_
              refine Og.gives_is (.bool true) ?_ (And.intro (Below.refl _ _) rfl)
              go_simp
            · refine ⟨fun v w hv => by (have hv' : v = .bool true := hv); subst hv'; exact (if_pos (by rfl)).mpr rfl, fun ρ w1 hr hd => ?_⟩
              obtain ⟨d0, _⟩ := hd
              have d0 : ρ (.tmp 16) = .pointer none := d0
              refine (if_pos (by rfl)).mpr ?_
              refine Og.gives_is (.pointer none) ?_ (And.intro (Below.refl _ _) rfl)
              go_simp
            · refine ⟨fun v w hv => by (have hv' : v = .bool true := hv); subst hv'; exact (if_pos (by rfl)).mpr rfl, fun ρ w1 hr hd => ?_⟩
              obtain ⟨d0, _⟩ := hd
              have d0 : ρ (.tmp 5) = .pointer (some ⟨w.heap.size, 0, none⟩) := d0
              refine (if_pos (by rfl)).mpr ?_
              refine Og.gives_is (.pointer (some ⟨w.heap.size, 0, none⟩)) ?_ (And.intro (Below.refl _ _) rfl)
              go_simp
            · refine ⟨fun v w hv => by (have hv' : v = .bool true := hv); subst hv'; exact (if_pos (by rfl)).mpr rfl, fun ρ w1 hr hd => ?_⟩
              obtain ⟨d0, _⟩ := hd
              have d0 : ρ (.tmp 136) = .pointer (some ⟨w.heap.size, 0, none⟩) := d0
              have k0 := (HX.out.old hr).c0
              refine (if_pos (by rfl)).mpr ?_
              refine Og.gives_is (.int .u32 (addr : Int)) ?_ (And.intro (Below.refl _ _) rfl)
              go_simp
            · refine ⟨fun v w hv => by (have hv' : v = .bool true := hv); subst hv'; exact (if_pos (by rfl)).mpr rfl, fun ρ w1 hr hd => ?_⟩
              obtain ⟨d0, _⟩ := hd
              have d0 : ρ (.tmp 5) = .pointer (some ⟨w.heap.size, 0, none⟩) := d0
              refine (if_pos (by rfl)).mpr ?_
              refine Og.gives_is (.pointer (some ⟨w.heap.size, 1, none⟩)) ?_ (And.intro (Below.refl _ _) rfl)
              go_simp
            · refine ⟨fun v w hv => by (have hv' : v = .bool true := hv); subst hv'; exact (if_pos (by rfl)).mpr rfl, fun ρ w1 hr hd => ?_⟩
              obtain ⟨d0, _⟩ := hd
              have d0 : ρ (.tmp 138) = .pointer (some ⟨w.heap.size, 1, none⟩) := d0
              have k0 := (HX.out.old hr).c1
              refine (if_pos (by rfl)).mpr ?_
              refine Og.gives_is (.int .i64 a2w) ?_ (And.intro (Below.refl _ _) rfl)
              go_simp
            · refine ⟨fun v w hv => by (have hv' : v = .bool true := hv); subst hv'; exact (if_pos (by rfl)).mpr rfl, fun ρ w1 hr hd => ?_⟩
              obtain ⟨d0, _⟩ := hd
              have d0 : ρ (.tmp 5) = .pointer (some ⟨w.heap.size, 0, none⟩) := d0
              refine (if_pos (by rfl)).mpr ?_
              refine Og.gives_is (.pointer (some ⟨w.heap.size, 2, none⟩)) ?_ (And.intro (Below.refl _ _) rfl)
              go_simp
            · refine ⟨fun v w hv => by (have hv' : v = .bool true := hv); subst hv'; exact (if_pos (by rfl)).mpr rfl, fun ρ w1 hr hd => ?_⟩
              obtain ⟨d0, _⟩ := hd
              have d0 : ρ (.tmp 140) = .pointer (some ⟨w.heap.size, 2, none⟩) := d0
              have k0 := (HX.out.old hr).c2
              refine (if_pos (by rfl)).mpr ?_
              refine Og.gives_is (.int .u32 a2v) ?_ (And.intro (Below.refl _ _) rfl)
              go_simp
            · refine ⟨fun v w hv => by (have hv' : v = .bool true := hv); subst hv'; exact (if_pos (by rfl)).mpr rfl, fun ρ w1 hr hd => ?_⟩
              obtain ⟨d0, d1, d2, d3, d4, _⟩ := hd
              have d0 : ρ (.func 21) = .func (.func 21) #[] #[] := d0
              have d1 : ρ (.tmp 135) = .pointer none := d1
              have d2 : ρ (.tmp 137) = .int .u32 (addr : Int) := d2
              have d3 : ρ (.tmp 139) = .int .i64 a2w := d3
              have d4 : ρ (.tmp 141) = .int .u32 a2v := d4
              refine (if_pos (by rfl)).mpr ?_
              refine Og.gives_call 21 #[.pointer none, .int .u32 (addr : Int), .int .i64 a2w, .int .u32 a2v] ?_ ?_
              · go_simp
              · exact (write_nil addr a2w a2v w1 (by omega) HW.out).mono fun e w' ⟨he, hb⟩ => ⟨_, he, hb, rfl⟩
            · refine ⟨fun v w hv => by (have hv' : v = .bool true := hv); subst hv'; exact (if_pos (by rfl)).mpr rfl, fun ρ w1 hr hd => ?_⟩
              obtain ⟨d0, d1, _⟩ := hd
              have d0 : ρ (.func 14) = .func (.func 14) #[] #[] := d0
              have d1 : ρ (.tmp 142) = .int .i64 1 := d1
              refine (if_pos (by rfl)).mpr ?_
              refine Og.gives_call 14 #[.int .i64 1] ?_ ?_
              · go_simp
              · exact (num_any _ w1).mono fun e w' ⟨he, hw⟩ => ⟨_, he, by subst hw; exact Below.refl _ _, rfl⟩
            · refine ⟨fun v w hv => by (have hv' : v = .bool true := hv); subst hv'; exact (if_pos (by rfl)).mpr rfl, fun ρ w1 hr hd => ?_⟩
              obtain ⟨d0, d1, _⟩ := hd
              have d0 : ρ (.tmp 143) = .int .i64 1 := d0
              have d1 : ρ (.const (.int .i64 1)) = .int .i64 1 := d1
              refine (if_pos (by rfl)).mpr ?_
              refine Og.gives_is (.bool true) ?_ (And.intro (Below.refl _ _) rfl)
              go_simp
            · refine ⟨rfl, fun ρ w1 hr hd => ?_⟩
              obtain ⟨d0, d1, d2, _⟩ := hd
              have d0 : ρ (.tmp 134) = .bool true := d0
              have d1 : ρ (.tmp 144) = .bool true := d1
              have d2 : ρ (.const (.bool false)) = .bool false := d2
              refine (if_pos (by rfl)).mpr ?_
              refine Og.gives_is (.bool true) ?_ (And.intro (Below.refl _ _) rfl)
              go_simp
            · refine ⟨rfl, fun ρ w1 hr hd => ?_⟩
              obtain ⟨d0, _⟩ := hd
              have d0 : ρ (.tmp 145) = .bool true := d0
              refine (if_pos (by rfl)).mpr ?_
              refine Og.gives_is (.bool true) ?_ (And.intro (Below.refl _ _) rfl)
              go_simp
            · refine ⟨fun v w hv => by (have hv' : v = .bool true := hv); subst hv'; exact (if_pos (by rfl)).mpr rfl, fun ρ w1 hr hd => ?_⟩
              obtain ⟨d0, _⟩ := hd
              have d0 : ρ (.tmp 16) = .pointer none := d0
              refine (if_pos (by rfl)).mpr ?_
              refine Og.gives_is (.pointer none) ?_ (And.intro (Below.refl _ _) rfl)
              go_simp
            · refine ⟨fun v w hv => by (have hv' : v = .bool true := hv); subst hv'; exact (if_pos (by rfl)).mpr rfl, fun ρ w1 hr hd => ?_⟩
              clear hd
              refine (if_pos (by rfl)).mpr ?_
              refine Og.gives_is (.agg #[.int .u8 0, .int .u8 0, .int .u8 0, .int .u8 0, .int .u8 0, .int .u8 0, .int .u8 0, .int .u8 0, .int .u8 0, .int .u8 0, .int .u8 0, .int .u8 0, .int .u8 0, .int .u8 0, .int .u8 0, .int .u8 0]) ?_ (And.intro (Below.refl _ _) rfl)
              go_simp
            · refine ⟨fun v w hv => by (have hv' : v = .bool true := hv); subst hv'; exact (if_pos (by rfl)).mpr rfl, fun ρ w1 hr hd => ?_⟩
              obtain ⟨d0, d1, d2, d3, _⟩ := hd
              have d0 : ρ (.func 25) = .func (.func 25) #[] #[] := d0
              have d1 : ρ (.tmp 147) = .pointer none := d1
              have d2 : ρ (.const (.int .u32 0)) = .int .u32 0 := d2
              have d3 : ρ (.tmp 148) = .agg #[.int .u8 0, .int .u8 0, .int .u8 0, .int .u8 0, .int .u8 0, .int .u8 0, .int .u8 0, .int .u8 0, .int .u8 0, .int .u8 0, .int .u8 0, .int .u8 0, .int .u8 0, .int .u8 0, .int .u8 0, .int .u8 0] := d3
              refine (if_pos (by rfl)).mpr ?_
              refine Og.gives_call 25 #[.pointer none, .int .u32 0, .agg #[.int .u8 0, .int .u8 0, .int .u8 0, .int .u8 0, .int .u8 0, .int .u8 0, .int .u8 0, .int .u8 0, .int .u8 0, .int .u8 0, .int .u8 0, .int .u8 0, .int .u8 0, .int .u8 0, .int .u8 0, .int .u8 0]] ?_ ?_
              · go_simp
              · exact (setline_nil zs16 0 w1 (by omega)).mono fun e w' ⟨he, hb⟩ => ⟨_, he, hb, rfl⟩
            · refine ⟨fun v w hv => by (have hv' : v = .bool true := hv); subst hv'; exact (if_pos (by rfl)).mpr rfl, fun ρ w1 hr hd => ?_⟩
              obtain ⟨d0, d1, _⟩ := hd
              have d0 : ρ (.func 14) = .func (.func 14) #[] #[] := d0
              have d1 : ρ (.tmp 149) = .int .i64 1 := d1
              refine (if_pos (by rfl)).mpr ?_
              refine Og.gives_call 14 #[.int .i64 1] ?_ ?_
              · go_simp
              · exact (num_any _ w1).mono fun e w' ⟨he, hw⟩ => ⟨_, he, by subst hw; exact Below.refl _ _, rfl⟩
            · refine ⟨fun v w hv => by (have hv' : v = .bool true := hv); subst hv'; exact (if_pos (by rfl)).mpr rfl, fun ρ w1 hr hd => ?_⟩
              obtain ⟨d0, d1, _⟩ := hd
              have d0 : ρ (.tmp 150) = .int .i64 1 := d0
              have d1 : ρ (.const (.int .i64 1)) = .int .i64 1 := d1
              refine (if_pos (by rfl)).mpr ?_
              refine Og.gives_is (.bool true) ?_ (And.intro (Below.refl _ _) rfl)
              go_simp
            · refine ⟨rfl, fun ρ w1 hr hd => ?_⟩
              obtain ⟨d0, d1, d2, _⟩ := hd
              have d0 : ρ (.tmp 146) = .bool true := d0
              have d1 : ρ (.tmp 151) = .bool true := d1
              have d2 : ρ (.const (.bool false)) = .bool false := d2
              refine (if_pos (by rfl)).mpr ?_
              refine Og.gives_is (.bool true) ?_ (And.intro (Below.refl _ _) rfl)
              go_simp
            · refine ⟨rfl, fun ρ w1 hr hd => ?_⟩
              obtain ⟨d0, _⟩ := hd
              have d0 : ρ (.tmp 152) = .bool true := d0
              refine (if_pos (by rfl)).mpr ?_
              refine Og.gives_is (.bool true) ?_ (And.intro (Below.refl _ _) rfl)
              go_simp
            · refine ⟨fun v w hv => by (have hv' : v = .bool true := hv); subst hv'; exact (if_pos (by rfl)).mpr rfl, fun ρ w1 hr hd => ?_⟩
              obtain ⟨d0, _⟩ := hd
              have d0 : ρ (.tmp 16) = .pointer none := d0
              refine (if_pos (by rfl)).mpr ?_
              refine Og.gives_is (.pointer none) ?_ (And.intro (Below.refl _ _) rfl)
              go_simp
            · refine ⟨fun v w hv => by (have hv' : v = .bool true := hv); subst hv'; exact (if_pos (by rfl)).mpr rfl, fun ρ w1 hr hd => ?_⟩
              obtain ⟨d0, d1, _⟩ := hd
              have d0 : ρ (.func 17) = .func (.func 17) #[] #[] := d0
              have d1 : ρ (.tmp 154) = .pointer none := d1
              refine (if_pos (by rfl)).mpr ?_
              refine Og.gives_call 17 #[.pointer none] ?_ ?_
              · go_simp
              · exact (size_nil w1).mono fun e w' ⟨he, hw⟩ => ⟨_, he, by subst hw; exact Below.refl _ _, rfl⟩
            · refine ⟨fun v w hv => by (have hv' : v = .bool true := hv); subst hv'; exact (if_pos (by rfl)).mpr rfl, fun ρ w1 hr hd => ?_⟩
              obtain ⟨d0, d1, _⟩ := hd
              have d0 : ρ (.tmp 155) = .int .i64 0 := d0
              have d1 : ρ (.const (.int .i64 0)) = .int .i64 0 := d1
              refine (if_pos (by rfl)).mpr ?_
              refine Og.gives_is (.bool true) ?_ (And.intro (Below.refl _ _) rfl)
              go_simp
            · refine ⟨rfl, fun ρ w1 hr hd => ?_⟩
              obtain ⟨d0, d1, d2, _⟩ := hd
              have d0 : ρ (.tmp 153) = .bool true := d0
              have d1 : ρ (.tmp 156) = .bool true := d1
              have d2 : ρ (.const (.bool false)) = .bool false := d2
              refine (if_pos (by rfl)).mpr ?_
              refine Og.gives_is (.bool true) ?_ (And.intro (Below.refl _ _) rfl)
              go_simp
            · refine ⟨rfl, fun ρ w1 hr hd => ?_⟩
              obtain ⟨d0, _⟩ := hd
              have d0 : ρ (.tmp 157) = .bool true := d0
              refine (if_pos (by rfl)).mpr ?_
              refine Og.gives_is (.bool true) ?_ (And.intro (Below.refl _ _) rfl)
              go_simp
            · refine ⟨fun v w hv => by (have hv' : v = .bool true := hv); subst hv'; exact (if_pos (by rfl)).mpr rfl, fun ρ w1 hr hd => ?_⟩
              obtain ⟨d0, _⟩ := hd
              have d0 : ρ (.tmp 16) = .pointer none := d0
              refine (if_pos (by rfl)).mpr ?_
              refine Og.gives_is (.pointer none) ?_ (And.intro (Below.refl _ _) rfl)
              go_simp
            · refine ⟨fun v w hv => by (have hv' : v = .bool true := hv); subst hv'; exact (if_pos (by rfl)).mpr rfl, fun ρ w1 hr hd => ?_⟩
              obtain ⟨d0, d1, _⟩ := hd
              have d0 : ρ (.func 16) = .func (.func 16) #[] #[] := d0
              have d1 : ρ (.tmp 159) = .pointer none := d1
              refine (if_pos (by rfl)).mpr ?_
              refine Og.gives_call 16 #[.pointer none] ?_ ?_
              · go_simp
              · exact (bytes_nil w1).mono fun e w' ⟨he, hw⟩ => ⟨_, he, by subst hw; exact Below.refl _ _, rfl⟩
            · refine ⟨fun v w hv => by (have hv' : v = .bool true := hv); subst hv'; exact (if_pos (by rfl)).mpr rfl, fun ρ w1 hr hd => ?_⟩
              obtain ⟨d0, _⟩ := hd
              have d0 : ρ (.tmp 160) = .slice none 0 0 := d0
              refine (if_pos (by rfl)).mpr ?_
              refine Og.gives_is (.int .i64 0) ?_ (And.intro (Below.refl _ _) rfl)
              go_simp
            · refine ⟨fun v w hv => by (have hv' : v = .bool true := hv); subst hv'; exact (if_pos (by rfl)).mpr rfl, fun ρ w1 hr hd => ?_⟩
              obtain ⟨d0, d1, _⟩ := hd
              have d0 : ρ (.tmp 161) = .int .i64 0 := d0
              have d1 : ρ (.const (.int .i64 0)) = .int .i64 0 := d1
              refine (if_pos (by rfl)).mpr ?_
              refine Og.gives_is (.bool true) ?_ (And.intro (Below.refl _ _) rfl)
              go_simp
            · refine ⟨rfl, fun ρ w1 hr hd => ?_⟩
              obtain ⟨d0, d1, d2, _⟩ := hd
              have d0 : ρ (.tmp 158) = .bool true := d0
              have d1 : ρ (.tmp 162) = .bool true := d1
              have d2 : ρ (.const (.bool false)) = .bool false := d2
              refine (if_pos (by rfl)).mpr ?_
              refine Og.gives_is (.bool true) ?_ (And.intro (Below.refl _ _) rfl)
              go_simp
            · refine ⟨rfl, fun ρ w1 hr hd => ?_⟩
              obtain ⟨d0, _⟩ := hd
              have d0 : ρ (.tmp 163) = .bool true := d0
              refine (if_pos (by rfl)).mpr ?_
              refine Og.gives_is (.bool true) ?_ (And.intro (Below.refl _ _) rfl)
              go_simp
            · refine ⟨fun v w hv => by (have hv' : v = .bool true := hv); subst hv'; exact (if_pos (by rfl)).mpr rfl, fun ρ w1 hr hd => ?_⟩
              obtain ⟨d0, _⟩ := hd
              have d0 : ρ (.tmp 16) = .pointer none := d0
              refine (if_pos (by rfl)).mpr ?_
              refine Og.gives_is (.pointer none) ?_ (And.intro (Below.refl _ _) rfl)
              go_simp
            · refine ⟨fun v w hv => by (have hv' : v = .bool true := hv); subst hv'; exact (if_pos (by rfl)).mpr rfl, fun ρ w1 hr hd => ?_⟩
              obtain ⟨d0, d1, _⟩ := hd
              have d0 : ρ (.func 27) = .func (.func 27) #[] #[] := d0
              have d1 : ρ (.tmp 165) = .pointer none := d1
              refine (if_pos (by rfl)).mpr ?_
              refine Og.gives_call 27 #[.pointer none] ?_ ?_
              · go_simp
              · exact (copy_nil w1).mono fun e w' ⟨he, hb⟩ => ⟨_, he, hb, rfl⟩
            · refine ⟨fun v w hv => by (have hv' : v = .bool true := hv); subst hv'; exact (if_pos (by rfl)).mpr rfl, fun ρ w1 hr hd => ?_⟩
              obtain ⟨d0, d1, _⟩ := hd
              have d0 : ρ (.tmp 166) = .pointer none := d0
              have d1 : ρ (.const (.pointer none)) = .pointer none := d1
              refine (if_pos (by rfl)).mpr ?_
              refine Og.gives_is (.bool true) ?_ (And.intro (Below.refl _ _) rfl)
              go_simp
            · refine ⟨rfl, fun ρ w1 hr hd => ?_⟩
              obtain ⟨d0, d1, d2, _⟩ := hd
              have d0 : ρ (.tmp 164) = .bool true := d0
              have d1 : ρ (.tmp 167) = .bool true := d1
              have d2 : ρ (.const (.bool false)) = .bool false := d2
              refine (if_pos (by rfl)).mpr ?_
              refine Og.gives_is (.bool true) ?_ (And.intro (Below.refl _ _) rfl)
              go_simp
            · refine ⟨rfl, fun ρ w1 hr hd => ?_⟩
              obtain ⟨d0, _⟩ := hd
              have d0 : ρ (.tmp 168) = .bool true := d0
              refine (if_pos (by rfl)).mpr ?_
              refine Og.gives_is (.bool true) ?_ (And.intro (Below.refl _ _) rfl)
              go_simp
            · refine ⟨fun v w hv => by (have hv' : v = .bool true := hv); subst hv'; exact (if_pos (by rfl)).mpr rfl, fun ρ w1 hr hd => ?_⟩
              obtain ⟨d0, _⟩ := hd
              have d0 : ρ (.tmp 16) = .pointer none := d0
              refine (if_pos (by rfl)).mpr ?_
              refine Og.gives_is (.pointer none) ?_ (And.intro (Below.refl _ _) rfl)
              go_simp
            · refine ⟨fun v w hv => by (have hv' : v = .bool true := hv); subst hv'; exact (if_pos (by rfl)).mpr rfl, fun ρ w1 hr hd => ?_⟩
              obtain ⟨d0, d1, d2, _⟩ := hd
              have d0 : ρ (.func 28) = .func (.func 28) #[] #[] := d0
              have d1 : ρ (.tmp 170) = .pointer none := d1
              have d2 : ρ (.const (.pointer none)) = .pointer none := d2
              refine (if_pos (by rfl)).mpr ?_
              refine Og.gives_call 28 #[.pointer none, .pointer none] ?_ ?_
              · go_simp
              · exact (same_nil_both w1).mono fun e w' ⟨he, hw⟩ => ⟨_, he, by subst hw; exact Below.refl _ _, rfl⟩
            · refine ⟨rfl, fun ρ w1 hr hd => ?_⟩
              obtain ⟨d0, d1, d2, _⟩ := hd
              have d0 : ρ (.tmp 169) = .bool true := d0
              have d1 : ρ (.tmp 171) = .bool true := d1
              have d2 : ρ (.const (.bool false)) = .bool false := d2
              refine (if_pos (by rfl)).mpr ?_
              refine Og.gives_is (.bool true) ?_ (And.intro (Below.refl _ _) rfl)
              go_simp
            · refine ⟨rfl, fun ρ w1 hr hd => ?_⟩
              obtain ⟨d0, _⟩ := hd
              have d0 : ρ (.tmp 172) = .bool true := d0
              refine (if_pos (by rfl)).mpr ?_
              refine Og.gives_is (.bool true) ?_ (And.intro (Below.refl _ _) rfl)
              go_simp
            · refine ⟨fun v w hv => by (have hv' : v = .bool true := hv); subst hv'; exact (if_pos (by rfl)).mpr rfl, fun ρ w1 hr hd => ?_⟩
              obtain ⟨d0, _⟩ := hd
              have d0 : ρ (.tmp 16) = .pointer none := d0
              refine (if_pos (by rfl)).mpr ?_
              refine Og.gives_is (.pointer none) ?_ (And.intro (Below.refl _ _) rfl)
              go_simp
            · refine ⟨fun v w hv => by (have hv' : v = .bool true := hv); subst hv'; exact (if_pos (by rfl)).mpr rfl, fun ρ w1 hr hd => ?_⟩
              obtain ⟨d0, _⟩ := hd
              have d0 : ρ (.tmp 21) = .pointer (some ⟨p2, 0, none⟩) := d0
              refine (if_pos (by rfl)).mpr ?_
              refine Og.gives_is (.pointer (some ⟨p2, 0, none⟩)) ?_ (And.intro (Below.refl _ _) rfl)
              go_simp
            · refine ⟨fun v w hv => by (have hv' : v = .bool true := hv); subst hv'; exact (if_pos (by rfl)).mpr rfl, fun ρ w1 hr hd => ?_⟩
              obtain ⟨d0, d1, d2, _⟩ := hd
              have d0 : ρ (.func 28) = .func (.func 28) #[] #[] := d0
              have d1 : ρ (.tmp 174) = .pointer none := d1
              have d2 : ρ (.tmp 175) = .pointer (some ⟨p2, 0, none⟩) := d2
              refine (if_pos (by rfl)).mpr ?_
              refine Og.gives_call 28 #[.pointer none, .pointer (some ⟨p2, 0, none⟩)] ?_ ?_
              · go_simp
              · exact (same_nil_left p2 g2 zs16 w1 (HO.out.old hr)).mono fun e w' ⟨he, hw⟩ => ⟨_, he, by subst hw; exact Below.refl _ _, rfl⟩
            · refine ⟨fun v w hv => by (have hv' : v = .bool true := hv); subst hv'; exact (if_pos (by rfl)).mpr rfl, fun ρ w1 hr hd => ?_⟩
              obtain ⟨d0, _⟩ := hd
              have d0 : ρ (.tmp 176) = .bool false := d0
              refine (if_pos (by rfl)).mpr ?_
              refine Og.gives_is (.bool true) ?_ (And.intro (Below.refl _ _) rfl)
              go_simp
            · refine ⟨rfl, fun ρ w1 hr hd => ?_⟩
              obtain ⟨d0, d1, d2, _⟩ := hd
              have d0 : ρ (.tmp 173) = .bool true := d0
              have d1 : ρ (.tmp 177) = .bool true := d1
              have d2 : ρ (.const (.bool false)) = .bool false := d2
              refine (if_pos (by rfl)).mpr ?_
              refine Og.gives_is (.bool true) ?_ (And.intro (Below.refl _ _) rfl)
              go_simp
            · refine ⟨rfl, fun ρ w1 hr hd => ?_⟩
              obtain ⟨d0, _⟩ := hd
              have d0 : ρ (.tmp 178) = .bool true := d0
              refine (if_pos (by rfl)).mpr ?_
              refine Og.gives_is (.bool true) ?_ (And.intro (Below.refl _ _) rfl)
              go_simp
            · refine ⟨fun v w hv => by (have hv' : v = .bool true := hv); subst hv'; exact (if_pos (by rfl)).mpr rfl, fun ρ w1 hr hd => ?_⟩
              obtain ⟨d0, _⟩ := hd
              have d0 : ρ (.tmp 21) = .pointer (some ⟨p2, 0, none⟩) := d0
              refine (if_pos (by rfl)).mpr ?_
              refine Og.gives_is (.pointer (some ⟨p2, 0, none⟩)) ?_ (And.intro (Below.refl _ _) rfl)
              go_simp
            · refine ⟨fun v w hv => by (have hv' : v = .bool true := hv); subst hv'; exact (if_pos (by rfl)).mpr rfl, fun ρ w1 hr hd => ?_⟩
              obtain ⟨d0, _⟩ := hd
              have d0 : ρ (.tmp 16) = .pointer none := d0
              refine (if_pos (by rfl)).mpr ?_
              refine Og.gives_is (.pointer none) ?_ (And.intro (Below.refl _ _) rfl)
              go_simp
            · refine ⟨fun v w hv => by (have hv' : v = .bool true := hv); subst hv'; exact (if_pos (by rfl)).mpr rfl, fun ρ w1 hr hd => ?_⟩
              obtain ⟨d0, d1, d2, _⟩ := hd
              have d0 : ρ (.func 28) = .func (.func 28) #[] #[] := d0
              have d1 : ρ (.tmp 180) = .pointer (some ⟨p2, 0, none⟩) := d1
              have d2 : ρ (.tmp 181) = .pointer none := d2
              refine (if_pos (by rfl)).mpr ?_
              refine Og.gives_call 28 #[.pointer (some ⟨p2, 0, none⟩), .pointer none] ?_ ?_
              · go_simp
              · exact (same_nil_right p2 g2 zs16 w1 (HO.out.old hr)).mono fun e w' ⟨he, hw⟩ => ⟨_, he, by subst hw; exact Below.refl _ _, rfl⟩
            · refine ⟨fun v w hv => by (have hv' : v = .bool true := hv); subst hv'; exact (if_pos (by rfl)).mpr rfl, fun ρ w1 hr hd => ?_⟩
              obtain ⟨d0, _⟩ := hd
              have d0 : ρ (.tmp 182) = .bool false := d0
              refine (if_pos (by rfl)).mpr ?_
              refine Og.gives_is (.bool true) ?_ (And.intro (Below.refl _ _) rfl)
              go_simp
            · refine ⟨rfl, fun ρ w1 hr hd => ?_⟩
              obtain ⟨d0, d1, d2, _⟩ := hd
              have d0 : ρ (.tmp 179) = .bool true := d0
              have d1 : ρ (.tmp 183) = .bool true := d1
              have d2 : ρ (.const (.bool false)) = .bool false := d2
              refine (if_pos (by rfl)).mpr ?_
              refine Og.gives_is (.bool true) ?_ (And.intro (Below.refl _ _) rfl)
              go_simp
            · refine ⟨rfl, fun ρ w1 hr hd => ?_⟩
              obtain ⟨d0, _⟩ := hd
              have d0 : ρ (.tmp 184) = .bool true := d0
              refine (if_pos (by rfl)).mpr ?_
              refine Og.gives_is (.bool true) ?_ (And.intro (Below.refl _ _) rfl)
              go_simp
            · refine ⟨fun v w hv => by (have hv' : v = .bool true := hv); subst hv'; exact (if_pos (by rfl)).mpr rfl, fun ρ w1 hr hd => ?_⟩
              obtain ⟨d0, _⟩ := hd
              have d0 : ρ (.func 11) = .func (.func 11) #[] #[] := d0
              refine (if_pos (by rfl)).mpr ?_
              refine Og.gives_call 11 #[] ?_ ?_
              · go_simp
              · exact (works_any w1).mono fun e w' ⟨he, hb⟩ => ⟨_, he, hb, rfl⟩
            · refine ⟨rfl, fun ρ w1 hr hd => ?_⟩
              obtain ⟨d0, d1, d2, _⟩ := hd
              have d0 : ρ (.tmp 185) = .bool true := d0
              have d1 : ρ (.tmp 186) = .bool true := d1
              have d2 : ρ (.const (.bool false)) = .bool false := d2
              refine (if_pos (by rfl)).mpr ?_
              refine Og.gives_is (.bool true) ?_ (And.intro (Below.refl _ _) rfl)
              go_simp
            · refine ⟨rfl, fun ρ w1 hr hd => ?_⟩
              obtain ⟨d0, _⟩ := hd
              have d0 : ρ (.tmp 187) = .bool true := d0
              refine (if_pos (by rfl)).mpr ?_
              refine Og.gives_is (.bool true) ?_ (And.intro (Below.refl _ _) rfl)
              go_simp
          · intro a w1 hbz hdf hsz hall
            have hres : a.tmps.getD 6 undef = .bool true := hall 101 _ 6 rfl rfl
            go_wp2
            refine bodyPost_ret (v := .bool true) (by rw [results_tmp rfl]; rw [hres]) hdf ⟨rfl, below_tr HT.out hbz⟩
    · have HS2 := Lib.hid s2
      clear s2
      go_wp2_with fail
      go_loopw [15] (fun i wr => ∃ (j : Nat) (xs' : List Int), i = .int .i64 j ∧ j ≤ m ∧ xs'.length = m ∧ Im.Byt xs' ∧ wr.ownsRow wd.heap.size 5 1 (.slice (some ⟨gx, 0, none⟩) m cap) m (Im.vals xs') ∧ Below wd.heap.size wd wr) (fun i wr => m - (intOf i).toNat)
      case atStart => exact ⟨0, bs, rfl, Nat.zero_le _, HM.out.symm, HID.out.byt, (by rw [HM.out]; exact HOWN.out), HBE.out⟩
      case round =>
        obtain ⟨j, zs, rfl, hj, hzl, hzb, hown, hbel⟩ := hrel
        have HZL := Lib.hid hzl; have HZB := Lib.hid hzb; have HOW := Lib.hid hown; have HBEL := Lib.hid hbel; clear hzl hzb hown hbel
        clear hconv
        by_cases hlt : j < m
        · have hc := own_cell HOW.out hlt
          have hf := own_frozen HOW.out j
          have hz := Im.getD_byt HZB.out j
          obtain ⟨z, ez⟩ : ∃ z, z = zs.getD j 0 := ⟨_, rfl⟩
          rw [← ez] at hc hz
          clear ez
          go_wp2
          go_roundw
          case rel => exact ⟨j + 1, zs.set j ((z + 1) % 256), by go_num, by omega, by rw [List.length_set]; exact HZL.out, Im.byt_set HZB.out j (by omega), own_set HOW.out j _ hlt, HBEL.out.setCell HGX.out _⟩
          case measure => simp [intOf]; omega
        · have HI := Lib.hid (HID.out.old HBEL.out); have HC := Lib.hid (HCD.out.old HBEL.out); have HR := Lib.hid (HRD.out.old HBEL.out); have HX := Lib.hid (HXD.out.old HBEL.out)
          have HT := Lib.hid (below_tr HTD.out HBEL.out)
          clear HZL HZB HOW HBEL
          have k0 := HX.out.c0; have k1 := HX.out.c1; have k2 := HX.out.c2
          go_wp2_with fail
          refine (read_nil addr a2w _ (by omega) HW.out).mono ?_
          clear k0 k1 k2
          rintro e wg ⟨rfl, hb⟩
          have HB := Lib.hid hb; clear hb
          have HT := Lib.hid (below_tr HT.out HB.out)
          have HI := Lib.hid (HI.out.old HB.out)
          have HC := Lib.hid (HC.out.old HB.out)
          have HR := Lib.hid (HR.out.old HB.out)
          have HX := Lib.hid (HX.out.old HB.out)
          go_wp2_with fail
          refine (line_nil 0 _ (by omega)).mono ?_
          rintro e wh ⟨rfl, hb⟩
          have HB := Lib.hid hb; clear hb
          have HT := Lib.hid (below_tr HT.out HB.out)
          have HI := Lib.hid (HI.out.old HB.out)
          have HC := Lib.hid (HC.out.old HB.out)
          have HR := Lib.hid (HR.out.old HB.out)
          have HX := Lib.hid (HX.out.old HB.out)
          go_wp2_with (first | (refine wpList_store_arr rfl _ _ rfl wh.heap.size zs16 zs16 rfl rfl rfl rfl (arr_new wh) ?_; intro wi hai hgi; have HB := Lib.hid (below_new hgi); clear hai hgi))
          have HT := Lib.hid (below_tr HT.out HB.out)
          have HI := Lib.hid (HI.out.old HB.out)
          have HC := Lib.hid (HC.out.old HB.out)
          have HR := Lib.hid (HR.out.old HB.out)
          have HX := Lib.hid (HX.out.old HB.out)
          refine (new_yes 16 (by decide) _).mono ?_
          rintro e wj ⟨p2, g2, rfl, hi2, _, _, hb⟩
          have HO := Lib.hid (show Img wj p2 g2 zs16 from hi2); have HB := Lib.hid hb; clear hi2 hb
          have HT := Lib.hid (below_tr HT.out HB.out)
          have HI := Lib.hid (HI.out.old HB.out)
          have HC := Lib.hid (HC.out.old HB.out)
          have HR := Lib.hid (HR.out.old HB.out)
          have HX := Lib.hid (HX.out.old HB.out)
          go_wp2_with fail
          refine Og.region2 (by kernel_rfl) (fun t => if t = 6 then some 101 else if 87 ≤ t ∧ t ≤ 187 then some (t - 87) else none) [.is (.bool true), .is (.bool true), .is (.int .i64 code), .is (.int .i64 code), .is (.bool false), .is (.bool false), .is (.string (strOfNums bs)), .is (.slice (some ⟨g, 0, none⟩) ys.length ys.length), .is (.string (strOfNums ys)), .is (.bool true), .is (.bool true), .is (.bool true), .is (.bool true), .is (.pointer (some ⟨q, 0, none⟩)), .says (fun v w => ∃ a c, v = .slice a ys.length c ∧ Sl w a ys), .is (.string (strOfNums ys)), .is (.slice (some ⟨g, 0, none⟩) ys.length ys.length), .is (.string (strOfNums ys)), .is (.bool true), .is (.bool true), .is (.bool true), .is (.pointer (some ⟨p, 0, none⟩)), .says (fun v w => ∃ a c, v = .slice a bs.length c ∧ Sl w a bs), .is (.string (strOfNums bs)), .is (.string (strOfNums bs)), .is (.bool true), .is (.bool true), .is (.bool true), .is (.pointer (some ⟨p, 0, none⟩)), .is (.pointer (some ⟨q, 0, none⟩)), .is (.bool true), .is (.string (strOfNums bs)), .is (.slice (some ⟨g, 0, none⟩) ys.length ys.length), .is (.string (strOfNums ys)), .is (.bool true), .is (.bool true), .is (.bool true), .is (.bool true), .is (.int .i64 1), .is (.int .i64 1), .is (.bool true), .is (.bool true), .is (.bool true), .is (.int .i64 1), .is (.int .i64 1), .is (.bool true), .is (.bool true), .is (.bool true), .is (.pointer none), .is (.pointer (some ⟨w.heap.size, 0, none⟩)), .is (.int .u32 (addr : Int)), .is (.pointer (some ⟨w.heap.size, 1, none⟩)), .is (.int .i64 a2w), .is (.pointer (some ⟨w.heap.size, 2, none⟩)), .is (.int .u32 a2v), .is (.int .i64 1), .is (.int .i64 1), .is (.bool true), .is (.bool true), .is (.bool true), .is (.pointer none), .is (.agg #[.int .u8 0, .int .u8 0, .int .u8 0, .int .u8 0, .int .u8 0, .int .u8 0, .int .u8 0, .int .u8 0, .int .u8 0, .int .u8 0, .int .u8 0, .int .u8 0, .int .u8 0, .int .u8 0, .int .u8 0, .int .u8 0]), .is (.int .i64 1), .is (.int .i64 1), .is (.bool true), .is (.bool true), .is (.bool true), .is (.pointer none), .is (.int .i64 0), .is (.bool true), .is (.bool true), .is (.bool true), .is (.pointer none), .is (.slice none 0 0), .is (.int .i64 0), .is (.bool true), .is (.bool true), .is (.bool true), .is (.pointer none), .is (.pointer none), .is (.bool true), .is (.bool true), .is (.bool true), .is (.pointer none), .is (.bool true), .is (.bool true), .is (.bool true), .is (.pointer none), .is (.pointer (some ⟨p2, 0, none⟩)), .is (.bool false), .is (.bool true), .is (.bool true), .is (.bool true), .is (.pointer (some ⟨p2, 0, none⟩)), .is (.pointer none), .is (.bool false), .is (.bool true), .is (.bool true), .is (.bool true), .is (.bool true), .is (.bool true), .is (.bool true)] [true, true, true, true, true, true, true, true, true, true, true, true, true, true, true, true, true, true, true, true, true, true, true, true, true, true, true, true, true, true, true, true, true, true, true, true, true, true, true, true, true, true, true, true, true, true, true, true, true, true, true, true, true, true, true, true, true, true, true, true, true, true, true, true, true, true, true, true, true, true, true, true, true, true, true, true, true, true, true, true, true, true, true, true, true, true, true, true, true, true, true, true, true, true, true, true, true, true, true, true, true, true] (by kernel_rfl) ?_ ?_
          · refine ⟨?_, ?_, ?_, ?_, ?_, ?_, ?_, ?_, ?_, ?_, ?_, ?_, ?_, ?_, ?_, ?_, ?_, ?_, ?_, ?_, ?_, ?_, ?_, ?_, ?_, ?_, ?_, ?_, ?_, ?_, ?_, ?_, ?_, ?_, ?_, ?_, ?_, ?_, ?_, ?_, ?_, ?_, ?_, ?_, ?_, ?_, ?_, ?_, ?_, ?_, ?_, ?_, ?_, ?_, ?_, ?_, ?_, ?_, ?_, ?_, ?_, ?_, ?_, ?_, ?_, ?_, ?_, ?_, ?_, ?_, ?_, ?_, ?_, ?_, ?_, ?_, ?_, ?_, ?_, ?_, ?_, ?_, ?_, ?_, ?_, ?_, ?_, ?_, ?_, ?_, ?_, ?_, ?_, ?_, ?_, ?_, ?_, ?_, ?_, ?_, ?_, ?_, trivial⟩
            · refine ⟨rfl, fun ρ w1 hr hd => ?_⟩
              obtain ⟨d0, _⟩ := hd
              have d0 : ρ (.tmp 11) = .bool true := d0
              refine (if_pos (by rfl)).mpr ?_
              refine Og.gives_is (.bool true) ?_ (And.intro (Below.refl _ _) rfl)
              go_simp
            · refine ⟨rfl, fun ρ w1 hr hd => ?_⟩
              obtain ⟨d0, _⟩ := hd
              have d0 : ρ (.tmp 87) = .bool true := d0
              refine (if_pos (by rfl)).mpr ?_
              refine Og.gives_is (.bool true) ?_ (And.intro (Below.refl _ _) rfl)
              go_simp
            · refine ⟨fun v w hv => by (have hv' : v = .bool true := hv); subst hv'; exact (if_pos (by rfl)).mpr rfl, fun ρ w1 hr hd => ?_⟩
              obtain ⟨d0, _⟩ := hd
              have d0 : ρ (.tmp 12) = .int .i64 code := d0
              refine (if_pos (by rfl)).mpr ?_
              refine Og.gives_is (.int .i64 code) ?_ (And.intro (Below.refl _ _) rfl)
              go_simp
            · refine ⟨fun v w hv => by (have hv' : v = .bool true := hv); subst hv'; exact (if_pos (by rfl)).mpr rfl, fun ρ w1 hr hd => ?_⟩
              obtain ⟨d0, d1, _⟩ := hd
              have d0 : ρ (.func 14) = .func (.func 14) #[] #[] := d0
              have d1 : ρ (.tmp 89) = .int .i64 code := d1
              refine (if_pos (by rfl)).mpr ?_
              refine Og.gives_call 14 #[.int .i64 code] ?_ ?_
              · go_simp
              · exact (num_any _ w1).mono fun e w' ⟨he, hw⟩ => ⟨_, he, by subst hw; exact Below.refl _ _, rfl⟩
            · refine ⟨fun v w hv => by (have hv' : v = .bool true := hv); subst hv'; exact (if_pos (by rfl)).mpr rfl, fun ρ w1 hr hd => ?_⟩
              obtain ⟨d0, d1, _⟩ := hd
              have d0 : ρ (.tmp 90) = .int .i64 code := d0
              have d1 : ρ (.const (.int .i64 0)) = .int .i64 0 := d1
              refine (if_pos (by rfl)).mpr ?_
              refine Og.gives_is (.bool false) ?_ (And.intro (Below.refl _ _) rfl)
              go_simp
            · refine ⟨fun v w hv => by (have hv' : v = .bool true := hv); subst hv'; exact (if_pos (by rfl)).mpr rfl, fun ρ w1 hr hd => ?_⟩
              obtain ⟨d0, _⟩ := hd
              have d0 : ρ (.tmp 91) = .bool false := d0
              refine (if_pos (by rfl)).mpr ?_
              refine Og.gives_is (.bool false) ?_ (And.intro (Below.refl _ _) rfl)
              go_simp
            · refine ⟨fun v w hv => by (have hv' : v = .bool false := hv); subst hv'; exact (if_pos (by rfl)).mpr rfl, fun ρ w1 hr hd => ?_⟩
              obtain ⟨d0, _⟩ := hd
              have d0 : ρ (.tmp 14) = .string (strOfNums bs) := d0
              refine (if_pos (by rfl)).mpr ?_
              refine Og.gives_is (.string (strOfNums bs)) ?_ (And.intro (Below.refl _ _) rfl)
              go_simp
            · refine ⟨fun v w hv => by (have hv' : v = .bool false := hv); subst hv'; exact (if_pos (by rfl)).mpr rfl, fun ρ w1 hr hd => ?_⟩
              obtain ⟨d0, _⟩ := hd
              have d0 : ρ (.tmp 7) = .slice (some ⟨g, 0, none⟩) ys.length ys.length := d0
              refine (if_pos (by rfl)).mpr ?_
              refine Og.gives_is (.slice (some ⟨g, 0, none⟩) ys.length ys.length) ?_ (And.intro (Below.refl _ _) rfl)
              go_simp
            · refine ⟨fun v w hv => by (have hv' : v = .bool false := hv); subst hv'; exact (if_pos (by rfl)).mpr rfl, fun ρ w1 hr hd => ?_⟩
              obtain ⟨d0, _⟩ := hd
              have d0 : ρ (.tmp 94) = .slice (some ⟨g, 0, none⟩) ys.length ys.length := d0
              have cv := conv_sl w1 _ ys.length ys.length ys (Sl.of_row (HR.out.old hr)) rfl
              refine (if_pos (by rfl)).mpr ?_
              refine Og.gives_is (.string (strOfNums ys)) ?_ (And.intro (Below.refl _ _) rfl)
              go_simp
            · refine ⟨fun v w hv => by (have hv' : v = .bool false := hv); subst hv'; exact (if_pos (by rfl)).mpr rfl, fun ρ w1 hr hd => ?_⟩
              obtain ⟨d0, d1, _⟩ := hd
              have d0 : ρ (.tmp 93) = .string (strOfNums bs) := d0
              have d1 : ρ (.tmp 95) = .string (strOfNums ys) := d1
              refine (if_pos (by rfl)).mpr ?_
              refine Og.gives_is (.bool true) ?_ (And.intro (Below.refl _ _) rfl)
              go_simp
            · refine ⟨fun v w hv => by (have hv' : v = .bool true := hv); subst hv'; exact (if_pos (by rfl)).mpr rfl, fun ρ w1 hr hd => ?_⟩
              obtain ⟨d0, d1, d2, _⟩ := hd
              have d0 : ρ (.tmp 92) = .bool false := d0
              have d1 : ρ (.const (.bool true)) = .bool true := d1
              have d2 : ρ (.tmp 96) = .bool true := d2
              refine (if_pos (by rfl)).mpr ?_
              refine Og.gives_is (.bool true) ?_ (And.intro (Below.refl _ _) rfl)
              go_simp
            · refine ⟨rfl, fun ρ w1 hr hd => ?_⟩
              obtain ⟨d0, d1, d2, _⟩ := hd
              have d0 : ρ (.tmp 88) = .bool true := d0
              have d1 : ρ (.tmp 97) = .bool true := d1
              have d2 : ρ (.const (.bool false)) = .bool false := d2
              refine (if_pos (by rfl)).mpr ?_
              refine Og.gives_is (.bool true) ?_ (And.intro (Below.refl _ _) rfl)
              go_simp
            · refine ⟨rfl, fun ρ w1 hr hd => ?_⟩
              obtain ⟨d0, _⟩ := hd
              have d0 : ρ (.tmp 98) = .bool true := d0
              refine (if_pos (by rfl)).mpr ?_
              refine Og.gives_is (.bool true) ?_ (And.intro (Below.refl _ _) rfl)
              go_simp
            · refine ⟨fun v w hv => by (have hv' : v = .bool true := hv); subst hv'; exact (if_pos (by rfl)).mpr rfl, fun ρ w1 hr hd => ?_⟩
              obtain ⟨d0, _⟩ := hd
              have d0 : ρ (.tmp 10) = .pointer (some ⟨q, 0, none⟩) := d0
              refine (if_pos (by rfl)).mpr ?_
              refine Og.gives_is (.pointer (some ⟨q, 0, none⟩)) ?_ (And.intro (Below.refl _ _) rfl)
              go_simp
            · refine ⟨fun v w hv => by (have hv' : v = .bool true := hv); subst hv'; exact (if_pos (by rfl)).mpr rfl, fun ρ w1 hr hd => ?_⟩
              obtain ⟨d0, d1, _⟩ := hd
              have d0 : ρ (.func 16) = .func (.func 16) #[] #[] := d0
              have d1 : ρ (.tmp 100) = .pointer (some ⟨q, 0, none⟩) := d1
              refine (if_pos (by rfl)).mpr ?_
              refine Og.gives_call 16 #[.pointer (some ⟨q, 0, none⟩)] ?_ ?_
              · go_simp
              · refine (bytes_any q k ys w1 (HC.out.old hr)).mono fun e w' ⟨v, he, hown, hb⟩ => ?_
                obtain ⟨a5, c5, hv, hsl, _, _⟩ := sl_own hown
                exact ⟨v, he, hb, w', Below.refl _ _, a5, c5, hv, hsl⟩
            · refine ⟨fun v w hv => by (have hv' : v = .bool true := hv); subst hv'; exact (if_pos (by rfl)).mpr rfl, fun ρ w1 hr hd => ?_⟩
              obtain ⟨d0, _⟩ := hd
              have d0 : ∃ w1', Below w1'.heap.size w1' w1 ∧ (fun v w => ∃ a c, v = .slice a ys.length c ∧ Sl w a ys) (ρ (.tmp 101)) w1' := d0
              obtain ⟨w2, hb2, a5, c5, d0, hs⟩ := d0
              have cv := conv_sl w1 a5 ys.length c5 ys (hs.old hb2) rfl
              refine (if_pos (by rfl)).mpr ?_
              refine Og.gives_is (.string (strOfNums ys)) ?_ (And.intro (Below.refl _ _) rfl)
              go_simp
            · refine ⟨fun v w hv => by (have hv' : v = .bool true := hv); subst hv'; exact (if_pos (by rfl)).mpr rfl, fun ρ w1 hr hd => ?_⟩
              obtain ⟨d0, _⟩ := hd
              have d0 : ρ (.tmp 7) = .slice (some ⟨g, 0, none⟩) ys.length ys.length := d0
              refine (if_pos (by rfl)).mpr ?_
              refine Og.gives_is (.slice (some ⟨g, 0, none⟩) ys.length ys.length) ?_ (And.intro (Below.refl _ _) rfl)
              go_simp
            · refine ⟨fun v w hv => by (have hv' : v = .bool true := hv); subst hv'; exact (if_pos (by rfl)).mpr rfl, fun ρ w1 hr hd => ?_⟩
              obtain ⟨d0, _⟩ := hd
              have d0 : ρ (.tmp 103) = .slice (some ⟨g, 0, none⟩) ys.length ys.length := d0
              have cv := conv_sl w1 _ ys.length ys.length ys (Sl.of_row (HR.out.old hr)) rfl
              refine (if_pos (by rfl)).mpr ?_
              refine Og.gives_is (.string (strOfNums ys)) ?_ (And.intro (Below.refl _ _) rfl)
              go_simp
            · refine ⟨fun v w hv => by (have hv' : v = .bool true := hv); subst hv'; exact (if_pos (by rfl)).mpr rfl, fun ρ w1 hr hd => ?_⟩
              obtain ⟨d0, d1, _⟩ := hd
              have d0 : ρ (.tmp 102) = .string (strOfNums ys) := d0
              have d1 : ρ (.tmp 104) = .string (strOfNums ys) := d1
              refine (if_pos (by rfl)).mpr ?_
              refine Og.gives_is (.bool true) ?_ (And.intro (Below.refl _ _) rfl)
              go_simp
            · refine ⟨rfl, fun ρ w1 hr hd => ?_⟩
              obtain ⟨d0, d1, d2, _⟩ := hd
              have d0 : ρ (.tmp 99) = .bool true := d0
              have d1 : ρ (.tmp 105) = .bool true := d1
              have d2 : ρ (.const (.bool false)) = .bool false := d2
              refine (if_pos (by rfl)).mpr ?_
              refine Og.gives_is (.bool true) ?_ (And.intro (Below.refl _ _) rfl)
              go_simp
            · refine ⟨rfl, fun ρ w1 hr hd => ?_⟩
              obtain ⟨d0, _⟩ := hd
              have d0 : ρ (.tmp 106) = .bool true := d0
              refine (if_pos (by rfl)).mpr ?_
              refine Og.gives_is (.bool true) ?_ (And.intro (Below.refl _ _) rfl)
              go_simp
            · refine ⟨fun v w hv => by (have hv' : v = .bool true := hv); subst hv'; exact (if_pos (by rfl)).mpr rfl, fun ρ w1 hr hd => ?_⟩
              obtain ⟨d0, _⟩ := hd
              have d0 : ρ (.tmp 8) = .pointer (some ⟨p, 0, none⟩) := d0
              refine (if_pos (by rfl)).mpr ?_
              refine Og.gives_is (.pointer (some ⟨p, 0, none⟩)) ?_ (And.intro (Below.refl _ _) rfl)
              go_simp
            · refine ⟨fun v w hv => by (have hv' : v = .bool true := hv); subst hv'; exact (if_pos (by rfl)).mpr rfl, fun ρ w1 hr hd => ?_⟩
              obtain ⟨d0, d1, _⟩ := hd
              have d0 : ρ (.func 16) = .func (.func 16) #[] #[] := d0
              have d1 : ρ (.tmp 108) = .pointer (some ⟨p, 0, none⟩) := d1
              refine (if_pos (by rfl)).mpr ?_
              refine Og.gives_call 16 #[.pointer (some ⟨p, 0, none⟩)] ?_ ?_
              · go_simp
              · refine (bytes_any p h bs w1 (HI.out.old hr)).mono fun e w' ⟨v, he, hown, hb⟩ => ?_
                obtain ⟨a5, c5, hv, hsl, _, _⟩ := sl_own hown
                exact ⟨v, he, hb, w', Below.refl _ _, a5, c5, hv, hsl⟩
            · refine ⟨fun v w hv => by (have hv' : v = .bool true := hv); subst hv'; exact (if_pos (by rfl)).mpr rfl, fun ρ w1 hr hd => ?_⟩
              obtain ⟨d0, _⟩ := hd
              have d0 : ∃ w1', Below w1'.heap.size w1' w1 ∧ (fun v w => ∃ a c, v = .slice a bs.length c ∧ Sl w a bs) (ρ (.tmp 109)) w1' := d0
              obtain ⟨w2, hb2, a5, c5, d0, hs⟩ := d0
              have cv := conv_sl w1 a5 bs.length c5 bs (hs.old hb2) rfl
              refine (if_pos (by rfl)).mpr ?_
              refine Og.gives_is (.string (strOfNums bs)) ?_ (And.intro (Below.refl _ _) rfl)
              go_simp
            · refine ⟨fun v w hv => by (have hv' : v = .bool true := hv); subst hv'; exact (if_pos (by rfl)).mpr rfl, fun ρ w1 hr hd => ?_⟩
              obtain ⟨d0, _⟩ := hd
              have d0 : ρ (.tmp 14) = .string (strOfNums bs) := d0
              refine (if_pos (by rfl)).mpr ?_
              refine Og.gives_is (.string (strOfNums bs)) ?_ (And.intro (Below.refl _ _) rfl)
              go_simp
            · refine ⟨fun v w hv => by (have hv' : v = .bool true := hv); subst hv'; exact (if_pos (by rfl)).mpr rfl, fun ρ w1 hr hd => ?_⟩
              obtain ⟨d0, d1, _⟩ := hd
              have d0 : ρ (.tmp 110) = .string (strOfNums bs) := d0
              have d1 : ρ (.tmp 111) = .string (strOfNums bs) := d1
              refine (if_pos (by rfl)).mpr ?_
              refine Og.gives_is (.bool true) ?_ (And.intro (Below.refl _ _) rfl)
              go_simp
            · refine ⟨rfl, fun ρ w1 hr hd => ?_⟩
              obtain ⟨d0, d1, d2, _⟩ := hd
              have d0 : ρ (.tmp 107) = .bool true := d0
              have d1 : ρ (.tmp 112) = .bool true := d1
              have d2 : ρ (.const (.bool false)) = .bool false := d2
              refine (if_pos (by rfl)).mpr ?_
              refine Og.gives_is (.bool true) ?_ (And.intro (Below.refl _ _) rfl)
              go_simp
            · refine ⟨rfl, fun ρ w1 hr hd => ?_⟩
              obtain ⟨d0, _⟩ := hd
              have d0 : ρ (.tmp 113) = .bool true := d0
              refine (if_pos (by rfl)).mpr ?_
              refine Og.gives_is (.bool true) ?_ (And.intro (Below.refl _ _) rfl)
              go_simp
            · refine ⟨fun v w hv => by (have hv' : v = .bool true := hv); subst hv'; exact (if_pos (by rfl)).mpr rfl, fun ρ w1 hr hd => ?_⟩
              obtain ⟨d0, _⟩ := hd
              have d0 : ρ (.tmp 8) = .pointer (some ⟨p, 0, none⟩) := d0
              refine (if_pos (by rfl)).mpr ?_
              refine Og.gives_is (.pointer (some ⟨p, 0, none⟩)) ?_ (And.intro (Below.refl _ _) rfl)
              go_simp
            · refine ⟨fun v w hv => by (have hv' : v = .bool true := hv); subst hv'; exact (if_pos (by rfl)).mpr rfl, fun ρ w1 hr hd => ?_⟩
              obtain ⟨d0, _⟩ := hd
              have d0 : ρ (.tmp 10) = .pointer (some ⟨q, 0, none⟩) := d0
              refine (if_pos (by rfl)).mpr ?_
              refine Og.gives_is (.pointer (some ⟨q, 0, none⟩)) ?_ (And.intro (Below.refl _ _) rfl)
              go_simp
            · refine ⟨fun v w hv => by (have hv' : v = .bool true := hv); subst hv'; exact (if_pos (by rfl)).mpr rfl, fun ρ w1 hr hd => ?_⟩
              obtain ⟨d0, d1, d2, _⟩ := hd
              have d0 : ρ (.func 28) = .func (.func 28) #[] #[] := d0
              have d1 : ρ (.tmp 115) = .pointer (some ⟨p, 0, none⟩) := d1
              have d2 : ρ (.tmp 116) = .pointer (some ⟨q, 0, none⟩) := d2
              refine (if_pos (by rfl)).mpr ?_
              refine Og.gives_call 28 #[.pointer (some ⟨p, 0, none⟩), .pointer (some ⟨q, 0, none⟩)] ?_ ?_
              · go_simp
              · exact (same_any p h q k bs ys w1 (HI.out.old hr) (HC.out.old hr)).mono fun e w' ⟨he, hw⟩ => ⟨_, he, by subst hw; exact Below.refl _ _, congrArg Value.bool HS2.out⟩
            · refine ⟨fun v w hv => by (have hv' : v = .bool true := hv); subst hv'; exact (if_pos (by rfl)).mpr rfl, fun ρ w1 hr hd => ?_⟩
              obtain ⟨d0, _⟩ := hd
              have d0 : ρ (.tmp 14) = .string (strOfNums bs) := d0
              refine (if_pos (by rfl)).mpr ?_
              refine Og.gives_is (.string (strOfNums bs)) ?_ (And.intro (Below.refl _ _) rfl)
              go_simp
            · refine ⟨fun v w hv => by (have hv' : v = .bool true := hv); subst hv'; exact (if_pos (by rfl)).mpr rfl, fun ρ w1 hr hd => ?_⟩
              obtain ⟨d0, _⟩ := hd
              have d0 : ρ (.tmp 7) = .slice (some ⟨g, 0, none⟩) ys.length ys.length := d0
              refine (if_pos (by rfl)).mpr ?_
              refine Og.gives_is (.slice (some ⟨g, 0, none⟩) ys.length ys.length) ?_ (And.intro (Below.refl _ _) rfl)
              go_simp
            · refine ⟨fun v w hv => by (have hv' : v = .bool true := hv); subst hv'; exact (if_pos (by rfl)).mpr rfl, fun ρ w1 hr hd => ?_⟩
              obtain ⟨d0, _⟩ := hd
              have d0 : ρ (.tmp 119) = .slice (some ⟨g, 0, none⟩) ys.length ys.length := d0
              have cv := conv_sl w1 _ ys.length ys.length ys (Sl.of_row (HR.out.old hr)) rfl
              refine (if_pos (by rfl)).mpr ?_
              refine Og.gives_is (.string (strOfNums ys)) ?_ (And.intro (Below.refl _ _) rfl)
              go_simp
            · refine ⟨fun v w hv => by (have hv' : v = .bool true := hv); subst hv'; exact (if_pos (by rfl)).mpr rfl, fun ρ w1 hr hd => ?_⟩
              obtain ⟨d0, d1, _⟩ := hd
              have d0 : ρ (.tmp 118) = .string (strOfNums bs) := d0
              have d1 : ρ (.tmp 120) = .string (strOfNums ys) := d1
              refine (if_pos (by rfl)).mpr ?_
              refine Og.gives_is (.bool true) ?_ (And.intro (Below.refl _ _) rfl)
              go_simp
            · refine ⟨fun v w hv => by (have hv' : v = .bool true := hv); subst hv'; exact (if_pos (by rfl)).mpr rfl, fun ρ w1 hr hd => ?_⟩
              obtain ⟨d0, d1, _⟩ := hd
              have d0 : ρ (.tmp 117) = .bool true := d0
              have d1 : ρ (.tmp 121) = .bool true := d1
              refine (if_pos (by rfl)).mpr ?_
              refine Og.gives_is (.bool true) ?_ (And.intro (Below.refl _ _) rfl)
              go_simp
            · refine ⟨rfl, fun ρ w1 hr hd => ?_⟩
              obtain ⟨d0, d1, d2, _⟩ := hd
              have d0 : ρ (.tmp 114) = .bool true := d0
              have d1 : ρ (.tmp 122) = .bool true := d1
              have d2 : ρ (.const (.bool false)) = .bool false := d2
              refine (if_pos (by rfl)).mpr ?_
              refine Og.gives_is (.bool true) ?_ (And.intro (Below.refl _ _) rfl)
              go_simp
            · refine ⟨rfl, fun ρ w1 hr hd => ?_⟩
              obtain ⟨d0, _⟩ := hd
              have d0 : ρ (.tmp 123) = .bool true := d0
              refine (if_pos (by rfl)).mpr ?_
              refine Og.gives_is (.bool true) ?_ (And.intro (Below.refl _ _) rfl)
              go_simp
            · refine ⟨fun v w hv => by (have hv' : v = .bool true := hv); subst hv'; exact (if_pos (by rfl)).mpr rfl, fun ρ w1 hr hd => ?_⟩
              obtain ⟨d0, _⟩ := hd
              have d0 : ρ (.tmp 18) = .int .i64 1 := d0
              refine (if_pos (by rfl)).mpr ?_
              refine Og.gives_is (.int .i64 1) ?_ (And.intro (Below.refl _ _) rfl)
              go_simp
            · refine ⟨fun v w hv => by (have hv' : v = .bool true := hv); subst hv'; exact (if_pos (by rfl)).mpr rfl, fun ρ w1 hr hd => ?_⟩
              obtain ⟨d0, d1, _⟩ := hd
              have d0 : ρ (.func 14) = .func (.func 14) #[] #[] := d0
              have d1 : ρ (.tmp 125) = .int .i64 1 := d1
              refine (if_pos (by rfl)).mpr ?_
              refine Og.gives_call 14 #[.int .i64 1] ?_ ?_
              · go_simp
              · exact (num_any _ w1).mono fun e w' ⟨he, hw⟩ => ⟨_, he, by subst hw; exact Below.refl _ _, rfl⟩
            · refine ⟨fun v w hv => by (have hv' : v = .bool true := hv); subst hv'; exact (if_pos (by rfl)).mpr rfl, fun ρ w1 hr hd => ?_⟩
              obtain ⟨d0, d1, _⟩ := hd
              have d0 : ρ (.tmp 126) = .int .i64 1 := d0
              have d1 : ρ (.const (.int .i64 1)) = .int .i64 1 := d1
              refine (if_pos (by rfl)).mpr ?_
              refine Og.gives_is (.bool true) ?_ (And.intro (Below.refl _ _) rfl)
              go_simp
            · refine ⟨rfl, fun ρ w1 hr hd => ?_⟩
              obtain ⟨d0, d1, d2, _⟩ := hd
              have d0 : ρ (.tmp 124) = .bool true := d0
              have d1 : ρ (.tmp 127) = .bool true := d1
              have d2 : ρ (.const (.bool false)) = .bool false := d2
              refine (if_pos (by rfl)).mpr ?_
              refine Og.gives_is (.bool true) ?_ (And.intro (Below.refl _ _) rfl)
              go_simp
            · refine ⟨rfl, fun ρ w1 hr hd => ?_⟩
              obtain ⟨d0, _⟩ := hd
              have d0 : ρ (.tmp 128) = .bool true := d0
              refine (if_pos (by rfl)).mpr ?_
              refine Og.gives_is (.bool true) ?_ (And.intro (Below.refl _ _) rfl)
              go_simp
            · refine ⟨fun v w hv => by (have hv' : v = .bool true := hv); subst hv'; exact (if_pos (by rfl)).mpr rfl, fun ρ w1 hr hd => ?_⟩
              obtain ⟨d0, _⟩ := hd
              have d0 : ρ (.tmp 20) = .int .i64 1 := d0
              refine (if_pos (by rfl)).mpr ?_
              refine Og.gives_is (.int .i64 1) ?_ (And.intro (Below.refl _ _) rfl)
              go_simp
            · refine ⟨fun v w hv => by (have hv' : v = .bool true := hv); subst hv'; exact (if_pos (by rfl)).mpr rfl, fun ρ w1 hr hd => ?_⟩
              obtain ⟨d0, d1, _⟩ := hd
              have d0 : ρ (.func 14) = .func (.func 14) #[] #[] := d0
              have d1 : ρ (.tmp 130) = .int .i64 1 := d1
              refine (if_pos (by rfl)).mpr ?_
              refine Og.gives_call 14 #[.int .i64 1] ?_ ?_
              · go_simp
              · exact (num_any _ w1).mono fun e w' ⟨he, hw⟩ => ⟨_, he, by subst hw; exact Below.refl _ _, rfl⟩
            · refine ⟨fun v w hv => by (have hv' : v = .bool true := hv); subst hv'; exact (if_pos (by rfl)).mpr rfl, fun ρ w1 hr hd => ?_⟩
              obtain ⟨d0, d1, _⟩ := hd
              have d0 : ρ (.tmp 131) = .int .i64 1 := d0
              have d1 : ρ (.const (.int .i64 1)) = .int .i64 1 := d1
              refine (if_pos (by rfl)).mpr ?_
              refine Og.gives_is (.bool true) ?_ (And.intro (Below.refl _ _) rfl)
              go_simp
            · refine ⟨rfl, fun ρ w1 hr hd => ?_⟩
              obtain ⟨d0, d1, d2, _⟩ := hd
              have d0 : ρ (.tmp 129) = .bool true := d0
              have d1 : ρ (.tmp 132) = .bool true := d1
              have d2 : ρ (.const (.bool false)) = .bool false := d2
              refine (if_pos (by rfl)).mpr ?_
              refine Og.gives_is (.bool true) ?_ (And.intro (Below.refl _ _) rfl)
              go_simp
            · refine ⟨rfl, fun ρ w1 hr hd => ?_⟩
              obtain ⟨d0, _⟩ := hd
              have d0 : ρ (.tmp 133) = .bool true := d0
              refine (if_pos (by rfl)).mpr ?_
              refine Og.gives_is (.bool true) ?_ (And.intro (Below.refl _ _) rfl)
              go_simp
            · refine ⟨fun v w hv => by (have hv' : v = .bool true := hv); subst hv'; exact (if_pos (by rfl)).mpr rfl, fun ρ w1 hr hd => ?_⟩
              obtain ⟨d0, _⟩ := hd
              have d0 : ρ (.tmp 16) = .pointer none := d0
              refine (if_pos (by rfl)).mpr ?_
              refine Og.gives_is (.pointer none) ?_ (And.intro (Below.refl _ _) rfl)
              go_simp
            · refine ⟨fun v w hv => by (have hv' : v = .bool true := hv); subst hv'; exact (if_pos (by rfl)).mpr rfl, fun ρ w1 hr hd => ?_⟩
              obtain ⟨d0, _⟩ := hd
              have d0 : ρ (.tmp 5) = .pointer (some ⟨w.heap.size, 0, none⟩) := d0
              refine (if_pos (by rfl)).mpr ?_
              refine Og.gives_is (.pointer (some ⟨w.heap.size, 0, none⟩)) ?_ (And.intro (Below.refl _ _) rfl)
              go_simp
            · refine ⟨fun v w hv => by (have hv' : v = .bool true := hv); subst hv'; exact (if_pos (by rfl)).mpr rfl, fun ρ w1 hr hd => ?_⟩
              obtain ⟨d0, _⟩ := hd
              have d0 : ρ (.tmp 136) = .pointer (some ⟨w.heap.size, 0, none⟩) := d0
              have k0 := (HX.out.old hr).c0
              refine (if_pos (by rfl)).mpr ?_
              refine Og.gives_is (.int .u32 (addr : Int)) ?_ (And.intro (Below.refl _ _) rfl)
              go_simp
            · refine ⟨fun v w hv => by (have hv' : v = .bool true := hv); subst hv'; exact (if_pos (by rfl)).mpr rfl, fun ρ w1 hr hd => ?_⟩
              obtain ⟨d0, _⟩ := hd
              have d0 : ρ (.tmp 5) = .pointer (some ⟨w.heap.size, 0, none⟩) := d0
              refine (if_pos (by rfl)).mpr ?_
              refine Og.gives_is (.pointer (some ⟨w.heap.size, 1, none⟩)) ?_ (And.intro (Below.refl _ _) rfl)
              go_simp
            · refine ⟨fun v w hv => by (have hv' : v = .bool true := hv); subst hv'; exact (if_pos (by rfl)).mpr rfl, fun ρ w1 hr hd => ?_⟩
              obtain ⟨d0, _⟩ := hd
              have d0 : ρ (.tmp 138) = .pointer (some ⟨w.heap.size, 1, none⟩) := d0
              have k0 := (HX.out.old hr).c1
              refine (if_pos (by rfl)).mpr ?_
              refine Og.gives_is (.int .i64 a2w) ?_ (And.intro (Below.refl _ _) rfl)
              go_simp
            · refine ⟨fun v w hv => by (have hv' : v = .bool true := hv); subst hv'; exact (if_pos (by rfl)).mpr rfl, fun ρ w1 hr hd => ?_⟩
              obtain ⟨d0, _⟩ := hd
              have d0 : ρ (.tmp 5) = .pointer (some ⟨w.heap.size, 0, none⟩) := d0
              refine (if_pos (by rfl)).mpr ?_
              refine Og.gives_is (.pointer (some ⟨w.heap.size, 2, none⟩)) ?_ (And.intro (Below.refl _ _) rfl)
              go_simp
            · refine ⟨fun v w hv => by (have hv' : v = .bool true := hv); subst hv'; exact (if_pos (by rfl)).mpr rfl, fun ρ w1 hr hd => ?_⟩
              obtain ⟨d0, _⟩ := hd
              have d0 : ρ (.tmp 140) = .pointer (some ⟨w.heap.size, 2, none⟩) := d0
              have k0 := (HX.out.old hr).c2
              refine (if_pos (by rfl)).mpr ?_
              refine Og.gives_is (.int .u32 a2v) ?_ (And.intro (Below.refl _ _) rfl)
              go_simp
            · refine ⟨fun v w hv => by (have hv' : v = .bool true := hv); subst hv'; exact (if_pos (by rfl)).mpr rfl, fun ρ w1 hr hd => ?_⟩
              obtain ⟨d0, d1, d2, d3, d4, _⟩ := hd
              have d0 : ρ (.func 21) = .func (.func 21) #[] #[] := d0
              have d1 : ρ (.tmp 135) = .pointer none := d1
              have d2 : ρ (.tmp 137) = .int .u32 (addr : Int) := d2
              have d3 : ρ (.tmp 139) = .int .i64 a2w := d3
              have d4 : ρ (.tmp 141) = .int .u32 a2v := d4
              refine (if_pos (by rfl)).mpr ?_
              refine Og.gives_call 21 #[.pointer none, .int .u32 (addr : Int), .int .i64 a2w, .int .u32 a2v] ?_ ?_
              · go_simp
              · exact (write_nil addr a2w a2v w1 (by omega) HW.out).mono fun e w' ⟨he, hb⟩ => ⟨_, he, hb, rfl⟩
            · refine ⟨fun v w hv => by (have hv' : v = .bool true := hv); subst hv'; exact (if_pos (by rfl)).mpr rfl, fun ρ w1 hr hd => ?_⟩
              obtain ⟨d0, d1, _⟩ := hd
              have d0 : ρ (.func 14) = .func (.func 14) #[] #[] := d0
              have d1 : ρ (.tmp 142) = .int .i64 1 := d1
              refine (if_pos (by rfl)).mpr ?_
              refine Og.gives_call 14 #[.int .i64 1] ?_ ?_
              · go_simp
              · exact (num_any _ w1).mono fun e w' ⟨he, hw⟩ => ⟨_, he, by subst hw; exact Below.refl _ _, rfl⟩
            · refine ⟨fun v w hv => by (have hv' : v = .bool true := hv); subst hv'; exact (if_pos (by rfl)).mpr rfl, fun ρ w1 hr hd => ?_⟩
              obtain ⟨d0, d1, _⟩ := hd
              have d0 : ρ (.tmp 143) = .int .i64 1 := d0
              have d1 : ρ (.const (.int .i64 1)) = .int .i64 1 := d1
              refine (if_pos (by rfl)).mpr ?_
              refine Og.gives_is (.bool true) ?_ (And.intro (Below.refl _ _) rfl)
              go_simp
            · refine ⟨rfl, fun ρ w1 hr hd => ?_⟩
              obtain ⟨d0, d1, d2, _⟩ := hd
              have d0 : ρ (.tmp 134) = .bool true := d0
              have d1 : ρ (.tmp 144) = .bool true := d1
              have d2 : ρ (.const (.bool false)) = .bool false := d2
              refine (if_pos (by rfl)).mpr ?_
              refine Og.gives_is (.bool true) ?_ (And.intro (Below.refl _ _) rfl)
              go_simp
            · refine ⟨rfl, fun ρ w1 hr hd => ?_⟩
              obtain ⟨d0, _⟩ := hd
              have d0 : ρ (.tmp 145) = .bool true := d0
              refine (if_pos (by rfl)).mpr ?_
              refine Og.gives_is (.bool true) ?_ (And.intro (Below.refl _ _) rfl)
              go_simp
            · refine ⟨fun v w hv => by (have hv' : v = .bool true := hv); subst hv'; exact (if_pos (by rfl)).mpr rfl, fun ρ w1 hr hd => ?_⟩
              obtain ⟨d0, _⟩ := hd
              have d0 : ρ (.tmp 16) = .pointer none := d0
              refine (if_pos (by rfl)).mpr ?_
              refine Og.gives_is (.pointer none) ?_ (And.intro (Below.refl _ _) rfl)
              go_simp
            · refine ⟨fun v w hv => by (have hv' : v = .bool true := hv); subst hv'; exact (if_pos (by rfl)).mpr rfl, fun ρ w1 hr hd => ?_⟩
              clear hd
              refine (if_pos (by rfl)).mpr ?_
              refine Og.gives_is (.agg #[.int .u8 0, .int .u8 0, .int .u8 0, .int .u8 0, .int .u8 0, .int .u8 0, .int .u8 0, .int .u8 0, .int .u8 0, .int .u8 0, .int .u8 0, .int .u8 0, .int .u8 0, .int .u8 0, .int .u8 0, .int .u8 0]) ?_ (And.intro (Below.refl _ _) rfl)
              go_simp
            · refine ⟨fun v w hv => by (have hv' : v = .bool true := hv); subst hv'; exact (if_pos (by rfl)).mpr rfl, fun ρ w1 hr hd => ?_⟩
              obtain ⟨d0, d1, d2, d3, _⟩ := hd
              have d0 : ρ (.func 25) = .func (.func 25) #[] #[] := d0
              have d1 : ρ (.tmp 147) = .pointer none := d1
              have d2 : ρ (.const (.int .u32 0)) = .int .u32 0 := d2
              have d3 : ρ (.tmp 148) = .agg #[.int .u8 0, .int .u8 0, .int .u8 0, .int .u8 0, .int .u8 0, .int .u8 0, .int .u8 0, .int .u8 0, .int .u8 0, .int .u8 0, .int .u8 0, .int .u8 0, .int .u8 0, .int .u8 0, .int .u8 0, .int .u8 0] := d3
              refine (if_pos (by rfl)).mpr ?_
              refine Og.gives_call 25 #[.pointer none, .int .u32 0, .agg #[.int .u8 0, .int .u8 0, .int .u8 0, .int .u8 0, .int .u8 0, .int .u8 0, .int .u8 0, .int .u8 0, .int .u8 0, .int .u8 0, .int .u8 0, .int .u8 0, .int .u8 0, .int .u8 0, .int .u8 0, .int .u8 0]] ?_ ?_
              · go_simp
              · exact (setline_nil zs16 0 w1 (by omega)).mono fun e w' ⟨he, hb⟩ => ⟨_, he, hb, rfl⟩
            · refine ⟨fun v w hv => by (have hv' : v = .bool true := hv); subst hv'; exact (if_pos (by rfl)).mpr rfl, fun ρ w1 hr hd => ?_⟩
              obtain ⟨d0, d1, _⟩ := hd
              have d0 : ρ (.func 14) = .func (.func 14) #[] #[] := d0
              have d1 : ρ (.tmp 149) = .int .i64 1 := d1
              refine (if_pos (by rfl)).mpr ?_
              refine Og.gives_call 14 #[.int .i64 1] ?_ ?_
              · go_simp
              · exact (num_any _ w1).mono fun e w' ⟨he, hw⟩ => ⟨_, he, by subst hw; exact Below.refl _ _, rfl⟩
            · refine ⟨fun v w hv => by (have hv' : v = .bool true := hv); subst hv'; exact (if_pos (by rfl)).mpr rfl, fun ρ w1 hr hd => ?_⟩
              obtain ⟨d0, d1, _⟩ := hd
              have d0 : ρ (.tmp 150) = .int .i64 1 := d0
              have d1 : ρ (.const (.int .i64 1)) = .int .i64 1 := d1
              refine (if_pos (by rfl)).mpr ?_
              refine Og.gives_is (.bool true) ?_ (And.intro (Below.refl _ _) rfl)
              go_simp
            · refine ⟨rfl, fun ρ w1 hr hd => ?_⟩
              obtain ⟨d0, d1, d2, _⟩ := hd
              have d0 : ρ (.tmp 146) = .bool true := d0
              have d1 : ρ (.tmp 151) = .bool true := d1
              have d2 : ρ (.const (.bool false)) = .bool false := d2
              refine (if_pos (by rfl)).mpr ?_
              refine Og.gives_is (.bool true) ?_ (And.intro (Below.refl _ _) rfl)
              go_simp
            · refine ⟨rfl, fun ρ w1 hr hd => ?_⟩
              obtain ⟨d0, _⟩ := hd
              have d0 : ρ (.tmp 152) = .bool true := d0
              refine (if_pos (by rfl)).mpr ?_
              refine Og.gives_is (.bool true) ?_ (And.intro (Below.refl _ _) rfl)
              go_simp
            · refine ⟨fun v w hv => by (have hv' : v = .bool true := hv); subst hv'; exact (if_pos (by rfl)).mpr rfl, fun ρ w1 hr hd => ?_⟩
              obtain ⟨d0, _⟩ := hd
              have d0 : ρ (.tmp 16) = .pointer none := d0
              refine (if_pos (by rfl)).mpr ?_
              refine Og.gives_is (.pointer none) ?_ (And.intro (Below.refl _ _) rfl)
              go_simp
            · refine ⟨fun v w hv => by (have hv' : v = .bool true := hv); subst hv'; exact (if_pos (by rfl)).mpr rfl, fun ρ w1 hr hd => ?_⟩
              obtain ⟨d0, d1, _⟩ := hd
              have d0 : ρ (.func 17) = .func (.func 17) #[] #[] := d0
              have d1 : ρ (.tmp 154) = .pointer none := d1
              refine (if_pos (by rfl)).mpr ?_
              refine Og.gives_call 17 #[.pointer none] ?_ ?_
              · go_simp
              · exact (size_nil w1).mono fun e w' ⟨he, hw⟩ => ⟨_, he, by subst hw; exact Below.refl _ _, rfl⟩
            · refine ⟨fun v w hv => by (have hv' : v = .bool true := hv); subst hv'; exact (if_pos (by rfl)).mpr rfl, fun ρ w1 hr hd => ?_⟩
              obtain ⟨d0, d1, _⟩ := hd
              have d0 : ρ (.tmp 155) = .int .i64 0 := d0
              have d1 : ρ (.const (.int .i64 0)) = .int .i64 0 := d1
              refine (if_pos (by rfl)).mpr ?_
              refine Og.gives_is (.bool true) ?_ (And.intro (Below.refl _ _) rfl)
              go_simp
            · refine ⟨rfl, fun ρ w1 hr hd => ?_⟩
              obtain ⟨d0, d1, d2, _⟩ := hd
              have d0 : ρ (.tmp 153) = .bool true := d0
              have d1 : ρ (.tmp 156) = .bool true := d1
              have d2 : ρ (.const (.bool false)) = .bool false := d2
              refine (if_pos (by rfl)).mpr ?_
              refine Og.gives_is (.bool true) ?_ (And.intro (Below.refl _ _) rfl)
              go_simp
            · refine ⟨rfl, fun ρ w1 hr hd => ?_⟩
              obtain ⟨d0, _⟩ := hd
              have d0 : ρ (.tmp 157) = .bool true := d0
              refine (if_pos (by rfl)).mpr ?_
              refine Og.gives_is (.bool true) ?_ (And.intro (Below.refl _ _) rfl)
              go_simp
            · refine ⟨fun v w hv => by (have hv' : v = .bool true := hv); subst hv'; exact (if_pos (by rfl)).mpr rfl, fun ρ w1 hr hd => ?_⟩
              obtain ⟨d0, _⟩ := hd
              have d0 : ρ (.tmp 16) = .pointer none := d0
              refine (if_pos (by rfl)).mpr ?_
              refine Og.gives_is (.pointer none) ?_ (And.intro (Below.refl _ _) rfl)
              go_simp
            · refine ⟨fun v w hv => by (have hv' : v = .bool true := hv); subst hv'; exact (if_pos (by rfl)).mpr rfl, fun ρ w1 hr hd => ?_⟩
              obtain ⟨d0, d1, _⟩ := hd
              have d0 : ρ (.func 16) = .func (.func 16) #[] #[] := d0
              have d1 : ρ (.tmp 159) = .pointer none := d1
              refine (if_pos (by rfl)).mpr ?_
              refine Og.gives_call 16 #[.pointer none] ?_ ?_
              · go_simp
              · exact (bytes_nil w1).mono fun e w' ⟨he, hw⟩ => ⟨_, he, by subst hw; exact Below.refl _ _, rfl⟩
            · refine ⟨fun v w hv => by (have hv' : v = .bool true := hv); subst hv'; exact (if_pos (by rfl)).mpr rfl, fun ρ w1 hr hd => ?_⟩
              obtain ⟨d0, _⟩ := hd
              have d0 : ρ (.tmp 160) = .slice none 0 0 := d0
              refine (if_pos (by rfl)).mpr ?_
              refine Og.gives_is (.int .i64 0) ?_ (And.intro (Below.refl _ _) rfl)
              go_simp
            · refine ⟨fun v w hv => by (have hv' : v = .bool true := hv); subst hv'; exact (if_pos (by rfl)).mpr rfl, fun ρ w1 hr hd => ?_⟩
              obtain ⟨d0, d1, _⟩ := hd
              have d0 : ρ (.tmp 161) = .int .i64 0 := d0
              have d1 : ρ (.const (.int .i64 0)) = .int .i64 0 := d1
              refine (if_pos (by rfl)).mpr ?_
              refine Og.gives_is (.bool true) ?_ (And.intro (Below.refl _ _) rfl)
              go_simp
            · refine ⟨rfl, fun ρ w1 hr hd => ?_⟩
              obtain ⟨d0, d1, d2, _⟩ := hd
              have d0 : ρ (.tmp 158) = .bool true := d0
              have d1 : ρ (.tmp 162) = .bool true := d1
              have d2 : ρ (.const (.bool false)) = .bool false := d2
              refine (if_pos (by rfl)).mpr ?_
              refine Og.gives_is (.bool true) ?_ (And.intro (Below.refl _ _) rfl)
              go_simp
            · refine ⟨rfl, fun ρ w1 hr hd => ?_⟩
              obtain ⟨d0, _⟩ := hd
              have d0 : ρ (.tmp 163) = .bool true := d0
              refine (if_pos (by rfl)).mpr ?_
              refine Og.gives_is (.bool true) ?_ (And.intro (Below.refl _ _) rfl)
              go_simp
            · refine ⟨fun v w hv => by (have hv' : v = .bool true := hv); subst hv'; exact (if_pos (by rfl)).mpr rfl, fun ρ w1 hr hd => ?_⟩
              obtain ⟨d0, _⟩ := hd
              have d0 : ρ (.tmp 16) = .pointer none := d0
              refine (if_pos (by rfl)).mpr ?_
              refine Og.gives_is (.pointer none) ?_ (And.intro (Below.refl _ _) rfl)
              go_simp
            · refine ⟨fun v w hv => by (have hv' : v = .bool true := hv); subst hv'; exact (if_pos (by rfl)).mpr rfl, fun ρ w1 hr hd => ?_⟩
              obtain ⟨d0, d1, _⟩ := hd
              have d0 : ρ (.func 27) = .func (.func 27) #[] #[] := d0
              have d1 : ρ (.tmp 165) = .pointer none := d1
              refine (if_pos (by rfl)).mpr ?_
              refine Og.gives_call 27 #[.pointer none] ?_ ?_
              · go_simp
              · exact (copy_nil w1).mono fun e w' ⟨he, hb⟩ => ⟨_, he, hb, rfl⟩
            · refine ⟨fun v w hv => by (have hv' : v = .bool true := hv); subst hv'; exact (if_pos (by rfl)).mpr rfl, fun ρ w1 hr hd => ?_⟩
              obtain ⟨d0, d1, _⟩ := hd
              have d0 : ρ (.tmp 166) = .pointer none := d0
              have d1 : ρ (.const (.pointer none)) = .pointer none := d1
              refine (if_pos (by rfl)).mpr ?_
              refine Og.gives_is (.bool true) ?_ (And.intro (Below.refl _ _) rfl)
              go_simp
            · refine ⟨rfl, fun ρ w1 hr hd => ?_⟩
              obtain ⟨d0, d1, d2, _⟩ := hd
              have d0 : ρ (.tmp 164) = .bool true := d0
              have d1 : ρ (.tmp 167) = .bool true := d1
              have d2 : ρ (.const (.bool false)) = .bool false := d2
              refine (if_pos (by rfl)).mpr ?_
              refine Og.gives_is (.bool true) ?_ (And.intro (Below.refl _ _) rfl)
              go_simp
            · refine ⟨rfl, fun ρ w1 hr hd => ?_⟩
              obtain ⟨d0, _⟩ := hd
              have d0 : ρ (.tmp 168) = .bool true := d0
              refine (if_pos (by rfl)).mpr ?_
              refine Og.gives_is (.bool true) ?_ (And.intro (Below.refl _ _) rfl)
              go_simp
            · refine ⟨fun v w hv => by (have hv' : v = .bool true := hv); subst hv'; exact (if_pos (by rfl)).mpr rfl, fun ρ w1 hr hd => ?_⟩
              obtain ⟨d0, _⟩ := hd
              have d0 : ρ (.tmp 16) = .pointer none := d0
              refine (if_pos (by rfl)).mpr ?_
              refine Og.gives_is (.pointer none) ?_ (And.intro (Below.refl _ _) rfl)
              go_simp
            · refine ⟨fun v w hv => by (have hv' : v = .bool true := hv); subst hv'; exact (if_pos (by rfl)).mpr rfl, fun ρ w1 hr hd => ?_⟩
              obtain ⟨d0, d1, d2, _⟩ := hd
              have d0 : ρ (.func 28) = .func (.func 28) #[] #[] := d0
              have d1 : ρ (.tmp 170) = .pointer none := d1
              have d2 : ρ (.const (.pointer none)) = .pointer none := d2
              refine (if_pos (by rfl)).mpr ?_
              refine Og.gives_call 28 #[.pointer none, .pointer none] ?_ ?_
              · go_simp
              · exact (same_nil_both w1).mono fun e w' ⟨he, hw⟩ => ⟨_, he, by subst hw; exact Below.refl _ _, rfl⟩
            · refine ⟨rfl, fun ρ w1 hr hd => ?_⟩
              obtain ⟨d0, d1, d2, _⟩ := hd
              have d0 : ρ (.tmp 169) = .bool true := d0
              have d1 : ρ (.tmp 171) = .bool true := d1
              have d2 : ρ (.const (.bool false)) = .bool false := d2
              refine (if_pos (by rfl)).mpr ?_
              refine Og.gives_is (.bool true) ?_ (And.intro (Below.refl _ _) rfl)
              go_simp
            · refine ⟨rfl, fun ρ w1 hr hd => ?_⟩
              obtain ⟨d0, _⟩ := hd
              have d0 : ρ (.tmp 172) = .bool true := d0
              refine (if_pos (by rfl)).mpr ?_
              refine Og.gives_is (.bool true) ?_ (And.intro (Below.refl _ _) rfl)
              go_simp
            · refine ⟨fun v w hv => by (have hv' : v = .bool true := hv); subst hv'; exact (if_pos (by rfl)).mpr rfl, fun ρ w1 hr hd => ?_⟩
              obtain ⟨d0, _⟩ := hd
              have d0 : ρ (.tmp 16) = .pointer none := d0
              refine (if_pos (by rfl)).mpr ?_
              refine Og.gives_is (.pointer none) ?_ (And.intro (Below.refl _ _) rfl)
              go_simp
            · refine ⟨fun v w hv => by (have hv' : v = .bool true := hv); subst hv'; exact (if_pos (by rfl)).mpr rfl, fun ρ w1 hr hd => ?_⟩
              obtain ⟨d0, _⟩ := hd
              have d0 : ρ (.tmp 21) = .pointer (some ⟨p2, 0, none⟩) := d0
              refine (if_pos (by rfl)).mpr ?_
              refine Og.gives_is (.pointer (some ⟨p2, 0, none⟩)) ?_ (And.intro (Below.refl _ _) rfl)
              go_simp
            · refine ⟨fun v w hv => by (have hv' : v = .bool true := hv); subst hv'; exact (if_pos (by rfl)).mpr rfl, fun ρ w1 hr hd => ?_⟩
              obtain ⟨d0, d1, d2, _⟩ := hd
              have d0 : ρ (.func 28) = .func (.func 28) #[] #[] := d0
              have d1 : ρ (.tmp 174) = .pointer none := d1
              have d2 : ρ (.tmp 175) = .pointer (some ⟨p2, 0, none⟩) := d2
              refine (if_pos (by rfl)).mpr ?_
              refine Og.gives_call 28 #[.pointer none, .pointer (some ⟨p2, 0, none⟩)] ?_ ?_
              · go_simp
              · exact (same_nil_left p2 g2 zs16 w1 (HO.out.old hr)).mono fun e w' ⟨he, hw⟩ => ⟨_, he, by subst hw; exact Below.refl _ _, rfl⟩
            · refine ⟨fun v w hv => by (have hv' : v = .bool true := hv); subst hv'; exact (if_pos (by rfl)).mpr rfl, fun ρ w1 hr hd => ?_⟩
              obtain ⟨d0, _⟩ := hd
              have d0 : ρ (.tmp 176) = .bool false := d0
              refine (if_pos (by rfl)).mpr ?_
              refine Og.gives_is (.bool true) ?_ (And.intro (Below.refl _ _) rfl)
              go_simp
            · refine ⟨rfl, fun ρ w1 hr hd => ?_⟩
              obtain ⟨d0, d1, d2, _⟩ := hd
              have d0 : ρ (.tmp 173) = .bool true := d0
              have d1 : ρ (.tmp 177) = .bool true := d1
              have d2 : ρ (.const (.bool false)) = .bool false := d2
              refine (if_pos (by rfl)).mpr ?_
              refine Og.gives_is (.bool true) ?_ (And.intro (Below.refl _ _) rfl)
              go_simp
            · refine ⟨rfl, fun ρ w1 hr hd => ?_⟩
              obtain ⟨d0, _⟩ := hd
              have d0 : ρ (.tmp 178) = .bool true := d0
              refine (if_pos (by rfl)).mpr ?_
              refine Og.gives_is (.bool true) ?_ (And.intro (Below.refl _ _) rfl)
              go_simp
            · refine ⟨fun v w hv => by (have hv' : v = .bool true := hv); subst hv'; exact (if_pos (by rfl)).mpr rfl, fun ρ w1 hr hd => ?_⟩
              obtain ⟨d0, _⟩ := hd
              have d0 : ρ (.tmp 21) = .pointer (some ⟨p2, 0, none⟩) := d0
              refine (if_pos (by rfl)).mpr ?_
              refine Og.gives_is (.pointer (some ⟨p2, 0, none⟩)) ?_ (And.intro (Below.refl _ _) rfl)
              go_simp
            · refine ⟨fun v w hv => by (have hv' : v = .bool true := hv); subst hv'; exact (if_pos (by rfl)).mpr rfl, fun ρ w1 hr hd => ?_⟩
              obtain ⟨d0, _⟩ := hd
              have d0 : ρ (.tmp 16) = .pointer none := d0
              refine (if_pos (by rfl)).mpr ?_
              refine Og.gives_is (.pointer none) ?_ (And.intro (Below.refl _ _) rfl)
              go_simp
            · refine ⟨fun v w hv => by (have hv' : v = .bool true := hv); subst hv'; exact (if_pos (by rfl)).mpr rfl, fun ρ w1 hr hd => ?_⟩
              obtain ⟨d0, d1, d2, _⟩ := hd
              have d0 : ρ (.func 28) = .func (.func 28) #[] #[] := d0
              have d1 : ρ (.tmp 180) = .pointer (some ⟨p2, 0, none⟩) := d1
              have d2 : ρ (.tmp 181) = .pointer none := d2
              refine (if_pos (by rfl)).mpr ?_
              refine Og.gives_call 28 #[.pointer (some ⟨p2, 0, none⟩), .pointer none] ?_ ?_
              · go_simp
              · exact (same_nil_right p2 g2 zs16 w1 (HO.out.old hr)).mono fun e w' ⟨he, hw⟩ => ⟨_, he, by subst hw; exact Below.refl _ _, rfl⟩
            · refine ⟨fun v w hv => by (have hv' : v = .bool true := hv); subst hv'; exact (if_pos (by rfl)).mpr rfl, fun ρ w1 hr hd => ?_⟩
              obtain ⟨d0, _⟩ := hd
              have d0 : ρ (.tmp 182) = .bool false := d0
              refine (if_pos (by rfl)).mpr ?_
              refine Og.gives_is (.bool true) ?_ (And.intro (Below.refl _ _) rfl)
              go_simp
            · refine ⟨rfl, fun ρ w1 hr hd => ?_⟩
              obtain ⟨d0, d1, d2, _⟩ := hd
              have d0 : ρ (.tmp 179) = .bool true := d0
              have d1 : ρ (.tmp 183) = .bool true := d1
              have d2 : ρ (.const (.bool false)) = .bool false := d2
              refine (if_pos (by rfl)).mpr ?_
              refine Og.gives_is (.bool true) ?_ (And.intro (Below.refl _ _) rfl)
              go_simp
            · refine ⟨rfl, fun ρ w1 hr hd => ?_⟩
              obtain ⟨d0, _⟩ := hd
              have d0 : ρ (.tmp 184) = .bool true := d0
              refine (if_pos (by rfl)).mpr ?_
              refine Og.gives_is (.bool true) ?_ (And.intro (Below.refl _ _) rfl)
              go_simp
            · refine ⟨fun v w hv => by (have hv' : v = .bool true := hv); subst hv'; exact (if_pos (by rfl)).mpr rfl, fun ρ w1 hr hd => ?_⟩
              obtain ⟨d0, _⟩ := hd
              have d0 : ρ (.func 11) = .func (.func 11) #[] #[] := d0
              refine (if_pos (by rfl)).mpr ?_
              refine Og.gives_call 11 #[] ?_ ?_
              · go_simp
              · exact (works_any w1).mono fun e w' ⟨he, hb⟩ => ⟨_, he, hb, rfl⟩
            · refine ⟨rfl, fun ρ w1 hr hd => ?_⟩
              obtain ⟨d0, d1, d2, _⟩ := hd
              have d0 : ρ (.tmp 185) = .bool true := d0
              have d1 : ρ (.tmp 186) = .bool true := d1
              have d2 : ρ (.const (.bool false)) = .bool false := d2
              refine (if_pos (by rfl)).mpr ?_
              refine Og.gives_is (.bool true) ?_ (And.intro (Below.refl _ _) rfl)
              go_simp
            · refine ⟨rfl, fun ρ w1 hr hd => ?_⟩
              obtain ⟨d0, _⟩ := hd
              have d0 : ρ (.tmp 187) = .bool true := d0
              refine (if_pos (by rfl)).mpr ?_
              refine Og.gives_is (.bool true) ?_ (And.intro (Below.refl _ _) rfl)
              go_simp
          · intro a w1 hbz hdf hsz hall
            have hres : a.tmps.getD 6 undef = .bool true := hall 101 _ 6 rfl rfl
            go_wp2
            refine bodyPost_ret (v := .bool true) (by rw [results_tmp rfl]; rw [hres]) hdf ⟨rfl, below_tr HT.out hbz⟩
    · have HS2 := Lib.hid s2
      clear s2
      go_wp2_with fail
      go_loopw [15] (fun i wr => ∃ (j : Nat) (xs' : List Int), i = .int .i64 j ∧ j ≤ m ∧ xs'.length = m ∧ Im.Byt xs' ∧ wr.ownsRow wd.heap.size 5 1 (.slice (some ⟨gx, 0, none⟩) m cap) m (Im.vals xs') ∧ Below wd.heap.size wd wr) (fun i wr => m - (intOf i).toNat)
      case atStart => exact ⟨0, bs, rfl, Nat.zero_le _, HM.out.symm, HID.out.byt, (by rw [HM.out]; exact HOWN.out), HBE.out⟩
      case round =>
        obtain ⟨j, zs, rfl, hj, hzl, hzb, hown, hbel⟩ := hrel
        have HZL := Lib.hid hzl; have HZB := Lib.hid hzb; have HOW := Lib.hid hown; have HBEL := Lib.hid hbel; clear hzl hzb hown hbel
        clear hconv
        by_cases hlt : j < m
        · have hc := own_cell HOW.out hlt
          have hf := own_frozen HOW.out j
          have hz := Im.getD_byt HZB.out j
          obtain ⟨z, ez⟩ : ∃ z, z = zs.getD j 0 := ⟨_, rfl⟩
          rw [← ez] at hc hz
          clear ez
          go_wp2
          go_roundw
          case rel => exact ⟨j + 1, zs.set j ((z + 1) % 256), by go_num, by omega, by rw [List.length_set]; exact HZL.out, Im.byt_set HZB.out j (by omega), own_set HOW.out j _ hlt, HBEL.out.setCell HGX.out _⟩
          case measure => simp [intOf]; omega
        · have HI := Lib.hid (HID.out.old HBEL.out); have HC := Lib.hid (HCD.out.old HBEL.out); have HR := Lib.hid (HRD.out.old HBEL.out); have HX := Lib.hid (HXD.out.old HBEL.out)
          have HT := Lib.hid (below_tr HTD.out HBEL.out)
          clear HZL HZB HOW HBEL
          have k0 := HX.out.c0; have k1 := HX.out.c1; have k2 := HX.out.c2
          go_wp2_with fail
          refine (read_nil addr a2w _ (by omega) HW.out).mono ?_
          clear k0 k1 k2
          rintro e wg ⟨rfl, hb⟩
          have HB := Lib.hid hb; clear hb
          have HT := Lib.hid (below_tr HT.out HB.out)
          have HI := Lib.hid (HI.out.old HB.out)
          have HC := Lib.hid (HC.out.old HB.out)
          have HR := Lib.hid (HR.out.old HB.out)
          have HX := Lib.hid (HX.out.old HB.out)
          go_wp2_with fail
          refine (line_nil 0 _ (by omega)).mono ?_
          rintro e wh ⟨rfl, hb⟩
          have HB := Lib.hid hb; clear hb
          have HT := Lib.hid (below_tr HT.out HB.out)
          have HI := Lib.hid (HI.out.old HB.out)
          have HC := Lib.hid (HC.out.old HB.out)
          have HR := Lib.hid (HR.out.old HB.out)
          have HX := Lib.hid (HX.out.old HB.out)
          go_wp2_with (first | (refine wpList_store_arr rfl _ _ rfl wh.heap.size zs16 zs16 rfl rfl rfl rfl (arr_new wh) ?_; intro wi hai hgi; have HB := Lib.hid (below_new hgi); clear hai hgi))
          have HT := Lib.hid (below_tr HT.out HB.out)
          have HI := Lib.hid (HI.out.old HB.out)
          have HC := Lib.hid (HC.out.old HB.out)
          have HR := Lib.hid (HR.out.old HB.out)
          have HX := Lib.hid (HX.out.old HB.out)
          refine (new_yes 16 (by decide) _).mono ?_
          rintro e wj ⟨p2, g2, rfl, hi2, _, _, hb⟩
          have HO := Lib.hid (show Img wj p2 g2 zs16 from hi2); have HB := Lib.hid hb; clear hi2 hb
          have HT := Lib.hid (below_tr HT.out HB.out)
          have HI := Lib.hid (HI.out.old HB.out)
          have HC := Lib.hid (HC.out.old HB.out)
          have HR := Lib.hid (HR.out.old HB.out)
          have HX := Lib.hid (HX.out.old HB.out)
          go_wp2_with fail
          refine Og.region2 (by kernel_rfl) (fun t => if t = 6 then some 101 else if 87 ≤ t ∧ t ≤ 187 then some (t - 87) else none) [.is (.bool true), .is (.bool true), .is (.int .i64 code), .is (.int .i64 code), .is (.bool true), .is (.bool true), .is (undef), .is (undef), .is (undef), .is (undef), .is (.bool true), .is (.bool true), .is (.bool true), .is (.pointer (some ⟨q, 0, none⟩)), .says (fun v w => ∃ a c, v = .slice a ys.length c ∧ Sl w a ys), .is (.string (strOfNums ys)), .is (.slice (some ⟨g, 0, none⟩) ys.length ys.length), .is (.string (strOfNums ys)), .is (.bool true), .is (.bool true), .is (.bool true), .is (.pointer (some ⟨p, 0, none⟩)), .says (fun v w => ∃ a c, v = .slice a bs.length c ∧ Sl w a bs), .is (.string (strOfNums bs)), .is (.string (strOfNums bs)), .is (.bool true), .is (.bool true), .is (.bool true), .is (.pointer (some ⟨p, 0, none⟩)), .is (.pointer (some ⟨q, 0, none⟩)), .is (.bool false), .is (.string (strOfNums bs)), .is (.slice (some ⟨g, 0, none⟩) ys.length ys.length), .is (.string (strOfNums ys)), .is (.bool false), .is (.bool true), .is (.bool true), .is (.bool true), .is (.int .i64 1), .is (.int .i64 1), .is (.bool true), .is (.bool true), .is (.bool true), .is (.int .i64 1), .is (.int .i64 1), .is (.bool true), .is (.bool true), .is (.bool true), .is (.pointer none), .is (.pointer (some ⟨w.heap.size, 0, none⟩)), .is (.int .u32 (addr : Int)), .is (.pointer (some ⟨w.heap.size, 1, none⟩)), .is (.int .i64 a2w), .is (.pointer (some ⟨w.heap.size, 2, none⟩)), .is (.int .u32 a2v), .is (.int .i64 1), .is (.int .i64 1), .is (.bool true), .is (.bool true), .is (.bool true), .is (.pointer none), .is (.agg #[.int .u8 0, .int .u8 0, .int .u8 0, .int .u8 0, .int .u8 0, .int .u8 0, .int .u8 0, .int .u8 0, .int .u8 0, .int .u8 0, .int .u8 0, .int .u8 0, .int .u8 0, .int .u8 0, .int .u8 0, .int .u8 0]), .is (.int .i64 1), .is (.int .i64 1), .is (.bool true), .is (.bool true), .is (.bool true), .is (.pointer none), .is (.int .i64 0), .is (.bool true), .is (.bool true), .is (.bool true), .is (.pointer none), .is (.slice none 0 0), .is (.int .i64 0), .is (.bool true), .is (.bool true), .is (.bool true), .is (.pointer none), .is (.pointer none), .is (.bool true), .is (.bool true), .is (.bool true), .is (.pointer none), .is (.bool true), .is (.bool true), .is (.bool true), .is (.pointer none), .is (.pointer (some ⟨p2, 0, none⟩)), .is (.bool false), .is (.bool true), .is (.bool true), .is (.bool true), .is (.pointer (some ⟨p2, 0, none⟩)), .is (.pointer none), .is (.bool false), .is (.bool true), .is (.bool true), .is (.bool true), .is (.bool true), .is (.bool true), .is (.bool true)] [true, true, true, true, true, true, false, false, false, false, true, true, true, true, true, true, true, true, true, true, true, true, true, true, true, true, true, true, true, true, true, true, true, true, true, true, true, true, true, true, true, true, true, true, true, true, true, true, true, true, true, true, true, true, true, true, true, true, true, true, true, true, true, true, true, true, true, true, true, true, true, true, true, true, true, true, true, true, true, true, true, true, true, true, true, true, true, true, true, true, true, true, true, true, true, true, true, true, true, true, true, true] (by kernel_rfl) ?_ ?_
          · refine ⟨?_, ?_, ?_, ?_, ?_, ?_, ?_, ?_, ?_, ?_, ?_, ?_, ?_, ?_, ?_, ?_, ?_, ?_, ?_, ?_, ?_, ?_, ?_, ?_, ?_, ?_, ?_, ?_, ?_, ?_, ?_, ?_, ?_, ?_, ?_, ?_, ?_, ?_, ?_, ?_, ?_, ?_, ?_, ?_, ?_, ?_, ?_, ?_, ?_, ?_, ?_, ?_, ?_, ?_, ?_, ?_, ?_, ?_, ?_, ?_, ?_, ?_, ?_, ?_, ?_, ?_, ?_, ?_, ?_, ?_, ?_, ?_, ?_, ?_, ?_, ?_, ?_, ?_, ?_, ?_, ?_, ?_, ?_, ?_, ?_, ?_, ?_, ?_, ?_, ?_, ?_, ?_, ?_, ?_, ?_, ?_, ?_, ?_, ?_, ?_, ?_, ?_, trivial⟩
            · refine ⟨rfl, fun ρ w1 hr hd => ?_⟩
              obtain ⟨d0, _⟩ := hd
              have d0 : ρ (.tmp 11) = .bool true := d0
              refine (if_pos (by rfl)).mpr ?_
              refine Og.gives_is (.bool true) ?_ (And.intro (Below.refl _ _) rfl)
              go_simp
            · refine ⟨rfl, fun ρ w1 hr hd => ?_⟩
              obtain ⟨d0, _⟩ := hd
              have d0 : ρ (.tmp 87) = .bool true := d0
              refine (if_pos (by rfl)).mpr ?_
              refine Og.gives_is (.bool true) ?_ (And.intro (Below.refl _ _) rfl)
              go_simp
            · refine ⟨fun v w hv => by (have hv' : v = .bool true := hv); subst hv'; exact (if_pos (by rfl)).mpr rfl, fun ρ w1 hr hd => ?_⟩
              obtain ⟨d0, _⟩ := hd
              have d0 : ρ (.tmp 12) = .int .i64 code := d0
              refine (if_pos (by rfl)).mpr ?_
              refine Og.gives_is (.int .i64 code) ?_ (And.intro (Below.refl _ _) rfl)
              go_simp
            · refine ⟨fun v w hv => by (have hv' : v = .bool true := hv); subst hv'; exact (if_pos (by rfl)).mpr rfl, fun ρ w1 hr hd => ?_⟩
              obtain ⟨d0, d1, _⟩ := hd
              have d0 : ρ (.func 14) = .func (.func 14) #[] #[] := d0
              have d1 : ρ (.tmp 89) = .int .i64 code := d1
              refine (if_pos (by rfl)).mpr ?_
              refine Og.gives_call 14 #[.int .i64 code] ?_ ?_
              · go_simp
              · exact (num_any _ w1).mono fun e w' ⟨he, hw⟩ => ⟨_, he, by subst hw; exact Below.refl _ _, rfl⟩
            · refine ⟨fun v w hv => by (have hv' : v = .bool true := hv); subst hv'; exact (if_pos (by rfl)).mpr rfl, fun ρ w1 hr hd => ?_⟩
              obtain ⟨d0, d1, _⟩ := hd
              have d0 : ρ (.tmp 90) = .int .i64 code := d0
              have d1 : ρ (.const (.int .i64 0)) = .int .i64 0 := d1
              refine (if_pos (by rfl)).mpr ?_
              refine Og.gives_is (.bool true) ?_ (And.intro (Below.refl _ _) rfl)
              go_simp
            · refine ⟨fun v w hv => by (have hv' : v = .bool true := hv); subst hv'; exact (if_pos (by rfl)).mpr rfl, fun ρ w1 hr hd => ?_⟩
              obtain ⟨d0, _⟩ := hd
              have d0 : ρ (.tmp 91) = .bool true := d0
              refine (if_pos (by rfl)).mpr ?_
              refine Og.gives_is (.bool true) ?_ (And.intro (Below.refl _ _) rfl)
              go_simp
            · refine ⟨fun v w hv => by (have hv' : v = .bool true := hv); subst hv'; exact (if_neg (by exact Bool.false_ne_true)).mpr (fun h => by cases h), fun ρ w1 hr hd => ?_⟩
              exact (if_neg (by exact Bool.false_ne_true)).mpr (rfl : undef = undef)
            · refine ⟨fun v w hv => by (have hv' : v = .bool true := hv); subst hv'; exact (if_neg (by exact Bool.false_ne_true)).mpr (fun h => by cases h), fun ρ w1 hr hd => ?_⟩
              exact (if_neg (by exact Bool.false_ne_true)).mpr (rfl : undef = undef)
            · refine ⟨fun v w hv => by (have hv' : v = .bool true := hv); subst hv'; exact (if_neg (by exact Bool.false_ne_true)).mpr (fun h => by cases h), fun ρ w1 hr hd => ?_⟩
              exact (if_neg (by exact Bool.false_ne_true)).mpr (rfl : undef = undef)
            · refine ⟨fun v w hv => by (have hv' : v = .bool true := hv); subst hv'; exact (if_neg (by exact Bool.false_ne_true)).mpr (fun h => by cases h), fun ρ w1 hr hd => ?_⟩
              exact (if_neg (by exact Bool.false_ne_true)).mpr (rfl : undef = undef)
            · refine ⟨fun v w hv => by (have hv' : v = .bool true := hv); subst hv'; exact (if_pos (by rfl)).mpr rfl, fun ρ w1 hr hd => ?_⟩
              obtain ⟨d0, d1, d2, _⟩ := hd
              have d0 : ρ (.tmp 92) = .bool true := d0
              have d1 : ρ (.const (.bool true)) = .bool true := d1
              have d2 : ρ (.tmp 96) = undef := d2
              refine (if_pos (by rfl)).mpr ?_
              refine Og.gives_is (.bool true) ?_ (And.intro (Below.refl _ _) rfl)
              go_simp
            · refine ⟨rfl, fun ρ w1 hr hd => ?_⟩
              obtain ⟨d0, d1, d2, _⟩ := hd
              have d0 : ρ (.tmp 88) = .bool true := d0
              have d1 : ρ (.tmp 97) = .bool true := d1
              have d2 : ρ (.const (.bool false)) = .bool false := d2
              refine (if_pos (by rfl)).mpr ?_
              refine Og.gives_is (.bool true) ?_ (And.intro (Below.refl _ _) rfl)
              go_simp
            · refine ⟨rfl, fun ρ w1 hr hd => ?_⟩
              obtain ⟨d0, _⟩ := hd
              have d0 : ρ (.tmp 98) = .bool true := d0
              refine (if_pos (by rfl)).mpr ?_
              refine Og.gives_is (.bool true) ?_ (And.intro (Below.refl _ _) rfl)
              go_simp
            · refine ⟨fun v w hv => by (have hv' : v = .bool true := hv); subst hv'; exact (if_pos (by rfl)).mpr rfl, fun ρ w1 hr hd => ?_⟩
              obtain ⟨d0, _⟩ := hd
              have d0 : ρ (.tmp 10) = .pointer (some ⟨q, 0, none⟩) := d0
              refine (if_pos (by rfl)).mpr ?_
              refine Og.gives_is (.pointer (some ⟨q, 0, none⟩)) ?_ (And.intro (Below.refl _ _) rfl)
              go_simp
            · refine ⟨fun v w hv => by (have hv' : v = .bool true := hv); subst hv'; exact (if_pos (by rfl)).mpr rfl, fun ρ w1 hr hd => ?_⟩
              obtain ⟨d0, d1, _⟩ := hd
              have d0 : ρ (.func 16) = .func (.func 16) #[] #[] := d0
              have d1 : ρ (.tmp 100) = .pointer (some ⟨q, 0, none⟩) := d1
              refine (if_pos (by rfl)).mpr ?_
              refine Og.gives_call 16 #[.pointer (some ⟨q, 0, none⟩)] ?_ ?_
              · go_simp
              · refine (bytes_any q k ys w1 (HC.out.old hr)).mono fun e w' ⟨v, he, hown, hb⟩ => ?_
                obtain ⟨a5, c5, hv, hsl, _, _⟩ := sl_own hown
                exact ⟨v, he, hb, w', Below.refl _ _, a5, c5, hv, hsl⟩
            · refine ⟨fun v w hv => by (have hv' : v = .bool true := hv); subst hv'; exact (if_pos (by rfl)).mpr rfl, fun ρ w1 hr hd => ?_⟩
              obtain ⟨d0, _⟩ := hd
              have d0 : ∃ w1', Below w1'.heap.size w1' w1 ∧ (fun v w => ∃ a c, v = .slice a ys.length c ∧ Sl w a ys) (ρ (.tmp 101)) w1' := d0
              obtain ⟨w2, hb2, a5, c5, d0, hs⟩ := d0
              have cv := conv_sl w1 a5 ys.length c5 ys (hs.old hb2) rfl
              refine (if_pos (by rfl)).mpr ?_
              refine Og.gives_is (.string (strOfNums ys)) ?_ (And.intro (Below.refl _ _) rfl)
              go_simp
            · refine ⟨fun v w hv => by (have hv' : v = .bool true := hv); subst hv'; exact (if_pos (by rfl)).mpr rfl, fun ρ w1 hr hd => ?_⟩
              obtain ⟨d0, _⟩ := hd
              have d0 : ρ (.tmp 7) = .slice (some ⟨g, 0, none⟩) ys.length ys.length := d0
              refine (if_pos (by rfl)).mpr ?_
              refine Og.gives_is (.slice (some ⟨g, 0, none⟩) ys.length ys.length) ?_ (And.intro (Below.refl _ _) rfl)
              go_simp
            · refine ⟨fun v w hv => by (have hv' : v = .bool true := hv); subst hv'; exact (if_pos (by rfl)).mpr rfl, fun ρ w1 hr hd => ?_⟩
              obtain ⟨d0, _⟩ := hd
              have d0 : ρ (.tmp 103) = .slice (some ⟨g, 0, none⟩) ys.length ys.length := d0
              have cv := conv_sl w1 _ ys.length ys.length ys (Sl.of_row (HR.out.old hr)) rfl
              refine (if_pos (by rfl)).mpr ?_
              refine Og.gives_is (.string (strOfNums ys)) ?_ (And.intro (Below.refl _ _) rfl)
              go_simp
            · refine ⟨fun v w hv => by (have hv' : v = .bool true := hv); subst hv'; exact (if_pos (by rfl)).mpr rfl, fun ρ w1 hr hd => ?_⟩
              obtain ⟨d0, d1, _⟩ := hd
              have d0 : ρ (.tmp 102) = .string (strOfNums ys) := d0
              have d1 : ρ (.tmp 104) = .string (strOfNums ys) := d1
              refine (if_pos (by rfl)).mpr ?_
              refine Og.gives_is (.bool true) ?_ (And.intro (Below.refl _ _) rfl)
              go_simp
            · refine ⟨rfl, fun ρ w1 hr hd => ?_⟩
              obtain ⟨d0, d1, d2, _⟩ := hd
              have d0 : ρ (.tmp 99) = .bool true := d0
              have d1 : ρ (.tmp 105) = .bool true := d1
              have d2 : ρ (.const (.bool false)) = .bool false := d2
              refine (if_pos (by rfl)).mpr ?_
              refine Og.gives_is (.bool true) ?_ (And.intro (Below.refl _ _) rfl)
              go_simp
            · refine ⟨rfl, fun ρ w1 hr hd => ?_⟩
              obtain ⟨d0, _⟩ := hd
              have d0 : ρ (.tmp 106) = .bool true := d0
              refine (if_pos (by rfl)).mpr ?_
              refine Og.gives_is (.bool true) ?_ (And.intro (Below.refl _ _) rfl)
              go_simp
            · refine ⟨fun v w hv => by (have hv' : v = .bool true := hv); subst hv'; exact (if_pos (by rfl)).mpr rfl, fun ρ w1 hr hd => ?_⟩
              obtain ⟨d0, _⟩ := hd
              have d0 : ρ (.tmp 8) = .pointer (some ⟨p, 0, none⟩) := d0
              refine (if_pos (by rfl)).mpr ?_
              refine Og.gives_is (.pointer (some ⟨p, 0, none⟩)) ?_ (And.intro (Below.refl _ _) rfl)
              go_simp
            · refine ⟨fun v w hv => by (have hv' : v = .bool true := hv); subst hv'; exact (if_pos (by rfl)).mpr rfl, fun ρ w1 hr hd => ?_⟩
              obtain ⟨d0, d1, _⟩ := hd
              have d0 : ρ (.func 16) = .func (.func 16) #[] #[] := d0
              have d1 : ρ (.tmp 108) = .pointer (some ⟨p, 0, none⟩) := d1
              refine (if_pos (by rfl)).mpr ?_
              refine Og.gives_call 16 #[.pointer (some ⟨p, 0, none⟩)] ?_ ?_
              · go_simp
              · refine (bytes_any p h bs w1 (HI.out.old hr)).mono fun e w' ⟨v, he, hown, hb⟩ => ?_
                obtain ⟨a5, c5, hv, hsl, _, _⟩ := sl_own hown
                exact ⟨v, he, hb, w', Below.refl _ _, a5, c5, hv, hsl⟩
            · refine ⟨fun v w hv => by (have hv' : v = .bool true := hv); subst hv'; exact (if_pos (by rfl)).mpr rfl, fun ρ w1 hr hd => ?_⟩
              obtain ⟨d0, _⟩ := hd
              have d0 : ∃ w1', Below w1'.heap.size w1' w1 ∧ (fun v w => ∃ a c, v = .slice a bs.length c ∧ Sl w a bs) (ρ (.tmp 109)) w1' := d0
              obtain ⟨w2, hb2, a5, c5, d0, hs⟩ := d0
              have cv := conv_sl w1 a5 bs.length c5 bs (hs.old hb2) rfl
              refine (if_pos (by rfl)).mpr ?_
              refine Og.gives_is (.string (strOfNums bs)) ?_ (And.intro (Below.refl _ _) rfl)
              go_simp
            · refine ⟨fun v w hv => by (have hv' : v = .bool true := hv); subst hv'; exact (if_pos (by rfl)).mpr rfl, fun ρ w1 hr hd => ?_⟩
              obtain ⟨d0, _⟩ := hd
              have d0 : ρ (.tmp 14) = .string (strOfNums bs) := d0
              refine (if_pos (by rfl)).mpr ?_
              refine Og.gives_is (.string (strOfNums bs)) ?_ (And.intro (Below.refl _ _) rfl)
              go_simp
            · refine ⟨fun v w hv => by (have hv' : v = .bool true := hv); subst hv'; exact (if_pos (by rfl)).mpr rfl, fun ρ w1 hr hd => ?_⟩
              obtain ⟨d0, d1, _⟩ := hd
              have d0 : ρ (.tmp 110) = .string (strOfNums bs) := d0
              have d1 : ρ (.tmp 111) = .string (strOfNums bs) := d1
              refine (if_pos (by rfl)).mpr ?_
              refine Og.gives_is (.bool true) ?_ (And.intro (Below.refl _ _) rfl)
              go_simp
            · refine ⟨rfl, fun ρ w1 hr hd => ?_⟩
              obtain ⟨d0, d1, d2, _⟩ := hd
              have d0 : ρ (.tmp 107) = .bool true := d0
              have d1 : ρ (.tmp 112) = .bool true := d1
              have d2 : ρ (.const (.bool false)) = .bool false := d2
              refine (if_pos (by rfl)).mpr ?_
              refine Og.gives_is (.bool true) ?_ (And.intro (Below.refl _ _) rfl)
              go_simp
            · refine ⟨rfl, fun ρ w1 hr hd => ?_⟩
              obtain ⟨d0, _⟩ := hd
              have d0 : ρ (.tmp 113) = .bool true := d0
              refine (if_pos (by rfl)).mpr ?_
              refine Og.gives_is (.bool true) ?_ (And.intro (Below.refl _ _) rfl)
              go_simp
            · refine ⟨fun v w hv => by (have hv' : v = .bool true := hv); subst hv'; exact (if_pos (by rfl)).mpr rfl, fun ρ w1 hr hd => ?_⟩
              obtain ⟨d0, _⟩ := hd
              have d0 : ρ (.tmp 8) = .pointer (some ⟨p, 0, none⟩) := d0
              refine (if_pos (by rfl)).mpr ?_
              refine Og.gives_is (.pointer (some ⟨p, 0, none⟩)) ?_ (And.intro (Below.refl _ _) rfl)
              go_simp
            · refine ⟨fun v w hv => by (have hv' : v = .bool true := hv); subst hv'; exact (if_pos (by rfl)).mpr rfl, fun ρ w1 hr hd => ?_⟩
              obtain ⟨d0, _⟩ := hd
              have d0 : ρ (.tmp 10) = .pointer (some ⟨q, 0, none⟩) := d0
              refine (if_pos (by rfl)).mpr ?_
              refine Og.gives_is (.pointer (some ⟨q, 0, none⟩)) ?_ (And.intro (Below.refl _ _) rfl)
              go_simp
            · refine ⟨fun v w hv => by (have hv' : v = .bool true := hv); subst hv'; exact (if_pos (by rfl)).mpr rfl, fun ρ w1 hr hd => ?_⟩
              obtain ⟨d0, d1, d2, _⟩ := hd
              have d0 : ρ (.func 28) = .func (.func 28) #[] #[] := d0
              have d1 : ρ (.tmp 115) = .pointer (some ⟨p, 0, none⟩) := d1
              have d2 : ρ (.tmp 116) = .pointer (some ⟨q, 0, none⟩) := d2
              refine (if_pos (by rfl)).mpr ?_
              refine Og.gives_call 28 #[.pointer (some ⟨p, 0, none⟩), .pointer (some ⟨q, 0, none⟩)] ?_ ?_
              · go_simp
              · exact (same_any p h q k bs ys w1 (HI.out.old hr) (HC.out.old hr)).mono fun e w' ⟨he, hw⟩ => ⟨_, he, by subst hw; exact Below.refl _ _, congrArg Value.bool HS2.out⟩
            · refine ⟨fun v w hv => by (have hv' : v = .bool true := hv); subst hv'; exact (if_pos (by rfl)).mpr rfl, fun ρ w1 hr hd => ?_⟩
              obtain ⟨d0, _⟩ := hd
              have d0 : ρ (.tmp 14) = .string (strOfNums bs) := d0
              refine (if_pos (by rfl)).mpr ?_
              refine Og.gives_is (.string (strOfNums bs)) ?_ (And.intro (Below.refl _ _) rfl)
              go_simp
            · refine ⟨fun v w hv => by (have hv' : v = .bool true := hv); subst hv'; exact (if_pos (by rfl)).mpr rfl, fun ρ w1 hr hd => ?_⟩
              obtain ⟨d0, _⟩ := hd
              have d0 : ρ (.tmp 7) = .slice (some ⟨g, 0, none⟩) ys.length ys.length := d0
              refine (if_pos (by rfl)).mpr ?_
              refine Og.gives_is (.slice (some ⟨g, 0, none⟩) ys.length ys.length) ?_ (And.intro (Below.refl _ _) rfl)
              go_simp
            · refine ⟨fun v w hv => by (have hv' : v = .bool true := hv); subst hv'; exact (if_pos (by rfl)).mpr rfl, fun ρ w1 hr hd => ?_⟩
              obtain ⟨d0, _⟩ := hd
              have d0 : ρ (.tmp 119) = .slice (some ⟨g, 0, none⟩) ys.length ys.length := d0
              have cv := conv_sl w1 _ ys.length ys.length ys (Sl.of_row (HR.out.old hr)) rfl
              refine (if_pos (by rfl)).mpr ?_
              refine Og.gives_is (.string (strOfNums ys)) ?_ (And.intro (Below.refl _ _) rfl)
              go_simp
            · refine ⟨fun v w hv => by (have hv' : v = .bool true := hv); subst hv'; exact (if_pos (by rfl)).mpr rfl, fun ρ w1 hr hd => ?_⟩
              obtain ⟨d0, d1, _⟩ := hd
              have d0 : ρ (.tmp 118) = .string (strOfNums bs) := d0
              have d1 : ρ (.tmp 120) = .string (strOfNums ys) := d1
              refine (if_pos (by rfl)).mpr ?_
              refine Og.gives_is (.bool false) ?_ (And.intro (Below.refl _ _) rfl)
              go_simp
            · refine ⟨fun v w hv => by (have hv' : v = .bool true := hv); subst hv'; exact (if_pos (by rfl)).mpr rfl, fun ρ w1 hr hd => ?_⟩
              obtain ⟨d0, d1, _⟩ := hd
              have d0 : ρ (.tmp 117) = .bool false := d0
              have d1 : ρ (.tmp 121) = .bool false := d1
              refine (if_pos (by rfl)).mpr ?_
              refine Og.gives_is (.bool true) ?_ (And.intro (Below.refl _ _) rfl)
              go_simp
            · refine ⟨rfl, fun ρ w1 hr hd => ?_⟩
              obtain ⟨d0, d1, d2, _⟩ := hd
              have d0 : ρ (.tmp 114) = .bool true := d0
              have d1 : ρ (.tmp 122) = .bool true := d1
              have d2 : ρ (.const (.bool false)) = .bool false := d2
              refine (if_pos (by rfl)).mpr ?_
              refine Og.gives_is (.bool true) ?_ (And.intro (Below.refl _ _) rfl)
              go_simp
            · refine ⟨rfl, fun ρ w1 hr hd => ?_⟩
              obtain ⟨d0, _⟩ := hd
              have d0 : ρ (.tmp 123) = .bool true := d0
              refine (if_pos (by rfl)).mpr ?_
              refine Og.gives_is (.bool true) ?_ (And.intro (Below.refl _ _) rfl)
              go_simp
            · refine ⟨fun v w hv => by (have hv' : v = .bool true := hv); subst hv'; exact (if_pos (by rfl)).mpr rfl, fun ρ w1 hr hd => ?_⟩
              obtain ⟨d0, _⟩ := hd
              have d0 : ρ (.tmp 18) = .int .i64 1 := d0
              refine (if_pos (by rfl)).mpr ?_
              refine Og.gives_is (.int .i64 1) ?_ (And.intro (Below.refl _ _) rfl)
              go_simp
            · refine ⟨fun v w hv => by (have hv' : v = .bool true := hv); subst hv'; exact (if_pos (by rfl)).mpr rfl, fun ρ w1 hr hd => ?_⟩
              obtain ⟨d0, d1, _⟩ := hd
              have d0 : ρ (.func 14) = .func (.func 14) #[] #[] := d0
              have d1 : ρ (.tmp 125) = .int .i64 1 := d1
              refine (if_pos (by rfl)).mpr ?_
              refine Og.gives_call 14 #[.int .i64 1] ?_ ?_
              · go_simp
              · exact (num_any _ w1).mono fun e w' ⟨he, hw⟩ => ⟨_, he, by subst hw; exact Below.refl _ _, rfl⟩
            · refine ⟨fun v w hv => by (have hv' : v = .bool true := hv); subst hv'; exact (if_pos (by rfl)).mpr rfl, fun ρ w1 hr hd => ?_⟩
              obtain ⟨d0, d1, _⟩ := hd
              have d0 : ρ (.tmp 126) = .int .i64 1 := d0
              have d1 : ρ (.const (.int .i64 1)) = .int .i64 1 := d1
              refine (if_pos (by rfl)).mpr ?_
              refine Og.gives_is (.bool true) ?_ (And.intro (Below.refl _ _) rfl)
              go_simp
            · refine ⟨rfl, fun ρ w1 hr hd => ?_⟩
              obtain ⟨d0, d1, d2, _⟩ := hd
              have d0 : ρ (.tmp 124) = .bool true := d0
              have d1 : ρ (.tmp 127) = .bool true := d1
              have d2 : ρ (.const (.bool false)) = .bool false := d2
              refine (if_pos (by rfl)).mpr ?_
              refine Og.gives_is (.bool true) ?_ (And.intro (Below.refl _ _) rfl)
              go_simp
            · refine ⟨rfl, fun ρ w1 hr hd => ?_⟩
              obtain ⟨d0, _⟩ := hd
              have d0 : ρ (.tmp 128) = .bool true := d0
              refine (if_pos (by rfl)).mpr ?_
              refine Og.gives_is (.bool true) ?_ (And.intro (Below.refl _ _) rfl)
              go_simp
            · refine ⟨fun v w hv => by (have hv' : v = .bool true := hv); subst hv'; exact (if_pos (by rfl)).mpr rfl, fun ρ w1 hr hd => ?_⟩
              obtain ⟨d0, _⟩ := hd
              have d0 : ρ (.tmp 20) = .int .i64 1 := d0
              refine (if_pos (by rfl)).mpr ?_
              refine Og.gives_is (.int .i64 1) ?_ (And.intro (Below.refl _ _) rfl)
              go_simp
            · refine ⟨fun v w hv => by (have hv' : v = .bool true := hv); subst hv'; exact (if_pos (by rfl)).mpr rfl, fun ρ w1 hr hd => ?_⟩
              obtain ⟨d0, d1, _⟩ := hd
              have d0 : ρ (.func 14) = .func (.func 14) #[] #[] := d0
              have d1 : ρ (.tmp 130) = .int .i64 1 := d1
              refine (if_pos (by rfl)).mpr ?_
              refine Og.gives_call 14 #[.int .i64 1] ?_ ?_
              · go_simp
              · exact (num_any _ w1).mono fun e w' ⟨he, hw⟩ => ⟨_, he, by subst hw; exact Below.refl _ _, rfl⟩
            · refine ⟨fun v w hv => by (have hv' : v = .bool true := hv); subst hv'; exact (if_pos (by rfl)).mpr rfl, fun ρ w1 hr hd => ?_⟩
              obtain ⟨d0, d1, _⟩ := hd
              have d0 : ρ (.tmp 131) = .int .i64 1 := d0
              have d1 : ρ (.const (.int .i64 1)) = .int .i64 1 := d1
              refine (if_pos (by rfl)).mpr ?_
              refine Og.gives_is (.bool true) ?_ (And.intro (Below.refl _ _) rfl)
              go_simp
            · refine ⟨rfl, fun ρ w1 hr hd => ?_⟩
              obtain ⟨d0, d1, d2, _⟩ := hd
              have d0 : ρ (.tmp 129) = .bool true := d0
              have d1 : ρ (.tmp 132) = .bool true := d1
              have d2 : ρ (.const (.bool false)) = .bool false := d2
              refine (if_pos (by rfl)).mpr ?_
              refine Og.gives_is (.bool true) ?_ (And.intro (Below.refl _ _) rfl)
              go_simp
            · refine ⟨rfl, fun ρ w1 hr hd => ?_⟩
              obtain ⟨d0, _⟩ := hd
              have d0 : ρ (.tmp 133) = .bool true := d0
              refine (if_pos (by rfl)).mpr ?_
              refine Og.gives_is (.bool true) ?_ (And.intro (Below.refl _ _) rfl)
              go_simp
            · refine ⟨fun v w hv => by (have hv' : v = .bool true := hv); subst hv'; exact (if_pos (by rfl)).mpr rfl, fun ρ w1 hr hd => ?_⟩
              obtain ⟨d0, _⟩ := hd
              have d0 : ρ (.tmp 16) = .pointer none := d0
              refine (if_pos (by rfl)).mpr ?_
              refine Og.gives_is (.pointer none) ?_ (And.intro (Below.refl _ _) rfl)
              go_simp
            · refine ⟨fun v w hv => by (have hv' : v = .bool true := hv); subst hv'; exact (if_pos (by rfl)).mpr rfl, fun ρ w1 hr hd => ?_⟩
              obtain ⟨d0, _⟩ := hd
              have d0 : ρ (.tmp 5) = .pointer (some ⟨w.heap.size, 0, none⟩) := d0
              refine (if_pos (by rfl)).mpr ?_
              refine Og.gives_is (.pointer (some ⟨w.heap.size, 0, none⟩)) ?_ (And.intro (Below.refl _ _) rfl)
              go_simp
            · refine ⟨fun v w hv => by (have hv' : v = .bool true := hv); subst hv'; exact (if_pos (by rfl)).mpr rfl, fun ρ w1 hr hd => ?_⟩
              obtain ⟨d0, _⟩ := hd
              have d0 : ρ (.tmp 136) = .pointer (some ⟨w.heap.size, 0, none⟩) := d0
              have k0 := (HX.out.old hr).c0
              refine (if_pos (by rfl)).mpr ?_
              refine Og.gives_is (.int .u32 (addr : Int)) ?_ (And.intro (Below.refl _ _) rfl)
              go_simp
            · refine ⟨fun v w hv => by (have hv' : v = .bool true := hv); subst hv'; exact (if_pos (by rfl)).mpr rfl, fun ρ w1 hr hd => ?_⟩
              obtain ⟨d0, _⟩ := hd
              have d0 : ρ (.tmp 5) = .pointer (some ⟨w.heap.size, 0, none⟩) := d0
              refine (if_pos (by rfl)).mpr ?_
              refine Og.gives_is (.pointer (some ⟨w.heap.size, 1, none⟩)) ?_ (And.intro (Below.refl _ _) rfl)
              go_simp
            · refine ⟨fun v w hv => by (have hv' : v = .bool true := hv); subst hv'; exact (if_pos (by rfl)).mpr rfl, fun ρ w1 hr hd => ?_⟩
              obtain ⟨d0, _⟩ := hd
              have d0 : ρ (.tmp 138) = .pointer (some ⟨w.heap.size, 1, none⟩) := d0
              have k0 := (HX.out.old hr).c1
              refine (if_pos (by rfl)).mpr ?_
              refine Og.gives_is (.int .i64 a2w) ?_ (And.intro (Below.refl _ _) rfl)
              go_simp
            · refine ⟨fun v w hv => by (have hv' : v = .bool true := hv); subst hv'; exact (if_pos (by rfl)).mpr rfl, fun ρ w1 hr hd => ?_⟩
              obtain ⟨d0, _⟩ := hd
              have d0 : ρ (.tmp 5) = .pointer (some ⟨w.heap.size, 0, none⟩) := d0
              refine (if_pos (by rfl)).mpr ?_
              refine Og.gives_is (.pointer (some ⟨w.heap.size, 2, none⟩)) ?_ (And.intro (Below.refl _ _) rfl)
              go_simp
            · refine ⟨fun v w hv => by (have hv' : v = .bool true := hv); subst hv'; exact (if_pos (by rfl)).mpr rfl, fun ρ w1 hr hd => ?_⟩
              obtain ⟨d0, _⟩ := hd
              have d0 : ρ (.tmp 140) = .pointer (some ⟨w.heap.size, 2, none⟩) := d0
              have k0 := (HX.out.old hr).c2
              refine (if_pos (by rfl)).mpr ?_
              refine Og.gives_is (.int .u32 a2v) ?_ (And.intro (Below.refl _ _) rfl)
              go_simp
            · refine ⟨fun v w hv => by (have hv' : v = .bool true := hv); subst hv'; exact (if_pos (by rfl)).mpr rfl, fun ρ w1 hr hd => ?_⟩
              obtain ⟨d0, d1, d2, d3, d4, _⟩ := hd
              have d0 : ρ (.func 21) = .func (.func 21) #[] #[] := d0
              have d1 : ρ (.tmp 135) = .pointer none := d1
              have d2 : ρ (.tmp 137) = .int .u32 (addr : Int) := d2
              have d3 : ρ (.tmp 139) = .int .i64 a2w := d3
              have d4 : ρ (.tmp 141) = .int .u32 a2v := d4
              refine (if_pos (by rfl)).mpr ?_
              refine Og.gives_call 21 #[.pointer none, .int .u32 (addr : Int), .int .i64 a2w, .int .u32 a2v] ?_ ?_
              · go_simp
              · exact (write_nil addr a2w a2v w1 (by omega) HW.out).mono fun e w' ⟨he, hb⟩ => ⟨_, he, hb, rfl⟩
            · refine ⟨fun v w hv => by (have hv' : v = .bool true := hv); subst hv'; exact (if_pos (by rfl)).mpr rfl, fun ρ w1 hr hd => ?_⟩
              obtain ⟨d0, d1, _⟩ := hd
              have d0 : ρ (.func 14) = .func (.func 14) #[] #[] := d0
              have d1 : ρ (.tmp 142) = .int .i64 1 := d1
              refine (if_pos (by rfl)).mpr ?_
              refine Og.gives_call 14 #[.int .i64 1] ?_ ?_
              · go_simp
              · exact (num_any _ w1).mono fun e w' ⟨he, hw⟩ => ⟨_, he, by subst hw; exact Below.refl _ _, rfl⟩
            · refine ⟨fun v w hv => by (have hv' : v = .bool true := hv); subst hv'; exact (if_pos (by rfl)).mpr rfl, fun ρ w1 hr hd => ?_⟩
              obtain ⟨d0, d1, _⟩ := hd
              have d0 : ρ (.tmp 143) = .int .i64 1 := d0
              have d1 : ρ (.const (.int .i64 1)) = .int .i64 1 := d1
              refine (if_pos (by rfl)).mpr ?_
              refine Og.gives_is (.bool true) ?_ (And.intro (Below.refl _ _) rfl)
              go_simp
            · refine ⟨rfl, fun ρ w1 hr hd => ?_⟩
              obtain ⟨d0, d1, d2, _⟩ := hd
              have d0 : ρ (.tmp 134) = .bool true := d0
              have d1 : ρ (.tmp 144) = .bool true := d1
              have d2 : ρ (.const (.bool false)) = .bool false := d2
              refine (if_pos (by rfl)).mpr ?_
              refine Og.gives_is (.bool true) ?_ (And.intro (Below.refl _ _) rfl)
              go_simp
            · refine ⟨rfl, fun ρ w1 hr hd => ?_⟩
              obtain ⟨d0, _⟩ := hd
              have d0 : ρ (.tmp 145) = .bool true := d0
              refine (if_pos (by rfl)).mpr ?_
              refine Og.gives_is (.bool true) ?_ (And.intro (Below.refl _ _) rfl)
              go_simp
            · refine ⟨fun v w hv => by (have hv' : v = .bool true := hv); subst hv'; exact (if_pos (by rfl)).mpr rfl, fun ρ w1 hr hd => ?_⟩
              obtain ⟨d0, _⟩ := hd
              have d0 : ρ (.tmp 16) = .pointer none := d0
              refine (if_pos (by rfl)).mpr ?_
              refine Og.gives_is (.pointer none) ?_ (And.intro (Below.refl _ _) rfl)
              go_simp
            · refine ⟨fun v w hv => by (have hv' : v = .bool true := hv); subst hv'; exact (if_pos (by rfl)).mpr rfl, fun ρ w1 hr hd => ?_⟩
              clear hd
              refine (if_pos (by rfl)).mpr ?_
              refine Og.gives_is (.agg #[.int .u8 0, .int .u8 0, .int .u8 0, .int .u8 0, .int .u8 0, .int .u8 0, .int .u8 0, .int .u8 0, .int .u8 0, .int .u8 0, .int .u8 0, .int .u8 0, .int .u8 0, .int .u8 0, .int .u8 0, .int .u8 0]) ?_ (And.intro (Below.refl _ _) rfl)
              go_simp
            · refine ⟨fun v w hv => by (have hv' : v = .bool true := hv); subst hv'; exact (if_pos (by rfl)).mpr rfl, fun ρ w1 hr hd => ?_⟩
              obtain ⟨d0, d1, d2, d3, _⟩ := hd
              have d0 : ρ (.func 25) = .func (.func 25) #[] #[] := d0
              have d1 : ρ (.tmp 147) = .pointer none := d1
              have d2 : ρ (.const (.int .u32 0)) = .int .u32 0 := d2
              have d3 : ρ (.tmp 148) = .agg #[.int .u8 0, .int .u8 0, .int .u8 0, .int .u8 0, .int .u8 0, .int .u8 0, .int .u8 0, .int .u8 0, .int .u8 0, .int .u8 0, .int .u8 0, .int .u8 0, .int .u8 0, .int .u8 0, .int .u8 0, .int .u8 0] := d3
              refine (if_pos (by rfl)).mpr ?_
              refine Og.gives_call 25 #[.pointer none, .int .u32 0, .agg #[.int .u8 0, .int .u8 0, .int .u8 0, .int .u8 0, .int .u8 0, .int .u8 0, .int .u8 0, .int .u8 0, .int .u8 0, .int .u8 0, .int .u8 0, .int .u8 0, .int .u8 0, .int .u8 0, .int .u8 0, .int .u8 0]] ?_ ?_
              · go_simp
              · exact (setline_nil zs16 0 w1 (by omega)).mono fun e w' ⟨he, hb⟩ => ⟨_, he, hb, rfl⟩
            · refine ⟨fun v w hv => by (have hv' : v = .bool true := hv); subst hv'; exact (if_pos (by rfl)).mpr rfl, fun ρ w1 hr hd => ?_⟩
              obtain ⟨d0, d1, _⟩ := hd
              have d0 : ρ (.func 14) = .func (.func 14) #[] #[] := d0
              have d1 : ρ (.tmp 149) = .int .i64 1 := d1
              refine (if_pos (by rfl)).mpr ?_
              refine Og.gives_call 14 #[.int .i64 1] ?_ ?_
              · go_simp
              · exact (num_any _ w1).mono fun e w' ⟨he, hw⟩ => ⟨_, he, by subst hw; exact Below.refl _ _, rfl⟩
            · refine ⟨fun v w hv => by (have hv' : v = .bool true := hv); subst hv'; exact (if_pos (by rfl)).mpr rfl, fun ρ w1 hr hd => ?_⟩
              obtain ⟨d0, d1, _⟩ := hd
              have d0 : ρ (.tmp 150) = .int .i64 1 := d0
              have d1 : ρ (.const (.int .i64 1)) = .int .i64 1 := d1
              refine (if_pos (by rfl)).mpr ?_
              refine Og.gives_is (.bool true) ?_ (And.intro (Below.refl _ _) rfl)
              go_simp
            · refine ⟨rfl, fun ρ w1 hr hd => ?_⟩
              obtain ⟨d0, d1, d2, _⟩ := hd
              have d0 : ρ (.tmp 146) = .bool true := d0
              have d1 : ρ (.tmp 151) = .bool true := d1
              have d2 : ρ (.const (.bool false)) = .bool false := d2
              refine (if_pos (by rfl)).mpr ?_
              refine Og.gives_is (.bool true) ?_ (And.intro (Below.refl _ _) rfl)
              go_simp
            · refine ⟨rfl, fun ρ w1 hr hd => ?_⟩
              obtain ⟨d0, _⟩ := hd
              have d0 : ρ (.tmp 152) = .bool true := d0
              refine (if_pos (by rfl)).mpr ?_
              refine Og.gives_is (.bool true) ?_ (And.intro (Below.refl _ _) rfl)
              go_simp
            · refine ⟨fun v w hv => by (have hv' : v = .bool true := hv); subst hv'; exact (if_pos (by rfl)).mpr rfl, fun ρ w1 hr hd => ?_⟩
              obtain ⟨d0, _⟩ := hd
              have d0 : ρ (.tmp 16) = .pointer none := d0
              refine (if_pos (by rfl)).mpr ?_
              refine Og.gives_is (.pointer none) ?_ (And.intro (Below.refl _ _) rfl)
              go_simp
            · refine ⟨fun v w hv => by (have hv' : v = .bool true := hv); subst hv'; exact (if_pos (by rfl)).mpr rfl, fun ρ w1 hr hd => ?_⟩
              obtain ⟨d0, d1, _⟩ := hd
              have d0 : ρ (.func 17) = .func (.func 17) #[] #[] := d0
              have d1 : ρ (.tmp 154) = .pointer none := d1
              refine (if_pos (by rfl)).mpr ?_
              refine Og.gives_call 17 #[.pointer none] ?_ ?_
              · go_simp
              · exact (size_nil w1).mono fun e w' ⟨he, hw⟩ => ⟨_, he, by subst hw; exact Below.refl _ _, rfl⟩
            · refine ⟨fun v w hv => by (have hv' : v = .bool true := hv); subst hv'; exact (if_pos (by rfl)).mpr rfl, fun ρ w1 hr hd => ?_⟩
              obtain ⟨d0, d1, _⟩ := hd
              have d0 : ρ (.tmp 155) = .int .i64 0 := d0
              have d1 : ρ (.const (.int .i64 0)) = .int .i64 0 := d1
              refine (if_pos (by rfl)).mpr ?_
              refine Og.gives_is (.bool true) ?_ (And.intro (Below.refl _ _) rfl)
              go_simp
            · refine ⟨rfl, fun ρ w1 hr hd => ?_⟩
              obtain ⟨d0, d1, d2, _⟩ := hd
              have d0 : ρ (.tmp 153) = .bool true := d0
              have d1 : ρ (.tmp 156) = .bool true := d1
              have d2 : ρ (.const (.bool false)) = .bool false := d2
              refine (if_pos (by rfl)).mpr ?_
              refine Og.gives_is (.bool true) ?_ (And.intro (Below.refl _ _) rfl)
              go_simp
            · refine ⟨rfl, fun ρ w1 hr hd => ?_⟩
              obtain ⟨d0, _⟩ := hd
              have d0 : ρ (.tmp 157) = .bool true := d0
              refine (if_pos (by rfl)).mpr ?_
              refine Og.gives_is (.bool true) ?_ (And.intro (Below.refl _ _) rfl)
              go_simp
            · refine ⟨fun v w hv => by (have hv' : v = .bool true := hv); subst hv'; exact (if_pos (by rfl)).mpr rfl, fun ρ w1 hr hd => ?_⟩
              obtain ⟨d0, _⟩ := hd
              have d0 : ρ (.tmp 16) = .pointer none := d0
              refine (if_pos (by rfl)).mpr ?_
              refine Og.gives_is (.pointer none) ?_ (And.intro (Below.refl _ _) rfl)
              go_simp
            · refine ⟨fun v w hv => by (have hv' : v = .bool true := hv); subst hv'; exact (if_pos (by rfl)).mpr rfl, fun ρ w1 hr hd => ?_⟩
              obtain ⟨d0, d1, _⟩ := hd
              have d0 : ρ (.func 16) = .func (.func 16) #[] #[] := d0
              have d1 : ρ (.tmp 159) = .pointer none := d1
              refine (if_pos (by rfl)).mpr ?_
              refine Og.gives_call 16 #[.pointer none] ?_ ?_
              · go_simp
              · exact (bytes_nil w1).mono fun e w' ⟨he, hw⟩ => ⟨_, he, by subst hw; exact Below.refl _ _, rfl⟩
            · refine ⟨fun v w hv => by (have hv' : v = .bool true := hv); subst hv'; exact (if_pos (by rfl)).mpr rfl, fun ρ w1 hr hd => ?_⟩
              obtain ⟨d0, _⟩ := hd
              have d0 : ρ (.tmp 160) = .slice none 0 0 := d0
              refine (if_pos (by rfl)).mpr ?_
              refine Og.gives_is (.int .i64 0) ?_ (And.intro (Below.refl _ _) rfl)
              go_simp
            · refine ⟨fun v w hv => by (have hv' : v = .bool true := hv); subst hv'; exact (if_pos (by rfl)).mpr rfl, fun ρ w1 hr hd => ?_⟩
              obtain ⟨d0, d1, _⟩ := hd
              have d0 : ρ (.tmp 161) = .int .i64 0 := d0
              have d1 : ρ (.const (.int .i64 0)) = .int .i64 0 := d1
              refine (if_pos (by rfl)).mpr ?_
              refine Og.gives_is (.bool true) ?_ (And.intro (Below.refl _ _) rfl)
              go_simp
            · refine ⟨rfl, fun ρ w1 hr hd => ?_⟩
              obtain ⟨d0, d1, d2, _⟩ := hd
              have d0 : ρ (.tmp 158) = .bool true := d0
              have d1 : ρ (.tmp 162) = .bool true := d1
              have d2 : ρ (.const (.bool false)) = .bool false := d2
              refine (if_pos (by rfl)).mpr ?_
              refine Og.gives_is (.bool true) ?_ (And.intro (Below.refl _ _) rfl)
              go_simp
            · refine ⟨rfl, fun ρ w1 hr hd => ?_⟩
              obtain ⟨d0, _⟩ := hd
              have d0 : ρ (.tmp 163) = .bool true := d0
              refine (if_pos (by rfl)).mpr ?_
              refine Og.gives_is (.bool true) ?_ (And.intro (Below.refl _ _) rfl)
              go_simp
            · refine ⟨fun v w hv => by (have hv' : v = .bool true := hv); subst hv'; exact (if_pos (by rfl)).mpr rfl, fun ρ w1 hr hd => ?_⟩
              obtain ⟨d0, _⟩ := hd
              have d0 : ρ (.tmp 16) = .pointer none := d0
              refine (if_pos (by rfl)).mpr ?_
              refine Og.gives_is (.pointer none) ?_ (And.intro (Below.refl _ _) rfl)
              go_simp
            · refine ⟨fun v w hv => by (have hv' : v = .bool true := hv); subst hv'; exact (if_pos (by rfl)).mpr rfl, fun ρ w1 hr hd => ?_⟩
              obtain ⟨d0, d1, _⟩ := hd
              have d0 : ρ (.func 27) = .func (.func 27) #[] #[] := d0
              have d1 : ρ (.tmp 165) = .pointer none := d1
              refine (if_pos (by rfl)).mpr ?_
              refine Og.gives_call 27 #[.pointer none] ?_ ?_
              · go_simp
              · exact (copy_nil w1).mono fun e w' ⟨he, hb⟩ => ⟨_, he, hb, rfl⟩
            · refine ⟨fun v w hv => by (have hv' : v = .bool true := hv); subst hv'; exact (if_pos (by rfl)).mpr rfl, fun ρ w1 hr hd => ?_⟩
              obtain ⟨d0, d1, _⟩ := hd
              have d0 : ρ (.tmp 166) = .pointer none := d0
              have d1 : ρ (.const (.pointer none)) = .pointer none := d1
              refine (if_pos (by rfl)).mpr ?_
              refine Og.gives_is (.bool true) ?_ (And.intro (Below.refl _ _) rfl)
              go_simp
            · refine ⟨rfl, fun ρ w1 hr hd => ?_⟩
              obtain ⟨d0, d1, d2, _⟩ := hd
              have d0 : ρ (.tmp 164) = .bool true := d0
              have d1 : ρ (.tmp 167) = .bool true := d1
              have d2 : ρ (.const (.bool false)) = .bool false := d2
              refine (if_pos (by rfl)).mpr ?_
              refine Og.gives_is (.bool true) ?_ (And.intro (Below.refl _ _) rfl)
              go_simp
            · refine ⟨rfl, fun ρ w1 hr hd => ?_⟩
              obtain ⟨d0, _⟩ := hd
              have d0 : ρ (.tmp 168) = .bool true := d0
              refine (if_pos (by rfl)).mpr ?_
              refine Og.gives_is (.bool true) ?_ (And.intro (Below.refl _ _) rfl)
              go_simp
            · refine ⟨fun v w hv => by (have hv' : v = .bool true := hv); subst hv'; exact (if_pos (by rfl)).mpr rfl, fun ρ w1 hr hd => ?_⟩
              obtain ⟨d0, _⟩ := hd
              have d0 : ρ (.tmp 16) = .pointer none := d0
              refine (if_pos (by rfl)).mpr ?_
              refine Og.gives_is (.pointer none) ?_ (And.intro (Below.refl _ _) rfl)
              go_simp
            · refine ⟨fun v w hv => by (have hv' : v = .bool true := hv); subst hv'; exact (if_pos (by rfl)).mpr rfl, fun ρ w1 hr hd => ?_⟩
              obtain ⟨d0, d1, d2, _⟩ := hd
              have d0 : ρ (.func 28) = .func (.func 28) #[] #[] := d0
              have d1 : ρ (.tmp 170) = .pointer none := d1
              have d2 : ρ (.const (.pointer none)) = .pointer none := d2
              refine (if_pos (by rfl)).mpr ?_
              refine Og.gives_call 28 #[.pointer none, .pointer none] ?_ ?_
              · go_simp
              · exact (same_nil_both w1).mono fun e w' ⟨he, hw⟩ => ⟨_, he, by subst hw; exact Below.refl _ _, rfl⟩
            · refine ⟨rfl, fun ρ w1 hr hd => ?_⟩
              obtain ⟨d0, d1, d2, _⟩ := hd
              have d0 : ρ (.tmp 169) = .bool true := d0
              have d1 : ρ (.tmp 171) = .bool true := d1
              have d2 : ρ (.const (.bool false)) = .bool false := d2
              refine (if_pos (by rfl)).mpr ?_
              refine Og.gives_is (.bool true) ?_ (And.intro (Below.refl _ _) rfl)
              go_simp
            · refine ⟨rfl, fun ρ w1 hr hd => ?_⟩
              obtain ⟨d0, _⟩ := hd
              have d0 : ρ (.tmp 172) = .bool true := d0
              refine (if_pos (by rfl)).mpr ?_
              refine Og.gives_is (.bool true) ?_ (And.intro (Below.refl _ _) rfl)
              go_simp
            · refine ⟨fun v w hv => by (have hv' : v = .bool true := hv); subst hv'; exact (if_pos (by rfl)).mpr rfl, fun ρ w1 hr hd => ?_⟩
              obtain ⟨d0, _⟩ := hd
              have d0 : ρ (.tmp 16) = .pointer none := d0
              refine (if_pos (by rfl)).mpr ?_
              refine Og.gives_is (.pointer none) ?_ (And.intro (Below.refl _ _) rfl)
              go_simp
            · refine ⟨fun v w hv => by (have hv' : v = .bool true := hv); subst hv'; exact (if_pos (by rfl)).mpr rfl, fun ρ w1 hr hd => ?_⟩
              obtain ⟨d0, _⟩ := hd
              have d0 : ρ (.tmp 21) = .pointer (some ⟨p2, 0, none⟩) := d0
              refine (if_pos (by rfl)).mpr ?_
              refine Og.gives_is (.pointer (some ⟨p2, 0, none⟩)) ?_ (And.intro (Below.refl _ _) rfl)
              go_simp
            · refine ⟨fun v w hv => by (have hv' : v = .bool true := hv); subst hv'; exact (if_pos (by rfl)).mpr rfl, fun ρ w1 hr hd => ?_⟩
              obtain ⟨d0, d1, d2, _⟩ := hd
              have d0 : ρ (.func 28) = .func (.func 28) #[] #[] := d0
              have d1 : ρ (.tmp 174) = .pointer none := d1
              have d2 : ρ (.tmp 175) = .pointer (some ⟨p2, 0, none⟩) := d2
              refine (if_pos (by rfl)).mpr ?_
              refine Og.gives_call 28 #[.pointer none, .pointer (some ⟨p2, 0, none⟩)] ?_ ?_
              · go_simp
              · exact (same_nil_left p2 g2 zs16 w1 (HO.out.old hr)).mono fun e w' ⟨he, hw⟩ => ⟨_, he, by subst hw; exact Below.refl _ _, rfl⟩
            · refine ⟨fun v w hv => by (have hv' : v = .bool true := hv); subst hv'; exact (if_pos (by rfl)).mpr rfl, fun ρ w1 hr hd => ?_⟩
              obtain ⟨d0, _⟩ := hd
              have d0 : ρ (.tmp 176) = .bool false := d0
              refine (if_pos (by rfl)).mpr ?_
              refine Og.gives_is (.bool true) ?_ (And.intro (Below.refl _ _) rfl)
              go_simp
            · refine ⟨rfl, fun ρ w1 hr hd => ?_⟩
              obtain ⟨d0, d1, d2, _⟩ := hd
              have d0 : ρ (.tmp 173) = .bool true := d0
              have d1 : ρ (.tmp 177) = .bool true := d1
              have d2 : ρ (.const (.bool false)) = .bool false := d2
              refine (if_pos (by rfl)).mpr ?_
              refine Og.gives_is (.bool true) ?_ (And.intro (Below.refl _ _) rfl)
              go_simp
            · refine ⟨rfl, fun ρ w1 hr hd => ?_⟩
              obtain ⟨d0, _⟩ := hd
              have d0 : ρ (.tmp 178) = .bool true := d0
              refine (if_pos (by rfl)).mpr ?_
              refine Og.gives_is (.bool true) ?_ (And.intro (Below.refl _ _) rfl)
              go_simp
            · refine ⟨fun v w hv => by (have hv' : v = .bool true := hv); subst hv'; exact (if_pos (by rfl)).mpr rfl, fun ρ w1 hr hd => ?_⟩
              obtain ⟨d0, _⟩ := hd
              have d0 : ρ (.tmp 21) = .pointer (some ⟨p2, 0, none⟩) := d0
              refine (if_pos (by rfl)).mpr ?_
              refine Og.gives_is (.pointer (some ⟨p2, 0, none⟩)) ?_ (And.intro (Below.refl _ _) rfl)
              go_simp
            · refine ⟨fun v w hv => by (have hv' : v = .bool true := hv); subst hv'; exact (if_pos (by rfl)).mpr rfl, fun ρ w1 hr hd => ?_⟩
              obtain ⟨d0, _⟩ := hd
              have d0 : ρ (.tmp 16) = .pointer none := d0
              refine (if_pos (by rfl)).mpr ?_
              refine Og.gives_is (.pointer none) ?_ (And.intro (Below.refl _ _) rfl)
              go_simp
            · refine ⟨fun v w hv => by (have hv' : v = .bool true := hv); subst hv'; exact (if_pos (by rfl)).mpr rfl, fun ρ w1 hr hd => ?_⟩
              obtain ⟨d0, d1, d2, _⟩ := hd
              have d0 : ρ (.func 28) = .func (.func 28) #[] #[] := d0
              have d1 : ρ (.tmp 180) = .pointer (some ⟨p2, 0, none⟩) := d1
              have d2 : ρ (.tmp 181) = .pointer none := d2
              refine (if_pos (by rfl)).mpr ?_
              refine Og.gives_call 28 #[.pointer (some ⟨p2, 0, none⟩), .pointer none] ?_ ?_
              · go_simp
              · exact (same_nil_right p2 g2 zs16 w1 (HO.out.old hr)).mono fun e w' ⟨he, hw⟩ => ⟨_, he, by subst hw; exact Below.refl _ _, rfl⟩
            · refine ⟨fun v w hv => by (have hv' : v = .bool true := hv); subst hv'; exact (if_pos (by rfl)).mpr rfl, fun ρ w1 hr hd => ?_⟩
              obtain ⟨d0, _⟩ := hd
              have d0 : ρ (.tmp 182) = .bool false := d0
              refine (if_pos (by rfl)).mpr ?_
              refine Og.gives_is (.bool true) ?_ (And.intro (Below.refl _ _) rfl)
              go_simp
            · refine ⟨rfl, fun ρ w1 hr hd => ?_⟩
              obtain ⟨d0, d1, d2, _⟩ := hd
              have d0 : ρ (.tmp 179) = .bool true := d0
              have d1 : ρ (.tmp 183) = .bool true := d1
              have d2 : ρ (.const (.bool false)) = .bool false := d2
              refine (if_pos (by rfl)).mpr ?_
              refine Og.gives_is (.bool true) ?_ (And.intro (Below.refl _ _) rfl)
              go_simp
            · refine ⟨rfl, fun ρ w1 hr hd => ?_⟩
              obtain ⟨d0, _⟩ := hd
              have d0 : ρ (.tmp 184) = .bool true := d0
              refine (if_pos (by rfl)).mpr ?_
              refine Og.gives_is (.bool true) ?_ (And.intro (Below.refl _ _) rfl)
              go_simp
            · refine ⟨fun v w hv => by (have hv' : v = .bool true := hv); subst hv'; exact (if_pos (by rfl)).mpr rfl, fun ρ w1 hr hd => ?_⟩
              obtain ⟨d0, _⟩ := hd
              have d0 : ρ (.func 11) = .func (.func 11) #[] #[] := d0
              refine (if_pos (by rfl)).mpr ?_
              refine Og.gives_call 11 #[] ?_ ?_
              · go_simp
              · exact (works_any w1).mono fun e w' ⟨he, hb⟩ => ⟨_, he, hb, rfl⟩
            · refine ⟨rfl, fun ρ w1 hr hd => ?_⟩
              obtain ⟨d0, d1, d2, _⟩ := hd
              have d0 : ρ (.tmp 185) = .bool true := d0
              have d1 : ρ (.tmp 186) = .bool true := d1
              have d2 : ρ (.const (.bool false)) = .bool false := d2
              refine (if_pos (by rfl)).mpr ?_
              refine Og.gives_is (.bool true) ?_ (And.intro (Below.refl _ _) rfl)
              go_simp
            · refine ⟨rfl, fun ρ w1 hr hd => ?_⟩
              obtain ⟨d0, _⟩ := hd
              have d0 : ρ (.tmp 187) = .bool true := d0
              refine (if_pos (by rfl)).mpr ?_
              refine Og.gives_is (.bool true) ?_ (And.intro (Below.refl _ _) rfl)
              go_simp
          · intro a w1 hbz hdf hsz hall
            have hres : a.tmps.getD 6 undef = .bool true := hall 101 _ 6 rfl rfl
            go_wp2
            refine bodyPost_ret (v := .bool true) (by rw [results_tmp rfl]; rw [hres]) hdf ⟨rfl, below_tr HT.out hbz⟩

/-! THE ROW -/
set_option maxRecDepth 100000 in
theorem lifted (os : Os) (started : os.Started) (H : Type) (enc : TypeId × Value → H) :
    ReturnsInHanded {} Try.checked os 6 .any (Rows.imageCopiesSpec.pre6 enc Try.prog Try.f6 Rows.imageCopiesRow.domain false) (Rows.imageCopiesSpec.post enc Try.prog Try.f6 false true false false) := by
  refine returnsInHanded_of_change (C := Try.checked) own started (by kernel_rfl) Try.func6
    (ChangeSpec.witness6 (enc := enc) (C := Try.checked) false ⟨#[], #[.slice none 0 0, .int .i64 0, .agg #[.int .u32 0, .int .i64 0, .int .u32 0]], []⟩ 8 (by kernel_rfl) (by kernel_rfl) (by kernel_rfl) (by kernel_rfl)) ?_
  intro W base args ds gs before hval0 hW hcnd _
  have hval : ∀ (j : Nat) t v, Try.f6.params[j]? = some t → args[j]? = some v → Value.okWide Try.prog W .any base t v := hval0
  have hW' := hW
  obtain ⟨p, q, hA0, hV, rfl, hfz, hnd⟩ := hW
  have hA : DataW.TrodAll enc Try.prog W 0 (fun _ => true) true Try.f6.params.toList args.toList ds p := hA0
  rw [Try.params6] at hA hval
  obtain ⟨v0, vs0, d0, ds0, p0, q0, hargs, rfl, rfl, h0, r0⟩ := trodAll_cons hA
  obtain ⟨v1, vs1, d1, ds1, p1, q1, rfl, rfl, rfl, h1, r1⟩ := trodAll_cons r0
  obtain ⟨v2, vs2, d2, ds2, p2, q2, rfl, rfl, rfl, h2, r2⟩ := trodAll_cons r1
  obtain ⟨rfl, rfl, rfl⟩ := trodAll_nil r2
  obtain rfl : args = #[v0, v1, v2] := by cases args; simp_all
  obtain ⟨rfl, rfl⟩ := trodVars_none hV
  clear hA0 hval0
  simp only [List.append_nil] at hW'
  have hlt : ∀ x ∈ p0 ++ (p1 ++ (p2)), x.block < W.heap.size := fun x hx => by simpa using hW'.lt x (by simpa using hx)
  obtain ⟨a0, n0, c0, rfl⟩ := okWide_slice Try.underlying22 (hval 0 22 v0 rfl rfl)
  obtain ⟨x0, l0, m0, b0⟩ := open_bytes h0
  have h1k := h1
  obtain ⟨a1, rfl, rfl, rfl, w1⟩ := open_int Try.underlying3 (hval 1 3 v1 rfl rfl) h1
  obtain ⟨a2, a2w, a2v, rfl, w2, w2w, w2v⟩ := open_acc (hval 2 36 v2 rfl rfl) h2
  refine (walk W a0 n0 c0 x0 l0 m0 b0 a1 w1 a2 a2w a2v w2 w2w w2v).mono fun e W' ⟨he, hb⟩ => ?_
  subst he
  have harg0 : DataW.Trod enc Try.prog W' 0 (fun b => decide (b < W.heap.size)) true 22 _ _ _ := Below.trod laidOut (by kernel_rfl) (of_decide_eq_true (by kernel_rfl)) h0 hb (fun x hx => hlt x (by simp [hx]))
  have harg1 : DataW.Trod enc Try.prog W' 0 (fun b => decide (b < W.heap.size)) true 3 _ _ _ := Below.trod laidOut (by kernel_rfl) (of_decide_eq_true (by kernel_rfl)) h1k hb (fun x hx => by cases hx)
  have harg2 : DataW.Trod enc Try.prog W' 0 (fun b => decide (b < W.heap.size)) true 36 _ _ _ := Below.trod laidOut (by kernel_rfl) (of_decide_eq_true (by kernel_rfl)) h2 hb (fun x hx => hlt x (by simp [hx]))
  exact ⟨_, rfl, _, _, _, [], _, [], hW', trodAll_mk1 (shut_bool Try.underlying4 _), (trodAll_cons_mk harg0 (trodAll_cons_mk harg1 (trodAll_cons_mk harg2 trodAll_mk0))), rfl, hb.frame _, fun h => by cases h⟩

theorem over : Rows.imageCopiesRow.holds Try.pinned (OpenSpec.ofChange Rows.imageCopiesSpec) :=
  OpenClaim.holds_of_wide 6 Try.f6 rfl rfl rfl rfl rfl rfl rfl ⟨rfl, rfl, rfl, rfl, rfl⟩ rfl rfl rfl rfl rfl (by kernel_rfl) Try.func6 (by kernel_rfl)
    (of_decide_eq_true (by kernel_rfl)) (by unfold Func.isWrapper; first | (rw [if_pos (by decide +kernel)]; kernel_rfl) | (rw [if_neg (by decide +kernel)]; exact ⟨rfl, rfl⟩))
    (fun os started H enc _ => lifted os started H enc)

/-- THE STATEMENT -/
theorem proved : Rows.ImageCopiesSaid :=
  over
end Go.Proofs.Ytchjcfmmnfimlaa.imageCopies
