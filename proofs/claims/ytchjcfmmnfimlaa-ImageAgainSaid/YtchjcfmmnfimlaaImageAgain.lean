/-
  ImageAgain: for every input the statement's function returns true, with no condition; each argument reads behind the call as before. By contracts of the program's and the document's functions.
-/
import Derived.Test.YtchjcfmmnfimlaaImBox
namespace Go.Proofs.Ytchjcfmmnfimlaa.imageAgain
open Go.ChangeShapes Go.WideShapes Go.ChangeAt Go.RowKit
set_option linter.unusedVariables false

theorem and255 {a : Int} (h0 : 0 ≤ a) (h1 : a ≤ 4294967295) : bits .and .u32 a 255 = a % 256 := by
  have := bits_mask .u32 32 (by decide) (fun n h0 h1 => by rw [IntKind.wrap_u32]; omega) 8 (by decide) a h0 (by omega)
  simpa using this
theorem and65535 {a : Int} (h0 : 0 ≤ a) (h1 : a ≤ 4294967295) : bits .and .u32 a 65535 = a % 65536 := by
  have := bits_mask .u32 32 (by decide) (fun n h0 h1 => by rw [IntKind.wrap_u32]; omega) 16 (by decide) a h0 (by omega)
  simpa using this

/-! THE WALK: the Go text returns true; of memory nothing that stood there has turned. -/
set_option maxRecDepth 100000 in
set_option maxHeartbeats 8000000 in
theorem walk (w : World) (a0 : Option Addr) (n0 c0 : Nat) (x0 : List Int) (l0 : x0.length = n0) (m0 : n0 ≤ 9223372036854775807) (b0 : BIn w a0 x0) (a1 : Int) (w1 : (Lit.int .i64 a1).wf = true) (a2 a2w a2v : Int) (w2 : (Lit.int .u32 a2).wf = true) (w2w : (Lit.int .i64 a2w).wf = true) (w2v : (Lit.int .u32 a2v).wf = true) (a3 : Int) (w3 : (Lit.int .u32 a3).wf = true) :
    Calls Try.prog 10 #[.slice a0 n0 c0, .int .i64 a1, .agg #[.int .u32 a2, .int .i64 a2w, .int .u32 a2v], .int .u32 a3] w fun e w' => e = .returned (.bool true) ∧ Below w.heap.size w w' := by
  have B0 := Lib.hid b0; clear b0
  by_cases hbig : 10000 < n0
  · go_enter Try.func10, Try.ntmps10
    go_wp2_with (go_at_call 11; refine (works_any _).mono ?_; rintro e wz ⟨rfl, hbz⟩)
    go_ret
    exact ⟨rfl, (box_first hbz).1⟩
  · obtain ⟨addr, rfl⟩ := Int.eq_ofNat_of_zero_le (wf_u32 w2).1
    have ha := (wf_u32 w2).2
    have hv := wf_u32 w2v
    have hw := wf_i64 w2w
    have HW := Lib.hid w2w
    clear w2 w2v
    obtain ⟨oth, rfl⟩ := Int.eq_ofNat_of_zero_le (wf_u32 w3).1
    have ho := (wf_u32 w3).2
    clear w3
    have hbx := (Below.refl w.heap.size w).alloc (Nat.le_refl _) (.cells #[.int .u32 (addr : Int), .int .i64 a2w, .int .u32 a2v] 36)
    have HBX := Lib.hid hbx; clear hbx
    rcases (show (a2w = 1 ∨ a2w = 2 ∨ a2w = 4) ∨ ¬ (a2w = 1 ∨ a2w = 2 ∨ a2w = 4) by omega) with (rfl | rfl | rfl) | hw4
    · go_enter Try.func10, Try.ntmps10
      go_wp2_with fail
      refine (sized_any a0 n0 c0 x0 a1 _ (B0.out.old HBX.out) l0 (by omega) (wf_i64 w1)).mono ?_
      rintro e wa ⟨g, ys, rfl, hr, hok, hyb, hg, hba⟩
      have hbd := Im.okB_bd hok
      have HR := Lib.hid hr; have HOK := Lib.hid hok; have HY := Lib.hid hyb; have HG := Lib.hid hg; have HBA := Lib.hid hba; clear hr hok hyb hg hba
      go_wp2_with fail
      refine (of_yes ys.length ys.length _ ys HOK.out rfl HY.out _ (Sl.of_row HR.out)).mono ?_
      rintro e wb ⟨p, h, rfl, hi, hp, hh, hbb⟩
      have HI := Lib.hid hi; have HP := Lib.hid hp; have HH := Lib.hid hh; have HBB := Lib.hid hbb; clear hi hp hh hbb
      have HRB := Lib.hid (HR.out.old HBB.out)
      obtain ⟨hba1, hbox⟩ := box_first HBA.out
      have HBA1 := Lib.hid hba1; have HBOX := Lib.hid hbox; clear hba1 hbox
      have HXB := Lib.hid (HBOX.out.old HBB.out)
      have HRH := Lib.hid (show w.heap.size < h from Nat.lt_of_lt_of_le HBOX.out.lt HH.out)
      have HGH := Lib.hid (show g < h from Nat.lt_of_lt_of_le HR.out.lt HH.out)
      have HTB := Lib.hid (below_tr HBA1.out HBB.out)
      go_wp2_with fail
      refine (copy_any p h ys _ HI.out).mono ?_
      rintro e wc ⟨q, k, rfl, hi2, hq, hk, hbc⟩
      have HC := Lib.hid hi2; have HKH := Lib.hid (show h < k ∧ h < q from ⟨Nat.lt_of_lt_of_le HI.out.row.lt hk, Nat.lt_of_lt_of_le HI.out.row.lt hq⟩); have HBC := Lib.hid hbc; clear hi2 hq hk hbc
      have HIC := Lib.hid (HI.out.old HBC.out); have HXC := Lib.hid (HXB.out.old HBC.out)
      have HTC := Lib.hid (below_tr HTB.out HBC.out)
      by_cases hal : addr % 1 = 0
      · by_cases hlt : addr < ys.length
        · have k0 := HXC.out.c0; have k1 := HXC.out.c1; have k2 := HXC.out.c2
          go_wp2_with fail
          refine (write_goes p h ys addr 1 a2v _ (by omega) hv HIC.out (by omega) hal hlt).mono ?_
          clear k0 k1 k2
          rintro e wd ⟨rfl, hi2, hgd⟩
          have HM := Lib.hid hi2; have HGD := Lib.hid hgd; clear hi2 hgd
          have HCD := Lib.hid (HC.out.kept HGD.out (by have := HKH.out; simp; omega) (by have := HKH.out; simp; omega))
          have HX := Lib.hid (HXC.out.kept HGD.out (by have := HRH.out; simp; omega))
          have HT := Lib.hid (HTC.out.grown HGD.out HTC.out.size (fun k hk => by cases hk; exact Nat.le_of_lt HRH.out))
          have hlen : (Im.sets ys addr (Im.byt a2v) 1).length = ys.length := Im.length_sets _ _ _ _
          have HGS := Lib.hid (fun j => Im.get_sets ys addr (Im.byt a2v) 1 (by omega) j)
          have hval : Im.val (Im.win (Im.sets ys addr (Im.byt a2v) 1) addr 1) = a2v % 256 := by rw [Im.val_sets1 (by omega)]
          obtain ⟨bs, hbs⟩ : ∃ bs, bs = Im.sets ys addr (Im.byt a2v) 1 := ⟨_, rfl⟩
          rw [← hbs] at hlen hval HM HGS
          have HLEN := Lib.hid hlen; have HVAL := Lib.hid hval; clear hlen hval hbs
          have k0 := HX.out.c0; have k1 := HX.out.c1; have k2 := HX.out.c2
          go_wp2_with fail
          refine (read_goes p h bs addr 1 _ (by omega) HM.out (by omega) hal (by rw [HLEN.out]; exact hlt)).mono ?_
          rw [HVAL.out]
          clear k0 k1 k2
          rintro e we ⟨rfl, hb⟩
          have HB := Lib.hid hb; clear hb
          have HT := Lib.hid (below_tr HT.out HB.out)
          have HM := Lib.hid (HM.out.old HB.out)
          have HCD := Lib.hid (HCD.out.old HB.out)
          have HX := Lib.hid (HX.out.old HB.out)
          have k0 := HX.out.c0; have k1 := HX.out.c1; have k2 := HX.out.c2
          have hlow : bits .and .u32 a2v 255 = a2v % 256 := and255 hv.1 hv.2
          go_wp2_with (go_at_call 14; refine (num_any _ _).mono ?_; rintro e w' ⟨rfl, rfl⟩)
          clear k0 k1 k2 hlow
          by_cases hin : oth < ys.length
          · refine (read_goes p h bs oth 1 _ (by omega) HM.out (by omega) (by omega) (by rw [HLEN.out]; exact hin)).mono ?_
            rw [Im.win1 (by rw [HLEN.out]; omega), Im.val1]
            obtain ⟨xo, hxo⟩ : ∃ xo, xo = bs.getD oth 0 := ⟨_, rfl⟩
            rw [← hxo]
            have HXO := Lib.hid hxo; clear hxo
            rintro e wf ⟨rfl, hb⟩
            have HB := Lib.hid hb; clear hb
            have HT := Lib.hid (below_tr HT.out HB.out)
            have HM := Lib.hid (HM.out.old HB.out)
            have HCD := Lib.hid (HCD.out.old HB.out)
            have HX := Lib.hid (HX.out.old HB.out)
            go_wp2_with fail
            refine (read_goes q k ys oth 1 _ (by omega) HCD.out (by omega) (by omega) hin).mono ?_
            rw [Im.win1 (by omega), Im.val1]
            obtain ⟨yo, hyo⟩ : ∃ yo, yo = ys.getD oth 0 := ⟨_, rfl⟩
            rw [← hyo]
            have HYO := Lib.hid hyo; clear hyo
            rintro e wg ⟨rfl, hb⟩
            have HB := Lib.hid hb; clear hb
            have HT := Lib.hid (below_tr HT.out HB.out)
            have HM := Lib.hid (HM.out.old HB.out)
            have HX := Lib.hid (HX.out.old HB.out)
            have hg := HGS.out oth
            by_cases hby : addr ≤ oth ∧ oth < addr + 1
            · obtain ⟨hy1, hy2⟩ := hby
              have hy3 : (oth : Int) < (addr : Int) + 1 := by omega
              clear hg
              have k0 := HX.out.c0; have k1 := HX.out.c1; have k2 := HX.out.c2
              have hbb := Im.getD_byt HM.out.byt
              have ba := hbb (addr - addr % 4)
              have bb := hbb (addr - addr % 4 + 1)
              have bc := hbb (addr - addr % 4 + 2)
              have bd := hbb (addr - addr % 4 + 3)
              clear hbb
              obtain ⟨at_, hat⟩ : ∃ at_ : Nat, at_ = addr - addr % 4 := ⟨_, rfl⟩
              rw [← hat] at ba bb bc bd
              obtain ⟨xa, exa⟩ : ∃ x, x = bs.getD at_ 0 := ⟨_, rfl⟩
              obtain ⟨xb, exb⟩ : ∃ x, x = bs.getD (at_ + 1) 0 := ⟨_, rfl⟩
              obtain ⟨xc, exc⟩ : ∃ x, x = bs.getD (at_ + 2) 0 := ⟨_, rfl⟩
              obtain ⟨xd, exd⟩ : ∃ x, x = bs.getD (at_ + 3) 0 := ⟨_, rfl⟩
              rw [← exa] at ba
              rw [← exb] at bb
              rw [← exc] at bc
              rw [← exd] at bd
              have EX := Lib.hid (And.intro exa (And.intro exb (And.intro exc exd)))
              clear exa exb exc exd
              have HAT := Lib.hid (show at_ % 4 = 0 ∧ at_ + 4 ≤ ys.length ∧ at_ ≤ addr ∧ (addr : Int) - (addr : Int) % 4 = (at_ : Int) by omega)
              clear hat
              go_wp2_with (go_at_call 14; refine (num_any _ _).mono ?_; rintro e w' ⟨rfl, rfl⟩)
              rw [HAT.out.2.2.2]
              have h1 := HAT.out.1; have h2 := HAT.out.2.1
              clear k0 k1 k2
              refine (read_goes p h bs (at_) 4 _ (by omega) HM.out (by omega) (by omega) (by rw [HLEN.out]; omega)).mono ?_
              rw [Im.win4 (by rw [HLEN.out]; omega), Im.val4, ← EX.out.1, ← EX.out.2.1, ← EX.out.2.2.1, ← EX.out.2.2.2]
              rintro e wr0 ⟨rfl, hb⟩
              have HB := Lib.hid hb; clear hb
              have HT := Lib.hid (below_tr HT.out HB.out)
              have HM := Lib.hid (HM.out.old HB.out)
              go_wp2_with fail
              refine (read_goes p h bs (at_) 2 _ (by omega) HM.out (by omega) (by omega) (by rw [HLEN.out]; omega)).mono ?_
              rw [Im.win2 (by rw [HLEN.out]; omega), Im.val2, ← EX.out.1, ← EX.out.2.1]
              rintro e wr1 ⟨rfl, hb⟩
              have HB := Lib.hid hb; clear hb
              have HT := Lib.hid (below_tr HT.out HB.out)
              have HM := Lib.hid (HM.out.old HB.out)
              go_wp2_with fail
              refine (read_goes p h bs (at_ + 2) 2 _ (by omega) HM.out (by omega) (by omega) (by rw [HLEN.out]; omega)).mono ?_
              rw [Im.win2 (by rw [HLEN.out]; omega), Im.val2, ← EX.out.2.2.1, ← EX.out.2.2.2]
              rintro e wr2 ⟨rfl, hb⟩
              have HB := Lib.hid hb; clear hb
              have HT := Lib.hid (below_tr HT.out HB.out)
              have HM := Lib.hid (HM.out.old HB.out)
              go_wp2_with fail
              refine (read_goes p h bs (at_ + 3) 1 _ (by omega) HM.out (by omega) (by omega) (by rw [HLEN.out]; omega)).mono ?_
              rw [Im.win1 (by rw [HLEN.out]; omega), Im.val1, ← EX.out.2.2.2]
              rintro e wr3 ⟨rfl, hb⟩
              have HB := Lib.hid hb; clear hb
              have HT := Lib.hid (below_tr HT.out HB.out)
              have HM := Lib.hid (HM.out.old HB.out)
              go_wp2_with (first
                | (go_at_call 11; refine (works_any _).mono ?_; rintro e wz ⟨rfl, hbz⟩))
              go_ret
              exact ⟨rfl, below_tr HT.out hbz⟩
            · rw [if_neg hby, ← HXO.out, ← HYO.out] at hg
              subst hg
              have hby2 : oth < addr ∨ addr + 1 ≤ oth := by omega
              clear hby
              rcases hby2 with hy | hy
              all_goals
                have k0 := HX.out.c0; have k1 := HX.out.c1; have k2 := HX.out.c2
                have hbb := Im.getD_byt HM.out.byt
                have ba := hbb (addr - addr % 4)
                have bb := hbb (addr - addr % 4 + 1)
                have bc := hbb (addr - addr % 4 + 2)
                have bd := hbb (addr - addr % 4 + 3)
                clear hbb
                obtain ⟨at_, hat⟩ : ∃ at_ : Nat, at_ = addr - addr % 4 := ⟨_, rfl⟩
                rw [← hat] at ba bb bc bd
                obtain ⟨xa, exa⟩ : ∃ x, x = bs.getD at_ 0 := ⟨_, rfl⟩
                obtain ⟨xb, exb⟩ : ∃ x, x = bs.getD (at_ + 1) 0 := ⟨_, rfl⟩
                obtain ⟨xc, exc⟩ : ∃ x, x = bs.getD (at_ + 2) 0 := ⟨_, rfl⟩
                obtain ⟨xd, exd⟩ : ∃ x, x = bs.getD (at_ + 3) 0 := ⟨_, rfl⟩
                rw [← exa] at ba
                rw [← exb] at bb
                rw [← exc] at bc
                rw [← exd] at bd
                have EX := Lib.hid (And.intro exa (And.intro exb (And.intro exc exd)))
                clear exa exb exc exd
                have HAT := Lib.hid (show at_ % 4 = 0 ∧ at_ + 4 ≤ ys.length ∧ at_ ≤ addr ∧ (addr : Int) - (addr : Int) % 4 = (at_ : Int) by omega)
                clear hat
                go_wp2_with (go_at_call 14; refine (num_any _ _).mono ?_; rintro e w' ⟨rfl, rfl⟩)
                rw [HAT.out.2.2.2]
                have h1 := HAT.out.1; have h2 := HAT.out.2.1
                clear k0 k1 k2
                refine (read_goes p h bs (at_) 4 _ (by omega) HM.out (by omega) (by omega) (by rw [HLEN.out]; omega)).mono ?_
                rw [Im.win4 (by rw [HLEN.out]; omega), Im.val4, ← EX.out.1, ← EX.out.2.1, ← EX.out.2.2.1, ← EX.out.2.2.2]
                rintro e wr0 ⟨rfl, hb⟩
                have HB := Lib.hid hb; clear hb
                have HT := Lib.hid (below_tr HT.out HB.out)
                have HM := Lib.hid (HM.out.old HB.out)
                go_wp2_with fail
                refine (read_goes p h bs (at_) 2 _ (by omega) HM.out (by omega) (by omega) (by rw [HLEN.out]; omega)).mono ?_
                rw [Im.win2 (by rw [HLEN.out]; omega), Im.val2, ← EX.out.1, ← EX.out.2.1]
                rintro e wr1 ⟨rfl, hb⟩
                have HB := Lib.hid hb; clear hb
                have HT := Lib.hid (below_tr HT.out HB.out)
                have HM := Lib.hid (HM.out.old HB.out)
                go_wp2_with fail
                refine (read_goes p h bs (at_ + 2) 2 _ (by omega) HM.out (by omega) (by omega) (by rw [HLEN.out]; omega)).mono ?_
                rw [Im.win2 (by rw [HLEN.out]; omega), Im.val2, ← EX.out.2.2.1, ← EX.out.2.2.2]
                rintro e wr2 ⟨rfl, hb⟩
                have HB := Lib.hid hb; clear hb
                have HT := Lib.hid (below_tr HT.out HB.out)
                have HM := Lib.hid (HM.out.old HB.out)
                go_wp2_with fail
                refine (read_goes p h bs (at_ + 3) 1 _ (by omega) HM.out (by omega) (by omega) (by rw [HLEN.out]; omega)).mono ?_
                rw [Im.win1 (by rw [HLEN.out]; omega), Im.val1, ← EX.out.2.2.2]
                rintro e wr3 ⟨rfl, hb⟩
                have HB := Lib.hid hb; clear hb
                have HT := Lib.hid (below_tr HT.out HB.out)
                have HM := Lib.hid (HM.out.old HB.out)
                go_wp2_with (first
                  | (go_at_call 11; refine (works_any _).mono ?_; rintro e wz ⟨rfl, hbz⟩))
                go_ret
                exact ⟨rfl, below_tr HT.out hbz⟩
          · refine (read_no p h bs oth 1 4 _ HM.out (by omega) (by decide) (.inr ⟨1, rfl, by omega, .inr ⟨rfl, by omega, by rw [HLEN.out]; omega⟩⟩)).mono ?_
            rintro e wf ⟨rfl, hb⟩
            have HB := Lib.hid hb; clear hb
            have HT := Lib.hid (below_tr HT.out HB.out)
            have HM := Lib.hid (HM.out.old HB.out)
            have HCD := Lib.hid (HCD.out.old HB.out)
            have HX := Lib.hid (HX.out.old HB.out)
            go_wp2_with fail
            refine (read_no q k ys oth 1 4 _ HCD.out (by omega) (by decide) (.inr ⟨1, rfl, by omega, .inr ⟨rfl, by omega, by omega⟩⟩)).mono ?_
            rintro e wg ⟨rfl, hb⟩
            have HB := Lib.hid hb; clear hb
            have HT := Lib.hid (below_tr HT.out HB.out)
            have HM := Lib.hid (HM.out.old HB.out)
            have HX := Lib.hid (HX.out.old HB.out)
            have k0 := HX.out.c0; have k1 := HX.out.c1; have k2 := HX.out.c2
            have hbb := Im.getD_byt HM.out.byt
            have ba := hbb (addr - addr % 4)
            have bb := hbb (addr - addr % 4 + 1)
            have bc := hbb (addr - addr % 4 + 2)
            have bd := hbb (addr - addr % 4 + 3)
            clear hbb
            obtain ⟨at_, hat⟩ : ∃ at_ : Nat, at_ = addr - addr % 4 := ⟨_, rfl⟩
            rw [← hat] at ba bb bc bd
            obtain ⟨xa, exa⟩ : ∃ x, x = bs.getD at_ 0 := ⟨_, rfl⟩
            obtain ⟨xb, exb⟩ : ∃ x, x = bs.getD (at_ + 1) 0 := ⟨_, rfl⟩
            obtain ⟨xc, exc⟩ : ∃ x, x = bs.getD (at_ + 2) 0 := ⟨_, rfl⟩
            obtain ⟨xd, exd⟩ : ∃ x, x = bs.getD (at_ + 3) 0 := ⟨_, rfl⟩
            rw [← exa] at ba
            rw [← exb] at bb
            rw [← exc] at bc
            rw [← exd] at bd
            have EX := Lib.hid (And.intro exa (And.intro exb (And.intro exc exd)))
            clear exa exb exc exd
            have HAT := Lib.hid (show at_ % 4 = 0 ∧ at_ + 4 ≤ ys.length ∧ at_ ≤ addr ∧ (addr : Int) - (addr : Int) % 4 = (at_ : Int) by omega)
            clear hat
            go_wp2_with (go_at_call 14; refine (num_any _ _).mono ?_; rintro e w' ⟨rfl, rfl⟩)
            rw [HAT.out.2.2.2]
            have h1 := HAT.out.1; have h2 := HAT.out.2.1
            clear k0 k1 k2
            refine (read_goes p h bs (at_) 4 _ (by omega) HM.out (by omega) (by omega) (by rw [HLEN.out]; omega)).mono ?_
            rw [Im.win4 (by rw [HLEN.out]; omega), Im.val4, ← EX.out.1, ← EX.out.2.1, ← EX.out.2.2.1, ← EX.out.2.2.2]
            rintro e wr0 ⟨rfl, hb⟩
            have HB := Lib.hid hb; clear hb
            have HT := Lib.hid (below_tr HT.out HB.out)
            have HM := Lib.hid (HM.out.old HB.out)
            go_wp2_with fail
            refine (read_goes p h bs (at_) 2 _ (by omega) HM.out (by omega) (by omega) (by rw [HLEN.out]; omega)).mono ?_
            rw [Im.win2 (by rw [HLEN.out]; omega), Im.val2, ← EX.out.1, ← EX.out.2.1]
            rintro e wr1 ⟨rfl, hb⟩
            have HB := Lib.hid hb; clear hb
            have HT := Lib.hid (below_tr HT.out HB.out)
            have HM := Lib.hid (HM.out.old HB.out)
            go_wp2_with fail
            refine (read_goes p h bs (at_ + 2) 2 _ (by omega) HM.out (by omega) (by omega) (by rw [HLEN.out]; omega)).mono ?_
            rw [Im.win2 (by rw [HLEN.out]; omega), Im.val2, ← EX.out.2.2.1, ← EX.out.2.2.2]
            rintro e wr2 ⟨rfl, hb⟩
            have HB := Lib.hid hb; clear hb
            have HT := Lib.hid (below_tr HT.out HB.out)
            have HM := Lib.hid (HM.out.old HB.out)
            go_wp2_with fail
            refine (read_goes p h bs (at_ + 3) 1 _ (by omega) HM.out (by omega) (by omega) (by rw [HLEN.out]; omega)).mono ?_
            rw [Im.win1 (by rw [HLEN.out]; omega), Im.val1, ← EX.out.2.2.2]
            rintro e wr3 ⟨rfl, hb⟩
            have HB := Lib.hid hb; clear hb
            have HT := Lib.hid (below_tr HT.out HB.out)
            have HM := Lib.hid (HM.out.old HB.out)
            go_wp2_with (first
              | (go_at_call 11; refine (works_any _).mono ?_; rintro e wz ⟨rfl, hbz⟩))
            go_ret
            exact ⟨rfl, below_tr HT.out hbz⟩
        · have k0 := HXC.out.c0; have k1 := HXC.out.c1; have k2 := HXC.out.c2
          go_wp2_with fail
          refine (write_no p h ys addr _ a2v _ _ HIC.out (by omega) HW.out (.inr ⟨1, rfl, by omega, .inr ⟨rfl, hal, by omega⟩⟩)).mono ?_
          clear k0 k1 k2
          rintro e wd ⟨rfl, hb⟩
          have HB := Lib.hid hb; clear hb
          have HM := Lib.hid (HIC.out.old HB.out); have HCD := Lib.hid (HC.out.old HB.out); have HX := Lib.hid (HXC.out.old HB.out); have HT := Lib.hid (below_tr HTC.out HB.out)
          have k0 := HX.out.c0; have k1 := HX.out.c1; have k2 := HX.out.c2
          go_wp2_with fail
          refine (read_no p h ys addr _ _ _ HM.out (by omega) HW.out (.inr ⟨1, rfl, by omega, .inr ⟨rfl, hal, by omega⟩⟩)).mono ?_
          clear k0 k1 k2
          rintro e we ⟨rfl, hb⟩
          have HB := Lib.hid hb; clear hb
          have HM := Lib.hid (HM.out.old HB.out); have HCD := Lib.hid (HCD.out.old HB.out); have HT := Lib.hid (below_tr HT.out HB.out)
          go_wp2_with (first
            | (go_at_call 14; refine (num_any _ _).mono ?_; rintro e w' ⟨rfl, rfl⟩)
            | (go_at_call 28; refine (same_any p h q k ys ys _ HM.out HCD.out).mono ?_; rw [decide_eq_true (rfl : ys = ys)]; rintro e w' ⟨rfl, rfl⟩)
            | (go_at_call 11; refine (works_any _).mono ?_; rintro e wz ⟨rfl, hbz⟩))
          go_ret
          exact ⟨rfl, below_tr HT.out hbz⟩
      · omega
    · go_enter Try.func10, Try.ntmps10
      go_wp2_with fail
      refine (sized_any a0 n0 c0 x0 a1 _ (B0.out.old HBX.out) l0 (by omega) (wf_i64 w1)).mono ?_
      rintro e wa ⟨g, ys, rfl, hr, hok, hyb, hg, hba⟩
      have hbd := Im.okB_bd hok
      have HR := Lib.hid hr; have HOK := Lib.hid hok; have HY := Lib.hid hyb; have HG := Lib.hid hg; have HBA := Lib.hid hba; clear hr hok hyb hg hba
      go_wp2_with fail
      refine (of_yes ys.length ys.length _ ys HOK.out rfl HY.out _ (Sl.of_row HR.out)).mono ?_
      rintro e wb ⟨p, h, rfl, hi, hp, hh, hbb⟩
      have HI := Lib.hid hi; have HP := Lib.hid hp; have HH := Lib.hid hh; have HBB := Lib.hid hbb; clear hi hp hh hbb
      have HRB := Lib.hid (HR.out.old HBB.out)
      obtain ⟨hba1, hbox⟩ := box_first HBA.out
      have HBA1 := Lib.hid hba1; have HBOX := Lib.hid hbox; clear hba1 hbox
      have HXB := Lib.hid (HBOX.out.old HBB.out)
      have HRH := Lib.hid (show w.heap.size < h from Nat.lt_of_lt_of_le HBOX.out.lt HH.out)
      have HGH := Lib.hid (show g < h from Nat.lt_of_lt_of_le HR.out.lt HH.out)
      have HTB := Lib.hid (below_tr HBA1.out HBB.out)
      go_wp2_with fail
      refine (copy_any p h ys _ HI.out).mono ?_
      rintro e wc ⟨q, k, rfl, hi2, hq, hk, hbc⟩
      have HC := Lib.hid hi2; have HKH := Lib.hid (show h < k ∧ h < q from ⟨Nat.lt_of_lt_of_le HI.out.row.lt hk, Nat.lt_of_lt_of_le HI.out.row.lt hq⟩); have HBC := Lib.hid hbc; clear hi2 hq hk hbc
      have HIC := Lib.hid (HI.out.old HBC.out); have HXC := Lib.hid (HXB.out.old HBC.out)
      have HTC := Lib.hid (below_tr HTB.out HBC.out)
      by_cases hal : addr % 2 = 0
      · by_cases hlt : addr < ys.length
        · have k0 := HXC.out.c0; have k1 := HXC.out.c1; have k2 := HXC.out.c2
          go_wp2_with fail
          refine (write_goes p h ys addr 2 a2v _ (by omega) hv HIC.out (by omega) hal hlt).mono ?_
          clear k0 k1 k2
          rintro e wd ⟨rfl, hi2, hgd⟩
          have HM := Lib.hid hi2; have HGD := Lib.hid hgd; clear hi2 hgd
          have HCD := Lib.hid (HC.out.kept HGD.out (by have := HKH.out; simp; omega) (by have := HKH.out; simp; omega))
          have HX := Lib.hid (HXC.out.kept HGD.out (by have := HRH.out; simp; omega))
          have HT := Lib.hid (HTC.out.grown HGD.out HTC.out.size (fun k hk => by cases hk; exact Nat.le_of_lt HRH.out))
          have hlen : (Im.sets ys addr (Im.byt a2v) 2).length = ys.length := Im.length_sets _ _ _ _
          have HGS := Lib.hid (fun j => Im.get_sets ys addr (Im.byt a2v) 2 (by omega) j)
          have hval : Im.val (Im.win (Im.sets ys addr (Im.byt a2v) 2) addr 2) = a2v % 65536 := by rw [Im.val_sets2 (by omega)]
          obtain ⟨bs, hbs⟩ : ∃ bs, bs = Im.sets ys addr (Im.byt a2v) 2 := ⟨_, rfl⟩
          rw [← hbs] at hlen hval HM HGS
          have HLEN := Lib.hid hlen; have HVAL := Lib.hid hval; clear hlen hval hbs
          have k0 := HX.out.c0; have k1 := HX.out.c1; have k2 := HX.out.c2
          go_wp2_with fail
          refine (read_goes p h bs addr 2 _ (by omega) HM.out (by omega) hal (by rw [HLEN.out]; exact hlt)).mono ?_
          rw [HVAL.out]
          clear k0 k1 k2
          rintro e we ⟨rfl, hb⟩
          have HB := Lib.hid hb; clear hb
          have HT := Lib.hid (below_tr HT.out HB.out)
          have HM := Lib.hid (HM.out.old HB.out)
          have HCD := Lib.hid (HCD.out.old HB.out)
          have HX := Lib.hid (HX.out.old HB.out)
          have k0 := HX.out.c0; have k1 := HX.out.c1; have k2 := HX.out.c2
          have hlow : bits .and .u32 a2v 65535 = a2v % 65536 := and65535 hv.1 hv.2
          go_wp2_with (go_at_call 14; refine (num_any _ _).mono ?_; rintro e w' ⟨rfl, rfl⟩)
          clear k0 k1 k2 hlow
          by_cases hin : oth < ys.length
          · refine (read_goes p h bs oth 1 _ (by omega) HM.out (by omega) (by omega) (by rw [HLEN.out]; exact hin)).mono ?_
            rw [Im.win1 (by rw [HLEN.out]; omega), Im.val1]
            obtain ⟨xo, hxo⟩ : ∃ xo, xo = bs.getD oth 0 := ⟨_, rfl⟩
            rw [← hxo]
            have HXO := Lib.hid hxo; clear hxo
            rintro e wf ⟨rfl, hb⟩
            have HB := Lib.hid hb; clear hb
            have HT := Lib.hid (below_tr HT.out HB.out)
            have HM := Lib.hid (HM.out.old HB.out)
            have HCD := Lib.hid (HCD.out.old HB.out)
            have HX := Lib.hid (HX.out.old HB.out)
            go_wp2_with fail
            refine (read_goes q k ys oth 1 _ (by omega) HCD.out (by omega) (by omega) hin).mono ?_
            rw [Im.win1 (by omega), Im.val1]
            obtain ⟨yo, hyo⟩ : ∃ yo, yo = ys.getD oth 0 := ⟨_, rfl⟩
            rw [← hyo]
            have HYO := Lib.hid hyo; clear hyo
            rintro e wg ⟨rfl, hb⟩
            have HB := Lib.hid hb; clear hb
            have HT := Lib.hid (below_tr HT.out HB.out)
            have HM := Lib.hid (HM.out.old HB.out)
            have HX := Lib.hid (HX.out.old HB.out)
            have hg := HGS.out oth
            by_cases hby : addr ≤ oth ∧ oth < addr + 2
            · obtain ⟨hy1, hy2⟩ := hby
              have hy3 : (oth : Int) < (addr : Int) + 2 := by omega
              clear hg
              have k0 := HX.out.c0; have k1 := HX.out.c1; have k2 := HX.out.c2
              have hbb := Im.getD_byt HM.out.byt
              have ba := hbb (addr - addr % 4)
              have bb := hbb (addr - addr % 4 + 1)
              have bc := hbb (addr - addr % 4 + 2)
              have bd := hbb (addr - addr % 4 + 3)
              clear hbb
              obtain ⟨at_, hat⟩ : ∃ at_ : Nat, at_ = addr - addr % 4 := ⟨_, rfl⟩
              rw [← hat] at ba bb bc bd
              obtain ⟨xa, exa⟩ : ∃ x, x = bs.getD at_ 0 := ⟨_, rfl⟩
              obtain ⟨xb, exb⟩ : ∃ x, x = bs.getD (at_ + 1) 0 := ⟨_, rfl⟩
              obtain ⟨xc, exc⟩ : ∃ x, x = bs.getD (at_ + 2) 0 := ⟨_, rfl⟩
              obtain ⟨xd, exd⟩ : ∃ x, x = bs.getD (at_ + 3) 0 := ⟨_, rfl⟩
              rw [← exa] at ba
              rw [← exb] at bb
              rw [← exc] at bc
              rw [← exd] at bd
              have EX := Lib.hid (And.intro exa (And.intro exb (And.intro exc exd)))
              clear exa exb exc exd
              have HAT := Lib.hid (show at_ % 4 = 0 ∧ at_ + 4 ≤ ys.length ∧ at_ ≤ addr ∧ (addr : Int) - (addr : Int) % 4 = (at_ : Int) by omega)
              clear hat
              go_wp2_with (go_at_call 14; refine (num_any _ _).mono ?_; rintro e w' ⟨rfl, rfl⟩)
              rw [HAT.out.2.2.2]
              have h1 := HAT.out.1; have h2 := HAT.out.2.1
              clear k0 k1 k2
              refine (read_goes p h bs (at_) 4 _ (by omega) HM.out (by omega) (by omega) (by rw [HLEN.out]; omega)).mono ?_
              rw [Im.win4 (by rw [HLEN.out]; omega), Im.val4, ← EX.out.1, ← EX.out.2.1, ← EX.out.2.2.1, ← EX.out.2.2.2]
              rintro e wr0 ⟨rfl, hb⟩
              have HB := Lib.hid hb; clear hb
              have HT := Lib.hid (below_tr HT.out HB.out)
              have HM := Lib.hid (HM.out.old HB.out)
              go_wp2_with fail
              refine (read_goes p h bs (at_) 2 _ (by omega) HM.out (by omega) (by omega) (by rw [HLEN.out]; omega)).mono ?_
              rw [Im.win2 (by rw [HLEN.out]; omega), Im.val2, ← EX.out.1, ← EX.out.2.1]
              rintro e wr1 ⟨rfl, hb⟩
              have HB := Lib.hid hb; clear hb
              have HT := Lib.hid (below_tr HT.out HB.out)
              have HM := Lib.hid (HM.out.old HB.out)
              go_wp2_with fail
              refine (read_goes p h bs (at_ + 2) 2 _ (by omega) HM.out (by omega) (by omega) (by rw [HLEN.out]; omega)).mono ?_
              rw [Im.win2 (by rw [HLEN.out]; omega), Im.val2, ← EX.out.2.2.1, ← EX.out.2.2.2]
              rintro e wr2 ⟨rfl, hb⟩
              have HB := Lib.hid hb; clear hb
              have HT := Lib.hid (below_tr HT.out HB.out)
              have HM := Lib.hid (HM.out.old HB.out)
              go_wp2_with fail
              refine (read_goes p h bs (at_ + 3) 1 _ (by omega) HM.out (by omega) (by omega) (by rw [HLEN.out]; omega)).mono ?_
              rw [Im.win1 (by rw [HLEN.out]; omega), Im.val1, ← EX.out.2.2.2]
              rintro e wr3 ⟨rfl, hb⟩
              have HB := Lib.hid hb; clear hb
              have HT := Lib.hid (below_tr HT.out HB.out)
              have HM := Lib.hid (HM.out.old HB.out)
              go_wp2_with (first
                | (go_at_call 11; refine (works_any _).mono ?_; rintro e wz ⟨rfl, hbz⟩))
              go_ret
              exact ⟨rfl, below_tr HT.out hbz⟩
            · rw [if_neg hby, ← HXO.out, ← HYO.out] at hg
              subst hg
              have hby2 : oth < addr ∨ addr + 2 ≤ oth := by omega
              clear hby
              rcases hby2 with hy | hy
              all_goals
                have k0 := HX.out.c0; have k1 := HX.out.c1; have k2 := HX.out.c2
                have hbb := Im.getD_byt HM.out.byt
                have ba := hbb (addr - addr % 4)
                have bb := hbb (addr - addr % 4 + 1)
                have bc := hbb (addr - addr % 4 + 2)
                have bd := hbb (addr - addr % 4 + 3)
                clear hbb
                obtain ⟨at_, hat⟩ : ∃ at_ : Nat, at_ = addr - addr % 4 := ⟨_, rfl⟩
                rw [← hat] at ba bb bc bd
                obtain ⟨xa, exa⟩ : ∃ x, x = bs.getD at_ 0 := ⟨_, rfl⟩
                obtain ⟨xb, exb⟩ : ∃ x, x = bs.getD (at_ + 1) 0 := ⟨_, rfl⟩
                obtain ⟨xc, exc⟩ : ∃ x, x = bs.getD (at_ + 2) 0 := ⟨_, rfl⟩
                obtain ⟨xd, exd⟩ : ∃ x, x = bs.getD (at_ + 3) 0 := ⟨_, rfl⟩
                rw [← exa] at ba
                rw [← exb] at bb
                rw [← exc] at bc
                rw [← exd] at bd
                have EX := Lib.hid (And.intro exa (And.intro exb (And.intro exc exd)))
                clear exa exb exc exd
                have HAT := Lib.hid (show at_ % 4 = 0 ∧ at_ + 4 ≤ ys.length ∧ at_ ≤ addr ∧ (addr : Int) - (addr : Int) % 4 = (at_ : Int) by omega)
                clear hat
                go_wp2_with (go_at_call 14; refine (num_any _ _).mono ?_; rintro e w' ⟨rfl, rfl⟩)
                rw [HAT.out.2.2.2]
                have h1 := HAT.out.1; have h2 := HAT.out.2.1
                clear k0 k1 k2
                refine (read_goes p h bs (at_) 4 _ (by omega) HM.out (by omega) (by omega) (by rw [HLEN.out]; omega)).mono ?_
                rw [Im.win4 (by rw [HLEN.out]; omega), Im.val4, ← EX.out.1, ← EX.out.2.1, ← EX.out.2.2.1, ← EX.out.2.2.2]
                rintro e wr0 ⟨rfl, hb⟩
                have HB := Lib.hid hb; clear hb
                have HT := Lib.hid (below_tr HT.out HB.out)
                have HM := Lib.hid (HM.out.old HB.out)
                go_wp2_with fail
                refine (read_goes p h bs (at_) 2 _ (by omega) HM.out (by omega) (by omega) (by rw [HLEN.out]; omega)).mono ?_
                rw [Im.win2 (by rw [HLEN.out]; omega), Im.val2, ← EX.out.1, ← EX.out.2.1]
                rintro e wr1 ⟨rfl, hb⟩
                have HB := Lib.hid hb; clear hb
                have HT := Lib.hid (below_tr HT.out HB.out)
                have HM := Lib.hid (HM.out.old HB.out)
                go_wp2_with fail
                refine (read_goes p h bs (at_ + 2) 2 _ (by omega) HM.out (by omega) (by omega) (by rw [HLEN.out]; omega)).mono ?_
                rw [Im.win2 (by rw [HLEN.out]; omega), Im.val2, ← EX.out.2.2.1, ← EX.out.2.2.2]
                rintro e wr2 ⟨rfl, hb⟩
                have HB := Lib.hid hb; clear hb
                have HT := Lib.hid (below_tr HT.out HB.out)
                have HM := Lib.hid (HM.out.old HB.out)
                go_wp2_with fail
                refine (read_goes p h bs (at_ + 3) 1 _ (by omega) HM.out (by omega) (by omega) (by rw [HLEN.out]; omega)).mono ?_
                rw [Im.win1 (by rw [HLEN.out]; omega), Im.val1, ← EX.out.2.2.2]
                rintro e wr3 ⟨rfl, hb⟩
                have HB := Lib.hid hb; clear hb
                have HT := Lib.hid (below_tr HT.out HB.out)
                have HM := Lib.hid (HM.out.old HB.out)
                go_wp2_with (first
                  | (go_at_call 11; refine (works_any _).mono ?_; rintro e wz ⟨rfl, hbz⟩))
                go_ret
                exact ⟨rfl, below_tr HT.out hbz⟩
          · refine (read_no p h bs oth 1 4 _ HM.out (by omega) (by decide) (.inr ⟨1, rfl, by omega, .inr ⟨rfl, by omega, by rw [HLEN.out]; omega⟩⟩)).mono ?_
            rintro e wf ⟨rfl, hb⟩
            have HB := Lib.hid hb; clear hb
            have HT := Lib.hid (below_tr HT.out HB.out)
            have HM := Lib.hid (HM.out.old HB.out)
            have HCD := Lib.hid (HCD.out.old HB.out)
            have HX := Lib.hid (HX.out.old HB.out)
            go_wp2_with fail
            refine (read_no q k ys oth 1 4 _ HCD.out (by omega) (by decide) (.inr ⟨1, rfl, by omega, .inr ⟨rfl, by omega, by omega⟩⟩)).mono ?_
            rintro e wg ⟨rfl, hb⟩
            have HB := Lib.hid hb; clear hb
            have HT := Lib.hid (below_tr HT.out HB.out)
            have HM := Lib.hid (HM.out.old HB.out)
            have HX := Lib.hid (HX.out.old HB.out)
            have k0 := HX.out.c0; have k1 := HX.out.c1; have k2 := HX.out.c2
            have hbb := Im.getD_byt HM.out.byt
            have ba := hbb (addr - addr % 4)
            have bb := hbb (addr - addr % 4 + 1)
            have bc := hbb (addr - addr % 4 + 2)
            have bd := hbb (addr - addr % 4 + 3)
            clear hbb
            obtain ⟨at_, hat⟩ : ∃ at_ : Nat, at_ = addr - addr % 4 := ⟨_, rfl⟩
            rw [← hat] at ba bb bc bd
            obtain ⟨xa, exa⟩ : ∃ x, x = bs.getD at_ 0 := ⟨_, rfl⟩
            obtain ⟨xb, exb⟩ : ∃ x, x = bs.getD (at_ + 1) 0 := ⟨_, rfl⟩
            obtain ⟨xc, exc⟩ : ∃ x, x = bs.getD (at_ + 2) 0 := ⟨_, rfl⟩
            obtain ⟨xd, exd⟩ : ∃ x, x = bs.getD (at_ + 3) 0 := ⟨_, rfl⟩
            rw [← exa] at ba
            rw [← exb] at bb
            rw [← exc] at bc
            rw [← exd] at bd
            have EX := Lib.hid (And.intro exa (And.intro exb (And.intro exc exd)))
            clear exa exb exc exd
            have HAT := Lib.hid (show at_ % 4 = 0 ∧ at_ + 4 ≤ ys.length ∧ at_ ≤ addr ∧ (addr : Int) - (addr : Int) % 4 = (at_ : Int) by omega)
            clear hat
            go_wp2_with (go_at_call 14; refine (num_any _ _).mono ?_; rintro e w' ⟨rfl, rfl⟩)
            rw [HAT.out.2.2.2]
            have h1 := HAT.out.1; have h2 := HAT.out.2.1
            clear k0 k1 k2
            refine (read_goes p h bs (at_) 4 _ (by omega) HM.out (by omega) (by omega) (by rw [HLEN.out]; omega)).mono ?_
            rw [Im.win4 (by rw [HLEN.out]; omega), Im.val4, ← EX.out.1, ← EX.out.2.1, ← EX.out.2.2.1, ← EX.out.2.2.2]
            rintro e wr0 ⟨rfl, hb⟩
            have HB := Lib.hid hb; clear hb
            have HT := Lib.hid (below_tr HT.out HB.out)
            have HM := Lib.hid (HM.out.old HB.out)
            go_wp2_with fail
            refine (read_goes p h bs (at_) 2 _ (by omega) HM.out (by omega) (by omega) (by rw [HLEN.out]; omega)).mono ?_
            rw [Im.win2 (by rw [HLEN.out]; omega), Im.val2, ← EX.out.1, ← EX.out.2.1]
            rintro e wr1 ⟨rfl, hb⟩
            have HB := Lib.hid hb; clear hb
            have HT := Lib.hid (below_tr HT.out HB.out)
            have HM := Lib.hid (HM.out.old HB.out)
            go_wp2_with fail
            refine (read_goes p h bs (at_ + 2) 2 _ (by omega) HM.out (by omega) (by omega) (by rw [HLEN.out]; omega)).mono ?_
            rw [Im.win2 (by rw [HLEN.out]; omega), Im.val2, ← EX.out.2.2.1, ← EX.out.2.2.2]
            rintro e wr2 ⟨rfl, hb⟩
            have HB := Lib.hid hb; clear hb
            have HT := Lib.hid (below_tr HT.out HB.out)
            have HM := Lib.hid (HM.out.old HB.out)
            go_wp2_with fail
            refine (read_goes p h bs (at_ + 3) 1 _ (by omega) HM.out (by omega) (by omega) (by rw [HLEN.out]; omega)).mono ?_
            rw [Im.win1 (by rw [HLEN.out]; omega), Im.val1, ← EX.out.2.2.2]
            rintro e wr3 ⟨rfl, hb⟩
            have HB := Lib.hid hb; clear hb
            have HT := Lib.hid (below_tr HT.out HB.out)
            have HM := Lib.hid (HM.out.old HB.out)
            go_wp2_with (first
              | (go_at_call 11; refine (works_any _).mono ?_; rintro e wz ⟨rfl, hbz⟩))
            go_ret
            exact ⟨rfl, below_tr HT.out hbz⟩
        · have k0 := HXC.out.c0; have k1 := HXC.out.c1; have k2 := HXC.out.c2
          go_wp2_with fail
          refine (write_no p h ys addr _ a2v _ _ HIC.out (by omega) HW.out (.inr ⟨2, rfl, by omega, .inr ⟨rfl, hal, by omega⟩⟩)).mono ?_
          clear k0 k1 k2
          rintro e wd ⟨rfl, hb⟩
          have HB := Lib.hid hb; clear hb
          have HM := Lib.hid (HIC.out.old HB.out); have HCD := Lib.hid (HC.out.old HB.out); have HX := Lib.hid (HXC.out.old HB.out); have HT := Lib.hid (below_tr HTC.out HB.out)
          have k0 := HX.out.c0; have k1 := HX.out.c1; have k2 := HX.out.c2
          go_wp2_with fail
          refine (read_no p h ys addr _ _ _ HM.out (by omega) HW.out (.inr ⟨2, rfl, by omega, .inr ⟨rfl, hal, by omega⟩⟩)).mono ?_
          clear k0 k1 k2
          rintro e we ⟨rfl, hb⟩
          have HB := Lib.hid hb; clear hb
          have HM := Lib.hid (HM.out.old HB.out); have HCD := Lib.hid (HCD.out.old HB.out); have HT := Lib.hid (below_tr HT.out HB.out)
          go_wp2_with (first
            | (go_at_call 14; refine (num_any _ _).mono ?_; rintro e w' ⟨rfl, rfl⟩)
            | (go_at_call 28; refine (same_any p h q k ys ys _ HM.out HCD.out).mono ?_; rw [decide_eq_true (rfl : ys = ys)]; rintro e w' ⟨rfl, rfl⟩)
            | (go_at_call 11; refine (works_any _).mono ?_; rintro e wz ⟨rfl, hbz⟩))
          go_ret
          exact ⟨rfl, below_tr HT.out hbz⟩
      · have k0 := HXC.out.c0; have k1 := HXC.out.c1; have k2 := HXC.out.c2
        go_wp2_with fail
        refine (write_no p h ys addr _ a2v _ _ HIC.out (by omega) HW.out (.inr ⟨2, rfl, by omega, .inl ⟨rfl, hal⟩⟩)).mono ?_
        clear k0 k1 k2
        rintro e wd ⟨rfl, hb⟩
        have HB := Lib.hid hb; clear hb
        have HM := Lib.hid (HIC.out.old HB.out); have HCD := Lib.hid (HC.out.old HB.out); have HX := Lib.hid (HXC.out.old HB.out); have HT := Lib.hid (below_tr HTC.out HB.out)
        have k0 := HX.out.c0; have k1 := HX.out.c1; have k2 := HX.out.c2
        go_wp2_with fail
        refine (read_no p h ys addr _ _ _ HM.out (by omega) HW.out (.inr ⟨2, rfl, by omega, .inl ⟨rfl, hal⟩⟩)).mono ?_
        clear k0 k1 k2
        rintro e we ⟨rfl, hb⟩
        have HB := Lib.hid hb; clear hb
        have HM := Lib.hid (HM.out.old HB.out); have HCD := Lib.hid (HCD.out.old HB.out); have HT := Lib.hid (below_tr HT.out HB.out)
        go_wp2_with (first
          | (go_at_call 14; refine (num_any _ _).mono ?_; rintro e w' ⟨rfl, rfl⟩)
          | (go_at_call 28; refine (same_any p h q k ys ys _ HM.out HCD.out).mono ?_; rw [decide_eq_true (rfl : ys = ys)]; rintro e w' ⟨rfl, rfl⟩)
          | (go_at_call 11; refine (works_any _).mono ?_; rintro e wz ⟨rfl, hbz⟩))
        go_ret
        exact ⟨rfl, below_tr HT.out hbz⟩
    · go_enter Try.func10, Try.ntmps10
      go_wp2_with fail
      refine (sized_any a0 n0 c0 x0 a1 _ (B0.out.old HBX.out) l0 (by omega) (wf_i64 w1)).mono ?_
      rintro e wa ⟨g, ys, rfl, hr, hok, hyb, hg, hba⟩
      have hbd := Im.okB_bd hok
      have HR := Lib.hid hr; have HOK := Lib.hid hok; have HY := Lib.hid hyb; have HG := Lib.hid hg; have HBA := Lib.hid hba; clear hr hok hyb hg hba
      go_wp2_with fail
      refine (of_yes ys.length ys.length _ ys HOK.out rfl HY.out _ (Sl.of_row HR.out)).mono ?_
      rintro e wb ⟨p, h, rfl, hi, hp, hh, hbb⟩
      have HI := Lib.hid hi; have HP := Lib.hid hp; have HH := Lib.hid hh; have HBB := Lib.hid hbb; clear hi hp hh hbb
      have HRB := Lib.hid (HR.out.old HBB.out)
      obtain ⟨hba1, hbox⟩ := box_first HBA.out
      have HBA1 := Lib.hid hba1; have HBOX := Lib.hid hbox; clear hba1 hbox
      have HXB := Lib.hid (HBOX.out.old HBB.out)
      have HRH := Lib.hid (show w.heap.size < h from Nat.lt_of_lt_of_le HBOX.out.lt HH.out)
      have HGH := Lib.hid (show g < h from Nat.lt_of_lt_of_le HR.out.lt HH.out)
      have HTB := Lib.hid (below_tr HBA1.out HBB.out)
      go_wp2_with fail
      refine (copy_any p h ys _ HI.out).mono ?_
      rintro e wc ⟨q, k, rfl, hi2, hq, hk, hbc⟩
      have HC := Lib.hid hi2; have HKH := Lib.hid (show h < k ∧ h < q from ⟨Nat.lt_of_lt_of_le HI.out.row.lt hk, Nat.lt_of_lt_of_le HI.out.row.lt hq⟩); have HBC := Lib.hid hbc; clear hi2 hq hk hbc
      have HIC := Lib.hid (HI.out.old HBC.out); have HXC := Lib.hid (HXB.out.old HBC.out)
      have HTC := Lib.hid (below_tr HTB.out HBC.out)
      by_cases hal : addr % 4 = 0
      · by_cases hlt : addr < ys.length
        · have k0 := HXC.out.c0; have k1 := HXC.out.c1; have k2 := HXC.out.c2
          go_wp2_with fail
          refine (write_goes p h ys addr 4 a2v _ (by omega) hv HIC.out (by omega) hal hlt).mono ?_
          clear k0 k1 k2
          rintro e wd ⟨rfl, hi2, hgd⟩
          have HM := Lib.hid hi2; have HGD := Lib.hid hgd; clear hi2 hgd
          have HCD := Lib.hid (HC.out.kept HGD.out (by have := HKH.out; simp; omega) (by have := HKH.out; simp; omega))
          have HX := Lib.hid (HXC.out.kept HGD.out (by have := HRH.out; simp; omega))
          have HT := Lib.hid (HTC.out.grown HGD.out HTC.out.size (fun k hk => by cases hk; exact Nat.le_of_lt HRH.out))
          have hlen : (Im.sets ys addr (Im.byt a2v) 4).length = ys.length := Im.length_sets _ _ _ _
          have HGS := Lib.hid (fun j => Im.get_sets ys addr (Im.byt a2v) 4 (by omega) j)
          have hval : Im.val (Im.win (Im.sets ys addr (Im.byt a2v) 4) addr 4) = a2v := by rw [Im.val_sets4 (by omega)]; omega
          obtain ⟨bs, hbs⟩ : ∃ bs, bs = Im.sets ys addr (Im.byt a2v) 4 := ⟨_, rfl⟩
          rw [← hbs] at hlen hval HM HGS
          have HLEN := Lib.hid hlen; have HVAL := Lib.hid hval; clear hlen hval hbs
          have k0 := HX.out.c0; have k1 := HX.out.c1; have k2 := HX.out.c2
          go_wp2_with fail
          refine (read_goes p h bs addr 4 _ (by omega) HM.out (by omega) hal (by rw [HLEN.out]; exact hlt)).mono ?_
          rw [HVAL.out]
          clear k0 k1 k2
          rintro e we ⟨rfl, hb⟩
          have HB := Lib.hid hb; clear hb
          have HT := Lib.hid (below_tr HT.out HB.out)
          have HM := Lib.hid (HM.out.old HB.out)
          have HCD := Lib.hid (HCD.out.old HB.out)
          have HX := Lib.hid (HX.out.old HB.out)
          have k0 := HX.out.c0; have k1 := HX.out.c1; have k2 := HX.out.c2
          go_wp2_with (go_at_call 14; refine (num_any _ _).mono ?_; rintro e w' ⟨rfl, rfl⟩)
          clear k0 k1 k2
          by_cases hin : oth < ys.length
          · refine (read_goes p h bs oth 1 _ (by omega) HM.out (by omega) (by omega) (by rw [HLEN.out]; exact hin)).mono ?_
            rw [Im.win1 (by rw [HLEN.out]; omega), Im.val1]
            obtain ⟨xo, hxo⟩ : ∃ xo, xo = bs.getD oth 0 := ⟨_, rfl⟩
            rw [← hxo]
            have HXO := Lib.hid hxo; clear hxo
            rintro e wf ⟨rfl, hb⟩
            have HB := Lib.hid hb; clear hb
            have HT := Lib.hid (below_tr HT.out HB.out)
            have HM := Lib.hid (HM.out.old HB.out)
            have HCD := Lib.hid (HCD.out.old HB.out)
            have HX := Lib.hid (HX.out.old HB.out)
            go_wp2_with fail
            refine (read_goes q k ys oth 1 _ (by omega) HCD.out (by omega) (by omega) hin).mono ?_
            rw [Im.win1 (by omega), Im.val1]
            obtain ⟨yo, hyo⟩ : ∃ yo, yo = ys.getD oth 0 := ⟨_, rfl⟩
            rw [← hyo]
            have HYO := Lib.hid hyo; clear hyo
            rintro e wg ⟨rfl, hb⟩
            have HB := Lib.hid hb; clear hb
            have HT := Lib.hid (below_tr HT.out HB.out)
            have HM := Lib.hid (HM.out.old HB.out)
            have HX := Lib.hid (HX.out.old HB.out)
            have hg := HGS.out oth
            by_cases hby : addr ≤ oth ∧ oth < addr + 4
            · obtain ⟨hy1, hy2⟩ := hby
              have hy3 : (oth : Int) < (addr : Int) + 4 := by omega
              clear hg
              have k0 := HX.out.c0; have k1 := HX.out.c1; have k2 := HX.out.c2
              have hbb := Im.getD_byt HM.out.byt
              have ba := hbb (addr - addr % 4)
              have bb := hbb (addr - addr % 4 + 1)
              have bc := hbb (addr - addr % 4 + 2)
              have bd := hbb (addr - addr % 4 + 3)
              clear hbb
              obtain ⟨at_, hat⟩ : ∃ at_ : Nat, at_ = addr - addr % 4 := ⟨_, rfl⟩
              rw [← hat] at ba bb bc bd
              obtain ⟨xa, exa⟩ : ∃ x, x = bs.getD at_ 0 := ⟨_, rfl⟩
              obtain ⟨xb, exb⟩ : ∃ x, x = bs.getD (at_ + 1) 0 := ⟨_, rfl⟩
              obtain ⟨xc, exc⟩ : ∃ x, x = bs.getD (at_ + 2) 0 := ⟨_, rfl⟩
              obtain ⟨xd, exd⟩ : ∃ x, x = bs.getD (at_ + 3) 0 := ⟨_, rfl⟩
              rw [← exa] at ba
              rw [← exb] at bb
              rw [← exc] at bc
              rw [← exd] at bd
              have EX := Lib.hid (And.intro exa (And.intro exb (And.intro exc exd)))
              clear exa exb exc exd
              have HAT := Lib.hid (show at_ % 4 = 0 ∧ at_ + 4 ≤ ys.length ∧ at_ ≤ addr ∧ (addr : Int) - (addr : Int) % 4 = (at_ : Int) by omega)
              clear hat
              go_wp2_with (go_at_call 14; refine (num_any _ _).mono ?_; rintro e w' ⟨rfl, rfl⟩)
              rw [HAT.out.2.2.2]
              have h1 := HAT.out.1; have h2 := HAT.out.2.1
              clear k0 k1 k2
              refine (read_goes p h bs (at_) 4 _ (by omega) HM.out (by omega) (by omega) (by rw [HLEN.out]; omega)).mono ?_
              rw [Im.win4 (by rw [HLEN.out]; omega), Im.val4, ← EX.out.1, ← EX.out.2.1, ← EX.out.2.2.1, ← EX.out.2.2.2]
              rintro e wr0 ⟨rfl, hb⟩
              have HB := Lib.hid hb; clear hb
              have HT := Lib.hid (below_tr HT.out HB.out)
              have HM := Lib.hid (HM.out.old HB.out)
              go_wp2_with fail
              refine (read_goes p h bs (at_) 2 _ (by omega) HM.out (by omega) (by omega) (by rw [HLEN.out]; omega)).mono ?_
              rw [Im.win2 (by rw [HLEN.out]; omega), Im.val2, ← EX.out.1, ← EX.out.2.1]
              rintro e wr1 ⟨rfl, hb⟩
              have HB := Lib.hid hb; clear hb
              have HT := Lib.hid (below_tr HT.out HB.out)
              have HM := Lib.hid (HM.out.old HB.out)
              go_wp2_with fail
              refine (read_goes p h bs (at_ + 2) 2 _ (by omega) HM.out (by omega) (by omega) (by rw [HLEN.out]; omega)).mono ?_
              rw [Im.win2 (by rw [HLEN.out]; omega), Im.val2, ← EX.out.2.2.1, ← EX.out.2.2.2]
              rintro e wr2 ⟨rfl, hb⟩
              have HB := Lib.hid hb; clear hb
              have HT := Lib.hid (below_tr HT.out HB.out)
              have HM := Lib.hid (HM.out.old HB.out)
              go_wp2_with fail
              refine (read_goes p h bs (at_ + 3) 1 _ (by omega) HM.out (by omega) (by omega) (by rw [HLEN.out]; omega)).mono ?_
              rw [Im.win1 (by rw [HLEN.out]; omega), Im.val1, ← EX.out.2.2.2]
              rintro e wr3 ⟨rfl, hb⟩
              have HB := Lib.hid hb; clear hb
              have HT := Lib.hid (below_tr HT.out HB.out)
              have HM := Lib.hid (HM.out.old HB.out)
              go_wp2_with (first
                | (go_at_call 11; refine (works_any _).mono ?_; rintro e wz ⟨rfl, hbz⟩))
              go_ret
              exact ⟨rfl, below_tr HT.out hbz⟩
            · rw [if_neg hby, ← HXO.out, ← HYO.out] at hg
              subst hg
              have hby2 : oth < addr ∨ addr + 4 ≤ oth := by omega
              clear hby
              rcases hby2 with hy | hy
              all_goals
                have k0 := HX.out.c0; have k1 := HX.out.c1; have k2 := HX.out.c2
                have hbb := Im.getD_byt HM.out.byt
                have ba := hbb (addr - addr % 4)
                have bb := hbb (addr - addr % 4 + 1)
                have bc := hbb (addr - addr % 4 + 2)
                have bd := hbb (addr - addr % 4 + 3)
                clear hbb
                obtain ⟨at_, hat⟩ : ∃ at_ : Nat, at_ = addr - addr % 4 := ⟨_, rfl⟩
                rw [← hat] at ba bb bc bd
                obtain ⟨xa, exa⟩ : ∃ x, x = bs.getD at_ 0 := ⟨_, rfl⟩
                obtain ⟨xb, exb⟩ : ∃ x, x = bs.getD (at_ + 1) 0 := ⟨_, rfl⟩
                obtain ⟨xc, exc⟩ : ∃ x, x = bs.getD (at_ + 2) 0 := ⟨_, rfl⟩
                obtain ⟨xd, exd⟩ : ∃ x, x = bs.getD (at_ + 3) 0 := ⟨_, rfl⟩
                rw [← exa] at ba
                rw [← exb] at bb
                rw [← exc] at bc
                rw [← exd] at bd
                have EX := Lib.hid (And.intro exa (And.intro exb (And.intro exc exd)))
                clear exa exb exc exd
                have HAT := Lib.hid (show at_ % 4 = 0 ∧ at_ + 4 ≤ ys.length ∧ at_ ≤ addr ∧ (addr : Int) - (addr : Int) % 4 = (at_ : Int) by omega)
                clear hat
                go_wp2_with (go_at_call 14; refine (num_any _ _).mono ?_; rintro e w' ⟨rfl, rfl⟩)
                rw [HAT.out.2.2.2]
                have h1 := HAT.out.1; have h2 := HAT.out.2.1
                clear k0 k1 k2
                refine (read_goes p h bs (at_) 4 _ (by omega) HM.out (by omega) (by omega) (by rw [HLEN.out]; omega)).mono ?_
                rw [Im.win4 (by rw [HLEN.out]; omega), Im.val4, ← EX.out.1, ← EX.out.2.1, ← EX.out.2.2.1, ← EX.out.2.2.2]
                rintro e wr0 ⟨rfl, hb⟩
                have HB := Lib.hid hb; clear hb
                have HT := Lib.hid (below_tr HT.out HB.out)
                have HM := Lib.hid (HM.out.old HB.out)
                go_wp2_with fail
                refine (read_goes p h bs (at_) 2 _ (by omega) HM.out (by omega) (by omega) (by rw [HLEN.out]; omega)).mono ?_
                rw [Im.win2 (by rw [HLEN.out]; omega), Im.val2, ← EX.out.1, ← EX.out.2.1]
                rintro e wr1 ⟨rfl, hb⟩
                have HB := Lib.hid hb; clear hb
                have HT := Lib.hid (below_tr HT.out HB.out)
                have HM := Lib.hid (HM.out.old HB.out)
                go_wp2_with fail
                refine (read_goes p h bs (at_ + 2) 2 _ (by omega) HM.out (by omega) (by omega) (by rw [HLEN.out]; omega)).mono ?_
                rw [Im.win2 (by rw [HLEN.out]; omega), Im.val2, ← EX.out.2.2.1, ← EX.out.2.2.2]
                rintro e wr2 ⟨rfl, hb⟩
                have HB := Lib.hid hb; clear hb
                have HT := Lib.hid (below_tr HT.out HB.out)
                have HM := Lib.hid (HM.out.old HB.out)
                go_wp2_with fail
                refine (read_goes p h bs (at_ + 3) 1 _ (by omega) HM.out (by omega) (by omega) (by rw [HLEN.out]; omega)).mono ?_
                rw [Im.win1 (by rw [HLEN.out]; omega), Im.val1, ← EX.out.2.2.2]
                rintro e wr3 ⟨rfl, hb⟩
                have HB := Lib.hid hb; clear hb
                have HT := Lib.hid (below_tr HT.out HB.out)
                have HM := Lib.hid (HM.out.old HB.out)
                go_wp2_with (first
                  | (go_at_call 11; refine (works_any _).mono ?_; rintro e wz ⟨rfl, hbz⟩))
                go_ret
                exact ⟨rfl, below_tr HT.out hbz⟩
          · refine (read_no p h bs oth 1 4 _ HM.out (by omega) (by decide) (.inr ⟨1, rfl, by omega, .inr ⟨rfl, by omega, by rw [HLEN.out]; omega⟩⟩)).mono ?_
            rintro e wf ⟨rfl, hb⟩
            have HB := Lib.hid hb; clear hb
            have HT := Lib.hid (below_tr HT.out HB.out)
            have HM := Lib.hid (HM.out.old HB.out)
            have HCD := Lib.hid (HCD.out.old HB.out)
            have HX := Lib.hid (HX.out.old HB.out)
            go_wp2_with fail
            refine (read_no q k ys oth 1 4 _ HCD.out (by omega) (by decide) (.inr ⟨1, rfl, by omega, .inr ⟨rfl, by omega, by omega⟩⟩)).mono ?_
            rintro e wg ⟨rfl, hb⟩
            have HB := Lib.hid hb; clear hb
            have HT := Lib.hid (below_tr HT.out HB.out)
            have HM := Lib.hid (HM.out.old HB.out)
            have HX := Lib.hid (HX.out.old HB.out)
            have k0 := HX.out.c0; have k1 := HX.out.c1; have k2 := HX.out.c2
            have hbb := Im.getD_byt HM.out.byt
            have ba := hbb (addr - addr % 4)
            have bb := hbb (addr - addr % 4 + 1)
            have bc := hbb (addr - addr % 4 + 2)
            have bd := hbb (addr - addr % 4 + 3)
            clear hbb
            obtain ⟨at_, hat⟩ : ∃ at_ : Nat, at_ = addr - addr % 4 := ⟨_, rfl⟩
            rw [← hat] at ba bb bc bd
            obtain ⟨xa, exa⟩ : ∃ x, x = bs.getD at_ 0 := ⟨_, rfl⟩
            obtain ⟨xb, exb⟩ : ∃ x, x = bs.getD (at_ + 1) 0 := ⟨_, rfl⟩
            obtain ⟨xc, exc⟩ : ∃ x, x = bs.getD (at_ + 2) 0 := ⟨_, rfl⟩
            obtain ⟨xd, exd⟩ : ∃ x, x = bs.getD (at_ + 3) 0 := ⟨_, rfl⟩
            rw [← exa] at ba
            rw [← exb] at bb
            rw [← exc] at bc
            rw [← exd] at bd
            have EX := Lib.hid (And.intro exa (And.intro exb (And.intro exc exd)))
            clear exa exb exc exd
            have HAT := Lib.hid (show at_ % 4 = 0 ∧ at_ + 4 ≤ ys.length ∧ at_ ≤ addr ∧ (addr : Int) - (addr : Int) % 4 = (at_ : Int) by omega)
            clear hat
            go_wp2_with (go_at_call 14; refine (num_any _ _).mono ?_; rintro e w' ⟨rfl, rfl⟩)
            rw [HAT.out.2.2.2]
            have h1 := HAT.out.1; have h2 := HAT.out.2.1
            clear k0 k1 k2
            refine (read_goes p h bs (at_) 4 _ (by omega) HM.out (by omega) (by omega) (by rw [HLEN.out]; omega)).mono ?_
            rw [Im.win4 (by rw [HLEN.out]; omega), Im.val4, ← EX.out.1, ← EX.out.2.1, ← EX.out.2.2.1, ← EX.out.2.2.2]
            rintro e wr0 ⟨rfl, hb⟩
            have HB := Lib.hid hb; clear hb
            have HT := Lib.hid (below_tr HT.out HB.out)
            have HM := Lib.hid (HM.out.old HB.out)
            go_wp2_with fail
            refine (read_goes p h bs (at_) 2 _ (by omega) HM.out (by omega) (by omega) (by rw [HLEN.out]; omega)).mono ?_
            rw [Im.win2 (by rw [HLEN.out]; omega), Im.val2, ← EX.out.1, ← EX.out.2.1]
            rintro e wr1 ⟨rfl, hb⟩
            have HB := Lib.hid hb; clear hb
            have HT := Lib.hid (below_tr HT.out HB.out)
            have HM := Lib.hid (HM.out.old HB.out)
            go_wp2_with fail
            refine (read_goes p h bs (at_ + 2) 2 _ (by omega) HM.out (by omega) (by omega) (by rw [HLEN.out]; omega)).mono ?_
            rw [Im.win2 (by rw [HLEN.out]; omega), Im.val2, ← EX.out.2.2.1, ← EX.out.2.2.2]
            rintro e wr2 ⟨rfl, hb⟩
            have HB := Lib.hid hb; clear hb
            have HT := Lib.hid (below_tr HT.out HB.out)
            have HM := Lib.hid (HM.out.old HB.out)
            go_wp2_with fail
            refine (read_goes p h bs (at_ + 3) 1 _ (by omega) HM.out (by omega) (by omega) (by rw [HLEN.out]; omega)).mono ?_
            rw [Im.win1 (by rw [HLEN.out]; omega), Im.val1, ← EX.out.2.2.2]
            rintro e wr3 ⟨rfl, hb⟩
            have HB := Lib.hid hb; clear hb
            have HT := Lib.hid (below_tr HT.out HB.out)
            have HM := Lib.hid (HM.out.old HB.out)
            go_wp2_with (first
              | (go_at_call 11; refine (works_any _).mono ?_; rintro e wz ⟨rfl, hbz⟩))
            go_ret
            exact ⟨rfl, below_tr HT.out hbz⟩
        · have k0 := HXC.out.c0; have k1 := HXC.out.c1; have k2 := HXC.out.c2
          go_wp2_with fail
          refine (write_no p h ys addr _ a2v _ _ HIC.out (by omega) HW.out (.inr ⟨4, rfl, by omega, .inr ⟨rfl, hal, by omega⟩⟩)).mono ?_
          clear k0 k1 k2
          rintro e wd ⟨rfl, hb⟩
          have HB := Lib.hid hb; clear hb
          have HM := Lib.hid (HIC.out.old HB.out); have HCD := Lib.hid (HC.out.old HB.out); have HX := Lib.hid (HXC.out.old HB.out); have HT := Lib.hid (below_tr HTC.out HB.out)
          have k0 := HX.out.c0; have k1 := HX.out.c1; have k2 := HX.out.c2
          go_wp2_with fail
          refine (read_no p h ys addr _ _ _ HM.out (by omega) HW.out (.inr ⟨4, rfl, by omega, .inr ⟨rfl, hal, by omega⟩⟩)).mono ?_
          clear k0 k1 k2
          rintro e we ⟨rfl, hb⟩
          have HB := Lib.hid hb; clear hb
          have HM := Lib.hid (HM.out.old HB.out); have HCD := Lib.hid (HCD.out.old HB.out); have HT := Lib.hid (below_tr HT.out HB.out)
          go_wp2_with (first
            | (go_at_call 14; refine (num_any _ _).mono ?_; rintro e w' ⟨rfl, rfl⟩)
            | (go_at_call 28; refine (same_any p h q k ys ys _ HM.out HCD.out).mono ?_; rw [decide_eq_true (rfl : ys = ys)]; rintro e w' ⟨rfl, rfl⟩)
            | (go_at_call 11; refine (works_any _).mono ?_; rintro e wz ⟨rfl, hbz⟩))
          go_ret
          exact ⟨rfl, below_tr HT.out hbz⟩
      · have k0 := HXC.out.c0; have k1 := HXC.out.c1; have k2 := HXC.out.c2
        go_wp2_with fail
        refine (write_no p h ys addr _ a2v _ _ HIC.out (by omega) HW.out (.inr ⟨4, rfl, by omega, .inl ⟨rfl, hal⟩⟩)).mono ?_
        clear k0 k1 k2
        rintro e wd ⟨rfl, hb⟩
        have HB := Lib.hid hb; clear hb
        have HM := Lib.hid (HIC.out.old HB.out); have HCD := Lib.hid (HC.out.old HB.out); have HX := Lib.hid (HXC.out.old HB.out); have HT := Lib.hid (below_tr HTC.out HB.out)
        have k0 := HX.out.c0; have k1 := HX.out.c1; have k2 := HX.out.c2
        go_wp2_with fail
        refine (read_no p h ys addr _ _ _ HM.out (by omega) HW.out (.inr ⟨4, rfl, by omega, .inl ⟨rfl, hal⟩⟩)).mono ?_
        clear k0 k1 k2
        rintro e we ⟨rfl, hb⟩
        have HB := Lib.hid hb; clear hb
        have HM := Lib.hid (HM.out.old HB.out); have HCD := Lib.hid (HCD.out.old HB.out); have HT := Lib.hid (below_tr HT.out HB.out)
        go_wp2_with (first
          | (go_at_call 14; refine (num_any _ _).mono ?_; rintro e w' ⟨rfl, rfl⟩)
          | (go_at_call 28; refine (same_any p h q k ys ys _ HM.out HCD.out).mono ?_; rw [decide_eq_true (rfl : ys = ys)]; rintro e w' ⟨rfl, rfl⟩)
          | (go_at_call 11; refine (works_any _).mono ?_; rintro e wz ⟨rfl, hbz⟩))
        go_ret
        exact ⟨rfl, below_tr HT.out hbz⟩
    · go_enter Try.func10, Try.ntmps10
      go_wp2_with fail
      refine (sized_any a0 n0 c0 x0 a1 _ (B0.out.old HBX.out) l0 (by omega) (wf_i64 w1)).mono ?_
      rintro e wa ⟨g, ys, rfl, hr, hok, hyb, hg, hba⟩
      have hbd := Im.okB_bd hok
      have HR := Lib.hid hr; have HOK := Lib.hid hok; have HY := Lib.hid hyb; have HG := Lib.hid hg; have HBA := Lib.hid hba; clear hr hok hyb hg hba
      go_wp2_with fail
      refine (of_yes ys.length ys.length _ ys HOK.out rfl HY.out _ (Sl.of_row HR.out)).mono ?_
      rintro e wb ⟨p, h, rfl, hi, hp, hh, hbb⟩
      have HI := Lib.hid hi; have HP := Lib.hid hp; have HH := Lib.hid hh; have HBB := Lib.hid hbb; clear hi hp hh hbb
      have HRB := Lib.hid (HR.out.old HBB.out)
      obtain ⟨hba1, hbox⟩ := box_first HBA.out
      have HBA1 := Lib.hid hba1; have HBOX := Lib.hid hbox; clear hba1 hbox
      have HXB := Lib.hid (HBOX.out.old HBB.out)
      have HRH := Lib.hid (show w.heap.size < h from Nat.lt_of_lt_of_le HBOX.out.lt HH.out)
      have HGH := Lib.hid (show g < h from Nat.lt_of_lt_of_le HR.out.lt HH.out)
      have HTB := Lib.hid (below_tr HBA1.out HBB.out)
      go_wp2_with fail
      refine (copy_any p h ys _ HI.out).mono ?_
      rintro e wc ⟨q, k, rfl, hi2, hq, hk, hbc⟩
      have HC := Lib.hid hi2; have HKH := Lib.hid (show h < k ∧ h < q from ⟨Nat.lt_of_lt_of_le HI.out.row.lt hk, Nat.lt_of_lt_of_le HI.out.row.lt hq⟩); have HBC := Lib.hid hbc; clear hi2 hq hk hbc
      have HIC := Lib.hid (HI.out.old HBC.out); have HXC := Lib.hid (HXB.out.old HBC.out)
      have HTC := Lib.hid (below_tr HTB.out HBC.out)
      have k0 := HXC.out.c0; have k1 := HXC.out.c1; have k2 := HXC.out.c2
      go_wp2_with fail
      refine (write_no p h ys addr _ a2v _ _ HIC.out (by omega) HW.out (.inl ⟨rfl, hw4⟩)).mono ?_
      clear k0 k1 k2
      rintro e wd ⟨rfl, hb⟩
      have HB := Lib.hid hb; clear hb
      have HM := Lib.hid (HIC.out.old HB.out); have HCD := Lib.hid (HC.out.old HB.out); have HX := Lib.hid (HXC.out.old HB.out); have HT := Lib.hid (below_tr HTC.out HB.out)
      have k0 := HX.out.c0; have k1 := HX.out.c1; have k2 := HX.out.c2
      go_wp2_with fail
      refine (read_no p h ys addr _ _ _ HM.out (by omega) HW.out (.inl ⟨rfl, hw4⟩)).mono ?_
      clear k0 k1 k2
      rintro e we ⟨rfl, hb⟩
      have HB := Lib.hid hb; clear hb
      have HM := Lib.hid (HM.out.old HB.out); have HCD := Lib.hid (HCD.out.old HB.out); have HT := Lib.hid (below_tr HT.out HB.out)
      go_wp2_with (first
        | (go_at_call 14; refine (num_any _ _).mono ?_; rintro e w' ⟨rfl, rfl⟩)
        | (go_at_call 28; refine (same_any p h q k ys ys _ HM.out HCD.out).mono ?_; rw [decide_eq_true (rfl : ys = ys)]; rintro e w' ⟨rfl, rfl⟩)
        | (go_at_call 11; refine (works_any _).mono ?_; rintro e wz ⟨rfl, hbz⟩))
      go_ret
      exact ⟨rfl, below_tr HT.out hbz⟩

/-! THE ROW -/
set_option maxRecDepth 100000 in
theorem lifted (os : Os) (started : os.Started) (H : Type) (enc : TypeId × Value → H) :
    ReturnsInHanded {} Try.checked os 10 .any (Rows.imageAgainSpec.pre6 enc Try.prog Try.f10 Rows.imageAgainRow.domain false) (Rows.imageAgainSpec.post enc Try.prog Try.f10 false true false false) := by
  refine returnsInHanded_of_change (C := Try.checked) own started (by kernel_rfl) Try.func10
    (ChangeSpec.witness6 (enc := enc) (C := Try.checked) false ⟨#[], #[.slice none 0 0, .int .i64 0, .agg #[.int .u32 0, .int .i64 0, .int .u32 0], .int .u32 0], []⟩ 8 (by kernel_rfl) (by kernel_rfl) (by kernel_rfl) (by kernel_rfl)) ?_
  intro W base args ds gs before hval0 hW hcnd _
  have hval : ∀ (j : Nat) t v, Try.f10.params[j]? = some t → args[j]? = some v → Value.okWide Try.prog W .any base t v := hval0
  have hW' := hW
  obtain ⟨p, q, hA0, hV, rfl, hfz, hnd⟩ := hW
  have hA : DataW.TrodAll enc Try.prog W 0 (fun _ => true) true Try.f10.params.toList args.toList ds p := hA0
  rw [Try.params10] at hA hval
  obtain ⟨v0, vs0, d0, ds0, p0, q0, hargs, rfl, rfl, h0, r0⟩ := trodAll_cons hA
  obtain ⟨v1, vs1, d1, ds1, p1, q1, rfl, rfl, rfl, h1, r1⟩ := trodAll_cons r0
  obtain ⟨v2, vs2, d2, ds2, p2, q2, rfl, rfl, rfl, h2, r2⟩ := trodAll_cons r1
  obtain ⟨v3, vs3, d3, ds3, p3, q3, rfl, rfl, rfl, h3, r3⟩ := trodAll_cons r2
  obtain ⟨rfl, rfl, rfl⟩ := trodAll_nil r3
  obtain rfl : args = #[v0, v1, v2, v3] := by cases args; simp_all
  obtain ⟨rfl, rfl⟩ := trodVars_none hV
  clear hA0 hval0
  simp only [List.append_nil] at hW'
  have hlt : ∀ x ∈ p0 ++ (p1 ++ (p2 ++ (p3))), x.block < W.heap.size := fun x hx => by simpa using hW'.lt x (by simpa using hx)
  obtain ⟨a0, n0, c0, rfl⟩ := okWide_slice Try.underlying22 (hval 0 22 v0 rfl rfl)
  obtain ⟨x0, l0, m0, b0⟩ := open_bytes h0
  have h1k := h1
  obtain ⟨a1, rfl, rfl, rfl, w1⟩ := open_int Try.underlying3 (hval 1 3 v1 rfl rfl) h1
  obtain ⟨a2, a2w, a2v, rfl, w2, w2w, w2v⟩ := open_acc (hval 2 36 v2 rfl rfl) h2
  have h3k := h3
  obtain ⟨a3, rfl, rfl, rfl, w3⟩ := open_int Try.underlying34 (hval 3 34 v3 rfl rfl) h3
  refine (walk W a0 n0 c0 x0 l0 m0 b0 a1 w1 a2 a2w a2v w2 w2w w2v a3 w3).mono fun e W' ⟨he, hb⟩ => ?_
  subst he
  have harg0 : DataW.Trod enc Try.prog W' 0 (fun b => decide (b < W.heap.size)) true 22 _ _ _ := Below.trod laidOut (by kernel_rfl) (of_decide_eq_true (by kernel_rfl)) h0 hb (fun x hx => hlt x (by simp [hx]))
  have harg1 : DataW.Trod enc Try.prog W' 0 (fun b => decide (b < W.heap.size)) true 3 _ _ _ := Below.trod laidOut (by kernel_rfl) (of_decide_eq_true (by kernel_rfl)) h1k hb (fun x hx => by cases hx)
  have harg2 : DataW.Trod enc Try.prog W' 0 (fun b => decide (b < W.heap.size)) true 36 _ _ _ := Below.trod laidOut (by kernel_rfl) (of_decide_eq_true (by kernel_rfl)) h2 hb (fun x hx => hlt x (by simp [hx]))
  have harg3 : DataW.Trod enc Try.prog W' 0 (fun b => decide (b < W.heap.size)) true 34 _ _ _ := Below.trod laidOut (by kernel_rfl) (of_decide_eq_true (by kernel_rfl)) h3k hb (fun x hx => by cases hx)
  exact ⟨_, rfl, _, _, _, [], _, [], hW', trodAll_mk1 (shut_bool Try.underlying4 _), (trodAll_cons_mk harg0 (trodAll_cons_mk harg1 (trodAll_cons_mk harg2 (trodAll_cons_mk harg3 trodAll_mk0)))), rfl, hb.frame _, fun h => by cases h⟩

theorem over : Rows.imageAgainRow.holds Try.pinned (OpenSpec.ofChange Rows.imageAgainSpec) :=
  OpenClaim.holds_of_wide 10 Try.f10 rfl rfl rfl rfl rfl rfl rfl ⟨rfl, rfl, rfl, rfl, rfl⟩ rfl rfl rfl rfl rfl (by kernel_rfl) Try.func10 (by kernel_rfl)
    (of_decide_eq_true (by kernel_rfl)) (by unfold Func.isWrapper; first | (rw [if_pos (by decide +kernel)]; kernel_rfl) | (rw [if_neg (by decide +kernel)]; exact ⟨rfl, rfl⟩))
    (fun os started H enc _ => lifted os started H enc)

/-- THE STATEMENT -/
theorem proved : Rows.ImageAgainSaid :=
  over
end Go.Proofs.Ytchjcfmmnfimlaa.imageAgain
