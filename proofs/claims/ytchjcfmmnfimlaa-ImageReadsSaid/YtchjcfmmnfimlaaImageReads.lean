/-
  ImageReads: for every input the statement's function returns true, with no condition; each argument reads behind the call as before. By contracts of the program's and the document's functions.
-/
import Derived.Test.YtchjcfmmnfimlaaImBox
namespace Go.Proofs.Ytchjcfmmnfimlaa.imageReads
open Go.ChangeShapes Go.WideShapes Go.ChangeAt Go.RowKit
set_option linter.unusedVariables false

/-! THE WALK: the Go text returns true; of memory nothing that stood there has turned. -/
set_option maxRecDepth 100000 in
set_option maxHeartbeats 8000000 in
theorem walk (w : World) (a0 : Option Addr) (n0 c0 : Nat) (x0 : List Int) (l0 : x0.length = n0) (m0 : n0 ≤ 9223372036854775807) (b0 : BIn w a0 x0) (a1 : Int) (w1 : (Lit.int .i64 a1).wf = true) (a2 a2w a2v : Int) (w2 : (Lit.int .u32 a2).wf = true) (w2w : (Lit.int .i64 a2w).wf = true) (w2v : (Lit.int .u32 a2v).wf = true) :
    Calls Try.prog 4 #[.slice a0 n0 c0, .int .i64 a1, .agg #[.int .u32 a2, .int .i64 a2w, .int .u32 a2v]] w fun e w' => e = .returned (.bool true) ∧ Below w.heap.size w w' := by
  have B0 := Lib.hid b0; clear b0
  by_cases hbig : 10000 < n0
  · go_enter Try.func4, Try.ntmps4
    go_wp2_with (go_at_call 11; refine (works_any _).mono ?_; rintro e wz ⟨rfl, hbz⟩)
    go_ret
    exact ⟨rfl, (box_first hbz).1⟩
  · obtain ⟨addr, rfl⟩ := Int.eq_ofNat_of_zero_le (wf_u32 w2).1
    have ha := (wf_u32 w2).2
    have hv := wf_u32 w2v
    have hw := wf_i64 w2w
    have HW := Lib.hid w2w
    clear w2 w2v w2w
    have hbx := (Below.refl w.heap.size w).alloc (Nat.le_refl _) (.cells #[.int .u32 (addr : Int), .int .i64 a2w, .int .u32 a2v] 36)
    have HBX := Lib.hid hbx; clear hbx
    rcases (show (a2w = 1 ∨ a2w = 2 ∨ a2w = 4) ∨ ¬ (a2w = 1 ∨ a2w = 2 ∨ a2w = 4) by omega) with (rfl | rfl | rfl) | hw4
    · go_enter Try.func4, Try.ntmps4
      go_wp2_with fail
      refine (sized_any a0 n0 c0 x0 a1 _ (B0.out.old HBX.out) l0 (by omega) (wf_i64 w1)).mono ?_
      rintro e wa ⟨g, ys, rfl, hr, hok, hyb, hg, hba⟩
      have hbd := Im.okB_bd hok
      have HR := Lib.hid hr; have HOK := Lib.hid hok; have HY := Lib.hid hyb; have HG := Lib.hid hg; have HBA := Lib.hid hba; clear hr hok hyb hg hba
      go_wp2_with fail
      refine (of_yes ys.length ys.length _ ys HOK.out rfl HY.out _ (Sl.of_row HR.out)).mono ?_
      rintro e wb ⟨p, h, rfl, hi, hp, hh, hbb⟩
      have HI := Lib.hid hi; have HP := Lib.hid hp; have HH := Lib.hid hh; have HBB := Lib.hid hbb; clear hi hp hh hbb
      have HRB := Lib.hid (HR.out.old HBB.out)
      obtain ⟨hba1, hbox⟩ := box_first HBA.out
      have HBA1 := Lib.hid hba1; have HBOX := Lib.hid hbox; clear hba1 hbox
      have HXB := Lib.hid (HBOX.out.old HBB.out)
      have HRH := Lib.hid (show w.heap.size < h from Nat.lt_of_lt_of_le HBOX.out.lt HH.out)
      have HGH := Lib.hid (show g < h from Nat.lt_of_lt_of_le HR.out.lt HH.out)
      have HTB := Lib.hid (below_tr HBA1.out HBB.out)
      by_cases hal : addr % 1 = 0
      · by_cases hlt : addr < ys.length
        · have HGO := Lib.hid (show Goes ys.length addr 1 from ⟨by omega, hal, hlt⟩)
          have k0 := HXB.out.c0; have k1 := HXB.out.c1; have k2 := HXB.out.c2
          go_wp2_with (first | (go_at_call 14; refine (num_any _ _).mono ?_; rintro e w' ⟨rfl, rfl⟩))
          refine (rrefused_ok _ ys.length ys.length addr 1 _ (by omega) (by omega) HGO.out).mono ?_
          rintro e w' ⟨rfl, rfl⟩
          go_wp2_with fail
          refine (read_goes p h ys addr 1 _ (by omega) HI.out (by omega) hal hlt).mono ?_
          clear k0 k1 k2
          rintro e wc ⟨rfl, hb⟩
          have HB := Lib.hid hb; clear hb
          have HIC := Lib.hid (HI.out.old HB.out); have HXC := Lib.hid (HXB.out.old HB.out); have HTC := Lib.hid (below_tr HTB.out HB.out); have HRC := Lib.hid (HRB.out.old HB.out)
          have k0 := HXC.out.c0; have k1 := HXC.out.c1; have k2 := HXC.out.c2
          go_wp2_with fail
          refine (write_goes p h ys addr 1 a2v _ (by omega) hv HIC.out (by omega) hal hlt).mono ?_
          clear k0 k1 k2
          rintro e wd ⟨rfl, hi2, hgd⟩
          have hlen : (Im.sets ys addr (Im.byt a2v) 1).length = ys.length := Im.length_sets _ _ _ _
          obtain ⟨bs, hbs⟩ : ∃ bs, bs = Im.sets ys addr (Im.byt a2v) 1 := ⟨_, rfl⟩
          rw [← hbs] at hlen hi2
          have HM := Lib.hid hi2; have HGD := Lib.hid hgd; have HLEN := Lib.hid hlen; have HBS := Lib.hid hbs; clear hi2 hgd hlen hbs
          have HX := Lib.hid (HXC.out.kept HGD.out (by have := HRH.out; simp; omega))
          have HRX := Lib.hid (HRC.out.kept HGD.out (by have := HGH.out; simp; omega))
          have HT := Lib.hid (HTC.out.grown HGD.out HTC.out.size (fun k hk => by cases hk; exact Nat.le_of_lt HRH.out))
          go_wp2_with (first | (go_at_call 14; refine (num_any _ _).mono ?_; rintro e w' ⟨rfl, rfl⟩))
          refine Og.region2 (by kernel_rfl) (fun t => if t = 6 then some 26 else if 77 ≤ t ∧ t ≤ 102 then some (t - 77) else none) [.is (.int .u32 (Im.val (Im.win ys addr 1))), .is (.slice (some ⟨g, 0, none⟩) ys.length ys.length), .is (.pointer (some ⟨w.heap.size, 0, none⟩)), .is (.int .u32 (addr : Int)), .is (.pointer (some ⟨w.heap.size, 1, none⟩)), .is (.int .i64 1), .is (.int .u32 (Im.val (Im.win ys addr 1))), .is (.bool true), .is (.bool true), .is (.pointer (some ⟨p, 0, none⟩)), .says (fun v w => ∃ a c, v = .slice a ys.length c ∧ Sl w a bs), .is (.string (strOfNums bs)), .is (.slice (some ⟨g, 0, none⟩) ys.length ys.length), .is (.pointer (some ⟨w.heap.size, 0, none⟩)), .is (.int .u32 (addr : Int)), .is (.pointer (some ⟨w.heap.size, 1, none⟩)), .is (.int .i64 1), .is (.pointer (some ⟨w.heap.size, 2, none⟩)), .is (.int .u32 a2v), .says (fun v w => ∃ a c, v = .slice a ys.length c ∧ Sl w a bs), .is (.string (strOfNums bs)), .is (.bool true), .is (.bool true), .is (.bool true), .is (.bool true), .is (.bool true), .is (.bool true)] [true, true, true, true, true, true, true, true, true, true, true, true, true, true, true, true, true, true, true, true, true, true, true, true, true, true, true] (by kernel_rfl) ?_ ?_
          · refine ⟨?_, ?_, ?_, ?_, ?_, ?_, ?_, ?_, ?_, ?_, ?_, ?_, ?_, ?_, ?_, ?_, ?_, ?_, ?_, ?_, ?_, ?_, ?_, ?_, ?_, ?_, ?_, trivial⟩
            · refine ⟨rfl, fun ρ w1 hr hd => ?_⟩
              obtain ⟨d0, _⟩ := hd
              have d0 : ρ (.tmp 11) = .int .u32 (Im.val (Im.win ys addr 1)) := d0
              refine (if_pos (by rfl)).mpr ?_
              refine Og.gives_is (.int .u32 (Im.val (Im.win ys addr 1))) ?_ (And.intro (Below.refl _ _) rfl)
              go_simp
            · refine ⟨rfl, fun ρ w1 hr hd => ?_⟩
              obtain ⟨d0, _⟩ := hd
              have d0 : ρ (.tmp 7) = .slice (some ⟨g, 0, none⟩) ys.length ys.length := d0
              refine (if_pos (by rfl)).mpr ?_
              refine Og.gives_is (.slice (some ⟨g, 0, none⟩) ys.length ys.length) ?_ (And.intro (Below.refl _ _) rfl)
              go_simp
            · refine ⟨rfl, fun ρ w1 hr hd => ?_⟩
              obtain ⟨d0, _⟩ := hd
              have d0 : ρ (.tmp 5) = .pointer (some ⟨w.heap.size, 0, none⟩) := d0
              refine (if_pos (by rfl)).mpr ?_
              refine Og.gives_is (.pointer (some ⟨w.heap.size, 0, none⟩)) ?_ (And.intro (Below.refl _ _) rfl)
              go_simp
            · refine ⟨rfl, fun ρ w1 hr hd => ?_⟩
              obtain ⟨d0, _⟩ := hd
              have d0 : ρ (.tmp 79) = .pointer (some ⟨w.heap.size, 0, none⟩) := d0
              have k0 := (HX.out.old hr).c0
              refine (if_pos (by rfl)).mpr ?_
              refine Og.gives_is (.int .u32 (addr : Int)) ?_ (And.intro (Below.refl _ _) rfl)
              go_simp
            · refine ⟨rfl, fun ρ w1 hr hd => ?_⟩
              obtain ⟨d0, _⟩ := hd
              have d0 : ρ (.tmp 5) = .pointer (some ⟨w.heap.size, 0, none⟩) := d0
              refine (if_pos (by rfl)).mpr ?_
              refine Og.gives_is (.pointer (some ⟨w.heap.size, 1, none⟩)) ?_ (And.intro (Below.refl _ _) rfl)
              go_simp
            · refine ⟨rfl, fun ρ w1 hr hd => ?_⟩
              obtain ⟨d0, _⟩ := hd
              have d0 : ρ (.tmp 81) = .pointer (some ⟨w.heap.size, 1, none⟩) := d0
              have k0 := (HX.out.old hr).c1
              refine (if_pos (by rfl)).mpr ?_
              refine Og.gives_is (.int .i64 1) ?_ (And.intro (Below.refl _ _) rfl)
              go_simp
            · refine ⟨rfl, fun ρ w1 hr hd => ?_⟩
              obtain ⟨d0, d1, d2, d3, _⟩ := hd
              have d0 : ρ (.func 22) = .func (.func 22) #[] #[] := d0
              have d1 : ρ (.tmp 78) = .slice (some ⟨g, 0, none⟩) ys.length ys.length := d1
              have d2 : ρ (.tmp 80) = .int .u32 (addr : Int) := d2
              have d3 : ρ (.tmp 82) = .int .i64 1 := d3
              refine (if_pos (by rfl)).mpr ?_
              refine Og.gives_call 22 #[.slice (some ⟨g, 0, none⟩) ys.length ys.length, .int .u32 (addr : Int), .int .i64 1] ?_ ?_
              · go_simp
              · exact (rread_any g addr 1 ys w1 (HRX.out.old hr) HY.out (by omega) (by omega) (by omega) HGO.out).mono fun e w' ⟨he, hw⟩ => ⟨_, he, by subst hw; exact Below.refl _ _, rfl⟩
            · refine ⟨rfl, fun ρ w1 hr hd => ?_⟩
              obtain ⟨d0, d1, _⟩ := hd
              have d0 : ρ (.tmp 77) = .int .u32 (Im.val (Im.win ys addr 1)) := d0
              have d1 : ρ (.tmp 83) = .int .u32 (Im.val (Im.win ys addr 1)) := d1
              refine (if_pos (by rfl)).mpr ?_
              refine Og.gives_is (.bool true) ?_ (And.intro (Below.refl _ _) rfl)
              go_simp
            · refine ⟨rfl, fun ρ w1 hr hd => ?_⟩
              obtain ⟨d0, _⟩ := hd
              have d0 : ρ (.tmp 84) = .bool true := d0
              refine (if_pos (by rfl)).mpr ?_
              refine Og.gives_is (.bool true) ?_ (And.intro (Below.refl _ _) rfl)
              go_simp
            · refine ⟨fun v w hv => by (have hv' : v = .bool true := hv); subst hv'; exact (if_pos (by rfl)).mpr rfl, fun ρ w1 hr hd => ?_⟩
              obtain ⟨d0, _⟩ := hd
              have d0 : ρ (.tmp 8) = .pointer (some ⟨p, 0, none⟩) := d0
              refine (if_pos (by rfl)).mpr ?_
              refine Og.gives_is (.pointer (some ⟨p, 0, none⟩)) ?_ (And.intro (Below.refl _ _) rfl)
              go_simp
            · refine ⟨fun v w hv => by (have hv' : v = .bool true := hv); subst hv'; exact (if_pos (by rfl)).mpr rfl, fun ρ w1 hr hd => ?_⟩
              obtain ⟨d0, d1, _⟩ := hd
              have d0 : ρ (.func 16) = .func (.func 16) #[] #[] := d0
              have d1 : ρ (.tmp 86) = .pointer (some ⟨p, 0, none⟩) := d1
              refine (if_pos (by rfl)).mpr ?_
              refine Og.gives_call 16 #[.pointer (some ⟨p, 0, none⟩)] ?_ ?_
              · go_simp
              · refine (bytes_any p h bs w1 (HM.out.old hr)).mono fun e w' ⟨v, he, hown, hb⟩ => ?_
                rw [HLEN.out] at hown
                obtain ⟨a5, c5, hv, hsl, _, _⟩ := sl_own hown
                exact ⟨v, he, hb, w', Below.refl _ _, a5, c5, hv, hsl⟩
            · refine ⟨fun v w hv => by (have hv' : v = .bool true := hv); subst hv'; exact (if_pos (by rfl)).mpr rfl, fun ρ w1 hr hd => ?_⟩
              obtain ⟨d0, _⟩ := hd
              have d0 : ∃ w1', Below w1'.heap.size w1' w1 ∧ (fun v w => ∃ a c, v = .slice a ys.length c ∧ Sl w a bs) (ρ (.tmp 87)) w1' := d0
              obtain ⟨w2, hb2, a5, c5, d0, hs⟩ := d0
              have cv := conv_sl w1 a5 ys.length c5 bs (hs.old hb2) HLEN.out
              refine (if_pos (by rfl)).mpr ?_
              refine Og.gives_is (.string (strOfNums bs)) ?_ (And.intro (Below.refl _ _) rfl)
              go_simp
            · refine ⟨fun v w hv => by (have hv' : v = .bool true := hv); subst hv'; exact (if_pos (by rfl)).mpr rfl, fun ρ w1 hr hd => ?_⟩
              obtain ⟨d0, _⟩ := hd
              have d0 : ρ (.tmp 7) = .slice (some ⟨g, 0, none⟩) ys.length ys.length := d0
              refine (if_pos (by rfl)).mpr ?_
              refine Og.gives_is (.slice (some ⟨g, 0, none⟩) ys.length ys.length) ?_ (And.intro (Below.refl _ _) rfl)
              go_simp
            · refine ⟨fun v w hv => by (have hv' : v = .bool true := hv); subst hv'; exact (if_pos (by rfl)).mpr rfl, fun ρ w1 hr hd => ?_⟩
              obtain ⟨d0, _⟩ := hd
              have d0 : ρ (.tmp 5) = .pointer (some ⟨w.heap.size, 0, none⟩) := d0
              refine (if_pos (by rfl)).mpr ?_
              refine Og.gives_is (.pointer (some ⟨w.heap.size, 0, none⟩)) ?_ (And.intro (Below.refl _ _) rfl)
              go_simp
            · refine ⟨fun v w hv => by (have hv' : v = .bool true := hv); subst hv'; exact (if_pos (by rfl)).mpr rfl, fun ρ w1 hr hd => ?_⟩
              obtain ⟨d0, _⟩ := hd
              have d0 : ρ (.tmp 90) = .pointer (some ⟨w.heap.size, 0, none⟩) := d0
              have k0 := (HX.out.old hr).c0
              refine (if_pos (by rfl)).mpr ?_
              refine Og.gives_is (.int .u32 (addr : Int)) ?_ (And.intro (Below.refl _ _) rfl)
              go_simp
            · refine ⟨fun v w hv => by (have hv' : v = .bool true := hv); subst hv'; exact (if_pos (by rfl)).mpr rfl, fun ρ w1 hr hd => ?_⟩
              obtain ⟨d0, _⟩ := hd
              have d0 : ρ (.tmp 5) = .pointer (some ⟨w.heap.size, 0, none⟩) := d0
              refine (if_pos (by rfl)).mpr ?_
              refine Og.gives_is (.pointer (some ⟨w.heap.size, 1, none⟩)) ?_ (And.intro (Below.refl _ _) rfl)
              go_simp
            · refine ⟨fun v w hv => by (have hv' : v = .bool true := hv); subst hv'; exact (if_pos (by rfl)).mpr rfl, fun ρ w1 hr hd => ?_⟩
              obtain ⟨d0, _⟩ := hd
              have d0 : ρ (.tmp 92) = .pointer (some ⟨w.heap.size, 1, none⟩) := d0
              have k0 := (HX.out.old hr).c1
              refine (if_pos (by rfl)).mpr ?_
              refine Og.gives_is (.int .i64 1) ?_ (And.intro (Below.refl _ _) rfl)
              go_simp
            · refine ⟨fun v w hv => by (have hv' : v = .bool true := hv); subst hv'; exact (if_pos (by rfl)).mpr rfl, fun ρ w1 hr hd => ?_⟩
              obtain ⟨d0, _⟩ := hd
              have d0 : ρ (.tmp 5) = .pointer (some ⟨w.heap.size, 0, none⟩) := d0
              refine (if_pos (by rfl)).mpr ?_
              refine Og.gives_is (.pointer (some ⟨w.heap.size, 2, none⟩)) ?_ (And.intro (Below.refl _ _) rfl)
              go_simp
            · refine ⟨fun v w hv => by (have hv' : v = .bool true := hv); subst hv'; exact (if_pos (by rfl)).mpr rfl, fun ρ w1 hr hd => ?_⟩
              obtain ⟨d0, _⟩ := hd
              have d0 : ρ (.tmp 94) = .pointer (some ⟨w.heap.size, 2, none⟩) := d0
              have k0 := (HX.out.old hr).c2
              refine (if_pos (by rfl)).mpr ?_
              refine Og.gives_is (.int .u32 a2v) ?_ (And.intro (Below.refl _ _) rfl)
              go_simp
            · refine ⟨fun v w hv => by (have hv' : v = .bool true := hv); subst hv'; exact (if_pos (by rfl)).mpr rfl, fun ρ w1 hr hd => ?_⟩
              obtain ⟨d0, d1, d2, d3, d4, _⟩ := hd
              have d0 : ρ (.func 23) = .func (.func 23) #[] #[] := d0
              have d1 : ρ (.tmp 89) = .slice (some ⟨g, 0, none⟩) ys.length ys.length := d1
              have d2 : ρ (.tmp 91) = .int .u32 (addr : Int) := d2
              have d3 : ρ (.tmp 93) = .int .i64 1 := d3
              have d4 : ρ (.tmp 95) = .int .u32 a2v := d4
              refine (if_pos (by rfl)).mpr ?_
              refine Og.gives_call 23 #[.slice (some ⟨g, 0, none⟩) ys.length ys.length, .int .u32 (addr : Int), .int .i64 1, .int .u32 a2v] ?_ ?_
              · go_simp
              · refine (rwrite_any g addr 1 a2v ys w1 (HRX.out.old hr) HY.out (by omega) (by omega) (by omega) hv HGO.out).mono fun e w' ⟨v, he, hown, hb⟩ => ?_
                rw [← HBS.out] at hown
                obtain ⟨a5, c5, hv, hsl, _, _⟩ := sl_own hown
                exact ⟨v, he, hb, w', Below.refl _ _, a5, c5, hv, hsl⟩
            · refine ⟨fun v w hv => by (have hv' : v = .bool true := hv); subst hv'; exact (if_pos (by rfl)).mpr rfl, fun ρ w1 hr hd => ?_⟩
              obtain ⟨d0, _⟩ := hd
              have d0 : ∃ w1', Below w1'.heap.size w1' w1 ∧ (fun v w => ∃ a c, v = .slice a ys.length c ∧ Sl w a bs) (ρ (.tmp 96)) w1' := d0
              obtain ⟨w2, hb2, a5, c5, d0, hs⟩ := d0
              have cv := conv_sl w1 a5 ys.length c5 bs (hs.old hb2) HLEN.out
              refine (if_pos (by rfl)).mpr ?_
              refine Og.gives_is (.string (strOfNums bs)) ?_ (And.intro (Below.refl _ _) rfl)
              go_simp
            · refine ⟨fun v w hv => by (have hv' : v = .bool true := hv); subst hv'; exact (if_pos (by rfl)).mpr rfl, fun ρ w1 hr hd => ?_⟩
              obtain ⟨d0, d1, _⟩ := hd
              have d0 : ρ (.tmp 88) = .string (strOfNums bs) := d0
              have d1 : ρ (.tmp 97) = .string (strOfNums bs) := d1
              refine (if_pos (by rfl)).mpr ?_
              refine Og.gives_is (.bool true) ?_ (And.intro (Below.refl _ _) rfl)
              go_simp
            · refine ⟨rfl, fun ρ w1 hr hd => ?_⟩
              obtain ⟨d0, d1, d2, _⟩ := hd
              have d0 : ρ (.tmp 85) = .bool true := d0
              have d1 : ρ (.tmp 98) = .bool true := d1
              have d2 : ρ (.const (.bool false)) = .bool false := d2
              refine (if_pos (by rfl)).mpr ?_
              refine Og.gives_is (.bool true) ?_ (And.intro (Below.refl _ _) rfl)
              go_simp
            · refine ⟨rfl, fun ρ w1 hr hd => ?_⟩
              obtain ⟨d0, _⟩ := hd
              have d0 : ρ (.tmp 99) = .bool true := d0
              refine (if_pos (by rfl)).mpr ?_
              refine Og.gives_is (.bool true) ?_ (And.intro (Below.refl _ _) rfl)
              go_simp
            · refine ⟨fun v w hv => by (have hv' : v = .bool true := hv); subst hv'; exact (if_pos (by rfl)).mpr rfl, fun ρ w1 hr hd => ?_⟩
              obtain ⟨d0, _⟩ := hd
              have d0 : ρ (.func 11) = .func (.func 11) #[] #[] := d0
              refine (if_pos (by rfl)).mpr ?_
              refine Og.gives_call 11 #[] ?_ ?_
              · go_simp
              · exact (works_any w1).mono fun e w' ⟨he, hb⟩ => ⟨_, he, hb, rfl⟩
            · refine ⟨rfl, fun ρ w1 hr hd => ?_⟩
              obtain ⟨d0, d1, d2, _⟩ := hd
              have d0 : ρ (.tmp 100) = .bool true := d0
              have d1 : ρ (.tmp 101) = .bool true := d1
              have d2 : ρ (.const (.bool false)) = .bool false := d2
              refine (if_pos (by rfl)).mpr ?_
              refine Og.gives_is (.bool true) ?_ (And.intro (Below.refl _ _) rfl)
              go_simp
            · refine ⟨rfl, fun ρ w1 hr hd => ?_⟩
              obtain ⟨d0, _⟩ := hd
              have d0 : ρ (.tmp 102) = .bool true := d0
              refine (if_pos (by rfl)).mpr ?_
              refine Og.gives_is (.bool true) ?_ (And.intro (Below.refl _ _) rfl)
              go_simp
          · intro a w1 hbz hdf hsz hall
            have hres : a.tmps.getD 6 undef = .bool true := hall 26 _ 6 rfl rfl
            go_wp2
            refine bodyPost_ret (v := .bool true) (by rw [results_tmp rfl]; rw [hres]) hdf ⟨rfl, below_tr HT.out hbz⟩
        · have k0 := HXB.out.c0; have k1 := HXB.out.c1; have k2 := HXB.out.c2
          go_wp2_with (first | (go_at_call 14; refine (num_any _ _).mono ?_; rintro e w' ⟨rfl, rfl⟩))
          refine (rrefused_no _ ys.length ys.length addr _ _ _ (by omega) (by omega) (by omega) (.inr ⟨1, rfl, by omega, .inr ⟨rfl, hal, by omega⟩⟩)).mono ?_
          rintro e w' ⟨rfl, rfl⟩
          go_wp2_with fail
          refine (read_no p h ys addr _ _ _ HI.out (by omega) HW.out (.inr ⟨1, rfl, by omega, .inr ⟨rfl, hal, by omega⟩⟩)).mono ?_
          clear k0 k1 k2
          rintro e wc ⟨rfl, hb⟩
          have HB := Lib.hid hb; clear hb
          have HM := Lib.hid (HI.out.old HB.out); have HX := Lib.hid (HXB.out.old HB.out); have HT := Lib.hid (below_tr HTB.out HB.out); have HRX := Lib.hid (HRB.out.old HB.out)
          have k0 := HX.out.c0; have k1 := HX.out.c1; have k2 := HX.out.c2
          go_wp2_with fail
          refine (write_no p h ys addr _ a2v _ _ HM.out (by omega) HW.out (.inr ⟨1, rfl, by omega, .inr ⟨rfl, hal, by omega⟩⟩)).mono ?_
          clear k0 k1 k2
          rintro e wd ⟨rfl, hb⟩
          have HB := Lib.hid hb; clear hb
          have HT := Lib.hid (below_tr HT.out HB.out)
          have HM := Lib.hid (HM.out.old HB.out)
          have HRX := Lib.hid (HRX.out.old HB.out)
          go_wp2_with (first | (go_at_call 14; refine (num_any _ _).mono ?_; rintro e w' ⟨rfl, rfl⟩))
          refine Og.region2 (by kernel_rfl) (fun t => if t = 6 then some 13 else if 64 ≤ t ∧ t ≤ 76 then some (t - 64) else none) [.is (.int .u32 0), .is (.bool true), .is (.bool true), .is (.pointer (some ⟨p, 0, none⟩)), .says (fun v w => ∃ a c, v = .slice a ys.length c ∧ Sl w a ys), .is (.string (strOfNums ys)), .is (.slice (some ⟨g, 0, none⟩) ys.length ys.length), .is (.string (strOfNums ys)), .is (.bool true), .is (.bool true), .is (.bool true), .is (.bool true), .is (.bool true), .is (.bool true)] [true, true, true, true, true, true, true, true, true, true, true, true, true, true] (by kernel_rfl) ?_ ?_
          · refine ⟨?_, ?_, ?_, ?_, ?_, ?_, ?_, ?_, ?_, ?_, ?_, ?_, ?_, ?_, trivial⟩
            · refine ⟨rfl, fun ρ w1 hr hd => ?_⟩
              obtain ⟨d0, _⟩ := hd
              have d0 : ρ (.tmp 11) = .int .u32 0 := d0
              refine (if_pos (by rfl)).mpr ?_
              refine Og.gives_is (.int .u32 0) ?_ (And.intro (Below.refl _ _) rfl)
              go_simp
            · refine ⟨rfl, fun ρ w1 hr hd => ?_⟩
              obtain ⟨d0, d1, _⟩ := hd
              have d0 : ρ (.tmp 64) = .int .u32 0 := d0
              have d1 : ρ (.const (.int .u32 0)) = .int .u32 0 := d1
              refine (if_pos (by rfl)).mpr ?_
              refine Og.gives_is (.bool true) ?_ (And.intro (Below.refl _ _) rfl)
              go_simp
            · refine ⟨rfl, fun ρ w1 hr hd => ?_⟩
              obtain ⟨d0, _⟩ := hd
              have d0 : ρ (.tmp 65) = .bool true := d0
              refine (if_pos (by rfl)).mpr ?_
              refine Og.gives_is (.bool true) ?_ (And.intro (Below.refl _ _) rfl)
              go_simp
            · refine ⟨fun v w hv => by (have hv' : v = .bool true := hv); subst hv'; exact (if_pos (by rfl)).mpr rfl, fun ρ w1 hr hd => ?_⟩
              obtain ⟨d0, _⟩ := hd
              have d0 : ρ (.tmp 8) = .pointer (some ⟨p, 0, none⟩) := d0
              refine (if_pos (by rfl)).mpr ?_
              refine Og.gives_is (.pointer (some ⟨p, 0, none⟩)) ?_ (And.intro (Below.refl _ _) rfl)
              go_simp
            · refine ⟨fun v w hv => by (have hv' : v = .bool true := hv); subst hv'; exact (if_pos (by rfl)).mpr rfl, fun ρ w1 hr hd => ?_⟩
              obtain ⟨d0, d1, _⟩ := hd
              have d0 : ρ (.func 16) = .func (.func 16) #[] #[] := d0
              have d1 : ρ (.tmp 67) = .pointer (some ⟨p, 0, none⟩) := d1
              refine (if_pos (by rfl)).mpr ?_
              refine Og.gives_call 16 #[.pointer (some ⟨p, 0, none⟩)] ?_ ?_
              · go_simp
              · refine (bytes_any p h ys w1 (HM.out.old hr)).mono fun e w' ⟨v, he, hown, hb⟩ => ?_
                obtain ⟨a5, c5, hv, hsl, _, _⟩ := sl_own hown
                exact ⟨v, he, hb, w', Below.refl _ _, a5, c5, hv, hsl⟩
            · refine ⟨fun v w hv => by (have hv' : v = .bool true := hv); subst hv'; exact (if_pos (by rfl)).mpr rfl, fun ρ w1 hr hd => ?_⟩
              obtain ⟨d0, _⟩ := hd
              have d0 : ∃ w1', Below w1'.heap.size w1' w1 ∧ (fun v w => ∃ a c, v = .slice a ys.length c ∧ Sl w a ys) (ρ (.tmp 68)) w1' := d0
              obtain ⟨w2, hb2, a5, c5, d0, hs⟩ := d0
              have cv := conv_sl w1 a5 ys.length c5 ys (hs.old hb2) rfl
              refine (if_pos (by rfl)).mpr ?_
              refine Og.gives_is (.string (strOfNums ys)) ?_ (And.intro (Below.refl _ _) rfl)
              go_simp
            · refine ⟨fun v w hv => by (have hv' : v = .bool true := hv); subst hv'; exact (if_pos (by rfl)).mpr rfl, fun ρ w1 hr hd => ?_⟩
              obtain ⟨d0, _⟩ := hd
              have d0 : ρ (.tmp 7) = .slice (some ⟨g, 0, none⟩) ys.length ys.length := d0
              refine (if_pos (by rfl)).mpr ?_
              refine Og.gives_is (.slice (some ⟨g, 0, none⟩) ys.length ys.length) ?_ (And.intro (Below.refl _ _) rfl)
              go_simp
            · refine ⟨fun v w hv => by (have hv' : v = .bool true := hv); subst hv'; exact (if_pos (by rfl)).mpr rfl, fun ρ w1 hr hd => ?_⟩
              obtain ⟨d0, _⟩ := hd
              have d0 : ρ (.tmp 70) = .slice (some ⟨g, 0, none⟩) ys.length ys.length := d0
              have cv := conv_sl w1 _ ys.length ys.length ys (Sl.of_row (HRX.out.old hr)) rfl
              refine (if_pos (by rfl)).mpr ?_
              refine Og.gives_is (.string (strOfNums ys)) ?_ (And.intro (Below.refl _ _) rfl)
              go_simp
            · refine ⟨fun v w hv => by (have hv' : v = .bool true := hv); subst hv'; exact (if_pos (by rfl)).mpr rfl, fun ρ w1 hr hd => ?_⟩
              obtain ⟨d0, d1, _⟩ := hd
              have d0 : ρ (.tmp 69) = .string (strOfNums ys) := d0
              have d1 : ρ (.tmp 71) = .string (strOfNums ys) := d1
              refine (if_pos (by rfl)).mpr ?_
              refine Og.gives_is (.bool true) ?_ (And.intro (Below.refl _ _) rfl)
              go_simp
            · refine ⟨rfl, fun ρ w1 hr hd => ?_⟩
              obtain ⟨d0, d1, d2, _⟩ := hd
              have d0 : ρ (.tmp 66) = .bool true := d0
              have d1 : ρ (.tmp 72) = .bool true := d1
              have d2 : ρ (.const (.bool false)) = .bool false := d2
              refine (if_pos (by rfl)).mpr ?_
              refine Og.gives_is (.bool true) ?_ (And.intro (Below.refl _ _) rfl)
              go_simp
            · refine ⟨rfl, fun ρ w1 hr hd => ?_⟩
              obtain ⟨d0, _⟩ := hd
              have d0 : ρ (.tmp 73) = .bool true := d0
              refine (if_pos (by rfl)).mpr ?_
              refine Og.gives_is (.bool true) ?_ (And.intro (Below.refl _ _) rfl)
              go_simp
            · refine ⟨fun v w hv => by (have hv' : v = .bool true := hv); subst hv'; exact (if_pos (by rfl)).mpr rfl, fun ρ w1 hr hd => ?_⟩
              obtain ⟨d0, _⟩ := hd
              have d0 : ρ (.func 11) = .func (.func 11) #[] #[] := d0
              refine (if_pos (by rfl)).mpr ?_
              refine Og.gives_call 11 #[] ?_ ?_
              · go_simp
              · exact (works_any w1).mono fun e w' ⟨he, hb⟩ => ⟨_, he, hb, rfl⟩
            · refine ⟨rfl, fun ρ w1 hr hd => ?_⟩
              obtain ⟨d0, d1, d2, _⟩ := hd
              have d0 : ρ (.tmp 74) = .bool true := d0
              have d1 : ρ (.tmp 75) = .bool true := d1
              have d2 : ρ (.const (.bool false)) = .bool false := d2
              refine (if_pos (by rfl)).mpr ?_
              refine Og.gives_is (.bool true) ?_ (And.intro (Below.refl _ _) rfl)
              go_simp
            · refine ⟨rfl, fun ρ w1 hr hd => ?_⟩
              obtain ⟨d0, _⟩ := hd
              have d0 : ρ (.tmp 76) = .bool true := d0
              refine (if_pos (by rfl)).mpr ?_
              refine Og.gives_is (.bool true) ?_ (And.intro (Below.refl _ _) rfl)
              go_simp
          · intro a w1 hbz hdf hsz hall
            have hres : a.tmps.getD 6 undef = .bool true := hall 13 _ 6 rfl rfl
            go_wp2
            refine bodyPost_ret (v := .bool true) (by rw [results_tmp rfl]; rw [hres]) hdf ⟨rfl, below_tr HT.out hbz⟩
      · omega
    · go_enter Try.func4, Try.ntmps4
      go_wp2_with fail
      refine (sized_any a0 n0 c0 x0 a1 _ (B0.out.old HBX.out) l0 (by omega) (wf_i64 w1)).mono ?_
      rintro e wa ⟨g, ys, rfl, hr, hok, hyb, hg, hba⟩
      have hbd := Im.okB_bd hok
      have HR := Lib.hid hr; have HOK := Lib.hid hok; have HY := Lib.hid hyb; have HG := Lib.hid hg; have HBA := Lib.hid hba; clear hr hok hyb hg hba
      go_wp2_with fail
      refine (of_yes ys.length ys.length _ ys HOK.out rfl HY.out _ (Sl.of_row HR.out)).mono ?_
      rintro e wb ⟨p, h, rfl, hi, hp, hh, hbb⟩
      have HI := Lib.hid hi; have HP := Lib.hid hp; have HH := Lib.hid hh; have HBB := Lib.hid hbb; clear hi hp hh hbb
      have HRB := Lib.hid (HR.out.old HBB.out)
      obtain ⟨hba1, hbox⟩ := box_first HBA.out
      have HBA1 := Lib.hid hba1; have HBOX := Lib.hid hbox; clear hba1 hbox
      have HXB := Lib.hid (HBOX.out.old HBB.out)
      have HRH := Lib.hid (show w.heap.size < h from Nat.lt_of_lt_of_le HBOX.out.lt HH.out)
      have HGH := Lib.hid (show g < h from Nat.lt_of_lt_of_le HR.out.lt HH.out)
      have HTB := Lib.hid (below_tr HBA1.out HBB.out)
      by_cases hal : addr % 2 = 0
      · by_cases hlt : addr < ys.length
        · have HGO := Lib.hid (show Goes ys.length addr 2 from ⟨by omega, hal, hlt⟩)
          have k0 := HXB.out.c0; have k1 := HXB.out.c1; have k2 := HXB.out.c2
          go_wp2_with (first | (go_at_call 14; refine (num_any _ _).mono ?_; rintro e w' ⟨rfl, rfl⟩))
          refine (rrefused_ok _ ys.length ys.length addr 2 _ (by omega) (by omega) HGO.out).mono ?_
          rintro e w' ⟨rfl, rfl⟩
          go_wp2_with fail
          refine (read_goes p h ys addr 2 _ (by omega) HI.out (by omega) hal hlt).mono ?_
          clear k0 k1 k2
          rintro e wc ⟨rfl, hb⟩
          have HB := Lib.hid hb; clear hb
          have HIC := Lib.hid (HI.out.old HB.out); have HXC := Lib.hid (HXB.out.old HB.out); have HTC := Lib.hid (below_tr HTB.out HB.out); have HRC := Lib.hid (HRB.out.old HB.out)
          have k0 := HXC.out.c0; have k1 := HXC.out.c1; have k2 := HXC.out.c2
          go_wp2_with fail
          refine (write_goes p h ys addr 2 a2v _ (by omega) hv HIC.out (by omega) hal hlt).mono ?_
          clear k0 k1 k2
          rintro e wd ⟨rfl, hi2, hgd⟩
          have hlen : (Im.sets ys addr (Im.byt a2v) 2).length = ys.length := Im.length_sets _ _ _ _
          obtain ⟨bs, hbs⟩ : ∃ bs, bs = Im.sets ys addr (Im.byt a2v) 2 := ⟨_, rfl⟩
          rw [← hbs] at hlen hi2
          have HM := Lib.hid hi2; have HGD := Lib.hid hgd; have HLEN := Lib.hid hlen; have HBS := Lib.hid hbs; clear hi2 hgd hlen hbs
          have HX := Lib.hid (HXC.out.kept HGD.out (by have := HRH.out; simp; omega))
          have HRX := Lib.hid (HRC.out.kept HGD.out (by have := HGH.out; simp; omega))
          have HT := Lib.hid (HTC.out.grown HGD.out HTC.out.size (fun k hk => by cases hk; exact Nat.le_of_lt HRH.out))
          go_wp2_with (first | (go_at_call 14; refine (num_any _ _).mono ?_; rintro e w' ⟨rfl, rfl⟩))
          refine Og.region2 (by kernel_rfl) (fun t => if t = 6 then some 26 else if 77 ≤ t ∧ t ≤ 102 then some (t - 77) else none) [.is (.int .u32 (Im.val (Im.win ys addr 2))), .is (.slice (some ⟨g, 0, none⟩) ys.length ys.length), .is (.pointer (some ⟨w.heap.size, 0, none⟩)), .is (.int .u32 (addr : Int)), .is (.pointer (some ⟨w.heap.size, 1, none⟩)), .is (.int .i64 2), .is (.int .u32 (Im.val (Im.win ys addr 2))), .is (.bool true), .is (.bool true), .is (.pointer (some ⟨p, 0, none⟩)), .says (fun v w => ∃ a c, v = .slice a ys.length c ∧ Sl w a bs), .is (.string (strOfNums bs)), .is (.slice (some ⟨g, 0, none⟩) ys.length ys.length), .is (.pointer (some ⟨w.heap.size, 0, none⟩)), .is (.int .u32 (addr : Int)), .is (.pointer (some ⟨w.heap.size, 1, none⟩)), .is (.int .i64 2), .is (.pointer (some ⟨w.heap.size, 2, none⟩)), .is (.int .u32 a2v), .says (fun v w => ∃ a c, v = .slice a ys.length c ∧ Sl w a bs), .is (.string (strOfNums bs)), .is (.bool true), .is (.bool true), .is (.bool true), .is (.bool true), .is (.bool true), .is (.bool true)] [true, true, true, true, true, true, true, true, true, true, true, true, true, true, true, true, true, true, true, true, true, true, true, true, true, true, true] (by kernel_rfl) ?_ ?_
          · refine ⟨?_, ?_, ?_, ?_, ?_, ?_, ?_, ?_, ?_, ?_, ?_, ?_, ?_, ?_, ?_, ?_, ?_, ?_, ?_, ?_, ?_, ?_, ?_, ?_, ?_, ?_, ?_, trivial⟩
            · refine ⟨rfl, fun ρ w1 hr hd => ?_⟩
              obtain ⟨d0, _⟩ := hd
              have d0 : ρ (.tmp 11) = .int .u32 (Im.val (Im.win ys addr 2)) := d0
              refine (if_pos (by rfl)).mpr ?_
              refine Og.gives_is (.int .u32 (Im.val (Im.win ys addr 2))) ?_ (And.intro (Below.refl _ _) rfl)
              go_simp
            · refine ⟨rfl, fun ρ w1 hr hd => ?_⟩
              obtain ⟨d0, _⟩ := hd
              have d0 : ρ (.tmp 7) = .slice (some ⟨g, 0, none⟩) ys.length ys.length := d0
              refine (if_pos (by rfl)).mpr ?_
              refine Og.gives_is (.slice (some ⟨g, 0, none⟩) ys.length ys.length) ?_ (And.intro (Below.refl _ _) rfl)
              go_simp
            · refine ⟨rfl, fun ρ w1 hr hd => ?_⟩
              obtain ⟨d0, _⟩ := hd
              have d0 : ρ (.tmp 5) = .pointer (some ⟨w.heap.size, 0, none⟩) := d0
              refine (if_pos (by rfl)).mpr ?_
              refine Og.gives_is (.pointer (some ⟨w.heap.size, 0, none⟩)) ?_ (And.intro (Below.refl _ _) rfl)
              go_simp
            · refine ⟨rfl, fun ρ w1 hr hd => ?_⟩
              obtain ⟨d0, _⟩ := hd
              have d0 : ρ (.tmp 79) = .pointer (some ⟨w.heap.size, 0, none⟩) := d0
              have k0 := (HX.out.old hr).c0
              refine (if_pos (by rfl)).mpr ?_
              refine Og.gives_is (.int .u32 (addr : Int)) ?_ (And.intro (Below.refl _ _) rfl)
              go_simp
            · refine ⟨rfl, fun ρ w1 hr hd => ?_⟩
              obtain ⟨d0, _⟩ := hd
              have d0 : ρ (.tmp 5) = .pointer (some ⟨w.heap.size, 0, none⟩) := d0
              refine (if_pos (by rfl)).mpr ?_
              refine Og.gives_is (.pointer (some ⟨w.heap.size, 1, none⟩)) ?_ (And.intro (Below.refl _ _) rfl)
              go_simp
            · refine ⟨rfl, fun ρ w1 hr hd => ?_⟩
              obtain ⟨d0, _⟩ := hd
              have d0 : ρ (.tmp 81) = .pointer (some ⟨w.heap.size, 1, none⟩) := d0
              have k0 := (HX.out.old hr).c1
              refine (if_pos (by rfl)).mpr ?_
              refine Og.gives_is (.int .i64 2) ?_ (And.intro (Below.refl _ _) rfl)
              go_simp
            · refine ⟨rfl, fun ρ w1 hr hd => ?_⟩
              obtain ⟨d0, d1, d2, d3, _⟩ := hd
              have d0 : ρ (.func 22) = .func (.func 22) #[] #[] := d0
              have d1 : ρ (.tmp 78) = .slice (some ⟨g, 0, none⟩) ys.length ys.length := d1
              have d2 : ρ (.tmp 80) = .int .u32 (addr : Int) := d2
              have d3 : ρ (.tmp 82) = .int .i64 2 := d3
              refine (if_pos (by rfl)).mpr ?_
              refine Og.gives_call 22 #[.slice (some ⟨g, 0, none⟩) ys.length ys.length, .int .u32 (addr : Int), .int .i64 2] ?_ ?_
              · go_simp
              · exact (rread_any g addr 2 ys w1 (HRX.out.old hr) HY.out (by omega) (by omega) (by omega) HGO.out).mono fun e w' ⟨he, hw⟩ => ⟨_, he, by subst hw; exact Below.refl _ _, rfl⟩
            · refine ⟨rfl, fun ρ w1 hr hd => ?_⟩
              obtain ⟨d0, d1, _⟩ := hd
              have d0 : ρ (.tmp 77) = .int .u32 (Im.val (Im.win ys addr 2)) := d0
              have d1 : ρ (.tmp 83) = .int .u32 (Im.val (Im.win ys addr 2)) := d1
              refine (if_pos (by rfl)).mpr ?_
              refine Og.gives_is (.bool true) ?_ (And.intro (Below.refl _ _) rfl)
              go_simp
            · refine ⟨rfl, fun ρ w1 hr hd => ?_⟩
              obtain ⟨d0, _⟩ := hd
              have d0 : ρ (.tmp 84) = .bool true := d0
              refine (if_pos (by rfl)).mpr ?_
              refine Og.gives_is (.bool true) ?_ (And.intro (Below.refl _ _) rfl)
              go_simp
            · refine ⟨fun v w hv => by (have hv' : v = .bool true := hv); subst hv'; exact (if_pos (by rfl)).mpr rfl, fun ρ w1 hr hd => ?_⟩
              obtain ⟨d0, _⟩ := hd
              have d0 : ρ (.tmp 8) = .pointer (some ⟨p, 0, none⟩) := d0
              refine (if_pos (by rfl)).mpr ?_
              refine Og.gives_is (.pointer (some ⟨p, 0, none⟩)) ?_ (And.intro (Below.refl _ _) rfl)
              go_simp
            · refine ⟨fun v w hv => by (have hv' : v = .bool true := hv); subst hv'; exact (if_pos (by rfl)).mpr rfl, fun ρ w1 hr hd => ?_⟩
              obtain ⟨d0, d1, _⟩ := hd
              have d0 : ρ (.func 16) = .func (.func 16) #[] #[] := d0
              have d1 : ρ (.tmp 86) = .pointer (some ⟨p, 0, none⟩) := d1
              refine (if_pos (by rfl)).mpr ?_
              refine Og.gives_call 16 #[.pointer (some ⟨p, 0, none⟩)] ?_ ?_
              · go_simp
              · refine (bytes_any p h bs w1 (HM.out.old hr)).mono fun e w' ⟨v, he, hown, hb⟩ => ?_
                rw [HLEN.out] at hown
                obtain ⟨a5, c5, hv, hsl, _, _⟩ := sl_own hown
                exact ⟨v, he, hb, w', Below.refl _ _, a5, c5, hv, hsl⟩
            · refine ⟨fun v w hv => by (have hv' : v = .bool true := hv); subst hv'; exact (if_pos (by rfl)).mpr rfl, fun ρ w1 hr hd => ?_⟩
              obtain ⟨d0, _⟩ := hd
              have d0 : ∃ w1', Below w1'.heap.size w1' w1 ∧ (fun v w => ∃ a c, v = .slice a ys.length c ∧ Sl w a bs) (ρ (.tmp 87)) w1' := d0
              obtain ⟨w2, hb2, a5, c5, d0, hs⟩ := d0
              have cv := conv_sl w1 a5 ys.length c5 bs (hs.old hb2) HLEN.out
              refine (if_pos (by rfl)).mpr ?_
              refine Og.gives_is (.string (strOfNums bs)) ?_ (And.intro (Below.refl _ _) rfl)
              go_simp
            · refine ⟨fun v w hv => by (have hv' : v = .bool true := hv); subst hv'; exact (if_pos (by rfl)).mpr rfl, fun ρ w1 hr hd => ?_⟩
              obtain ⟨d0, _⟩ := hd
              have d0 : ρ (.tmp 7) = .slice (some ⟨g, 0, none⟩) ys.length ys.length := d0
              refine (if_pos (by rfl)).mpr ?_
              refine Og.gives_is (.slice (some ⟨g, 0, none⟩) ys.length ys.length) ?_ (And.intro (Below.refl _ _) rfl)
              go_simp
            · refine ⟨fun v w hv => by (have hv' : v = .bool true := hv); subst hv'; exact (if_pos (by rfl)).mpr rfl, fun ρ w1 hr hd => ?_⟩
              obtain ⟨d0, _⟩ := hd
              have d0 : ρ (.tmp 5) = .pointer (some ⟨w.heap.size, 0, none⟩) := d0
              refine (if_pos (by rfl)).mpr ?_
              refine Og.gives_is (.pointer (some ⟨w.heap.size, 0, none⟩)) ?_ (And.intro (Below.refl _ _) rfl)
              go_simp
            · refine ⟨fun v w hv => by (have hv' : v = .bool true := hv); subst hv'; exact (if_pos (by rfl)).mpr rfl, fun ρ w1 hr hd => ?_⟩
              obtain ⟨d0, _⟩ := hd
              have d0 : ρ (.tmp 90) = .pointer (some ⟨w.heap.size, 0, none⟩) := d0
              have k0 := (HX.out.old hr).c0
              refine (if_pos (by rfl)).mpr ?_
              refine Og.gives_is (.int .u32 (addr : Int)) ?_ (And.intro (Below.refl _ _) rfl)
              go_simp
            · refine ⟨fun v w hv => by (have hv' : v = .bool true := hv); subst hv'; exact (if_pos (by rfl)).mpr rfl, fun ρ w1 hr hd => ?_⟩
              obtain ⟨d0, _⟩ := hd
              have d0 : ρ (.tmp 5) = .pointer (some ⟨w.heap.size, 0, none⟩) := d0
              refine (if_pos (by rfl)).mpr ?_
              refine Og.gives_is (.pointer (some ⟨w.heap.size, 1, none⟩)) ?_ (And.intro (Below.refl _ _) rfl)
              go_simp
            · refine ⟨fun v w hv => by (have hv' : v = .bool true := hv); subst hv'; exact (if_pos (by rfl)).mpr rfl, fun ρ w1 hr hd => ?_⟩
              obtain ⟨d0, _⟩ := hd
              have d0 : ρ (.tmp 92) = .pointer (some ⟨w.heap.size, 1, none⟩) := d0
              have k0 := (HX.out.old hr).c1
              refine (if_pos (by rfl)).mpr ?_
              refine Og.gives_is (.int .i64 2) ?_ (And.intro (Below.refl _ _) rfl)
              go_simp
            · refine ⟨fun v w hv => by (have hv' : v = .bool true := hv); subst hv'; exact (if_pos (by rfl)).mpr rfl, fun ρ w1 hr hd => ?_⟩
              obtain ⟨d0, _⟩ := hd
              have d0 : ρ (.tmp 5) = .pointer (some ⟨w.heap.size, 0, none⟩) := d0
              refine (if_pos (by rfl)).mpr ?_
              refine Og.gives_is (.pointer (some ⟨w.heap.size, 2, none⟩)) ?_ (And.intro (Below.refl _ _) rfl)
              go_simp
            · refine ⟨fun v w hv => by (have hv' : v = .bool true := hv); subst hv'; exact (if_pos (by rfl)).mpr rfl, fun ρ w1 hr hd => ?_⟩
              obtain ⟨d0, _⟩ := hd
              have d0 : ρ (.tmp 94) = .pointer (some ⟨w.heap.size, 2, none⟩) := d0
              have k0 := (HX.out.old hr).c2
              refine (if_pos (by rfl)).mpr ?_
              refine Og.gives_is (.int .u32 a2v) ?_ (And.intro (Below.refl _ _) rfl)
              go_simp
            · refine ⟨fun v w hv => by (have hv' : v = .bool true := hv); subst hv'; exact (if_pos (by rfl)).mpr rfl, fun ρ w1 hr hd => ?_⟩
              obtain ⟨d0, d1, d2, d3, d4, _⟩ := hd
              have d0 : ρ (.func 23) = .func (.func 23) #[] #[] := d0
              have d1 : ρ (.tmp 89) = .slice (some ⟨g, 0, none⟩) ys.length ys.length := d1
              have d2 : ρ (.tmp 91) = .int .u32 (addr : Int) := d2
              have d3 : ρ (.tmp 93) = .int .i64 2 := d3
              have d4 : ρ (.tmp 95) = .int .u32 a2v := d4
              refine (if_pos (by rfl)).mpr ?_
              refine Og.gives_call 23 #[.slice (some ⟨g, 0, none⟩) ys.length ys.length, .int .u32 (addr : Int), .int .i64 2, .int .u32 a2v] ?_ ?_
              · go_simp
              · refine (rwrite_any g addr 2 a2v ys w1 (HRX.out.old hr) HY.out (by omega) (by omega) (by omega) hv HGO.out).mono fun e w' ⟨v, he, hown, hb⟩ => ?_
                rw [← HBS.out] at hown
                obtain ⟨a5, c5, hv, hsl, _, _⟩ := sl_own hown
                exact ⟨v, he, hb, w', Below.refl _ _, a5, c5, hv, hsl⟩
            · refine ⟨fun v w hv => by (have hv' : v = .bool true := hv); subst hv'; exact (if_pos (by rfl)).mpr rfl, fun ρ w1 hr hd => ?_⟩
              obtain ⟨d0, _⟩ := hd
              have d0 : ∃ w1', Below w1'.heap.size w1' w1 ∧ (fun v w => ∃ a c, v = .slice a ys.length c ∧ Sl w a bs) (ρ (.tmp 96)) w1' := d0
              obtain ⟨w2, hb2, a5, c5, d0, hs⟩ := d0
              have cv := conv_sl w1 a5 ys.length c5 bs (hs.old hb2) HLEN.out
              refine (if_pos (by rfl)).mpr ?_
              refine Og.gives_is (.string (strOfNums bs)) ?_ (And.intro (Below.refl _ _) rfl)
              go_simp
            · refine ⟨fun v w hv => by (have hv' : v = .bool true := hv); subst hv'; exact (if_pos (by rfl)).mpr rfl, fun ρ w1 hr hd => ?_⟩
              obtain ⟨d0, d1, _⟩ := hd
              have d0 : ρ (.tmp 88) = .string (strOfNums bs) := d0
              have d1 : ρ (.tmp 97) = .string (strOfNums bs) := d1
              refine (if_pos (by rfl)).mpr ?_
              refine Og.gives_is (.bool true) ?_ (And.intro (Below.refl _ _) rfl)
              go_simp
            · refine ⟨rfl, fun ρ w1 hr hd => ?_⟩
              obtain ⟨d0, d1, d2, _⟩ := hd
              have d0 : ρ (.tmp 85) = .bool true := d0
              have d1 : ρ (.tmp 98) = .bool true := d1
              have d2 : ρ (.const (.bool false)) = .bool false := d2
              refine (if_pos (by rfl)).mpr ?_
              refine Og.gives_is (.bool true) ?_ (And.intro (Below.refl _ _) rfl)
              go_simp
            · refine ⟨rfl, fun ρ w1 hr hd => ?_⟩
              obtain ⟨d0, _⟩ := hd
              have d0 : ρ (.tmp 99) = .bool true := d0
              refine (if_pos (by rfl)).mpr ?_
              refine Og.gives_is (.bool true) ?_ (And.intro (Below.refl _ _) rfl)
              go_simp
            · refine ⟨fun v w hv => by (have hv' : v = .bool true := hv); subst hv'; exact (if_pos (by rfl)).mpr rfl, fun ρ w1 hr hd => ?_⟩
              obtain ⟨d0, _⟩ := hd
              have d0 : ρ (.func 11) = .func (.func 11) #[] #[] := d0
              refine (if_pos (by rfl)).mpr ?_
              refine Og.gives_call 11 #[] ?_ ?_
              · go_simp
              · exact (works_any w1).mono fun e w' ⟨he, hb⟩ => ⟨_, he, hb, rfl⟩
            · refine ⟨rfl, fun ρ w1 hr hd => ?_⟩
              obtain ⟨d0, d1, d2, _⟩ := hd
              have d0 : ρ (.tmp 100) = .bool true := d0
              have d1 : ρ (.tmp 101) = .bool true := d1
              have d2 : ρ (.const (.bool false)) = .bool false := d2
              refine (if_pos (by rfl)).mpr ?_
              refine Og.gives_is (.bool true) ?_ (And.intro (Below.refl _ _) rfl)
              go_simp
            · refine ⟨rfl, fun ρ w1 hr hd => ?_⟩
              obtain ⟨d0, _⟩ := hd
              have d0 : ρ (.tmp 102) = .bool true := d0
              refine (if_pos (by rfl)).mpr ?_
              refine Og.gives_is (.bool true) ?_ (And.intro (Below.refl _ _) rfl)
              go_simp
          · intro a w1 hbz hdf hsz hall
            have hres : a.tmps.getD 6 undef = .bool true := hall 26 _ 6 rfl rfl
            go_wp2
            refine bodyPost_ret (v := .bool true) (by rw [results_tmp rfl]; rw [hres]) hdf ⟨rfl, below_tr HT.out hbz⟩
        · have k0 := HXB.out.c0; have k1 := HXB.out.c1; have k2 := HXB.out.c2
          go_wp2_with (first | (go_at_call 14; refine (num_any _ _).mono ?_; rintro e w' ⟨rfl, rfl⟩))
          refine (rrefused_no _ ys.length ys.length addr _ _ _ (by omega) (by omega) (by omega) (.inr ⟨2, rfl, by omega, .inr ⟨rfl, hal, by omega⟩⟩)).mono ?_
          rintro e w' ⟨rfl, rfl⟩
          go_wp2_with fail
          refine (read_no p h ys addr _ _ _ HI.out (by omega) HW.out (.inr ⟨2, rfl, by omega, .inr ⟨rfl, hal, by omega⟩⟩)).mono ?_
          clear k0 k1 k2
          rintro e wc ⟨rfl, hb⟩
          have HB := Lib.hid hb; clear hb
          have HM := Lib.hid (HI.out.old HB.out); have HX := Lib.hid (HXB.out.old HB.out); have HT := Lib.hid (below_tr HTB.out HB.out); have HRX := Lib.hid (HRB.out.old HB.out)
          have k0 := HX.out.c0; have k1 := HX.out.c1; have k2 := HX.out.c2
          go_wp2_with fail
          refine (write_no p h ys addr _ a2v _ _ HM.out (by omega) HW.out (.inr ⟨2, rfl, by omega, .inr ⟨rfl, hal, by omega⟩⟩)).mono ?_
          clear k0 k1 k2
          rintro e wd ⟨rfl, hb⟩
          have HB := Lib.hid hb; clear hb
          have HT := Lib.hid (below_tr HT.out HB.out)
          have HM := Lib.hid (HM.out.old HB.out)
          have HRX := Lib.hid (HRX.out.old HB.out)
          go_wp2_with (first | (go_at_call 14; refine (num_any _ _).mono ?_; rintro e w' ⟨rfl, rfl⟩))
          refine Og.region2 (by kernel_rfl) (fun t => if t = 6 then some 13 else if 64 ≤ t ∧ t ≤ 76 then some (t - 64) else none) [.is (.int .u32 0), .is (.bool true), .is (.bool true), .is (.pointer (some ⟨p, 0, none⟩)), .says (fun v w => ∃ a c, v = .slice a ys.length c ∧ Sl w a ys), .is (.string (strOfNums ys)), .is (.slice (some ⟨g, 0, none⟩) ys.length ys.length), .is (.string (strOfNums ys)), .is (.bool true), .is (.bool true), .is (.bool true), .is (.bool true), .is (.bool true), .is (.bool true)] [true, true, true, true, true, true, true, true, true, true, true, true, true, true] (by kernel_rfl) ?_ ?_
          · refine ⟨?_, ?_, ?_, ?_, ?_, ?_, ?_, ?_, ?_, ?_, ?_, ?_, ?_, ?_, trivial⟩
            · refine ⟨rfl, fun ρ w1 hr hd => ?_⟩
              obtain ⟨d0, _⟩ := hd
              have d0 : ρ (.tmp 11) = .int .u32 0 := d0
              refine (if_pos (by rfl)).mpr ?_
              refine Og.gives_is (.int .u32 0) ?_ (And.intro (Below.refl _ _) rfl)
              go_simp
            · refine ⟨rfl, fun ρ w1 hr hd => ?_⟩
              obtain ⟨d0, d1, _⟩ := hd
              have d0 : ρ (.tmp 64) = .int .u32 0 := d0
              have d1 : ρ (.const (.int .u32 0)) = .int .u32 0 := d1
              refine (if_pos (by rfl)).mpr ?_
              refine Og.gives_is (.bool true) ?_ (And.intro (Below.refl _ _) rfl)
              go_simp
            · refine ⟨rfl, fun ρ w1 hr hd => ?_⟩
              obtain ⟨d0, _⟩ := hd
              have d0 : ρ (.tmp 65) = .bool true := d0
              refine (if_pos (by rfl)).mpr ?_
              refine Og.gives_is (.bool true) ?_ (And.intro (Below.refl _ _) rfl)
              go_simp
            · refine ⟨fun v w hv => by (have hv' : v = .bool true := hv); subst hv'; exact (if_pos (by rfl)).mpr rfl, fun ρ w1 hr hd => ?_⟩
              obtain ⟨d0, _⟩ := hd
              have d0 : ρ (.tmp 8) = .pointer (some ⟨p, 0, none⟩) := d0
              refine (if_pos (by rfl)).mpr ?_
              refine Og.gives_is (.pointer (some ⟨p, 0, none⟩)) ?_ (And.intro (Below.refl _ _) rfl)
              go_simp
            · refine ⟨fun v w hv => by (have hv' : v = .bool true := hv); subst hv'; exact (if_pos (by rfl)).mpr rfl, fun ρ w1 hr hd => ?_⟩
              obtain ⟨d0, d1, _⟩ := hd
              have d0 : ρ (.func 16) = .func (.func 16) #[] #[] := d0
              have d1 : ρ (.tmp 67) = .pointer (some ⟨p, 0, none⟩) := d1
              refine (if_pos (by rfl)).mpr ?_
              refine Og.gives_call 16 #[.pointer (some ⟨p, 0, none⟩)] ?_ ?_
              · go_simp
              · refine (bytes_any p h ys w1 (HM.out.old hr)).mono fun e w' ⟨v, he, hown, hb⟩ => ?_
                obtain ⟨a5, c5, hv, hsl, _, _⟩ := sl_own hown
                exact ⟨v, he, hb, w', Below.refl _ _, a5, c5, hv, hsl⟩
            · refine ⟨fun v w hv => by (have hv' : v = .bool true := hv); subst hv'; exact (if_pos (by rfl)).mpr rfl, fun ρ w1 hr hd => ?_⟩
              obtain ⟨d0, _⟩ := hd
              have d0 : ∃ w1', Below w1'.heap.size w1' w1 ∧ (fun v w => ∃ a c, v = .slice a ys.length c ∧ Sl w a ys) (ρ (.tmp 68)) w1' := d0
              obtain ⟨w2, hb2, a5, c5, d0, hs⟩ := d0
              have cv := conv_sl w1 a5 ys.length c5 ys (hs.old hb2) rfl
              refine (if_pos (by rfl)).mpr ?_
              refine Og.gives_is (.string (strOfNums ys)) ?_ (And.intro (Below.refl _ _) rfl)
              go_simp
            · refine ⟨fun v w hv => by (have hv' : v = .bool true := hv); subst hv'; exact (if_pos (by rfl)).mpr rfl, fun ρ w1 hr hd => ?_⟩
              obtain ⟨d0, _⟩ := hd
              have d0 : ρ (.tmp 7) = .slice (some ⟨g, 0, none⟩) ys.length ys.length := d0
              refine (if_pos (by rfl)).mpr ?_
              refine Og.gives_is (.slice (some ⟨g, 0, none⟩) ys.length ys.length) ?_ (And.intro (Below.refl _ _) rfl)
              go_simp
            · refine ⟨fun v w hv => by (have hv' : v = .bool true := hv); subst hv'; exact (if_pos (by rfl)).mpr rfl, fun ρ w1 hr hd => ?_⟩
              obtain ⟨d0, _⟩ := hd
              have d0 : ρ (.tmp 70) = .slice (some ⟨g, 0, none⟩) ys.length ys.length := d0
              have cv := conv_sl w1 _ ys.length ys.length ys (Sl.of_row (HRX.out.old hr)) rfl
              refine (if_pos (by rfl)).mpr ?_
              refine Og.gives_is (.string (strOfNums ys)) ?_ (And.intro (Below.refl _ _) rfl)
              go_simp
            · refine ⟨fun v w hv => by (have hv' : v = .bool true := hv); subst hv'; exact (if_pos (by rfl)).mpr rfl, fun ρ w1 hr hd => ?_⟩
              obtain ⟨d0, d1, _⟩ := hd
              have d0 : ρ (.tmp 69) = .string (strOfNums ys) := d0
              have d1 : ρ (.tmp 71) = .string (strOfNums ys) := d1
              refine (if_pos (by rfl)).mpr ?_
              refine Og.gives_is (.bool true) ?_ (And.intro (Below.refl _ _) rfl)
              go_simp
            · refine ⟨rfl, fun ρ w1 hr hd => ?_⟩
              obtain ⟨d0, d1, d2, _⟩ := hd
              have d0 : ρ (.tmp 66) = .bool true := d0
              have d1 : ρ (.tmp 72) = .bool true := d1
              have d2 : ρ (.const (.bool false)) = .bool false := d2
              refine (if_pos (by rfl)).mpr ?_
              refine Og.gives_is (.bool true) ?_ (And.intro (Below.refl _ _) rfl)
              go_simp
            · refine ⟨rfl, fun ρ w1 hr hd => ?_⟩
              obtain ⟨d0, _⟩ := hd
              have d0 : ρ (.tmp 73) = .bool true := d0
              refine (if_pos (by rfl)).mpr ?_
              refine Og.gives_is (.bool true) ?_ (And.intro (Below.refl _ _) rfl)
              go_simp
            · refine ⟨fun v w hv => by (have hv' : v = .bool true := hv); subst hv'; exact (if_pos (by rfl)).mpr rfl, fun ρ w1 hr hd => ?_⟩
              obtain ⟨d0, _⟩ := hd
              have d0 : ρ (.func 11) = .func (.func 11) #[] #[] := d0
              refine (if_pos (by rfl)).mpr ?_
              refine Og.gives_call 11 #[] ?_ ?_
              · go_simp
              · exact (works_any w1).mono fun e w' ⟨he, hb⟩ => ⟨_, he, hb, rfl⟩
            · refine ⟨rfl, fun ρ w1 hr hd => ?_⟩
              obtain ⟨d0, d1, d2, _⟩ := hd
              have d0 : ρ (.tmp 74) = .bool true := d0
              have d1 : ρ (.tmp 75) = .bool true := d1
              have d2 : ρ (.const (.bool false)) = .bool false := d2
              refine (if_pos (by rfl)).mpr ?_
              refine Og.gives_is (.bool true) ?_ (And.intro (Below.refl _ _) rfl)
              go_simp
            · refine ⟨rfl, fun ρ w1 hr hd => ?_⟩
              obtain ⟨d0, _⟩ := hd
              have d0 : ρ (.tmp 76) = .bool true := d0
              refine (if_pos (by rfl)).mpr ?_
              refine Og.gives_is (.bool true) ?_ (And.intro (Below.refl _ _) rfl)
              go_simp
          · intro a w1 hbz hdf hsz hall
            have hres : a.tmps.getD 6 undef = .bool true := hall 13 _ 6 rfl rfl
            go_wp2
            refine bodyPost_ret (v := .bool true) (by rw [results_tmp rfl]; rw [hres]) hdf ⟨rfl, below_tr HT.out hbz⟩
      · have k0 := HXB.out.c0; have k1 := HXB.out.c1; have k2 := HXB.out.c2
        go_wp2_with (first | (go_at_call 14; refine (num_any _ _).mono ?_; rintro e w' ⟨rfl, rfl⟩))
        refine (rrefused_no _ ys.length ys.length addr _ _ _ (by omega) (by omega) (by omega) (.inr ⟨2, rfl, by omega, .inl ⟨rfl, hal⟩⟩)).mono ?_
        rintro e w' ⟨rfl, rfl⟩
        go_wp2_with fail
        refine (read_no p h ys addr _ _ _ HI.out (by omega) HW.out (.inr ⟨2, rfl, by omega, .inl ⟨rfl, hal⟩⟩)).mono ?_
        clear k0 k1 k2
        rintro e wc ⟨rfl, hb⟩
        have HB := Lib.hid hb; clear hb
        have HM := Lib.hid (HI.out.old HB.out); have HX := Lib.hid (HXB.out.old HB.out); have HT := Lib.hid (below_tr HTB.out HB.out); have HRX := Lib.hid (HRB.out.old HB.out)
        have k0 := HX.out.c0; have k1 := HX.out.c1; have k2 := HX.out.c2
        go_wp2_with fail
        refine (write_no p h ys addr _ a2v _ _ HM.out (by omega) HW.out (.inr ⟨2, rfl, by omega, .inl ⟨rfl, hal⟩⟩)).mono ?_
        clear k0 k1 k2
        rintro e wd ⟨rfl, hb⟩
        have HB := Lib.hid hb; clear hb
        have HT := Lib.hid (below_tr HT.out HB.out)
        have HM := Lib.hid (HM.out.old HB.out)
        have HRX := Lib.hid (HRX.out.old HB.out)
        go_wp2_with (first | (go_at_call 14; refine (num_any _ _).mono ?_; rintro e w' ⟨rfl, rfl⟩))
        refine Og.region2 (by kernel_rfl) (fun t => if t = 6 then some 13 else if 64 ≤ t ∧ t ≤ 76 then some (t - 64) else none) [.is (.int .u32 0), .is (.bool true), .is (.bool true), .is (.pointer (some ⟨p, 0, none⟩)), .says (fun v w => ∃ a c, v = .slice a ys.length c ∧ Sl w a ys), .is (.string (strOfNums ys)), .is (.slice (some ⟨g, 0, none⟩) ys.length ys.length), .is (.string (strOfNums ys)), .is (.bool true), .is (.bool true), .is (.bool true), .is (.bool true), .is (.bool true), .is (.bool true)] [true, true, true, true, true, true, true, true, true, true, true, true, true, true] (by kernel_rfl) ?_ ?_
        · refine ⟨?_, ?_, ?_, ?_, ?_, ?_, ?_, ?_, ?_, ?_, ?_, ?_, ?_, ?_, trivial⟩
          · refine ⟨rfl, fun ρ w1 hr hd => ?_⟩
            obtain ⟨d0, _⟩ := hd
            have d0 : ρ (.tmp 11) = .int .u32 0 := d0
            refine (if_pos (by rfl)).mpr ?_
            refine Og.gives_is (.int .u32 0) ?_ (And.intro (Below.refl _ _) rfl)
            go_simp
          · refine ⟨rfl, fun ρ w1 hr hd => ?_⟩
            obtain ⟨d0, d1, _⟩ := hd
            have d0 : ρ (.tmp 64) = .int .u32 0 := d0
            have d1 : ρ (.const (.int .u32 0)) = .int .u32 0 := d1
            refine (if_pos (by rfl)).mpr ?_
            refine Og.gives_is (.bool true) ?_ (And.intro (Below.refl _ _) rfl)
            go_simp
          · refine ⟨rfl, fun ρ w1 hr hd => ?_⟩
            obtain ⟨d0, _⟩ := hd
            have d0 : ρ (.tmp 65) = .bool true := d0
            refine (if_pos (by rfl)).mpr ?_
            refine Og.gives_is (.bool true) ?_ (And.intro (Below.refl _ _) rfl)
            go_simp
          · refine ⟨fun v w hv => by (have hv' : v = .bool true := hv); subst hv'; exact (if_pos (by rfl)).mpr rfl, fun ρ w1 hr hd => ?_⟩
            obtain ⟨d0, _⟩ := hd
            have d0 : ρ (.tmp 8) = .pointer (some ⟨p, 0, none⟩) := d0
            refine (if_pos (by rfl)).mpr ?_
            refine Og.gives_is (.pointer (some ⟨p, 0, none⟩)) ?_ (And.intro (Below.refl _ _) rfl)
            go_simp
          · refine ⟨fun v w hv => by (have hv' : v = .bool true := hv); subst hv'; exact (if_pos (by rfl)).mpr rfl, fun ρ w1 hr hd => ?_⟩
            obtain ⟨d0, d1, _⟩ := hd
            have d0 : ρ (.func 16) = .func (.func 16) #[] #[] := d0
            have d1 : ρ (.tmp 67) = .pointer (some ⟨p, 0, none⟩) := d1
            refine (if_pos (by rfl)).mpr ?_
            refine Og.gives_call 16 #[.pointer (some ⟨p, 0, none⟩)] ?_ ?_
            · go_simp
            · refine (bytes_any p h ys w1 (HM.out.old hr)).mono fun e w' ⟨v, he, hown, hb⟩ => ?_
              obtain ⟨a5, c5, hv, hsl, _, _⟩ := sl_own hown
              exact ⟨v, he, hb, w', Below.refl _ _, a5, c5, hv, hsl⟩
          · refine ⟨fun v w hv => by (have hv' : v = .bool true := hv); subst hv'; exact (if_pos (by rfl)).mpr rfl, fun ρ w1 hr hd => ?_⟩
            obtain ⟨d0, _⟩ := hd
            have d0 : ∃ w1', Below w1'.heap.size w1' w1 ∧ (fun v w => ∃ a c, v = .slice a ys.length c ∧ Sl w a ys) (ρ (.tmp 68)) w1' := d0
            obtain ⟨w2, hb2, a5, c5, d0, hs⟩ := d0
            have cv := conv_sl w1 a5 ys.length c5 ys (hs.old hb2) rfl
            refine (if_pos (by rfl)).mpr ?_
            refine Og.gives_is (.string (strOfNums ys)) ?_ (And.intro (Below.refl _ _) rfl)
            go_simp
          · refine ⟨fun v w hv => by (have hv' : v = .bool true := hv); subst hv'; exact (if_pos (by rfl)).mpr rfl, fun ρ w1 hr hd => ?_⟩
            obtain ⟨d0, _⟩ := hd
            have d0 : ρ (.tmp 7) = .slice (some ⟨g, 0, none⟩) ys.length ys.length := d0
            refine (if_pos (by rfl)).mpr ?_
            refine Og.gives_is (.slice (some ⟨g, 0, none⟩) ys.length ys.length) ?_ (And.intro (Below.refl _ _) rfl)
            go_simp
          · refine ⟨fun v w hv => by (have hv' : v = .bool true := hv); subst hv'; exact (if_pos (by rfl)).mpr rfl, fun ρ w1 hr hd => ?_⟩
            obtain ⟨d0, _⟩ := hd
            have d0 : ρ (.tmp 70) = .slice (some ⟨g, 0, none⟩) ys.length ys.length := d0
            have cv := conv_sl w1 _ ys.length ys.length ys (Sl.of_row (HRX.out.old hr)) rfl
            refine (if_pos (by rfl)).mpr ?_
            refine Og.gives_is (.string (strOfNums ys)) ?_ (And.intro (Below.refl _ _) rfl)
            go_simp
          · refine ⟨fun v w hv => by (have hv' : v = .bool true := hv); subst hv'; exact (if_pos (by rfl)).mpr rfl, fun ρ w1 hr hd => ?_⟩
            obtain ⟨d0, d1, _⟩ := hd
            have d0 : ρ (.tmp 69) = .string (strOfNums ys) := d0
            have d1 : ρ (.tmp 71) = .string (strOfNums ys) := d1
            refine (if_pos (by rfl)).mpr ?_
            refine Og.gives_is (.bool true) ?_ (And.intro (Below.refl _ _) rfl)
            go_simp
          · refine ⟨rfl, fun ρ w1 hr hd => ?_⟩
            obtain ⟨d0, d1, d2, _⟩ := hd
            have d0 : ρ (.tmp 66) = .bool true := d0
            have d1 : ρ (.tmp 72) = .bool true := d1
            have d2 : ρ (.const (.bool false)) = .bool false := d2
            refine (if_pos (by rfl)).mpr ?_
            refine Og.gives_is (.bool true) ?_ (And.intro (Below.refl _ _) rfl)
            go_simp
          · refine ⟨rfl, fun ρ w1 hr hd => ?_⟩
            obtain ⟨d0, _⟩ := hd
            have d0 : ρ (.tmp 73) = .bool true := d0
            refine (if_pos (by rfl)).mpr ?_
            refine Og.gives_is (.bool true) ?_ (And.intro (Below.refl _ _) rfl)
            go_simp
          · refine ⟨fun v w hv => by (have hv' : v = .bool true := hv); subst hv'; exact (if_pos (by rfl)).mpr rfl, fun ρ w1 hr hd => ?_⟩
            obtain ⟨d0, _⟩ := hd
            have d0 : ρ (.func 11) = .func (.func 11) #[] #[] := d0
            refine (if_pos (by rfl)).mpr ?_
            refine Og.gives_call 11 #[] ?_ ?_
            · go_simp
            · exact (works_any w1).mono fun e w' ⟨he, hb⟩ => ⟨_, he, hb, rfl⟩
          · refine ⟨rfl, fun ρ w1 hr hd => ?_⟩
            obtain ⟨d0, d1, d2, _⟩ := hd
            have d0 : ρ (.tmp 74) = .bool true := d0
            have d1 : ρ (.tmp 75) = .bool true := d1
            have d2 : ρ (.const (.bool false)) = .bool false := d2
            refine (if_pos (by rfl)).mpr ?_
            refine Og.gives_is (.bool true) ?_ (And.intro (Below.refl _ _) rfl)
            go_simp
          · refine ⟨rfl, fun ρ w1 hr hd => ?_⟩
            obtain ⟨d0, _⟩ := hd
            have d0 : ρ (.tmp 76) = .bool true := d0
            refine (if_pos (by rfl)).mpr ?_
            refine Og.gives_is (.bool true) ?_ (And.intro (Below.refl _ _) rfl)
            go_simp
        · intro a w1 hbz hdf hsz hall
          have hres : a.tmps.getD 6 undef = .bool true := hall 13 _ 6 rfl rfl
          go_wp2
          refine bodyPost_ret (v := .bool true) (by rw [results_tmp rfl]; rw [hres]) hdf ⟨rfl, below_tr HT.out hbz⟩
    · go_enter Try.func4, Try.ntmps4
      go_wp2_with fail
      refine (sized_any a0 n0 c0 x0 a1 _ (B0.out.old HBX.out) l0 (by omega) (wf_i64 w1)).mono ?_
      rintro e wa ⟨g, ys, rfl, hr, hok, hyb, hg, hba⟩
      have hbd := Im.okB_bd hok
      have HR := Lib.hid hr; have HOK := Lib.hid hok; have HY := Lib.hid hyb; have HG := Lib.hid hg; have HBA := Lib.hid hba; clear hr hok hyb hg hba
      go_wp2_with fail
      refine (of_yes ys.length ys.length _ ys HOK.out rfl HY.out _ (Sl.of_row HR.out)).mono ?_
      rintro e wb ⟨p, h, rfl, hi, hp, hh, hbb⟩
      have HI := Lib.hid hi; have HP := Lib.hid hp; have HH := Lib.hid hh; have HBB := Lib.hid hbb; clear hi hp hh hbb
      have HRB := Lib.hid (HR.out.old HBB.out)
      obtain ⟨hba1, hbox⟩ := box_first HBA.out
      have HBA1 := Lib.hid hba1; have HBOX := Lib.hid hbox; clear hba1 hbox
      have HXB := Lib.hid (HBOX.out.old HBB.out)
      have HRH := Lib.hid (show w.heap.size < h from Nat.lt_of_lt_of_le HBOX.out.lt HH.out)
      have HGH := Lib.hid (show g < h from Nat.lt_of_lt_of_le HR.out.lt HH.out)
      have HTB := Lib.hid (below_tr HBA1.out HBB.out)
      by_cases hal : addr % 4 = 0
      · by_cases hlt : addr < ys.length
        · have HGO := Lib.hid (show Goes ys.length addr 4 from ⟨by omega, hal, hlt⟩)
          have k0 := HXB.out.c0; have k1 := HXB.out.c1; have k2 := HXB.out.c2
          go_wp2_with (first | (go_at_call 14; refine (num_any _ _).mono ?_; rintro e w' ⟨rfl, rfl⟩))
          refine (rrefused_ok _ ys.length ys.length addr 4 _ (by omega) (by omega) HGO.out).mono ?_
          rintro e w' ⟨rfl, rfl⟩
          go_wp2_with fail
          refine (read_goes p h ys addr 4 _ (by omega) HI.out (by omega) hal hlt).mono ?_
          clear k0 k1 k2
          rintro e wc ⟨rfl, hb⟩
          have HB := Lib.hid hb; clear hb
          have HIC := Lib.hid (HI.out.old HB.out); have HXC := Lib.hid (HXB.out.old HB.out); have HTC := Lib.hid (below_tr HTB.out HB.out); have HRC := Lib.hid (HRB.out.old HB.out)
          have k0 := HXC.out.c0; have k1 := HXC.out.c1; have k2 := HXC.out.c2
          go_wp2_with fail
          refine (write_goes p h ys addr 4 a2v _ (by omega) hv HIC.out (by omega) hal hlt).mono ?_
          clear k0 k1 k2
          rintro e wd ⟨rfl, hi2, hgd⟩
          have hlen : (Im.sets ys addr (Im.byt a2v) 4).length = ys.length := Im.length_sets _ _ _ _
          obtain ⟨bs, hbs⟩ : ∃ bs, bs = Im.sets ys addr (Im.byt a2v) 4 := ⟨_, rfl⟩
          rw [← hbs] at hlen hi2
          have HM := Lib.hid hi2; have HGD := Lib.hid hgd; have HLEN := Lib.hid hlen; have HBS := Lib.hid hbs; clear hi2 hgd hlen hbs
          have HX := Lib.hid (HXC.out.kept HGD.out (by have := HRH.out; simp; omega))
          have HRX := Lib.hid (HRC.out.kept HGD.out (by have := HGH.out; simp; omega))
          have HT := Lib.hid (HTC.out.grown HGD.out HTC.out.size (fun k hk => by cases hk; exact Nat.le_of_lt HRH.out))
          go_wp2_with (first | (go_at_call 14; refine (num_any _ _).mono ?_; rintro e w' ⟨rfl, rfl⟩))
          refine Og.region2 (by kernel_rfl) (fun t => if t = 6 then some 26 else if 77 ≤ t ∧ t ≤ 102 then some (t - 77) else none) [.is (.int .u32 (Im.val (Im.win ys addr 4))), .is (.slice (some ⟨g, 0, none⟩) ys.length ys.length), .is (.pointer (some ⟨w.heap.size, 0, none⟩)), .is (.int .u32 (addr : Int)), .is (.pointer (some ⟨w.heap.size, 1, none⟩)), .is (.int .i64 4), .is (.int .u32 (Im.val (Im.win ys addr 4))), .is (.bool true), .is (.bool true), .is (.pointer (some ⟨p, 0, none⟩)), .says (fun v w => ∃ a c, v = .slice a ys.length c ∧ Sl w a bs), .is (.string (strOfNums bs)), .is (.slice (some ⟨g, 0, none⟩) ys.length ys.length), .is (.pointer (some ⟨w.heap.size, 0, none⟩)), .is (.int .u32 (addr : Int)), .is (.pointer (some ⟨w.heap.size, 1, none⟩)), .is (.int .i64 4), .is (.pointer (some ⟨w.heap.size, 2, none⟩)), .is (.int .u32 a2v), .says (fun v w => ∃ a c, v = .slice a ys.length c ∧ Sl w a bs), .is (.string (strOfNums bs)), .is (.bool true), .is (.bool true), .is (.bool true), .is (.bool true), .is (.bool true), .is (.bool true)] [true, true, true, true, true, true, true, true, true, true, true, true, true, true, true, true, true, true, true, true, true, true, true, true, true, true, true] (by kernel_rfl) ?_ ?_
          · refine ⟨?_, ?_, ?_, ?_, ?_, ?_, ?_, ?_, ?_, ?_, ?_, ?_, ?_, ?_, ?_, ?_, ?_, ?_, ?_, ?_, ?_, ?_, ?_, ?_, ?_, ?_, ?_, trivial⟩
            · refine ⟨rfl, fun ρ w1 hr hd => ?_⟩
              obtain ⟨d0, _⟩ := hd
              have d0 : ρ (.tmp 11) = .int .u32 (Im.val (Im.win ys addr 4)) := d0
              refine (if_pos (by rfl)).mpr ?_
              refine Og.gives_is (.int .u32 (Im.val (Im.win ys addr 4))) ?_ (And.intro (Below.refl _ _) rfl)
              go_simp
            · refine ⟨rfl, fun ρ w1 hr hd => ?_⟩
              obtain ⟨d0, _⟩ := hd
              have d0 : ρ (.tmp 7) = .slice (some ⟨g, 0, none⟩) ys.length ys.length := d0
              refine (if_pos (by rfl)).mpr ?_
              refine Og.gives_is (.slice (some ⟨g, 0, none⟩) ys.length ys.length) ?_ (And.intro (Below.refl _ _) rfl)
              go_simp
            · refine ⟨rfl, fun ρ w1 hr hd => ?_⟩
              obtain ⟨d0, _⟩ := hd
              have d0 : ρ (.tmp 5) = .pointer (some ⟨w.heap.size, 0, none⟩) := d0
              refine (if_pos (by rfl)).mpr ?_
              refine Og.gives_is (.pointer (some ⟨w.heap.size, 0, none⟩)) ?_ (And.intro (Below.refl _ _) rfl)
              go_simp
            · refine ⟨rfl, fun ρ w1 hr hd => ?_⟩
              obtain ⟨d0, _⟩ := hd
              have d0 : ρ (.tmp 79) = .pointer (some ⟨w.heap.size, 0, none⟩) := d0
              have k0 := (HX.out.old hr).c0
              refine (if_pos (by rfl)).mpr ?_
              refine Og.gives_is (.int .u32 (addr : Int)) ?_ (And.intro (Below.refl _ _) rfl)
              go_simp
            · refine ⟨rfl, fun ρ w1 hr hd => ?_⟩
              obtain ⟨d0, _⟩ := hd
              have d0 : ρ (.tmp 5) = .pointer (some ⟨w.heap.size, 0, none⟩) := d0
              refine (if_pos (by rfl)).mpr ?_
              refine Og.gives_is (.pointer (some ⟨w.heap.size, 1, none⟩)) ?_ (And.intro (Below.refl _ _) rfl)
              go_simp
            · refine ⟨rfl, fun ρ w1 hr hd => ?_⟩
              obtain ⟨d0, _⟩ := hd
              have d0 : ρ (.tmp 81) = .pointer (some ⟨w.heap.size, 1, none⟩) := d0
              have k0 := (HX.out.old hr).c1
              refine (if_pos (by rfl)).mpr ?_
              refine Og.gives_is (.int .i64 4) ?_ (And.intro (Below.refl _ _) rfl)
              go_simp
            · refine ⟨rfl, fun ρ w1 hr hd => ?_⟩
              obtain ⟨d0, d1, d2, d3, _⟩ := hd
              have d0 : ρ (.func 22) = .func (.func 22) #[] #[] := d0
              have d1 : ρ (.tmp 78) = .slice (some ⟨g, 0, none⟩) ys.length ys.length := d1
              have d2 : ρ (.tmp 80) = .int .u32 (addr : Int) := d2
              have d3 : ρ (.tmp 82) = .int .i64 4 := d3
              refine (if_pos (by rfl)).mpr ?_
              refine Og.gives_call 22 #[.slice (some ⟨g, 0, none⟩) ys.length ys.length, .int .u32 (addr : Int), .int .i64 4] ?_ ?_
              · go_simp
              · exact (rread_any g addr 4 ys w1 (HRX.out.old hr) HY.out (by omega) (by omega) (by omega) HGO.out).mono fun e w' ⟨he, hw⟩ => ⟨_, he, by subst hw; exact Below.refl _ _, rfl⟩
            · refine ⟨rfl, fun ρ w1 hr hd => ?_⟩
              obtain ⟨d0, d1, _⟩ := hd
              have d0 : ρ (.tmp 77) = .int .u32 (Im.val (Im.win ys addr 4)) := d0
              have d1 : ρ (.tmp 83) = .int .u32 (Im.val (Im.win ys addr 4)) := d1
              refine (if_pos (by rfl)).mpr ?_
              refine Og.gives_is (.bool true) ?_ (And.intro (Below.refl _ _) rfl)
              go_simp
            · refine ⟨rfl, fun ρ w1 hr hd => ?_⟩
              obtain ⟨d0, _⟩ := hd
              have d0 : ρ (.tmp 84) = .bool true := d0
              refine (if_pos (by rfl)).mpr ?_
              refine Og.gives_is (.bool true) ?_ (And.intro (Below.refl _ _) rfl)
              go_simp
            · refine ⟨fun v w hv => by (have hv' : v = .bool true := hv); subst hv'; exact (if_pos (by rfl)).mpr rfl, fun ρ w1 hr hd => ?_⟩
              obtain ⟨d0, _⟩ := hd
              have d0 : ρ (.tmp 8) = .pointer (some ⟨p, 0, none⟩) := d0
              refine (if_pos (by rfl)).mpr ?_
              refine Og.gives_is (.pointer (some ⟨p, 0, none⟩)) ?_ (And.intro (Below.refl _ _) rfl)
              go_simp
            · refine ⟨fun v w hv => by (have hv' : v = .bool true := hv); subst hv'; exact (if_pos (by rfl)).mpr rfl, fun ρ w1 hr hd => ?_⟩
              obtain ⟨d0, d1, _⟩ := hd
              have d0 : ρ (.func 16) = .func (.func 16) #[] #[] := d0
              have d1 : ρ (.tmp 86) = .pointer (some ⟨p, 0, none⟩) := d1
              refine (if_pos (by rfl)).mpr ?_
              refine Og.gives_call 16 #[.pointer (some ⟨p, 0, none⟩)] ?_ ?_
              · go_simp
              · refine (bytes_any p h bs w1 (HM.out.old hr)).mono fun e w' ⟨v, he, hown, hb⟩ => ?_
                rw [HLEN.out] at hown
                obtain ⟨a5, c5, hv, hsl, _, _⟩ := sl_own hown
                exact ⟨v, he, hb, w', Below.refl _ _, a5, c5, hv, hsl⟩
            · refine ⟨fun v w hv => by (have hv' : v = .bool true := hv); subst hv'; exact (if_pos (by rfl)).mpr rfl, fun ρ w1 hr hd => ?_⟩
              obtain ⟨d0, _⟩ := hd
              have d0 : ∃ w1', Below w1'.heap.size w1' w1 ∧ (fun v w => ∃ a c, v = .slice a ys.length c ∧ Sl w a bs) (ρ (.tmp 87)) w1' := d0
              obtain ⟨w2, hb2, a5, c5, d0, hs⟩ := d0
              have cv := conv_sl w1 a5 ys.length c5 bs (hs.old hb2) HLEN.out
              refine (if_pos (by rfl)).mpr ?_
              refine Og.gives_is (.string (strOfNums bs)) ?_ (And.intro (Below.refl _ _) rfl)
              go_simp
            · refine ⟨fun v w hv => by (have hv' : v = .bool true := hv); subst hv'; exact (if_pos (by rfl)).mpr rfl, fun ρ w1 hr hd => ?_⟩
              obtain ⟨d0, _⟩ := hd
              have d0 : ρ (.tmp 7) = .slice (some ⟨g, 0, none⟩) ys.length ys.length := d0
              refine (if_pos (by rfl)).mpr ?_
              refine Og.gives_is (.slice (some ⟨g, 0, none⟩) ys.length ys.length) ?_ (And.intro (Below.refl _ _) rfl)
              go_simp
            · refine ⟨fun v w hv => by (have hv' : v = .bool true := hv); subst hv'; exact (if_pos (by rfl)).mpr rfl, fun ρ w1 hr hd => ?_⟩
              obtain ⟨d0, _⟩ := hd
              have d0 : ρ (.tmp 5) = .pointer (some ⟨w.heap.size, 0, none⟩) := d0
              refine (if_pos (by rfl)).mpr ?_
              refine Og.gives_is (.pointer (some ⟨w.heap.size, 0, none⟩)) ?_ (And.intro (Below.refl _ _) rfl)
              go_simp
            · refine ⟨fun v w hv => by (have hv' : v = .bool true := hv); subst hv'; exact (if_pos (by rfl)).mpr rfl, fun ρ w1 hr hd => ?_⟩
              obtain ⟨d0, _⟩ := hd
              have d0 : ρ (.tmp 90) = .pointer (some ⟨w.heap.size, 0, none⟩) := d0
              have k0 := (HX.out.old hr).c0
              refine (if_pos (by rfl)).mpr ?_
              refine Og.gives_is (.int .u32 (addr : Int)) ?_ (And.intro (Below.refl _ _) rfl)
              go_simp
            · refine ⟨fun v w hv => by (have hv' : v = .bool true := hv); subst hv'; exact (if_pos (by rfl)).mpr rfl, fun ρ w1 hr hd => ?_⟩
              obtain ⟨d0, _⟩ := hd
              have d0 : ρ (.tmp 5) = .pointer (some ⟨w.heap.size, 0, none⟩) := d0
              refine (if_pos (by rfl)).mpr ?_
              refine Og.gives_is (.pointer (some ⟨w.heap.size, 1, none⟩)) ?_ (And.intro (Below.refl _ _) rfl)
              go_simp
            · refine ⟨fun v w hv => by (have hv' : v = .bool true := hv); subst hv'; exact (if_pos (by rfl)).mpr rfl, fun ρ w1 hr hd => ?_⟩
              obtain ⟨d0, _⟩ := hd
              have d0 : ρ (.tmp 92) = .pointer (some ⟨w.heap.size, 1, none⟩) := d0
              have k0 := (HX.out.old hr).c1
              refine (if_pos (by rfl)).mpr ?_
              refine Og.gives_is (.int .i64 4) ?_ (And.intro (Below.refl _ _) rfl)
              go_simp
            · refine ⟨fun v w hv => by (have hv' : v = .bool true := hv); subst hv'; exact (if_pos (by rfl)).mpr rfl, fun ρ w1 hr hd => ?_⟩
              obtain ⟨d0, _⟩ := hd
              have d0 : ρ (.tmp 5) = .pointer (some ⟨w.heap.size, 0, none⟩) := d0
              refine (if_pos (by rfl)).mpr ?_
              refine Og.gives_is (.pointer (some ⟨w.heap.size, 2, none⟩)) ?_ (And.intro (Below.refl _ _) rfl)
              go_simp
            · refine ⟨fun v w hv => by (have hv' : v = .bool true := hv); subst hv'; exact (if_pos (by rfl)).mpr rfl, fun ρ w1 hr hd => ?_⟩
              obtain ⟨d0, _⟩ := hd
              have d0 : ρ (.tmp 94) = .pointer (some ⟨w.heap.size, 2, none⟩) := d0
              have k0 := (HX.out.old hr).c2
              refine (if_pos (by rfl)).mpr ?_
              refine Og.gives_is (.int .u32 a2v) ?_ (And.intro (Below.refl _ _) rfl)
              go_simp
            · refine ⟨fun v w hv => by (have hv' : v = .bool true := hv); subst hv'; exact (if_pos (by rfl)).mpr rfl, fun ρ w1 hr hd => ?_⟩
              obtain ⟨d0, d1, d2, d3, d4, _⟩ := hd
              have d0 : ρ (.func 23) = .func (.func 23) #[] #[] := d0
              have d1 : ρ (.tmp 89) = .slice (some ⟨g, 0, none⟩) ys.length ys.length := d1
              have d2 : ρ (.tmp 91) = .int .u32 (addr : Int) := d2
              have d3 : ρ (.tmp 93) = .int .i64 4 := d3
              have d4 : ρ (.tmp 95) = .int .u32 a2v := d4
              refine (if_pos (by rfl)).mpr ?_
              refine Og.gives_call 23 #[.slice (some ⟨g, 0, none⟩) ys.length ys.length, .int .u32 (addr : Int), .int .i64 4, .int .u32 a2v] ?_ ?_
              · go_simp
              · refine (rwrite_any g addr 4 a2v ys w1 (HRX.out.old hr) HY.out (by omega) (by omega) (by omega) hv HGO.out).mono fun e w' ⟨v, he, hown, hb⟩ => ?_
                rw [← HBS.out] at hown
                obtain ⟨a5, c5, hv, hsl, _, _⟩ := sl_own hown
                exact ⟨v, he, hb, w', Below.refl _ _, a5, c5, hv, hsl⟩
            · refine ⟨fun v w hv => by (have hv' : v = .bool true := hv); subst hv'; exact (if_pos (by rfl)).mpr rfl, fun ρ w1 hr hd => ?_⟩
              obtain ⟨d0, _⟩ := hd
              have d0 : ∃ w1', Below w1'.heap.size w1' w1 ∧ (fun v w => ∃ a c, v = .slice a ys.length c ∧ Sl w a bs) (ρ (.tmp 96)) w1' := d0
              obtain ⟨w2, hb2, a5, c5, d0, hs⟩ := d0
              have cv := conv_sl w1 a5 ys.length c5 bs (hs.old hb2) HLEN.out
              refine (if_pos (by rfl)).mpr ?_
              refine Og.gives_is (.string (strOfNums bs)) ?_ (And.intro (Below.refl _ _) rfl)
              go_simp
            · refine ⟨fun v w hv => by (have hv' : v = .bool true := hv); subst hv'; exact (if_pos (by rfl)).mpr rfl, fun ρ w1 hr hd => ?_⟩
              obtain ⟨d0, d1, _⟩ := hd
              have d0 : ρ (.tmp 88) = .string (strOfNums bs) := d0
              have d1 : ρ (.tmp 97) = .string (strOfNums bs) := d1
              refine (if_pos (by rfl)).mpr ?_
              refine Og.gives_is (.bool true) ?_ (And.intro (Below.refl _ _) rfl)
              go_simp
            · refine ⟨rfl, fun ρ w1 hr hd => ?_⟩
              obtain ⟨d0, d1, d2, _⟩ := hd
              have d0 : ρ (.tmp 85) = .bool true := d0
              have d1 : ρ (.tmp 98) = .bool true := d1
              have d2 : ρ (.const (.bool false)) = .bool false := d2
              refine (if_pos (by rfl)).mpr ?_
              refine Og.gives_is (.bool true) ?_ (And.intro (Below.refl _ _) rfl)
              go_simp
            · refine ⟨rfl, fun ρ w1 hr hd => ?_⟩
              obtain ⟨d0, _⟩ := hd
              have d0 : ρ (.tmp 99) = .bool true := d0
              refine (if_pos (by rfl)).mpr ?_
              refine Og.gives_is (.bool true) ?_ (And.intro (Below.refl _ _) rfl)
              go_simp
            · refine ⟨fun v w hv => by (have hv' : v = .bool true := hv); subst hv'; exact (if_pos (by rfl)).mpr rfl, fun ρ w1 hr hd => ?_⟩
              obtain ⟨d0, _⟩ := hd
              have d0 : ρ (.func 11) = .func (.func 11) #[] #[] := d0
              refine (if_pos (by rfl)).mpr ?_
              refine Og.gives_call 11 #[] ?_ ?_
              · go_simp
              · exact (works_any w1).mono fun e w' ⟨he, hb⟩ => ⟨_, he, hb, rfl⟩
            · refine ⟨rfl, fun ρ w1 hr hd => ?_⟩
              obtain ⟨d0, d1, d2, _⟩ := hd
              have d0 : ρ (.tmp 100) = .bool true := d0
              have d1 : ρ (.tmp 101) = .bool true := d1
              have d2 : ρ (.const (.bool false)) = .bool false := d2
              refine (if_pos (by rfl)).mpr ?_
              refine Og.gives_is (.bool true) ?_ (And.intro (Below.refl _ _) rfl)
              go_simp
            · refine ⟨rfl, fun ρ w1 hr hd => ?_⟩
              obtain ⟨d0, _⟩ := hd
              have d0 : ρ (.tmp 102) = .bool true := d0
              refine (if_pos (by rfl)).mpr ?_
              refine Og.gives_is (.bool true) ?_ (And.intro (Below.refl _ _) rfl)
              go_simp
          · intro a w1 hbz hdf hsz hall
            have hres : a.tmps.getD 6 undef = .bool true := hall 26 _ 6 rfl rfl
            go_wp2
            refine bodyPost_ret (v := .bool true) (by rw [results_tmp rfl]; rw [hres]) hdf ⟨rfl, below_tr HT.out hbz⟩
        · have k0 := HXB.out.c0; have k1 := HXB.out.c1; have k2 := HXB.out.c2
          go_wp2_with (first | (go_at_call 14; refine (num_any _ _).mono ?_; rintro e w' ⟨rfl, rfl⟩))
          refine (rrefused_no _ ys.length ys.length addr _ _ _ (by omega) (by omega) (by omega) (.inr ⟨4, rfl, by omega, .inr ⟨rfl, hal, by omega⟩⟩)).mono ?_
          rintro e w' ⟨rfl, rfl⟩
          go_wp2_with fail
          refine (read_no p h ys addr _ _ _ HI.out (by omega) HW.out (.inr ⟨4, rfl, by omega, .inr ⟨rfl, hal, by omega⟩⟩)).mono ?_
          clear k0 k1 k2
          rintro e wc ⟨rfl, hb⟩
          have HB := Lib.hid hb; clear hb
          have HM := Lib.hid (HI.out.old HB.out); have HX := Lib.hid (HXB.out.old HB.out); have HT := Lib.hid (below_tr HTB.out HB.out); have HRX := Lib.hid (HRB.out.old HB.out)
          have k0 := HX.out.c0; have k1 := HX.out.c1; have k2 := HX.out.c2
          go_wp2_with fail
          refine (write_no p h ys addr _ a2v _ _ HM.out (by omega) HW.out (.inr ⟨4, rfl, by omega, .inr ⟨rfl, hal, by omega⟩⟩)).mono ?_
          clear k0 k1 k2
          rintro e wd ⟨rfl, hb⟩
          have HB := Lib.hid hb; clear hb
          have HT := Lib.hid (below_tr HT.out HB.out)
          have HM := Lib.hid (HM.out.old HB.out)
          have HRX := Lib.hid (HRX.out.old HB.out)
          go_wp2_with (first | (go_at_call 14; refine (num_any _ _).mono ?_; rintro e w' ⟨rfl, rfl⟩))
          refine Og.region2 (by kernel_rfl) (fun t => if t = 6 then some 13 else if 64 ≤ t ∧ t ≤ 76 then some (t - 64) else none) [.is (.int .u32 0), .is (.bool true), .is (.bool true), .is (.pointer (some ⟨p, 0, none⟩)), .says (fun v w => ∃ a c, v = .slice a ys.length c ∧ Sl w a ys), .is (.string (strOfNums ys)), .is (.slice (some ⟨g, 0, none⟩) ys.length ys.length), .is (.string (strOfNums ys)), .is (.bool true), .is (.bool true), .is (.bool true), .is (.bool true), .is (.bool true), .is (.bool true)] [true, true, true, true, true, true, true, true, true, true, true, true, true, true] (by kernel_rfl) ?_ ?_
          · refine ⟨?_, ?_, ?_, ?_, ?_, ?_, ?_, ?_, ?_, ?_, ?_, ?_, ?_, ?_, trivial⟩
            · refine ⟨rfl, fun ρ w1 hr hd => ?_⟩
              obtain ⟨d0, _⟩ := hd
              have d0 : ρ (.tmp 11) = .int .u32 0 := d0
              refine (if_pos (by rfl)).mpr ?_
              refine Og.gives_is (.int .u32 0) ?_ (And.intro (Below.refl _ _) rfl)
              go_simp
            · refine ⟨rfl, fun ρ w1 hr hd => ?_⟩
              obtain ⟨d0, d1, _⟩ := hd
              have d0 : ρ (.tmp 64) = .int .u32 0 := d0
              have d1 : ρ (.const (.int .u32 0)) = .int .u32 0 := d1
              refine (if_pos (by rfl)).mpr ?_
              refine Og.gives_is (.bool true) ?_ (And.intro (Below.refl _ _) rfl)
              go_simp
            · refine ⟨rfl, fun ρ w1 hr hd => ?_⟩
              obtain ⟨d0, _⟩ := hd
              have d0 : ρ (.tmp 65) = .bool true := d0
              refine (if_pos (by rfl)).mpr ?_
              refine Og.gives_is (.bool true) ?_ (And.intro (Below.refl _ _) rfl)
              go_simp
            · refine ⟨fun v w hv => by (have hv' : v = .bool true := hv); subst hv'; exact (if_pos (by rfl)).mpr rfl, fun ρ w1 hr hd => ?_⟩
              obtain ⟨d0, _⟩ := hd
              have d0 : ρ (.tmp 8) = .pointer (some ⟨p, 0, none⟩) := d0
              refine (if_pos (by rfl)).mpr ?_
              refine Og.gives_is (.pointer (some ⟨p, 0, none⟩)) ?_ (And.intro (Below.refl _ _) rfl)
              go_simp
            · refine ⟨fun v w hv => by (have hv' : v = .bool true := hv); subst hv'; exact (if_pos (by rfl)).mpr rfl, fun ρ w1 hr hd => ?_⟩
              obtain ⟨d0, d1, _⟩ := hd
              have d0 : ρ (.func 16) = .func (.func 16) #[] #[] := d0
              have d1 : ρ (.tmp 67) = .pointer (some ⟨p, 0, none⟩) := d1
              refine (if_pos (by rfl)).mpr ?_
              refine Og.gives_call 16 #[.pointer (some ⟨p, 0, none⟩)] ?_ ?_
              · go_simp
              · refine (bytes_any p h ys w1 (HM.out.old hr)).mono fun e w' ⟨v, he, hown, hb⟩ => ?_
                obtain ⟨a5, c5, hv, hsl, _, _⟩ := sl_own hown
                exact ⟨v, he, hb, w', Below.refl _ _, a5, c5, hv, hsl⟩
            · refine ⟨fun v w hv => by (have hv' : v = .bool true := hv); subst hv'; exact (if_pos (by rfl)).mpr rfl, fun ρ w1 hr hd => ?_⟩
              obtain ⟨d0, _⟩ := hd
              have d0 : ∃ w1', Below w1'.heap.size w1' w1 ∧ (fun v w => ∃ a c, v = .slice a ys.length c ∧ Sl w a ys) (ρ (.tmp 68)) w1' := d0
              obtain ⟨w2, hb2, a5, c5, d0, hs⟩ := d0
              have cv := conv_sl w1 a5 ys.length c5 ys (hs.old hb2) rfl
              refine (if_pos (by rfl)).mpr ?_
              refine Og.gives_is (.string (strOfNums ys)) ?_ (And.intro (Below.refl _ _) rfl)
              go_simp
            · refine ⟨fun v w hv => by (have hv' : v = .bool true := hv); subst hv'; exact (if_pos (by rfl)).mpr rfl, fun ρ w1 hr hd => ?_⟩
              obtain ⟨d0, _⟩ := hd
              have d0 : ρ (.tmp 7) = .slice (some ⟨g, 0, none⟩) ys.length ys.length := d0
              refine (if_pos (by rfl)).mpr ?_
              refine Og.gives_is (.slice (some ⟨g, 0, none⟩) ys.length ys.length) ?_ (And.intro (Below.refl _ _) rfl)
              go_simp
            · refine ⟨fun v w hv => by (have hv' : v = .bool true := hv); subst hv'; exact (if_pos (by rfl)).mpr rfl, fun ρ w1 hr hd => ?_⟩
              obtain ⟨d0, _⟩ := hd
              have d0 : ρ (.tmp 70) = .slice (some ⟨g, 0, none⟩) ys.length ys.length := d0
              have cv := conv_sl w1 _ ys.length ys.length ys (Sl.of_row (HRX.out.old hr)) rfl
              refine (if_pos (by rfl)).mpr ?_
              refine Og.gives_is (.string (strOfNums ys)) ?_ (And.intro (Below.refl _ _) rfl)
              go_simp
            · refine ⟨fun v w hv => by (have hv' : v = .bool true := hv); subst hv'; exact (if_pos (by rfl)).mpr rfl, fun ρ w1 hr hd => ?_⟩
              obtain ⟨d0, d1, _⟩ := hd
              have d0 : ρ (.tmp 69) = .string (strOfNums ys) := d0
              have d1 : ρ (.tmp 71) = .string (strOfNums ys) := d1
              refine (if_pos (by rfl)).mpr ?_
              refine Og.gives_is (.bool true) ?_ (And.intro (Below.refl _ _) rfl)
              go_simp
            · refine ⟨rfl, fun ρ w1 hr hd => ?_⟩
              obtain ⟨d0, d1, d2, _⟩ := hd
              have d0 : ρ (.tmp 66) = .bool true := d0
              have d1 : ρ (.tmp 72) = .bool true := d1
              have d2 : ρ (.const (.bool false)) = .bool false := d2
              refine (if_pos (by rfl)).mpr ?_
              refine Og.gives_is (.bool true) ?_ (And.intro (Below.refl _ _) rfl)
              go_simp
            · refine ⟨rfl, fun ρ w1 hr hd => ?_⟩
              obtain ⟨d0, _⟩ := hd
              have d0 : ρ (.tmp 73) = .bool true := d0
              refine (if_pos (by rfl)).mpr ?_
              refine Og.gives_is (.bool true) ?_ (And.intro (Below.refl _ _) rfl)
              go_simp
            · refine ⟨fun v w hv => by (have hv' : v = .bool true := hv); subst hv'; exact (if_pos (by rfl)).mpr rfl, fun ρ w1 hr hd => ?_⟩
              obtain ⟨d0, _⟩ := hd
              have d0 : ρ (.func 11) = .func (.func 11) #[] #[] := d0
              refine (if_pos (by rfl)).mpr ?_
              refine Og.gives_call 11 #[] ?_ ?_
              · go_simp
              · exact (works_any w1).mono fun e w' ⟨he, hb⟩ => ⟨_, he, hb, rfl⟩
            · refine ⟨rfl, fun ρ w1 hr hd => ?_⟩
              obtain ⟨d0, d1, d2, _⟩ := hd
              have d0 : ρ (.tmp 74) = .bool true := d0
              have d1 : ρ (.tmp 75) = .bool true := d1
              have d2 : ρ (.const (.bool false)) = .bool false := d2
              refine (if_pos (by rfl)).mpr ?_
              refine Og.gives_is (.bool true) ?_ (And.intro (Below.refl _ _) rfl)
              go_simp
            · refine ⟨rfl, fun ρ w1 hr hd => ?_⟩
              obtain ⟨d0, _⟩ := hd
              have d0 : ρ (.tmp 76) = .bool true := d0
              refine (if_pos (by rfl)).mpr ?_
              refine Og.gives_is (.bool true) ?_ (And.intro (Below.refl _ _) rfl)
              go_simp
          · intro a w1 hbz hdf hsz hall
            have hres : a.tmps.getD 6 undef = .bool true := hall 13 _ 6 rfl rfl
            go_wp2
            refine bodyPost_ret (v := .bool true) (by rw [results_tmp rfl]; rw [hres]) hdf ⟨rfl, below_tr HT.out hbz⟩
      · have k0 := HXB.out.c0; have k1 := HXB.out.c1; have k2 := HXB.out.c2
        go_wp2_with (first | (go_at_call 14; refine (num_any _ _).mono ?_; rintro e w' ⟨rfl, rfl⟩))
        refine (rrefused_no _ ys.length ys.length addr _ _ _ (by omega) (by omega) (by omega) (.inr ⟨4, rfl, by omega, .inl ⟨rfl, hal⟩⟩)).mono ?_
        rintro e w' ⟨rfl, rfl⟩
        go_wp2_with fail
        refine (read_no p h ys addr _ _ _ HI.out (by omega) HW.out (.inr ⟨4, rfl, by omega, .inl ⟨rfl, hal⟩⟩)).mono ?_
        clear k0 k1 k2
        rintro e wc ⟨rfl, hb⟩
        have HB := Lib.hid hb; clear hb
        have HM := Lib.hid (HI.out.old HB.out); have HX := Lib.hid (HXB.out.old HB.out); have HT := Lib.hid (below_tr HTB.out HB.out); have HRX := Lib.hid (HRB.out.old HB.out)
        have k0 := HX.out.c0; have k1 := HX.out.c1; have k2 := HX.out.c2
        go_wp2_with fail
        refine (write_no p h ys addr _ a2v _ _ HM.out (by omega) HW.out (.inr ⟨4, rfl, by omega, .inl ⟨rfl, hal⟩⟩)).mono ?_
        clear k0 k1 k2
        rintro e wd ⟨rfl, hb⟩
        have HB := Lib.hid hb; clear hb
        have HT := Lib.hid (below_tr HT.out HB.out)
        have HM := Lib.hid (HM.out.old HB.out)
        have HRX := Lib.hid (HRX.out.old HB.out)
        go_wp2_with (first | (go_at_call 14; refine (num_any _ _).mono ?_; rintro e w' ⟨rfl, rfl⟩))
        refine Og.region2 (by kernel_rfl) (fun t => if t = 6 then some 13 else if 64 ≤ t ∧ t ≤ 76 then some (t - 64) else none) [.is (.int .u32 0), .is (.bool true), .is (.bool true), .is (.pointer (some ⟨p, 0, none⟩)), .says (fun v w => ∃ a c, v = .slice a ys.length c ∧ Sl w a ys), .is (.string (strOfNums ys)), .is (.slice (some ⟨g, 0, none⟩) ys.length ys.length), .is (.string (strOfNums ys)), .is (.bool true), .is (.bool true), .is (.bool true), .is (.bool true), .is (.bool true), .is (.bool true)] [true, true, true, true, true, true, true, true, true, true, true, true, true, true] (by kernel_rfl) ?_ ?_
        · refine ⟨?_, ?_, ?_, ?_, ?_, ?_, ?_, ?_, ?_, ?_, ?_, ?_, ?_, ?_, trivial⟩
          · refine ⟨rfl, fun ρ w1 hr hd => ?_⟩
            obtain ⟨d0, _⟩ := hd
            have d0 : ρ (.tmp 11) = .int .u32 0 := d0
            refine (if_pos (by rfl)).mpr ?_
            refine Og.gives_is (.int .u32 0) ?_ (And.intro (Below.refl _ _) rfl)
            go_simp
          · refine ⟨rfl, fun ρ w1 hr hd => ?_⟩
            obtain ⟨d0, d1, _⟩ := hd
            have d0 : ρ (.tmp 64) = .int .u32 0 := d0
            have d1 : ρ (.const (.int .u32 0)) = .int .u32 0 := d1
            refine (if_pos (by rfl)).mpr ?_
            refine Og.gives_is (.bool true) ?_ (And.intro (Below.refl _ _) rfl)
            go_simp
          · refine ⟨rfl, fun ρ w1 hr hd => ?_⟩
            obtain ⟨d0, _⟩ := hd
            have d0 : ρ (.tmp 65) = .bool true := d0
            refine (if_pos (by rfl)).mpr ?_
            refine Og.gives_is (.bool true) ?_ (And.intro (Below.refl _ _) rfl)
            go_simp
          · refine ⟨fun v w hv => by (have hv' : v = .bool true := hv); subst hv'; exact (if_pos (by rfl)).mpr rfl, fun ρ w1 hr hd => ?_⟩
            obtain ⟨d0, _⟩ := hd
            have d0 : ρ (.tmp 8) = .pointer (some ⟨p, 0, none⟩) := d0
            refine (if_pos (by rfl)).mpr ?_
            refine Og.gives_is (.pointer (some ⟨p, 0, none⟩)) ?_ (And.intro (Below.refl _ _) rfl)
            go_simp
          · refine ⟨fun v w hv => by (have hv' : v = .bool true := hv); subst hv'; exact (if_pos (by rfl)).mpr rfl, fun ρ w1 hr hd => ?_⟩
            obtain ⟨d0, d1, _⟩ := hd
            have d0 : ρ (.func 16) = .func (.func 16) #[] #[] := d0
            have d1 : ρ (.tmp 67) = .pointer (some ⟨p, 0, none⟩) := d1
            refine (if_pos (by rfl)).mpr ?_
            refine Og.gives_call 16 #[.pointer (some ⟨p, 0, none⟩)] ?_ ?_
            · go_simp
            · refine (bytes_any p h ys w1 (HM.out.old hr)).mono fun e w' ⟨v, he, hown, hb⟩ => ?_
              obtain ⟨a5, c5, hv, hsl, _, _⟩ := sl_own hown
              exact ⟨v, he, hb, w', Below.refl _ _, a5, c5, hv, hsl⟩
          · refine ⟨fun v w hv => by (have hv' : v = .bool true := hv); subst hv'; exact (if_pos (by rfl)).mpr rfl, fun ρ w1 hr hd => ?_⟩
            obtain ⟨d0, _⟩ := hd
            have d0 : ∃ w1', Below w1'.heap.size w1' w1 ∧ (fun v w => ∃ a c, v = .slice a ys.length c ∧ Sl w a ys) (ρ (.tmp 68)) w1' := d0
            obtain ⟨w2, hb2, a5, c5, d0, hs⟩ := d0
            have cv := conv_sl w1 a5 ys.length c5 ys (hs.old hb2) rfl
            refine (if_pos (by rfl)).mpr ?_
            refine Og.gives_is (.string (strOfNums ys)) ?_ (And.intro (Below.refl _ _) rfl)
            go_simp
          · refine ⟨fun v w hv => by (have hv' : v = .bool true := hv); subst hv'; exact (if_pos (by rfl)).mpr rfl, fun ρ w1 hr hd => ?_⟩
            obtain ⟨d0, _⟩ := hd
            have d0 : ρ (.tmp 7) = .slice (some ⟨g, 0, none⟩) ys.length ys.length := d0
            refine (if_pos (by rfl)).mpr ?_
            refine Og.gives_is (.slice (some ⟨g, 0, none⟩) ys.length ys.length) ?_ (And.intro (Below.refl _ _) rfl)
            go_simp
          · refine ⟨fun v w hv => by (have hv' : v = .bool true := hv); subst hv'; exact (if_pos (by rfl)).mpr rfl, fun ρ w1 hr hd => ?_⟩
            obtain ⟨d0, _⟩ := hd
            have d0 : ρ (.tmp 70) = .slice (some ⟨g, 0, none⟩) ys.length ys.length := d0
            have cv := conv_sl w1 _ ys.length ys.length ys (Sl.of_row (HRX.out.old hr)) rfl
            refine (if_pos (by rfl)).mpr ?_
            refine Og.gives_is (.string (strOfNums ys)) ?_ (And.intro (Below.refl _ _) rfl)
            go_simp
          · refine ⟨fun v w hv => by (have hv' : v = .bool true := hv); subst hv'; exact (if_pos (by rfl)).mpr rfl, fun ρ w1 hr hd => ?_⟩
            obtain ⟨d0, d1, _⟩ := hd
            have d0 : ρ (.tmp 69) = .string (strOfNums ys) := d0
            have d1 : ρ (.tmp 71) = .string (strOfNums ys) := d1
            refine (if_pos (by rfl)).mpr ?_
            refine Og.gives_is (.bool true) ?_ (And.intro (Below.refl _ _) rfl)
            go_simp
          · refine ⟨rfl, fun ρ w1 hr hd => ?_⟩
            obtain ⟨d0, d1, d2, _⟩ := hd
            have d0 : ρ (.tmp 66) = .bool true := d0
            have d1 : ρ (.tmp 72) = .bool true := d1
            have d2 : ρ (.const (.bool false)) = .bool false := d2
            refine (if_pos (by rfl)).mpr ?_
            refine Og.gives_is (.bool true) ?_ (And.intro (Below.refl _ _) rfl)
            go_simp
          · refine ⟨rfl, fun ρ w1 hr hd => ?_⟩
            obtain ⟨d0, _⟩ := hd
            have d0 : ρ (.tmp 73) = .bool true := d0
            refine (if_pos (by rfl)).mpr ?_
            refine Og.gives_is (.bool true) ?_ (And.intro (Below.refl _ _) rfl)
            go_simp
          · refine ⟨fun v w hv => by (have hv' : v = .bool true := hv); subst hv'; exact (if_pos (by rfl)).mpr rfl, fun ρ w1 hr hd => ?_⟩
            obtain ⟨d0, _⟩ := hd
            have d0 : ρ (.func 11) = .func (.func 11) #[] #[] := d0
            refine (if_pos (by rfl)).mpr ?_
            refine Og.gives_call 11 #[] ?_ ?_
            · go_simp
            · exact (works_any w1).mono fun e w' ⟨he, hb⟩ => ⟨_, he, hb, rfl⟩
          · refine ⟨rfl, fun ρ w1 hr hd => ?_⟩
            obtain ⟨d0, d1, d2, _⟩ := hd
            have d0 : ρ (.tmp 74) = .bool true := d0
            have d1 : ρ (.tmp 75) = .bool true := d1
            have d2 : ρ (.const (.bool false)) = .bool false := d2
            refine (if_pos (by rfl)).mpr ?_
            refine Og.gives_is (.bool true) ?_ (And.intro (Below.refl _ _) rfl)
            go_simp
          · refine ⟨rfl, fun ρ w1 hr hd => ?_⟩
            obtain ⟨d0, _⟩ := hd
            have d0 : ρ (.tmp 76) = .bool true := d0
            refine (if_pos (by rfl)).mpr ?_
            refine Og.gives_is (.bool true) ?_ (And.intro (Below.refl _ _) rfl)
            go_simp
        · intro a w1 hbz hdf hsz hall
          have hres : a.tmps.getD 6 undef = .bool true := hall 13 _ 6 rfl rfl
          go_wp2
          refine bodyPost_ret (v := .bool true) (by rw [results_tmp rfl]; rw [hres]) hdf ⟨rfl, below_tr HT.out hbz⟩
    · go_enter Try.func4, Try.ntmps4
      go_wp2_with fail
      refine (sized_any a0 n0 c0 x0 a1 _ (B0.out.old HBX.out) l0 (by omega) (wf_i64 w1)).mono ?_
      rintro e wa ⟨g, ys, rfl, hr, hok, hyb, hg, hba⟩
      have hbd := Im.okB_bd hok
      have HR := Lib.hid hr; have HOK := Lib.hid hok; have HY := Lib.hid hyb; have HG := Lib.hid hg; have HBA := Lib.hid hba; clear hr hok hyb hg hba
      go_wp2_with fail
      refine (of_yes ys.length ys.length _ ys HOK.out rfl HY.out _ (Sl.of_row HR.out)).mono ?_
      rintro e wb ⟨p, h, rfl, hi, hp, hh, hbb⟩
      have HI := Lib.hid hi; have HP := Lib.hid hp; have HH := Lib.hid hh; have HBB := Lib.hid hbb; clear hi hp hh hbb
      have HRB := Lib.hid (HR.out.old HBB.out)
      obtain ⟨hba1, hbox⟩ := box_first HBA.out
      have HBA1 := Lib.hid hba1; have HBOX := Lib.hid hbox; clear hba1 hbox
      have HXB := Lib.hid (HBOX.out.old HBB.out)
      have HRH := Lib.hid (show w.heap.size < h from Nat.lt_of_lt_of_le HBOX.out.lt HH.out)
      have HGH := Lib.hid (show g < h from Nat.lt_of_lt_of_le HR.out.lt HH.out)
      have HTB := Lib.hid (below_tr HBA1.out HBB.out)
      have k0 := HXB.out.c0; have k1 := HXB.out.c1; have k2 := HXB.out.c2
      go_wp2_with (first | (go_at_call 14; refine (num_any _ _).mono ?_; rintro e w' ⟨rfl, rfl⟩))
      refine (rrefused_no _ ys.length ys.length addr _ _ _ (by omega) (by omega) (by omega) (.inl ⟨rfl, hw4⟩)).mono ?_
      rintro e w' ⟨rfl, rfl⟩
      go_wp2_with fail
      refine (read_no p h ys addr _ _ _ HI.out (by omega) HW.out (.inl ⟨rfl, hw4⟩)).mono ?_
      clear k0 k1 k2
      rintro e wc ⟨rfl, hb⟩
      have HB := Lib.hid hb; clear hb
      have HM := Lib.hid (HI.out.old HB.out); have HX := Lib.hid (HXB.out.old HB.out); have HT := Lib.hid (below_tr HTB.out HB.out); have HRX := Lib.hid (HRB.out.old HB.out)
      have k0 := HX.out.c0; have k1 := HX.out.c1; have k2 := HX.out.c2
      go_wp2_with fail
      refine (write_no p h ys addr _ a2v _ _ HM.out (by omega) HW.out (.inl ⟨rfl, hw4⟩)).mono ?_
      clear k0 k1 k2
      rintro e wd ⟨rfl, hb⟩
      have HB := Lib.hid hb; clear hb
      have HT := Lib.hid (below_tr HT.out HB.out)
      have HM := Lib.hid (HM.out.old HB.out)
      have HRX := Lib.hid (HRX.out.old HB.out)
      go_wp2_with (first | (go_at_call 14; refine (num_any _ _).mono ?_; rintro e w' ⟨rfl, rfl⟩))
      refine Og.region2 (by kernel_rfl) (fun t => if t = 6 then some 13 else if 64 ≤ t ∧ t ≤ 76 then some (t - 64) else none) [.is (.int .u32 0), .is (.bool true), .is (.bool true), .is (.pointer (some ⟨p, 0, none⟩)), .says (fun v w => ∃ a c, v = .slice a ys.length c ∧ Sl w a ys), .is (.string (strOfNums ys)), .is (.slice (some ⟨g, 0, none⟩) ys.length ys.length), .is (.string (strOfNums ys)), .is (.bool true), .is (.bool true), .is (.bool true), .is (.bool true), .is (.bool true), .is (.bool true)] [true, true, true, true, true, true, true, true, true, true, true, true, true, true] (by kernel_rfl) ?_ ?_
      · refine ⟨?_, ?_, ?_, ?_, ?_, ?_, ?_, ?_, ?_, ?_, ?_, ?_, ?_, ?_, trivial⟩
        · refine ⟨rfl, fun ρ w1 hr hd => ?_⟩
          obtain ⟨d0, _⟩ := hd
          have d0 : ρ (.tmp 11) = .int .u32 0 := d0
          refine (if_pos (by rfl)).mpr ?_
          refine Og.gives_is (.int .u32 0) ?_ (And.intro (Below.refl _ _) rfl)
          go_simp
        · refine ⟨rfl, fun ρ w1 hr hd => ?_⟩
          obtain ⟨d0, d1, _⟩ := hd
          have d0 : ρ (.tmp 64) = .int .u32 0 := d0
          have d1 : ρ (.const (.int .u32 0)) = .int .u32 0 := d1
          refine (if_pos (by rfl)).mpr ?_
          refine Og.gives_is (.bool true) ?_ (And.intro (Below.refl _ _) rfl)
          go_simp
        · refine ⟨rfl, fun ρ w1 hr hd => ?_⟩
          obtain ⟨d0, _⟩ := hd
          have d0 : ρ (.tmp 65) = .bool true := d0
          refine (if_pos (by rfl)).mpr ?_
          refine Og.gives_is (.bool true) ?_ (And.intro (Below.refl _ _) rfl)
          go_simp
        · refine ⟨fun v w hv => by (have hv' : v = .bool true := hv); subst hv'; exact (if_pos (by rfl)).mpr rfl, fun ρ w1 hr hd => ?_⟩
          obtain ⟨d0, _⟩ := hd
          have d0 : ρ (.tmp 8) = .pointer (some ⟨p, 0, none⟩) := d0
          refine (if_pos (by rfl)).mpr ?_
          refine Og.gives_is (.pointer (some ⟨p, 0, none⟩)) ?_ (And.intro (Below.refl _ _) rfl)
          go_simp
        · refine ⟨fun v w hv => by (have hv' : v = .bool true := hv); subst hv'; exact (if_pos (by rfl)).mpr rfl, fun ρ w1 hr hd => ?_⟩
          obtain ⟨d0, d1, _⟩ := hd
          have d0 : ρ (.func 16) = .func (.func 16) #[] #[] := d0
          have d1 : ρ (.tmp 67) = .pointer (some ⟨p, 0, none⟩) := d1
          refine (if_pos (by rfl)).mpr ?_
          refine Og.gives_call 16 #[.pointer (some ⟨p, 0, none⟩)] ?_ ?_
          · go_simp
          · refine (bytes_any p h ys w1 (HM.out.old hr)).mono fun e w' ⟨v, he, hown, hb⟩ => ?_
            obtain ⟨a5, c5, hv, hsl, _, _⟩ := sl_own hown
            exact ⟨v, he, hb, w', Below.refl _ _, a5, c5, hv, hsl⟩
        · refine ⟨fun v w hv => by (have hv' : v = .bool true := hv); subst hv'; exact (if_pos (by rfl)).mpr rfl, fun ρ w1 hr hd => ?_⟩
          obtain ⟨d0, _⟩ := hd
          have d0 : ∃ w1', Below w1'.heap.size w1' w1 ∧ (fun v w => ∃ a c, v = .slice a ys.length c ∧ Sl w a ys) (ρ (.tmp 68)) w1' := d0
          obtain ⟨w2, hb2, a5, c5, d0, hs⟩ := d0
          have cv := conv_sl w1 a5 ys.length c5 ys (hs.old hb2) rfl
          refine (if_pos (by rfl)).mpr ?_
          refine Og.gives_is (.string (strOfNums ys)) ?_ (And.intro (Below.refl _ _) rfl)
          go_simp
        · refine ⟨fun v w hv => by (have hv' : v = .bool true := hv); subst hv'; exact (if_pos (by rfl)).mpr rfl, fun ρ w1 hr hd => ?_⟩
          obtain ⟨d0, _⟩ := hd
          have d0 : ρ (.tmp 7) = .slice (some ⟨g, 0, none⟩) ys.length ys.length := d0
          refine (if_pos (by rfl)).mpr ?_
          refine Og.gives_is (.slice (some ⟨g, 0, none⟩) ys.length ys.length) ?_ (And.intro (Below.refl _ _) rfl)
          go_simp
        · refine ⟨fun v w hv => by (have hv' : v = .bool true := hv); subst hv'; exact (if_pos (by rfl)).mpr rfl, fun ρ w1 hr hd => ?_⟩
          obtain ⟨d0, _⟩ := hd
          have d0 : ρ (.tmp 70) = .slice (some ⟨g, 0, none⟩) ys.length ys.length := d0
          have cv := conv_sl w1 _ ys.length ys.length ys (Sl.of_row (HRX.out.old hr)) rfl
          refine (if_pos (by rfl)).mpr ?_
          refine Og.gives_is (.string (strOfNums ys)) ?_ (And.intro (Below.refl _ _) rfl)
          go_simp
        · refine ⟨fun v w hv => by (have hv' : v = .bool true := hv); subst hv'; exact (if_pos (by rfl)).mpr rfl, fun ρ w1 hr hd => ?_⟩
          obtain ⟨d0, d1, _⟩ := hd
          have d0 : ρ (.tmp 69) = .string (strOfNums ys) := d0
          have d1 : ρ (.tmp 71) = .string (strOfNums ys) := d1
          refine (if_pos (by rfl)).mpr ?_
          refine Og.gives_is (.bool true) ?_ (And.intro (Below.refl _ _) rfl)
          go_simp
        · refine ⟨rfl, fun ρ w1 hr hd => ?_⟩
          obtain ⟨d0, d1, d2, _⟩ := hd
          have d0 : ρ (.tmp 66) = .bool true := d0
          have d1 : ρ (.tmp 72) = .bool true := d1
          have d2 : ρ (.const (.bool false)) = .bool false := d2
          refine (if_pos (by rfl)).mpr ?_
          refine Og.gives_is (.bool true) ?_ (And.intro (Below.refl _ _) rfl)
          go_simp
        · refine ⟨rfl, fun ρ w1 hr hd => ?_⟩
          obtain ⟨d0, _⟩ := hd
          have d0 : ρ (.tmp 73) = .bool true := d0
          refine (if_pos (by rfl)).mpr ?_
          refine Og.gives_is (.bool true) ?_ (And.intro (Below.refl _ _) rfl)
          go_simp
        · refine ⟨fun v w hv => by (have hv' : v = .bool true := hv); subst hv'; exact (if_pos (by rfl)).mpr rfl, fun ρ w1 hr hd => ?_⟩
          obtain ⟨d0, _⟩ := hd
          have d0 : ρ (.func 11) = .func (.func 11) #[] #[] := d0
          refine (if_pos (by rfl)).mpr ?_
          refine Og.gives_call 11 #[] ?_ ?_
          · go_simp
          · exact (works_any w1).mono fun e w' ⟨he, hb⟩ => ⟨_, he, hb, rfl⟩
        · refine ⟨rfl, fun ρ w1 hr hd => ?_⟩
          obtain ⟨d0, d1, d2, _⟩ := hd
          have d0 : ρ (.tmp 74) = .bool true := d0
          have d1 : ρ (.tmp 75) = .bool true := d1
          have d2 : ρ (.const (.bool false)) = .bool false := d2
          refine (if_pos (by rfl)).mpr ?_
          refine Og.gives_is (.bool true) ?_ (And.intro (Below.refl _ _) rfl)
          go_simp
        · refine ⟨rfl, fun ρ w1 hr hd => ?_⟩
          obtain ⟨d0, _⟩ := hd
          have d0 : ρ (.tmp 76) = .bool true := d0
          refine (if_pos (by rfl)).mpr ?_
          refine Og.gives_is (.bool true) ?_ (And.intro (Below.refl _ _) rfl)
          go_simp
      · intro a w1 hbz hdf hsz hall
        have hres : a.tmps.getD 6 undef = .bool true := hall 13 _ 6 rfl rfl
        go_wp2
        refine bodyPost_ret (v := .bool true) (by rw [results_tmp rfl]; rw [hres]) hdf ⟨rfl, below_tr HT.out hbz⟩

/-! THE ROW -/
set_option maxRecDepth 100000 in
theorem lifted (os : Os) (started : os.Started) (H : Type) (enc : TypeId × Value → H) :
    ReturnsInHanded {} Try.checked os 4 .any (Rows.imageReadsSpec.pre6 enc Try.prog Try.f4 Rows.imageReadsRow.domain false) (Rows.imageReadsSpec.post enc Try.prog Try.f4 false true false false) := by
  refine returnsInHanded_of_change (C := Try.checked) own started (by kernel_rfl) Try.func4
    (ChangeSpec.witness6 (enc := enc) (C := Try.checked) false ⟨#[], #[.slice none 0 0, .int .i64 0, .agg #[.int .u32 0, .int .i64 0, .int .u32 0]], []⟩ 8 (by kernel_rfl) (by kernel_rfl) (by kernel_rfl) (by kernel_rfl)) ?_
  intro W base args ds gs before hval0 hW hcnd _
  have hval : ∀ (j : Nat) t v, Try.f4.params[j]? = some t → args[j]? = some v → Value.okWide Try.prog W .any base t v := hval0
  have hW' := hW
  obtain ⟨p, q, hA0, hV, rfl, hfz, hnd⟩ := hW
  have hA : DataW.TrodAll enc Try.prog W 0 (fun _ => true) true Try.f4.params.toList args.toList ds p := hA0
  rw [Try.params4] at hA hval
  obtain ⟨v0, vs0, d0, ds0, p0, q0, hargs, rfl, rfl, h0, r0⟩ := trodAll_cons hA
  obtain ⟨v1, vs1, d1, ds1, p1, q1, rfl, rfl, rfl, h1, r1⟩ := trodAll_cons r0
  obtain ⟨v2, vs2, d2, ds2, p2, q2, rfl, rfl, rfl, h2, r2⟩ := trodAll_cons r1
  obtain ⟨rfl, rfl, rfl⟩ := trodAll_nil r2
  obtain rfl : args = #[v0, v1, v2] := by cases args; simp_all
  obtain ⟨rfl, rfl⟩ := trodVars_none hV
  clear hA0 hval0
  simp only [List.append_nil] at hW'
  have hlt : ∀ x ∈ p0 ++ (p1 ++ (p2)), x.block < W.heap.size := fun x hx => by simpa using hW'.lt x (by simpa using hx)
  obtain ⟨a0, n0, c0, rfl⟩ := okWide_slice Try.underlying22 (hval 0 22 v0 rfl rfl)
  obtain ⟨x0, l0, m0, b0⟩ := open_bytes h0
  have h1k := h1
  obtain ⟨a1, rfl, rfl, rfl, w1⟩ := open_int Try.underlying3 (hval 1 3 v1 rfl rfl) h1
  obtain ⟨a2, a2w, a2v, rfl, w2, w2w, w2v⟩ := open_acc (hval 2 36 v2 rfl rfl) h2
  refine (walk W a0 n0 c0 x0 l0 m0 b0 a1 w1 a2 a2w a2v w2 w2w w2v).mono fun e W' ⟨he, hb⟩ => ?_
  subst he
  have harg0 : DataW.Trod enc Try.prog W' 0 (fun b => decide (b < W.heap.size)) true 22 _ _ _ := Below.trod laidOut (by kernel_rfl) (of_decide_eq_true (by kernel_rfl)) h0 hb (fun x hx => hlt x (by simp [hx]))
  have harg1 : DataW.Trod enc Try.prog W' 0 (fun b => decide (b < W.heap.size)) true 3 _ _ _ := Below.trod laidOut (by kernel_rfl) (of_decide_eq_true (by kernel_rfl)) h1k hb (fun x hx => by cases hx)
  have harg2 : DataW.Trod enc Try.prog W' 0 (fun b => decide (b < W.heap.size)) true 36 _ _ _ := Below.trod laidOut (by kernel_rfl) (of_decide_eq_true (by kernel_rfl)) h2 hb (fun x hx => hlt x (by simp [hx]))
  exact ⟨_, rfl, _, _, _, [], _, [], hW', trodAll_mk1 (shut_bool Try.underlying4 _), (trodAll_cons_mk harg0 (trodAll_cons_mk harg1 (trodAll_cons_mk harg2 trodAll_mk0))), rfl, hb.frame _, fun h => by cases h⟩

theorem over : Rows.imageReadsRow.holds Try.pinned (OpenSpec.ofChange Rows.imageReadsSpec) :=
  OpenClaim.holds_of_wide 4 Try.f4 rfl rfl rfl rfl rfl rfl rfl ⟨rfl, rfl, rfl, rfl, rfl⟩ rfl rfl rfl rfl rfl (by kernel_rfl) Try.func4 (by kernel_rfl)
    (of_decide_eq_true (by kernel_rfl)) (by unfold Func.isWrapper; first | (rw [if_pos (by decide +kernel)]; kernel_rfl) | (rw [if_neg (by decide +kernel)]; exact ⟨rfl, rfl⟩))
    (fun os started H enc _ => lifted os started H enc)

/-- THE STATEMENT -/
theorem proved : Rows.ImageReadsSaid :=
  over
end Go.Proofs.Ytchjcfmmnfimlaa.imageReads
