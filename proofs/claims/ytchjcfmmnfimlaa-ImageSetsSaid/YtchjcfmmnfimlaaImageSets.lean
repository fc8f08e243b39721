/-
  ImageSets: for every input the statement's function returns true, with no condition; each argument reads behind the call as before. By contracts of the program's and the document's functions.
-/
import Derived.Test.YtchjcfmmnfimlaaImEq
namespace Go.Proofs.Ytchjcfmmnfimlaa.imageSets
open Go.ChangeShapes Go.WideShapes Go.ChangeAt Go.RowKit
set_option linter.unusedVariables false

/-! THE WALK: the Go text returns true; of memory nothing that stood there has turned. -/
set_option maxHeartbeats 4000000 in
theorem walk (w : World) (a0 : Option Addr) (n0 c0 : Nat) (x0 : List Int) (l0 : x0.length = n0) (m0 : n0 ≤ 9223372036854775807) (b0 : BIn w a0 x0) (a1 : Int) (w1 : (Lit.int .i64 a1).wf = true) (a2 : Int) (w2 : (Lit.int .u32 a2).wf = true) (a3 : Int) (w3 : (Lit.int .u32 a3).wf = true) (s4 : List Int) (l4 : s4.length = 16) (b4 : Im.Byt s4) :
    Calls Try.prog 9 #[.slice a0 n0 c0, .int .i64 a1, .int .u32 a2, .int .u32 a3, .agg (Im.vals s4).toArray] w fun e w' => e = .returned (.bool true) ∧ Below w.heap.size w w' := by
  have B0 := Lib.hid b0; clear b0
  have B4 := Lib.hid b4; have L4 := Lib.hid l4; clear b4 l4
  by_cases hbig : 10000 < n0
  · go_enter Try.func9, Try.ntmps9
    go_wp2_with (go_at_call 11; refine (works_any _).mono ?_; rintro e wz ⟨rfl, hbz⟩)
    go_ret
    exact ⟨rfl, (arr_first hbz).1⟩
  · obtain ⟨num, rfl⟩ := Int.eq_ofNat_of_zero_le (wf_u32 w2).1
    obtain ⟨oth, rfl⟩ := Int.eq_ofNat_of_zero_le (wf_u32 w3).1
    have hn := (wf_u32 w2).2
    have ho := (wf_u32 w3).2
    clear w2 w3
    have HZ := eq_zeros
    have hbx := (Below.refl w.heap.size w).alloc (Nat.le_refl _) (.cells (Im.vals s4).toArray 45)
    have HBX := Lib.hid hbx; clear hbx
    go_enter Try.func9, Try.ntmps9
    go_wp2_with fail
    refine (sized_any a0 n0 c0 x0 a1 _ (B0.out.old HBX.out) l0 (by omega) (wf_i64 w1)).mono ?_
    rintro e wa ⟨g, ys, rfl, hr, hok, hyb, hg, hba⟩
    have hbd := Im.okB_bd hok
    have HR := Lib.hid hr; have HOK := Lib.hid hok; have HY := Lib.hid hyb; have HG := Lib.hid hg; have HBA := Lib.hid hba; clear hr hok hyb hg hba
    go_wp2_with fail
    refine (of_yes ys.length ys.length _ ys HOK.out rfl HY.out _ (Sl.of_row HR.out)).mono ?_
    rintro e wb ⟨p, h, rfl, hi, hp, hh, hbb⟩
    have HI := Lib.hid hi; have HP := Lib.hid hp; have HH := Lib.hid hh; have HBB := Lib.hid hbb; clear hi hp hh hbb
    have HRB := Lib.hid (HR.out.old HBB.out)
    obtain ⟨hba1, harr⟩ := arr_first HBA.out
    have HBA1 := Lib.hid hba1; have HARR := Lib.hid harr; clear hba1 harr
    have HAB := Lib.hid (HARR.out.old HBB.out)
    have HGH := Lib.hid (show g < h from Nat.lt_of_lt_of_le HR.out.lt HH.out)
    have HRH := Lib.hid (show w.heap.size < h from Nat.lt_of_lt_of_le HARR.out.lt HH.out)
    by_cases nin : num * 16 < ys.length
    all_goals by_cases oin : oth * 16 < ys.length
    · by_cases heq : oth = num
      · subst heq
        have hq : ((oth : Int) == (oth : Int)) = true := beq_self_eq_true _
        have hni : decide ((oth : Int) < (ys.length : Int) / 16) = true := by rw [decide_eq_true_iff]; omega
        go_wp2_with (first | (refine wpList_load_arr rfl _ rfl w.heap.size rfl s4 L4.out HAB.out ?_))
        refine (setline_goes p h ys s4 oth _ HI.out nin L4.out B4.out).mono ?_
        rintro e wc ⟨rfl, hi2, hgc⟩
        have HI2 := Lib.hid hi2; have HGC := Lib.hid hgc; clear hi2 hgc
        have HBC := Lib.hid ((HBA1.out.trans (HBB.out.mono HBA1.out.size)).grown HGC.out (Nat.le_trans HBA1.out.size HBB.out.size) (fun k hk => by cases hk; exact Nat.le_of_lt HRH.out))
        have HAC := Lib.hid (HAB.out.kept HGC.out (by have := HRH.out; simp; omega))
        have HRC := Lib.hid (HRB.out.kept HGC.out (by have := HGH.out; simp; omega))
        go_wp2_with fail
        refine (line_goes p h (Im.sets ys (oth * 16) (Im.nth s4) 16) oth _ HI2.out (by rw [Im.length_sets]; omega)).mono ?_
        rw [win_same (by omega) L4.out]
        rintro e wd ⟨rfl, hbd2⟩
        have HLW := Lib.hid (Im.length_win (bs := ys) (off := oth * 16) (k := 16) (by omega))
        have HBD := Lib.hid (below_tr HBC.out hbd2)
        have HAD := Lib.hid (HAC.out.old hbd2)
        have HRD := Lib.hid (HRC.out.old hbd2)
        clear hbd2
        go_wp2_with (first
          | (refine wpList_store_arr rfl _ _ rfl wd.heap.size s4 zs16 rfl rfl L4.out rfl (arr_new wd) ?_; intro we hae hge; have HAE := Lib.hid hae; have HGE := Lib.hid (below_new hge); clear hae hge)
          | (fail))
        have HRE := Lib.hid (HRD.out.old HGE.out)
        have HADE := Lib.hid (HAD.out.old HGE.out)
        refine (rline_any g oth ys _ HRE.out (by omega) (by omega) oin).mono ?_
        rintro e wf ⟨rfl, hbf⟩
        have HBF := Lib.hid hbf; clear hbf
        have HAF := Lib.hid (HAE.out.old HBF.out)
        have HALF := Lib.hid (HADE.out.old HBF.out)
        have HQ := fun wx => eq_arr wx s4 L4.out
        go_wp2_with (first
          | (refine wpList_store_arr rfl _ _ rfl wf.heap.size (Im.win ys (oth * 16) 16) zs16 rfl rfl HLW.out rfl (arr_new wf) ?_; intro wg hag hgg; have HAG := Lib.hid hag; have HGG := Lib.hid (below_new hgg); have HAFG := Lib.hid (HAF.out.old HGG.out); have HALG := Lib.hid (HALF.out.old HGG.out); clear hag hgg)
          | (refine wpList_load_arr rfl _ rfl w.heap.size rfl s4 L4.out HALG.out ?_)
          | (refine wpList_store_arr rfl _ _ rfl wf.heap.size s4 (Im.win ys (oth * 16) 16) rfl rfl L4.out HLW.out HAG.out ?_; intro wh hah hgh; have HAH := Lib.hid hah; have HGHH := Lib.hid hgh; have HAFH := Lib.hid (HAFG.out.kept hgh (by have := HAF.out.lt; simp; omega)); clear hah hgh)
          | (refine wpList_load_arr rfl _ rfl wd.heap.size rfl s4 L4.out HAFH.out ?_)
          | (refine wpList_load_arr rfl _ rfl wf.heap.size rfl s4 L4.out HAH.out ?_)
          | (go_at_call 14; refine (num_any _ _).mono ?_; rintro e w' ⟨rfl, rfl⟩)
          | (go_at_call 11; refine (works_any _).mono ?_; rintro e wz ⟨rfl, hbz⟩))
        go_ret
        exact ⟨rfl, below_tr ((below_tr (below_tr (below_tr HBD.out HGE.out) HBF.out) HGG.out).grown HGHH.out (below_tr (below_tr (below_tr HBD.out HGE.out) HBF.out) HGG.out).size (fun k hk => by cases hk; exact (below_tr (below_tr HBD.out HGE.out) HBF.out).size)) hbz⟩
      · have hq : ((oth : Int) == (num : Int)) = false := by rw [beq_eq_false_iff_ne]; omega
        have hni : decide ((num : Int) < (ys.length : Int) / 16) = true := by rw [decide_eq_true_iff]; omega
        go_wp2_with (first | (refine wpList_load_arr rfl _ rfl w.heap.size rfl s4 L4.out HAB.out ?_))
        refine (setline_goes p h ys s4 num _ HI.out nin L4.out B4.out).mono ?_
        rintro e wc ⟨rfl, hi2, hgc⟩
        have HI2 := Lib.hid hi2; have HGC := Lib.hid hgc; clear hi2 hgc
        have HBC := Lib.hid ((HBA1.out.trans (HBB.out.mono HBA1.out.size)).grown HGC.out (Nat.le_trans HBA1.out.size HBB.out.size) (fun k hk => by cases hk; exact Nat.le_of_lt HRH.out))
        have HAC := Lib.hid (HAB.out.kept HGC.out (by have := HRH.out; simp; omega))
        have HRC := Lib.hid (HRB.out.kept HGC.out (by have := HGH.out; simp; omega))
        go_wp2_with fail
        refine (line_goes p h (Im.sets ys (num * 16) (Im.nth s4) 16) oth _ HI2.out (by rw [Im.length_sets]; omega)).mono ?_
        rw [win_other (by omega) (by omega) (by omega)]
        rintro e wd ⟨rfl, hbd2⟩
        have HLW := Lib.hid (Im.length_win (bs := ys) (off := oth * 16) (k := 16) (by omega))
        have HBD := Lib.hid (below_tr HBC.out hbd2)
        have HAD := Lib.hid (HAC.out.old hbd2)
        have HRD := Lib.hid (HRC.out.old hbd2)
        clear hbd2
        go_wp2_with (first
          | (refine wpList_store_arr rfl _ _ rfl wd.heap.size (Im.win ys (oth * 16) 16) zs16 rfl rfl HLW.out rfl (arr_new wd) ?_; intro we hae hge; have HAE := Lib.hid hae; have HGE := Lib.hid (below_new hge); clear hae hge)
          | (fail))
        have HRE := Lib.hid (HRD.out.old HGE.out)
        have HADE := Lib.hid (HAD.out.old HGE.out)
        refine (rline_any g oth ys _ HRE.out (by omega) (by omega) oin).mono ?_
        rintro e wf ⟨rfl, hbf⟩
        have HBF := Lib.hid hbf; clear hbf
        have HAF := Lib.hid (HAE.out.old HBF.out)
        have HALF := Lib.hid (HADE.out.old HBF.out)
        have HQ := fun wx => eq_arr wx (Im.win ys (oth * 16) 16) HLW.out
        go_wp2_with (first
          | (refine wpList_store_arr rfl _ _ rfl wf.heap.size (Im.win ys (oth * 16) 16) zs16 rfl rfl HLW.out rfl (arr_new wf) ?_; intro wg hag hgg; have HAG := Lib.hid hag; have HGG := Lib.hid (below_new hgg); have HAFG := Lib.hid (HAF.out.old HGG.out); have HALG := Lib.hid (HALF.out.old HGG.out); clear hag hgg)
          | (refine wpList_load_arr rfl _ rfl wd.heap.size rfl (Im.win ys (oth * 16) 16) HLW.out HAFG.out ?_)
          | (refine wpList_load_arr rfl _ rfl wf.heap.size rfl (Im.win ys (oth * 16) 16) HLW.out HAG.out ?_)
          | (go_at_call 14; refine (num_any _ _).mono ?_; rintro e w' ⟨rfl, rfl⟩)
          | (go_at_call 11; refine (works_any _).mono ?_; rintro e wz ⟨rfl, hbz⟩))
        go_ret
        exact ⟨rfl, below_tr (below_tr (below_tr (below_tr HBD.out HGE.out) HBF.out) HGG.out) hbz⟩
    · have hni : decide ((num : Int) < (ys.length : Int) / 16) = true := by rw [decide_eq_true_iff]; omega
      go_wp2_with (first | (refine wpList_load_arr rfl _ rfl w.heap.size rfl s4 L4.out HAB.out ?_))
      refine (setline_goes p h ys s4 num _ HI.out nin L4.out B4.out).mono ?_
      rintro e wc ⟨rfl, hi2, hgc⟩
      have HI2 := Lib.hid hi2; have HGC := Lib.hid hgc; clear hi2 hgc
      have HBC := Lib.hid ((HBA1.out.trans (HBB.out.mono HBA1.out.size)).grown HGC.out (Nat.le_trans HBA1.out.size HBB.out.size) (fun k hk => by cases hk; exact Nat.le_of_lt HRH.out))
      have HAC := Lib.hid (HAB.out.kept HGC.out (by have := HRH.out; simp; omega))
      have HRC := Lib.hid (HRB.out.kept HGC.out (by have := HGH.out; simp; omega))
      go_wp2_with fail
      refine (line_no p h (Im.sets ys (num * 16) (Im.nth s4) 16) oth _ HI2.out (by omega) (by rw [Im.length_sets]; omega)).mono ?_
      rintro e wd ⟨rfl, hbd2⟩
      have HBD := Lib.hid (below_tr HBC.out hbd2)
      have HAD := Lib.hid (HAC.out.old hbd2)
      have HRD := Lib.hid (HRC.out.old hbd2)
      clear hbd2
      go_wp2_with (first
        | (refine wpList_store_arr rfl _ _ rfl wd.heap.size zs16 zs16 rfl rfl rfl rfl (arr_new wd) ?_; intro we hae hge; have HAE := Lib.hid hae; have HGE := Lib.hid (below_new hge); clear hae hge)
        | (refine wpList_load_arr rfl _ rfl wd.heap.size rfl zs16 rfl HAE.out ?_)
        | (go_at_call 14; refine (num_any _ _).mono ?_; rintro e w' ⟨rfl, rfl⟩)
        | (go_at_call 11; refine (works_any _).mono ?_; rintro e wz ⟨rfl, hbz⟩))
      go_ret
      exact ⟨rfl, below_tr (below_tr HBD.out HGE.out) hbz⟩
    · by_cases heq : oth = num
      · omega
      · have hq : ((oth : Int) == (num : Int)) = false := by rw [beq_eq_false_iff_ne]; omega
        have hni : decide ((num : Int) < (ys.length : Int) / 16) = false := by rw [decide_eq_false_iff_not]; omega
        go_wp2_with (first | (refine wpList_load_arr rfl _ rfl w.heap.size rfl s4 L4.out HAB.out ?_))
        refine (setline_no p h ys s4 num _ HI.out (by omega) (by omega)).mono ?_
        rintro e wc ⟨rfl, hbc⟩
        have HI2 := Lib.hid (HI.out.old hbc); have HBC := Lib.hid (below_tr (below_tr HBA1.out HBB.out) hbc)
        have HAC := Lib.hid (HAB.out.old hbc)
        have HRC := Lib.hid (HRB.out.old hbc)
        clear hbc
        go_wp2_with fail
        refine (line_goes p h ys oth _ HI2.out (by omega)).mono ?_
        rintro e wd ⟨rfl, hbd2⟩
        have HLW := Lib.hid (Im.length_win (bs := ys) (off := oth * 16) (k := 16) (by omega))
        have HBD := Lib.hid (below_tr HBC.out hbd2)
        have HAD := Lib.hid (HAC.out.old hbd2)
        have HRD := Lib.hid (HRC.out.old hbd2)
        clear hbd2
        go_wp2_with (first
          | (refine wpList_store_arr rfl _ _ rfl wd.heap.size (Im.win ys (oth * 16) 16) zs16 rfl rfl HLW.out rfl (arr_new wd) ?_; intro we hae hge; have HAE := Lib.hid hae; have HGE := Lib.hid (below_new hge); clear hae hge)
          | (fail))
        have HRE := Lib.hid (HRD.out.old HGE.out)
        have HADE := Lib.hid (HAD.out.old HGE.out)
        refine (rline_any g oth ys _ HRE.out (by omega) (by omega) oin).mono ?_
        rintro e wf ⟨rfl, hbf⟩
        have HBF := Lib.hid hbf; clear hbf
        have HAF := Lib.hid (HAE.out.old HBF.out)
        have HALF := Lib.hid (HADE.out.old HBF.out)
        have HQ := fun wx => eq_arr wx (Im.win ys (oth * 16) 16) HLW.out
        go_wp2_with (first
          | (refine wpList_store_arr rfl _ _ rfl wf.heap.size (Im.win ys (oth * 16) 16) zs16 rfl rfl HLW.out rfl (arr_new wf) ?_; intro wg hag hgg; have HAG := Lib.hid hag; have HGG := Lib.hid (below_new hgg); have HAFG := Lib.hid (HAF.out.old HGG.out); have HALG := Lib.hid (HALF.out.old HGG.out); clear hag hgg)
          | (refine wpList_load_arr rfl _ rfl wd.heap.size rfl (Im.win ys (oth * 16) 16) HLW.out HAFG.out ?_)
          | (refine wpList_load_arr rfl _ rfl wf.heap.size rfl (Im.win ys (oth * 16) 16) HLW.out HAG.out ?_)
          | (go_at_call 14; refine (num_any _ _).mono ?_; rintro e w' ⟨rfl, rfl⟩)
          | (go_at_call 11; refine (works_any _).mono ?_; rintro e wz ⟨rfl, hbz⟩))
        go_ret
        exact ⟨rfl, below_tr (below_tr (below_tr (below_tr HBD.out HGE.out) HBF.out) HGG.out) hbz⟩
    · have hni : decide ((num : Int) < (ys.length : Int) / 16) = false := by rw [decide_eq_false_iff_not]; omega
      go_wp2_with (first | (refine wpList_load_arr rfl _ rfl w.heap.size rfl s4 L4.out HAB.out ?_))
      refine (setline_no p h ys s4 num _ HI.out (by omega) (by omega)).mono ?_
      rintro e wc ⟨rfl, hbc⟩
      have HI2 := Lib.hid (HI.out.old hbc); have HBC := Lib.hid (below_tr (below_tr HBA1.out HBB.out) hbc)
      have HAC := Lib.hid (HAB.out.old hbc)
      have HRC := Lib.hid (HRB.out.old hbc)
      clear hbc
      go_wp2_with fail
      refine (line_no p h ys oth _ HI2.out (by omega) (by omega)).mono ?_
      rintro e wd ⟨rfl, hbd2⟩
      have HBD := Lib.hid (below_tr HBC.out hbd2)
      have HAD := Lib.hid (HAC.out.old hbd2)
      have HRD := Lib.hid (HRC.out.old hbd2)
      clear hbd2
      go_wp2_with (first
        | (refine wpList_store_arr rfl _ _ rfl wd.heap.size zs16 zs16 rfl rfl rfl rfl (arr_new wd) ?_; intro we hae hge; have HAE := Lib.hid hae; have HGE := Lib.hid (below_new hge); clear hae hge)
        | (refine wpList_load_arr rfl _ rfl wd.heap.size rfl zs16 rfl HAE.out ?_)
        | (go_at_call 14; refine (num_any _ _).mono ?_; rintro e w' ⟨rfl, rfl⟩)
        | (go_at_call 11; refine (works_any _).mono ?_; rintro e wz ⟨rfl, hbz⟩))
      go_ret
      exact ⟨rfl, below_tr (below_tr HBD.out HGE.out) hbz⟩

/-! THE ROW -/
set_option maxRecDepth 100000 in
theorem lifted (os : Os) (started : os.Started) (H : Type) (enc : TypeId × Value → H) :
    ReturnsInHanded {} Try.checked os 9 .any (Rows.imageSetsSpec.pre6 enc Try.prog Try.f9 Rows.imageSetsRow.domain false) (Rows.imageSetsSpec.post enc Try.prog Try.f9 false true false false) := by
  refine returnsInHanded_of_change (C := Try.checked) own started (by kernel_rfl) Try.func9
    (ChangeSpec.witness6 (enc := enc) (C := Try.checked) false ⟨#[], #[.slice none 0 0, .int .i64 0, .int .u32 0, .int .u32 0, .agg #[.int .u8 0, .int .u8 0, .int .u8 0, .int .u8 0, .int .u8 0, .int .u8 0, .int .u8 0, .int .u8 0, .int .u8 0, .int .u8 0, .int .u8 0, .int .u8 0, .int .u8 0, .int .u8 0, .int .u8 0, .int .u8 0]], []⟩ 8 (by kernel_rfl) (by kernel_rfl) (by kernel_rfl) (by kernel_rfl)) ?_
  intro W base args ds gs before hval0 hW hcnd _
  have hval : ∀ (j : Nat) t v, Try.f9.params[j]? = some t → args[j]? = some v → Value.okWide Try.prog W .any base t v := hval0
  have hW' := hW
  obtain ⟨p, q, hA0, hV, rfl, hfz, hnd⟩ := hW
  have hA : DataW.TrodAll enc Try.prog W 0 (fun _ => true) true Try.f9.params.toList args.toList ds p := hA0
  rw [Try.params9] at hA hval
  obtain ⟨v0, vs0, d0, ds0, p0, q0, hargs, rfl, rfl, h0, r0⟩ := trodAll_cons hA
  obtain ⟨v1, vs1, d1, ds1, p1, q1, rfl, rfl, rfl, h1, r1⟩ := trodAll_cons r0
  obtain ⟨v2, vs2, d2, ds2, p2, q2, rfl, rfl, rfl, h2, r2⟩ := trodAll_cons r1
  obtain ⟨v3, vs3, d3, ds3, p3, q3, rfl, rfl, rfl, h3, r3⟩ := trodAll_cons r2
  obtain ⟨v4, vs4, d4, ds4, p4, q4, rfl, rfl, rfl, h4, r4⟩ := trodAll_cons r3
  obtain ⟨rfl, rfl, rfl⟩ := trodAll_nil r4
  obtain rfl : args = #[v0, v1, v2, v3, v4] := by cases args; simp_all
  obtain ⟨rfl, rfl⟩ := trodVars_none hV
  clear hA0 hval0
  simp only [List.append_nil] at hW'
  have hlt : ∀ x ∈ p0 ++ (p1 ++ (p2 ++ (p3 ++ (p4)))), x.block < W.heap.size := fun x hx => by simpa using hW'.lt x (by simpa using hx)
  obtain ⟨a0, n0, c0, rfl⟩ := okWide_slice Try.underlying22 (hval 0 22 v0 rfl rfl)
  obtain ⟨x0, l0, m0, b0⟩ := open_bytes h0
  have h1k := h1
  obtain ⟨a1, rfl, rfl, rfl, w1⟩ := open_int Try.underlying3 (hval 1 3 v1 rfl rfl) h1
  have h2k := h2
  obtain ⟨a2, rfl, rfl, rfl, w2⟩ := open_int Try.underlying34 (hval 2 34 v2 rfl rfl) h2
  have h3k := h3
  obtain ⟨a3, rfl, rfl, rfl, w3⟩ := open_int Try.underlying34 (hval 3 34 v3 rfl rfl) h3
  obtain ⟨s4, rfl, l4, b4⟩ := open_arr (hval 4 45 v4 rfl rfl) h4
  refine (walk W a0 n0 c0 x0 l0 m0 b0 a1 w1 a2 w2 a3 w3 s4 l4 b4).mono fun e W' ⟨he, hb⟩ => ?_
  subst he
  have harg0 : DataW.Trod enc Try.prog W' 0 (fun b => decide (b < W.heap.size)) true 22 _ _ _ := Below.trod laidOut (by kernel_rfl) (of_decide_eq_true (by kernel_rfl)) h0 hb (fun x hx => hlt x (by simp [hx]))
  have harg1 : DataW.Trod enc Try.prog W' 0 (fun b => decide (b < W.heap.size)) true 3 _ _ _ := Below.trod laidOut (by kernel_rfl) (of_decide_eq_true (by kernel_rfl)) h1k hb (fun x hx => by cases hx)
  have harg2 : DataW.Trod enc Try.prog W' 0 (fun b => decide (b < W.heap.size)) true 34 _ _ _ := Below.trod laidOut (by kernel_rfl) (of_decide_eq_true (by kernel_rfl)) h2k hb (fun x hx => by cases hx)
  have harg3 : DataW.Trod enc Try.prog W' 0 (fun b => decide (b < W.heap.size)) true 34 _ _ _ := Below.trod laidOut (by kernel_rfl) (of_decide_eq_true (by kernel_rfl)) h3k hb (fun x hx => by cases hx)
  have harg4 : DataW.Trod enc Try.prog W' 0 (fun b => decide (b < W.heap.size)) true 45 _ _ _ := Below.trod laidOut (by kernel_rfl) (of_decide_eq_true (by kernel_rfl)) h4 hb (fun x hx => hlt x (by simp [hx]))
  exact ⟨_, rfl, _, _, _, [], _, [], hW', trodAll_mk1 (shut_bool Try.underlying4 _), (trodAll_cons_mk harg0 (trodAll_cons_mk harg1 (trodAll_cons_mk harg2 (trodAll_cons_mk harg3 (trodAll_cons_mk harg4 trodAll_mk0))))), rfl, hb.frame _, fun h => by cases h⟩

theorem over : Rows.imageSetsRow.holds Try.pinned (OpenSpec.ofChange Rows.imageSetsSpec) :=
  OpenClaim.holds_of_wide 9 Try.f9 rfl rfl rfl rfl rfl rfl rfl ⟨rfl, rfl, rfl, rfl, rfl⟩ rfl rfl rfl rfl rfl (by kernel_rfl) Try.func9 (by kernel_rfl)
    (of_decide_eq_true (by kernel_rfl)) (by unfold Func.isWrapper; first | (rw [if_pos (by decide +kernel)]; kernel_rfl) | (rw [if_neg (by decide +kernel)]; exact ⟨rfl, rfl⟩))
    (fun os started H enc _ => lifted os started H enc)

/-- THE STATEMENT -/
theorem proved : Rows.ImageSetsSaid :=
  over
end Go.Proofs.Ytchjcfmmnfimlaa.imageSets
