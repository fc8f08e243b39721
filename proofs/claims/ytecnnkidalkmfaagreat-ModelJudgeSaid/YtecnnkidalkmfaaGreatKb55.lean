import Derived.Test.YtecnnkidalkmfaaGreatKb50
import Derived.Test.YtecnnkidalkmfaaGreatKb52
import Derived.Test.YtecnnkidalkmfaaGreatKb54
set_option linter.unusedVariables false
set_option linter.unusedSimpArgs false

section
namespace Go.Proofs.YtecnnkidalkmfaaGreat
open Go.RowKit
theorem Md.bool_is {b : Bool} {p : Prop} (hb : b = true ↔ p) {w w' : World} {e : Ending} (h : ∃ b' : Bool, e = .returned (.bool b') ∧ (b' = true ↔ p) ∧ Below w.heap.size w w') : e = .returned (.bool b) ∧ Below w.heap.size w w' := by
  obtain ⟨b', he, hp, hw⟩ := h
  exact ⟨by rw [he, Md.same_bool hp hb], hw⟩
theorem Md.all3_is {x : Ev.X} {b1 b2 b3 b4 : Bool} (k1 : b1 = true ↔ Md.Rk (Md.gI (Md.cohL x))) (k2 : b2 = true ↔ Md.Rk (Md.gI (Ev.pl (Ev.isG6 x) x.ev.length x.ev.length))) (k3 : b3 = Md.atomA x) (k4 : b4 = true ↔ Md.All3 x) : b4 = (b1 && b2 && b3) := by
  refine Md.same_bool k4 ?_
  unfold Md.All3
  rw [Bool.and_eq_true, Bool.and_eq_true, k1, k2, k3]
  exact ⟨fun h => ⟨h.1.1, h.1.2, h.2⟩, fun h => ⟨⟨h.1, h.2.1⟩, h.2.2⟩⟩
end Go.Proofs.YtecnnkidalkmfaaGreat
end

section
namespace Go.Proofs.YtecnnkidalkmfaaGreat.modelJudge
open Go.ChangeShapes Go.WideShapes Go.ChangeAt Go.RowKit
set_option maxRecDepth 100000 in
set_option maxHeartbeats 8000000 in
theorem walk (w : World) (x0 : Ev.X) (b0 : Ev.XIn w x0) :
    Calls Tryz.prog 4 #[Ev.exV x0] w fun e w' => e = .returned (.bool true) ∧ Below w.heap.size w w' := by
  have HIN := Lib.hid b0
  obtain ⟨B, hB⟩ : ∃ B, B = w.alloc (.cells (Ev.xcells x0).toArray 26) := ⟨_, rfl⟩
  have HB := Lib.hid hB
  have R0 := Lib.hid (show B.heap[w.heap.size]? = some (.cells (Ev.xcells x0).toArray 26 (0, 0)) by rw [hB]; exact heap_alloc_new _ _)
  have B0 := Lib.hid (show Below w.heap.size w B by rw [hB]; exact (Below.refl w.heap.size w).alloc (Nat.le_refl _) _)
  clear hB b0
  unfold Ev.exV
  go_enter Tryz.func4, Tryz.ntmps4
  go_wp2_with (first
    | ((with_reducible show wpList _ _ _ (Oper.mk (some 9) _ _ _ _ _ :: _) _ _); rw [show w.alloc (Obj.cells (Ev.xcells x0).toArray 26) = B from HB.out.symm])
    | ((with_reducible show wpList _ _ _ (Oper.mk (some 9) _ _ _ _ _ :: _) _ _); refine wpList_load_row rfl 26 (.tmp 1) rfl w.heap.size (by kernel_rfl) 26 (Ev.xcells x0).toArray (0, 0) _ R0.out Tryz.underlying26 rfl (by kernel_rfl) ?_))
  refine (wide8_any x0 _ (HIN.out.kp (Ev.kp_below B0.out))).mono ?_
  rintro e W1 ⟨b, rfl, hw, hb⟩
  have BW := Lib.hid (B0.out.trans (hb.mono B0.out.size))
  have R1 := Lib.hid ((hb.block w.heap.size (Array.getElem?_eq_some_iff.1 R0.out).1).trans R0.out)
  have HW := Lib.hid hw
  clear hb hw
  cases b
  case true =>
    go_wp2_with fail
    refine (known8_any _).mono ?_
    rintro e W99 ⟨rfl, hb99⟩
    have HEND := Lib.hid (BW.out.trans (hb99.mono BW.out.size)); clear hb99
    go_wp2_with fail
    go_ret
    exact ⟨rfl, HEND.out⟩
  go_wp2_with ((with_reducible show wpList _ _ _ (Oper.mk (some 13) _ _ _ _ _ :: _) _ _); refine wpList_load_row rfl 26 (.tmp 1) rfl w.heap.size (by kernel_rfl) 26 (Ev.xcells x0).toArray (0, 0) _ R1.out Tryz.underlying26 rfl (by kernel_rfl) ?_)
  refine (judge_any x0 _ (HIN.out.kp (Ev.kp_below BW.out))).mono ?_
  rintro e W2 ⟨hb, (⟨hc, rfl⟩ | ⟨hc, b1, b2, b3, rfl, k1, k2, k3⟩)⟩
  case inl =>
    have B2 := Lib.hid (BW.out.trans (hb.mono BW.out.size))
    have R2 := Lib.hid ((hb.block w.heap.size (Array.getElem?_eq_some_iff.1 R1.out).1).trans R1.out)
    have HC := Lib.hid hc
    obtain ⟨v, hv⟩ : ∃ v, Ev.check x0 = v := ⟨_, rfl⟩
    have t0 : (v != 0) = true := by rw [← hv]; simpa using hc
    rw [hv]
    have HV := Lib.hid hv
    clear hb hc hv
    obtain ⟨g1, hg1⟩ : ∃ g, g = W2.heap.size := ⟨_, rfl⟩
    obtain ⟨U, hU⟩ : ∃ U, U = W2.alloc (.cells #[.bool false, .bool false, .bool false] 34) := ⟨_, rfl⟩
    have HU := Lib.hid hU; have HG := Lib.hid hg1
    have hbu : Below W2.heap.size W2 U := by rw [hU]; exact (Below.refl _ _).alloc (Nat.le_refl _) _
    have BU := Lib.hid (B2.out.trans (hbu.mono B2.out.size))
    have RU := Lib.hid ((hbu.block w.heap.size (Array.getElem?_eq_some_iff.1 R2.out).1).trans R2.out)
    have VU := Lib.hid (show U.heap[g1]? = some (.cells #[.bool false, .bool false, .bool false] 34 (0, 0)) by rw [hU, hg1]; exact heap_alloc_new _ _)
    clear hbu hU hg1
    go_wp2_with (first
      | ((with_reducible show wpList _ _ _ (Oper.mk (some 18) _ _ _ _ _ :: _) _ _); rw [← HU.out, ← HG.out])
      | ((with_reducible show wpList _ _ _ (Oper.mk (some 18) _ _ _ _ _ :: _) _ _); refine wpList_load_row rfl 26 (.tmp 1) rfl w.heap.size (by kernel_rfl) 26 (Ev.xcells x0).toArray (0, 0) _ RU.out Tryz.underlying26 rfl (by kernel_rfl) ?_))
    refine (allowed_any x0 _ (HIN.out.kp (Ev.kp_below BU.out))).mono ?_
    rintro e W3 ⟨hb, (⟨_, rfl⟩ | ⟨hc, _⟩)⟩
    case inr => exact absurd hc HC.out
    rw [HV.out]
    have B3 := Lib.hid (BU.out.trans (hb.mono BU.out.size))
    have R3 := Lib.hid ((hb.block w.heap.size (Array.getElem?_eq_some_iff.1 RU.out).1).trans RU.out)
    have V3 := Lib.hid ((hb.block g1 (Array.getElem?_eq_some_iff.1 VU.out).1).trans VU.out)
    clear hb
    go_wp2_with ((with_reducible show wpList _ _ _ (Oper.mk (some 22) _ _ _ _ _ :: _) _ _); refine wpList_load_row rfl 26 (.tmp 1) rfl w.heap.size (by kernel_rfl) 26 (Ev.xcells x0).toArray (0, 0) _ R3.out Tryz.underlying26 rfl (by kernel_rfl) ?_)
    refine (rcheck_is HV.out _ (HIN.out.kp (Ev.kp_below B3.out))).mono ?_
    rintro e W4 ⟨rfl, hb⟩
    have B4 := Lib.hid (B3.out.trans (hb.mono B3.out.size))
    have R4 := Lib.hid ((hb.block w.heap.size (Array.getElem?_eq_some_iff.1 R3.out).1).trans R3.out)
    have V4 := Lib.hid ((hb.block g1 (Array.getElem?_eq_some_iff.1 V3.out).1).trans V3.out)
    clear hb
    go_wp2_with ((with_reducible show wpList _ _ _ (Oper.mk (some 26) _ _ _ _ _ :: _) _ _); refine wpList_load_row rfl 34 (.tmp 3) rfl g1 (by kernel_rfl) 34 #[.bool false, .bool false, .bool false] (0, 0) _ V4.out Tryz.underlying34 rfl (by kernel_rfl) ?_)
    refine (known8_any _).mono ?_
    rintro e W99 ⟨rfl, hb99⟩
    have HEND := Lib.hid (B4.out.trans (hb99.mono B4.out.size)); clear hb99
    go_wp2_with fail
    go_ret
    exact ⟨rfl, HEND.out⟩
  have B2 := Lib.hid (BW.out.trans (hb.mono BW.out.size))
  have R2 := Lib.hid ((hb.block w.heap.size (Array.getElem?_eq_some_iff.1 R1.out).1).trans R1.out)
  have HC := Lib.hid hc
  have K1 := Lib.hid k1; have K2 := Lib.hid k2; have K3 := Lib.hid k3
  clear hb hc k1 k2 k3
  obtain ⟨g1, hg1⟩ : ∃ g, g = W2.heap.size := ⟨_, rfl⟩
  obtain ⟨U, hU⟩ : ∃ U, U = W2.alloc (.cells #[.bool b1, .bool b2, .bool b3] 34) := ⟨_, rfl⟩
  have HU := Lib.hid hU; have HG := Lib.hid hg1
  have hbu : Below W2.heap.size W2 U := by rw [hU]; exact (Below.refl _ _).alloc (Nat.le_refl _) _
  have BU := Lib.hid (B2.out.trans (hbu.mono B2.out.size))
  have RU := Lib.hid ((hbu.block w.heap.size (Array.getElem?_eq_some_iff.1 R2.out).1).trans R2.out)
  have VU := Lib.hid (show U.heap[g1]? = some (.cells #[.bool b1, .bool b2, .bool b3] 34 (0, 0)) by rw [hU, hg1]; exact heap_alloc_new _ _)
  clear hbu hU hg1
  go_wp2_with (first
    | ((with_reducible show wpList _ _ _ (Oper.mk (some 18) _ _ _ _ _ :: _) _ _); rw [← HU.out, ← HG.out])
    | ((with_reducible show wpList _ _ _ (Oper.mk (some 18) _ _ _ _ _ :: _) _ _); refine wpList_load_row rfl 26 (.tmp 1) rfl w.heap.size (by kernel_rfl) 26 (Ev.xcells x0).toArray (0, 0) _ RU.out Tryz.underlying26 rfl (by kernel_rfl) ?_))
  refine (allowed_any x0 _ (HIN.out.kp (Ev.kp_below BU.out))).mono ?_
  rintro e W3 ⟨hb, (⟨hc, _⟩ | ⟨_, b4, rfl, k4⟩)⟩
  case inl => exact absurd HC.out hc
  have K4 := Lib.hid k4
  have B3 := Lib.hid (BU.out.trans (hb.mono BU.out.size))
  have R3 := Lib.hid ((hb.block w.heap.size (Array.getElem?_eq_some_iff.1 RU.out).1).trans RU.out)
  have V3 := Lib.hid ((hb.block g1 (Array.getElem?_eq_some_iff.1 VU.out).1).trans VU.out)
  clear hb k4
  go_wp2_with ((with_reducible show wpList _ _ _ (Oper.mk (some 22) _ _ _ _ _ :: _) _ _); refine wpList_load_row rfl 26 (.tmp 1) rfl w.heap.size (by kernel_rfl) 26 (Ev.xcells x0).toArray (0, 0) _ R3.out Tryz.underlying26 rfl (by kernel_rfl) ?_)
  refine (rcheck_is HC.out _ (HIN.out.kp (Ev.kp_below B3.out))).mono ?_
  rintro e W4 ⟨rfl, hb⟩
  have B4 := Lib.hid (B3.out.trans (hb.mono B3.out.size))
  have R4 := Lib.hid ((hb.block w.heap.size (Array.getElem?_eq_some_iff.1 R3.out).1).trans R3.out)
  have V4 := Lib.hid ((hb.block g1 (Array.getElem?_eq_some_iff.1 V3.out).1).trans V3.out)
  clear hb
  have C1 := Lib.hid (fun (W : World) (hin : Ev.XIn W x0) => (rcoherent_any x0 W hin HC.out).mono fun e w' h => Md.bool_is K1.out h)
  have C2 := Lib.hid (fun (W : World) (hin : Ev.XIn W x0) => (rordered_any x0 W hin HC.out).mono fun e w' h => Md.bool_is K2.out h)
  have C3 := Lib.hid (fun (W : World) (hin : Ev.XIn W x0) => (ratomic_any x0 W hin HC.out))
  have H3 := Lib.hid (show Md.atomB x0 = b3 by rw [← Md.atom_eq HC.out, K3.out])
  have H4 := Lib.hid (show b4 = (b1 && b2 && b3) from Md.all3_is K1.out K2.out K3.out K4.out)
  go_wp2_with fail
  refine Og.regionP (by kernel_rfl) 8 (fun t => ([(46, 0), (47, 1), (48, 2), (49, 3), (50, 4), (51, 5), (52, 6), (8, 7)] : List (Nat × Nat)).lookup t) [.is (.agg (Ev.xcells x0).toArray), .is (.bool b1), .is (.agg (Ev.xcells x0).toArray), .is (.bool b2), .is (.agg (Ev.xcells x0).toArray), .is (.bool b3), .is (.agg #[.bool b1, .bool b2, .bool b3]), .new (.cells #[.bool false, .bool false, .bool false] 34 (0, 0))] [true, true, true, true, true, true, true, true] (by kernel_rfl) (by decide) ?_ ?_
  · refine ⟨?_, ?_, ?_, ?_, ?_, ?_, ?_, ?_, trivial⟩
    · refine ⟨rfl, (if_neg (by decide)).mpr fun ρ xw b hr hd => ?_⟩
      obtain ⟨d0, _⟩ := hd
      have d0 : ρ (.tmp 1) = .pointer (some ⟨w.heap.size, 0, none⟩) := d0
      refine (if_pos (by rfl)).mpr ?_
      refine Og.gives_is (.agg (Ev.xcells x0).toArray) ?_ (And.intro (Below.refl _ _) rfl)
      exact Og.load_run 26 (.tmp 1) rfl ⟨w.heap.size, 0, none⟩ d0 (run_loadVar_row xw w.heap.size 26 26 (Ev.xcells x0).toArray (0, 0) _ ((hr.block w.heap.size (Array.getElem?_eq_some_iff.1 R4.out).1).trans R4.out) Tryz.underlying26 rfl (by kernel_rfl))
    · refine ⟨rfl, (if_neg (by decide)).mpr fun ρ xw b hr hd => ?_⟩
      obtain ⟨df, d0, _⟩ := hd
      have df : ρ (.func 18) = .func (.func 18) #[] #[] := df
      have d0 : ρ (.tmp 46) = .agg (Ev.xcells x0).toArray := d0
      refine (if_pos (by rfl)).mpr ?_
      refine Og.gives_call 18 #[.agg (Ev.xcells x0).toArray] ?_ ?_
      · go_simp
      · refine (C1.out xw (HIN.out.kp (Ev.kp_below (B4.out.trans (hr.mono B4.out.size))))).mono ?_
        rintro e w3 ⟨rfl, hb⟩
        exact ⟨_, rfl, hb, rfl⟩
    · refine ⟨rfl, (if_neg (by decide)).mpr fun ρ xw b hr hd => ?_⟩
      obtain ⟨d0, _⟩ := hd
      have d0 : ρ (.tmp 1) = .pointer (some ⟨w.heap.size, 0, none⟩) := d0
      refine (if_pos (by rfl)).mpr ?_
      refine Og.gives_is (.agg (Ev.xcells x0).toArray) ?_ (And.intro (Below.refl _ _) rfl)
      exact Og.load_run 26 (.tmp 1) rfl ⟨w.heap.size, 0, none⟩ d0 (run_loadVar_row xw w.heap.size 26 26 (Ev.xcells x0).toArray (0, 0) _ ((hr.block w.heap.size (Array.getElem?_eq_some_iff.1 R4.out).1).trans R4.out) Tryz.underlying26 rfl (by kernel_rfl))
    · refine ⟨rfl, (if_neg (by decide)).mpr fun ρ xw b hr hd => ?_⟩
      obtain ⟨df, d0, _⟩ := hd
      have df : ρ (.func 19) = .func (.func 19) #[] #[] := df
      have d0 : ρ (.tmp 48) = .agg (Ev.xcells x0).toArray := d0
      refine (if_pos (by rfl)).mpr ?_
      refine Og.gives_call 19 #[.agg (Ev.xcells x0).toArray] ?_ ?_
      · go_simp
      · refine (C2.out xw (HIN.out.kp (Ev.kp_below (B4.out.trans (hr.mono B4.out.size))))).mono ?_
        rintro e w3 ⟨rfl, hb⟩
        exact ⟨_, rfl, hb, rfl⟩
    · refine ⟨rfl, (if_neg (by decide)).mpr fun ρ xw b hr hd => ?_⟩
      obtain ⟨d0, _⟩ := hd
      have d0 : ρ (.tmp 1) = .pointer (some ⟨w.heap.size, 0, none⟩) := d0
      refine (if_pos (by rfl)).mpr ?_
      refine Og.gives_is (.agg (Ev.xcells x0).toArray) ?_ (And.intro (Below.refl _ _) rfl)
      exact Og.load_run 26 (.tmp 1) rfl ⟨w.heap.size, 0, none⟩ d0 (run_loadVar_row xw w.heap.size 26 26 (Ev.xcells x0).toArray (0, 0) _ ((hr.block w.heap.size (Array.getElem?_eq_some_iff.1 R4.out).1).trans R4.out) Tryz.underlying26 rfl (by kernel_rfl))
    · refine ⟨rfl, (if_neg (by decide)).mpr fun ρ xw b hr hd => ?_⟩
      obtain ⟨df, d0, _⟩ := hd
      have df : ρ (.func 20) = .func (.func 20) #[] #[] := df
      have d0 : ρ (.tmp 50) = .agg (Ev.xcells x0).toArray := d0
      refine (if_pos (by rfl)).mpr ?_
      refine Og.gives_call 20 #[.agg (Ev.xcells x0).toArray] ?_ ?_
      · go_simp
      · refine (C3.out xw (HIN.out.kp (Ev.kp_below (B4.out.trans (hr.mono B4.out.size))))).mono ?_
        rintro e w3 ⟨rfl, hb⟩
        exact ⟨_, rfl, hb, congrArg Value.bool H3.out⟩
    · refine ⟨rfl, (if_neg (by decide)).mpr fun ρ xw b hr hd => ?_⟩
      obtain ⟨d0, d1, d2, _⟩ := hd
      have d0 : ρ (.tmp 47) = .bool b1 := d0
      have d1 : ρ (.tmp 49) = .bool b2 := d1
      have d2 : ρ (.tmp 51) = .bool b3 := d2
      refine (if_pos (by rfl)).mpr ?_
      refine Og.gives_build 34 #[(0, .tmp 47), (1, .tmp 49), (2, .tmp 51)] rfl #[.bool b1, .bool b2, .bool b3] ?_ (And.intro (Below.refl _ _) rfl)
      simp only [List.map_toArray, List.map_cons, List.map_nil, d0, d1, d2]
      kernel_rfl
    · refine ⟨rfl, (if_neg (by decide)).mpr fun ρ xw b hr hd => ?_⟩
      refine (if_pos (by rfl)).mpr ?_
      refine Og.gives_new (.pointer (some ⟨xw.heap.size, 0, none⟩)) (w' := xw.alloc (.cells #[.bool false, .bool false, .bool false] 34)) ?_ (And.intro ((Below.refl _ _).alloc (Nat.le_refl _) _) ⟨_, rfl, hr.size, heap_alloc_new _ _⟩)
      kernel_rfl
  · intro vs w1 hbz hvs
    have nv0 : vs 0 = .agg (Ev.xcells x0).toArray := hvs 0 _ 46 rfl rfl
    have nv1 : vs 1 = .bool b1 := hvs 1 _ 47 rfl rfl
    have nv2 : vs 2 = .agg (Ev.xcells x0).toArray := hvs 2 _ 48 rfl rfl
    have nv3 : vs 3 = .bool b2 := hvs 3 _ 49 rfl rfl
    have nv4 : vs 4 = .agg (Ev.xcells x0).toArray := hvs 4 _ 50 rfl rfl
    have nv5 : vs 5 = .bool b3 := hvs 5 _ 51 rfl rfl
    have nv6 : vs 6 = .agg #[.bool b1, .bool b2, .bool b3] := hvs 6 _ 52 rfl rfl
    obtain ⟨g8, nv7, hg8, hr8⟩ : ∃ b, vs 7 = .pointer (some ⟨b, 0, none⟩) ∧ W4.heap.size ≤ b ∧ w1.heap[b]? = some (.cells #[.bool false, .bool false, .bool false] 34 (0, 0)) := hvs 7 _ 8 rfl rfl
    simp only [List.take_succ_cons, List.take_zero, List.drop_succ_cons, List.drop_zero, Og.putAll, Act.put, List.setIfInBounds_toArray, List.set_cons_zero, List.set_cons_succ, Nat.zero_add, Nat.reduceAdd, nv0, nv1, nv2, nv3, nv4, nv5, nv6, nv7]
    have BX := Lib.hid (B4.out.trans (hbz.mono B4.out.size))
    have RX := Lib.hid hr8
    have VX := Lib.hid ((hbz.block _ (Array.getElem?_eq_some_iff.1 V4.out).1).trans V4.out)
    have HLT := Lib.hid (show w.heap.size ≤ g8 from Nat.le_trans B4.out.size hg8)
    have HNE := Lib.hid (show g1 < g8 from Nat.lt_of_lt_of_le (Array.getElem?_eq_some_iff.1 V4.out).1 hg8)
    clear hvs nv0 nv1 nv2 nv3 nv4 nv5 nv6 nv7 hbz hr8 hg8
    have h4 := H4.out
    subst h4
    clear H4 K1 K2 K3 K4 C1 C2 C3 H3 HU VU V3 RU R1 R2 R3
    cases b1 <;> cases b2 <;> cases b3 <;> simp only [Bool.and_true, Bool.true_and, Bool.and_false, Bool.false_and]
    all_goals
      go_wp2_with (first
        | ((with_reducible show wpList _ _ _ (Oper.mk none (Op.store 34 _ _) _ _ _ _ :: _) _ _); refine wpList_store_own rfl 34 (.tmp 8) (.tmp 52) rfl g8 #[_, _, _] rfl rfl 34 #[.bool false, .bool false, .bool false] RX.out (by kernel_rfl) (by kernel_rfl) (by kernel_rfl) ?_; intro W9 HW9; have BZ := Lib.hid (BX.out.trans (HW9.below.mono HLT.out)); have RZ := Lib.hid HW9.row; have VZ := Lib.hid ((HW9.below.block g1 HNE.out).trans VX.out); have c0 : W9.cell? ⟨g8, 0, none⟩ = _ := cell_of_row _ _ _ _ _ _ RZ.out; have c1 : W9.cell? ⟨g8, 1, none⟩ = _ := cell_of_row _ _ _ _ _ _ RZ.out; have c2 : W9.cell? ⟨g8, 2, none⟩ = _ := cell_of_row _ _ _ _ _ _ RZ.out; clear HW9)
        | ((with_reducible show wpList _ _ _ (Oper.mk (some 60) _ _ _ _ _ :: _) _ _); refine Ev.load_row_g 34 (.tmp 3) rfl rfl g1 (by kernel_rfl) 34 #[_, _, _] (0, 0) _ VZ.out Tryz.underlying34 rfl (by kernel_rfl) ?_)
        | ((with_reducible show wpList _ _ _ (Oper.mk (some 61) _ _ _ _ _ :: _) _ _); refine Ev.load_row_g 34 (.tmp 8) rfl rfl g8 (by kernel_rfl) 34 #[_, _, _] (0, 0) _ RZ.out Tryz.underlying34 rfl (by kernel_rfl) ?_))
      refine (known8_any _).mono ?_
      rintro e W99 ⟨rfl, hb99⟩
      have HEND := Lib.hid (BZ.out.trans (hb99.mono BZ.out.size)); clear hb99
      go_wp2_with fail
      go_ret
      exact ⟨rfl, HEND.out⟩
set_option maxRecDepth 100000 in
theorem lifted (os : Os) (started : os.Started) (H : Type) (enc : TypeId × Value → H) :
    ReturnsInHanded {} Tryz.checked os 4 .any (Rows.modelJudgeSpec.pre6 enc Tryz.prog Tryz.f4 Rows.modelJudgeRow.domain false) (Rows.modelJudgeSpec.post enc Tryz.prog Tryz.f4 false true false false) := by
  refine returnsInHanded_of_change (C := Tryz.checked) own started (by kernel_rfl) Tryz.func4
    (ChangeSpec.witness6 (enc := enc) (C := Tryz.checked) false ⟨#[], #[.agg #[.slice none 0 0, .slice none 0 0, .slice none 0 0]], []⟩ 8 (by kernel_rfl) (by kernel_rfl) (by kernel_rfl) (by kernel_rfl)) ?_
  intro W base args ds gs before hval0 hW hcnd _
  have hval : ∀ (j : Nat) t v, Tryz.f4.params[j]? = some t → args[j]? = some v → Value.okWide Tryz.prog W .any base t v := hval0
  have hW' := hW
  obtain ⟨p, q, hA0, hV, rfl, hfz, hnd⟩ := hW
  have hA : DataW.TrodAll enc Tryz.prog W 0 (fun _ => true) true Tryz.f4.params.toList args.toList ds p := hA0
  rw [Tryz.params4] at hA hval
  obtain ⟨v0, vs0, d0, ds0, p0, q0, hargs, rfl, rfl, h0, r0⟩ := trodAll_cons hA
  obtain ⟨rfl, rfl, rfl⟩ := trodAll_nil r0
  obtain rfl : args = #[v0] := by cases args; simp_all
  obtain ⟨rfl, rfl⟩ := trodVars_none hV
  clear hA0 hval0
  simp only [List.append_nil] at hW'
  have hlt : ∀ x ∈ p0, x.block < W.heap.size := fun x hx => by simpa using hW'.lt x (by simpa using hx)
  obtain ⟨x0, rfl, b0⟩ := open_exec (hval 0 26 v0 rfl rfl) h0
  refine (walk W x0 b0).mono fun e W' ⟨he, hb⟩ => ?_
  subst he
  have harg0 : DataW.Trod enc Tryz.prog W' 0 (fun b => decide (b < W.heap.size)) true 26 _ _ _ := Below.trod laidOut (by kernel_rfl) (of_decide_eq_true (by kernel_rfl)) h0 hb (fun x hx => hlt x (by simp [hx]))
  exact ⟨_, rfl, _, _, _, [], _, [], hW', trodAll_mk1 (shut_bool Tryz.underlying4 _), (trodAll_cons_mk harg0 trodAll_mk0), rfl, hb.frame _, fun h => by cases h⟩
theorem over : Rows.modelJudgeRow.holds Tryz.pinned (OpenSpec.ofChange Rows.modelJudgeSpec) :=
  OpenClaim.holds_of_wide 4 Tryz.f4 rfl rfl rfl rfl rfl rfl rfl ⟨rfl, rfl, rfl, rfl, rfl⟩ rfl rfl rfl rfl rfl (by kernel_rfl) Tryz.func4 (by kernel_rfl)
    (of_decide_eq_true (by kernel_rfl)) (by unfold Func.isWrapper; first | (rw [if_pos (by decide +kernel)]; kernel_rfl) | (rw [if_neg (by decide +kernel)]; exact ⟨rfl, rfl⟩))
    (fun os started H enc _ => lifted os started H enc)
theorem proved : Rows.ModelJudgeSaid :=
  over
end Go.Proofs.YtecnnkidalkmfaaGreat.modelJudge
end
