import Derived.Test.YtecnnkidalkmfaaGreatKa53

section
namespace Go.Proofs.YtecnnkidalkmfaaGreat.modelArrows
open Go.ChangeShapes Go.WideShapes Go.ChangeAt Go.RowKit
set_option linter.unusedVariables false
set_option linter.unusedSimpArgs false

/-! THE WALK: the Go text returns true; of memory nothing that stood there has turned. -/
set_option maxRecDepth 100000 in
set_option maxHeartbeats 8000000 in
theorem walk (w : World) (x0 : Ev.X) (b0 : Ev.XIn w x0) :
    Calls Tryz.prog 5 #[Ev.exV x0] w fun e w' => e = .returned (.bool true) ∧ Below w.heap.size w w' := by
  have HIN := Lib.hid b0
  obtain ⟨B, hB⟩ : ∃ B, B = w.alloc (.cells (Ev.xcells x0).toArray 26) := ⟨_, rfl⟩
  have HB := Lib.hid hB
  have R0 := Lib.hid (show B.heap[w.heap.size]? = some (.cells (Ev.xcells x0).toArray 26 (0, 0)) by rw [hB]; exact heap_alloc_new _ _)
  have B0 := Lib.hid (show Below w.heap.size w B by rw [hB]; exact (Below.refl w.heap.size w).alloc (Nat.le_refl _) _)
  clear hB b0
  unfold Ev.exV
  go_enter Tryz.func5, Tryz.ntmps5
  go_wp2_with (first
    | ((with_reducible show wpList _ _ _ (Oper.mk (some 6) _ _ _ _ _ :: _) _ _); rw [show w.alloc (Obj.cells (Ev.xcells x0).toArray 26) = B from HB.out.symm])
    | ((with_reducible show wpList _ _ _ (Oper.mk (some 6) _ _ _ _ _ :: _) _ _); refine wpList_load_row rfl 26 (.tmp 1) rfl w.heap.size (by kernel_rfl) 26 (Ev.xcells x0).toArray (0, 0) _ R0.out Tryz.underlying26 rfl (by kernel_rfl) ?_))
  refine (wide8_any x0 _ (HIN.out.kp (Ev.kp_below B0.out))).mono ?_
  rintro e W1 ⟨b, rfl, hw, hb⟩
  have BW := Lib.hid (B0.out.trans (hb.mono B0.out.size))
  have R1 := Lib.hid ((hb.block w.heap.size (Array.getElem?_eq_some_iff.1 R0.out).1).trans R0.out)
  have HW := Lib.hid hw
  clear hb hw
  cases b
  case true =>
    go_wp2_with fail
    refine (known8_any _).mono ?_
    rintro e W99 ⟨rfl, hb99⟩
    have HEND := Lib.hid (BW.out.trans (hb99.mono BW.out.size)); clear hb99
    go_wp2_with fail
    go_ret
    exact ⟨rfl, HEND.out⟩
  go_wp2_with ((with_reducible show wpList _ _ _ (Oper.mk (some 10) _ _ _ _ _ :: _) _ _); refine wpList_load_row rfl 26 (.tmp 1) rfl w.heap.size (by kernel_rfl) 26 (Ev.xcells x0).toArray (0, 0) _ R1.out Tryz.underlying26 rfl (by kernel_rfl) ?_)
  refine (arrows_any x0 _ (HIN.out.kp (Ev.kp_below BW.out))).mono ?_
  rintro e W2 ⟨hb, (⟨hc, rfl⟩ | ⟨hc, ad, cc, rfl, hp⟩)⟩
  case inl =>
    have B2 := Lib.hid (BW.out.trans (hb.mono BW.out.size))
    have R2 := Lib.hid ((hb.block w.heap.size (Array.getElem?_eq_some_iff.1 R1.out).1).trans R1.out)
    obtain ⟨v, hv⟩ : ∃ v, Ev.check x0 = v := ⟨_, rfl⟩
    rw [hv] at hc ⊢
    have HV := Lib.hid hv
    have t0 : (v != 0) = true := by simpa using hc
    clear hb hc hv
    go_wp2_with ((with_reducible show wpList _ _ _ (Oper.mk (some 14) _ _ _ _ _ :: _) _ _); refine wpList_load_row rfl 26 (.tmp 1) rfl w.heap.size (by kernel_rfl) 26 (Ev.xcells x0).toArray (0, 0) _ R2.out Tryz.underlying26 rfl (by kernel_rfl) ?_)
    refine (rcheck_is HV.out _ (HIN.out.kp (Ev.kp_below B2.out))).mono ?_
    rintro e W3 ⟨rfl, hb⟩
    have B3 := Lib.hid (B2.out.trans (hb.mono B2.out.size)); clear hb
    go_wp2_with fail
    refine (known8_any _).mono ?_
    rintro e W99 ⟨rfl, hb99⟩
    have HEND := Lib.hid (B3.out.trans (hb99.mono B3.out.size)); clear hb99
    go_wp2_with fail
    go_ret
    exact ⟨rfl, HEND.out⟩
  have B2 := Lib.hid (BW.out.trans (hb.mono BW.out.size))
  have R2 := Lib.hid ((hb.block w.heap.size (Array.getElem?_eq_some_iff.1 R1.out).1).trans R1.out)
  have HC := Lib.hid hc
  obtain ⟨L, hL⟩ : ∃ L, Ev.pl (Ev.isG6 x0) x0.ev.length x0.ev.length = L := ⟨_, rfl⟩
  have H6 := Lib.hid (fun (W : World) (hin : Ev.XIn W x0) => rpairs6_any x0 W hin hc)
  rw [hL] at hp ⊢
  have HL := Lib.hid hL; have HP := Lib.hid hp
  clear hb hc hp hL
  go_wp2_with ((with_reducible show wpList _ _ _ (Oper.mk (some 14) _ _ _ _ _ :: _) _ _); refine wpList_load_row rfl 26 (.tmp 1) rfl w.heap.size (by kernel_rfl) 26 (Ev.xcells x0).toArray (0, 0) _ R2.out Tryz.underlying26 rfl (by kernel_rfl) ?_)
  refine (rcheck_is HC.out _ (HIN.out.kp (Ev.kp_below B2.out))).mono ?_
  rintro e W3 ⟨rfl, hb⟩
  have B3 := Lib.hid (B2.out.trans (hb.mono B2.out.size))
  have R3 := Lib.hid ((hb.block w.heap.size (Array.getElem?_eq_some_iff.1 R2.out).1).trans R2.out)
  have HP3 := Lib.hid (Md.PairsIn.kp HP.out (Ev.kp_below hb))
  clear hb
  go_wp2_with ((with_reducible show wpList _ _ _ (Oper.mk (some 33) _ _ _ _ _ :: _) _ _); refine Ev.load_row_g 26 (.tmp 1) rfl rfl w.heap.size (by kernel_rfl) 26 (Ev.xcells x0).toArray (0, 0) _ R3.out Tryz.underlying26 rfl (by kernel_rfl) ?_)
  refine (H6.out _ (HIN.out.kp (Ev.kp_below B3.out))).mono ?_
  rw [HL.out]
  rintro e W4 ⟨ad2, cc2, rfl, hp2, hb⟩
  have B4 := Lib.hid (B3.out.trans (hb.mono B3.out.size))
  have HP4 := Lib.hid (Md.PairsIn.kp HP3.out (Ev.kp_below hb)); have HP2 := Lib.hid hp2
  clear hb hp2
  go_wp2_with fail
  refine (samePairs_yes ad ad2 cc cc2 L _ HP4.out HP2.out).mono ?_
  rintro e W5 ⟨rfl, hb⟩
  have B5 := Lib.hid (B4.out.trans (hb.mono B4.out.size)); clear hb
  go_wp2_with fail
  refine (known8_any _).mono ?_
  rintro e W99 ⟨rfl, hb99⟩
  have HEND := Lib.hid (B5.out.trans (hb99.mono B5.out.size)); clear hb99
  go_wp2_with fail
  go_ret
  exact ⟨rfl, HEND.out⟩

/-! THE ROW -/
set_option maxRecDepth 100000 in
theorem lifted (os : Os) (started : os.Started) (H : Type) (enc : TypeId × Value → H) :
    ReturnsInHanded {} Tryz.checked os 5 .any (Rows.modelArrowsSpec.pre6 enc Tryz.prog Tryz.f5 Rows.modelArrowsRow.domain false) (Rows.modelArrowsSpec.post enc Tryz.prog Tryz.f5 false true false false) := by
  refine returnsInHanded_of_change (C := Tryz.checked) own started (by kernel_rfl) Tryz.func5
    (ChangeSpec.witness6 (enc := enc) (C := Tryz.checked) false ⟨#[], #[.agg #[.slice none 0 0, .slice none 0 0, .slice none 0 0]], []⟩ 8 (by kernel_rfl) (by kernel_rfl) (by kernel_rfl) (by kernel_rfl)) ?_
  intro W base args ds gs before hval0 hW hcnd _
  have hval : ∀ (j : Nat) t v, Tryz.f5.params[j]? = some t → args[j]? = some v → Value.okWide Tryz.prog W .any base t v := hval0
  have hW' := hW
  obtain ⟨p, q, hA0, hV, rfl, hfz, hnd⟩ := hW
  have hA : DataW.TrodAll enc Tryz.prog W 0 (fun _ => true) true Tryz.f5.params.toList args.toList ds p := hA0
  rw [Tryz.params5] at hA hval
  obtain ⟨v0, vs0, d0, ds0, p0, q0, hargs, rfl, rfl, h0, r0⟩ := trodAll_cons hA
  obtain ⟨rfl, rfl, rfl⟩ := trodAll_nil r0
  obtain rfl : args = #[v0] := by cases args; simp_all
  obtain ⟨rfl, rfl⟩ := trodVars_none hV
  clear hA0 hval0
  simp only [List.append_nil] at hW'
  have hlt : ∀ x ∈ p0, x.block < W.heap.size := fun x hx => by simpa using hW'.lt x (by simpa using hx)
  obtain ⟨x0, rfl, b0⟩ := open_exec (hval 0 26 v0 rfl rfl) h0
  refine (walk W x0 b0).mono fun e W' ⟨he, hb⟩ => ?_
  subst he
  have harg0 : DataW.Trod enc Tryz.prog W' 0 (fun b => decide (b < W.heap.size)) true 26 _ _ _ := Below.trod laidOut (by kernel_rfl) (of_decide_eq_true (by kernel_rfl)) h0 hb (fun x hx => hlt x (by simp [hx]))
  exact ⟨_, rfl, _, _, _, [], _, [], hW', trodAll_mk1 (shut_bool Tryz.underlying4 _), (trodAll_cons_mk harg0 trodAll_mk0), rfl, hb.frame _, fun h => by cases h⟩

theorem over : Rows.modelArrowsRow.holds Tryz.pinned (OpenSpec.ofChange Rows.modelArrowsSpec) :=
  OpenClaim.holds_of_wide 5 Tryz.f5 rfl rfl rfl rfl rfl rfl rfl ⟨rfl, rfl, rfl, rfl, rfl⟩ rfl rfl rfl rfl rfl (by kernel_rfl) Tryz.func5 (by kernel_rfl)
    (of_decide_eq_true (by kernel_rfl)) (by unfold Func.isWrapper; first | (rw [if_pos (by decide +kernel)]; kernel_rfl) | (rw [if_neg (by decide +kernel)]; exact ⟨rfl, rfl⟩))
    (fun os started H enc _ => lifted os started H enc)

/-- THE STATEMENT -/
theorem proved : Rows.ModelArrowsSaid :=
  over
end Go.Proofs.YtecnnkidalkmfaaGreat.modelArrows
end
