import Derived.Test.YtnjnpbabgefaeaaGreatKg54
set_option linter.unusedVariables false
set_option linter.unusedSimpArgs false

section
namespace Go.Proofs.YtnjnpbabgefaeaaGreat.modelGlobal
open Go.ChangeShapes Go.WideShapes Go.ChangeAt Go.RowKit
set_option maxRecDepth 100000 in
set_option maxHeartbeats 8000000 in
theorem walk (w : World) (x0 : Ev.X) (b0 : Ev.XIn w x0) :
    Calls Tryz.prog 6 #[Ev.exV x0] w fun e w' => e = .returned (.bool true) ∧ Below w.heap.size w w' := by
  have HIN := Lib.hid b0
  obtain ⟨B, hB⟩ : ∃ B, B = w.alloc (.cells (Ev.xcells x0).toArray 26) := ⟨_, rfl⟩
  have HB := Lib.hid hB
  have R0 := Lib.hid (show B.heap[w.heap.size]? = some (.cells (Ev.xcells x0).toArray 26 (0, 0)) by rw [hB]; exact heap_alloc_new _ _)
  have B0 := Lib.hid (show Below w.heap.size w B by rw [hB]; exact (Below.refl w.heap.size w).alloc (Nat.le_refl _) _)
  clear hB b0
  unfold Ev.exV
  go_enter Tryz.func6, Tryz.ntmps6
  go_wp2_with (first
    | ((with_reducible show wpList _ _ _ (Oper.mk (some 7) _ _ _ _ _ :: _) _ _); rw [show w.alloc (Obj.cells (Ev.xcells x0).toArray 26) = B from HB.out.symm])
    | ((with_reducible show wpList _ _ _ (Oper.mk (some 7) _ _ _ _ _ :: _) _ _); refine wpList_load_row rfl 26 (.tmp 1) rfl w.heap.size (by kernel_rfl) 26 (Ev.xcells x0).toArray (0, 0) _ R0.out Tryz.underlying26 rfl (by kernel_rfl) ?_))
  refine (wide8_any x0 _ (HIN.out.kp (Ev.kp_below B0.out))).mono ?_
  rintro e W1 ⟨b, rfl, hw, hb⟩
  have BW := Lib.hid (B0.out.trans (hb.mono B0.out.size))
  have R1 := Lib.hid ((hb.block w.heap.size (Array.getElem?_eq_some_iff.1 R0.out).1).trans R0.out)
  have HW := Lib.hid hw
  clear hb hw
  cases b
  case true =>
    go_wp2_with fail
    refine (known8_any _).mono ?_
    rintro e W99 ⟨rfl, hb99⟩
    have HEND := Lib.hid (BW.out.trans (hb99.mono BW.out.size)); clear hb99
    go_wp2_with fail
    go_ret
    exact ⟨rfl, HEND.out⟩
  go_wp2_with ((with_reducible show wpList _ _ _ (Oper.mk (some 11) _ _ _ _ _ :: _) _ _); refine wpList_load_row rfl 26 (.tmp 1) rfl w.heap.size (by kernel_rfl) 26 (Ev.xcells x0).toArray (0, 0) _ R1.out Tryz.underlying26 rfl (by kernel_rfl) ?_)
  refine (global_any x0 _ (HIN.out.kp (Ev.kp_below BW.out))).mono ?_
  rintro e W2 (⟨hc, rfl, hb⟩ | ⟨hc, hb, hr⟩)
  case inl =>
    have B2 := Lib.hid (BW.out.trans (hb.mono BW.out.size))
    have R2 := Lib.hid ((hb.block w.heap.size (Array.getElem?_eq_some_iff.1 R1.out).1).trans R1.out)
    obtain ⟨v, hv⟩ : ∃ v, Ev.check x0 = v := ⟨_, rfl⟩
    rw [hv] at hc
    have HV := Lib.hid hv
    have t0 : (v != 0) = true := by simpa using hc
    clear hb hc hv
    go_wp2_with ((with_reducible show wpList _ _ _ (Oper.mk (some 15) _ _ _ _ _ :: _) _ _); refine wpList_load_row rfl 26 (.tmp 1) rfl w.heap.size (by kernel_rfl) 26 (Ev.xcells x0).toArray (0, 0) _ R2.out Tryz.underlying26 rfl (by kernel_rfl) ?_)
    refine (rcheck_is HV.out _ (HIN.out.kp (Ev.kp_below B2.out))).mono ?_
    rintro e W3 ⟨rfl, hb⟩
    have B3 := Lib.hid (B2.out.trans (hb.mono B2.out.size)); clear hb
    go_wp2_with fail
    refine (known8_any _).mono ?_
    rintro e W99 ⟨rfl, hb99⟩
    have HEND := Lib.hid (B3.out.trans (hb99.mono B3.out.size)); clear hb99
    go_wp2_with fail
    go_ret
    exact ⟨rfl, HEND.out⟩
  have HC := Lib.hid hc
  clear hc
  rcases hr with ⟨hn, rfl⟩ | ⟨l, a, c, hs, hl, rfl, hi⟩
  · have B2 := Lib.hid (BW.out.trans (hb.mono BW.out.size))
    have R2 := Lib.hid ((hb.block w.heap.size (Array.getElem?_eq_some_iff.1 R1.out).1).trans R1.out)
    have HNO := Lib.hid hn
    clear hb hn
    go_wp2_with ((with_reducible show wpList _ _ _ (Oper.mk (some 15) _ _ _ _ _ :: _) _ _); refine wpList_load_row rfl 26 (.tmp 1) rfl w.heap.size (by kernel_rfl) 26 (Ev.xcells x0).toArray (0, 0) _ R2.out Tryz.underlying26 rfl (by kernel_rfl) ?_)
    refine (rcheck_is HC.out _ (HIN.out.kp (Ev.kp_below B2.out))).mono ?_
    rintro e W3 ⟨rfl, hb⟩
    have B3 := Lib.hid (B2.out.trans (hb.mono B2.out.size))
    have R3 := Lib.hid ((hb.block w.heap.size (Array.getElem?_eq_some_iff.1 R2.out).1).trans R2.out)
    clear hb
    go_wp2_with ((with_reducible show wpList _ _ _ (Oper.mk (some 29) _ _ _ _ _ :: _) _ _); refine wpList_load_row rfl 26 (.tmp 1) rfl w.heap.size (by kernel_rfl) 26 (Ev.xcells x0).toArray (0, 0) _ R3.out Tryz.underlying26 rfl (by kernel_rfl) ?_)
    refine (rglobal_any x0 _ (HIN.out.kp (Ev.kp_below B3.out)) HC.out).mono ?_
    rintro e W4 ⟨hb, (⟨_, rfl⟩ | ⟨l2, a2, c2, hs2, _⟩)⟩
    case inr => rw [HNO.out] at hs2; cases hs2
    have B4 := Lib.hid (B3.out.trans (hb.mono B3.out.size))
    have R4 := Lib.hid ((hb.block w.heap.size (Array.getElem?_eq_some_iff.1 R3.out).1).trans R3.out)
    clear hb
    go_wp2_with (go_at_call 26; refine (Md.same_l [] none none 0 0 W4 (Md.ints_none _) (Md.ints_none _)).mono ?_; rintro e W5 ⟨rfl, hb⟩; have B5 := Lib.hid (B4.out.trans (hb.mono B4.out.size)); clear hb)
    refine (known8_any _).mono ?_
    rintro e W99 ⟨rfl, hb99⟩
    have HEND := Lib.hid (B5.out.trans (hb99.mono B5.out.size)); clear hb99
    go_wp2_with fail
    go_ret
    exact ⟨rfl, HEND.out⟩
  · have B2 := Lib.hid (BW.out.trans (hb.mono BW.out.size))
    have R2 := Lib.hid ((hb.block w.heap.size (Array.getElem?_eq_some_iff.1 R1.out).1).trans R1.out)
    have HS := Lib.hid hs; have HLL := Lib.hid hl; have HI2 := Lib.hid hi
    clear hb hs hl hi
    go_wp2_with ((with_reducible show wpList _ _ _ (Oper.mk (some 15) _ _ _ _ _ :: _) _ _); refine wpList_load_row rfl 26 (.tmp 1) rfl w.heap.size (by kernel_rfl) 26 (Ev.xcells x0).toArray (0, 0) _ R2.out Tryz.underlying26 rfl (by kernel_rfl) ?_)
    refine (rcheck_is HC.out _ (HIN.out.kp (Ev.kp_below B2.out))).mono ?_
    rintro e W3 ⟨rfl, hb⟩
    have B3 := Lib.hid (B2.out.trans (hb.mono B2.out.size))
    have R3 := Lib.hid ((hb.block w.heap.size (Array.getElem?_eq_some_iff.1 R2.out).1).trans R2.out)
    have HI3 := Lib.hid (Ev.IntsIn.kp HI2.out (Ev.kp_below hb))
    clear hb
    go_wp2_with ((with_reducible show wpList _ _ _ (Oper.mk (some 29) _ _ _ _ _ :: _) _ _); refine wpList_load_row rfl 26 (.tmp 1) rfl w.heap.size (by kernel_rfl) 26 (Ev.xcells x0).toArray (0, 0) _ R3.out Tryz.underlying26 rfl (by kernel_rfl) ?_)
    refine (rglobal_any x0 _ (HIN.out.kp (Ev.kp_below B3.out)) HC.out).mono ?_
    rintro e W4 ⟨hb, (⟨hn, _⟩ | ⟨l2, a2, c2, hs2, hl2, rfl, hi2⟩)⟩
    case inl => rw [HS.out] at hn; cases hn
    obtain rfl : l = l2 := by have h := HS.out; rw [hs2] at h; exact (Option.some.inj h).symm
    have B4 := Lib.hid (B3.out.trans (hb.mono B3.out.size))
    have R4 := Lib.hid ((hb.block w.heap.size (Array.getElem?_eq_some_iff.1 R3.out).1).trans R3.out)
    have HI4 := Lib.hid (Ev.IntsIn.kp HI3.out (Ev.kp_below hb)); have HJ4 := Lib.hid hi2
    clear hb hs2 hl2 hi2
    go_wp2_with (go_at_call 26; refine (Md.same_l l a a2 c c2 W4 HI4.out HJ4.out).mono ?_; rintro e W5 ⟨rfl, hb⟩; have B5 := Lib.hid (B4.out.trans (hb.mono B4.out.size)); clear hb)
    refine (known8_any _).mono ?_
    rintro e W99 ⟨rfl, hb99⟩
    have HEND := Lib.hid (B5.out.trans (hb99.mono B5.out.size)); clear hb99
    go_wp2_with fail
    go_ret
    exact ⟨rfl, HEND.out⟩
set_option maxRecDepth 100000 in
theorem lifted (os : Os) (started : os.Started) (H : Type) (enc : TypeId × Value → H) :
    ReturnsInHanded {} Tryz.checked os 6 .any (Rows.modelGlobalSpec.pre6 enc Tryz.prog Tryz.f6 Rows.modelGlobalRow.domain false) (Rows.modelGlobalSpec.post enc Tryz.prog Tryz.f6 false true false false) := by
  refine returnsInHanded_of_change (C := Tryz.checked) own started (by kernel_rfl) Tryz.func6
    (ChangeSpec.witness6 (enc := enc) (C := Tryz.checked) false ⟨#[], #[.agg #[.slice none 0 0, .slice none 0 0, .slice none 0 0]], []⟩ 8 (by kernel_rfl) (by kernel_rfl) (by kernel_rfl) (by kernel_rfl)) ?_
  intro W base args ds gs before hval0 hW hcnd _
  have hval : ∀ (j : Nat) t v, Tryz.f6.params[j]? = some t → args[j]? = some v → Value.okWide Tryz.prog W .any base t v := hval0
  have hW' := hW
  obtain ⟨p, q, hA0, hV, rfl, hfz, hnd⟩ := hW
  have hA : DataW.TrodAll enc Tryz.prog W 0 (fun _ => true) true Tryz.f6.params.toList args.toList ds p := hA0
  rw [Tryz.params6] at hA hval
  obtain ⟨v0, vs0, d0, ds0, p0, q0, hargs, rfl, rfl, h0, r0⟩ := trodAll_cons hA
  obtain ⟨rfl, rfl, rfl⟩ := trodAll_nil r0
  obtain rfl : args = #[v0] := by cases args; simp_all
  obtain ⟨rfl, rfl⟩ := trodVars_none hV
  clear hA0 hval0
  simp only [List.append_nil] at hW'
  have hlt : ∀ x ∈ p0, x.block < W.heap.size := fun x hx => by simpa using hW'.lt x (by simpa using hx)
  obtain ⟨x0, rfl, b0⟩ := open_exec (hval 0 26 v0 rfl rfl) h0
  refine (walk W x0 b0).mono fun e W' ⟨he, hb⟩ => ?_
  subst he
  have harg0 : DataW.Trod enc Tryz.prog W' 0 (fun b => decide (b < W.heap.size)) true 26 _ _ _ := Below.trod laidOut (by kernel_rfl) (of_decide_eq_true (by kernel_rfl)) h0 hb (fun x hx => hlt x (by simp [hx]))
  exact ⟨_, rfl, _, _, _, [], _, [], hW', trodAll_mk1 (shut_bool Tryz.underlying4 _), (trodAll_cons_mk harg0 trodAll_mk0), rfl, hb.frame _, fun h => by cases h⟩
theorem over : Rows.modelGlobalRow.holds Tryz.pinned (OpenSpec.ofChange Rows.modelGlobalSpec) :=
  OpenClaim.holds_of_wide 6 Tryz.f6 rfl rfl rfl rfl rfl rfl rfl ⟨rfl, rfl, rfl, rfl, rfl⟩ rfl rfl rfl rfl rfl (by kernel_rfl) Tryz.func6 (by kernel_rfl)
    (of_decide_eq_true (by kernel_rfl)) (by unfold Func.isWrapper; first | (rw [if_pos (by decide +kernel)]; kernel_rfl) | (rw [if_neg (by decide +kernel)]; exact ⟨rfl, rfl⟩))
    (fun os started H enc _ => lifted os started H enc)
theorem proved : Rows.ModelGlobalSaid :=
  over
end Go.Proofs.YtnjnpbabgefaeaaGreat.modelGlobal
end
