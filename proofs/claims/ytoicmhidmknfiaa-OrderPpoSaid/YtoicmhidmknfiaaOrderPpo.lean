/-
  OrderPpo: for every input the statement's function returns true, with no condition; each argument reads behind the call as before. By contracts of the program's and the document's functions.
-/
import Derived.Test.YtoicmhidmknfiaaOrLaw
namespace Go.Proofs.Ytoicmhidmknfiaa.orderPpo
open Go.ChangeShapes Go.WideShapes Go.ChangeAt Go.RowKit
set_option linter.unusedVariables false
set_option linter.unusedSimpArgs false

/-! THE WALK: the Go text returns true; of memory nothing that stood there has turned. -/
set_option maxRecDepth 100000 in
set_option maxHeartbeats 4000000 in
theorem walk (w : World) (x0 : Ev.X) (b0 : Ev.XIn w x0) :
    Calls Try.prog 4 #[Ev.exV x0] w fun e w' => e = .returned (.bool true) ∧ Below w.heap.size w w' := by
  have HIN := Lib.hid b0
  have R0 := Lib.hid (heap_alloc_new w (.cells (Ev.xcells x0).toArray 26))
  have B0 := Lib.hid ((Below.refl w.heap.size w).alloc (Nat.le_refl _) (.cells (Ev.xcells x0).toArray 26))
  have HSZ := Lib.hid (show (w.alloc (.cells (Ev.xcells x0).toArray 26)).heap.size = w.heap.size + 1 by simp only [World.size_alloc])
  clear b0
  unfold Ev.exV
  go_enter Try.func4, Try.ntmps4
  go_wp2_with (first
    | ((with_reducible show wpList _ _ _ (Oper.mk (some 5) _ _ _ _ _ :: _) _ _); refine wpList_load_row rfl 26 (.tmp 1) rfl w.heap.size (by kernel_rfl) 26 (Ev.xcells x0).toArray (0, 0) _ R0.out Try.underlying26 rfl (by kernel_rfl) ?_))
  refine (wide7_any x0 _ (HIN.out.kp (Ev.kp_below B0.out))).mono ?_
  rintro e W1 ⟨b, rfl, hw, hb⟩
  have HB1 := Lib.hid (show Below (w.heap.size + 1) (w.alloc (.cells (Ev.xcells x0).toArray 26)) W1 by rw [← HSZ.out]; exact hb)
  have BW := Lib.hid (B0.out.trans (HB1.out.mono (Nat.le_succ _)))
  have R1 := Lib.hid (Ev.exrow HB1.out)
  have cx := Ev.xcell0 R1.out
  clear hb hw
  by_cases hl : b = true ∨ 20 < x0.ev.length
  · have HL := Lib.hid hl
    clear hl
    cases b
    · have hlen : (20 : Int) < (x0.ev.length : Int) := by have := HL.out; simp at this; omega
      go_wp2_with fail
      refine (known7_any _).mono ?_
      rintro e W2 ⟨rfl, hb⟩
      have HEND := Lib.hid (BW.out.trans (hb.mono BW.out.size)); clear hb
      go_wp2_with fail
      go_ret
      exact ⟨rfl, HEND.out⟩
    · go_wp2_with fail
      refine (known7_any _).mono ?_
      rintro e W2 ⟨rfl, hb⟩
      have HEND := Lib.hid (BW.out.trans (hb.mono BW.out.size)); clear hb
      go_wp2_with fail
      go_ret
      exact ⟨rfl, HEND.out⟩
  obtain rfl : b = false := by cases b; rfl; exact absurd (.inl rfl) hl
  have hlen : ¬ (20 : Int) < (x0.ev.length : Int) := by
    intro h; exact hl (.inr (by omega))
  clear hl
  have LX := fun (W : World) (h : Below W1.heap.size W1 W) => (h.block w.heap.size (Array.getElem?_eq_some_iff.1 R1.out).1).trans R1.out
  have LXH := Lib.hid LX
  clear LX
  go_wp2_with (first
    | ((with_reducible show wpList _ _ _ (Oper.mk (some 15) _ _ _ _ _ :: _) _ _); refine wpList_load_row rfl 26 (.tmp 1) rfl w.heap.size (by kernel_rfl) 26 (Ev.xcells x0).toArray (0, 0) _ R1.out Try.underlying26 rfl (by kernel_rfl) ?_))
  refine (oppo_any x0 _ (HIN.out.kp (Ev.kp_below BW.out))).mono ?_
  rintro e W2 ⟨hb2, (⟨hc, rfl⟩ | ⟨hc, ad, cc, rfl, hp⟩)⟩
  · have B2 := Lib.hid (BW.out.trans (hb2.mono BW.out.size))
    have R2 := Lib.hid (LXH.out _ hb2)
    obtain ⟨v, hv⟩ : ∃ v, Ev.check x0 = v := ⟨_, rfl⟩
    rw [hv] at hc ⊢
    have HV := Lib.hid hv
    have tv : (v != v) = false := by simp
    have t0 : (v != 0) = true := by simpa using hc
    clear hb2 hc hv cx
    go_wp2_with (first
      | ((with_reducible show wpList _ _ _ (Oper.mk (some 20) _ _ _ _ _ :: _) _ _); refine wpList_load_row rfl 26 (.tmp 1) rfl w.heap.size (by kernel_rfl) 26 (Ev.xcells x0).toArray (0, 0) _ R2.out Try.underlying26 rfl (by kernel_rfl) ?_))
    refine (rcheck_is HV.out _ (HIN.out.kp (Ev.kp_below B2.out))).mono ?_
    rintro e W3 ⟨rfl, hb3⟩
    have B3 := Lib.hid (B2.out.trans (hb3.mono B2.out.size)); clear hb3
    go_wp2_with fail
    refine (known7_any _).mono ?_
    rintro e W4 ⟨rfl, hb⟩
    have HEND := Lib.hid (B3.out.trans (hb.mono B3.out.size)); clear hb
    go_wp2_with fail
    go_ret
    exact ⟨rfl, HEND.out⟩
  · have B2 := Lib.hid (BW.out.trans (hb2.mono BW.out.size))
    have R2 := Lib.hid (LXH.out _ hb2)
    have HC := Lib.hid hc
    rw [ppo_pl hc] at hp ⊢
    obtain ⟨L, hL⟩ : ∃ L, Ev.pl (Ev.isPpo x0) x0.ev.length x0.ev.length = L := ⟨_, rfl⟩
    have H5 := Lib.hid (fun (W : World) (hin : Ev.XIn W x0) => rpairs5_any x0 W hin hc)
    rw [hL] at hp ⊢
    have HL := Lib.hid hL; have HP := Lib.hid hp
    clear hb2 hc hp hL cx
    go_wp2_with (first
      | ((with_reducible show wpList _ _ _ (Oper.mk (some 20) _ _ _ _ _ :: _) _ _); refine wpList_load_row rfl 26 (.tmp 1) rfl w.heap.size (by kernel_rfl) 26 (Ev.xcells x0).toArray (0, 0) _ R2.out Try.underlying26 rfl (by kernel_rfl) ?_))
    refine (rcheck_is HC.out _ (HIN.out.kp (Ev.kp_below B2.out))).mono ?_
    rintro e W3 ⟨rfl, hb3⟩
    have B3 := Lib.hid (B2.out.trans (hb3.mono B2.out.size))
    have R3 := Lib.hid ((hb3.block w.heap.size (Array.getElem?_eq_some_iff.1 R2.out).1).trans R2.out)
    have HP3 := Lib.hid (HP.out.kp (Ev.kp_below hb3))
    clear hb3
    go_wp2_with (first
      | ((with_reducible show wpList _ _ _ (Oper.mk (some 32) _ _ _ _ _ :: _) _ _); refine wpList_load_row rfl 26 (.tmp 1) rfl w.heap.size (by kernel_rfl) 26 (Ev.xcells x0).toArray (0, 0) _ R3.out Try.underlying26 rfl (by kernel_rfl) ?_))
    refine (H5.out _ (HIN.out.kp (Ev.kp_below B3.out))).mono ?_
    rw [HL.out]
    rintro e W4 ⟨ad2, cc2, rfl, hp2, hb4⟩
    have B4 := Lib.hid (B3.out.trans (hb4.mono B3.out.size))
    have HP4 := Lib.hid (HP3.out.kp (Ev.kp_below hb4)); have HP2 := Lib.hid hp2
    clear hb4 hp2
    go_wp2_with fail
    refine (samePairs_yes ad ad2 cc cc2 L _ HP4.out HP2.out).mono ?_
    rintro e W5 ⟨rfl, hb5⟩
    have B5 := Lib.hid (B4.out.trans (hb5.mono B4.out.size)); clear hb5
    go_wp2_with fail
    refine (known7_any _).mono ?_
    rintro e W6 ⟨rfl, hb⟩
    have HEND := Lib.hid (B5.out.trans (hb.mono B5.out.size)); clear hb
    go_wp2_with fail
    go_ret
    exact ⟨rfl, HEND.out⟩

/-! THE ROW -/
set_option maxRecDepth 100000 in
theorem lifted (os : Os) (started : os.Started) (H : Type) (enc : TypeId × Value → H) :
    ReturnsInHanded {} Try.checked os 4 .any (Rows.orderPpoSpec.pre6 enc Try.prog Try.f4 Rows.orderPpoRow.domain false) (Rows.orderPpoSpec.post enc Try.prog Try.f4 false true false false) := by
  refine returnsInHanded_of_change (C := Try.checked) own started (by kernel_rfl) Try.func4
    (ChangeSpec.witness6 (enc := enc) (C := Try.checked) false ⟨#[], #[.agg #[.slice none 0 0, .slice none 0 0, .slice none 0 0]], []⟩ 8 (by kernel_rfl) (by kernel_rfl) (by kernel_rfl) (by kernel_rfl)) ?_
  intro W base args ds gs before hval0 hW hcnd _
  have hval : ∀ (j : Nat) t v, Try.f4.params[j]? = some t → args[j]? = some v → Value.okWide Try.prog W .any base t v := hval0
  have hW' := hW
  obtain ⟨p, q, hA0, hV, rfl, hfz, hnd⟩ := hW
  have hA : DataW.TrodAll enc Try.prog W 0 (fun _ => true) true Try.f4.params.toList args.toList ds p := hA0
  rw [Try.params4] at hA hval
  obtain ⟨v0, vs0, d0, ds0, p0, q0, hargs, rfl, rfl, h0, r0⟩ := trodAll_cons hA
  obtain ⟨rfl, rfl, rfl⟩ := trodAll_nil r0
  obtain rfl : args = #[v0] := by cases args; simp_all
  obtain ⟨rfl, rfl⟩ := trodVars_none hV
  clear hA0 hval0
  simp only [List.append_nil] at hW'
  have hlt : ∀ x ∈ p0, x.block < W.heap.size := fun x hx => by simpa using hW'.lt x (by simpa using hx)
  obtain ⟨x0, rfl, b0⟩ := open_exec (hval 0 26 v0 rfl rfl) h0
  refine (walk W x0 b0).mono fun e W' ⟨he, hb⟩ => ?_
  subst he
  have harg0 : DataW.Trod enc Try.prog W' 0 (fun b => decide (b < W.heap.size)) true 26 _ _ _ := Below.trod laidOut (by kernel_rfl) (of_decide_eq_true (by kernel_rfl)) h0 hb (fun x hx => hlt x (by simp [hx]))
  exact ⟨_, rfl, _, _, _, [], _, [], hW', trodAll_mk1 (shut_bool Try.underlying4 _), (trodAll_cons_mk harg0 trodAll_mk0), rfl, hb.frame _, fun h => by cases h⟩

theorem over : Rows.orderPpoRow.holds Try.pinned (OpenSpec.ofChange Rows.orderPpoSpec) :=
  OpenClaim.holds_of_wide 4 Try.f4 rfl rfl rfl rfl rfl rfl rfl ⟨rfl, rfl, rfl, rfl, rfl⟩ rfl rfl rfl rfl rfl (by kernel_rfl) Try.func4 (by kernel_rfl)
    (of_decide_eq_true (by kernel_rfl)) (by unfold Func.isWrapper; first | (rw [if_pos (by decide +kernel)]; kernel_rfl) | (rw [if_neg (by decide +kernel)]; exact ⟨rfl, rfl⟩))
    (fun os started H enc _ => lifted os started H enc)

/-- THE STATEMENT -/
theorem proved : Rows.OrderPpoSaid :=
  over
end Go.Proofs.Ytoicmhidmknfiaa.orderPpo
