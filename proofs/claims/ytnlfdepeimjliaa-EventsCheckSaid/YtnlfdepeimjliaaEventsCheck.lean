/-
  EventsCheck: for every input the statement's function returns true, with no condition; each argument reads behind the call as before. By contracts of the program's and the document's functions.
-/
import Derived.Test.YtnlfdepeimjliaaEvLawX
namespace Go.Proofs.Ytnlfdepeimjliaa.eventsCheck
open Go.ChangeShapes Go.WideShapes Go.ChangeAt Go.RowKit
set_option linter.unusedVariables false
set_option linter.unusedSimpArgs false

theorem rcheck_is {x : Ev.X} {v : Int} (h : Ev.check x = v) (w : World) (hin : Ev.XIn w x) : Calls Try.prog 13 #[.agg (Ev.xcells x).toArray] w fun e w' => e = .returned (.int .i64 v) ∧ Below w.heap.size w w' := h ▸ rcheck_any x w hin
/-! THE WALK: the Go text returns true; of memory nothing that stood there has turned. -/
set_option maxRecDepth 100000 in
set_option maxHeartbeats 2000000 in
theorem walk (w : World) (x0 : Ev.X) (b0 : Ev.XIn w x0) :
    Calls Try.prog 3 #[Ev.exV x0] w fun e w' => e = .returned (.bool true) ∧ Below w.heap.size w w' := by
  have HIN := Lib.hid b0
  have R0 := Lib.hid (heap_alloc_new w (.cells (Ev.xcells x0).toArray 26))
  have B0 := Lib.hid ((Below.refl w.heap.size w).alloc (Nat.le_refl _) (.cells (Ev.xcells x0).toArray 26))
  have HSZ := Lib.hid (show (w.alloc (.cells (Ev.xcells x0).toArray 26)).heap.size = w.heap.size + 1 by simp only [World.size_alloc])
  clear b0
  unfold Ev.exV
  go_enter Try.func3, Try.ntmps3
  go_wp2_with (first
    | ((with_reducible show wpList _ _ _ (Oper.mk (some 3) _ _ _ _ _ :: _) _ _); refine wpList_load_row rfl 26 (.tmp 1) rfl w.heap.size (by kernel_rfl) 26 (Ev.xcells x0).toArray (0, 0) _ R0.out Try.underlying26 rfl (by kernel_rfl) ?_))
  refine (wide_any x0 _ (HIN.out.kp (Ev.kp_below B0.out))).mono ?_
  rintro e W1 ⟨b, rfl, hw, hb⟩
  have HB1 := Lib.hid (show Below (w.heap.size + 1) (w.alloc (.cells (Ev.xcells x0).toArray 26)) W1 by rw [← HSZ.out]; exact hb)
  have BW := Lib.hid (B0.out.trans (HB1.out.mono (Nat.le_succ _)))
  clear hb hw
  cases b
  · obtain ⟨v, hv⟩ : ∃ v, Ev.check x0 = v := ⟨_, rfl⟩
    have HV := Lib.hid hv
    have tv : (v == v) = true := by simp
    have R1 := Lib.hid (Ev.exrow HB1.out)
    have LX := Lib.hid (fun z : Og.On W1.heap.size W1 => Og.rowB (P := Try.prog) z 26 _ R1.out Try.underlying26 rfl (by kernel_rfl))
    clear hv
    go_wp2
    refine Og.regionB (by kernel_rfl) (by kernel_rfl) ?_
    repeat (first
      | go_big_quiet_skip
      | (go_big_quiet_want
         first
          | (refine Og.quiet_load 26 (.tmp 1) rfl (.agg (Ev.xcells x0).toArray) ⟨w.heap.size, 0, none⟩ _ rfl (by rintro _ ⟨z, rfl⟩; exact LX.out z) (by simp only [Act.put, List.setIfInBounds_toArray, List.set_cons_zero, List.set_cons_succ]; rfl) ?_
             go_big_quiet_on)
          | (go_big_quiet_op
             first
              | go_big_quiet_on
              | (apply Exists.intro
                 refine ⟨fun z => ?_, ?_⟩
                 · first
                    | exact Og.callB (check_is HV.out _ (HIN.out.kp (Ev.kp_below (BW.out.trans (z.b.mono BW.out.size)))))
                    | exact Og.callB (rcheck_is HV.out _ (HIN.out.kp (Ev.kp_below (BW.out.trans (z.b.mono BW.out.size)))))
                    | exact Og.callB (known_any _)
                 go_big_quiet_on))))
    refine wpQuiet_nil ?_
    intro _ hw'
    obtain ⟨q9, hw''⟩ := hw'
    subst hw''
    have HEND := Lib.hid (BW.out.trans (q9.b.mono BW.out.size))
    go_wp2_with fail
    go_ret
    exact ⟨rfl, HEND.out⟩
  · go_wp2_with fail
    refine (known_any _).mono ?_
    rintro e W2 ⟨rfl, hb⟩
    have HEND := Lib.hid (BW.out.trans (hb.mono BW.out.size)); clear hb
    go_wp2_with fail
    go_ret
    exact ⟨rfl, HEND.out⟩

/-! THE ROW -/
set_option maxRecDepth 100000 in
theorem lifted (os : Os) (started : os.Started) (H : Type) (enc : TypeId × Value → H) :
    ReturnsInHanded {} Try.checked os 3 .any (Rows.eventsCheckSpec.pre6 enc Try.prog Try.f3 Rows.eventsCheckRow.domain false) (Rows.eventsCheckSpec.post enc Try.prog Try.f3 false true false false) := by
  refine returnsInHanded_of_change (C := Try.checked) own started (by kernel_rfl) Try.func3
    (ChangeSpec.witness6 (enc := enc) (C := Try.checked) false ⟨#[], #[.agg #[.slice none 0 0, .slice none 0 0, .slice none 0 0]], []⟩ 8 (by kernel_rfl) (by kernel_rfl) (by kernel_rfl) (by kernel_rfl)) ?_
  intro W base args ds gs before hval0 hW hcnd _
  have hval : ∀ (j : Nat) t v, Try.f3.params[j]? = some t → args[j]? = some v → Value.okWide Try.prog W .any base t v := hval0
  have hW' := hW
  obtain ⟨p, q, hA0, hV, rfl, hfz, hnd⟩ := hW
  have hA : DataW.TrodAll enc Try.prog W 0 (fun _ => true) true Try.f3.params.toList args.toList ds p := hA0
  rw [Try.params3] at hA hval
  obtain ⟨v0, vs0, d0, ds0, p0, q0, hargs, rfl, rfl, h0, r0⟩ := trodAll_cons hA
  obtain ⟨rfl, rfl, rfl⟩ := trodAll_nil r0
  obtain rfl : args = #[v0] := by cases args; simp_all
  obtain ⟨rfl, rfl⟩ := trodVars_none hV
  clear hA0 hval0
  simp only [List.append_nil] at hW'
  have hlt : ∀ x ∈ p0, x.block < W.heap.size := fun x hx => by simpa using hW'.lt x (by simpa using hx)
  obtain ⟨x0, rfl, b0⟩ := open_exec (hval 0 26 v0 rfl rfl) h0
  refine (walk W x0 b0).mono fun e W' ⟨he, hb⟩ => ?_
  subst he
  have harg0 : DataW.Trod enc Try.prog W' 0 (fun b => decide (b < W.heap.size)) true 26 _ _ _ := Below.trod laidOut (by kernel_rfl) (of_decide_eq_true (by kernel_rfl)) h0 hb (fun x hx => hlt x (by simp [hx]))
  exact ⟨_, rfl, _, _, _, [], _, [], hW', trodAll_mk1 (shut_bool Try.underlying4 _), (trodAll_cons_mk harg0 trodAll_mk0), rfl, hb.frame _, fun h => by cases h⟩

theorem over : Rows.eventsCheckRow.holds Try.pinned (OpenSpec.ofChange Rows.eventsCheckSpec) :=
  OpenClaim.holds_of_wide 3 Try.f3 rfl rfl rfl rfl rfl rfl rfl ⟨rfl, rfl, rfl, rfl, rfl⟩ rfl rfl rfl rfl rfl (by kernel_rfl) Try.func3 (by kernel_rfl)
    (of_decide_eq_true (by kernel_rfl)) (by unfold Func.isWrapper; first | (rw [if_pos (by decide +kernel)]; kernel_rfl) | (rw [if_neg (by decide +kernel)]; exact ⟨rfl, rfl⟩))
    (fun os started H enc _ => lifted os started H enc)

/-- THE STATEMENT -/
theorem proved : Rows.EventsCheckSaid :=
  over
end Go.Proofs.Ytnlfdepeimjliaa.eventsCheck
