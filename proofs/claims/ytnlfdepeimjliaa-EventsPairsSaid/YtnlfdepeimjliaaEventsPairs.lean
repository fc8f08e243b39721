/-
  EventsPairs: for every input the statement's function returns true, with no condition; each argument reads behind the call as before. By contracts of the program's and the document's functions.
-/
import Derived.Test.YtnlfdepeimjliaaEvLawY
namespace Go.Proofs.Ytnlfdepeimjliaa.eventsPairs
open Go.ChangeShapes Go.WideShapes Go.ChangeAt Go.RowKit
set_option linter.unusedVariables false
set_option linter.unusedSimpArgs false

def PrS (ps : List (Nat × Nat)) (v : Value) (w : World) : Prop := ∃ a c, v = .slice a ps.length c ∧ Ev.PairsIn w a c ps
theorem po_nil (x : Ev.X) (w : World) (hin : Ev.XIn w x) (hc : Ev.check x ≠ 0) : Calls Try.prog 14 #[.agg (Ev.xcells x).toArray] w fun e w' => e = .returned (.slice none 0 0) ∧ Below w.heap.size w w' := po_no x w hin hc
theorem rf_nil (x : Ev.X) (w : World) (hin : Ev.XIn w x) (hc : Ev.check x ≠ 0) : Calls Try.prog 15 #[.agg (Ev.xcells x).toArray] w fun e w' => e = .returned (.slice none 0 0) ∧ Below w.heap.size w w' := rf_no x w hin hc
theorem co_nil (x : Ev.X) (w : World) (hin : Ev.XIn w x) (hc : Ev.check x ≠ 0) : Calls Try.prog 16 #[.agg (Ev.xcells x).toArray] w fun e w' => e = .returned (.slice none 0 0) ∧ Below w.heap.size w w' := co_no x w hin hc
theorem fr_nil (x : Ev.X) (w : World) (hin : Ev.XIn w x) (hc : Ev.check x ≠ 0) : Calls Try.prog 17 #[.agg (Ev.xcells x).toArray] w fun e w' => e = .returned (.slice none 0 0) ∧ Below w.heap.size w w' := fr_no x w hin hc
theorem rcheck_is {x : Ev.X} {v : Int} (h : Ev.check x = v) (w : World) (hin : Ev.XIn w x) : Calls Try.prog 13 #[.agg (Ev.xcells x).toArray] w fun e w' => e = .returned (.int .i64 v) ∧ Below w.heap.size w w' := h ▸ rcheck_any x w hin
/-! THE WALK: the Go text returns true; of memory nothing that stood there has turned. -/
set_option maxRecDepth 100000 in
set_option maxHeartbeats 8000000 in
theorem walk (w : World) (x0 : Ev.X) (b0 : Ev.XIn w x0) :
    Calls Try.prog 4 #[Ev.exV x0] w fun e w' => e = .returned (.bool true) ∧ Below w.heap.size w w' := by
  have HIN := Lib.hid b0
  have R0 := Lib.hid (heap_alloc_new w (.cells (Ev.xcells x0).toArray 26))
  have B0 := Lib.hid ((Below.refl w.heap.size w).alloc (Nat.le_refl _) (.cells (Ev.xcells x0).toArray 26))
  have HSZ := Lib.hid (show (w.alloc (.cells (Ev.xcells x0).toArray 26)).heap.size = w.heap.size + 1 by simp only [World.size_alloc])
  have hl1 := b0.ev.le; have hl2 := b0.ev.max
  clear b0
  unfold Ev.exV
  go_enter Try.func4, Try.ntmps4
  go_wp2_with ((with_reducible show wpList _ _ _ (Oper.mk (some 7) _ _ _ _ _ :: _) _ _); refine wpList_load_row rfl 26 (.tmp 1) rfl w.heap.size (by kernel_rfl) 26 (Ev.xcells x0).toArray (0, 0) _ R0.out Try.underlying26 rfl (by kernel_rfl) ?_)
  refine (wide_any x0 _ (HIN.out.kp (Ev.kp_below B0.out))).mono ?_
  rintro e W1 ⟨b, rfl, hw, hb⟩
  have HB1 := Lib.hid (show Below (w.heap.size + 1) (w.alloc (.cells (Ev.xcells x0).toArray 26)) W1 by rw [← HSZ.out]; exact hb)
  have BW := Lib.hid (B0.out.trans (HB1.out.mono (Nat.le_succ _)))
  have R1 := Lib.hid (Ev.exrow HB1.out)
  have cx := Ev.xcell0 R1.out
  clear hb hw
  cases b
  case true =>
    go_wp2_with fail
    refine (known_any _).mono ?_
    rintro e W9 ⟨rfl, hb⟩
    have HEND := Lib.hid ((BW.out).trans (hb.mono (BW.out).size)); clear hb
    go_wp2_with fail
    go_ret
    exact ⟨rfl, HEND.out⟩
  by_cases hl : 24 < x0.ev.length
  · have hi : (24 : Int) < (x0.ev.length : Int) := by omega
    clear hl
    go_wp2_with fail
    refine (known_any _).mono ?_
    rintro e W9 ⟨rfl, hb⟩
    have HEND := Lib.hid ((BW.out).trans (hb.mono (BW.out).size)); clear hb
    go_wp2_with fail
    go_ret
    exact ⟨rfl, HEND.out⟩
  have hi : ¬ (24 : Int) < (x0.ev.length : Int) := by omega
  clear hl
  by_cases hc : Ev.check x0 = 0
  case neg =>
    have HC := Lib.hid hc
    have LX := Lib.hid (fun z : Og.On W1.heap.size W1 => Og.rowB (P := Try.prog) z 26 _ R1.out Try.underlying26 rfl (by kernel_rfl))
    clear hc
    go_wp2
    refine Og.regionB (by kernel_rfl) (by kernel_rfl) ?_
    repeat (first
      | go_big_quiet_skip
      | (go_big_quiet_want
         first
          | ((with_reducible show Oper.quiet _ (Oper.mk (some 16) _ _ _ _ _) _ _ _); refine Og.quiet_load 26 (.tmp 1) rfl (.agg (Ev.xcells x0).toArray) ⟨w.heap.size, 0, none⟩ _ rfl (by rintro _ ⟨z, rfl⟩; exact LX.out z) (by simp only [Act.put, List.setIfInBounds_toArray, List.set_cons_zero, List.set_cons_succ]; rfl) ?_
             go_big_quiet_on)
          | ((with_reducible show Oper.quiet _ (Oper.mk (some 18) _ _ _ _ _) _ _ _); refine Og.quiet_load 26 (.tmp 1) rfl (.agg (Ev.xcells x0).toArray) ⟨w.heap.size, 0, none⟩ _ rfl (by rintro _ ⟨z, rfl⟩; exact LX.out z) (by simp only [Act.put, List.setIfInBounds_toArray, List.set_cons_zero, List.set_cons_succ]; rfl) ?_
             go_big_quiet_on)
          | ((with_reducible show Oper.quiet _ (Oper.mk (some 20) _ _ _ _ _) _ _ _); refine Og.quiet_load 26 (.tmp 1) rfl (.agg (Ev.xcells x0).toArray) ⟨w.heap.size, 0, none⟩ _ rfl (by rintro _ ⟨z, rfl⟩; exact LX.out z) (by simp only [Act.put, List.setIfInBounds_toArray, List.set_cons_zero, List.set_cons_succ]; rfl) ?_
             go_big_quiet_on)
          | ((with_reducible show Oper.quiet _ (Oper.mk (some 22) _ _ _ _ _) _ _ _); refine Og.quiet_load 26 (.tmp 1) rfl (.agg (Ev.xcells x0).toArray) ⟨w.heap.size, 0, none⟩ _ rfl (by rintro _ ⟨z, rfl⟩; exact LX.out z) (by simp only [Act.put, List.setIfInBounds_toArray, List.set_cons_zero, List.set_cons_succ]; rfl) ?_
             go_big_quiet_on)
          | (go_big_quiet_op
             first
              | go_big_quiet_on
              | (apply Exists.intro
                 refine ⟨fun z => ?_, ?_⟩
                 · first
                    | (with_reducible exact Og.callB (po_nil x0 _ (HIN.out.kp (Ev.kp_below (BW.out.trans (z.b.mono BW.out.size)))) HC.out))
                    | (with_reducible exact Og.callB (rf_nil x0 _ (HIN.out.kp (Ev.kp_below (BW.out.trans (z.b.mono BW.out.size)))) HC.out))
                    | (with_reducible exact Og.callB (co_nil x0 _ (HIN.out.kp (Ev.kp_below (BW.out.trans (z.b.mono BW.out.size)))) HC.out))
                    | (with_reducible exact Og.callB (fr_nil x0 _ (HIN.out.kp (Ev.kp_below (BW.out.trans (z.b.mono BW.out.size)))) HC.out))
                 go_big_quiet_on))))
    refine wpQuiet_nil ?_
    intro _ hw'
    obtain ⟨q9, hw''⟩ := hw'
    subst hw''
    obtain ⟨v, hv⟩ : ∃ v, Ev.check x0 = v := ⟨_, rfl⟩
    have HV := Lib.hid hv
    have tv : (v != 0) = true := by have h := HC.out; rw [hv] at h; simpa using h
    clear hv
    have R2 := Lib.hid ((q9.b.block w.heap.size (Array.getElem?_eq_some_iff.1 R1.out).1).trans R1.out)
    have B2 := Lib.hid (BW.out.trans (q9.b.mono BW.out.size))
    go_wp2_with ((with_reducible show wpList _ _ _ (Oper.mk (some 24) _ _ _ _ _ :: _) _ _); refine wpList_load_row rfl 26 (.tmp 1) rfl w.heap.size (by kernel_rfl) 26 (Ev.xcells x0).toArray (0, 0) _ R2.out Try.underlying26 rfl (by kernel_rfl) ?_)
    refine (rcheck_is HV.out _ (HIN.out.kp (Ev.kp_below B2.out))).mono ?_
    rintro e W3 ⟨rfl, hb⟩
    have B3 := Lib.hid (B2.out.trans (hb.mono B2.out.size)); clear hb
    go_wp2_with fail
    refine (known_any _).mono ?_
    rintro e W9 ⟨rfl, hb⟩
    have HEND := Lib.hid ((B3.out).trans (hb.mono (B3.out).size)); clear hb
    go_wp2_with fail
    go_ret
    exact ⟨rfl, HEND.out⟩
  have HC := Lib.hid hc
  have hn64 := (Ev.check_order hc).2.2
  obtain ⟨L1, hL1⟩ : ∃ l, Ev.pl (Ev.isPo x0) x0.ev.length x0.ev.length = l := ⟨_, rfl⟩
  obtain ⟨L2, hL2⟩ : ∃ l, Ev.pl (Ev.isRf x0) x0.ev.length x0.ev.length = l := ⟨_, rfl⟩
  obtain ⟨L3, hL3⟩ : ∃ l, Ev.pl (fun a b : Nat => Ev.isCo x0 (a : Int) (b : Int)) x0.ev.length x0.ev.length = l := ⟨_, rfl⟩
  obtain ⟨L4, hL4⟩ : ∃ l, Ev.pl (Ev.isFr x0) x0.ev.length x0.ev.length = l := ⟨_, rfl⟩
  have HL1 := Lib.hid hL1; have HL2 := Lib.hid hL2; have HL3 := Lib.hid hL3; have HL4 := Lib.hid hL4
  have HP1 := Lib.hid (show ∀ W, Ev.XIn W x0 → Calls Try.prog 14 #[Ev.exV x0] W fun e w' => ∃ a c, e = .returned (.slice a L1.length c) ∧ Ev.PairsIn w' a c L1 ∧ Below W.heap.size W w' from fun W h => by rw [← hL1, ← Ev.po_eq hc]; exact po_yes x0 W h hc)
  have HP2 := Lib.hid (show ∀ W, Ev.XIn W x0 → Calls Try.prog 15 #[Ev.exV x0] W fun e w' => ∃ a c, e = .returned (.slice a L2.length c) ∧ Ev.PairsIn w' a c L2 ∧ Below W.heap.size W w' from fun W h => by rw [← hL2, ← Ev.rf_eq hc]; exact rf_yes x0 W h hc)
  have HP3 := Lib.hid (show ∀ W, Ev.XIn W x0 → Calls Try.prog 16 #[Ev.exV x0] W fun e w' => ∃ a c, e = .returned (.slice a L3.length c) ∧ Ev.PairsIn w' a c L3 ∧ Below W.heap.size W w' from fun W h => by rw [← hL3, ← Ev.co_eq hc]; exact co_yes x0 W h hc)
  have HP4 := Lib.hid (show ∀ W, Ev.XIn W x0 → Calls Try.prog 17 #[Ev.exV x0] W fun e w' => ∃ a c, e = .returned (.slice a L4.length c) ∧ Ev.PairsIn w' a c L4 ∧ Below W.heap.size W w' from fun W h => by rw [← hL4, ← Ev.fr_eq hc]; exact fr_yes x0 W h hc)
  have HD1 := Lib.hid (show ∀ W, Ev.XIn W x0 → Calls Try.prog 19 #[.agg (Ev.xcells x0).toArray, .int .i64 1] W fun e w' => ∃ a c, e = .returned (.slice a L1.length c) ∧ Ev.PairsIn w' a c L1 ∧ Below W.heap.size W w' from fun W h => by rw [← hL1]; exact rpairs1_any x0 W h hc)
  have HD2 := Lib.hid (show ∀ W, Ev.XIn W x0 → Calls Try.prog 19 #[.agg (Ev.xcells x0).toArray, .int .i64 2] W fun e w' => ∃ a c, e = .returned (.slice a L2.length c) ∧ Ev.PairsIn w' a c L2 ∧ Below W.heap.size W w' from fun W h => by rw [← hL2]; exact rpairs2_any x0 W h hc)
  have HD3 := Lib.hid (show ∀ W, Ev.XIn W x0 → Calls Try.prog 19 #[.agg (Ev.xcells x0).toArray, .int .i64 3] W fun e w' => ∃ a c, e = .returned (.slice a L3.length c) ∧ Ev.PairsIn w' a c L3 ∧ Below W.heap.size W w' from fun W h => by rw [← hL3]; exact rpairs3_any x0 W h hc)
  have HD4 := Lib.hid (show ∀ W, Ev.XIn W x0 → Calls Try.prog 19 #[.agg (Ev.xcells x0).toArray, .int .i64 4] W fun e w' => ∃ a c, e = .returned (.slice a L4.length c) ∧ Ev.PairsIn w' a c L4 ∧ Below W.heap.size W w' from fun W h => by rw [← hL4]; exact rpairs4_any x0 W h hc)
  clear hc hL1 hL2 hL3 hL4
  go_wp2
  refine Og.region3 (by kernel_rfl) (fun t => if 16 ≤ t ∧ t ≤ 23 then some (t - 16) else if 3 ≤ t ∧ t ≤ 6 then some (t + 5) else none)
    [.is (.agg (Ev.xcells x0).toArray), .says (PrS L1), .is (.agg (Ev.xcells x0).toArray), .says (PrS L2), .is (.agg (Ev.xcells x0).toArray), .says (PrS L3), .is (.agg (Ev.xcells x0).toArray), .says (PrS L4), .says (PrS L1), .says (PrS L2), .says (PrS L3), .says (PrS L4)]
    [true, true, true, true, true, true, true, true, true, true, true, true] (by kernel_rfl) ?_ ?_
  · refine ⟨?_, ?_, ?_, ?_, ?_, ?_, ?_, ?_, ?_, ?_, ?_, ?_, trivial⟩
    · refine ⟨rfl, fun ρ w1 hr hd => ?_⟩
      obtain ⟨d0, _⟩ := hd
      have d0 : ρ (.tmp 1) = .pointer (some ⟨w.heap.size, 0, none⟩) := d0
      refine (if_pos (by rfl)).mpr ?_
      refine Og.gives_is (.agg (Ev.xcells x0).toArray) ?_ (And.intro (Below.refl _ _) rfl)
      exact Og.load_run 26 (.tmp 1) rfl ⟨w.heap.size, 0, none⟩ d0 (run_loadVar_row w1 w.heap.size 26 26 (Ev.xcells x0).toArray (0, 0) _ ((hr.block w.heap.size (Array.getElem?_eq_some_iff.1 R1.out).1).trans R1.out) Try.underlying26 rfl (by kernel_rfl))
    · refine ⟨rfl, fun ρ w1 hr hd => ?_⟩
      obtain ⟨d0, d1, _⟩ := hd
      have d0 : ρ (.func 14) = .func (.func 14) #[] #[] := d0
      have d1 : ρ (.tmp 16) = .agg (Ev.xcells x0).toArray := d1
      refine (if_pos (by rfl)).mpr ?_
      refine Og.gives_call 14 #[.agg (Ev.xcells x0).toArray] ?_ ?_
      · go_simp
      · exact (HP1.out w1 (HIN.out.kp (Ev.kp_below (BW.out.trans (hr.mono BW.out.size))))).mono fun e w' ⟨a, c, he, hp, hb⟩ => ⟨_, he, hb, w', Below.refl _ _, a, c, rfl, hp⟩
    · refine ⟨rfl, fun ρ w1 hr hd => ?_⟩
      obtain ⟨d0, _⟩ := hd
      have d0 : ρ (.tmp 1) = .pointer (some ⟨w.heap.size, 0, none⟩) := d0
      refine (if_pos (by rfl)).mpr ?_
      refine Og.gives_is (.agg (Ev.xcells x0).toArray) ?_ (And.intro (Below.refl _ _) rfl)
      exact Og.load_run 26 (.tmp 1) rfl ⟨w.heap.size, 0, none⟩ d0 (run_loadVar_row w1 w.heap.size 26 26 (Ev.xcells x0).toArray (0, 0) _ ((hr.block w.heap.size (Array.getElem?_eq_some_iff.1 R1.out).1).trans R1.out) Try.underlying26 rfl (by kernel_rfl))
    · refine ⟨rfl, fun ρ w1 hr hd => ?_⟩
      obtain ⟨d0, d1, _⟩ := hd
      have d0 : ρ (.func 15) = .func (.func 15) #[] #[] := d0
      have d1 : ρ (.tmp 18) = .agg (Ev.xcells x0).toArray := d1
      refine (if_pos (by rfl)).mpr ?_
      refine Og.gives_call 15 #[.agg (Ev.xcells x0).toArray] ?_ ?_
      · go_simp
      · exact (HP2.out w1 (HIN.out.kp (Ev.kp_below (BW.out.trans (hr.mono BW.out.size))))).mono fun e w' ⟨a, c, he, hp, hb⟩ => ⟨_, he, hb, w', Below.refl _ _, a, c, rfl, hp⟩
    · refine ⟨rfl, fun ρ w1 hr hd => ?_⟩
      obtain ⟨d0, _⟩ := hd
      have d0 : ρ (.tmp 1) = .pointer (some ⟨w.heap.size, 0, none⟩) := d0
      refine (if_pos (by rfl)).mpr ?_
      refine Og.gives_is (.agg (Ev.xcells x0).toArray) ?_ (And.intro (Below.refl _ _) rfl)
      exact Og.load_run 26 (.tmp 1) rfl ⟨w.heap.size, 0, none⟩ d0 (run_loadVar_row w1 w.heap.size 26 26 (Ev.xcells x0).toArray (0, 0) _ ((hr.block w.heap.size (Array.getElem?_eq_some_iff.1 R1.out).1).trans R1.out) Try.underlying26 rfl (by kernel_rfl))
    · refine ⟨rfl, fun ρ w1 hr hd => ?_⟩
      obtain ⟨d0, d1, _⟩ := hd
      have d0 : ρ (.func 16) = .func (.func 16) #[] #[] := d0
      have d1 : ρ (.tmp 20) = .agg (Ev.xcells x0).toArray := d1
      refine (if_pos (by rfl)).mpr ?_
      refine Og.gives_call 16 #[.agg (Ev.xcells x0).toArray] ?_ ?_
      · go_simp
      · exact (HP3.out w1 (HIN.out.kp (Ev.kp_below (BW.out.trans (hr.mono BW.out.size))))).mono fun e w' ⟨a, c, he, hp, hb⟩ => ⟨_, he, hb, w', Below.refl _ _, a, c, rfl, hp⟩
    · refine ⟨rfl, fun ρ w1 hr hd => ?_⟩
      obtain ⟨d0, _⟩ := hd
      have d0 : ρ (.tmp 1) = .pointer (some ⟨w.heap.size, 0, none⟩) := d0
      refine (if_pos (by rfl)).mpr ?_
      refine Og.gives_is (.agg (Ev.xcells x0).toArray) ?_ (And.intro (Below.refl _ _) rfl)
      exact Og.load_run 26 (.tmp 1) rfl ⟨w.heap.size, 0, none⟩ d0 (run_loadVar_row w1 w.heap.size 26 26 (Ev.xcells x0).toArray (0, 0) _ ((hr.block w.heap.size (Array.getElem?_eq_some_iff.1 R1.out).1).trans R1.out) Try.underlying26 rfl (by kernel_rfl))
    · refine ⟨rfl, fun ρ w1 hr hd => ?_⟩
      obtain ⟨d0, d1, _⟩ := hd
      have d0 : ρ (.func 17) = .func (.func 17) #[] #[] := d0
      have d1 : ρ (.tmp 22) = .agg (Ev.xcells x0).toArray := d1
      refine (if_pos (by rfl)).mpr ?_
      refine Og.gives_call 17 #[.agg (Ev.xcells x0).toArray] ?_ ?_
      · go_simp
      · exact (HP4.out w1 (HIN.out.kp (Ev.kp_below (BW.out.trans (hr.mono BW.out.size))))).mono fun e w' ⟨a, c, he, hp, hb⟩ => ⟨_, he, hb, w', Below.refl _ _, a, c, rfl, hp⟩
    · refine ⟨rfl, fun ρ w1 hr hd => ?_⟩
      obtain ⟨d0, _⟩ := hd
      have d0 : ∃ w1', Below w1'.heap.size w1' w1 ∧ PrS L1 (ρ (.tmp 17)) w1' := d0
      obtain ⟨v0, hv0⟩ : ∃ v, ρ (.tmp 17) = v := ⟨_, rfl⟩
      rw [hv0] at d0
      refine (if_pos (by rfl)).mpr ?_
      refine Og.gives_is v0 ?_ (And.intro (Below.refl _ _) d0)
      go_simp
    · refine ⟨rfl, fun ρ w1 hr hd => ?_⟩
      obtain ⟨d0, _⟩ := hd
      have d0 : ∃ w1', Below w1'.heap.size w1' w1 ∧ PrS L2 (ρ (.tmp 19)) w1' := d0
      obtain ⟨v0, hv0⟩ : ∃ v, ρ (.tmp 19) = v := ⟨_, rfl⟩
      rw [hv0] at d0
      refine (if_pos (by rfl)).mpr ?_
      refine Og.gives_is v0 ?_ (And.intro (Below.refl _ _) d0)
      go_simp
    · refine ⟨rfl, fun ρ w1 hr hd => ?_⟩
      obtain ⟨d0, _⟩ := hd
      have d0 : ∃ w1', Below w1'.heap.size w1' w1 ∧ PrS L3 (ρ (.tmp 21)) w1' := d0
      obtain ⟨v0, hv0⟩ : ∃ v, ρ (.tmp 21) = v := ⟨_, rfl⟩
      rw [hv0] at d0
      refine (if_pos (by rfl)).mpr ?_
      refine Og.gives_is v0 ?_ (And.intro (Below.refl _ _) d0)
      go_simp
    · refine ⟨rfl, fun ρ w1 hr hd => ?_⟩
      obtain ⟨d0, _⟩ := hd
      have d0 : ∃ w1', Below w1'.heap.size w1' w1 ∧ PrS L4 (ρ (.tmp 23)) w1' := d0
      obtain ⟨v0, hv0⟩ : ∃ v, ρ (.tmp 23) = v := ⟨_, rfl⟩
      rw [hv0] at d0
      refine (if_pos (by rfl)).mpr ?_
      refine Og.gives_is v0 ?_ (And.intro (Below.refl _ _) d0)
      go_simp
  · intro vs w1 hbz hall
    have h8 : ∃ w1', Below w1'.heap.size w1' w1 ∧ PrS L1 (vs 8) w1' := hall 8 _ 3 rfl rfl
    obtain ⟨wz1, hz1, a1, c1, e1, p1⟩ := h8
    have P1 := Lib.hid (p1.kp (Ev.kp_below hz1))
    have h9 : ∃ w1', Below w1'.heap.size w1' w1 ∧ PrS L2 (vs 9) w1' := hall 9 _ 4 rfl rfl
    obtain ⟨wz2, hz2, a2, c2, e2, p2⟩ := h9
    have P2 := Lib.hid (p2.kp (Ev.kp_below hz2))
    have h10 : ∃ w1', Below w1'.heap.size w1' w1 ∧ PrS L3 (vs 10) w1' := hall 10 _ 5 rfl rfl
    obtain ⟨wz3, hz3, a3, c3, e3, p3⟩ := h10
    have P3 := Lib.hid (p3.kp (Ev.kp_below hz3))
    have h11 : ∃ w1', Below w1'.heap.size w1' w1 ∧ PrS L4 (vs 11) w1' := hall 11 _ 6 rfl rfl
    obtain ⟨wz4, hz4, a4, c4, e4, p4⟩ := h11
    have P4 := Lib.hid (p4.kp (Ev.kp_below hz4))
    simp only [Og.putAll, Act.put, List.setIfInBounds_toArray, List.set_cons_zero, List.set_cons_succ, Nat.zero_add, Nat.reduceAdd, e1, e2, e3, e4]
    have R2 := Lib.hid ((hbz.block w.heap.size (Array.getElem?_eq_some_iff.1 R1.out).1).trans R1.out)
    have B2 := Lib.hid (BW.out.trans (hbz.mono BW.out.size))
    clear hall hbz e1 e2 e3 e4 p1 p2 p3 p4 hz1 hz2 hz3 hz4 cx
    go_wp2_with ((with_reducible show wpList _ _ _ (Oper.mk (some 24) _ _ _ _ _ :: _) _ _); refine wpList_load_row rfl 26 (.tmp 1) rfl w.heap.size (by kernel_rfl) 26 (Ev.xcells x0).toArray (0, 0) _ R2.out Try.underlying26 rfl (by kernel_rfl) ?_)
    refine (rcheck_is HC.out _ (HIN.out.kp (Ev.kp_below B2.out))).mono ?_
    rintro e W3 ⟨rfl, hb⟩
    have B3 := Lib.hid (B2.out.trans (hb.mono B2.out.size))
    have R3 := Lib.hid ((hb.block w.heap.size (Array.getElem?_eq_some_iff.1 R2.out).1).trans R2.out)
    have K3 := Lib.hid (Ev.kp_below hb)
    clear hb
    go_wp2_with ((with_reducible show wpList _ _ _ (Oper.mk (some 49) _ _ _ _ _ :: _) _ _); refine wpList_load_row rfl 26 (.tmp 1) rfl w.heap.size (by kernel_rfl) 26 (Ev.xcells x0).toArray (0, 0) _ R3.out Try.underlying26 rfl (by kernel_rfl) ?_)
    refine (HD1.out _ (HIN.out.kp (Ev.kp_below B3.out))).mono ?_
    rintro e W4 ⟨ad1, cd1, rfl, hp, hb⟩
    have Q1 := Lib.hid hp
    have B4 := Lib.hid (B3.out.trans (hb.mono B3.out.size))
    have R4 := Lib.hid ((hb.block w.heap.size (Array.getElem?_eq_some_iff.1 R3.out).1).trans R3.out)
    have K4 := Lib.hid (K3.out.trans (Ev.kp_below hb))
    clear hp hb
    go_wp2_with fail
    refine (samePairs_yes a1 ad1 c1 cd1 L1 _ (P1.out.kp K4.out) Q1.out).mono ?_
    rintro e W5 ⟨rfl, hb⟩
    have B5 := Lib.hid (B4.out.trans (hb.mono B4.out.size))
    have R5 := Lib.hid ((hb.block w.heap.size (Array.getElem?_eq_some_iff.1 R4.out).1).trans R4.out)
    have K5 := Lib.hid (K4.out.trans (Ev.kp_below hb))
    clear hb
    go_wp2_with ((with_reducible show wpList _ _ _ (Oper.mk (some 54) _ _ _ _ _ :: _) _ _); refine Ev.load_row_g 26 (.tmp 1) rfl rfl w.heap.size (by kernel_rfl) 26 (Ev.xcells x0).toArray (0, 0) _ R5.out Try.underlying26 rfl (by kernel_rfl) ?_)
    refine (HD2.out _ (HIN.out.kp (Ev.kp_below B5.out))).mono ?_
    rintro e W6 ⟨ad2, cd2, rfl, hp, hb⟩
    have Q2 := Lib.hid hp
    have B6 := Lib.hid (B5.out.trans (hb.mono B5.out.size))
    have R6 := Lib.hid ((hb.block w.heap.size (Array.getElem?_eq_some_iff.1 R5.out).1).trans R5.out)
    have K6 := Lib.hid (K5.out.trans (Ev.kp_below hb))
    clear hp hb
    go_wp2_with fail
    refine (samePairs_yes a2 ad2 c2 cd2 L2 _ (P2.out.kp K6.out) Q2.out).mono ?_
    rintro e W7 ⟨rfl, hb⟩
    have B7 := Lib.hid (B6.out.trans (hb.mono B6.out.size))
    have R7 := Lib.hid ((hb.block w.heap.size (Array.getElem?_eq_some_iff.1 R6.out).1).trans R6.out)
    have K7 := Lib.hid (K6.out.trans (Ev.kp_below hb))
    clear hb
    go_wp2_with ((with_reducible show wpList _ _ _ (Oper.mk (some 60) _ _ _ _ _ :: _) _ _); refine Ev.load_row_g 26 (.tmp 1) rfl rfl w.heap.size (by kernel_rfl) 26 (Ev.xcells x0).toArray (0, 0) _ R7.out Try.underlying26 rfl (by kernel_rfl) ?_)
    refine (HD3.out _ (HIN.out.kp (Ev.kp_below B7.out))).mono ?_
    rintro e W8 ⟨ad3, cd3, rfl, hp, hb⟩
    have Q3 := Lib.hid hp
    have B8 := Lib.hid (B7.out.trans (hb.mono B7.out.size))
    have R8 := Lib.hid ((hb.block w.heap.size (Array.getElem?_eq_some_iff.1 R7.out).1).trans R7.out)
    have K8 := Lib.hid (K7.out.trans (Ev.kp_below hb))
    clear hp hb
    go_wp2_with fail
    refine (samePairs_yes a3 ad3 c3 cd3 L3 _ (P3.out.kp K8.out) Q3.out).mono ?_
    rintro e W9 ⟨rfl, hb⟩
    have B9 := Lib.hid (B8.out.trans (hb.mono B8.out.size))
    have R9 := Lib.hid ((hb.block w.heap.size (Array.getElem?_eq_some_iff.1 R8.out).1).trans R8.out)
    have K9 := Lib.hid (K8.out.trans (Ev.kp_below hb))
    clear hb
    go_wp2_with ((with_reducible show wpList _ _ _ (Oper.mk (some 66) _ _ _ _ _ :: _) _ _); refine Ev.load_row_g 26 (.tmp 1) rfl rfl w.heap.size (by kernel_rfl) 26 (Ev.xcells x0).toArray (0, 0) _ R9.out Try.underlying26 rfl (by kernel_rfl) ?_)
    refine (HD4.out _ (HIN.out.kp (Ev.kp_below B9.out))).mono ?_
    rintro e W10 ⟨ad4, cd4, rfl, hp, hb⟩
    have Q4 := Lib.hid hp
    have B10 := Lib.hid (B9.out.trans (hb.mono B9.out.size))
    have R10 := Lib.hid ((hb.block w.heap.size (Array.getElem?_eq_some_iff.1 R9.out).1).trans R9.out)
    have K10 := Lib.hid (K9.out.trans (Ev.kp_below hb))
    clear hp hb
    go_wp2_with fail
    refine (samePairs_yes a4 ad4 c4 cd4 L4 _ (P4.out.kp K10.out) Q4.out).mono ?_
    rintro e W11 ⟨rfl, hb⟩
    have B11 := Lib.hid (B10.out.trans (hb.mono B10.out.size))
    have R11 := Lib.hid ((hb.block w.heap.size (Array.getElem?_eq_some_iff.1 R10.out).1).trans R10.out)
    have K11 := Lib.hid (K10.out.trans (Ev.kp_below hb))
    clear hb
    go_wp2_with fail
    refine (known_any _).mono ?_
    rintro e W20 ⟨rfl, hb⟩
    have HEND := Lib.hid (B11.out.trans (hb.mono B11.out.size)); clear hb
    go_wp2_with fail
    go_ret
    exact ⟨rfl, HEND.out⟩

/-! THE ROW -/
set_option maxRecDepth 100000 in
theorem lifted (os : Os) (started : os.Started) (H : Type) (enc : TypeId × Value → H) :
    ReturnsInHanded {} Try.checked os 4 .any (Rows.eventsPairsSpec.pre6 enc Try.prog Try.f4 Rows.eventsPairsRow.domain false) (Rows.eventsPairsSpec.post enc Try.prog Try.f4 false true false false) := by
  refine returnsInHanded_of_change (C := Try.checked) own started (by kernel_rfl) Try.func4
    (ChangeSpec.witness6 (enc := enc) (C := Try.checked) false ⟨#[], #[.agg #[.slice none 0 0, .slice none 0 0, .slice none 0 0]], []⟩ 8 (by kernel_rfl) (by kernel_rfl) (by kernel_rfl) (by kernel_rfl)) ?_
  intro W base args ds gs before hval0 hW hcnd _
  have hval : ∀ (j : Nat) t v, Try.f4.params[j]? = some t → args[j]? = some v → Value.okWide Try.prog W .any base t v := hval0
  have hW' := hW
  obtain ⟨p, q, hA0, hV, rfl, hfz, hnd⟩ := hW
  have hA : DataW.TrodAll enc Try.prog W 0 (fun _ => true) true Try.f4.params.toList args.toList ds p := hA0
  rw [Try.params4] at hA hval
  obtain ⟨v0, vs0, d0, ds0, p0, q0, hargs, rfl, rfl, h0, r0⟩ := trodAll_cons hA
  obtain ⟨rfl, rfl, rfl⟩ := trodAll_nil r0
  obtain rfl : args = #[v0] := by cases args; simp_all
  obtain ⟨rfl, rfl⟩ := trodVars_none hV
  clear hA0 hval0
  simp only [List.append_nil] at hW'
  have hlt : ∀ x ∈ p0, x.block < W.heap.size := fun x hx => by simpa using hW'.lt x (by simpa using hx)
  obtain ⟨x0, rfl, b0⟩ := open_exec (hval 0 26 v0 rfl rfl) h0
  refine (walk W x0 b0).mono fun e W' ⟨he, hb⟩ => ?_
  subst he
  have harg0 : DataW.Trod enc Try.prog W' 0 (fun b => decide (b < W.heap.size)) true 26 _ _ _ := Below.trod laidOut (by kernel_rfl) (of_decide_eq_true (by kernel_rfl)) h0 hb (fun x hx => hlt x (by simp [hx]))
  exact ⟨_, rfl, _, _, _, [], _, [], hW', trodAll_mk1 (shut_bool Try.underlying4 _), (trodAll_cons_mk harg0 trodAll_mk0), rfl, hb.frame _, fun h => by cases h⟩

theorem over : Rows.eventsPairsRow.holds Try.pinned (OpenSpec.ofChange Rows.eventsPairsSpec) :=
  OpenClaim.holds_of_wide 4 Try.f4 rfl rfl rfl rfl rfl rfl rfl ⟨rfl, rfl, rfl, rfl, rfl⟩ rfl rfl rfl rfl rfl (by kernel_rfl) Try.func4 (by kernel_rfl)
    (of_decide_eq_true (by kernel_rfl)) (by unfold Func.isWrapper; first | (rw [if_pos (by decide +kernel)]; kernel_rfl) | (rw [if_neg (by decide +kernel)]; exact ⟨rfl, rfl⟩))
    (fun os started H enc _ => lifted os started H enc)

/-- THE STATEMENT -/
theorem proved : Rows.EventsPairsSaid :=
  over
end Go.Proofs.Ytnlfdepeimjliaa.eventsPairs
