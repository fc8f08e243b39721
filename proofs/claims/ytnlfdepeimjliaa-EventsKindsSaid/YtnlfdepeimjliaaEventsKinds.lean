/-
  EventsKinds: for every input the statement's function returns true, with no condition; each argument reads behind the call as before. By contracts of the program's and the document's functions.
-/
import Derived.Test.YtnlfdepeimjliaaEvLawK
namespace Go.Proofs.Ytnlfdepeimjliaa.eventsKinds
open Go.ChangeShapes Go.WideShapes Go.ChangeAt Go.RowKit
set_option linter.unusedVariables false
set_option linter.unusedSimpArgs false

theorem wide_is (x : Ev.X) (w : World) (hin : Ev.XIn w x) : Calls Try.prog 10 #[.agg (Ev.xcells x).toArray] w (Ev.CPost (fun b => b = false → x.ev.length ≤ 70 ∧ x.fr.l.length ≤ 200 ∧ x.od.length ≤ 200) w) := wide_any x w hin
theorem same2_is {x y : Ev.X} {v : Bool} (h : Ev.same x y = v) (w : World) (hx : Ev.XIn w x) (hy : Ev.XIn w y) : Calls Try.prog 24 #[.agg (Ev.xcells x).toArray, .agg (Ev.xcells y).toArray] w fun e w' => e = .returned (.bool v) ∧ Below w.heap.size w w' := h ▸ same2_any x y w hx hy
theorem rsame_is {x y : Ev.X} {v : Bool} (h : Ev.same x y = v) (w : World) (hx : Ev.XIn w x) (hy : Ev.XIn w y) : Calls Try.prog 25 #[.agg (Ev.xcells x).toArray, .agg (Ev.xcells y).toArray] w fun e w' => e = .returned (.bool v) ∧ Below w.heap.size w w' := h ▸ rsame_any x y w hx hy
theorem same_refl (x : Ev.X) : Ev.same x x = true := by
  unfold Ev.same Ev.sameEvs Ev.sameOd
  rw [Ev.all_yes (f := fun k : Nat => Ev.sameR (Ev.nth x.ev k) (Ev.nth x.ev k)) (fun k _ => by unfold Ev.sameR; simp), Ev.all_yes (f := fun k => decide (Ev.rowAt x.od k = Ev.rowAt x.od k)) (fun k _ => by simp)]
  simp
theorem pstores_is {x : Ev.R} {b : Bool} (h : Ev.stores x.k = b) (w : World) : Calls Try.prog 20 #[.agg (Ev.cells x).toArray] w fun e w' => e = .returned (.bool b) ∧ Below w.heap.size w w' := h ▸ stores_any x w
theorem ploads_is {x : Ev.R} {b : Bool} (h : Ev.loads x.k = b) (w : World) : Calls Try.prog 22 #[.agg (Ev.cells x).toArray] w fun e w' => e = .returned (.bool b) ∧ Below w.heap.size w w' := h ▸ loads_any x w
/-! THE WALK: the Go text returns true; of memory nothing that stood there has turned. -/
set_option maxRecDepth 100000 in
set_option maxHeartbeats 8000000 in
theorem walk (w : World) (x0 : Ev.X) (b0 : Ev.XIn w x0) (x1 : Ev.X) (b1 : Ev.XIn w x1) :
    Calls Try.prog 6 #[Ev.exV x0, Ev.exV x1] w fun e w' => e = .returned (.bool true) ∧ Below w.heap.size w w' := by
  have HX0 := Lib.hid b0; have HY0 := Lib.hid b1
  obtain ⟨B, hB⟩ : ∃ B, B = (w.alloc (.cells (Ev.xcells x0).toArray 26)).alloc (.cells (Ev.xcells x1).toArray 26) := ⟨_, rfl⟩
  have HB := Lib.hid hB
  have B0 := Lib.hid (show Below w.heap.size w B by rw [hB]; exact (Ev.two_box x0 x1).1)
  have RX := Lib.hid (show B.heap[w.heap.size]? = some (.cells (Ev.xcells x0).toArray 26 (0, 0)) by rw [hB]; exact (Ev.two_box x0 x1).2.1)
  have RY := Lib.hid (show B.heap[w.heap.size + 1]? = some (.cells (Ev.xcells x1).toArray 26 (0, 0)) by rw [hB]; exact (Ev.two_box x0 x1).2.2)
  have HX := Lib.hid (show Ev.XIn B x0 from b0.kp (Ev.kp_below B0.out)); have HY := Lib.hid (show Ev.XIn B x1 from b1.kp (Ev.kp_below B0.out))
  have CX := Lib.hid (show ∀ W, Below B.heap.size B W → W.cell? ⟨w.heap.size, 0, none⟩ = some (.slice x0.ae x0.ev.length x0.ce) ∧ W.cell? ⟨w.heap.size, 1, none⟩ = some (.slice x0.fr.a x0.fr.l.length x0.fr.c) ∧ W.cell? ⟨w.heap.size, 2, none⟩ = some (.slice x0.ao x0.od.length x0.co) from fun W h => by
    have r := (h.block w.heap.size (Array.getElem?_eq_some_iff.1 RX.out).1).trans RX.out
    exact ⟨Ev.xcell0 r, Ev.xcell1 r, Ev.xcell2 r⟩)
  have CY := Lib.hid (show ∀ W, Below B.heap.size B W → W.cell? ⟨w.heap.size + 1, 0, none⟩ = some (.slice x1.ae x1.ev.length x1.ce) ∧ W.cell? ⟨w.heap.size + 1, 1, none⟩ = some (.slice x1.fr.a x1.fr.l.length x1.fr.c) ∧ W.cell? ⟨w.heap.size + 1, 2, none⟩ = some (.slice x1.ao x1.od.length x1.co) from fun W h => by
    have r := (h.block (w.heap.size + 1) (Array.getElem?_eq_some_iff.1 RY.out).1).trans RY.out
    exact ⟨Ev.xcell0 r, Ev.xcell1 r, Ev.xcell2 r⟩)
  clear b0 b1 hB
  obtain ⟨bx0, bx1, bx2⟩ := CX.out B (Below.refl _ _)
  have xl1 := HX0.out.ev.le; have xl2 := HX0.out.ev.max
  unfold Ev.exV
  go_enter Try.func6, Try.ntmps6
  go_wp2_with (first | ((with_reducible show wpList _ _ _ (Oper.mk (some 6) _ _ _ _ _ :: _) _ _); rw [show (w.alloc (Obj.cells (Ev.xcells x0).toArray 26)).alloc (Obj.cells (Ev.xcells x1).toArray 26) = B from HB.out.symm]; refine wpList_load_row rfl 26 (.tmp 2) rfl w.heap.size (by kernel_rfl) 26 (Ev.xcells x0).toArray (0, 0) _ RX.out Try.underlying26 rfl (by kernel_rfl) ?_))
  refine (wide_is x0 _ HX.out).mono ?_
  rintro e W1 ⟨v1, rfl, hw, hb⟩
  have B1 := Lib.hid hb
  have RY1 := Lib.hid ((hb.block (w.heap.size + 1) (Array.getElem?_eq_some_iff.1 RY.out).1).trans RY.out)
  clear hb hw bx0 bx1 bx2
  cases v1
  case true =>
    have BT := Lib.hid (B0.out.trans (B1.out.mono B0.out.size))
    go_wp2_with fail
    refine (known_any _).mono ?_
    rintro e W9 ⟨rfl, hb⟩
    have HEND := Lib.hid ((BT.out).trans (hb.mono (BT.out).size)); clear hb
    go_wp2_with fail
    go_ret
    exact ⟨rfl, HEND.out⟩
  go_wp2_with ((with_reducible show wpList _ _ _ (Oper.mk (some 9) _ _ _ _ _ :: _) _ _); refine Ev.load_row_g 26 (.tmp 3) rfl rfl (w.heap.size + 1) (by kernel_rfl) 26 (Ev.xcells x1).toArray (0, 0) _ RY1.out Try.underlying26 rfl (by kernel_rfl) ?_)
  refine (wide_is x1 _ (HY.out.kp (Ev.kp_below B1.out))).mono ?_
  rintro e W2 ⟨v2, rfl, hw, hb⟩
  have B2 := Lib.hid (B1.out.trans (hb.mono B1.out.size))
  clear hb hw
  cases v2
  case true =>
    have BT := Lib.hid (B0.out.trans (B2.out.mono B0.out.size))
    go_wp2_with fail
    refine (known_any _).mono ?_
    rintro e W9 ⟨rfl, hb⟩
    have HEND := Lib.hid ((BT.out).trans (hb.mono (BT.out).size)); clear hb
    go_wp2_with fail
    go_ret
    exact ⟨rfl, HEND.out⟩
  go_wp2
  go_loopw [5] (fun i wr => ∃ k : Nat, k ≤ x0.ev.length ∧ i = .int .i64 (k : Int) ∧ Below B.heap.size B wr) (fun i _ => x0.ev.length - (intOf i).toNat)
  case atStart => exact ⟨0, Nat.zero_le _, rfl, B2.out⟩
  case round =>
    obtain ⟨k, hk, rfl, hbr⟩ := hrel
    have HBR := Lib.hid hbr; clear hbr
    by_cases hlt : k < x0.ev.length
    · obtain ⟨ex, hex⟩ : ∃ e, x0.ev[k]? = some e := ⟨_, List.getElem?_eq_getElem hlt⟩
      obtain ⟨g, o, ea, hcx⟩ := (HX.out.ev.kp (Ev.kp_below HBR.out)).at_ hex
      have hki : (k : Int) < (x0.ev.length : Int) := by omega
      obtain ⟨s, hs⟩ : ∃ s, Ev.stores ex.k = s := ⟨_, rfl⟩
      obtain ⟨l, hl⟩ : ∃ l, Ev.loads ex.k = l := ⟨_, rfl⟩
      have HS := Lib.hid hs; have HL := Lib.hid hl
      have ts : (s != s) = false := by simp
      have tl : (l != l) = false := by simp
      have c0 := (CX.out wr HBR.out).1
      rw [ea] at c0
      have c1 : ∀ z : Og.On wr.heap.size wr, z.x.cell? ⟨w.heap.size, 0, none⟩ = some (.slice (some ⟨g, o, none⟩) x0.ev.length x0.ce) := fun z => Og.cellB z c0
      have LX := Lib.hid (fun z : Og.On wr.heap.size wr => Ev.ld (w := z.x) (g := g) (o := o + k * 13) (x := ex) (fun i c hi => Og.cellB z (hcx i c hi)))
      clear hex ea hcx hs hl
      go_wp2
      refine Og.regionB (by kernel_rfl) (by kernel_rfl) ?_
      repeat (first
        | go_big_quiet_skip
        | (go_big_quiet_want
           first
            | ((with_reducible show Oper.quiet _ (Oper.mk (some 24) _ _ _ _ _) _ _ _); refine Og.quiet_load 44 (.tmp 23) rfl (.agg (Ev.cells ex).toArray) ⟨g, o + k * 13, none⟩ _ rfl (by rintro _ ⟨z, rfl⟩; exact LX.out z) (by simp only [Act.put, List.setIfInBounds_toArray, List.set_cons_zero, List.set_cons_succ]; rfl) ?_
               go_big_quiet_on)
            | ((with_reducible show Oper.quiet _ (Oper.mk (some 30) _ _ _ _ _) _ _ _); refine Og.quiet_load 44 (.tmp 29) rfl (.agg (Ev.cells ex).toArray) ⟨g, o + k * 13, none⟩ _ rfl (by rintro _ ⟨z, rfl⟩; exact LX.out z) (by simp only [Act.put, List.setIfInBounds_toArray, List.set_cons_zero, List.set_cons_succ]; rfl) ?_
               go_big_quiet_on)
            | ((with_reducible show Oper.quiet _ (Oper.mk (some 38) _ _ _ _ _) _ _ _); refine Og.quiet_load 44 (.tmp 37) rfl (.agg (Ev.cells ex).toArray) ⟨g, o + k * 13, none⟩ _ rfl (by rintro _ ⟨z, rfl⟩; exact LX.out z) (by simp only [Act.put, List.setIfInBounds_toArray, List.set_cons_zero, List.set_cons_succ]; rfl) ?_
               go_big_quiet_on)
            | ((with_reducible show Oper.quiet _ (Oper.mk (some 44) _ _ _ _ _) _ _ _); refine Og.quiet_load 44 (.tmp 43) rfl (.agg (Ev.cells ex).toArray) ⟨g, o + k * 13, none⟩ _ rfl (by rintro _ ⟨z, rfl⟩; exact LX.out z) (by simp only [Act.put, List.setIfInBounds_toArray, List.set_cons_zero, List.set_cons_succ]; rfl) ?_
               go_big_quiet_on)
            | (go_big_quiet_op
               first
                | go_big_quiet_on
                | (apply Exists.intro
                   refine ⟨fun z => ?_, ?_⟩
                   · first
                      | (with_reducible exact Og.callB (pstores_is HS.out _))
                      | (with_reducible exact Og.callB (rstores_is HS.out _))
                      | (with_reducible exact Og.callB (ploads_is HL.out _))
                      | (with_reducible exact Og.callB (rloads_is HL.out _))
                   go_big_quiet_on))))
      refine wpQuiet_nil ?_
      intro _ hw'
      obtain ⟨q9, hw''⟩ := hw'
      subst hw''
      have HEND := Lib.hid (HBR.out.trans (q9.b.mono HBR.out.size))
      go_wp2_with fail
      go_roundw
      case rel => exact ⟨k + 1, by omega, by go_num, HEND.out⟩
      case measure => simp [intOf]; omega
    · have hki : ¬ (k : Int) < (x0.ev.length : Int) := by omega
      have c0 := (CX.out wr HBR.out).1
      have RX3 := Lib.hid ((HBR.out.block w.heap.size (Array.getElem?_eq_some_iff.1 RX.out).1).trans RX.out)
      have RY3 := Lib.hid ((HBR.out.block (w.heap.size + 1) (Array.getElem?_eq_some_iff.1 RY.out).1).trans RY.out)
      have LX := Lib.hid (fun z : Og.On wr.heap.size wr => Og.rowB (P := Try.prog) z 26 _ RX3.out Try.underlying26 rfl (by kernel_rfl))
      have LY := Lib.hid (fun z : Og.On wr.heap.size wr => Og.rowB (P := Try.prog) z 26 _ RY3.out Try.underlying26 rfl (by kernel_rfl))
      obtain ⟨v, hv⟩ : ∃ v, Ev.same x0 x1 = v := ⟨_, rfl⟩
      have HV := Lib.hid hv
      have tv : (v == v) = true := by simp
      have HREF := Lib.hid (same_refl x0)
      clear hv
      go_wp2
      refine Og.regionB (by kernel_rfl) (by kernel_rfl) ?_
      repeat (first
        | go_big_quiet_skip
        | (go_big_quiet_want
           first
            | ((with_reducible show Oper.quiet _ (Oper.mk (some 48) _ _ _ _ _) _ _ _); refine Og.quiet_load 26 (.tmp 2) rfl (.agg (Ev.xcells x0).toArray) ⟨w.heap.size, 0, none⟩ _ rfl (by rintro _ ⟨z, rfl⟩; exact LX.out z) (by simp only [Act.put, List.setIfInBounds_toArray, List.set_cons_zero, List.set_cons_succ]; rfl) ?_
               go_big_quiet_on)
            | ((with_reducible show Oper.quiet _ (Oper.mk (some 51) _ _ _ _ _) _ _ _); refine Og.quiet_load 26 (.tmp 2) rfl (.agg (Ev.xcells x0).toArray) ⟨w.heap.size, 0, none⟩ _ rfl (by rintro _ ⟨z, rfl⟩; exact LX.out z) (by simp only [Act.put, List.setIfInBounds_toArray, List.set_cons_zero, List.set_cons_succ]; rfl) ?_
               go_big_quiet_on)
            | ((with_reducible show Oper.quiet _ (Oper.mk (some 56) _ _ _ _ _) _ _ _); refine Og.quiet_load 26 (.tmp 2) rfl (.agg (Ev.xcells x0).toArray) ⟨w.heap.size, 0, none⟩ _ rfl (by rintro _ ⟨z, rfl⟩; exact LX.out z) (by simp only [Act.put, List.setIfInBounds_toArray, List.set_cons_zero, List.set_cons_succ]; rfl) ?_
               go_big_quiet_on)
            | ((with_reducible show Oper.quiet _ (Oper.mk (some 57) _ _ _ _ _) _ _ _); refine Og.quiet_load 26 (.tmp 2) rfl (.agg (Ev.xcells x0).toArray) ⟨w.heap.size, 0, none⟩ _ rfl (by rintro _ ⟨z, rfl⟩; exact LX.out z) (by simp only [Act.put, List.setIfInBounds_toArray, List.set_cons_zero, List.set_cons_succ]; rfl) ?_
               go_big_quiet_on)
            | ((with_reducible show Oper.quiet _ (Oper.mk (some 49) _ _ _ _ _) _ _ _); refine Og.quiet_load 26 (.tmp 3) rfl (.agg (Ev.xcells x1).toArray) ⟨w.heap.size + 1, 0, none⟩ _ rfl (by rintro _ ⟨z, rfl⟩; exact LY.out z) (by simp only [Act.put, List.setIfInBounds_toArray, List.set_cons_zero, List.set_cons_succ]; rfl) ?_
               go_big_quiet_on)
            | ((with_reducible show Oper.quiet _ (Oper.mk (some 52) _ _ _ _ _) _ _ _); refine Og.quiet_load 26 (.tmp 3) rfl (.agg (Ev.xcells x1).toArray) ⟨w.heap.size + 1, 0, none⟩ _ rfl (by rintro _ ⟨z, rfl⟩; exact LY.out z) (by simp only [Act.put, List.setIfInBounds_toArray, List.set_cons_zero, List.set_cons_succ]; rfl) ?_
               go_big_quiet_on)
            | (go_big_quiet_op
               first
                | go_big_quiet_on
                | (apply Exists.intro
                   refine ⟨fun z => ?_, ?_⟩
                   · first
                      | (with_reducible exact Og.callB (same2_is HREF.out _ (HX.out.kp (Ev.kp_below (HBR.out.trans (z.b.mono HBR.out.size))))  (HX.out.kp (Ev.kp_below (HBR.out.trans (z.b.mono HBR.out.size)))) ))
                      | (with_reducible exact Og.callB (same2_is HV.out _ (HX.out.kp (Ev.kp_below (HBR.out.trans (z.b.mono HBR.out.size))))  (HY.out.kp (Ev.kp_below (HBR.out.trans (z.b.mono HBR.out.size))))))
                      | (with_reducible exact Og.callB (rsame_is HV.out _ (HX.out.kp (Ev.kp_below (HBR.out.trans (z.b.mono HBR.out.size))))  (HY.out.kp (Ev.kp_below (HBR.out.trans (z.b.mono HBR.out.size))))))
                      | (with_reducible exact Og.callB (known_any _))
                   go_big_quiet_on))))
      refine wpQuiet_nil ?_
      intro _ hw'
      obtain ⟨q9, hw''⟩ := hw'
      subst hw''
      have HEND := Lib.hid (B0.out.trans ((HBR.out.trans (q9.b.mono HBR.out.size)).mono B0.out.size))
      go_wp2_with fail
      go_ret
      exact ⟨rfl, HEND.out⟩

/-! THE ROW -/
set_option maxRecDepth 100000 in
theorem lifted (os : Os) (started : os.Started) (H : Type) (enc : TypeId × Value → H) :
    ReturnsInHanded {} Try.checked os 6 .any (Rows.eventsKindsSpec.pre6 enc Try.prog Try.f6 Rows.eventsKindsRow.domain false) (Rows.eventsKindsSpec.post enc Try.prog Try.f6 false true false false) := by
  refine returnsInHanded_of_change (C := Try.checked) own started (by kernel_rfl) Try.func6
    (ChangeSpec.witness6 (enc := enc) (C := Try.checked) false ⟨#[], #[.agg #[.slice none 0 0, .slice none 0 0, .slice none 0 0], .agg #[.slice none 0 0, .slice none 0 0, .slice none 0 0]], []⟩ 8 (by kernel_rfl) (by kernel_rfl) (by kernel_rfl) (by kernel_rfl)) ?_
  intro W base args ds gs before hval0 hW hcnd _
  have hval : ∀ (j : Nat) t v, Try.f6.params[j]? = some t → args[j]? = some v → Value.okWide Try.prog W .any base t v := hval0
  have hW' := hW
  obtain ⟨p, q, hA0, hV, rfl, hfz, hnd⟩ := hW
  have hA : DataW.TrodAll enc Try.prog W 0 (fun _ => true) true Try.f6.params.toList args.toList ds p := hA0
  rw [Try.params6] at hA hval
  obtain ⟨v0, vs0, d0, ds0, p0, q0, hargs, rfl, rfl, h0, r0⟩ := trodAll_cons hA
  obtain ⟨v1, vs1, d1, ds1, p1, q1, rfl, rfl, rfl, h1, r1⟩ := trodAll_cons r0
  obtain ⟨rfl, rfl, rfl⟩ := trodAll_nil r1
  obtain rfl : args = #[v0, v1] := by cases args; simp_all
  obtain ⟨rfl, rfl⟩ := trodVars_none hV
  clear hA0 hval0
  simp only [List.append_nil] at hW'
  have hlt : ∀ x ∈ p0 ++ (p1), x.block < W.heap.size := fun x hx => by simpa using hW'.lt x (by simpa using hx)
  obtain ⟨x0, rfl, b0⟩ := open_exec (hval 0 26 v0 rfl rfl) h0
  obtain ⟨x1, rfl, b1⟩ := open_exec (hval 1 26 v1 rfl rfl) h1
  refine (walk W x0 b0 x1 b1).mono fun e W' ⟨he, hb⟩ => ?_
  subst he
  have harg0 : DataW.Trod enc Try.prog W' 0 (fun b => decide (b < W.heap.size)) true 26 _ _ _ := Below.trod laidOut (by kernel_rfl) (of_decide_eq_true (by kernel_rfl)) h0 hb (fun x hx => hlt x (by simp [hx]))
  have harg1 : DataW.Trod enc Try.prog W' 0 (fun b => decide (b < W.heap.size)) true 26 _ _ _ := Below.trod laidOut (by kernel_rfl) (of_decide_eq_true (by kernel_rfl)) h1 hb (fun x hx => hlt x (by simp [hx]))
  exact ⟨_, rfl, _, _, _, [], _, [], hW', trodAll_mk1 (shut_bool Try.underlying4 _), (trodAll_cons_mk harg0 (trodAll_cons_mk harg1 trodAll_mk0)), rfl, hb.frame _, fun h => by cases h⟩

theorem over : Rows.eventsKindsRow.holds Try.pinned (OpenSpec.ofChange Rows.eventsKindsSpec) :=
  OpenClaim.holds_of_wide 6 Try.f6 rfl rfl rfl rfl rfl rfl rfl ⟨rfl, rfl, rfl, rfl, rfl⟩ rfl rfl rfl rfl rfl (by kernel_rfl) Try.func6 (by kernel_rfl)
    (of_decide_eq_true (by kernel_rfl)) (by unfold Func.isWrapper; first | (rw [if_pos (by decide +kernel)]; kernel_rfl) | (rw [if_neg (by decide +kernel)]; exact ⟨rfl, rfl⟩))
    (fun os started H enc _ => lifted os started H enc)

/-- THE STATEMENT -/
theorem proved : Rows.EventsKindsSaid :=
  over
end Go.Proofs.Ytnlfdepeimjliaa.eventsKinds
