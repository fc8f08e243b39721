/-
  OrderPaired: for every input the statement's function returns true, with no condition; each argument reads behind the call as before. By contracts of the program's and the document's functions.
-/
import Derived.Test.YtoicmhidmknfiaaOrLaw
namespace Go.Proofs.Ytoicmhidmknfiaa.orderPaired
open Go.ChangeShapes Go.WideShapes Go.ChangeAt Go.RowKit
set_option linter.unusedVariables false
set_option linter.unusedSimpArgs false

/-! THE WALK: the Go text returns true; of memory nothing that stood there has turned. -/
set_option maxRecDepth 100000 in
set_option maxHeartbeats 8000000 in
theorem walk (w : World) (x0 : Ev.X) (b0 : Ev.XIn w x0) (a1 : Int) (w1 : (Lit.int .i64 a1).wf = true) :
    Calls Try.prog 7 #[Ev.exV x0, .int .i64 a1] w fun e w' => e = .returned (.bool true) ∧ Below w.heap.size w w' := by
  have HIN := Lib.hid b0
  have R0 := Lib.hid (heap_alloc_new w (.cells (Ev.xcells x0).toArray 26))
  obtain ⟨B, hB⟩ : ∃ B, B = w.alloc (.cells (Ev.xcells x0).toArray 26) := ⟨_, rfl⟩
  have HB := Lib.hid hB
  have R0 := Lib.hid (show B.heap[w.heap.size]? = some (.cells (Ev.xcells x0).toArray 26 (0, 0)) by rw [hB]; exact R0.out)
  have B0 := Lib.hid (show Below w.heap.size w B by rw [hB]; exact (Below.refl w.heap.size w).alloc (Nat.le_refl _) _)
  clear hB b0
  unfold Ev.exV
  go_enter Try.func7, Try.ntmps7
  go_wp2_with (first
    | ((with_reducible show wpList _ _ _ (Oper.mk (some 8) _ _ _ _ _ :: _) _ _); (try rw [show w.alloc (Obj.cells (Ev.xcells x0).toArray 26) = B from HB.out.symm]); refine wpList_load_row rfl 26 (.tmp 2) rfl w.heap.size (by kernel_rfl) 26 (Ev.xcells x0).toArray (0, 0) _ R0.out Try.underlying26 rfl (by kernel_rfl) ?_))
  refine (wide7_any x0 _ (HIN.out.kp (Ev.kp_below B0.out))).mono ?_
  rintro e W1 ⟨b, rfl, hw, hb⟩
  have BB := Lib.hid hb
  have BW := Lib.hid (B0.out.trans (hb.mono B0.out.size))
  have R1 := Lib.hid ((hb.block w.heap.size (Array.getElem?_eq_some_iff.1 R0.out).1).trans R0.out)
  have cx := Ev.xcell0 R1.out
  clear hb hw
  cases b
  case true =>
    go_wp2_with fail
    refine (known7_any _).mono ?_
    rintro e W99 ⟨rfl, hb99⟩
    have HEND := Lib.hid (BW.out.trans (hb99.mono BW.out.size)); clear hb99
    go_wp2_with fail
    go_ret
    exact ⟨rfl, HEND.out⟩
  by_cases hl : 20 < x0.ev.length
  case pos =>
    have hlen : (20 : Int) < (x0.ev.length : Int) := by omega
    go_wp2_with fail
    refine (known7_any _).mono ?_
    rintro e W99 ⟨rfl, hb99⟩
    have HEND := Lib.hid (BW.out.trans (hb99.mono BW.out.size)); clear hb99
    go_wp2_with fail
    go_ret
    exact ⟨rfl, HEND.out⟩
  have hlen : ¬ (20 : Int) < (x0.ev.length : Int) := by omega
  have LXH := Lib.hid (fun (W : World) (h : Below W1.heap.size W1 W) => (h.block w.heap.size (Array.getElem?_eq_some_iff.1 R1.out).1).trans R1.out)
  have h1b : Ev.i64B a1 := i64_of_wf w1
  go_wp2_with ((with_reducible show wpList _ _ _ (Oper.mk (some 18) _ _ _ _ _ :: _) _ _); refine wpList_load_row rfl 26 (.tmp 2) rfl w.heap.size (by kernel_rfl) 26 (Ev.xcells x0).toArray (0, 0) _ R1.out Try.underlying26 rfl (by kernel_rfl) ?_)
  refine (opaired_any x0 a1 h1b _ (HIN.out.kp (Ev.kp_below BW.out))).mono ?_
  rintro e W2 ⟨hb2, hr⟩
  have B2 := Lib.hid (BW.out.trans (hb2.mono BW.out.size))
  have R2 := Lib.hid (LXH.out _ hb2)
  clear hb2 cx
  obtain ⟨v, hv⟩ : ∃ v, Ev.check x0 = v := ⟨_, rfl⟩
  have HV := Lib.hid hv
  by_cases h0 : v = 0 ∧ Or.inR x0 a1
  case neg =>
    obtain rfl : e = .returned (.tuple #[.int .i64 0, .bool false]) := by
      rcases hr with ⟨_, hr⟩ | ⟨hc, hi, _⟩
      · exact hr
      · exact absurd ⟨hv ▸ hc, hi⟩ h0
    have H0 := Lib.hid h0
    clear hr h0 hv
    go_wp2_with ((with_reducible show wpList _ _ _ (Oper.mk (some 23) _ _ _ _ _ :: _) _ _); refine wpList_load_row rfl 26 (.tmp 2) rfl w.heap.size (by kernel_rfl) 26 (Ev.xcells x0).toArray (0, 0) _ R2.out Try.underlying26 rfl (by kernel_rfl) ?_)
    refine (rcheck_is HV.out _ (HIN.out.kp (Ev.kp_below B2.out))).mono ?_
    rintro e W3 ⟨rfl, hb3⟩
    have B3 := Lib.hid (B2.out.trans (hb3.mono B2.out.size))
    have cx := Ev.xcell0 ((hb3.block w.heap.size (Array.getElem?_eq_some_iff.1 R2.out).1).trans R2.out)
    clear hb3
    by_cases hz : v = 0
    case neg =>
      have t0 : (v != 0) = true := by simpa using hz
      clear hz
      go_wp2_with fail
      refine (known7_any _).mono ?_
      rintro e W99 ⟨rfl, hb99⟩
      have HEND := Lib.hid (B3.out.trans (hb99.mono B3.out.size)); clear hb99
      go_wp2_with fail
      go_ret
      exact ⟨rfl, HEND.out⟩
    subst hz
    have t00 : ((0 : Int) != 0) = false := by decide
    by_cases h1 : a1 < 0
    case pos =>
      have t1 : decide (a1 < 0) = true := decide_eq_true h1
      clear h1
      go_wp2_with fail
      refine (known7_any _).mono ?_
      rintro e W99 ⟨rfl, hb99⟩
      have HEND := Lib.hid (B3.out.trans (hb99.mono B3.out.size)); clear hb99
      go_wp2_with fail
      go_ret
      exact ⟨rfl, HEND.out⟩
    have t1 : decide (a1 < 0) = false := decide_eq_false h1
    have h2 : (x0.ev.length : Int) ≤ a1 := by
      apply Classical.byContradiction; intro h2
      exact H0.out ⟨rfl, by unfold Or.inR; omega⟩
    have t2 : decide ((x0.ev.length : Int) ≤ a1) = true := decide_eq_true h2
    go_wp2_with fail
    refine (known7_any _).mono ?_
    rintro e W99 ⟨rfl, hb99⟩
    have HEND := Lib.hid (B3.out.trans (hb99.mono B3.out.size)); clear hb99
    go_wp2_with fail
    go_ret
    exact ⟨rfl, HEND.out⟩
  obtain ⟨rfl, hi⟩ := h0
  obtain ⟨nb, hnb⟩ : ∃ nb : Nat, nb = a1.toNat := ⟨_, rfl⟩
  have NB := Lib.hid (show nb < x0.ev.length ∧ (nb : Int) = a1 ∧ a1.toNat = nb by have := Or.inR_nat hi; omega)
  have hr := (show e = .returned (.tuple (match Or.pairOf x0 nb with | none => #[.int .i64 0, .bool false] | some a => #[.int .i64 (a : Int), .bool true])) by
    rcases hr with ⟨h, _⟩ | ⟨_, _, h⟩
    · rcases h with h | h
      · exact absurd hv h
      · exact absurd hi h
    · rw [NB.out.2.2] at h; exact h)
  have h1 : ¬ a1 < 0 := by have := NB.out.2.1; omega
  have t1 : decide (a1 < 0) = false := decide_eq_false h1
  have h2 : ¬ (x0.ev.length : Int) ≤ a1 := by have := NB.out; omega
  have t2 : decide ((x0.ev.length : Int) ≤ a1) = false := decide_eq_false h2
  have PB := Lib.hid (Or.pairOf_eq hv NB.out.1)
  have t00 : ((0 : Int) != 0) = false := by decide
  clear hv hi hnb
  rcases PB.out with ⟨hp, ho⟩ | ⟨c, hp, ho⟩
  · rw [ho] at hr
    subst hr
    have HP := Lib.hid hp
    clear hp ho
    go_wp2_with ((with_reducible show wpList _ _ _ (Oper.mk (some 23) _ _ _ _ _ :: _) _ _); refine wpList_load_row rfl 26 (.tmp 2) rfl w.heap.size (by kernel_rfl) 26 (Ev.xcells x0).toArray (0, 0) _ R2.out Try.underlying26 rfl (by kernel_rfl) ?_)
    refine (rcheck_is HV.out _ (HIN.out.kp (Ev.kp_below B2.out))).mono ?_
    rintro e W3 ⟨rfl, hb3⟩
    have B3 := Lib.hid (B2.out.trans (hb3.mono B2.out.size))
    have R3 := Lib.hid ((hb3.block w.heap.size (Array.getElem?_eq_some_iff.1 R2.out).1).trans R2.out)
    have cx := Ev.xcell0 R3.out
    clear hb3
    go_wp2_with ((with_reducible show wpList _ _ _ (Oper.mk (some 46) _ _ _ _ _ :: _) _ _); refine wpList_load_row rfl 26 (.tmp 2) rfl w.heap.size (by kernel_rfl) 26 (Ev.xcells x0).toArray (0, 0) _ R3.out Try.underlying26 rfl (by kernel_rfl) ?_)
    have hpr := rpaired_is HP.out NB.out.1 W3 (HIN.out.kp (Ev.kp_below B3.out))
    rw [NB.out.2.1] at hpr
    refine hpr.mono ?_
    clear hpr cx
    rintro e W4 ⟨rfl, hb4⟩
    have B4 := Lib.hid (B3.out.trans (hb4.mono B3.out.size)); clear hb4
    have q1 : decide ((0 : Int) ≤ -1) = false := by decide
    go_wp2_with fail
    refine (known7_any _).mono ?_
    rintro e W99 ⟨rfl, hb99⟩
    have HEND := Lib.hid (B4.out.trans (hb99.mono B4.out.size)); clear hb99
    go_wp2_with fail
    go_ret
    exact ⟨rfl, HEND.out⟩
  · rw [ho] at hr
    subst hr
    have HP := Lib.hid hp
    clear hp ho
    go_wp2_with ((with_reducible show wpList _ _ _ (Oper.mk (some 23) _ _ _ _ _ :: _) _ _); refine wpList_load_row rfl 26 (.tmp 2) rfl w.heap.size (by kernel_rfl) 26 (Ev.xcells x0).toArray (0, 0) _ R2.out Try.underlying26 rfl (by kernel_rfl) ?_)
    refine (rcheck_is HV.out _ (HIN.out.kp (Ev.kp_below B2.out))).mono ?_
    rintro e W3 ⟨rfl, hb3⟩
    have B3 := Lib.hid (B2.out.trans (hb3.mono B2.out.size))
    have R3 := Lib.hid ((hb3.block w.heap.size (Array.getElem?_eq_some_iff.1 R2.out).1).trans R2.out)
    have cx := Ev.xcell0 R3.out
    clear hb3
    go_wp2_with ((with_reducible show wpList _ _ _ (Oper.mk (some 46) _ _ _ _ _ :: _) _ _); refine wpList_load_row rfl 26 (.tmp 2) rfl w.heap.size (by kernel_rfl) 26 (Ev.xcells x0).toArray (0, 0) _ R3.out Try.underlying26 rfl (by kernel_rfl) ?_)
    have hpr := rpaired_is HP.out NB.out.1 W3 (HIN.out.kp (Ev.kp_below B3.out))
    rw [NB.out.2.1] at hpr
    refine hpr.mono ?_
    clear hpr cx
    rintro e W4 ⟨rfl, hb4⟩
    have B4 := Lib.hid (B3.out.trans (hb4.mono B3.out.size)); clear hb4
    have q1 : decide ((0 : Int) ≤ (c : Int)) = true := decide_eq_true (by omega)
    have q2 : ¬ (c : Int) < 0 := by omega
    go_wp2_with fail
    refine (known7_any _).mono ?_
    rintro e W99 ⟨rfl, hb99⟩
    have HEND := Lib.hid (B4.out.trans (hb99.mono B4.out.size)); clear hb99
    go_wp2_with fail
    go_ret
    exact ⟨rfl, HEND.out⟩

/-! THE ROW -/
set_option maxRecDepth 100000 in
theorem lifted (os : Os) (started : os.Started) (H : Type) (enc : TypeId × Value → H) :
    ReturnsInHanded {} Try.checked os 7 .any (Rows.orderPairedSpec.pre6 enc Try.prog Try.f7 Rows.orderPairedRow.domain false) (Rows.orderPairedSpec.post enc Try.prog Try.f7 false true false false) := by
  refine returnsInHanded_of_change (C := Try.checked) own started (by kernel_rfl) Try.func7
    (ChangeSpec.witness6 (enc := enc) (C := Try.checked) false ⟨#[], #[.agg #[.slice none 0 0, .slice none 0 0, .slice none 0 0], .int .i64 0], []⟩ 8 (by kernel_rfl) (by kernel_rfl) (by kernel_rfl) (by kernel_rfl)) ?_
  intro W base args ds gs before hval0 hW hcnd _
  have hval : ∀ (j : Nat) t v, Try.f7.params[j]? = some t → args[j]? = some v → Value.okWide Try.prog W .any base t v := hval0
  have hW' := hW
  obtain ⟨p, q, hA0, hV, rfl, hfz, hnd⟩ := hW
  have hA : DataW.TrodAll enc Try.prog W 0 (fun _ => true) true Try.f7.params.toList args.toList ds p := hA0
  rw [Try.params7] at hA hval
  obtain ⟨v0, vs0, d0, ds0, p0, q0, hargs, rfl, rfl, h0, r0⟩ := trodAll_cons hA
  obtain ⟨v1, vs1, d1, ds1, p1, q1, rfl, rfl, rfl, h1, r1⟩ := trodAll_cons r0
  obtain ⟨rfl, rfl, rfl⟩ := trodAll_nil r1
  obtain rfl : args = #[v0, v1] := by cases args; simp_all
  obtain ⟨rfl, rfl⟩ := trodVars_none hV
  clear hA0 hval0
  simp only [List.append_nil] at hW'
  have hlt : ∀ x ∈ p0 ++ (p1), x.block < W.heap.size := fun x hx => by simpa using hW'.lt x (by simpa using hx)
  obtain ⟨x0, rfl, b0⟩ := open_exec (hval 0 26 v0 rfl rfl) h0
  have h1k := h1
  obtain ⟨a1, rfl, rfl, rfl, w1⟩ := open_int Try.underlying3 (hval 1 3 v1 rfl rfl) h1
  refine (walk W x0 b0 a1 w1).mono fun e W' ⟨he, hb⟩ => ?_
  subst he
  have harg0 : DataW.Trod enc Try.prog W' 0 (fun b => decide (b < W.heap.size)) true 26 _ _ _ := Below.trod laidOut (by kernel_rfl) (of_decide_eq_true (by kernel_rfl)) h0 hb (fun x hx => hlt x (by simp [hx]))
  have harg1 : DataW.Trod enc Try.prog W' 0 (fun b => decide (b < W.heap.size)) true 3 _ _ _ := Below.trod laidOut (by kernel_rfl) (of_decide_eq_true (by kernel_rfl)) h1k hb (fun x hx => by cases hx)
  exact ⟨_, rfl, _, _, _, [], _, [], hW', trodAll_mk1 (shut_bool Try.underlying4 _), (trodAll_cons_mk harg0 (trodAll_cons_mk harg1 trodAll_mk0)), rfl, hb.frame _, fun h => by cases h⟩

theorem over : Rows.orderPairedRow.holds Try.pinned (OpenSpec.ofChange Rows.orderPairedSpec) :=
  OpenClaim.holds_of_wide 7 Try.f7 rfl rfl rfl rfl rfl rfl rfl ⟨rfl, rfl, rfl, rfl, rfl⟩ rfl rfl rfl rfl rfl (by kernel_rfl) Try.func7 (by kernel_rfl)
    (of_decide_eq_true (by kernel_rfl)) (by unfold Func.isWrapper; first | (rw [if_pos (by decide +kernel)]; kernel_rfl) | (rw [if_neg (by decide +kernel)]; exact ⟨rfl, rfl⟩))
    (fun os started H enc _ => lifted os started H enc)

/-- THE STATEMENT -/
theorem proved : Rows.OrderPairedSaid :=
  over
end Go.Proofs.Ytoicmhidmknfiaa.orderPaired
