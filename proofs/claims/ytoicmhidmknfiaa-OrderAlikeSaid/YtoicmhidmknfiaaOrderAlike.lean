/-
  OrderAlike: for every input the statement's function returns true, with no condition; each argument reads behind the call as before. By contracts of the program's and the document's functions.
-/
import Derived.Test.YtoicmhidmknfiaaOrLaw
namespace Go.Proofs.Ytoicmhidmknfiaa.orderAlike
open Go.ChangeShapes Go.WideShapes Go.ChangeAt Go.RowKit
set_option linter.unusedVariables false
set_option linter.unusedSimpArgs false

/-! THE WALK: the Go text returns true; of memory nothing that stood there has turned. -/
set_option maxRecDepth 100000 in
set_option maxHeartbeats 20000000 in
theorem walk (w : World) (x0 : Ev.X) (b0 : Ev.XIn w x0) :
    Calls Try.prog 10 #[Ev.exV x0] w fun e w' => e = .returned (.bool true) ∧ Below w.heap.size w w' := by
  have HIN := Lib.hid b0
  have R0 := Lib.hid (heap_alloc_new w (.cells (Ev.xcells x0).toArray 26))
  obtain ⟨B, hB⟩ : ∃ B, B = w.alloc (.cells (Ev.xcells x0).toArray 26) := ⟨_, rfl⟩
  have HB := Lib.hid hB
  have R0 := Lib.hid (show B.heap[w.heap.size]? = some (.cells (Ev.xcells x0).toArray 26 (0, 0)) by rw [hB]; exact R0.out)
  have B0 := Lib.hid (show Below w.heap.size w B by rw [hB]; exact (Below.refl w.heap.size w).alloc (Nat.le_refl _) _)
  clear hB b0
  unfold Ev.exV
  go_enter Try.func10, Try.ntmps10
  go_wp2_with (first
    | ((with_reducible show wpList _ _ _ (Oper.mk (some 8) _ _ _ _ _ :: _) _ _); (try rw [show w.alloc (Obj.cells (Ev.xcells x0).toArray 26) = B from HB.out.symm]); refine wpList_load_row rfl 26 (.tmp 1) rfl w.heap.size (by kernel_rfl) 26 (Ev.xcells x0).toArray (0, 0) _ R0.out Try.underlying26 rfl (by kernel_rfl) ?_))
  refine (wide7_any x0 _ (HIN.out.kp (Ev.kp_below B0.out))).mono ?_
  rintro e W1 ⟨b, rfl, hw, hb⟩
  have BB := Lib.hid hb
  have BW := Lib.hid (B0.out.trans (hb.mono B0.out.size))
  have R1 := Lib.hid ((hb.block w.heap.size (Array.getElem?_eq_some_iff.1 R0.out).1).trans R0.out)
  have cx := Ev.xcell0 R1.out
  clear hb hw
  cases b
  case true =>
    go_wp2_with fail
    refine (known7_any _).mono ?_
    rintro e W99 ⟨rfl, hb99⟩
    have HEND := Lib.hid (BW.out.trans (hb99.mono BW.out.size)); clear hb99
    go_wp2_with fail
    go_ret
    exact ⟨rfl, HEND.out⟩
  by_cases hl : 14 < x0.ev.length
  case pos =>
    have hlen : (14 : Int) < (x0.ev.length : Int) := by omega
    go_wp2_with fail
    refine (known7_any _).mono ?_
    rintro e W99 ⟨rfl, hb99⟩
    have HEND := Lib.hid (BW.out.trans (hb99.mono BW.out.size)); clear hb99
    go_wp2_with fail
    go_ret
    exact ⟨rfl, HEND.out⟩
  have hlen : ¬ (14 : Int) < (x0.ev.length : Int) := by omega
  have LXH := Lib.hid (fun (W : World) (h : Below W1.heap.size W1 W) => (h.block w.heap.size (Array.getElem?_eq_some_iff.1 R1.out).1).trans R1.out)
  obtain ⟨v, hv⟩ : ∃ v, Ev.check x0 = v := ⟨_, rfl⟩
  have HV := Lib.hid hv
  clear hv
  go_wp2_with ((with_reducible show wpList _ _ _ (Oper.mk (some 17) _ _ _ _ _ :: _) _ _); refine Ev.load_row_g 26 (.tmp 1) rfl rfl w.heap.size (by kernel_rfl) 26 (Ev.xcells x0).toArray (0, 0) _ R1.out Try.underlying26 rfl (by kernel_rfl) ?_)
  refine (rcheck_is HV.out _ (HIN.out.kp (Ev.kp_below BW.out))).mono ?_
  rintro e W2 ⟨rfl, hb2⟩
  have BC := Lib.hid hb2
  have B2 := Lib.hid (BW.out.trans (hb2.mono BW.out.size))
  have R2 := Lib.hid (LXH.out _ hb2)
  clear hb2 cx
  by_cases h0 : v = 0
  case neg =>
    have t0 : (v != 0) = true := by simpa using h0
    clear h0
    go_wp2_with fail
    refine (known7_any _).mono ?_
    rintro e W99 ⟨rfl, hb99⟩
    have HEND := Lib.hid (B2.out.trans (hb99.mono B2.out.size)); clear hb99
    go_wp2_with fail
    go_ret
    exact ⟨rfl, HEND.out⟩
  subst h0
  have t00 : ((0 : Int) != 0) = false := by decide
  have HC := Lib.hid HV.out
  have hmx := HIN.out.ev.le; have hmx2 := HIN.out.ev.max
  have LX2 := Lib.hid (fun (W : World) (h : Below W2.heap.size W2 W) => (h.block w.heap.size (Array.getElem?_eq_some_iff.1 R2.out).1).trans R2.out)
  have cx2 := Ev.xcell2 R2.out
  by_cases ho : x0.od.length = 1
  case neg =>
    have tod : ((x0.od.length : Int) != 1) = true := by simp; omega
    go_wp2_with fail
    refine (known7_any _).mono ?_
    rintro e W99 ⟨rfl, hb99⟩
    have HEND := Lib.hid (B2.out.trans (hb99.mono B2.out.size)); clear hb99
    go_wp2_with fail
    go_ret
    exact ⟨rfl, HEND.out⟩
  have tod : ((x0.od.length : Int) != 1) = false := by simp [ho]
  clear ho
  go_wp2_with fail
  clear cx2
  go_loopw [2, 3, 4, 5, 6, 7] (fun _ i _ _ _ _ wr => ∃ a : Nat, a ≤ x0.ev.length ∧ i = .int .i64 (a : Int) ∧ Below W2.heap.size W2 wr) (fun _ i _ _ _ _ _ => x0.ev.length - (intOf i).toNat)
  case atStart => exact ⟨0, Nat.zero_le _, rfl, Below.refl _ _⟩
  case round =>
    obtain ⟨a, ha, rfl, hbr⟩ := hrel
    have HBR := Lib.hid hbr
    have cx := Ev.xcell0 (LX2.out _ hbr)
    clear hbr
    by_cases hlt : a < x0.ev.length
    case neg =>
      have hai : ¬ (a : Int) < (x0.ev.length : Int) := by omega
      have HEND := Lib.hid (B2.out.trans (HBR.out.mono B2.out.size))
      go_wp2_with fail
      refine (known7_any _).mono ?_
      rintro e W99 ⟨rfl, hb99⟩
      have HEND2 := Lib.hid (HEND.out.trans (hb99.mono HEND.out.size)); clear hb99
      go_wp2_with fail
      go_ret
      exact ⟨rfl, HEND2.out⟩
    have hai : (a : Int) < (x0.ev.length : Int) := by omega
    go_wp2_with fail
    clear cx
    go_loopw [2, 4, 5, 6, 7] (fun _ j _ _ _ wr => ∃ b : Nat, b ≤ x0.ev.length ∧ j = .int .i64 (b : Int) ∧ Below W2.heap.size W2 wr) (fun _ j _ _ _ _ => x0.ev.length - (intOf j).toNat)
    case atStart => exact ⟨0, Nat.zero_le _, rfl, HBR.out⟩
    case round =>
      obtain ⟨b, hb, rfl, hbr⟩ := hrel
      have HBR2 := Lib.hid hbr
      have cx := Ev.xcell0 (LX2.out _ hbr)
      clear hbr
      by_cases hlb : b < x0.ev.length
      case neg =>
        have hbi : ¬ (b : Int) < (x0.ev.length : Int) := by omega
        go_wp2_with fail
        go_roundw
        case rel => exact ⟨a + 1, by omega, by go_num, HBR2.out⟩
        case measure => simp [intOf]; omega
      have hbi : (b : Int) < (x0.ev.length : Int) := by omega
      go_wp2_with fail
      clear cx
      go_loopw [2, 5, 6, 7] (fun _ r _ _ wr => ∃ k : Nat, 1 ≤ k ∧ k ≤ 14 ∧ r = .int .i64 (k : Int) ∧ Below W2.heap.size W2 wr) (fun _ r _ _ _ => 14 - (intOf r).toNat)
      case atStart => exact ⟨2, by omega, by omega, rfl, HBR2.out⟩
      case round =>
        obtain ⟨k, hk1, hk2, rfl, hbr⟩ := hrel
        have HBR3 := Lib.hid hbr
        have R3 := Lib.hid (LX2.out _ hbr)
        clear hbr
        by_cases hl13 : k ≤ 13
        case neg =>
          have hki : ¬ (k : Int) ≤ 13 := by omega
          go_wp2_with fail
          go_roundw
          case rel => exact ⟨b + 1, by omega, by go_num, HBR3.out⟩
          case measure => simp [intOf]; omega
        have hki : (k : Int) ≤ 13 := by omega
        obtain ⟨u, hu⟩ : ∃ u, Ev.rule x0 (k : Int) a b = u := ⟨_, rfl⟩
        have HU := Lib.hid hu
        clear hu
        go_wp2_with ((with_reducible show wpList _ _ _ (Oper.mk (some 47) _ _ _ _ _ :: _) _ _); refine wpList_load_row rfl 26 (.tmp 1) rfl w.heap.size (by kernel_rfl) 26 (Ev.xcells x0).toArray (0, 0) _ R3.out Try.underlying26 rfl (by kernel_rfl) ?_)
        refine (orule_any x0 k a b (by unfold Ev.i64B; omega) (by unfold Ev.i64B; omega) _ (HIN.out.kp (Ev.kp_below (B2.out.trans (HBR3.out.mono B2.out.size))))).mono ?_
        rintro e W4 ⟨hb4, (⟨h, _⟩ | ⟨_, h, _⟩ | ⟨_, _, _, rfl⟩)⟩
        · exact absurd HC.out h
        · exfalso
          rcases h with h | h | h
          · exact h ⟨⟨by omega, by omega⟩, ⟨by omega, by omega⟩⟩
          · omega
          · omega
        rw [Int.toNat_natCast, Int.toNat_natCast, Int.toNat_natCast, Or.rule_eq HC.out hlt hlb k hk1 hl13, HU.out]
        have HB4 := Lib.hid (HBR3.out.trans (hb4.mono HBR3.out.size))
        have R4 := Lib.hid ((hb4.block w.heap.size (Array.getElem?_eq_some_iff.1 R3.out).1).trans R3.out)
        clear hb4
        have t00 : ((0 : Int) != 0) = false := by decide
        go_wp2_with ((with_reducible show wpList _ _ _ (Oper.mk (some 58) _ _ _ _ _ :: _) _ _); refine Ev.load_row_g 26 (.tmp 1) rfl rfl w.heap.size (by kernel_rfl) 26 (Ev.xcells x0).toArray (0, 0) _ R4.out Try.underlying26 rfl (by kernel_rfl) ?_)
        refine (rrule_is HU.out hk1 hl13 hlt hlb (check_from HC.out) _ (HIN.out.kp (Ev.kp_below (B2.out.trans (HB4.out.mono B2.out.size))))).mono ?_
        rintro e W5 ⟨rfl, hb5⟩
        have HB5 := Lib.hid (HB4.out.trans (hb5.mono HB4.out.size))
        clear hb5
        cases u
        · go_wp2_with fail
          go_roundw
          case rel => exact ⟨k + 1, by omega, by omega, by go_num, HB5.out⟩
          case measure => simp [intOf]; omega
        · go_wp2_with fail
          go_roundw
          case rel => exact ⟨k + 1, by omega, by omega, by go_num, HB5.out⟩
          case measure => simp [intOf]; omega

/-! THE ROW -/
set_option maxRecDepth 100000 in
theorem lifted (os : Os) (started : os.Started) (H : Type) (enc : TypeId × Value → H) :
    ReturnsInHanded {} Try.checked os 10 .any (Rows.orderAlikeSpec.pre6 enc Try.prog Try.f10 Rows.orderAlikeRow.domain false) (Rows.orderAlikeSpec.post enc Try.prog Try.f10 false true false false) := by
  refine returnsInHanded_of_change (C := Try.checked) own started (by kernel_rfl) Try.func10
    (ChangeSpec.witness6 (enc := enc) (C := Try.checked) false ⟨#[], #[.agg #[.slice none 0 0, .slice none 0 0, .slice none 0 0]], []⟩ 8 (by kernel_rfl) (by kernel_rfl) (by kernel_rfl) (by kernel_rfl)) ?_
  intro W base args ds gs before hval0 hW hcnd _
  have hval : ∀ (j : Nat) t v, Try.f10.params[j]? = some t → args[j]? = some v → Value.okWide Try.prog W .any base t v := hval0
  have hW' := hW
  obtain ⟨p, q, hA0, hV, rfl, hfz, hnd⟩ := hW
  have hA : DataW.TrodAll enc Try.prog W 0 (fun _ => true) true Try.f10.params.toList args.toList ds p := hA0
  rw [Try.params10] at hA hval
  obtain ⟨v0, vs0, d0, ds0, p0, q0, hargs, rfl, rfl, h0, r0⟩ := trodAll_cons hA
  obtain ⟨rfl, rfl, rfl⟩ := trodAll_nil r0
  obtain rfl : args = #[v0] := by cases args; simp_all
  obtain ⟨rfl, rfl⟩ := trodVars_none hV
  clear hA0 hval0
  simp only [List.append_nil] at hW'
  have hlt : ∀ x ∈ p0, x.block < W.heap.size := fun x hx => by simpa using hW'.lt x (by simpa using hx)
  obtain ⟨x0, rfl, b0⟩ := open_exec (hval 0 26 v0 rfl rfl) h0
  refine (walk W x0 b0).mono fun e W' ⟨he, hb⟩ => ?_
  subst he
  have harg0 : DataW.Trod enc Try.prog W' 0 (fun b => decide (b < W.heap.size)) true 26 _ _ _ := Below.trod laidOut (by kernel_rfl) (of_decide_eq_true (by kernel_rfl)) h0 hb (fun x hx => hlt x (by simp [hx]))
  exact ⟨_, rfl, _, _, _, [], _, [], hW', trodAll_mk1 (shut_bool Try.underlying4 _), (trodAll_cons_mk harg0 trodAll_mk0), rfl, hb.frame _, fun h => by cases h⟩

theorem over : Rows.orderAlikeRow.holds Try.pinned (OpenSpec.ofChange Rows.orderAlikeSpec) :=
  OpenClaim.holds_of_wide 10 Try.f10 rfl rfl rfl rfl rfl rfl rfl ⟨rfl, rfl, rfl, rfl, rfl⟩ rfl rfl rfl rfl rfl (by kernel_rfl) Try.func10 (by kernel_rfl)
    (of_decide_eq_true (by kernel_rfl)) (by unfold Func.isWrapper; first | (rw [if_pos (by decide +kernel)]; kernel_rfl) | (rw [if_neg (by decide +kernel)]; exact ⟨rfl, rfl⟩))
    (fun os started H enc _ => lifted os started H enc)

/-- THE STATEMENT -/
theorem proved : Rows.OrderAlikeSaid :=
  over
end Go.Proofs.Ytoicmhidmknfiaa.orderAlike
