/-
  OrderRules: for every input the statement's function returns true, with no condition; each argument reads behind the call as before. By contracts of the program's and the document's functions.
-/
import Derived.Test.YtoicmhidmknfiaaOrLaw
namespace Go.Proofs.Ytoicmhidmknfiaa.orderRules
open Go.ChangeShapes Go.WideShapes Go.ChangeAt Go.RowKit
set_option linter.unusedVariables false
set_option linter.unusedSimpArgs false

/-! THE WALK: the Go text returns true; of memory nothing that stood there has turned. -/
set_option maxRecDepth 100000 in
set_option maxHeartbeats 20000000 in
theorem walk (w : World) (x0 : Ev.X) (b0 : Ev.XIn w x0) :
    Calls Try.prog 5 #[Ev.exV x0] w fun e w' => e = .returned (.bool true) ∧ Below w.heap.size w w' := by
  have HIN := Lib.hid b0
  have R0 := Lib.hid (heap_alloc_new w (.cells (Ev.xcells x0).toArray 26))
  obtain ⟨B, hB⟩ : ∃ B, B = w.alloc (.cells (Ev.xcells x0).toArray 26) := ⟨_, rfl⟩
  have HB := Lib.hid hB
  have R0 := Lib.hid (show B.heap[w.heap.size]? = some (.cells (Ev.xcells x0).toArray 26 (0, 0)) by rw [hB]; exact R0.out)
  have B0 := Lib.hid (show Below w.heap.size w B by rw [hB]; exact (Below.refl w.heap.size w).alloc (Nat.le_refl _) _)
  clear hB b0
  unfold Ev.exV
  go_enter Try.func5, Try.ntmps5
  go_wp2_with (first
    | ((with_reducible show wpList _ _ _ (Oper.mk (some 9) _ _ _ _ _ :: _) _ _); (try rw [show w.alloc (Obj.cells (Ev.xcells x0).toArray 26) = B from HB.out.symm]); refine wpList_load_row rfl 26 (.tmp 1) rfl w.heap.size (by kernel_rfl) 26 (Ev.xcells x0).toArray (0, 0) _ R0.out Try.underlying26 rfl (by kernel_rfl) ?_))
  refine (wide7_any x0 _ (HIN.out.kp (Ev.kp_below B0.out))).mono ?_
  rintro e W1 ⟨b, rfl, hw, hb⟩
  have BB := Lib.hid hb
  have BW := Lib.hid (B0.out.trans (hb.mono B0.out.size))
  have R1 := Lib.hid ((hb.block w.heap.size (Array.getElem?_eq_some_iff.1 R0.out).1).trans R0.out)
  have cx := Ev.xcell0 R1.out
  clear hb hw
  cases b
  case true =>
    go_wp2_with fail
    refine (known7_any _).mono ?_
    rintro e W99 ⟨rfl, hb99⟩
    have HEND := Lib.hid (BW.out.trans (hb99.mono BW.out.size)); clear hb99
    go_wp2_with fail
    go_ret
    exact ⟨rfl, HEND.out⟩
  by_cases hl : 14 < x0.ev.length
  case pos =>
    have hlen : (14 : Int) < (x0.ev.length : Int) := by omega
    go_wp2_with fail
    refine (known7_any _).mono ?_
    rintro e W99 ⟨rfl, hb99⟩
    have HEND := Lib.hid (BW.out.trans (hb99.mono BW.out.size)); clear hb99
    go_wp2_with fail
    go_ret
    exact ⟨rfl, HEND.out⟩
  have hlen : ¬ (14 : Int) < (x0.ev.length : Int) := by omega
  have LXH := Lib.hid (fun (W : World) (h : Below W1.heap.size W1 W) => (h.block w.heap.size (Array.getElem?_eq_some_iff.1 R1.out).1).trans R1.out)
  obtain ⟨v, hv⟩ : ∃ v, Ev.check x0 = v := ⟨_, rfl⟩
  have HV := Lib.hid hv
  clear hv
  go_wp2_with ((with_reducible show wpList _ _ _ (Oper.mk (some 18) _ _ _ _ _ :: _) _ _); refine Ev.load_row_g 26 (.tmp 1) rfl rfl w.heap.size (by kernel_rfl) 26 (Ev.xcells x0).toArray (0, 0) _ R1.out Try.underlying26 rfl (by kernel_rfl) ?_)
  refine (rcheck_is HV.out _ (HIN.out.kp (Ev.kp_below BW.out))).mono ?_
  rintro e W2 ⟨rfl, hb2⟩
  have BC := Lib.hid hb2
  have B2 := Lib.hid (BW.out.trans (hb2.mono BW.out.size))
  have R2 := Lib.hid (LXH.out _ hb2)
  clear hb2 cx
  by_cases h0 : v = 0
  case neg =>
    have t0 : (v != 0) = true := by simpa using h0
    clear h0
    go_wp2_with fail
    refine (known7_any _).mono ?_
    rintro e W99 ⟨rfl, hb99⟩
    have HEND := Lib.hid (B2.out.trans (hb99.mono B2.out.size)); clear hb99
    go_wp2_with fail
    go_ret
    exact ⟨rfl, HEND.out⟩
  subst h0
  have t00 : ((0 : Int) != 0) = false := by decide
  obtain ⟨i0, hi, hz0, hz1, hz2⟩ := or_info_int
  have HI := Lib.hid hi; have HZ0 := Lib.hid hz0; have HZ1 := Lib.hid hz1; have HZ2 := Lib.hid hz2; clear hi hz0 hz1 hz2
  have HC := Lib.hid HV.out
  have hmx := HIN.out.ev.le; have hmx2 := HIN.out.ev.max
  have LX2 := Lib.hid (fun (W : World) (h : Below W2.heap.size W2 W) => (h.block w.heap.size (Array.getElem?_eq_some_iff.1 R2.out).1).trans R2.out)
  go_wp2_with fail
  go_loopw [2, 3, 4, 5, 6, 7, 8] (fun _ i _ _ _ _ _ wr => ∃ a : Nat, a ≤ x0.ev.length ∧ i = .int .i64 (a : Int) ∧ Below W2.heap.size W2 wr) (fun _ i _ _ _ _ _ _ => x0.ev.length - (intOf i).toNat)
  case atStart => exact ⟨0, Nat.zero_le _, rfl, Below.refl _ _⟩
  case round =>
    obtain ⟨a, ha, rfl, hbr⟩ := hrel
    have HBR := Lib.hid hbr
    have cx := Ev.xcell0 (LX2.out _ hbr)
    clear hbr
    by_cases hlt : a < x0.ev.length
    case neg =>
      have hai : ¬ (a : Int) < (x0.ev.length : Int) := by omega
      have HEND := Lib.hid (B2.out.trans (HBR.out.mono B2.out.size))
      go_wp2_with fail
      refine (known7_any _).mono ?_
      rintro e W99 ⟨rfl, hb99⟩
      have HEND2 := Lib.hid (HEND.out.trans (hb99.mono HEND.out.size)); clear hb99
      go_wp2_with fail
      go_ret
      exact ⟨rfl, HEND2.out⟩
    have hai : (a : Int) < (x0.ev.length : Int) := by omega
    go_wp2_with fail
    clear cx
    go_loopw [2, 4, 5, 6, 7, 8] (fun _ j _ _ _ _ wr => ∃ b : Nat, b ≤ x0.ev.length ∧ j = .int .i64 (b : Int) ∧ Below W2.heap.size W2 wr) (fun _ j _ _ _ _ _ => x0.ev.length - (intOf j).toNat)
    case atStart => exact ⟨0, Nat.zero_le _, rfl, HBR.out⟩
    case round =>
      obtain ⟨b, hb, rfl, hbr⟩ := hrel
      have HBR2 := Lib.hid hbr
      have cx := Ev.xcell0 (LX2.out _ hbr)
      clear hbr
      by_cases hlb : b < x0.ev.length
      case neg =>
        have hbi : ¬ (b : Int) < (x0.ev.length : Int) := by omega
        go_wp2_with fail
        go_roundw
        case rel => exact ⟨a + 1, by omega, by go_num, HBR2.out⟩
        case measure => simp [intOf]; omega
      have hbi : (b : Int) < (x0.ev.length : Int) := by omega
      go_wp2_with fail
      clear cx
      go_loopw [5, 6] (fun v r wr => ∃ k : Nat, 1 ≤ k ∧ k ≤ 14 ∧ r = .int .i64 (k : Int) ∧ wr.ownsRow W2.heap.size 3 1 v (Or.wantTo x0 a b k).length ((Or.wantTo x0 a b k).map Or.iv) ∧ Below W2.heap.size W2 wr) (fun _ r _ => 14 - (intOf r).toNat)
      case atStart => exact ⟨1, Nat.le_refl _, by omega, rfl, World.ownsRow_nil _ _ _ _, HBR2.out⟩
      case round =>
        obtain ⟨k, hk1, hk2, rfl, hrow, hbr⟩ := hrel
        have HROW := Lib.hid hrow; have HBR3 := Lib.hid hbr
        have R3 := Lib.hid (LX2.out _ hbr)
        have hwl := Or.wantTo_len x0 a b k
        clear hrow hbr
        by_cases hl13 : k ≤ 13
        · have hki : (k : Int) ≤ 13 := by omega
          obtain ⟨u, hu⟩ : ∃ u, Ev.rule x0 (k : Int) a b = u := ⟨_, rfl⟩
          have HU := Lib.hid hu
          clear hu
          go_wp2_with ((with_reducible show wpList _ _ _ (Oper.mk (some 41) _ _ _ _ _ :: _) _ _); refine wpList_load_row rfl 26 (.tmp 1) rfl w.heap.size (by kernel_rfl) 26 (Ev.xcells x0).toArray (0, 0) _ R3.out Try.underlying26 rfl (by kernel_rfl) ?_)
          refine (rrule_is HU.out hk1 hl13 hlt hlb (check_from HC.out) _ (HIN.out.kp (Ev.kp_below (B2.out.trans (HBR3.out.mono B2.out.size))))).mono ?_
          rintro e W4 ⟨rfl, hb4⟩
          have HB4 := Lib.hid (HBR3.out.trans (hb4.mono HBR3.out.size))
          have HR4 := Lib.hid (Ev.row_below HROW.out hb4)
          clear hb4
          cases u
          · have HS := Lib.hid (show Or.wantTo x0 a b (k + 1) = Or.wantTo x0 a b k by rw [Or.wantTo_succ, HU.out]; simp)
            go_wp2_with fail
            go_roundw
            case rel => exact ⟨k + 1, by omega, by omega, by go_num, by rw [HS.out]; exact HR4.out, HB4.out⟩
            case measure => simp [intOf]; omega
          · have HS := Lib.hid (show Or.wantTo x0 a b (k + 1) = Or.wantTo x0 a b k ++ [k] by rw [Or.wantTo_succ, HU.out]; simp [hk1])
            go_wp2_with (first
              | ((with_reducible show wpList _ _ _ (Oper.mk (some 49) _ _ _ _ _ :: _) _ _); refine wpList_append_own _ rfl (.tmp 46) (.tmp 48) 23 rfl W2.heap.size 3 i0 (.int .i64 0) 1 8 Try.underlying23 HI.out HZ0.out HZ1.out HZ2.out rfl (by decide) _ _ _ rfl (HR4.out.alloc _) ⟨W4.heap.size, 0, none⟩ 1 1 [.int .i64 (k : Int)] rfl rfl (fun j u hu => World.news_of_block (heap_alloc_new W4 _) j u hu) (by simp [Value.oneCell']) (by unfold maxLen; omega) (by omega) (by have := HB4.out.size; simp only [World.size_alloc]; omega) ?_
                 intro v' w5 hown hgrow _
                 have HOWN := Lib.hid hown; have HGR := Lib.hid hgrow; clear hown hgrow))
            have HB5 := Lib.hid (Below.grown (HB4.out.alloc HB4.out.size _) HGR.out (by have := HB4.out.size; simp only [World.size_alloc]; omega) (fun k hk => Ev.own_ge HR4.out hk))
            go_roundw
            case rel =>
              refine ⟨k + 1, by omega, by omega, by go_num, ?_, HB5.out⟩
              have := HOWN.out
              rw [HS.out, List.length_append, List.map_append]
              simpa [Or.iv] using this
            case measure => simp [intOf]; omega
        · have hki : ¬ (k : Int) ≤ 13 := by omega
          have HK := Lib.hid (show k = 14 by omega)
          obtain ⟨ad, cc, hv, hin⟩ := Or.ints_of_row HROW.out (fun n hn => by have := Or.wantTo_le x0 a b k n hn; omega)
          subst hv
          have HW := Lib.hid hin
          clear hin hl13 hk1 hk2
          go_wp2_with ((with_reducible show wpList _ _ _ (Oper.mk (some 51) _ _ _ _ _ :: _) _ _); refine wpList_load_row rfl 26 (.tmp 1) rfl w.heap.size (by kernel_rfl) 26 (Ev.xcells x0).toArray (0, 0) _ R3.out Try.underlying26 rfl (by kernel_rfl) ?_)
          refine (orules_any x0 a b (by unfold Ev.i64B; omega) (by unfold Ev.i64B; omega) _ (HIN.out.kp (Ev.kp_below (B2.out.trans (HBR3.out.mono B2.out.size))))).mono ?_
          rintro e W4 ⟨hb4, (⟨h, _⟩ | ⟨_, h, _⟩ | ⟨_, _, ad2, cc2, rfl, hin2⟩)⟩
          · exact absurd HC.out h
          · exact absurd ⟨⟨by omega, by omega⟩, ⟨by omega, by omega⟩⟩ h
          rw [Int.toNat_natCast, Int.toNat_natCast] at hin2 ⊢
          have HEQ := Lib.hid (show Or.ints (Or.hold x0 a b) = Or.ints (Or.wantTo x0 a b k) by rw [HK.out, Or.hold_eq HC.out hlt hlb]; rfl)
          rw [HEQ.out] at hin2 ⊢
          have HB4 := Lib.hid (HBR3.out.trans (hb4.mono HBR3.out.size))
          have HW4 := Lib.hid (HW.out.kp (Ev.kp_below hb4)); have HW2 := Lib.hid hin2
          obtain ⟨L, hL⟩ : ∃ L, Or.ints (Or.wantTo x0 a b k) = L := ⟨_, rfl⟩
          rw [hL]
          rw [hL] at HW4 HW2
          clear hb4 hin2 hL
          have t00 : ((0 : Int) != 0) = false := by decide
          go_wp2_with fail
          refine (sameInts_any ⟨ad2, cc2, L⟩ ⟨ad, cc, L⟩ W4 HW2.out HW4.out).mono ?_
          rintro e W5 ⟨rfl, n5, rfl⟩
          rw [show decide (({ a := ad2, c := cc2, l := L } : Ev.Sl).l = ({ a := ad, c := cc, l := L } : Ev.Sl).l) = true from decide_eq_true rfl]
          have HB5 := Lib.hid (below_drewN HB4.out n5)
          go_wp2_with fail
          go_roundw
          case rel => exact ⟨b + 1, by omega, by go_num, HB5.out⟩
          case measure => simp [intOf]; omega

/-! THE ROW -/
set_option maxRecDepth 100000 in
theorem lifted (os : Os) (started : os.Started) (H : Type) (enc : TypeId × Value → H) :
    ReturnsInHanded {} Try.checked os 5 .any (Rows.orderRulesSpec.pre6 enc Try.prog Try.f5 Rows.orderRulesRow.domain false) (Rows.orderRulesSpec.post enc Try.prog Try.f5 false true false false) := by
  refine returnsInHanded_of_change (C := Try.checked) own started (by kernel_rfl) Try.func5
    (ChangeSpec.witness6 (enc := enc) (C := Try.checked) false ⟨#[], #[.agg #[.slice none 0 0, .slice none 0 0, .slice none 0 0]], []⟩ 8 (by kernel_rfl) (by kernel_rfl) (by kernel_rfl) (by kernel_rfl)) ?_
  intro W base args ds gs before hval0 hW hcnd _
  have hval : ∀ (j : Nat) t v, Try.f5.params[j]? = some t → args[j]? = some v → Value.okWide Try.prog W .any base t v := hval0
  have hW' := hW
  obtain ⟨p, q, hA0, hV, rfl, hfz, hnd⟩ := hW
  have hA : DataW.TrodAll enc Try.prog W 0 (fun _ => true) true Try.f5.params.toList args.toList ds p := hA0
  rw [Try.params5] at hA hval
  obtain ⟨v0, vs0, d0, ds0, p0, q0, hargs, rfl, rfl, h0, r0⟩ := trodAll_cons hA
  obtain ⟨rfl, rfl, rfl⟩ := trodAll_nil r0
  obtain rfl : args = #[v0] := by cases args; simp_all
  obtain ⟨rfl, rfl⟩ := trodVars_none hV
  clear hA0 hval0
  simp only [List.append_nil] at hW'
  have hlt : ∀ x ∈ p0, x.block < W.heap.size := fun x hx => by simpa using hW'.lt x (by simpa using hx)
  obtain ⟨x0, rfl, b0⟩ := open_exec (hval 0 26 v0 rfl rfl) h0
  refine (walk W x0 b0).mono fun e W' ⟨he, hb⟩ => ?_
  subst he
  have harg0 : DataW.Trod enc Try.prog W' 0 (fun b => decide (b < W.heap.size)) true 26 _ _ _ := Below.trod laidOut (by kernel_rfl) (of_decide_eq_true (by kernel_rfl)) h0 hb (fun x hx => hlt x (by simp [hx]))
  exact ⟨_, rfl, _, _, _, [], _, [], hW', trodAll_mk1 (shut_bool Try.underlying4 _), (trodAll_cons_mk harg0 trodAll_mk0), rfl, hb.frame _, fun h => by cases h⟩

theorem over : Rows.orderRulesRow.holds Try.pinned (OpenSpec.ofChange Rows.orderRulesSpec) :=
  OpenClaim.holds_of_wide 5 Try.f5 rfl rfl rfl rfl rfl rfl rfl ⟨rfl, rfl, rfl, rfl, rfl⟩ rfl rfl rfl rfl rfl (by kernel_rfl) Try.func5 (by kernel_rfl)
    (of_decide_eq_true (by kernel_rfl)) (by unfold Func.isWrapper; first | (rw [if_pos (by decide +kernel)]; kernel_rfl) | (rw [if_neg (by decide +kernel)]; exact ⟨rfl, rfl⟩))
    (fun os started H enc _ => lifted os started H enc)

/-- THE STATEMENT -/
theorem proved : Rows.OrderRulesSaid :=
  over
end Go.Proofs.Ytoicmhidmknfiaa.orderRules
