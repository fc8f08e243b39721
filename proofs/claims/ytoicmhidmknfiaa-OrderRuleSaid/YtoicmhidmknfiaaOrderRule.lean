/-
  OrderRule: for every input the statement's function returns true, with no condition; each argument reads behind the call as before. By contracts of the program's and the document's functions.
-/
import Derived.Test.YtoicmhidmknfiaaOrLaw
namespace Go.Proofs.Ytoicmhidmknfiaa.orderRule
open Go.ChangeShapes Go.WideShapes Go.ChangeAt Go.RowKit
set_option linter.unusedVariables false
set_option linter.unusedSimpArgs false

/-! THE WALK: the Go text returns true; of memory nothing that stood there has turned. -/
set_option maxRecDepth 100000 in
set_option maxHeartbeats 20000000 in
theorem walk (w : World) (x0 : Ev.X) (b0 : Ev.XIn w x0) (a1 : Int) (w1 : (Lit.int .i64 a1).wf = true) (p2 q2 : Int) (l2 : Ev.i64B p2) (m2 : Ev.i64B q2) :
    Calls Try.prog 6 #[Ev.exV x0, .int .i64 a1, .agg #[.int .i64 p2, .int .i64 q2]] w fun e w' => e = .returned (.bool true) ∧ Below w.heap.size w w' := by
  have HIN := Lib.hid b0
  have R0 := Lib.hid (heap_alloc_new w (.cells (Ev.xcells x0).toArray 26))
  obtain ⟨B, hB⟩ : ∃ B, B = (w.alloc (.cells (Ev.xcells x0).toArray 26)).alloc (.cells #[.int .i64 p2, .int .i64 q2] 43) := ⟨_, rfl⟩
  have HB := Lib.hid hB
  have R0 := Lib.hid (show B.heap[w.heap.size]? = some (.cells (Ev.xcells x0).toArray 26 (0, 0)) by rw [hB]; exact (Below.heap_alloc _ _ _ (by simp)).trans R0.out)
  have P0 := Lib.hid (show B.heap[w.heap.size + 1]? = some (.cells #[.int .i64 p2, .int .i64 q2] 43 (0, 0)) by rw [hB]; have h := heap_alloc_new (w.alloc (.cells (Ev.xcells x0).toArray 26)) (.cells #[.int .i64 p2, .int .i64 q2] 43); rwa [World.size_alloc] at h)
  have B0 := Lib.hid (show Below w.heap.size w B by rw [hB]; exact ((Below.refl w.heap.size w).alloc (Nat.le_refl _) _).alloc (by simp) _)
  clear hB b0
  unfold Ev.exV
  go_enter Try.func6, Try.ntmps6
  go_wp2_with (first
    | ((with_reducible show wpList _ _ _ (Oper.mk (some 14) _ _ _ _ _ :: _) _ _); (try rw [show (w.alloc (Obj.cells (Ev.xcells x0).toArray 26)).alloc (Obj.cells #[.int .i64 p2, .int .i64 q2] 43) = B from HB.out.symm]); refine wpList_load_row rfl 26 (.tmp 3) rfl w.heap.size (by kernel_rfl) 26 (Ev.xcells x0).toArray (0, 0) _ R0.out Try.underlying26 rfl (by kernel_rfl) ?_))
  refine (wide7_any x0 _ (HIN.out.kp (Ev.kp_below B0.out))).mono ?_
  rintro e W1 ⟨b, rfl, hw, hb⟩
  have BB := Lib.hid hb
  have BW := Lib.hid (B0.out.trans (hb.mono B0.out.size))
  have R1 := Lib.hid ((hb.block w.heap.size (Array.getElem?_eq_some_iff.1 R0.out).1).trans R0.out)
  have cx := Ev.xcell0 R1.out
  have P1 := Lib.hid ((hb.block (w.heap.size + 1) (Array.getElem?_eq_some_iff.1 P0.out).1).trans P0.out)
  clear hb hw
  cases b
  case true =>
    go_wp2_with fail
    refine (known7_any _).mono ?_
    rintro e W99 ⟨rfl, hb99⟩
    have HEND := Lib.hid (BW.out.trans (hb99.mono BW.out.size)); clear hb99
    go_wp2_with fail
    go_ret
    exact ⟨rfl, HEND.out⟩
  by_cases hl : 20 < x0.ev.length
  case pos =>
    have hlen : (20 : Int) < (x0.ev.length : Int) := by omega
    go_wp2_with fail
    refine (known7_any _).mono ?_
    rintro e W99 ⟨rfl, hb99⟩
    have HEND := Lib.hid (BW.out.trans (hb99.mono BW.out.size)); clear hb99
    go_wp2_with fail
    go_ret
    exact ⟨rfl, HEND.out⟩
  have hlen : ¬ (20 : Int) < (x0.ev.length : Int) := by omega
  have LXH := Lib.hid (fun (W : World) (h : Below W1.heap.size W1 W) => (h.block w.heap.size (Array.getElem?_eq_some_iff.1 R1.out).1).trans R1.out)
  have pa : W1.cell? ⟨w.heap.size + 1, 0, none⟩ = some (.int .i64 p2) := by rw [cell_of_row _ _ _ _ _ _ P1.out]; rfl
  have pb : W1.cell? ⟨w.heap.size + 1, 1, none⟩ = some (.int .i64 q2) := by rw [cell_of_row _ _ _ _ _ _ P1.out]; rfl
  go_wp2_with ((with_reducible show wpList _ _ _ (Oper.mk (some 24) _ _ _ _ _ :: _) _ _); refine wpList_load_row rfl 26 (.tmp 3) rfl w.heap.size (by kernel_rfl) 26 (Ev.xcells x0).toArray (0, 0) _ R1.out Try.underlying26 rfl (by kernel_rfl) ?_)
  refine (orule_any x0 a1 p2 q2 l2 m2 _ (HIN.out.kp (Ev.kp_below BW.out))).mono ?_
  rintro e1 W2 ⟨hb2, hr1⟩
  have B2 := Lib.hid (BW.out.trans (hb2.mono BW.out.size))
  have R2 := Lib.hid (LXH.out _ hb2)
  have P2 := Lib.hid ((hb2.block (w.heap.size + 1) (Array.getElem?_eq_some_iff.1 P1.out).1).trans P1.out)
  clear hb2 cx pa pb
  obtain ⟨v, hv⟩ : ∃ v, Ev.check x0 = v := ⟨_, rfl⟩
  have HV := Lib.hid hv
  by_cases h0 : v = 0
  case neg =>
    obtain rfl : e1 = .returned (.tuple #[.bool false, .int .i64 v]) := by
      rcases hr1 with ⟨_, hr⟩ | ⟨hc, _⟩ | ⟨hc, _⟩
      · rw [hv] at hr; exact hr
      · exact absurd (hv ▸ hc) h0
      · exact absurd (hv ▸ hc) h0
    have H0 := Lib.hid h0
    have t0 : (v != 0) = true := by simpa using h0
    have te : (v == v) = true := by simp
    clear hr1 h0 hv
    have pa : W2.cell? ⟨w.heap.size + 1, 0, none⟩ = some (.int .i64 p2) := by rw [cell_of_row _ _ _ _ _ _ P2.out]; rfl
    have pb : W2.cell? ⟨w.heap.size + 1, 1, none⟩ = some (.int .i64 q2) := by rw [cell_of_row _ _ _ _ _ _ P2.out]; rfl
    go_wp2_with ((with_reducible show wpList _ _ _ (Oper.mk (some 34) _ _ _ _ _ :: _) _ _); refine wpList_load_row rfl 26 (.tmp 3) rfl w.heap.size (by kernel_rfl) 26 (Ev.xcells x0).toArray (0, 0) _ R2.out Try.underlying26 rfl (by kernel_rfl) ?_)
    refine (orules_any x0 p2 q2 l2 m2 _ (HIN.out.kp (Ev.kp_below B2.out))).mono ?_
    rintro e2 W3 ⟨hb3, hr2⟩
    obtain rfl : e2 = .returned (.tuple #[.slice none 0 0, .int .i64 v]) := by
      rcases hr2 with ⟨_, hr⟩ | ⟨hc, _⟩ | ⟨hc, _⟩
      · rw [HV.out] at hr; exact hr
      · exact absurd (HV.out ▸ hc) H0.out
      · exact absurd (HV.out ▸ hc) H0.out
    have B3 := Lib.hid (B2.out.trans (hb3.mono B2.out.size))
    have R3 := Lib.hid ((hb3.block w.heap.size (Array.getElem?_eq_some_iff.1 R2.out).1).trans R2.out)
    clear hb3 hr2 pa pb
    go_wp2_with ((with_reducible show wpList _ _ _ (Oper.mk (some 42) _ _ _ _ _ :: _) _ _); refine wpList_load_row rfl 26 (.tmp 3) rfl w.heap.size (by kernel_rfl) 26 (Ev.xcells x0).toArray (0, 0) _ R3.out Try.underlying26 rfl (by kernel_rfl) ?_)
    refine (rcheck_is HV.out _ (HIN.out.kp (Ev.kp_below B3.out))).mono ?_
    rintro e W4 ⟨rfl, hb4⟩
    have B4 := Lib.hid (B3.out.trans (hb4.mono B3.out.size)); clear hb4
    go_wp2_with fail
    refine (known7_any _).mono ?_
    rintro e W99 ⟨rfl, hb99⟩
    have HEND := Lib.hid (B4.out.trans (hb99.mono B4.out.size)); clear hb99
    go_wp2_with fail
    go_ret
    exact ⟨rfl, HEND.out⟩
  subst h0
  have t00 : ((0 : Int) != 0) = false := by decide
  by_cases hi : Or.inR x0 p2 ∧ Or.inR x0 q2
  case neg =>
    obtain rfl : e1 = .returned (.tuple #[.bool false, .int .i64 4]) := by
      rcases hr1 with ⟨hc, _⟩ | ⟨_, _, hr⟩ | ⟨_, hh, _⟩
      · exact absurd hv hc
      · exact hr
      · exact absurd hh hi
    have HI := Lib.hid hi
    clear hr1 hi
    have pa : W2.cell? ⟨w.heap.size + 1, 0, none⟩ = some (.int .i64 p2) := by rw [cell_of_row _ _ _ _ _ _ P2.out]; rfl
    have pb : W2.cell? ⟨w.heap.size + 1, 1, none⟩ = some (.int .i64 q2) := by rw [cell_of_row _ _ _ _ _ _ P2.out]; rfl
    go_wp2_with ((with_reducible show wpList _ _ _ (Oper.mk (some 34) _ _ _ _ _ :: _) _ _); refine wpList_load_row rfl 26 (.tmp 3) rfl w.heap.size (by kernel_rfl) 26 (Ev.xcells x0).toArray (0, 0) _ R2.out Try.underlying26 rfl (by kernel_rfl) ?_)
    refine (orules_any x0 p2 q2 l2 m2 _ (HIN.out.kp (Ev.kp_below B2.out))).mono ?_
    rintro e2 W3 ⟨hb3, hr2⟩
    obtain rfl : e2 = .returned (.tuple #[.slice none 0 0, .int .i64 4]) := by
      rcases hr2 with ⟨hc, _⟩ | ⟨_, _, hr⟩ | ⟨_, hh, _⟩
      · exact absurd hv hc
      · exact hr
      · exact absurd hh HI.out
    have B3 := Lib.hid (B2.out.trans (hb3.mono B2.out.size))
    have R3 := Lib.hid ((hb3.block w.heap.size (Array.getElem?_eq_some_iff.1 R2.out).1).trans R2.out)
    have P3 := Lib.hid ((hb3.block (w.heap.size + 1) (Array.getElem?_eq_some_iff.1 P2.out).1).trans P2.out)
    clear hb3 hr2 pa pb hv
    go_wp2_with ((with_reducible show wpList _ _ _ (Oper.mk (some 42) _ _ _ _ _ :: _) _ _); refine wpList_load_row rfl 26 (.tmp 3) rfl w.heap.size (by kernel_rfl) 26 (Ev.xcells x0).toArray (0, 0) _ R3.out Try.underlying26 rfl (by kernel_rfl) ?_)
    refine (rcheck_is HV.out _ (HIN.out.kp (Ev.kp_below B3.out))).mono ?_
    rintro e W4 ⟨rfl, hb4⟩
    have B4 := Lib.hid (B3.out.trans (hb4.mono B3.out.size))
    have R4 := Lib.hid ((hb4.block w.heap.size (Array.getElem?_eq_some_iff.1 R3.out).1).trans R3.out)
    have P4 := Lib.hid ((hb4.block (w.heap.size + 1) (Array.getElem?_eq_some_iff.1 P3.out).1).trans P3.out)
    clear hb4
    have cx := Ev.xcell0 R4.out
    have pa : W4.cell? ⟨w.heap.size + 1, 0, none⟩ = some (.int .i64 p2) := by rw [cell_of_row _ _ _ _ _ _ P4.out]; rfl
    have pb : W4.cell? ⟨w.heap.size + 1, 1, none⟩ = some (.int .i64 q2) := by rw [cell_of_row _ _ _ _ _ _ P4.out]; rfl
    have t4 : ((4 : Int) == 4) = true := by decide
    by_cases a1' : 0 ≤ p2
    case neg =>
      have t1 : decide (0 ≤ p2) = false := decide_eq_false a1'
      go_wp2_with fail
      refine (known7_any _).mono ?_
      rintro e W99 ⟨rfl, hb99⟩
      have HEND := Lib.hid (B4.out.trans (hb99.mono B4.out.size)); clear hb99
      go_wp2_with fail
      go_ret
      exact ⟨rfl, HEND.out⟩
    have t1 : decide (0 ≤ p2) = true := decide_eq_true a1'
    by_cases a2' : p2 < (x0.ev.length : Int)
    case neg =>
      have t2 : decide (p2 < (x0.ev.length : Int)) = false := decide_eq_false a2'
      go_wp2_with fail
      refine (known7_any _).mono ?_
      rintro e W99 ⟨rfl, hb99⟩
      have HEND := Lib.hid (B4.out.trans (hb99.mono B4.out.size)); clear hb99
      go_wp2_with fail
      go_ret
      exact ⟨rfl, HEND.out⟩
    have t2 : decide (p2 < (x0.ev.length : Int)) = true := decide_eq_true a2'
    by_cases a3' : 0 ≤ q2
    case neg =>
      have t3 : decide (0 ≤ q2) = false := decide_eq_false a3'
      go_wp2_with fail
      refine (known7_any _).mono ?_
      rintro e W99 ⟨rfl, hb99⟩
      have HEND := Lib.hid (B4.out.trans (hb99.mono B4.out.size)); clear hb99
      go_wp2_with fail
      go_ret
      exact ⟨rfl, HEND.out⟩
    have t3 : decide (0 ≤ q2) = true := decide_eq_true a3'
    have a4' : ¬ q2 < (x0.ev.length : Int) := fun h => HI.out ⟨⟨a1', a2'⟩, ⟨a3', h⟩⟩
    have t5 : decide (q2 < (x0.ev.length : Int)) = false := decide_eq_false a4'
    go_wp2_with fail
    refine (known7_any _).mono ?_
    rintro e W99 ⟨rfl, hb99⟩
    have HEND := Lib.hid (B4.out.trans (hb99.mono B4.out.size)); clear hb99
    go_wp2_with fail
    go_ret
    exact ⟨rfl, HEND.out⟩
  have I1 := Lib.hid (Or.inR_nat hi.1); have I2 := Lib.hid (Or.inR_nat hi.2)
  have HI := Lib.hid hi
  have b1 : 0 ≤ p2 := hi.1.1; have b2 : p2 < (x0.ev.length : Int) := hi.1.2; have b3 : 0 ≤ q2 := hi.2.1; have b4 : q2 < (x0.ev.length : Int) := hi.2.2
  have tb1 : decide (0 ≤ p2) = true := decide_eq_true b1; have tb2 : decide (p2 < (x0.ev.length : Int)) = true := decide_eq_true b2
  have tb3 : decide (0 ≤ q2) = true := decide_eq_true b3; have tb4 : decide (q2 < (x0.ev.length : Int)) = true := decide_eq_true b4
  by_cases hk : 1 ≤ a1 ∧ a1 ≤ 13
  case neg =>
    obtain rfl : e1 = .returned (.tuple #[.bool false, .int .i64 4]) := by
      rcases hr1 with ⟨hc, _⟩ | ⟨_, _, hr⟩ | ⟨_, _, hh, _⟩
      · exact absurd hv hc
      · exact hr
      · exact absurd hh hk
    have HK := Lib.hid hk
    clear hr1 hk hi
    have pa : W2.cell? ⟨w.heap.size + 1, 0, none⟩ = some (.int .i64 p2) := by rw [cell_of_row _ _ _ _ _ _ P2.out]; rfl
    have pb : W2.cell? ⟨w.heap.size + 1, 1, none⟩ = some (.int .i64 q2) := by rw [cell_of_row _ _ _ _ _ _ P2.out]; rfl
    go_wp2_with ((with_reducible show wpList _ _ _ (Oper.mk (some 34) _ _ _ _ _ :: _) _ _); refine wpList_load_row rfl 26 (.tmp 3) rfl w.heap.size (by kernel_rfl) 26 (Ev.xcells x0).toArray (0, 0) _ R2.out Try.underlying26 rfl (by kernel_rfl) ?_)
    refine (orules_any x0 p2 q2 l2 m2 _ (HIN.out.kp (Ev.kp_below B2.out))).mono ?_
    rintro e2 W3 ⟨hb3, hr2⟩
    obtain ⟨ad, cc, rfl⟩ : ∃ ad cc, e2 = .returned (.tuple #[.slice ad (Or.ints (Or.hold x0 p2.toNat q2.toNat)).length cc, .int .i64 0]) := by
      rcases hr2 with ⟨hc, _⟩ | ⟨_, hh, _⟩ | ⟨_, _, ad, cc, hr, _⟩
      · exact absurd hv hc
      · exact absurd HI.out hh
      · exact ⟨ad, cc, hr⟩
    have B3 := Lib.hid (B2.out.trans (hb3.mono B2.out.size))
    have R3 := Lib.hid ((hb3.block w.heap.size (Array.getElem?_eq_some_iff.1 R2.out).1).trans R2.out)
    have P3 := Lib.hid ((hb3.block (w.heap.size + 1) (Array.getElem?_eq_some_iff.1 P2.out).1).trans P2.out)
    obtain ⟨LL, hLL⟩ : ∃ LL, (Or.ints (Or.hold x0 p2.toNat q2.toNat)).length = LL := ⟨_, rfl⟩
    rw [hLL]
    have HC := Lib.hid hv
    clear hb3 hr2 pa pb hv hLL
    go_wp2_with ((with_reducible show wpList _ _ _ (Oper.mk (some 42) _ _ _ _ _ :: _) _ _); refine wpList_load_row rfl 26 (.tmp 3) rfl w.heap.size (by kernel_rfl) 26 (Ev.xcells x0).toArray (0, 0) _ R3.out Try.underlying26 rfl (by kernel_rfl) ?_)
    refine (rcheck_is HV.out _ (HIN.out.kp (Ev.kp_below B3.out))).mono ?_
    rintro e W4 ⟨rfl, hb4⟩
    have B4 := Lib.hid (B3.out.trans (hb4.mono B3.out.size))
    have R4 := Lib.hid ((hb4.block w.heap.size (Array.getElem?_eq_some_iff.1 R3.out).1).trans R3.out)
    have P4 := Lib.hid ((hb4.block (w.heap.size + 1) (Array.getElem?_eq_some_iff.1 P3.out).1).trans P3.out)
    clear hb4
    have cx := Ev.xcell0 R4.out
    have pa : W4.cell? ⟨w.heap.size + 1, 0, none⟩ = some (.int .i64 p2) := by rw [cell_of_row _ _ _ _ _ _ P4.out]; rfl
    have pb : W4.cell? ⟨w.heap.size + 1, 1, none⟩ = some (.int .i64 q2) := by rw [cell_of_row _ _ _ _ _ _ P4.out]; rfl
    have t4 : ((4 : Int) == 4) = true := by decide
    have t40 : ((0 : Int) == 0) = true := by decide
    by_cases c1 : a1 < 1
    case pos =>
      have tc1 : decide (a1 < 1) = true := decide_eq_true c1
      go_wp2_with fail
      refine (known7_any _).mono ?_
      rintro e W99 ⟨rfl, hb99⟩
      have HEND := Lib.hid (B4.out.trans (hb99.mono B4.out.size)); clear hb99
      go_wp2_with fail
      go_ret
      exact ⟨rfl, HEND.out⟩
    have tc1 : decide (a1 < 1) = false := decide_eq_false c1
    have c2 : 13 < a1 := by apply Classical.byContradiction; intro h; exact HK.out ⟨by omega, by omega⟩
    have tc2 : decide (13 < a1) = true := decide_eq_true c2
    go_wp2_with fail
    refine (known7_any _).mono ?_
    rintro e W99 ⟨rfl, hb99⟩
    have HEND := Lib.hid (B4.out.trans (hb99.mono B4.out.size)); clear hb99
    go_wp2_with fail
    go_ret
    exact ⟨rfl, HEND.out⟩
  obtain ⟨na, hna⟩ : ∃ na : Nat, na = p2.toNat := ⟨_, rfl⟩
  obtain ⟨nb, hnb⟩ : ∃ nb : Nat, nb = q2.toNat := ⟨_, rfl⟩
  obtain ⟨nk, hnk⟩ : ∃ nk : Nat, nk = a1.toNat := ⟨_, rfl⟩
  have NA := Lib.hid (show na < x0.ev.length ∧ (na : Int) = p2 by have := I1.out; omega)
  have NB := Lib.hid (show nb < x0.ev.length ∧ (nb : Int) = q2 by have := I2.out; omega)
  have NK := Lib.hid (show (nk : Int) = a1 ∧ 1 ≤ nk ∧ nk ≤ 13 by omega)
  obtain ⟨u, hu⟩ : ∃ u, Ev.rule x0 (nk : Int) na nb = u := ⟨_, rfl⟩
  have HU := Lib.hid hu
  obtain rfl : e1 = .returned (.tuple #[.bool u, .int .i64 0]) := by
    rcases hr1 with ⟨hc, _⟩ | ⟨_, hh, _⟩ | ⟨_, _, _, hr⟩
    · exact absurd hv hc
    · rcases hh with hh | hh | hh
      · exact absurd hi hh
      · omega
      · omega
    · rw [← hna, ← hnb, ← hnk, Or.rule_eq hv NA.out.1 NB.out.1 nk NK.out.2.1 NK.out.2.2, hu] at hr; exact hr
  have c1 : ¬ a1 < 1 := by omega
  have tc1 : decide (a1 < 1) = false := decide_eq_false c1
  have c2 : ¬ 13 < a1 := by omega
  have tc2 : decide (13 < a1) = false := decide_eq_false c2
  have tu : (u == u) = true := by simp
  clear hr1 hk hi hu hna hnb hnk
  have pa : W2.cell? ⟨w.heap.size + 1, 0, none⟩ = some (.int .i64 p2) := by rw [cell_of_row _ _ _ _ _ _ P2.out]; rfl
  have pb : W2.cell? ⟨w.heap.size + 1, 1, none⟩ = some (.int .i64 q2) := by rw [cell_of_row _ _ _ _ _ _ P2.out]; rfl
  go_wp2_with ((with_reducible show wpList _ _ _ (Oper.mk (some 34) _ _ _ _ _ :: _) _ _); refine wpList_load_row rfl 26 (.tmp 3) rfl w.heap.size (by kernel_rfl) 26 (Ev.xcells x0).toArray (0, 0) _ R2.out Try.underlying26 rfl (by kernel_rfl) ?_)
  refine (orules_any x0 p2 q2 l2 m2 _ (HIN.out.kp (Ev.kp_below B2.out))).mono ?_
  rintro e2 W3 ⟨hb3, hr2⟩
  obtain ⟨ad, cc, rfl⟩ : ∃ ad cc, e2 = .returned (.tuple #[.slice ad (Or.ints (Or.hold x0 p2.toNat q2.toNat)).length cc, .int .i64 0]) := by
    rcases hr2 with ⟨hc, _⟩ | ⟨_, hh, _⟩ | ⟨_, _, ad, cc, hr, _⟩
    · exact absurd hv hc
    · exact absurd HI.out hh
    · exact ⟨ad, cc, hr⟩
  have B3 := Lib.hid (B2.out.trans (hb3.mono B2.out.size))
  have R3 := Lib.hid ((hb3.block w.heap.size (Array.getElem?_eq_some_iff.1 R2.out).1).trans R2.out)
  have P3 := Lib.hid ((hb3.block (w.heap.size + 1) (Array.getElem?_eq_some_iff.1 P2.out).1).trans P2.out)
  obtain ⟨LL, hLL⟩ : ∃ LL, (Or.ints (Or.hold x0 p2.toNat q2.toNat)).length = LL := ⟨_, rfl⟩
  rw [hLL]
  have HC := Lib.hid hv
  clear hb3 hr2 pa pb hv hLL
  go_wp2_with ((with_reducible show wpList _ _ _ (Oper.mk (some 42) _ _ _ _ _ :: _) _ _); refine wpList_load_row rfl 26 (.tmp 3) rfl w.heap.size (by kernel_rfl) 26 (Ev.xcells x0).toArray (0, 0) _ R3.out Try.underlying26 rfl (by kernel_rfl) ?_)
  refine (rcheck_is HV.out _ (HIN.out.kp (Ev.kp_below B3.out))).mono ?_
  rintro e W4 ⟨rfl, hb4⟩
  have B4 := Lib.hid (B3.out.trans (hb4.mono B3.out.size))
  have R4 := Lib.hid ((hb4.block w.heap.size (Array.getElem?_eq_some_iff.1 R3.out).1).trans R3.out)
  have P4 := Lib.hid ((hb4.block (w.heap.size + 1) (Array.getElem?_eq_some_iff.1 P3.out).1).trans P3.out)
  clear hb4
  have cx := Ev.xcell0 R4.out
  have pa : W4.cell? ⟨w.heap.size + 1, 0, none⟩ = some (.int .i64 p2) := by rw [cell_of_row _ _ _ _ _ _ P4.out]; rfl
  have pb : W4.cell? ⟨w.heap.size + 1, 1, none⟩ = some (.int .i64 q2) := by rw [cell_of_row _ _ _ _ _ _ P4.out]; rfl
  have t4 : ((4 : Int) == 4) = true := by decide
  have t40 : ((0 : Int) == 0) = true := by decide
  go_wp2_with ((with_reducible show wpList _ _ _ (Oper.mk (some 132) _ _ _ _ _ :: _) _ _); refine Ev.load_row_g 26 (.tmp 3) rfl rfl w.heap.size (by kernel_rfl) 26 (Ev.xcells x0).toArray (0, 0) _ R4.out Try.underlying26 rfl (by kernel_rfl) ?_)
  have hrr := rrule_is HU.out NK.out.2.1 NK.out.2.2 NA.out.1 NB.out.1 (check_from HC.out) W4 (HIN.out.kp (Ev.kp_below B4.out))
  rw [NA.out.2, NB.out.2, NK.out.1] at hrr
  refine hrr.mono ?_
  clear hrr
  rintro e W5 ⟨rfl, hb5⟩
  have B5 := Lib.hid (B4.out.trans (hb5.mono B4.out.size)); clear hb5
  cases u
  · go_wp2_with fail
    refine (known7_any _).mono ?_
    rintro e W99 ⟨rfl, hb99⟩
    have HEND := Lib.hid (B5.out.trans (hb99.mono B5.out.size)); clear hb99
    go_wp2_with fail
    go_ret
    exact ⟨rfl, HEND.out⟩
  · go_wp2_with fail
    refine (known7_any _).mono ?_
    rintro e W99 ⟨rfl, hb99⟩
    have HEND := Lib.hid (B5.out.trans (hb99.mono B5.out.size)); clear hb99
    go_wp2_with fail
    go_ret
    exact ⟨rfl, HEND.out⟩

/-! THE ROW -/
set_option maxRecDepth 100000 in
theorem lifted (os : Os) (started : os.Started) (H : Type) (enc : TypeId × Value → H) :
    ReturnsInHanded {} Try.checked os 6 .any (Rows.orderRuleSpec.pre6 enc Try.prog Try.f6 Rows.orderRuleRow.domain false) (Rows.orderRuleSpec.post enc Try.prog Try.f6 false true false false) := by
  refine returnsInHanded_of_change (C := Try.checked) own started (by kernel_rfl) Try.func6
    (ChangeSpec.witness6 (enc := enc) (C := Try.checked) false ⟨#[], #[.agg #[.slice none 0 0, .slice none 0 0, .slice none 0 0], .int .i64 0, .agg #[.int .i64 0, .int .i64 0]], []⟩ 8 (by kernel_rfl) (by kernel_rfl) (by kernel_rfl) (by kernel_rfl)) ?_
  intro W base args ds gs before hval0 hW hcnd _
  have hval : ∀ (j : Nat) t v, Try.f6.params[j]? = some t → args[j]? = some v → Value.okWide Try.prog W .any base t v := hval0
  have hW' := hW
  obtain ⟨p, q, hA0, hV, rfl, hfz, hnd⟩ := hW
  have hA : DataW.TrodAll enc Try.prog W 0 (fun _ => true) true Try.f6.params.toList args.toList ds p := hA0
  rw [Try.params6] at hA hval
  obtain ⟨v0, vs0, d0, ds0, p0, q0, hargs, rfl, rfl, h0, r0⟩ := trodAll_cons hA
  obtain ⟨v1, vs1, d1, ds1, p1, q1, rfl, rfl, rfl, h1, r1⟩ := trodAll_cons r0
  obtain ⟨v2, vs2, d2, ds2, p2, q2, rfl, rfl, rfl, h2, r2⟩ := trodAll_cons r1
  obtain ⟨rfl, rfl, rfl⟩ := trodAll_nil r2
  obtain rfl : args = #[v0, v1, v2] := by cases args; simp_all
  obtain ⟨rfl, rfl⟩ := trodVars_none hV
  clear hA0 hval0
  simp only [List.append_nil] at hW'
  have hlt : ∀ x ∈ p0 ++ (p1 ++ (p2)), x.block < W.heap.size := fun x hx => by simpa using hW'.lt x (by simpa using hx)
  obtain ⟨x0, rfl, b0⟩ := open_exec (hval 0 26 v0 rfl rfl) h0
  have h1k := h1
  obtain ⟨a1, rfl, rfl, rfl, w1⟩ := open_int Try.underlying3 (hval 1 3 v1 rfl rfl) h1
  obtain ⟨p2, q2, rfl, l2, m2⟩ := open_pair (hval 2 43 v2 rfl rfl) h2
  refine (walk W x0 b0 a1 w1 p2 q2 l2 m2).mono fun e W' ⟨he, hb⟩ => ?_
  subst he
  have harg0 : DataW.Trod enc Try.prog W' 0 (fun b => decide (b < W.heap.size)) true 26 _ _ _ := Below.trod laidOut (by kernel_rfl) (of_decide_eq_true (by kernel_rfl)) h0 hb (fun x hx => hlt x (by simp [hx]))
  have harg1 : DataW.Trod enc Try.prog W' 0 (fun b => decide (b < W.heap.size)) true 3 _ _ _ := Below.trod laidOut (by kernel_rfl) (of_decide_eq_true (by kernel_rfl)) h1k hb (fun x hx => by cases hx)
  have harg2 : DataW.Trod enc Try.prog W' 0 (fun b => decide (b < W.heap.size)) true 43 _ _ _ := Below.trod laidOut (by kernel_rfl) (of_decide_eq_true (by kernel_rfl)) h2 hb (fun x hx => hlt x (by simp [hx]))
  exact ⟨_, rfl, _, _, _, [], _, [], hW', trodAll_mk1 (shut_bool Try.underlying4 _), (trodAll_cons_mk harg0 (trodAll_cons_mk harg1 (trodAll_cons_mk harg2 trodAll_mk0))), rfl, hb.frame _, fun h => by cases h⟩

theorem over : Rows.orderRuleRow.holds Try.pinned (OpenSpec.ofChange Rows.orderRuleSpec) :=
  OpenClaim.holds_of_wide 6 Try.f6 rfl rfl rfl rfl rfl rfl rfl ⟨rfl, rfl, rfl, rfl, rfl⟩ rfl rfl rfl rfl rfl (by kernel_rfl) Try.func6 (by kernel_rfl)
    (of_decide_eq_true (by kernel_rfl)) (by unfold Func.isWrapper; first | (rw [if_pos (by decide +kernel)]; kernel_rfl) | (rw [if_neg (by decide +kernel)]; exact ⟨rfl, rfl⟩))
    (fun os started H enc _ => lifted os started H enc)

/-- THE STATEMENT -/
theorem proved : Rows.OrderRuleSaid :=
  over
end Go.Proofs.Ytoicmhidmknfiaa.orderRule
