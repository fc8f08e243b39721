/-
  Branches.
-/
import Derived.Test.YtianojbdabeoeaaGreatDoorHtMeans
namespace Go.Proofs.YtianojbdabeoeaaGreatDoor
open Go.RowKit Ht
set_option linter.unusedVariables false
set_option maxHeartbeats 1000000 in
theorem m5 (s : S) (p : Nat) (w : World) (hs : Stp w p s) (hop : s.i.op = 5) (hA : s.a = A0) (K : GoodS s) : Means 111 p w s := by
  have hv : taken s.i.op s.first s.second = (s.first == s.second) := by rw [hop]; rfl
  by_cases hj : (s.first == s.second) = true
  · have hw : whyS s = if Ar.add s.h.pc s.i.imm % 4 ≠ 0 then 3 else 0 := why_jump s (by omega) (by omega) (hv.trans hj)
    have ha : after s = { s with next := Ar.add s.h.pc s.i.imm } := after_jump s (by omega) (by omega) (hv.trans hj) hA
    rw [Means, hw, ha]
    have HS := Lib.hid hs; have HJ := Lib.hid hj; clear hs hw ha hv hop hA
    by_cases h4 : Ar.add s.h.pc s.i.imm % 4 = 0
    · rw [if_neg (fun h => h h4)]
      refine ⟨fun _ => ?_, fun h => absurd rfl h⟩
      have H4 := Lib.hid h4; clear h4 hj
      go_enter Tryz.func111, Tryz.ntmps111
      go_wp2_with fail
      refine (first_s s p _ HS.out K.rs1).mono ?_
      rintro e w1 ⟨rfl, hl⟩
      have HL1 := Lib.hid hl; clear hl
      go_wp2_with fail
      refine (second_s s p _ HL1.out.1 K.rs2).mono ?_
      rintro e w2 ⟨rfl, hl⟩
      have HL2 := Lib.hid (HL1.out.trans hl); clear hl HL1
      go_wp2_with fail
      rw [HJ.out]
      refine (branch_ok s p _ HL2.out.1 H4.out).mono ?_
      rintro e w4 ⟨rfl, hl⟩
      have HL4 := Lib.hid (HL2.out.trans hl); clear hl
      go_wp2
      go_end0
      exact ⟨rfl, HL4.out⟩
    · rw [if_pos h4]
      refine ⟨fun h => (by cases h), fun _ => ?_⟩
      have H4 := Lib.hid h4; clear h4 hj
      go_enter Tryz.func111, Tryz.ntmps111
      go_wp2_with fail
      refine (first_s s p _ HS.out K.rs1).mono ?_
      rintro e w1 ⟨rfl, hl⟩
      have HL1 := Lib.hid hl; clear hl
      go_wp2_with fail
      refine (second_s s p _ HL1.out.1 K.rs2).mono ?_
      rintro e w2 ⟨rfl, hl⟩
      have HL2 := Lib.hid (HL1.out.trans hl); clear hl HL1
      go_wp2_with fail
      rw [HJ.out]
      refine (branch_bad s p _ HL2.out.1 H4.out).mono ?_
      rintro e w4 ⟨rfl, ho⟩
      have HO := Lib.hid (HL2.out.2.trans ho); clear ho
      go_wp2
      exact ⟨rfl, rfl, HO.out⟩
  · have hw : whyS s = 0 := why_stay s (by omega) (by omega) (hv.trans (by simpa using hj))
    have ha : after s = s := after_stay s (by omega) (by omega) (hv.trans (by simpa using hj)) hA
    rw [Means, hw, ha]
    have hj' : (s.first == s.second) = false := by simpa using hj
    have HS := Lib.hid hs; have HJ := Lib.hid hj'; clear hs hw ha hv hop hA hj hj'
    refine ⟨fun _ => ?_, fun h => absurd rfl h⟩
    go_enter Tryz.func111, Tryz.ntmps111
    go_wp2_with fail
    refine (first_s s p _ HS.out K.rs1).mono ?_
    rintro e w1 ⟨rfl, hl⟩
    have HL1 := Lib.hid hl; clear hl
    go_wp2_with fail
    refine (second_s s p _ HL1.out.1 K.rs2).mono ?_
    rintro e w2 ⟨rfl, hl⟩
    have HL2 := Lib.hid (HL1.out.trans hl); clear hl HL1
    go_wp2_with fail
    rw [HJ.out]
    refine (branch_no p _).mono ?_
    rintro e w4 ⟨rfl, rfl⟩
    go_wp2
    go_end0
    exact ⟨rfl, HL2.out⟩
set_option maxHeartbeats 1000000 in
theorem m6 (s : S) (p : Nat) (w : World) (hs : Stp w p s) (hop : s.i.op = 6) (hA : s.a = A0) (K : GoodS s) : Means 114 p w s := by
  have hv : taken s.i.op s.first s.second = (s.first != s.second) := by rw [hop]; rfl
  by_cases hj : (s.first != s.second) = true
  · have hw : whyS s = if Ar.add s.h.pc s.i.imm % 4 ≠ 0 then 3 else 0 := why_jump s (by omega) (by omega) (hv.trans hj)
    have ha : after s = { s with next := Ar.add s.h.pc s.i.imm } := after_jump s (by omega) (by omega) (hv.trans hj) hA
    rw [Means, hw, ha]
    have HS := Lib.hid hs; have HJ := Lib.hid hj; clear hs hw ha hv hop hA
    by_cases h4 : Ar.add s.h.pc s.i.imm % 4 = 0
    · rw [if_neg (fun h => h h4)]
      refine ⟨fun _ => ?_, fun h => absurd rfl h⟩
      have H4 := Lib.hid h4; clear h4 hj
      go_enter Tryz.func114, Tryz.ntmps114
      go_wp2_with fail
      refine (first_s s p _ HS.out K.rs1).mono ?_
      rintro e w1 ⟨rfl, hl⟩
      have HL1 := Lib.hid hl; clear hl
      go_wp2_with fail
      refine (second_s s p _ HL1.out.1 K.rs2).mono ?_
      rintro e w2 ⟨rfl, hl⟩
      have HL2 := Lib.hid (HL1.out.trans hl); clear hl HL1
      go_wp2_with fail
      rw [HJ.out]
      refine (branch_ok s p _ HL2.out.1 H4.out).mono ?_
      rintro e w4 ⟨rfl, hl⟩
      have HL4 := Lib.hid (HL2.out.trans hl); clear hl
      go_wp2
      go_end0
      exact ⟨rfl, HL4.out⟩
    · rw [if_pos h4]
      refine ⟨fun h => (by cases h), fun _ => ?_⟩
      have H4 := Lib.hid h4; clear h4 hj
      go_enter Tryz.func114, Tryz.ntmps114
      go_wp2_with fail
      refine (first_s s p _ HS.out K.rs1).mono ?_
      rintro e w1 ⟨rfl, hl⟩
      have HL1 := Lib.hid hl; clear hl
      go_wp2_with fail
      refine (second_s s p _ HL1.out.1 K.rs2).mono ?_
      rintro e w2 ⟨rfl, hl⟩
      have HL2 := Lib.hid (HL1.out.trans hl); clear hl HL1
      go_wp2_with fail
      rw [HJ.out]
      refine (branch_bad s p _ HL2.out.1 H4.out).mono ?_
      rintro e w4 ⟨rfl, ho⟩
      have HO := Lib.hid (HL2.out.2.trans ho); clear ho
      go_wp2
      exact ⟨rfl, rfl, HO.out⟩
  · have hw : whyS s = 0 := why_stay s (by omega) (by omega) (hv.trans (by simpa using hj))
    have ha : after s = s := after_stay s (by omega) (by omega) (hv.trans (by simpa using hj)) hA
    rw [Means, hw, ha]
    have hj' : (s.first != s.second) = false := by simpa using hj
    have HS := Lib.hid hs; have HJ := Lib.hid hj'; clear hs hw ha hv hop hA hj hj'
    refine ⟨fun _ => ?_, fun h => absurd rfl h⟩
    go_enter Tryz.func114, Tryz.ntmps114
    go_wp2_with fail
    refine (first_s s p _ HS.out K.rs1).mono ?_
    rintro e w1 ⟨rfl, hl⟩
    have HL1 := Lib.hid hl; clear hl
    go_wp2_with fail
    refine (second_s s p _ HL1.out.1 K.rs2).mono ?_
    rintro e w2 ⟨rfl, hl⟩
    have HL2 := Lib.hid (HL1.out.trans hl); clear hl HL1
    go_wp2_with fail
    rw [HJ.out]
    refine (branch_no p _).mono ?_
    rintro e w4 ⟨rfl, rfl⟩
    go_wp2
    go_end0
    exact ⟨rfl, HL2.out⟩
set_option maxHeartbeats 1000000 in
theorem m7 (s : S) (p : Nat) (w : World) (hs : Stp w p s) (hop : s.i.op = 7) (hA : s.a = A0) (K : GoodS s) : Means 115 p w s := by
  have hv : taken s.i.op s.first s.second = (Ar.less s.first s.second) := by rw [hop]; rfl
  by_cases hj : (Ar.less s.first s.second) = true
  · have hw : whyS s = if Ar.add s.h.pc s.i.imm % 4 ≠ 0 then 3 else 0 := why_jump s (by omega) (by omega) (hv.trans hj)
    have ha : after s = { s with next := Ar.add s.h.pc s.i.imm } := after_jump s (by omega) (by omega) (hv.trans hj) hA
    rw [Means, hw, ha]
    have HS := Lib.hid hs; have HJ := Lib.hid hj; clear hs hw ha hv hop hA
    by_cases h4 : Ar.add s.h.pc s.i.imm % 4 = 0
    · rw [if_neg (fun h => h h4)]
      refine ⟨fun _ => ?_, fun h => absurd rfl h⟩
      have H4 := Lib.hid h4; clear h4 hj
      go_enter Tryz.func115, Tryz.ntmps115
      go_wp2_with fail
      refine (first_s s p _ HS.out K.rs1).mono ?_
      rintro e w1 ⟨rfl, hl⟩
      have HL1 := Lib.hid hl; clear hl
      go_wp2_with fail
      refine (second_s s p _ HL1.out.1 K.rs2).mono ?_
      rintro e w2 ⟨rfl, hl⟩
      have HL2 := Lib.hid (HL1.out.trans hl); clear hl HL1
      go_wp2_with fail
      refine (less_any _ _ (by exact K.R _) (by exact K.R _) _).mono ?_
      rintro e w3 ⟨rfl, rfl⟩
      go_wp2_with fail
      rw [HJ.out]
      refine (branch_ok s p _ HL2.out.1 H4.out).mono ?_
      rintro e w4 ⟨rfl, hl⟩
      have HL4 := Lib.hid (HL2.out.trans hl); clear hl
      go_wp2
      go_end0
      exact ⟨rfl, HL4.out⟩
    · rw [if_pos h4]
      refine ⟨fun h => (by cases h), fun _ => ?_⟩
      have H4 := Lib.hid h4; clear h4 hj
      go_enter Tryz.func115, Tryz.ntmps115
      go_wp2_with fail
      refine (first_s s p _ HS.out K.rs1).mono ?_
      rintro e w1 ⟨rfl, hl⟩
      have HL1 := Lib.hid hl; clear hl
      go_wp2_with fail
      refine (second_s s p _ HL1.out.1 K.rs2).mono ?_
      rintro e w2 ⟨rfl, hl⟩
      have HL2 := Lib.hid (HL1.out.trans hl); clear hl HL1
      go_wp2_with fail
      refine (less_any _ _ (by exact K.R _) (by exact K.R _) _).mono ?_
      rintro e w3 ⟨rfl, rfl⟩
      go_wp2_with fail
      rw [HJ.out]
      refine (branch_bad s p _ HL2.out.1 H4.out).mono ?_
      rintro e w4 ⟨rfl, ho⟩
      have HO := Lib.hid (HL2.out.2.trans ho); clear ho
      go_wp2
      exact ⟨rfl, rfl, HO.out⟩
  · have hw : whyS s = 0 := why_stay s (by omega) (by omega) (hv.trans (by simpa using hj))
    have ha : after s = s := after_stay s (by omega) (by omega) (hv.trans (by simpa using hj)) hA
    rw [Means, hw, ha]
    have hj' : (Ar.less s.first s.second) = false := by simpa using hj
    have HS := Lib.hid hs; have HJ := Lib.hid hj'; clear hs hw ha hv hop hA hj hj'
    refine ⟨fun _ => ?_, fun h => absurd rfl h⟩
    go_enter Tryz.func115, Tryz.ntmps115
    go_wp2_with fail
    refine (first_s s p _ HS.out K.rs1).mono ?_
    rintro e w1 ⟨rfl, hl⟩
    have HL1 := Lib.hid hl; clear hl
    go_wp2_with fail
    refine (second_s s p _ HL1.out.1 K.rs2).mono ?_
    rintro e w2 ⟨rfl, hl⟩
    have HL2 := Lib.hid (HL1.out.trans hl); clear hl HL1
    go_wp2_with fail
    refine (less_any _ _ (by exact K.R _) (by exact K.R _) _).mono ?_
    rintro e w3 ⟨rfl, rfl⟩
    go_wp2_with fail
    rw [HJ.out]
    refine (branch_no p _).mono ?_
    rintro e w4 ⟨rfl, rfl⟩
    go_wp2
    go_end0
    exact ⟨rfl, HL2.out⟩
set_option maxHeartbeats 1000000 in
theorem m8 (s : S) (p : Nat) (w : World) (hs : Stp w p s) (hop : s.i.op = 8) (hA : s.a = A0) (K : GoodS s) : Means 117 p w s := by
  have hv : taken s.i.op s.first s.second = (!(Ar.less s.first s.second)) := by rw [hop]; rfl
  by_cases hj : (!(Ar.less s.first s.second)) = true
  · have hw : whyS s = if Ar.add s.h.pc s.i.imm % 4 ≠ 0 then 3 else 0 := why_jump s (by omega) (by omega) (hv.trans hj)
    have ha : after s = { s with next := Ar.add s.h.pc s.i.imm } := after_jump s (by omega) (by omega) (hv.trans hj) hA
    rw [Means, hw, ha]
    have HS := Lib.hid hs; have HJ := Lib.hid hj; clear hs hw ha hv hop hA
    by_cases h4 : Ar.add s.h.pc s.i.imm % 4 = 0
    · rw [if_neg (fun h => h h4)]
      refine ⟨fun _ => ?_, fun h => absurd rfl h⟩
      have H4 := Lib.hid h4; clear h4 hj
      go_enter Tryz.func117, Tryz.ntmps117
      go_wp2_with fail
      refine (first_s s p _ HS.out K.rs1).mono ?_
      rintro e w1 ⟨rfl, hl⟩
      have HL1 := Lib.hid hl; clear hl
      go_wp2_with fail
      refine (second_s s p _ HL1.out.1 K.rs2).mono ?_
      rintro e w2 ⟨rfl, hl⟩
      have HL2 := Lib.hid (HL1.out.trans hl); clear hl HL1
      go_wp2_with fail
      refine (less_any _ _ (by exact K.R _) (by exact K.R _) _).mono ?_
      rintro e w3 ⟨rfl, rfl⟩
      go_wp2_with fail
      rw [HJ.out]
      refine (branch_ok s p _ HL2.out.1 H4.out).mono ?_
      rintro e w4 ⟨rfl, hl⟩
      have HL4 := Lib.hid (HL2.out.trans hl); clear hl
      go_wp2
      go_end0
      exact ⟨rfl, HL4.out⟩
    · rw [if_pos h4]
      refine ⟨fun h => (by cases h), fun _ => ?_⟩
      have H4 := Lib.hid h4; clear h4 hj
      go_enter Tryz.func117, Tryz.ntmps117
      go_wp2_with fail
      refine (first_s s p _ HS.out K.rs1).mono ?_
      rintro e w1 ⟨rfl, hl⟩
      have HL1 := Lib.hid hl; clear hl
      go_wp2_with fail
      refine (second_s s p _ HL1.out.1 K.rs2).mono ?_
      rintro e w2 ⟨rfl, hl⟩
      have HL2 := Lib.hid (HL1.out.trans hl); clear hl HL1
      go_wp2_with fail
      refine (less_any _ _ (by exact K.R _) (by exact K.R _) _).mono ?_
      rintro e w3 ⟨rfl, rfl⟩
      go_wp2_with fail
      rw [HJ.out]
      refine (branch_bad s p _ HL2.out.1 H4.out).mono ?_
      rintro e w4 ⟨rfl, ho⟩
      have HO := Lib.hid (HL2.out.2.trans ho); clear ho
      go_wp2
      exact ⟨rfl, rfl, HO.out⟩
  · have hw : whyS s = 0 := why_stay s (by omega) (by omega) (hv.trans (by simpa using hj))
    have ha : after s = s := after_stay s (by omega) (by omega) (hv.trans (by simpa using hj)) hA
    rw [Means, hw, ha]
    have hj' : (!(Ar.less s.first s.second)) = false := by simpa using hj
    have HS := Lib.hid hs; have HJ := Lib.hid hj'; clear hs hw ha hv hop hA hj hj'
    refine ⟨fun _ => ?_, fun h => absurd rfl h⟩
    go_enter Tryz.func117, Tryz.ntmps117
    go_wp2_with fail
    refine (first_s s p _ HS.out K.rs1).mono ?_
    rintro e w1 ⟨rfl, hl⟩
    have HL1 := Lib.hid hl; clear hl
    go_wp2_with fail
    refine (second_s s p _ HL1.out.1 K.rs2).mono ?_
    rintro e w2 ⟨rfl, hl⟩
    have HL2 := Lib.hid (HL1.out.trans hl); clear hl HL1
    go_wp2_with fail
    refine (less_any _ _ (by exact K.R _) (by exact K.R _) _).mono ?_
    rintro e w3 ⟨rfl, rfl⟩
    go_wp2_with fail
    rw [HJ.out]
    refine (branch_no p _).mono ?_
    rintro e w4 ⟨rfl, rfl⟩
    go_wp2
    go_end0
    exact ⟨rfl, HL2.out⟩
set_option maxHeartbeats 1000000 in
theorem m9 (s : S) (p : Nat) (w : World) (hs : Stp w p s) (hop : s.i.op = 9) (hA : s.a = A0) (K : GoodS s) : Means 118 p w s := by
  have hv : taken s.i.op s.first s.second = (Ar.lessu s.first s.second) := by rw [hop]; rfl
  by_cases hj : (Ar.lessu s.first s.second) = true
  · have hw : whyS s = if Ar.add s.h.pc s.i.imm % 4 ≠ 0 then 3 else 0 := why_jump s (by omega) (by omega) (hv.trans hj)
    have ha : after s = { s with next := Ar.add s.h.pc s.i.imm } := after_jump s (by omega) (by omega) (hv.trans hj) hA
    rw [Means, hw, ha]
    have HS := Lib.hid hs; have HJ := Lib.hid hj; clear hs hw ha hv hop hA
    by_cases h4 : Ar.add s.h.pc s.i.imm % 4 = 0
    · rw [if_neg (fun h => h h4)]
      refine ⟨fun _ => ?_, fun h => absurd rfl h⟩
      have H4 := Lib.hid h4; clear h4 hj
      go_enter Tryz.func118, Tryz.ntmps118
      go_wp2_with fail
      refine (first_s s p _ HS.out K.rs1).mono ?_
      rintro e w1 ⟨rfl, hl⟩
      have HL1 := Lib.hid hl; clear hl
      go_wp2_with fail
      refine (second_s s p _ HL1.out.1 K.rs2).mono ?_
      rintro e w2 ⟨rfl, hl⟩
      have HL2 := Lib.hid (HL1.out.trans hl); clear hl HL1
      go_wp2_with fail
      refine (lessu_any _ _  _).mono ?_
      rintro e w3 ⟨rfl, rfl⟩
      go_wp2_with fail
      rw [HJ.out]
      refine (branch_ok s p _ HL2.out.1 H4.out).mono ?_
      rintro e w4 ⟨rfl, hl⟩
      have HL4 := Lib.hid (HL2.out.trans hl); clear hl
      go_wp2
      go_end0
      exact ⟨rfl, HL4.out⟩
    · rw [if_pos h4]
      refine ⟨fun h => (by cases h), fun _ => ?_⟩
      have H4 := Lib.hid h4; clear h4 hj
      go_enter Tryz.func118, Tryz.ntmps118
      go_wp2_with fail
      refine (first_s s p _ HS.out K.rs1).mono ?_
      rintro e w1 ⟨rfl, hl⟩
      have HL1 := Lib.hid hl; clear hl
      go_wp2_with fail
      refine (second_s s p _ HL1.out.1 K.rs2).mono ?_
      rintro e w2 ⟨rfl, hl⟩
      have HL2 := Lib.hid (HL1.out.trans hl); clear hl HL1
      go_wp2_with fail
      refine (lessu_any _ _  _).mono ?_
      rintro e w3 ⟨rfl, rfl⟩
      go_wp2_with fail
      rw [HJ.out]
      refine (branch_bad s p _ HL2.out.1 H4.out).mono ?_
      rintro e w4 ⟨rfl, ho⟩
      have HO := Lib.hid (HL2.out.2.trans ho); clear ho
      go_wp2
      exact ⟨rfl, rfl, HO.out⟩
  · have hw : whyS s = 0 := why_stay s (by omega) (by omega) (hv.trans (by simpa using hj))
    have ha : after s = s := after_stay s (by omega) (by omega) (hv.trans (by simpa using hj)) hA
    rw [Means, hw, ha]
    have hj' : (Ar.lessu s.first s.second) = false := by simpa using hj
    have HS := Lib.hid hs; have HJ := Lib.hid hj'; clear hs hw ha hv hop hA hj hj'
    refine ⟨fun _ => ?_, fun h => absurd rfl h⟩
    go_enter Tryz.func118, Tryz.ntmps118
    go_wp2_with fail
    refine (first_s s p _ HS.out K.rs1).mono ?_
    rintro e w1 ⟨rfl, hl⟩
    have HL1 := Lib.hid hl; clear hl
    go_wp2_with fail
    refine (second_s s p _ HL1.out.1 K.rs2).mono ?_
    rintro e w2 ⟨rfl, hl⟩
    have HL2 := Lib.hid (HL1.out.trans hl); clear hl HL1
    go_wp2_with fail
    refine (lessu_any _ _  _).mono ?_
    rintro e w3 ⟨rfl, rfl⟩
    go_wp2_with fail
    rw [HJ.out]
    refine (branch_no p _).mono ?_
    rintro e w4 ⟨rfl, rfl⟩
    go_wp2
    go_end0
    exact ⟨rfl, HL2.out⟩
set_option maxHeartbeats 1000000 in
theorem m10 (s : S) (p : Nat) (w : World) (hs : Stp w p s) (hop : s.i.op = 10) (hA : s.a = A0) (K : GoodS s) : Means 120 p w s := by
  have hv : taken s.i.op s.first s.second = (!(Ar.lessu s.first s.second)) := by rw [hop]; rfl
  by_cases hj : (!(Ar.lessu s.first s.second)) = true
  · have hw : whyS s = if Ar.add s.h.pc s.i.imm % 4 ≠ 0 then 3 else 0 := why_jump s (by omega) (by omega) (hv.trans hj)
    have ha : after s = { s with next := Ar.add s.h.pc s.i.imm } := after_jump s (by omega) (by omega) (hv.trans hj) hA
    rw [Means, hw, ha]
    have HS := Lib.hid hs; have HJ := Lib.hid hj; clear hs hw ha hv hop hA
    by_cases h4 : Ar.add s.h.pc s.i.imm % 4 = 0
    · rw [if_neg (fun h => h h4)]
      refine ⟨fun _ => ?_, fun h => absurd rfl h⟩
      have H4 := Lib.hid h4; clear h4 hj
      go_enter Tryz.func120, Tryz.ntmps120
      go_wp2_with fail
      refine (first_s s p _ HS.out K.rs1).mono ?_
      rintro e w1 ⟨rfl, hl⟩
      have HL1 := Lib.hid hl; clear hl
      go_wp2_with fail
      refine (second_s s p _ HL1.out.1 K.rs2).mono ?_
      rintro e w2 ⟨rfl, hl⟩
      have HL2 := Lib.hid (HL1.out.trans hl); clear hl HL1
      go_wp2_with fail
      refine (lessu_any _ _  _).mono ?_
      rintro e w3 ⟨rfl, rfl⟩
      go_wp2_with fail
      rw [HJ.out]
      refine (branch_ok s p _ HL2.out.1 H4.out).mono ?_
      rintro e w4 ⟨rfl, hl⟩
      have HL4 := Lib.hid (HL2.out.trans hl); clear hl
      go_wp2
      go_end0
      exact ⟨rfl, HL4.out⟩
    · rw [if_pos h4]
      refine ⟨fun h => (by cases h), fun _ => ?_⟩
      have H4 := Lib.hid h4; clear h4 hj
      go_enter Tryz.func120, Tryz.ntmps120
      go_wp2_with fail
      refine (first_s s p _ HS.out K.rs1).mono ?_
      rintro e w1 ⟨rfl, hl⟩
      have HL1 := Lib.hid hl; clear hl
      go_wp2_with fail
      refine (second_s s p _ HL1.out.1 K.rs2).mono ?_
      rintro e w2 ⟨rfl, hl⟩
      have HL2 := Lib.hid (HL1.out.trans hl); clear hl HL1
      go_wp2_with fail
      refine (lessu_any _ _  _).mono ?_
      rintro e w3 ⟨rfl, rfl⟩
      go_wp2_with fail
      rw [HJ.out]
      refine (branch_bad s p _ HL2.out.1 H4.out).mono ?_
      rintro e w4 ⟨rfl, ho⟩
      have HO := Lib.hid (HL2.out.2.trans ho); clear ho
      go_wp2
      exact ⟨rfl, rfl, HO.out⟩
  · have hw : whyS s = 0 := why_stay s (by omega) (by omega) (hv.trans (by simpa using hj))
    have ha : after s = s := after_stay s (by omega) (by omega) (hv.trans (by simpa using hj)) hA
    rw [Means, hw, ha]
    have hj' : (!(Ar.lessu s.first s.second)) = false := by simpa using hj
    have HS := Lib.hid hs; have HJ := Lib.hid hj'; clear hs hw ha hv hop hA hj hj'
    refine ⟨fun _ => ?_, fun h => absurd rfl h⟩
    go_enter Tryz.func120, Tryz.ntmps120
    go_wp2_with fail
    refine (first_s s p _ HS.out K.rs1).mono ?_
    rintro e w1 ⟨rfl, hl⟩
    have HL1 := Lib.hid hl; clear hl
    go_wp2_with fail
    refine (second_s s p _ HL1.out.1 K.rs2).mono ?_
    rintro e w2 ⟨rfl, hl⟩
    have HL2 := Lib.hid (HL1.out.trans hl); clear hl HL1
    go_wp2_with fail
    refine (lessu_any _ _  _).mono ?_
    rintro e w3 ⟨rfl, rfl⟩
    go_wp2_with fail
    rw [HJ.out]
    refine (branch_no p _).mono ?_
    rintro e w4 ⟨rfl, rfl⟩
    go_wp2
    go_end0
    exact ⟨rfl, HL2.out⟩
end Go.Proofs.YtianojbdabeoeaaGreatDoor
