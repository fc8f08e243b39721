/-
  What is made of two registers.
-/
import Derived.Test.YtianojbdabeoeaaGreatDoorHtMeans
namespace Go.Proofs.YtianojbdabeoeaaGreatDoor
open Go.RowKit Ht
set_option linter.unusedVariables false
theorem m28 (s : S) (p : Nat) (w : World) (hs : Stp w p s) (hop : s.i.op = 28) (hA : s.a = A0) (K : GoodS s) : Means 146 p w s := by
  have ha : after s = s.put (Ar.add s.first s.second) := by
    obtain ⟨h, ⟨op, rd, rs1, rs2, imm, aq, rl⟩, size, tv, tok, a, nx⟩ := s
    simp only at hop hA
    subst hop hA
    rfl
  have hw : whyS s = 0 := why_plain s hop rfl (by decide) (by decide) (fun _ _ => rfl)
  refine ⟨fun _ => ?_, fun h => absurd hw h⟩
  rw [ha]
  have HS := Lib.hid hs; clear hs ha hw hop hA
  go_enter Tryz.func146, Tryz.ntmps146
  go_wp2_with fail
  refine (first_s s p _ HS.out K.rs1).mono ?_
  rintro e w1 ⟨rfl, hl⟩
  have HL1 := Lib.hid hl; clear hl
  go_wp2_with fail
  refine (second_s s p _ HL1.out.1 K.rs2).mono ?_
  rintro e w2 ⟨rfl, hl⟩
  have HL2 := Lib.hid (HL1.out.trans hl); clear hl HL1
  go_wp2_with fail
  refine (add_any _ _  _).mono ?_
  rintro e w3 ⟨rfl, rfl⟩
  go_wp2_with fail
  refine (put_s s _ p _ HL2.out.1 K.rd).mono ?_
  rintro e w5 ⟨rfl, hl⟩
  have HL5 := Lib.hid (HL2.out.trans hl); clear hl
  go_wp2
  go_end0
  exact ⟨rfl, HL5.out⟩
theorem m29 (s : S) (p : Nat) (w : World) (hs : Stp w p s) (hop : s.i.op = 29) (hA : s.a = A0) (K : GoodS s) : Means 147 p w s := by
  have ha : after s = s.put (Ar.sub s.first s.second) := by
    obtain ⟨h, ⟨op, rd, rs1, rs2, imm, aq, rl⟩, size, tv, tok, a, nx⟩ := s
    simp only at hop hA
    subst hop hA
    rfl
  have hw : whyS s = 0 := why_plain s hop rfl (by decide) (by decide) (fun _ _ => rfl)
  refine ⟨fun _ => ?_, fun h => absurd hw h⟩
  rw [ha]
  have HS := Lib.hid hs; clear hs ha hw hop hA
  go_enter Tryz.func147, Tryz.ntmps147
  go_wp2_with fail
  refine (first_s s p _ HS.out K.rs1).mono ?_
  rintro e w1 ⟨rfl, hl⟩
  have HL1 := Lib.hid hl; clear hl
  go_wp2_with fail
  refine (second_s s p _ HL1.out.1 K.rs2).mono ?_
  rintro e w2 ⟨rfl, hl⟩
  have HL2 := Lib.hid (HL1.out.trans hl); clear hl HL1
  go_wp2_with fail
  refine (sub_any _ _  _).mono ?_
  rintro e w3 ⟨rfl, rfl⟩
  go_wp2_with fail
  refine (put_s s _ p _ HL2.out.1 K.rd).mono ?_
  rintro e w5 ⟨rfl, hl⟩
  have HL5 := Lib.hid (HL2.out.trans hl); clear hl
  go_wp2
  go_end0
  exact ⟨rfl, HL5.out⟩
theorem m30 (s : S) (p : Nat) (w : World) (hs : Stp w p s) (hop : s.i.op = 30) (hA : s.a = A0) (K : GoodS s) : Means 149 p w s := by
  have ha : after s = s.put (Ar.shl s.first s.second) := by
    obtain ⟨h, ⟨op, rd, rs1, rs2, imm, aq, rl⟩, size, tv, tok, a, nx⟩ := s
    simp only at hop hA
    subst hop hA
    rfl
  have hw : whyS s = 0 := why_plain s hop rfl (by decide) (by decide) (fun _ _ => rfl)
  refine ⟨fun _ => ?_, fun h => absurd hw h⟩
  rw [ha]
  have HS := Lib.hid hs; clear hs ha hw hop hA
  go_enter Tryz.func149, Tryz.ntmps149
  go_wp2_with fail
  refine (first_s s p _ HS.out K.rs1).mono ?_
  rintro e w1 ⟨rfl, hl⟩
  have HL1 := Lib.hid hl; clear hl
  go_wp2_with fail
  refine (second_s s p _ HL1.out.1 K.rs2).mono ?_
  rintro e w2 ⟨rfl, hl⟩
  have HL2 := Lib.hid (HL1.out.trans hl); clear hl HL1
  go_wp2_with fail
  refine (shl_any _ _ (by exact K.R _) _).mono ?_
  rintro e w3 ⟨rfl, rfl⟩
  go_wp2_with fail
  refine (put_s s _ p _ HL2.out.1 K.rd).mono ?_
  rintro e w5 ⟨rfl, hl⟩
  have HL5 := Lib.hid (HL2.out.trans hl); clear hl
  go_wp2
  go_end0
  exact ⟨rfl, HL5.out⟩
theorem m31 (s : S) (p : Nat) (w : World) (hs : Stp w p s) (hop : s.i.op = 31) (hA : s.a = A0) (K : GoodS s) : Means 150 p w s := by
  have ha : after s = s.put (b01 (Ar.less s.first s.second)) := by
    obtain ⟨h, ⟨op, rd, rs1, rs2, imm, aq, rl⟩, size, tv, tok, a, nx⟩ := s
    simp only at hop hA
    subst hop hA
    rfl
  have hw : whyS s = 0 := why_plain s hop rfl (by decide) (by decide) (fun _ _ => rfl)
  refine ⟨fun _ => ?_, fun h => absurd hw h⟩
  rw [ha]
  have HS := Lib.hid hs; clear hs ha hw hop hA
  go_enter Tryz.func150, Tryz.ntmps150
  go_wp2_with fail
  refine (first_s s p _ HS.out K.rs1).mono ?_
  rintro e w1 ⟨rfl, hl⟩
  have HL1 := Lib.hid hl; clear hl
  go_wp2_with fail
  refine (second_s s p _ HL1.out.1 K.rs2).mono ?_
  rintro e w2 ⟨rfl, hl⟩
  have HL2 := Lib.hid (HL1.out.trans hl); clear hl HL1
  go_wp2_with fail
  refine (less_any _ _ (by exact K.R _) (by exact K.R _) _).mono ?_
  rintro e w3 ⟨rfl, rfl⟩
  go_wp2_with fail
  refine (hbit_any _ _).mono ?_
  rintro e w4 ⟨rfl, rfl⟩
  go_wp2_with fail
  refine (put_s s _ p _ HL2.out.1 K.rd).mono ?_
  rintro e w5 ⟨rfl, hl⟩
  have HL5 := Lib.hid (HL2.out.trans hl); clear hl
  go_wp2
  go_end0
  exact ⟨rfl, HL5.out⟩
theorem m32 (s : S) (p : Nat) (w : World) (hs : Stp w p s) (hop : s.i.op = 32) (hA : s.a = A0) (K : GoodS s) : Means 151 p w s := by
  have ha : after s = s.put (b01 (Ar.lessu s.first s.second)) := by
    obtain ⟨h, ⟨op, rd, rs1, rs2, imm, aq, rl⟩, size, tv, tok, a, nx⟩ := s
    simp only at hop hA
    subst hop hA
    rfl
  have hw : whyS s = 0 := why_plain s hop rfl (by decide) (by decide) (fun _ _ => rfl)
  refine ⟨fun _ => ?_, fun h => absurd hw h⟩
  rw [ha]
  have HS := Lib.hid hs; clear hs ha hw hop hA
  go_enter Tryz.func151, Tryz.ntmps151
  go_wp2_with fail
  refine (first_s s p _ HS.out K.rs1).mono ?_
  rintro e w1 ⟨rfl, hl⟩
  have HL1 := Lib.hid hl; clear hl
  go_wp2_with fail
  refine (second_s s p _ HL1.out.1 K.rs2).mono ?_
  rintro e w2 ⟨rfl, hl⟩
  have HL2 := Lib.hid (HL1.out.trans hl); clear hl HL1
  go_wp2_with fail
  refine (lessu_any _ _  _).mono ?_
  rintro e w3 ⟨rfl, rfl⟩
  go_wp2_with fail
  refine (hbit_any _ _).mono ?_
  rintro e w4 ⟨rfl, rfl⟩
  go_wp2_with fail
  refine (put_s s _ p _ HL2.out.1 K.rd).mono ?_
  rintro e w5 ⟨rfl, hl⟩
  have HL5 := Lib.hid (HL2.out.trans hl); clear hl
  go_wp2
  go_end0
  exact ⟨rfl, HL5.out⟩
theorem m33 (s : S) (p : Nat) (w : World) (hs : Stp w p s) (hop : s.i.op = 33) (hA : s.a = A0) (K : GoodS s) : Means 152 p w s := by
  have ha : after s = s.put (bits .xor .u32 s.first s.second) := by
    obtain ⟨h, ⟨op, rd, rs1, rs2, imm, aq, rl⟩, size, tv, tok, a, nx⟩ := s
    simp only at hop hA
    subst hop hA
    rfl
  have hw : whyS s = 0 := why_plain s hop rfl (by decide) (by decide) (fun _ _ => rfl)
  refine ⟨fun _ => ?_, fun h => absurd hw h⟩
  rw [ha]
  have HS := Lib.hid hs; clear hs ha hw hop hA
  go_enter Tryz.func152, Tryz.ntmps152
  go_wp2_with fail
  refine (first_s s p _ HS.out K.rs1).mono ?_
  rintro e w1 ⟨rfl, hl⟩
  have HL1 := Lib.hid hl; clear hl
  go_wp2_with fail
  refine (second_s s p _ HL1.out.1 K.rs2).mono ?_
  rintro e w2 ⟨rfl, hl⟩
  have HL2 := Lib.hid (HL1.out.trans hl); clear hl HL1
  go_wp2_with fail
  refine (put_s s _ p _ HL2.out.1 K.rd).mono ?_
  rintro e w5 ⟨rfl, hl⟩
  have HL5 := Lib.hid (HL2.out.trans hl); clear hl
  go_wp2
  go_end0
  exact ⟨rfl, HL5.out⟩
theorem m34 (s : S) (p : Nat) (w : World) (hs : Stp w p s) (hop : s.i.op = 34) (hA : s.a = A0) (K : GoodS s) : Means 153 p w s := by
  have ha : after s = s.put (Ar.shr s.first s.second) := by
    obtain ⟨h, ⟨op, rd, rs1, rs2, imm, aq, rl⟩, size, tv, tok, a, nx⟩ := s
    simp only at hop hA
    subst hop hA
    rfl
  have hw : whyS s = 0 := why_plain s hop rfl (by decide) (by decide) (fun _ _ => rfl)
  refine ⟨fun _ => ?_, fun h => absurd hw h⟩
  rw [ha]
  have HS := Lib.hid hs; clear hs ha hw hop hA
  go_enter Tryz.func153, Tryz.ntmps153
  go_wp2_with fail
  refine (first_s s p _ HS.out K.rs1).mono ?_
  rintro e w1 ⟨rfl, hl⟩
  have HL1 := Lib.hid hl; clear hl
  go_wp2_with fail
  refine (second_s s p _ HL1.out.1 K.rs2).mono ?_
  rintro e w2 ⟨rfl, hl⟩
  have HL2 := Lib.hid (HL1.out.trans hl); clear hl HL1
  go_wp2_with fail
  refine (shr_any _ _ (by exact K.R _) _).mono ?_
  rintro e w3 ⟨rfl, rfl⟩
  go_wp2_with fail
  refine (put_s s _ p _ HL2.out.1 K.rd).mono ?_
  rintro e w5 ⟨rfl, hl⟩
  have HL5 := Lib.hid (HL2.out.trans hl); clear hl
  go_wp2
  go_end0
  exact ⟨rfl, HL5.out⟩
theorem m35 (s : S) (p : Nat) (w : World) (hs : Stp w p s) (hop : s.i.op = 35) (hA : s.a = A0) (K : GoodS s) : Means 154 p w s := by
  have ha : after s = s.put (Ar.sar s.first s.second) := by
    obtain ⟨h, ⟨op, rd, rs1, rs2, imm, aq, rl⟩, size, tv, tok, a, nx⟩ := s
    simp only at hop hA
    subst hop hA
    rfl
  have hw : whyS s = 0 := why_plain s hop rfl (by decide) (by decide) (fun _ _ => rfl)
  refine ⟨fun _ => ?_, fun h => absurd hw h⟩
  rw [ha]
  have HS := Lib.hid hs; clear hs ha hw hop hA
  go_enter Tryz.func154, Tryz.ntmps154
  go_wp2_with fail
  refine (first_s s p _ HS.out K.rs1).mono ?_
  rintro e w1 ⟨rfl, hl⟩
  have HL1 := Lib.hid hl; clear hl
  go_wp2_with fail
  refine (second_s s p _ HL1.out.1 K.rs2).mono ?_
  rintro e w2 ⟨rfl, hl⟩
  have HL2 := Lib.hid (HL1.out.trans hl); clear hl HL1
  go_wp2_with fail
  refine (sar_any _ _ (by exact K.R _) (by exact K.R _) _).mono ?_
  rintro e w3 ⟨rfl, rfl⟩
  go_wp2_with fail
  refine (put_s s _ p _ HL2.out.1 K.rd).mono ?_
  rintro e w5 ⟨rfl, hl⟩
  have HL5 := Lib.hid (HL2.out.trans hl); clear hl
  go_wp2
  go_end0
  exact ⟨rfl, HL5.out⟩
theorem m36 (s : S) (p : Nat) (w : World) (hs : Stp w p s) (hop : s.i.op = 36) (hA : s.a = A0) (K : GoodS s) : Means 155 p w s := by
  have ha : after s = s.put (bits .or .u32 s.first s.second) := by
    obtain ⟨h, ⟨op, rd, rs1, rs2, imm, aq, rl⟩, size, tv, tok, a, nx⟩ := s
    simp only at hop hA
    subst hop hA
    rfl
  have hw : whyS s = 0 := why_plain s hop rfl (by decide) (by decide) (fun _ _ => rfl)
  refine ⟨fun _ => ?_, fun h => absurd hw h⟩
  rw [ha]
  have HS := Lib.hid hs; clear hs ha hw hop hA
  go_enter Tryz.func155, Tryz.ntmps155
  go_wp2_with fail
  refine (first_s s p _ HS.out K.rs1).mono ?_
  rintro e w1 ⟨rfl, hl⟩
  have HL1 := Lib.hid hl; clear hl
  go_wp2_with fail
  refine (second_s s p _ HL1.out.1 K.rs2).mono ?_
  rintro e w2 ⟨rfl, hl⟩
  have HL2 := Lib.hid (HL1.out.trans hl); clear hl HL1
  go_wp2_with fail
  refine (put_s s _ p _ HL2.out.1 K.rd).mono ?_
  rintro e w5 ⟨rfl, hl⟩
  have HL5 := Lib.hid (HL2.out.trans hl); clear hl
  go_wp2
  go_end0
  exact ⟨rfl, HL5.out⟩
theorem m37 (s : S) (p : Nat) (w : World) (hs : Stp w p s) (hop : s.i.op = 37) (hA : s.a = A0) (K : GoodS s) : Means 156 p w s := by
  have ha : after s = s.put (bits .and .u32 s.first s.second) := by
    obtain ⟨h, ⟨op, rd, rs1, rs2, imm, aq, rl⟩, size, tv, tok, a, nx⟩ := s
    simp only at hop hA
    subst hop hA
    rfl
  have hw : whyS s = 0 := why_plain s hop rfl (by decide) (by decide) (fun _ _ => rfl)
  refine ⟨fun _ => ?_, fun h => absurd hw h⟩
  rw [ha]
  have HS := Lib.hid hs; clear hs ha hw hop hA
  go_enter Tryz.func156, Tryz.ntmps156
  go_wp2_with fail
  refine (first_s s p _ HS.out K.rs1).mono ?_
  rintro e w1 ⟨rfl, hl⟩
  have HL1 := Lib.hid hl; clear hl
  go_wp2_with fail
  refine (second_s s p _ HL1.out.1 K.rs2).mono ?_
  rintro e w2 ⟨rfl, hl⟩
  have HL2 := Lib.hid (HL1.out.trans hl); clear hl HL1
  go_wp2_with fail
  refine (put_s s _ p _ HL2.out.1 K.rd).mono ?_
  rintro e w5 ⟨rfl, hl⟩
  have HL5 := Lib.hid (HL2.out.trans hl); clear hl
  go_wp2
  go_end0
  exact ⟨rfl, HL5.out⟩
theorem m40 (s : S) (p : Nat) (w : World) (hs : Stp w p s) (hop : s.i.op = 40) (hA : s.a = A0) (K : GoodS s) : Means 157 p w s := by
  have ha : after s = s.put (Ar.mul s.first s.second) := by
    obtain ⟨h, ⟨op, rd, rs1, rs2, imm, aq, rl⟩, size, tv, tok, a, nx⟩ := s
    simp only at hop hA
    subst hop hA
    rfl
  have hw : whyS s = 0 := why_plain s hop rfl (by decide) (by decide) (fun _ _ => rfl)
  refine ⟨fun _ => ?_, fun h => absurd hw h⟩
  rw [ha]
  have HS := Lib.hid hs; clear hs ha hw hop hA
  go_enter Tryz.func157, Tryz.ntmps157
  go_wp2_with fail
  refine (first_s s p _ HS.out K.rs1).mono ?_
  rintro e w1 ⟨rfl, hl⟩
  have HL1 := Lib.hid hl; clear hl
  go_wp2_with fail
  refine (second_s s p _ HL1.out.1 K.rs2).mono ?_
  rintro e w2 ⟨rfl, hl⟩
  have HL2 := Lib.hid (HL1.out.trans hl); clear hl HL1
  go_wp2_with fail
  refine (mul_any _ _ (by exact K.R _) (by exact K.R _) _).mono ?_
  rintro e w3 ⟨rfl, c, t, rfl⟩
  have HL3 := Lib.hid (HL2.out.below ((Below.refl w2.heap.size w2).alloc (Nat.le_refl _) (Obj.cells c t)))
  go_wp2_with fail
  refine (put_s s _ p _ HL3.out.1 K.rd).mono ?_
  rintro e w5 ⟨rfl, hl⟩
  have HL5 := Lib.hid (HL3.out.trans hl); clear hl
  go_wp2
  go_end0
  exact ⟨rfl, HL5.out⟩
theorem m41 (s : S) (p : Nat) (w : World) (hs : Stp w p s) (hop : s.i.op = 41) (hA : s.a = A0) (K : GoodS s) : Means 159 p w s := by
  have ha : after s = s.put (Ar.mulh s.first s.second) := by
    obtain ⟨h, ⟨op, rd, rs1, rs2, imm, aq, rl⟩, size, tv, tok, a, nx⟩ := s
    simp only at hop hA
    subst hop hA
    rfl
  have hw : whyS s = 0 := why_plain s hop rfl (by decide) (by decide) (fun _ _ => rfl)
  refine ⟨fun _ => ?_, fun h => absurd hw h⟩
  rw [ha]
  have HS := Lib.hid hs; clear hs ha hw hop hA
  go_enter Tryz.func159, Tryz.ntmps159
  go_wp2_with fail
  refine (first_s s p _ HS.out K.rs1).mono ?_
  rintro e w1 ⟨rfl, hl⟩
  have HL1 := Lib.hid hl; clear hl
  go_wp2_with fail
  refine (second_s s p _ HL1.out.1 K.rs2).mono ?_
  rintro e w2 ⟨rfl, hl⟩
  have HL2 := Lib.hid (HL1.out.trans hl); clear hl HL1
  go_wp2_with fail
  refine (mulh_any _ _ (by exact K.R _) (by exact K.R _) _).mono ?_
  rintro e w3 ⟨rfl, c, t, rfl⟩
  have HL3 := Lib.hid (HL2.out.below ((Below.refl w2.heap.size w2).alloc (Nat.le_refl _) (Obj.cells c t)))
  go_wp2_with fail
  refine (put_s s _ p _ HL3.out.1 K.rd).mono ?_
  rintro e w5 ⟨rfl, hl⟩
  have HL5 := Lib.hid (HL3.out.trans hl); clear hl
  go_wp2
  go_end0
  exact ⟨rfl, HL5.out⟩
theorem m42 (s : S) (p : Nat) (w : World) (hs : Stp w p s) (hop : s.i.op = 42) (hA : s.a = A0) (K : GoodS s) : Means 161 p w s := by
  have ha : after s = s.put (Ar.mulhsu s.first s.second) := by
    obtain ⟨h, ⟨op, rd, rs1, rs2, imm, aq, rl⟩, size, tv, tok, a, nx⟩ := s
    simp only at hop hA
    subst hop hA
    rfl
  have hw : whyS s = 0 := why_plain s hop rfl (by decide) (by decide) (fun _ _ => rfl)
  refine ⟨fun _ => ?_, fun h => absurd hw h⟩
  rw [ha]
  have HS := Lib.hid hs; clear hs ha hw hop hA
  go_enter Tryz.func161, Tryz.ntmps161
  go_wp2_with fail
  refine (first_s s p _ HS.out K.rs1).mono ?_
  rintro e w1 ⟨rfl, hl⟩
  have HL1 := Lib.hid hl; clear hl
  go_wp2_with fail
  refine (second_s s p _ HL1.out.1 K.rs2).mono ?_
  rintro e w2 ⟨rfl, hl⟩
  have HL2 := Lib.hid (HL1.out.trans hl); clear hl HL1
  go_wp2_with fail
  refine (mulhsu_any _ _ (by exact K.R _) (by exact K.R _) _).mono ?_
  rintro e w3 ⟨rfl, c, t, rfl⟩
  have HL3 := Lib.hid (HL2.out.below ((Below.refl w2.heap.size w2).alloc (Nat.le_refl _) (Obj.cells c t)))
  go_wp2_with fail
  refine (put_s s _ p _ HL3.out.1 K.rd).mono ?_
  rintro e w5 ⟨rfl, hl⟩
  have HL5 := Lib.hid (HL3.out.trans hl); clear hl
  go_wp2
  go_end0
  exact ⟨rfl, HL5.out⟩
theorem m43 (s : S) (p : Nat) (w : World) (hs : Stp w p s) (hop : s.i.op = 43) (hA : s.a = A0) (K : GoodS s) : Means 163 p w s := by
  have ha : after s = s.put (Ar.mulhu s.first s.second) := by
    obtain ⟨h, ⟨op, rd, rs1, rs2, imm, aq, rl⟩, size, tv, tok, a, nx⟩ := s
    simp only at hop hA
    subst hop hA
    rfl
  have hw : whyS s = 0 := why_plain s hop rfl (by decide) (by decide) (fun _ _ => rfl)
  refine ⟨fun _ => ?_, fun h => absurd hw h⟩
  rw [ha]
  have HS := Lib.hid hs; clear hs ha hw hop hA
  go_enter Tryz.func163, Tryz.ntmps163
  go_wp2_with fail
  refine (first_s s p _ HS.out K.rs1).mono ?_
  rintro e w1 ⟨rfl, hl⟩
  have HL1 := Lib.hid hl; clear hl
  go_wp2_with fail
  refine (second_s s p _ HL1.out.1 K.rs2).mono ?_
  rintro e w2 ⟨rfl, hl⟩
  have HL2 := Lib.hid (HL1.out.trans hl); clear hl HL1
  go_wp2_with fail
  refine (mulhu_any _ _ (by exact K.R _) (by exact K.R _) _).mono ?_
  rintro e w3 ⟨rfl, c, t, rfl⟩
  have HL3 := Lib.hid (HL2.out.below ((Below.refl w2.heap.size w2).alloc (Nat.le_refl _) (Obj.cells c t)))
  go_wp2_with fail
  refine (put_s s _ p _ HL3.out.1 K.rd).mono ?_
  rintro e w5 ⟨rfl, hl⟩
  have HL5 := Lib.hid (HL3.out.trans hl); clear hl
  go_wp2
  go_end0
  exact ⟨rfl, HL5.out⟩
theorem m44 (s : S) (p : Nat) (w : World) (hs : Stp w p s) (hop : s.i.op = 44) (hA : s.a = A0) (K : GoodS s) : Means 165 p w s := by
  have ha : after s = s.put (Ar.div s.first s.second) := by
    obtain ⟨h, ⟨op, rd, rs1, rs2, imm, aq, rl⟩, size, tv, tok, a, nx⟩ := s
    simp only at hop hA
    subst hop hA
    rfl
  have hw : whyS s = 0 := why_plain s hop rfl (by decide) (by decide) (fun _ _ => rfl)
  refine ⟨fun _ => ?_, fun h => absurd hw h⟩
  rw [ha]
  have HS := Lib.hid hs; clear hs ha hw hop hA
  go_enter Tryz.func165, Tryz.ntmps165
  go_wp2_with fail
  refine (first_s s p _ HS.out K.rs1).mono ?_
  rintro e w1 ⟨rfl, hl⟩
  have HL1 := Lib.hid hl; clear hl
  go_wp2_with fail
  refine (second_s s p _ HL1.out.1 K.rs2).mono ?_
  rintro e w2 ⟨rfl, hl⟩
  have HL2 := Lib.hid (HL1.out.trans hl); clear hl HL1
  go_wp2_with fail
  refine (div_any _ _ (by exact K.R _) (by exact K.R _) _).mono ?_
  rintro e w3 ⟨rfl, n, rfl⟩
  have HL3 := Lib.hid (HL2.out.below (bdrewN w2 n))
  go_wp2_with fail
  refine (put_s s _ p _ HL3.out.1 K.rd).mono ?_
  rintro e w5 ⟨rfl, hl⟩
  have HL5 := Lib.hid (HL3.out.trans hl); clear hl
  go_wp2
  go_end0
  exact ⟨rfl, HL5.out⟩
theorem m45 (s : S) (p : Nat) (w : World) (hs : Stp w p s) (hop : s.i.op = 45) (hA : s.a = A0) (K : GoodS s) : Means 167 p w s := by
  have ha : after s = s.put (Ar.divu s.first s.second) := by
    obtain ⟨h, ⟨op, rd, rs1, rs2, imm, aq, rl⟩, size, tv, tok, a, nx⟩ := s
    simp only at hop hA
    subst hop hA
    rfl
  have hw : whyS s = 0 := why_plain s hop rfl (by decide) (by decide) (fun _ _ => rfl)
  refine ⟨fun _ => ?_, fun h => absurd hw h⟩
  rw [ha]
  have HS := Lib.hid hs; clear hs ha hw hop hA
  go_enter Tryz.func167, Tryz.ntmps167
  go_wp2_with fail
  refine (first_s s p _ HS.out K.rs1).mono ?_
  rintro e w1 ⟨rfl, hl⟩
  have HL1 := Lib.hid hl; clear hl
  go_wp2_with fail
  refine (second_s s p _ HL1.out.1 K.rs2).mono ?_
  rintro e w2 ⟨rfl, hl⟩
  have HL2 := Lib.hid (HL1.out.trans hl); clear hl HL1
  go_wp2_with fail
  refine (divu_any _ _ (by exact K.R _) (by exact K.R _) _).mono ?_
  rintro e w3 ⟨rfl, n, rfl⟩
  have HL3 := Lib.hid (HL2.out.below (bdrewN w2 n))
  go_wp2_with fail
  refine (put_s s _ p _ HL3.out.1 K.rd).mono ?_
  rintro e w5 ⟨rfl, hl⟩
  have HL5 := Lib.hid (HL3.out.trans hl); clear hl
  go_wp2
  go_end0
  exact ⟨rfl, HL5.out⟩
theorem m46 (s : S) (p : Nat) (w : World) (hs : Stp w p s) (hop : s.i.op = 46) (hA : s.a = A0) (K : GoodS s) : Means 169 p w s := by
  have ha : after s = s.put (Ar.rem s.first s.second) := by
    obtain ⟨h, ⟨op, rd, rs1, rs2, imm, aq, rl⟩, size, tv, tok, a, nx⟩ := s
    simp only at hop hA
    subst hop hA
    rfl
  have hw : whyS s = 0 := why_plain s hop rfl (by decide) (by decide) (fun _ _ => rfl)
  refine ⟨fun _ => ?_, fun h => absurd hw h⟩
  rw [ha]
  have HS := Lib.hid hs; clear hs ha hw hop hA
  go_enter Tryz.func169, Tryz.ntmps169
  go_wp2_with fail
  refine (first_s s p _ HS.out K.rs1).mono ?_
  rintro e w1 ⟨rfl, hl⟩
  have HL1 := Lib.hid hl; clear hl
  go_wp2_with fail
  refine (second_s s p _ HL1.out.1 K.rs2).mono ?_
  rintro e w2 ⟨rfl, hl⟩
  have HL2 := Lib.hid (HL1.out.trans hl); clear hl HL1
  go_wp2_with fail
  refine (rem_any _ _ (by exact K.R _) (by exact K.R _) _).mono ?_
  rintro e w3 ⟨rfl, n, rfl⟩
  have HL3 := Lib.hid (HL2.out.below (bdrewN w2 n))
  go_wp2_with fail
  refine (put_s s _ p _ HL3.out.1 K.rd).mono ?_
  rintro e w5 ⟨rfl, hl⟩
  have HL5 := Lib.hid (HL3.out.trans hl); clear hl
  go_wp2
  go_end0
  exact ⟨rfl, HL5.out⟩
theorem m47 (s : S) (p : Nat) (w : World) (hs : Stp w p s) (hop : s.i.op = 47) (hA : s.a = A0) (K : GoodS s) : Means 171 p w s := by
  have ha : after s = s.put (Ar.remu s.first s.second) := by
    obtain ⟨h, ⟨op, rd, rs1, rs2, imm, aq, rl⟩, size, tv, tok, a, nx⟩ := s
    simp only at hop hA
    subst hop hA
    rfl
  have hw : whyS s = 0 := why_plain s hop rfl (by decide) (by decide) (fun _ _ => rfl)
  refine ⟨fun _ => ?_, fun h => absurd hw h⟩
  rw [ha]
  have HS := Lib.hid hs; clear hs ha hw hop hA
  go_enter Tryz.func171, Tryz.ntmps171
  go_wp2_with fail
  refine (first_s s p _ HS.out K.rs1).mono ?_
  rintro e w1 ⟨rfl, hl⟩
  have HL1 := Lib.hid hl; clear hl
  go_wp2_with fail
  refine (second_s s p _ HL1.out.1 K.rs2).mono ?_
  rintro e w2 ⟨rfl, hl⟩
  have HL2 := Lib.hid (HL1.out.trans hl); clear hl HL1
  go_wp2_with fail
  refine (remu_any _ _ (by exact K.R _) (by exact K.R _) _).mono ?_
  rintro e w3 ⟨rfl, n, rfl⟩
  have HL3 := Lib.hid (HL2.out.below (bdrewN w2 n))
  go_wp2_with fail
  refine (put_s s _ p _ HL3.out.1 K.rd).mono ?_
  rintro e w5 ⟨rfl, hl⟩
  have HL5 := Lib.hid (HL3.out.trans hl); clear hl
  go_wp2
  go_end0
  exact ⟨rfl, HL5.out⟩
end Go.Proofs.YtianojbdabeoeaaGreatDoor
