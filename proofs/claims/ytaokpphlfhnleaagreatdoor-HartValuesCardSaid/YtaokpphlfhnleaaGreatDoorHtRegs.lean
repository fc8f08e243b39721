/-
  What is made of two registers.
-/
import Derived.Test.YtaokpphlfhnleaaGreatDoorHtMeans
namespace Go.Proofs.YtaokpphlfhnleaaGreatDoor
open Go.RowKit Ht
set_option linter.unusedVariables false
theorem m28 (s : S) (p : Nat) (w : World) (hs : Stp w p s) (hop : s.i.op = 28) (hA : s.a = A0) (K : GoodS s) : Means 116 p w s := by
  have ha : after s = s.put (Ar.add s.first s.second) := by
    obtain ⟨h, ⟨op, rd, rs1, rs2, imm, aq, rl⟩, size, tv, tok, a, nx⟩ := s
    simp only at hop hA
    subst hop hA
    rfl
  have hw : whyS s = 0 := why_plain s hop rfl (by decide) (by decide) (fun _ _ => rfl)
  refine ⟨fun _ => ?_, fun h => absurd hw h⟩
  rw [ha]
  have HS := Lib.hid hs; clear hs ha hw hop hA
  go_enter Tryz.func116, Tryz.ntmps116
  go_wp2_with fail
  refine (first_s s p _ HS.out K.rs1).mono ?_
  rintro e w1 ⟨rfl, hl⟩
  have HL1 := Lib.hid hl; clear hl
  go_wp2_with fail
  refine (second_s s p _ HL1.out.1 K.rs2).mono ?_
  rintro e w2 ⟨rfl, hl⟩
  have HL2 := Lib.hid (HL1.out.trans hl); clear hl HL1
  go_wp2_with fail
  refine (add_any _ _  _).mono ?_
  rintro e w3 ⟨rfl, rfl⟩
  go_wp2_with fail
  refine (put_s s _ p _ HL2.out.1 K.rd).mono ?_
  rintro e w5 ⟨rfl, hl⟩
  have HL5 := Lib.hid (HL2.out.trans hl); clear hl
  go_wp2
  go_end0
  exact ⟨rfl, HL5.out⟩
theorem m29 (s : S) (p : Nat) (w : World) (hs : Stp w p s) (hop : s.i.op = 29) (hA : s.a = A0) (K : GoodS s) : Means 117 p w s := by
  have ha : after s = s.put (Ar.sub s.first s.second) := by
    obtain ⟨h, ⟨op, rd, rs1, rs2, imm, aq, rl⟩, size, tv, tok, a, nx⟩ := s
    simp only at hop hA
    subst hop hA
    rfl
  have hw : whyS s = 0 := why_plain s hop rfl (by decide) (by decide) (fun _ _ => rfl)
  refine ⟨fun _ => ?_, fun h => absurd hw h⟩
  rw [ha]
  have HS := Lib.hid hs; clear hs ha hw hop hA
  go_enter Tryz.func117, Tryz.ntmps117
  go_wp2_with fail
  refine (first_s s p _ HS.out K.rs1).mono ?_
  rintro e w1 ⟨rfl, hl⟩
  have HL1 := Lib.hid hl; clear hl
  go_wp2_with fail
  refine (second_s s p _ HL1.out.1 K.rs2).mono ?_
  rintro e w2 ⟨rfl, hl⟩
  have HL2 := Lib.hid (HL1.out.trans hl); clear hl HL1
  go_wp2_with fail
  refine (sub_any _ _  _).mono ?_
  rintro e w3 ⟨rfl, rfl⟩
  go_wp2_with fail
  refine (put_s s _ p _ HL2.out.1 K.rd).mono ?_
  rintro e w5 ⟨rfl, hl⟩
  have HL5 := Lib.hid (HL2.out.trans hl); clear hl
  go_wp2
  go_end0
  exact ⟨rfl, HL5.out⟩
theorem m30 (s : S) (p : Nat) (w : World) (hs : Stp w p s) (hop : s.i.op = 30) (hA : s.a = A0) (K : GoodS s) : Means 119 p w s := by
  have ha : after s = s.put (Ar.shl s.first s.second) := by
    obtain ⟨h, ⟨op, rd, rs1, rs2, imm, aq, rl⟩, size, tv, tok, a, nx⟩ := s
    simp only at hop hA
    subst hop hA
    rfl
  have hw : whyS s = 0 := why_plain s hop rfl (by decide) (by decide) (fun _ _ => rfl)
  refine ⟨fun _ => ?_, fun h => absurd hw h⟩
  rw [ha]
  have HS := Lib.hid hs; clear hs ha hw hop hA
  go_enter Tryz.func119, Tryz.ntmps119
  go_wp2_with fail
  refine (first_s s p _ HS.out K.rs1).mono ?_
  rintro e w1 ⟨rfl, hl⟩
  have HL1 := Lib.hid hl; clear hl
  go_wp2_with fail
  refine (second_s s p _ HL1.out.1 K.rs2).mono ?_
  rintro e w2 ⟨rfl, hl⟩
  have HL2 := Lib.hid (HL1.out.trans hl); clear hl HL1
  go_wp2_with fail
  refine (shl_any _ _ (by exact K.R _) _).mono ?_
  rintro e w3 ⟨rfl, rfl⟩
  go_wp2_with fail
  refine (put_s s _ p _ HL2.out.1 K.rd).mono ?_
  rintro e w5 ⟨rfl, hl⟩
  have HL5 := Lib.hid (HL2.out.trans hl); clear hl
  go_wp2
  go_end0
  exact ⟨rfl, HL5.out⟩
theorem m31 (s : S) (p : Nat) (w : World) (hs : Stp w p s) (hop : s.i.op = 31) (hA : s.a = A0) (K : GoodS s) : Means 120 p w s := by
  have ha : after s = s.put (b01 (Ar.less s.first s.second)) := by
    obtain ⟨h, ⟨op, rd, rs1, rs2, imm, aq, rl⟩, size, tv, tok, a, nx⟩ := s
    simp only at hop hA
    subst hop hA
    rfl
  have hw : whyS s = 0 := why_plain s hop rfl (by decide) (by decide) (fun _ _ => rfl)
  refine ⟨fun _ => ?_, fun h => absurd hw h⟩
  rw [ha]
  have HS := Lib.hid hs; clear hs ha hw hop hA
  go_enter Tryz.func120, Tryz.ntmps120
  go_wp2_with fail
  refine (first_s s p _ HS.out K.rs1).mono ?_
  rintro e w1 ⟨rfl, hl⟩
  have HL1 := Lib.hid hl; clear hl
  go_wp2_with fail
  refine (second_s s p _ HL1.out.1 K.rs2).mono ?_
  rintro e w2 ⟨rfl, hl⟩
  have HL2 := Lib.hid (HL1.out.trans hl); clear hl HL1
  go_wp2_with fail
  refine (less_any _ _ (by exact K.R _) (by exact K.R _) _).mono ?_
  rintro e w3 ⟨rfl, rfl⟩
  go_wp2_with fail
  refine (hbit_any _ _).mono ?_
  rintro e w4 ⟨rfl, rfl⟩
  go_wp2_with fail
  refine (put_s s _ p _ HL2.out.1 K.rd).mono ?_
  rintro e w5 ⟨rfl, hl⟩
  have HL5 := Lib.hid (HL2.out.trans hl); clear hl
  go_wp2
  go_end0
  exact ⟨rfl, HL5.out⟩
theorem m32 (s : S) (p : Nat) (w : World) (hs : Stp w p s) (hop : s.i.op = 32) (hA : s.a = A0) (K : GoodS s) : Means 121 p w s := by
  have ha : after s = s.put (b01 (Ar.lessu s.first s.second)) := by
    obtain ⟨h, ⟨op, rd, rs1, rs2, imm, aq, rl⟩, size, tv, tok, a, nx⟩ := s
    simp only at hop hA
    subst hop hA
    rfl
  have hw : whyS s = 0 := why_plain s hop rfl (by decide) (by decide) (fun _ _ => rfl)
  refine ⟨fun _ => ?_, fun h => absurd hw h⟩
  rw [ha]
  have HS := Lib.hid hs; clear hs ha hw hop hA
  go_enter Tryz.func121, Tryz.ntmps121
  go_wp2_with fail
  refine (first_s s p _ HS.out K.rs1).mono ?_
  rintro e w1 ⟨rfl, hl⟩
  have HL1 := Lib.hid hl; clear hl
  go_wp2_with fail
  refine (second_s s p _ HL1.out.1 K.rs2).mono ?_
  rintro e w2 ⟨rfl, hl⟩
  have HL2 := Lib.hid (HL1.out.trans hl); clear hl HL1
  go_wp2_with fail
  refine (lessu_any _ _  _).mono ?_
  rintro e w3 ⟨rfl, rfl⟩
  go_wp2_with fail
  refine (hbit_any _ _).mono ?_
  rintro e w4 ⟨rfl, rfl⟩
  go_wp2_with fail
  refine (put_s s _ p _ HL2.out.1 K.rd).mono ?_
  rintro e w5 ⟨rfl, hl⟩
  have HL5 := Lib.hid (HL2.out.trans hl); clear hl
  go_wp2
  go_end0
  exact ⟨rfl, HL5.out⟩
theorem m33 (s : S) (p : Nat) (w : World) (hs : Stp w p s) (hop : s.i.op = 33) (hA : s.a = A0) (K : GoodS s) : Means 122 p w s := by
  have ha : after s = s.put (bits .xor .u32 s.first s.second) := by
    obtain ⟨h, ⟨op, rd, rs1, rs2, imm, aq, rl⟩, size, tv, tok, a, nx⟩ := s
    simp only at hop hA
    subst hop hA
    rfl
  have hw : whyS s = 0 := why_plain s hop rfl (by decide) (by decide) (fun _ _ => rfl)
  refine ⟨fun _ => ?_, fun h => absurd hw h⟩
  rw [ha]
  have HS := Lib.hid hs; clear hs ha hw hop hA
  go_enter Tryz.func122, Tryz.ntmps122
  go_wp2_with fail
  refine (first_s s p _ HS.out K.rs1).mono ?_
  rintro e w1 ⟨rfl, hl⟩
  have HL1 := Lib.hid hl; clear hl
  go_wp2_with fail
  refine (second_s s p _ HL1.out.1 K.rs2).mono ?_
  rintro e w2 ⟨rfl, hl⟩
  have HL2 := Lib.hid (HL1.out.trans hl); clear hl HL1
  go_wp2_with fail
  refine (put_s s _ p _ HL2.out.1 K.rd).mono ?_
  rintro e w5 ⟨rfl, hl⟩
  have HL5 := Lib.hid (HL2.out.trans hl); clear hl
  go_wp2
  go_end0
  exact ⟨rfl, HL5.out⟩
theorem m34 (s : S) (p : Nat) (w : World) (hs : Stp w p s) (hop : s.i.op = 34) (hA : s.a = A0) (K : GoodS s) : Means 123 p w s := by
  have ha : after s = s.put (Ar.shr s.first s.second) := by
    obtain ⟨h, ⟨op, rd, rs1, rs2, imm, aq, rl⟩, size, tv, tok, a, nx⟩ := s
    simp only at hop hA
    subst hop hA
    rfl
  have hw : whyS s = 0 := why_plain s hop rfl (by decide) (by decide) (fun _ _ => rfl)
  refine ⟨fun _ => ?_, fun h => absurd hw h⟩
  rw [ha]
  have HS := Lib.hid hs; clear hs ha hw hop hA
  go_enter Tryz.func123, Tryz.ntmps123
  go_wp2_with fail
  refine (first_s s p _ HS.out K.rs1).mono ?_
  rintro e w1 ⟨rfl, hl⟩
  have HL1 := Lib.hid hl; clear hl
  go_wp2_with fail
  refine (second_s s p _ HL1.out.1 K.rs2).mono ?_
  rintro e w2 ⟨rfl, hl⟩
  have HL2 := Lib.hid (HL1.out.trans hl); clear hl HL1
  go_wp2_with fail
  refine (shr_any _ _ (by exact K.R _) _).mono ?_
  rintro e w3 ⟨rfl, rfl⟩
  go_wp2_with fail
  refine (put_s s _ p _ HL2.out.1 K.rd).mono ?_
  rintro e w5 ⟨rfl, hl⟩
  have HL5 := Lib.hid (HL2.out.trans hl); clear hl
  go_wp2
  go_end0
  exact ⟨rfl, HL5.out⟩
theorem m35 (s : S) (p : Nat) (w : World) (hs : Stp w p s) (hop : s.i.op = 35) (hA : s.a = A0) (K : GoodS s) : Means 124 p w s := by
  have ha : after s = s.put (Ar.sar s.first s.second) := by
    obtain ⟨h, ⟨op, rd, rs1, rs2, imm, aq, rl⟩, size, tv, tok, a, nx⟩ := s
    simp only at hop hA
    subst hop hA
    rfl
  have hw : whyS s = 0 := why_plain s hop rfl (by decide) (by decide) (fun _ _ => rfl)
  refine ⟨fun _ => ?_, fun h => absurd hw h⟩
  rw [ha]
  have HS := Lib.hid hs; clear hs ha hw hop hA
  go_enter Tryz.func124, Tryz.ntmps124
  go_wp2_with fail
  refine (first_s s p _ HS.out K.rs1).mono ?_
  rintro e w1 ⟨rfl, hl⟩
  have HL1 := Lib.hid hl; clear hl
  go_wp2_with fail
  refine (second_s s p _ HL1.out.1 K.rs2).mono ?_
  rintro e w2 ⟨rfl, hl⟩
  have HL2 := Lib.hid (HL1.out.trans hl); clear hl HL1
  go_wp2_with fail
  refine (sar_any _ _ (by exact K.R _) (by exact K.R _) _).mono ?_
  rintro e w3 ⟨rfl, rfl⟩
  go_wp2_with fail
  refine (put_s s _ p _ HL2.out.1 K.rd).mono ?_
  rintro e w5 ⟨rfl, hl⟩
  have HL5 := Lib.hid (HL2.out.trans hl); clear hl
  go_wp2
  go_end0
  exact ⟨rfl, HL5.out⟩
theorem m36 (s : S) (p : Nat) (w : World) (hs : Stp w p s) (hop : s.i.op = 36) (hA : s.a = A0) (K : GoodS s) : Means 125 p w s := by
  have ha : after s = s.put (bits .or .u32 s.first s.second) := by
    obtain ⟨h, ⟨op, rd, rs1, rs2, imm, aq, rl⟩, size, tv, tok, a, nx⟩ := s
    simp only at hop hA
    subst hop hA
    rfl
  have hw : whyS s = 0 := why_plain s hop rfl (by decide) (by decide) (fun _ _ => rfl)
  refine ⟨fun _ => ?_, fun h => absurd hw h⟩
  rw [ha]
  have HS := Lib.hid hs; clear hs ha hw hop hA
  go_enter Tryz.func125, Tryz.ntmps125
  go_wp2_with fail
  refine (first_s s p _ HS.out K.rs1).mono ?_
  rintro e w1 ⟨rfl, hl⟩
  have HL1 := Lib.hid hl; clear hl
  go_wp2_with fail
  refine (second_s s p _ HL1.out.1 K.rs2).mono ?_
  rintro e w2 ⟨rfl, hl⟩
  have HL2 := Lib.hid (HL1.out.trans hl); clear hl HL1
  go_wp2_with fail
  refine (put_s s _ p _ HL2.out.1 K.rd).mono ?_
  rintro e w5 ⟨rfl, hl⟩
  have HL5 := Lib.hid (HL2.out.trans hl); clear hl
  go_wp2
  go_end0
  exact ⟨rfl, HL5.out⟩
theorem m37 (s : S) (p : Nat) (w : World) (hs : Stp w p s) (hop : s.i.op = 37) (hA : s.a = A0) (K : GoodS s) : Means 126 p w s := by
  have ha : after s = s.put (bits .and .u32 s.first s.second) := by
    obtain ⟨h, ⟨op, rd, rs1, rs2, imm, aq, rl⟩, size, tv, tok, a, nx⟩ := s
    simp only at hop hA
    subst hop hA
    rfl
  have hw : whyS s = 0 := why_plain s hop rfl (by decide) (by decide) (fun _ _ => rfl)
  refine ⟨fun _ => ?_, fun h => absurd hw h⟩
  rw [ha]
  have HS := Lib.hid hs; clear hs ha hw hop hA
  go_enter Tryz.func126, Tryz.ntmps126
  go_wp2_with fail
  refine (first_s s p _ HS.out K.rs1).mono ?_
  rintro e w1 ⟨rfl, hl⟩
  have HL1 := Lib.hid hl; clear hl
  go_wp2_with fail
  refine (second_s s p _ HL1.out.1 K.rs2).mono ?_
  rintro e w2 ⟨rfl, hl⟩
  have HL2 := Lib.hid (HL1.out.trans hl); clear hl HL1
  go_wp2_with fail
  refine (put_s s _ p _ HL2.out.1 K.rd).mono ?_
  rintro e w5 ⟨rfl, hl⟩
  have HL5 := Lib.hid (HL2.out.trans hl); clear hl
  go_wp2
  go_end0
  exact ⟨rfl, HL5.out⟩
theorem m40 (s : S) (p : Nat) (w : World) (hs : Stp w p s) (hop : s.i.op = 40) (hA : s.a = A0) (K : GoodS s) : Means 127 p w s := by
  have ha : after s = s.put (Ar.mul s.first s.second) := by
    obtain ⟨h, ⟨op, rd, rs1, rs2, imm, aq, rl⟩, size, tv, tok, a, nx⟩ := s
    simp only at hop hA
    subst hop hA
    rfl
  have hw : whyS s = 0 := why_plain s hop rfl (by decide) (by decide) (fun _ _ => rfl)
  refine ⟨fun _ => ?_, fun h => absurd hw h⟩
  rw [ha]
  have HS := Lib.hid hs; clear hs ha hw hop hA
  go_enter Tryz.func127, Tryz.ntmps127
  go_wp2_with fail
  refine (first_s s p _ HS.out K.rs1).mono ?_
  rintro e w1 ⟨rfl, hl⟩
  have HL1 := Lib.hid hl; clear hl
  go_wp2_with fail
  refine (second_s s p _ HL1.out.1 K.rs2).mono ?_
  rintro e w2 ⟨rfl, hl⟩
  have HL2 := Lib.hid (HL1.out.trans hl); clear hl HL1
  go_wp2_with fail
  refine (mul_any _ _ (by exact K.R _) (by exact K.R _) _).mono ?_
  rintro e w3 ⟨rfl, c, t, rfl⟩
  have HL3 := Lib.hid (HL2.out.below ((Below.refl w2.heap.size w2).alloc (Nat.le_refl _) (Obj.cells c t)))
  go_wp2_with fail
  refine (put_s s _ p _ HL3.out.1 K.rd).mono ?_
  rintro e w5 ⟨rfl, hl⟩
  have HL5 := Lib.hid (HL3.out.trans hl); clear hl
  go_wp2
  go_end0
  exact ⟨rfl, HL5.out⟩
theorem m41 (s : S) (p : Nat) (w : World) (hs : Stp w p s) (hop : s.i.op = 41) (hA : s.a = A0) (K : GoodS s) : Means 129 p w s := by
  have ha : after s = s.put (Ar.mulh s.first s.second) := by
    obtain ⟨h, ⟨op, rd, rs1, rs2, imm, aq, rl⟩, size, tv, tok, a, nx⟩ := s
    simp only at hop hA
    subst hop hA
    rfl
  have hw : whyS s = 0 := why_plain s hop rfl (by decide) (by decide) (fun _ _ => rfl)
  refine ⟨fun _ => ?_, fun h => absurd hw h⟩
  rw [ha]
  have HS := Lib.hid hs; clear hs ha hw hop hA
  go_enter Tryz.func129, Tryz.ntmps129
  go_wp2_with fail
  refine (first_s s p _ HS.out K.rs1).mono ?_
  rintro e w1 ⟨rfl, hl⟩
  have HL1 := Lib.hid hl; clear hl
  go_wp2_with fail
  refine (second_s s p _ HL1.out.1 K.rs2).mono ?_
  rintro e w2 ⟨rfl, hl⟩
  have HL2 := Lib.hid (HL1.out.trans hl); clear hl HL1
  go_wp2_with fail
  refine (mulh_any _ _ (by exact K.R _) (by exact K.R _) _).mono ?_
  rintro e w3 ⟨rfl, c, t, rfl⟩
  have HL3 := Lib.hid (HL2.out.below ((Below.refl w2.heap.size w2).alloc (Nat.le_refl _) (Obj.cells c t)))
  go_wp2_with fail
  refine (put_s s _ p _ HL3.out.1 K.rd).mono ?_
  rintro e w5 ⟨rfl, hl⟩
  have HL5 := Lib.hid (HL3.out.trans hl); clear hl
  go_wp2
  go_end0
  exact ⟨rfl, HL5.out⟩
theorem m42 (s : S) (p : Nat) (w : World) (hs : Stp w p s) (hop : s.i.op = 42) (hA : s.a = A0) (K : GoodS s) : Means 131 p w s := by
  have ha : after s = s.put (Ar.mulhsu s.first s.second) := by
    obtain ⟨h, ⟨op, rd, rs1, rs2, imm, aq, rl⟩, size, tv, tok, a, nx⟩ := s
    simp only at hop hA
    subst hop hA
    rfl
  have hw : whyS s = 0 := why_plain s hop rfl (by decide) (by decide) (fun _ _ => rfl)
  refine ⟨fun _ => ?_, fun h => absurd hw h⟩
  rw [ha]
  have HS := Lib.hid hs; clear hs ha hw hop hA
  go_enter Tryz.func131, Tryz.ntmps131
  go_wp2_with fail
  refine (first_s s p _ HS.out K.rs1).mono ?_
  rintro e w1 ⟨rfl, hl⟩
  have HL1 := Lib.hid hl; clear hl
  go_wp2_with fail
  refine (second_s s p _ HL1.out.1 K.rs2).mono ?_
  rintro e w2 ⟨rfl, hl⟩
  have HL2 := Lib.hid (HL1.out.trans hl); clear hl HL1
  go_wp2_with fail
  refine (mulhsu_any _ _ (by exact K.R _) (by exact K.R _) _).mono ?_
  rintro e w3 ⟨rfl, c, t, rfl⟩
  have HL3 := Lib.hid (HL2.out.below ((Below.refl w2.heap.size w2).alloc (Nat.le_refl _) (Obj.cells c t)))
  go_wp2_with fail
  refine (put_s s _ p _ HL3.out.1 K.rd).mono ?_
  rintro e w5 ⟨rfl, hl⟩
  have HL5 := Lib.hid (HL3.out.trans hl); clear hl
  go_wp2
  go_end0
  exact ⟨rfl, HL5.out⟩
theorem m43 (s : S) (p : Nat) (w : World) (hs : Stp w p s) (hop : s.i.op = 43) (hA : s.a = A0) (K : GoodS s) : Means 133 p w s := by
  have ha : after s = s.put (Ar.mulhu s.first s.second) := by
    obtain ⟨h, ⟨op, rd, rs1, rs2, imm, aq, rl⟩, size, tv, tok, a, nx⟩ := s
    simp only at hop hA
    subst hop hA
    rfl
  have hw : whyS s = 0 := why_plain s hop rfl (by decide) (by decide) (fun _ _ => rfl)
  refine ⟨fun _ => ?_, fun h => absurd hw h⟩
  rw [ha]
  have HS := Lib.hid hs; clear hs ha hw hop hA
  go_enter Tryz.func133, Tryz.ntmps133
  go_wp2_with fail
  refine (first_s s p _ HS.out K.rs1).mono ?_
  rintro e w1 ⟨rfl, hl⟩
  have HL1 := Lib.hid hl; clear hl
  go_wp2_with fail
  refine (second_s s p _ HL1.out.1 K.rs2).mono ?_
  rintro e w2 ⟨rfl, hl⟩
  have HL2 := Lib.hid (HL1.out.trans hl); clear hl HL1
  go_wp2_with fail
  refine (mulhu_any _ _ (by exact K.R _) (by exact K.R _) _).mono ?_
  rintro e w3 ⟨rfl, c, t, rfl⟩
  have HL3 := Lib.hid (HL2.out.below ((Below.refl w2.heap.size w2).alloc (Nat.le_refl _) (Obj.cells c t)))
  go_wp2_with fail
  refine (put_s s _ p _ HL3.out.1 K.rd).mono ?_
  rintro e w5 ⟨rfl, hl⟩
  have HL5 := Lib.hid (HL3.out.trans hl); clear hl
  go_wp2
  go_end0
  exact ⟨rfl, HL5.out⟩
theorem m44 (s : S) (p : Nat) (w : World) (hs : Stp w p s) (hop : s.i.op = 44) (hA : s.a = A0) (K : GoodS s) : Means 135 p w s := by
  have ha : after s = s.put (Ar.div s.first s.second) := by
    obtain ⟨h, ⟨op, rd, rs1, rs2, imm, aq, rl⟩, size, tv, tok, a, nx⟩ := s
    simp only at hop hA
    subst hop hA
    rfl
  have hw : whyS s = 0 := why_plain s hop rfl (by decide) (by decide) (fun _ _ => rfl)
  refine ⟨fun _ => ?_, fun h => absurd hw h⟩
  rw [ha]
  have HS := Lib.hid hs; clear hs ha hw hop hA
  go_enter Tryz.func135, Tryz.ntmps135
  go_wp2_with fail
  refine (first_s s p _ HS.out K.rs1).mono ?_
  rintro e w1 ⟨rfl, hl⟩
  have HL1 := Lib.hid hl; clear hl
  go_wp2_with fail
  refine (second_s s p _ HL1.out.1 K.rs2).mono ?_
  rintro e w2 ⟨rfl, hl⟩
  have HL2 := Lib.hid (HL1.out.trans hl); clear hl HL1
  go_wp2_with fail
  refine (div_any _ _ (by exact K.R _) (by exact K.R _) _).mono ?_
  rintro e w3 ⟨rfl, n, rfl⟩
  have HL3 := Lib.hid (HL2.out.below (bdrewN w2 n))
  go_wp2_with fail
  refine (put_s s _ p _ HL3.out.1 K.rd).mono ?_
  rintro e w5 ⟨rfl, hl⟩
  have HL5 := Lib.hid (HL3.out.trans hl); clear hl
  go_wp2
  go_end0
  exact ⟨rfl, HL5.out⟩
theorem m45 (s : S) (p : Nat) (w : World) (hs : Stp w p s) (hop : s.i.op = 45) (hA : s.a = A0) (K : GoodS s) : Means 137 p w s := by
  have ha : after s = s.put (Ar.divu s.first s.second) := by
    obtain ⟨h, ⟨op, rd, rs1, rs2, imm, aq, rl⟩, size, tv, tok, a, nx⟩ := s
    simp only at hop hA
    subst hop hA
    rfl
  have hw : whyS s = 0 := why_plain s hop rfl (by decide) (by decide) (fun _ _ => rfl)
  refine ⟨fun _ => ?_, fun h => absurd hw h⟩
  rw [ha]
  have HS := Lib.hid hs; clear hs ha hw hop hA
  go_enter Tryz.func137, Tryz.ntmps137
  go_wp2_with fail
  refine (first_s s p _ HS.out K.rs1).mono ?_
  rintro e w1 ⟨rfl, hl⟩
  have HL1 := Lib.hid hl; clear hl
  go_wp2_with fail
  refine (second_s s p _ HL1.out.1 K.rs2).mono ?_
  rintro e w2 ⟨rfl, hl⟩
  have HL2 := Lib.hid (HL1.out.trans hl); clear hl HL1
  go_wp2_with fail
  refine (divu_any _ _ (by exact K.R _) (by exact K.R _) _).mono ?_
  rintro e w3 ⟨rfl, n, rfl⟩
  have HL3 := Lib.hid (HL2.out.below (bdrewN w2 n))
  go_wp2_with fail
  refine (put_s s _ p _ HL3.out.1 K.rd).mono ?_
  rintro e w5 ⟨rfl, hl⟩
  have HL5 := Lib.hid (HL3.out.trans hl); clear hl
  go_wp2
  go_end0
  exact ⟨rfl, HL5.out⟩
theorem m46 (s : S) (p : Nat) (w : World) (hs : Stp w p s) (hop : s.i.op = 46) (hA : s.a = A0) (K : GoodS s) : Means 139 p w s := by
  have ha : after s = s.put (Ar.rem s.first s.second) := by
    obtain ⟨h, ⟨op, rd, rs1, rs2, imm, aq, rl⟩, size, tv, tok, a, nx⟩ := s
    simp only at hop hA
    subst hop hA
    rfl
  have hw : whyS s = 0 := why_plain s hop rfl (by decide) (by decide) (fun _ _ => rfl)
  refine ⟨fun _ => ?_, fun h => absurd hw h⟩
  rw [ha]
  have HS := Lib.hid hs; clear hs ha hw hop hA
  go_enter Tryz.func139, Tryz.ntmps139
  go_wp2_with fail
  refine (first_s s p _ HS.out K.rs1).mono ?_
  rintro e w1 ⟨rfl, hl⟩
  have HL1 := Lib.hid hl; clear hl
  go_wp2_with fail
  refine (second_s s p _ HL1.out.1 K.rs2).mono ?_
  rintro e w2 ⟨rfl, hl⟩
  have HL2 := Lib.hid (HL1.out.trans hl); clear hl HL1
  go_wp2_with fail
  refine (rem_any _ _ (by exact K.R _) (by exact K.R _) _).mono ?_
  rintro e w3 ⟨rfl, n, rfl⟩
  have HL3 := Lib.hid (HL2.out.below (bdrewN w2 n))
  go_wp2_with fail
  refine (put_s s _ p _ HL3.out.1 K.rd).mono ?_
  rintro e w5 ⟨rfl, hl⟩
  have HL5 := Lib.hid (HL3.out.trans hl); clear hl
  go_wp2
  go_end0
  exact ⟨rfl, HL5.out⟩
theorem m47 (s : S) (p : Nat) (w : World) (hs : Stp w p s) (hop : s.i.op = 47) (hA : s.a = A0) (K : GoodS s) : Means 141 p w s := by
  have ha : after s = s.put (Ar.remu s.first s.second) := by
    obtain ⟨h, ⟨op, rd, rs1, rs2, imm, aq, rl⟩, size, tv, tok, a, nx⟩ := s
    simp only at hop hA
    subst hop hA
    rfl
  have hw : whyS s = 0 := why_plain s hop rfl (by decide) (by decide) (fun _ _ => rfl)
  refine ⟨fun _ => ?_, fun h => absurd hw h⟩
  rw [ha]
  have HS := Lib.hid hs; clear hs ha hw hop hA
  go_enter Tryz.func141, Tryz.ntmps141
  go_wp2_with fail
  refine (first_s s p _ HS.out K.rs1).mono ?_
  rintro e w1 ⟨rfl, hl⟩
  have HL1 := Lib.hid hl; clear hl
  go_wp2_with fail
  refine (second_s s p _ HL1.out.1 K.rs2).mono ?_
  rintro e w2 ⟨rfl, hl⟩
  have HL2 := Lib.hid (HL1.out.trans hl); clear hl HL1
  go_wp2_with fail
  refine (remu_any _ _ (by exact K.R _) (by exact K.R _) _).mono ?_
  rintro e w3 ⟨rfl, n, rfl⟩
  have HL3 := Lib.hid (HL2.out.below (bdrewN w2 n))
  go_wp2_with fail
  refine (put_s s _ p _ HL3.out.1 K.rd).mono ?_
  rintro e w5 ⟨rfl, hl⟩
  have HL5 := Lib.hid (HL3.out.trans hl); clear hl
  go_wp2
  go_end0
  exact ⟨rfl, HL5.out⟩
end Go.Proofs.YtaokpphlfhnleaaGreatDoor
