/-
  What is made of a register and Imm.
-/
import Derived.Test.YtianojbdabeoeaaGreatDoorHtMeans
namespace Go.Proofs.YtianojbdabeoeaaGreatDoor
open Go.RowKit Ht
set_option linter.unusedVariables false
set_option maxRecDepth 100000 in
set_option maxHeartbeats 1000000 in
theorem m19 (s : S) (p : Nat) (w : World) (hs : Stp w p s) (hop : s.i.op = 19) (hA : s.a = A0) (K : GoodS s) : Means 132 p w s := by
  have ha : after s = s.put (Ar.add s.first s.i.imm) := by
    obtain ⟨h, ⟨op, rd, rs1, rs2, imm, aq, rl⟩, size, tv, tok, a, nx⟩ := s
    simp only at hop hA
    subst hop hA
    rfl
  have hw : whyS s = 0 := why_plain s hop rfl (by decide) (by decide) (fun _ _ => rfl)
  refine ⟨fun _ => ?_, fun h => absurd hw h⟩
  rw [ha]
  have HS := Lib.hid hs; clear hs ha hw hop hA
  have c2 : w.cell? ⟨p, 39, none⟩ = some (.int .u32 s.i.imm) := HS.out.cell 39
  go_enter Tryz.func132, Tryz.ntmps132
  go_wp2
  go_region_with (first
    | (go_at_call 110; refine (first_any s p _ (by exact HS.out) K.rs1).mono ?_; rintro e w' ⟨rfl, n, rfl⟩)
    | (go_at_call 133; refine (add_any _ _  _).mono ?_; rintro e w' ⟨rfl, rfl⟩)
    | (go_at_call 108; refine (put_s s _ p _ (by exact HS.out) K.rd).mono ?_; rintro e w' ⟨rfl, hl⟩; (have HL := Lib.hid hl); clear hl))
  all_goals
    go_end0
    exact ⟨rfl, Lv.trans ⟨HS.out.drewN _, (Oth.refl _ _).drewN _⟩ HL.out⟩
set_option maxRecDepth 100000 in
set_option maxHeartbeats 1000000 in
theorem m20 (s : S) (p : Nat) (w : World) (hs : Stp w p s) (hop : s.i.op = 20) (hA : s.a = A0) (K : GoodS s) : Means 134 p w s := by
  have ha : after s = s.put (b01 (Ar.less s.first s.i.imm)) := by
    obtain ⟨h, ⟨op, rd, rs1, rs2, imm, aq, rl⟩, size, tv, tok, a, nx⟩ := s
    simp only at hop hA
    subst hop hA
    rfl
  have hw : whyS s = 0 := why_plain s hop rfl (by decide) (by decide) (fun _ _ => rfl)
  refine ⟨fun _ => ?_, fun h => absurd hw h⟩
  rw [ha]
  have HS := Lib.hid hs; clear hs ha hw hop hA
  have c2 : w.cell? ⟨p, 39, none⟩ = some (.int .u32 s.i.imm) := HS.out.cell 39
  go_enter Tryz.func134, Tryz.ntmps134
  go_wp2
  go_region_with (first
    | (go_at_call 110; refine (first_any s p _ (by exact HS.out) K.rs1).mono ?_; rintro e w' ⟨rfl, n, rfl⟩)
    | (go_at_call 116; refine (less_any _ _ (by exact K.R _) (by exact K.imm) _).mono ?_; rintro e w' ⟨rfl, rfl⟩)
    | (go_at_call 135; refine (hbit_any _ _).mono ?_; rintro e w' ⟨rfl, rfl⟩)
    | (go_at_call 108; refine (put_s s _ p _ (by exact HS.out) K.rd).mono ?_; rintro e w' ⟨rfl, hl⟩; (have HL := Lib.hid hl); clear hl))
  all_goals
    go_end0
    exact ⟨rfl, Lv.trans ⟨HS.out.drewN _, (Oth.refl _ _).drewN _⟩ HL.out⟩
set_option maxRecDepth 100000 in
set_option maxHeartbeats 1000000 in
theorem m21 (s : S) (p : Nat) (w : World) (hs : Stp w p s) (hop : s.i.op = 21) (hA : s.a = A0) (K : GoodS s) : Means 136 p w s := by
  have ha : after s = s.put (b01 (Ar.lessu s.first s.i.imm)) := by
    obtain ⟨h, ⟨op, rd, rs1, rs2, imm, aq, rl⟩, size, tv, tok, a, nx⟩ := s
    simp only at hop hA
    subst hop hA
    rfl
  have hw : whyS s = 0 := why_plain s hop rfl (by decide) (by decide) (fun _ _ => rfl)
  refine ⟨fun _ => ?_, fun h => absurd hw h⟩
  rw [ha]
  have HS := Lib.hid hs; clear hs ha hw hop hA
  have c2 : w.cell? ⟨p, 39, none⟩ = some (.int .u32 s.i.imm) := HS.out.cell 39
  go_enter Tryz.func136, Tryz.ntmps136
  go_wp2
  go_region_with (first
    | (go_at_call 110; refine (first_any s p _ (by exact HS.out) K.rs1).mono ?_; rintro e w' ⟨rfl, n, rfl⟩)
    | (go_at_call 119; refine (lessu_any _ _  _).mono ?_; rintro e w' ⟨rfl, rfl⟩)
    | (go_at_call 135; refine (hbit_any _ _).mono ?_; rintro e w' ⟨rfl, rfl⟩)
    | (go_at_call 108; refine (put_s s _ p _ (by exact HS.out) K.rd).mono ?_; rintro e w' ⟨rfl, hl⟩; (have HL := Lib.hid hl); clear hl))
  all_goals
    go_end0
    exact ⟨rfl, Lv.trans ⟨HS.out.drewN _, (Oth.refl _ _).drewN _⟩ HL.out⟩
set_option maxRecDepth 100000 in
set_option maxHeartbeats 1000000 in
theorem m22 (s : S) (p : Nat) (w : World) (hs : Stp w p s) (hop : s.i.op = 22) (hA : s.a = A0) (K : GoodS s) : Means 137 p w s := by
  have ha : after s = s.put (bits .xor .u32 s.first s.i.imm) := by
    obtain ⟨h, ⟨op, rd, rs1, rs2, imm, aq, rl⟩, size, tv, tok, a, nx⟩ := s
    simp only at hop hA
    subst hop hA
    rfl
  have hw : whyS s = 0 := why_plain s hop rfl (by decide) (by decide) (fun _ _ => rfl)
  refine ⟨fun _ => ?_, fun h => absurd hw h⟩
  rw [ha]
  have HS := Lib.hid hs; clear hs ha hw hop hA
  have c2 : w.cell? ⟨p, 39, none⟩ = some (.int .u32 s.i.imm) := HS.out.cell 39
  go_enter Tryz.func137, Tryz.ntmps137
  go_wp2
  go_region_with (first
    | (go_at_call 110; refine (first_any s p _ (by exact HS.out) K.rs1).mono ?_; rintro e w' ⟨rfl, n, rfl⟩)
    | (go_at_call 108; refine (put_s s _ p _ (by exact HS.out) K.rd).mono ?_; rintro e w' ⟨rfl, hl⟩; (have HL := Lib.hid hl); clear hl))
  all_goals
    go_end0
    exact ⟨rfl, Lv.trans ⟨HS.out.drewN _, (Oth.refl _ _).drewN _⟩ HL.out⟩
set_option maxRecDepth 100000 in
set_option maxHeartbeats 1000000 in
theorem m23 (s : S) (p : Nat) (w : World) (hs : Stp w p s) (hop : s.i.op = 23) (hA : s.a = A0) (K : GoodS s) : Means 138 p w s := by
  have ha : after s = s.put (bits .or .u32 s.first s.i.imm) := by
    obtain ⟨h, ⟨op, rd, rs1, rs2, imm, aq, rl⟩, size, tv, tok, a, nx⟩ := s
    simp only at hop hA
    subst hop hA
    rfl
  have hw : whyS s = 0 := why_plain s hop rfl (by decide) (by decide) (fun _ _ => rfl)
  refine ⟨fun _ => ?_, fun h => absurd hw h⟩
  rw [ha]
  have HS := Lib.hid hs; clear hs ha hw hop hA
  have c2 : w.cell? ⟨p, 39, none⟩ = some (.int .u32 s.i.imm) := HS.out.cell 39
  go_enter Tryz.func138, Tryz.ntmps138
  go_wp2
  go_region_with (first
    | (go_at_call 110; refine (first_any s p _ (by exact HS.out) K.rs1).mono ?_; rintro e w' ⟨rfl, n, rfl⟩)
    | (go_at_call 108; refine (put_s s _ p _ (by exact HS.out) K.rd).mono ?_; rintro e w' ⟨rfl, hl⟩; (have HL := Lib.hid hl); clear hl))
  all_goals
    go_end0
    exact ⟨rfl, Lv.trans ⟨HS.out.drewN _, (Oth.refl _ _).drewN _⟩ HL.out⟩
set_option maxRecDepth 100000 in
set_option maxHeartbeats 1000000 in
theorem m24 (s : S) (p : Nat) (w : World) (hs : Stp w p s) (hop : s.i.op = 24) (hA : s.a = A0) (K : GoodS s) : Means 139 p w s := by
  have ha : after s = s.put (bits .and .u32 s.first s.i.imm) := by
    obtain ⟨h, ⟨op, rd, rs1, rs2, imm, aq, rl⟩, size, tv, tok, a, nx⟩ := s
    simp only at hop hA
    subst hop hA
    rfl
  have hw : whyS s = 0 := why_plain s hop rfl (by decide) (by decide) (fun _ _ => rfl)
  refine ⟨fun _ => ?_, fun h => absurd hw h⟩
  rw [ha]
  have HS := Lib.hid hs; clear hs ha hw hop hA
  have c2 : w.cell? ⟨p, 39, none⟩ = some (.int .u32 s.i.imm) := HS.out.cell 39
  go_enter Tryz.func139, Tryz.ntmps139
  go_wp2
  go_region_with (first
    | (go_at_call 110; refine (first_any s p _ (by exact HS.out) K.rs1).mono ?_; rintro e w' ⟨rfl, n, rfl⟩)
    | (go_at_call 108; refine (put_s s _ p _ (by exact HS.out) K.rd).mono ?_; rintro e w' ⟨rfl, hl⟩; (have HL := Lib.hid hl); clear hl))
  all_goals
    go_end0
    exact ⟨rfl, Lv.trans ⟨HS.out.drewN _, (Oth.refl _ _).drewN _⟩ HL.out⟩
set_option maxRecDepth 100000 in
set_option maxHeartbeats 1000000 in
theorem m25 (s : S) (p : Nat) (w : World) (hs : Stp w p s) (hop : s.i.op = 25) (hA : s.a = A0) (K : GoodS s) : Means 140 p w s := by
  have ha : after s = s.put (Ar.shl s.first s.i.imm) := by
    obtain ⟨h, ⟨op, rd, rs1, rs2, imm, aq, rl⟩, size, tv, tok, a, nx⟩ := s
    simp only at hop hA
    subst hop hA
    rfl
  have hw : whyS s = 0 := why_plain s hop rfl (by decide) (by decide) (fun _ _ => rfl)
  refine ⟨fun _ => ?_, fun h => absurd hw h⟩
  rw [ha]
  have HS := Lib.hid hs; clear hs ha hw hop hA
  have c2 : w.cell? ⟨p, 39, none⟩ = some (.int .u32 s.i.imm) := HS.out.cell 39
  go_enter Tryz.func140, Tryz.ntmps140
  go_wp2
  go_region_with (first
    | (go_at_call 110; refine (first_any s p _ (by exact HS.out) K.rs1).mono ?_; rintro e w' ⟨rfl, n, rfl⟩)
    | (go_at_call 141; refine (shl_any _ _ (by exact K.imm) _).mono ?_; rintro e w' ⟨rfl, rfl⟩)
    | (go_at_call 108; refine (put_s s _ p _ (by exact HS.out) K.rd).mono ?_; rintro e w' ⟨rfl, hl⟩; (have HL := Lib.hid hl); clear hl))
  all_goals
    go_end0
    exact ⟨rfl, Lv.trans ⟨HS.out.drewN _, (Oth.refl _ _).drewN _⟩ HL.out⟩
set_option maxRecDepth 100000 in
set_option maxHeartbeats 1000000 in
theorem m26 (s : S) (p : Nat) (w : World) (hs : Stp w p s) (hop : s.i.op = 26) (hA : s.a = A0) (K : GoodS s) : Means 142 p w s := by
  have ha : after s = s.put (Ar.shr s.first s.i.imm) := by
    obtain ⟨h, ⟨op, rd, rs1, rs2, imm, aq, rl⟩, size, tv, tok, a, nx⟩ := s
    simp only at hop hA
    subst hop hA
    rfl
  have hw : whyS s = 0 := why_plain s hop rfl (by decide) (by decide) (fun _ _ => rfl)
  refine ⟨fun _ => ?_, fun h => absurd hw h⟩
  rw [ha]
  have HS := Lib.hid hs; clear hs ha hw hop hA
  have c2 : w.cell? ⟨p, 39, none⟩ = some (.int .u32 s.i.imm) := HS.out.cell 39
  go_enter Tryz.func142, Tryz.ntmps142
  go_wp2
  go_region_with (first
    | (go_at_call 110; refine (first_any s p _ (by exact HS.out) K.rs1).mono ?_; rintro e w' ⟨rfl, n, rfl⟩)
    | (go_at_call 143; refine (shr_any _ _ (by exact K.imm) _).mono ?_; rintro e w' ⟨rfl, rfl⟩)
    | (go_at_call 108; refine (put_s s _ p _ (by exact HS.out) K.rd).mono ?_; rintro e w' ⟨rfl, hl⟩; (have HL := Lib.hid hl); clear hl))
  all_goals
    go_end0
    exact ⟨rfl, Lv.trans ⟨HS.out.drewN _, (Oth.refl _ _).drewN _⟩ HL.out⟩
set_option maxRecDepth 100000 in
set_option maxHeartbeats 1000000 in
theorem m27 (s : S) (p : Nat) (w : World) (hs : Stp w p s) (hop : s.i.op = 27) (hA : s.a = A0) (K : GoodS s) : Means 144 p w s := by
  have ha : after s = s.put (Ar.sar s.first s.i.imm) := by
    obtain ⟨h, ⟨op, rd, rs1, rs2, imm, aq, rl⟩, size, tv, tok, a, nx⟩ := s
    simp only at hop hA
    subst hop hA
    rfl
  have hw : whyS s = 0 := why_plain s hop rfl (by decide) (by decide) (fun _ _ => rfl)
  refine ⟨fun _ => ?_, fun h => absurd hw h⟩
  rw [ha]
  have HS := Lib.hid hs; clear hs ha hw hop hA
  have c2 : w.cell? ⟨p, 39, none⟩ = some (.int .u32 s.i.imm) := HS.out.cell 39
  go_enter Tryz.func144, Tryz.ntmps144
  go_wp2
  go_region_with (first
    | (go_at_call 110; refine (first_any s p _ (by exact HS.out) K.rs1).mono ?_; rintro e w' ⟨rfl, n, rfl⟩)
    | (go_at_call 145; refine (sar_any _ _ (by exact K.R _) (by exact K.imm) _).mono ?_; rintro e w' ⟨rfl, rfl⟩)
    | (go_at_call 108; refine (put_s s _ p _ (by exact HS.out) K.rd).mono ?_; rintro e w' ⟨rfl, hl⟩; (have HL := Lib.hid hl); clear hl))
  all_goals
    go_end0
    exact ⟨rfl, Lv.trans ⟨HS.out.drewN _, (Oth.refl _ _).drewN _⟩ HL.out⟩
end Go.Proofs.YtianojbdabeoeaaGreatDoor
