/-
  Jumps, and what has no like.
-/
import Derived.Test.YtianojbdabeoeaaGreatDoorHtAccs
namespace Go.Proofs.YtianojbdabeoeaaGreatDoor
open Go.RowKit Ht
set_option linter.unusedVariables false
set_option maxRecDepth 100000 in
set_option maxHeartbeats 1000000 in
theorem m3 (s : S) (p : Nat) (w : World) (hs : Stp w p s) (hop : s.i.op = 3) (hA : s.a = A0) (K : GoodS s) : Means 106 p w s := by
  have hw : whyS s = if Ar.add s.h.pc s.i.imm % 4 ≠ 0 then 3 else 0 := by unfold whyS why; rw [hop, if_neg (by decide), if_neg (fun h => h.1 rfl), if_neg (fun h => h.1 rfl)]; simp [jumps, place]
  have ha : after s = S.put { s with next := Ar.add s.h.pc s.i.imm } (Ar.add s.h.pc 4) := by
    obtain ⟨h, ⟨op, rd, rs1, rs2, imm, aq, rl⟩, size, tv, tok, a, nx⟩ := s
    simp only at hop hA
    subst hop hA
    rfl
  rw [Means, hw, ha]
  have HS := Lib.hid hs; clear hs hw ha hop hA
  have c0 : w.cell? ⟨p, 1, none⟩ = some (.int .u32 s.h.pc) := HS.out.cell 1
  have c1 : w.cell? ⟨p, 39, none⟩ = some (.int .u32 s.i.imm) := HS.out.cell 39
  by_cases h3 : Ar.add s.h.pc s.i.imm % 4 = 0
  · rw [if_neg (fun h => h h3)]
    refine ⟨fun _ => ?_, fun h => absurd rfl h⟩
    have H3 := Lib.hid h3; clear h3
    go_enter Tryz.func106, Tryz.ntmps106
    go_wp2
    go_still_tail 12, (by kernel_rfl)
    change wpList _ _ _ _ _ (w.drewN 1)
    rw [wrap_add]
    clear c0 c1
    go_wp2_with fail
    refine (jump_s s _ p _ (HS.out.drewN 1) (Ar.md_wd _) H3.out).mono ?_
    rintro e w1 ⟨rfl, hl⟩
    have c2 : w1.cell? ⟨p, 1, none⟩ = some (.int .u32 s.h.pc) := hl.1.cell 1
    have HL1 := Lib.hid (Lv.trans ⟨HS.out.drewN 1, (Oth.refl p w).drewN 1⟩ hl); clear hl
    go_wp2_with fail
    rw [show (s.h.pc + 4) % 4294967296 = Ar.add s.h.pc 4 from rfl]
    refine (put_s _ _ p _ HL1.out.1 K.rd).mono ?_
    rintro e w3 ⟨rfl, hl⟩
    have HL3 := Lib.hid (HL1.out.trans hl); clear hl
    go_wp2
    go_end0
    exact ⟨rfl, HL3.out⟩
  · rw [if_pos h3]
    refine ⟨fun h => (by cases h), fun _ => ?_⟩
    have H3 := Lib.hid h3; clear h3
    go_enter Tryz.func106, Tryz.ntmps106
    go_wp2
    go_still_tail 12, (by kernel_rfl)
    change wpList _ _ _ _ _ (w.drewN 1)
    rw [wrap_add]
    clear c0 c1
    go_wp2_with fail
    refine (jump_h _ p _ (Ar.md_wd _) H3.out).mono ?_
    rintro e w1 ⟨rfl, ho⟩
    have HO := Lib.hid (((Oth.refl p w).drewN 1).trans ho); clear ho
    go_wp2
    exact ⟨rfl, rfl, HO.out⟩
set_option maxRecDepth 100000 in
set_option maxHeartbeats 1000000 in
theorem m4 (s : S) (p : Nat) (w : World) (hs : Stp w p s) (hop : s.i.op = 4) (hA : s.a = A0) (K : GoodS s) : Means 109 p w s := by
  have hw : whyS s = if even (Ar.add s.first s.i.imm) % 4 ≠ 0 then 3 else 0 := by unfold whyS why; rw [hop, if_neg (by decide), if_neg (fun h => h.1 rfl), if_neg (fun h => h.1 rfl)]; simp [jumps, place]
  have ha : after s = S.put { s with next := even (Ar.add s.first s.i.imm) } (Ar.add s.h.pc 4) := by
    obtain ⟨h, ⟨op, rd, rs1, rs2, imm, aq, rl⟩, size, tv, tok, a, nx⟩ := s
    simp only at hop hA
    subst hop hA
    rfl
  rw [Means, hw, ha]
  have HS := Lib.hid hs; clear hs hw ha hop hA
  have c0 : w.cell? ⟨p, 1, none⟩ = some (.int .u32 s.h.pc) := HS.out.cell 1
  have c1 : w.cell? ⟨p, 39, none⟩ = some (.int .u32 s.i.imm) := HS.out.cell 39
  by_cases h3 : even (Ar.add s.first s.i.imm) % 4 = 0
  · rw [if_neg (fun h => h h3)]
    refine ⟨fun _ => ?_, fun h => absurd rfl h⟩
    have H3 := Lib.hid h3; clear h3
    go_enter Tryz.func109, Tryz.ntmps109
    go_wp2
    go_region_with (first
      | (go_at_call 110; refine (first_any s p _ (by exact HS.out) K.rs1).mono ?_; rintro e w' ⟨rfl, n, rfl⟩)
      | (go_at_call 107; rw [even_walk2]; (refine (jump_s s (even (Ar.add s.first s.i.imm)) p _ (by exact HS.out) (even_wd (Ar.md_wd _)) (by exact H3.out)).mono ?_; rintro e w' ⟨rfl, hl⟩; (have HL := Lib.hid hl); clear hl)))
    all_goals
      have HL1 := Lib.hid (Lv.trans (a := w) ⟨HS.out.drewN _, (Oth.refl p w).drewN _⟩ HL.out); clear HL
      have c2 : w'.cell? ⟨p, 1, none⟩ = some (.int .u32 s.h.pc) := HL1.out.1.cell 1
      go_wp2_with fail
      rw [show (s.h.pc + 4) % 4294967296 = Ar.add s.h.pc 4 from rfl]
      refine (put_s _ _ p _ HL1.out.1 K.rd).mono ?_
      rintro e w3 ⟨rfl, hl⟩
      have HL3 := Lib.hid (HL1.out.trans hl); clear hl
      go_wp2
      go_end0
      exact ⟨rfl, HL3.out⟩
  · rw [if_pos h3]
    refine ⟨fun h => (by cases h), fun _ => ?_⟩
    have H3 := Lib.hid h3; clear h3
    go_enter Tryz.func109, Tryz.ntmps109
    go_wp2
    refine wp_region_any (by kernel_rfl) ?_
    change wpAny _ _ _ _ _ _ _ (World.drew _)
    refine wpAny_take (i := 0) (v := ?_) rfl (by kernel_rfl) (by kernel_rfl) (by kernel_rfl) (fun _ _ _ h => h) (Or.inl ⟨by rfl, ?_⟩) ?_
    rotate_left 1
    · intro w
      go_simp
      try (with_reducible rfl)
    refine wpAny_take (i := 1) (v := ?_) rfl (by kernel_rfl) (by kernel_rfl) (by kernel_rfl) (fun _ _ _ h => h) (Or.inl ⟨by rfl, ?_⟩) ?_
    rotate_left 1
    · intro w
      go_simp
      try (with_reducible rfl)
    refine wpAny_take (i := 3) (v := ?_) rfl (by kernel_rfl) (by kernel_rfl) (by kernel_rfl) (fun _ _ _ h => h) (Or.inl ⟨by rfl, ?_⟩) ?_
    rotate_left 1
    · intro w
      go_simp
      try (with_reducible rfl)
    refine wpAny_take (i := 4) (v := ?_) rfl (by kernel_rfl) (by kernel_rfl) (by kernel_rfl) (fun _ _ _ h => h) (Or.inl ⟨by rfl, ?_⟩) ?_
    rotate_left 1
    · intro w
      go_simp
      try (with_reducible rfl)
    refine wpAny_take (i := 5) (v := ?_) rfl (by kernel_rfl) (by kernel_rfl) (by kernel_rfl) (fun _ _ _ h => h) (Or.inl ⟨by rfl, ?_⟩) ?_
    rotate_left 1
    · intro w
      go_simp
      try (with_reducible rfl)
    refine wpAny_take (i := 6) (v := ?_) rfl (by kernel_rfl) (by kernel_rfl) (by kernel_rfl) (fun _ _ _ h => h) (Or.inl ⟨by rfl, ?_⟩) ?_
    rotate_left 1
    · intro w
      go_simp
      try (with_reducible rfl)
    refine wpAny_ready (rs := [2, 7]) (by kernel_rfl) (by simp) ?_
    refine AllReady.cons rfl (fun X hX => ?_) ?_
    · go_simp
      refine (first_any s p _ (by exact HS.out) K.rs1).mono ?_
      rintro e w' ⟨rfl, n, rfl⟩
      go_wp2_with fail
      refine wpAny_ready (rs := [7]) (by kernel_rfl) (by simp) ?_
      refine AllReady.cons rfl (fun X hX => ?_) ?_
      · go_simp
        refine hX _ _ ?_
        clear hX X
        refine wpAny_take (i := 8) (v := ?_) rfl (by kernel_rfl) (by kernel_rfl) (by kernel_rfl) (fun _ _ _ h => h) (Or.inl ⟨by rfl, ?_⟩) ?_
        rotate_left 1
        · intro w
          go_simp
          try (with_reducible rfl)
        refine wpAny_take (i := 9) (v := ?_) rfl (by kernel_rfl) (by kernel_rfl) (by kernel_rfl) (fun _ _ _ h => h) (Or.inl ⟨by rfl, ?_⟩) ?_
        rotate_left 1
        · intro w
          go_simp
          try (with_reducible rfl)
        refine wpAny_ready (rs := [10]) (by kernel_rfl) (by simp) ?_
        refine AllReady.cons rfl (fun X hX => ?_) ?_
        · go_simp
          rw [even_walk2]
          refine (jump_h (even (Ar.add s.first s.i.imm)) p _ (even_wd (Ar.md_wd _)) (by exact H3.out)).mono ?_
          rintro e w' ⟨rfl, ho⟩
          have HO := Lib.hid ho; clear ho
          go_wp2_with fail
          exact ⟨rfl, rfl, ((Oth.refl p w).drewN _).trans HO.out⟩
        exact AllReady.nil
      exact AllReady.nil
    refine AllReady.cons rfl (fun X hX => ?_) ?_
    · go_simp
      refine hX _ _ ?_
      clear hX X
      refine wpAny_ready (rs := [2]) (by kernel_rfl) (by simp) ?_
      refine AllReady.cons rfl (fun X hX => ?_) ?_
      · go_simp
        refine (first_any s p _ (by exact HS.out) K.rs1).mono ?_
        rintro e w' ⟨rfl, n, rfl⟩
        go_wp2_with fail
        refine wpAny_take (i := 8) (v := ?_) rfl (by kernel_rfl) (by kernel_rfl) (by kernel_rfl) (fun _ _ _ h => h) (Or.inl ⟨by rfl, ?_⟩) ?_
        rotate_left 1
        · intro w
          go_simp
          try (with_reducible rfl)
        refine wpAny_take (i := 9) (v := ?_) rfl (by kernel_rfl) (by kernel_rfl) (by kernel_rfl) (fun _ _ _ h => h) (Or.inl ⟨by rfl, ?_⟩) ?_
        rotate_left 1
        · intro w
          go_simp
          try (with_reducible rfl)
        refine wpAny_ready (rs := [10]) (by kernel_rfl) (by simp) ?_
        refine AllReady.cons rfl (fun X hX => ?_) ?_
        · go_simp
          rw [even_walk2]
          refine (jump_h (even (Ar.add s.first s.i.imm)) p _ (even_wd (Ar.md_wd _)) (by exact H3.out)).mono ?_
          rintro e w' ⟨rfl, ho⟩
          have HO := Lib.hid ho; clear ho
          go_wp2_with fail
          exact ⟨rfl, rfl, ((Oth.refl p w).drewN _).trans HO.out⟩
        exact AllReady.nil
      exact AllReady.nil
    exact AllReady.nil
set_option maxRecDepth 100000 in
theorem m1 (s : S) (p : Nat) (w : World) (hs : Stp w p s) (hop : s.i.op = 1) (hA : s.a = A0) (K : GoodS s) : Means 173 p w s := by
  have ha : after s = s.put (s.i.imm) := by
    obtain ⟨h, ⟨op, rd, rs1, rs2, imm, aq, rl⟩, size, tv, tok, a, nx⟩ := s
    simp only at hop hA
    subst hop hA
    rfl
  have hw : whyS s = 0 := why_plain s hop rfl (by decide) (by decide) (fun _ _ => rfl)
  refine ⟨fun _ => ?_, fun h => absurd hw h⟩
  rw [ha]
  have HS := Lib.hid hs; clear hs ha hw hop hA
  have c0 : w.cell? ⟨p, 39, none⟩ = some (.int .u32 s.i.imm) := HS.out.cell 39
  go_enter Tryz.func173, Tryz.ntmps173
  go_wp2_with fail
  refine (put_s s _ p _ HS.out K.rd).mono ?_
  rintro e w1 ⟨rfl, hl⟩
  have HL := Lib.hid hl; clear hl
  go_wp2
  go_end0
  exact ⟨rfl, HL.out⟩
set_option maxRecDepth 100000 in
theorem m2 (s : S) (p : Nat) (w : World) (hs : Stp w p s) (hop : s.i.op = 2) (hA : s.a = A0) (K : GoodS s) : Means 174 p w s := by
  have ha : after s = s.put (Ar.add s.h.pc s.i.imm) := by
    obtain ⟨h, ⟨op, rd, rs1, rs2, imm, aq, rl⟩, size, tv, tok, a, nx⟩ := s
    simp only at hop hA
    subst hop hA
    rfl
  have hw : whyS s = 0 := why_plain s hop rfl (by decide) (by decide) (fun _ _ => rfl)
  refine ⟨fun _ => ?_, fun h => absurd hw h⟩
  rw [ha]
  have HS := Lib.hid hs; clear hs ha hw hop hA
  have c0 : w.cell? ⟨p, 1, none⟩ = some (.int .u32 s.h.pc) := HS.out.cell 1
  have c1 : w.cell? ⟨p, 39, none⟩ = some (.int .u32 s.i.imm) := HS.out.cell 39
  go_enter Tryz.func174, Tryz.ntmps174
  go_wp2
  go_still_tail 12, (by kernel_rfl)
  change wpList _ _ _ _ _ (w.drewN 1)
  rw [wrap_add]
  go_wp2_with fail
  refine (put_s s _ p _ (HS.out.drewN 1) K.rd).mono ?_
  rintro e w1 ⟨rfl, hl⟩
  have HL := Lib.hid (Lv.trans ⟨HS.out.drewN 1, (Oth.refl p w).drewN 1⟩ hl); clear hl
  go_wp2
  go_end0
  exact ⟨rfl, HL.out⟩
theorem m38 (s : S) (p : Nat) (w : World) (hs : Stp w p s) (hop : s.i.op = 38) (hA : s.a = A0) (K : GoodS s) : Means 175 p w s := by
  have ha : after s = { s with a := ⟨6, 0, 0, s.i.imm, 0, false, false⟩ } := by
    obtain ⟨h, ⟨op, rd, rs1, rs2, imm, aq, rl⟩, size, tv, tok, a, nx⟩ := s
    simp only at hop hA
    subst hop hA
    rfl
  have hw : whyS s = 0 := why_plain s hop rfl (by decide) (by decide) (fun _ _ => rfl)
  refine ⟨fun _ => ?_, fun h => absurd hw h⟩
  rw [ha]
  have hs0 : Stp w p { s with a := A0 } := by rw [← hA]; exact hs
  have HS := Lib.hid hs; clear ha hw hop
  have c0 : w.cell? ⟨p, 39, none⟩ = some (.int .u32 s.i.imm) := HS.out.cell 39
  have d0 : w.cell? ⟨p, 45, none⟩ = some (.int .i64 0) := hs0.cell 45
  have z0 := HS.out.free 45
  have d1 : w.cell? ⟨p, 46, none⟩ = some (.int .u32 0) := hs0.cell 46
  have z1 := HS.out.free 46
  have d2 : w.cell? ⟨p, 47, none⟩ = some (.int .i64 0) := hs0.cell 47
  have z2 := HS.out.free 47
  have d3 : w.cell? ⟨p, 48, none⟩ = some (.int .u32 0) := hs0.cell 48
  have z3 := HS.out.free 48
  have d4 : w.cell? ⟨p, 49, none⟩ = some (.int .i64 0) := hs0.cell 49
  have z4 := HS.out.free 49
  have d5 : w.cell? ⟨p, 50, none⟩ = some (.bool false) := hs0.cell 50
  have z5 := HS.out.free 50
  have d6 : w.cell? ⟨p, 51, none⟩ = some (.bool false) := hs0.cell 51
  have z6 := HS.out.free 51
  clear hs hs0 hA
  go_enter Tryz.func175, Tryz.ntmps175
  go_wp2
  go_end0
  exact ⟨rfl, set_access0 HS.out ⟨_, _, _, _, _, _, _⟩⟩
theorem m39 (s : S) (p : Nat) (w : World) (hs : Stp w p s) (hop : s.i.op = 39) (hA : s.a = A0) (K : GoodS s) : Means 176 p w s := by
  have hw : whyS s = 1 := by unfold whyS why; rw [hop]; rfl
  rw [Means, hw]
  refine ⟨fun h => (by cases h), fun _ => ?_⟩
  clear hs hop hA
  go_enter Tryz.func176, Tryz.ntmps176
  go_wp2
  exact ⟨rfl, rfl, Oth.refl _ _⟩
set_option maxRecDepth 100000 in
theorem m59 (s : S) (p : Nat) (w : World) (hs : Stp w p s) (hop : s.i.op = 59) (hA : s.a = A0) (K : GoodS s) : Means 180 p w s := by
  have ha : after s = s.put (s.h.id) := by
    obtain ⟨h, ⟨op, rd, rs1, rs2, imm, aq, rl⟩, size, tv, tok, a, nx⟩ := s
    simp only at hop hA
    subst hop hA
    rfl
  have hw : whyS s = 0 := why_plain s hop rfl (by decide) (by decide) (fun _ _ => rfl)
  refine ⟨fun _ => ?_, fun h => absurd hw h⟩
  rw [ha]
  have HS := Lib.hid hs; clear hs ha hw hop hA
  have c0 : w.cell? ⟨p, 0, none⟩ = some (.int .i64 s.h.id) := HS.out.cell 0
  have hid : s.h.id % 4294967296 = s.h.id := by have := K.id; omega
  go_enter Tryz.func180, Tryz.ntmps180
  go_wp2_with fail
  refine (put_s s _ p _ HS.out K.rd).mono ?_
  rintro e w1 ⟨rfl, hl⟩
  have HL := Lib.hid hl; clear hl
  go_wp2
  go_end0
  exact ⟨rfl, HL.out⟩
end Go.Proofs.YtianojbdabeoeaaGreatDoor
