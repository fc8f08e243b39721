/-
  A word with the parts of an instruction, by its form: the program's method lay.
-/
import Derived.Test.YtianojbdabeoeaaGreatDoorIsForms
import Derived.Test.YtianojbdabeoeaaGreatDoorIsLow2
import Derived.Test.YtianojbdabeoeaaGreatDoorIsLayw
import Derived.Test.YtianojbdabeoeaaGreatDoorOg3
import Derived.Deep.Cut
import Derived.Deep.QuietTactic
import Derived.BigQuiet
namespace Go.Proofs.YtianojbdabeoeaaGreatDoor
open Go.RowKit Go.Maps
set_option linter.unusedVariables false
set_option linter.unusedSimpArgs false

set_option maxRecDepth 100000 in
set_option maxHeartbeats 2000000 in
theorem lay10 (op rd rs1 rs2 imm : Int) (aq rl : Bool) (h1 : -9223372036854775808 ≤ rd ∧ rd ≤ 9223372036854775807) (h2 : -9223372036854775808 ≤ rs1 ∧ rs1 ≤ 9223372036854775807) (h3 : -9223372036854775808 ≤ rs2 ∧ rs2 ≤ 9223372036854775807) (hi : Is.Wd imm) (w : World) :
    Calls Tryz.prog 104 #[fo 10, inst op rd rs1 rs2 imm aq rl] w fun e w' => e = .returned (.int .u32 (Is.layO 10 rd rs1 rs2 imm aq rl)) ∧ Below w.heap.size w w' := by
  have HI := Lib.hid hi; clear hi
  rw [fo10]
  unfold inst
  go_enter Tryz.func104, Tryz.ntmps104
  go_upto_region 1 with (fail)
  refine Og.region3 (by kernel_rfl) (fun t => if t = 5 then some 6 else if 6 ≤ t ∧ t ≤ 11 then some (t - 6) else none) [.is (.pointer (some ⟨w.heap.size, 2, none⟩)), .is (.func (.func 247) #[] #[]), .is (.pointer (some ⟨w.heap.size + 1, 4, none⟩)), .is (.int .u32 imm), .says (fun (v : Value) (w2 : World) => ∃ r, v = Clo r ∧ w2.cell? ⟨r, 0, none⟩ = some (.int .u32 imm)), .is (.int .u32 (Is.placeO 10 imm)), .is (.int .u32 (Is.placeO 10 imm))] [true, true, true, true, true, true, true] (by kernel_rfl) ?_ ?_
  · refine ⟨?_, ?_, ?_, ?_, ?_, ?_, ?_, trivial⟩
    · refine ⟨rfl, fun ρ w1 hr hd => ?_⟩
      obtain ⟨d0, _⟩ := hd
      have d0 : ρ (.tmp 2) = .pointer (some ⟨w.heap.size, 0, none⟩) := d0
      refine (if_pos (by rfl)).mpr ?_
      refine Og.gives_is (.pointer (some ⟨w.heap.size, 2, none⟩)) ?_ (And.intro (Below.refl _ _) rfl)
      go_simp
    · refine ⟨rfl, fun ρ w1 hr hd => ?_⟩
      obtain ⟨d0, _⟩ := hd
      have d0 : ρ (.tmp 6) = .pointer (some ⟨w.heap.size, 2, none⟩) := d0
      have hc : w1.cell? ⟨w.heap.size, 2, none⟩ = some (.func (.func 247) #[] #[]) := (hr.cell (p := ⟨w.heap.size, 2, none⟩) (by simp; omega)).trans (by go_simp)
      refine (if_pos (by rfl)).mpr ?_
      refine Og.gives_is (.func (.func 247) #[] #[]) ?_ (And.intro (Below.refl _ _) rfl)
      go_simp
    · refine ⟨rfl, fun ρ w1 hr hd => ?_⟩
      obtain ⟨d0, _⟩ := hd
      have d0 : ρ (.tmp 3) = .pointer (some ⟨w.heap.size + 1, 0, none⟩) := d0
      refine (if_pos (by rfl)).mpr ?_
      refine Og.gives_is (.pointer (some ⟨w.heap.size + 1, 4, none⟩)) ?_ (And.intro (Below.refl _ _) rfl)
      go_simp
    · refine ⟨rfl, fun ρ w1 hr hd => ?_⟩
      obtain ⟨d0, _⟩ := hd
      have d0 : ρ (.tmp 8) = .pointer (some ⟨w.heap.size + 1, 4, none⟩) := d0
      have hc : w1.cell? ⟨w.heap.size + 1, 4, none⟩ = some (.int .u32 imm) := (hr.cell (p := ⟨w.heap.size + 1, 4, none⟩) (by simp)).trans (by go_simp)
      refine (if_pos (by rfl)).mpr ?_
      refine Og.gives_is (.int .u32 imm) ?_ (And.intro (Below.refl _ _) rfl)
      go_simp
    · refine ⟨rfl, fun ρ w1 hr hd => ?_⟩
      obtain ⟨d0, d1, _⟩ := hd
      have d0 : ρ (.func 201) = .func (.func 201) #[] #[] := d0
      have d1 : ρ (.tmp 9) = .int .u32 imm := d1
      refine (if_pos (by rfl)).mpr ?_
      refine Og.gives_call 201 #[.int .u32 imm] ?_ ?_
      · go_simp
      · refine (bitsOf_any imm w1).mono ?_
        rintro e w3 ⟨rfl, rfl⟩
        exact ⟨_, rfl, (Below.refl _ _).alloc (Nat.le_refl _) _, _, Below.refl _ _, _, rfl, by go_simp⟩
    · refine ⟨rfl, fun ρ w1 hr hd => ?_⟩
      obtain ⟨d0, d1, _⟩ := hd
      have d0 : ρ (.tmp 7) = .func (.func 247) #[] #[] := d0
      have d1 : ∃ w1', Below w1'.heap.size w1' w1 ∧ (fun (v : Value) (w2 : World) => ∃ r, v = Clo r ∧ w2.cell? ⟨r, 0, none⟩ = some (.int .u32 imm)) (ρ (.tmp 10)) w1' := d1
      obtain ⟨w2, hb2, r, hr2, hc2⟩ := d1
      refine (if_pos (by rfl)).mpr ?_
      refine Og.gives_call 247 #[Clo r] (by rw [← hr2]; go_simp) ?_
      refine (noImm_any imm r w1 HI.out ((hb2.cell (p := ⟨r, 0, none⟩) (World.block_lt_of_cell? w2 ⟨r, 0, none⟩ hc2)).trans hc2)).mono ?_
      rintro e w3 ⟨rfl, rfl⟩
      exact ⟨_, rfl, Below.refl _ _, rfl⟩
    · refine ⟨rfl, fun ρ w1 hr hd => ?_⟩
      obtain ⟨d0, _⟩ := hd
      have d0 : ρ (.tmp 11) = .int .u32 (Is.placeO 10 imm) := d0
      refine (if_pos (by rfl)).mpr ?_
      refine Og.gives_is (.int .u32 (Is.placeO 10 imm)) ?_ (And.intro (Below.refl _ _) rfl)
      go_simp
  · intro vs w1 hbz hall
    have v0 : vs 0 = .pointer (some ⟨w.heap.size, 2, none⟩) := hall 0 _ 6 rfl rfl
    have v1 : vs 1 = .func (.func 247) #[] #[] := hall 1 _ 7 rfl rfl
    have v2 : vs 2 = .pointer (some ⟨w.heap.size + 1, 4, none⟩) := hall 2 _ 8 rfl rfl
    have v3 : vs 3 = .int .u32 imm := hall 3 _ 9 rfl rfl
    obtain ⟨wq, hbq, rq, hrq, hcq⟩ : ∃ w1' : World, Below w1'.heap.size w1' w1 ∧ (fun (v : Value) (w2 : World) => ∃ r, v = Clo r ∧ w2.cell? ⟨r, 0, none⟩ = some (.int .u32 imm)) (vs 4) w1' := hall 4 _ 10 rfl rfl
    clear hbq hcq
    have v5 : vs 5 = .int .u32 (Is.placeO 10 imm) := hall 5 _ 11 rfl rfl
    have v6 : vs 6 = .int .u32 (Is.placeO 10 imm) := hall 6 _ 5 rfl rfl
    simp only [Og.putAll, Act.put, List.setIfInBounds_toArray, List.set_cons_zero, List.set_cons_succ, Nat.zero_add, Nat.reduceAdd, v0, v1, v2, v3, hrq, v5, v6]
    clear v0 v1 v2 v3 hrq v5 v6 hall
    have hc0 : w1.cell? ⟨w.heap.size, 0, none⟩ = some (.int .i64 0) := (hbz.cell (p := ⟨w.heap.size, 0, none⟩) (by simp; omega)).trans (by go_simp)
    have hz : w.heap.size + 1 < w1.heap.size := by have := hbz.size; simp at this; omega
    have hz0 : w.heap.size < w1.heap.size := by omega
    have hz1 : w.heap.size < w1.heap.size + 1 + 1 := by omega
    have hz2 : w.heap.size + 1 < w1.heap.size + 1 + 1 := by omega
    have hz3 : w.heap.size < w1.heap.size + 1 := by omega
    have hz4 : w.heap.size + 1 < w1.heap.size + 1 := by omega
    have HB := Lib.hid hbz; clear hbz
    go_wp2_with (go_at_call 202; refine (register_any _ _ (by assumption)).mono ?_; rintro e w' ⟨rfl, rfl⟩)
    go_ret
    exact ⟨ret_int (Is.layw10 HI.out rd rs1 rs2 aq rl), ((((Below.refl _ w).alloc (Nat.le_refl _) _).alloc (by simp) _).trans (HB.out.mono (by simp; omega)))⟩

set_option maxRecDepth 100000 in
set_option maxHeartbeats 2000000 in
theorem lay11 (op rd rs1 rs2 imm : Int) (aq rl : Bool) (h1 : -9223372036854775808 ≤ rd ∧ rd ≤ 9223372036854775807) (h2 : -9223372036854775808 ≤ rs1 ∧ rs1 ≤ 9223372036854775807) (h3 : -9223372036854775808 ≤ rs2 ∧ rs2 ≤ 9223372036854775807) (hi : Is.Wd imm) (w : World) :
    Calls Tryz.prog 104 #[fo 11, inst op rd rs1 rs2 imm aq rl] w fun e w' => e = .returned (.int .u32 (Is.layO 11 rd rs1 rs2 imm aq rl)) ∧ Below w.heap.size w w' := by
  have HI := Lib.hid hi; clear hi
  rw [fo11]
  unfold inst
  go_enter Tryz.func104, Tryz.ntmps104
  go_upto_region 1 with (fail)
  refine Og.region3 (by kernel_rfl) (fun t => if t = 5 then some 6 else if 6 ≤ t ∧ t ≤ 11 then some (t - 6) else none) [.is (.pointer (some ⟨w.heap.size, 2, none⟩)), .is (.func (.func 247) #[] #[]), .is (.pointer (some ⟨w.heap.size + 1, 4, none⟩)), .is (.int .u32 imm), .says (fun (v : Value) (w2 : World) => ∃ r, v = Clo r ∧ w2.cell? ⟨r, 0, none⟩ = some (.int .u32 imm)), .is (.int .u32 (Is.placeO 11 imm)), .is (.int .u32 (Is.placeO 11 imm))] [true, true, true, true, true, true, true] (by kernel_rfl) ?_ ?_
  · refine ⟨?_, ?_, ?_, ?_, ?_, ?_, ?_, trivial⟩
    · refine ⟨rfl, fun ρ w1 hr hd => ?_⟩
      obtain ⟨d0, _⟩ := hd
      have d0 : ρ (.tmp 2) = .pointer (some ⟨w.heap.size, 0, none⟩) := d0
      refine (if_pos (by rfl)).mpr ?_
      refine Og.gives_is (.pointer (some ⟨w.heap.size, 2, none⟩)) ?_ (And.intro (Below.refl _ _) rfl)
      go_simp
    · refine ⟨rfl, fun ρ w1 hr hd => ?_⟩
      obtain ⟨d0, _⟩ := hd
      have d0 : ρ (.tmp 6) = .pointer (some ⟨w.heap.size, 2, none⟩) := d0
      have hc : w1.cell? ⟨w.heap.size, 2, none⟩ = some (.func (.func 247) #[] #[]) := (hr.cell (p := ⟨w.heap.size, 2, none⟩) (by simp; omega)).trans (by go_simp)
      refine (if_pos (by rfl)).mpr ?_
      refine Og.gives_is (.func (.func 247) #[] #[]) ?_ (And.intro (Below.refl _ _) rfl)
      go_simp
    · refine ⟨rfl, fun ρ w1 hr hd => ?_⟩
      obtain ⟨d0, _⟩ := hd
      have d0 : ρ (.tmp 3) = .pointer (some ⟨w.heap.size + 1, 0, none⟩) := d0
      refine (if_pos (by rfl)).mpr ?_
      refine Og.gives_is (.pointer (some ⟨w.heap.size + 1, 4, none⟩)) ?_ (And.intro (Below.refl _ _) rfl)
      go_simp
    · refine ⟨rfl, fun ρ w1 hr hd => ?_⟩
      obtain ⟨d0, _⟩ := hd
      have d0 : ρ (.tmp 8) = .pointer (some ⟨w.heap.size + 1, 4, none⟩) := d0
      have hc : w1.cell? ⟨w.heap.size + 1, 4, none⟩ = some (.int .u32 imm) := (hr.cell (p := ⟨w.heap.size + 1, 4, none⟩) (by simp)).trans (by go_simp)
      refine (if_pos (by rfl)).mpr ?_
      refine Og.gives_is (.int .u32 imm) ?_ (And.intro (Below.refl _ _) rfl)
      go_simp
    · refine ⟨rfl, fun ρ w1 hr hd => ?_⟩
      obtain ⟨d0, d1, _⟩ := hd
      have d0 : ρ (.func 201) = .func (.func 201) #[] #[] := d0
      have d1 : ρ (.tmp 9) = .int .u32 imm := d1
      refine (if_pos (by rfl)).mpr ?_
      refine Og.gives_call 201 #[.int .u32 imm] ?_ ?_
      · go_simp
      · refine (bitsOf_any imm w1).mono ?_
        rintro e w3 ⟨rfl, rfl⟩
        exact ⟨_, rfl, (Below.refl _ _).alloc (Nat.le_refl _) _, _, Below.refl _ _, _, rfl, by go_simp⟩
    · refine ⟨rfl, fun ρ w1 hr hd => ?_⟩
      obtain ⟨d0, d1, _⟩ := hd
      have d0 : ρ (.tmp 7) = .func (.func 247) #[] #[] := d0
      have d1 : ∃ w1', Below w1'.heap.size w1' w1 ∧ (fun (v : Value) (w2 : World) => ∃ r, v = Clo r ∧ w2.cell? ⟨r, 0, none⟩ = some (.int .u32 imm)) (ρ (.tmp 10)) w1' := d1
      obtain ⟨w2, hb2, r, hr2, hc2⟩ := d1
      refine (if_pos (by rfl)).mpr ?_
      refine Og.gives_call 247 #[Clo r] (by rw [← hr2]; go_simp) ?_
      refine (noImm_any imm r w1 HI.out ((hb2.cell (p := ⟨r, 0, none⟩) (World.block_lt_of_cell? w2 ⟨r, 0, none⟩ hc2)).trans hc2)).mono ?_
      rintro e w3 ⟨rfl, rfl⟩
      exact ⟨_, rfl, Below.refl _ _, rfl⟩
    · refine ⟨rfl, fun ρ w1 hr hd => ?_⟩
      obtain ⟨d0, _⟩ := hd
      have d0 : ρ (.tmp 11) = .int .u32 (Is.placeO 11 imm) := d0
      refine (if_pos (by rfl)).mpr ?_
      refine Og.gives_is (.int .u32 (Is.placeO 11 imm)) ?_ (And.intro (Below.refl _ _) rfl)
      go_simp
  · intro vs w1 hbz hall
    have v0 : vs 0 = .pointer (some ⟨w.heap.size, 2, none⟩) := hall 0 _ 6 rfl rfl
    have v1 : vs 1 = .func (.func 247) #[] #[] := hall 1 _ 7 rfl rfl
    have v2 : vs 2 = .pointer (some ⟨w.heap.size + 1, 4, none⟩) := hall 2 _ 8 rfl rfl
    have v3 : vs 3 = .int .u32 imm := hall 3 _ 9 rfl rfl
    obtain ⟨wq, hbq, rq, hrq, hcq⟩ : ∃ w1' : World, Below w1'.heap.size w1' w1 ∧ (fun (v : Value) (w2 : World) => ∃ r, v = Clo r ∧ w2.cell? ⟨r, 0, none⟩ = some (.int .u32 imm)) (vs 4) w1' := hall 4 _ 10 rfl rfl
    clear hbq hcq
    have v5 : vs 5 = .int .u32 (Is.placeO 11 imm) := hall 5 _ 11 rfl rfl
    have v6 : vs 6 = .int .u32 (Is.placeO 11 imm) := hall 6 _ 5 rfl rfl
    simp only [Og.putAll, Act.put, List.setIfInBounds_toArray, List.set_cons_zero, List.set_cons_succ, Nat.zero_add, Nat.reduceAdd, v0, v1, v2, v3, hrq, v5, v6]
    clear v0 v1 v2 v3 hrq v5 v6 hall
    have hc0 : w1.cell? ⟨w.heap.size, 0, none⟩ = some (.int .i64 15) := (hbz.cell (p := ⟨w.heap.size, 0, none⟩) (by simp; omega)).trans (by go_simp)
    have hc1 : w1.cell? ⟨w.heap.size + 1, 1, none⟩ = some (.int .i64 rd) := (hbz.cell (p := ⟨w.heap.size + 1, 1, none⟩) (by simp)).trans (by go_simp)
    have hc2 : w1.cell? ⟨w.heap.size + 1, 2, none⟩ = some (.int .i64 rs1) := (hbz.cell (p := ⟨w.heap.size + 1, 2, none⟩) (by simp)).trans (by go_simp)
    have hc3 : w1.cell? ⟨w.heap.size + 1, 3, none⟩ = some (.int .i64 rs2) := (hbz.cell (p := ⟨w.heap.size + 1, 3, none⟩) (by simp)).trans (by go_simp)
    have hc4 : w1.cell? ⟨w.heap.size + 1, 5, none⟩ = some (.bool aq) := (hbz.cell (p := ⟨w.heap.size + 1, 5, none⟩) (by simp)).trans (by go_simp)
    have hc5 : w1.cell? ⟨w.heap.size + 1, 6, none⟩ = some (.bool rl) := (hbz.cell (p := ⟨w.heap.size + 1, 6, none⟩) (by simp)).trans (by go_simp)
    have hz : w.heap.size + 1 < w1.heap.size := by have := hbz.size; simp at this; omega
    have hz0 : w.heap.size < w1.heap.size := by omega
    have hz1 : w.heap.size < w1.heap.size + 1 + 1 := by omega
    have hz2 : w.heap.size + 1 < w1.heap.size + 1 + 1 := by omega
    have hz3 : w.heap.size < w1.heap.size + 1 := by omega
    have hz4 : w.heap.size + 1 < w1.heap.size + 1 := by omega
    have HB := Lib.hid hbz; clear hbz
    go_wp2_with (go_at_call 202; refine (register_any _ _ (by assumption)).mono ?_; rintro e w' ⟨rfl, rfl⟩)
    go_quiet ((go_at_call 203; exact Calls.quiet_of_same ((bit_any _ _).mono fun _ _ h => ⟨h.1, h.2.symm⟩)))
    all_goals go_wp2
    go_ret
    exact ⟨ret_int (by rw [Is.b01_26, Is.b01_25]; exact Is.layw11 HI.out rd rs1 rs2 aq rl), below_drewN (((((((Below.refl _ w).alloc (Nat.le_refl _) _).alloc (by simp) _).trans (HB.out.mono (by simp; omega))).alloc (by first | omega | (simp; omega)) _).alloc (by first | omega | (simp; omega)) _).alloc (by first | omega | (simp; omega)) _)⟩

set_option maxRecDepth 100000 in
set_option maxHeartbeats 2000000 in
theorem lay12 (op rd rs1 rs2 imm : Int) (aq rl : Bool) (h1 : -9223372036854775808 ≤ rd ∧ rd ≤ 9223372036854775807) (h2 : -9223372036854775808 ≤ rs1 ∧ rs1 ≤ 9223372036854775807) (h3 : -9223372036854775808 ≤ rs2 ∧ rs2 ≤ 9223372036854775807) (hi : Is.Wd imm) (w : World) :
    Calls Tryz.prog 104 #[fo 12, inst op rd rs1 rs2 imm aq rl] w fun e w' => e = .returned (.int .u32 (Is.layO 12 rd rs1 rs2 imm aq rl)) ∧ Below w.heap.size w w' := by
  have HI := Lib.hid hi; clear hi
  rw [fo12]
  unfold inst
  go_enter Tryz.func104, Tryz.ntmps104
  go_upto_region 1 with (fail)
  refine Og.region3 (by kernel_rfl) (fun t => if t = 5 then some 6 else if 6 ≤ t ∧ t ≤ 11 then some (t - 6) else none) [.is (.pointer (some ⟨w.heap.size, 2, none⟩)), .is (.func (.func 247) #[] #[]), .is (.pointer (some ⟨w.heap.size + 1, 4, none⟩)), .is (.int .u32 imm), .says (fun (v : Value) (w2 : World) => ∃ r, v = Clo r ∧ w2.cell? ⟨r, 0, none⟩ = some (.int .u32 imm)), .is (.int .u32 (Is.placeO 12 imm)), .is (.int .u32 (Is.placeO 12 imm))] [true, true, true, true, true, true, true] (by kernel_rfl) ?_ ?_
  · refine ⟨?_, ?_, ?_, ?_, ?_, ?_, ?_, trivial⟩
    · refine ⟨rfl, fun ρ w1 hr hd => ?_⟩
      obtain ⟨d0, _⟩ := hd
      have d0 : ρ (.tmp 2) = .pointer (some ⟨w.heap.size, 0, none⟩) := d0
      refine (if_pos (by rfl)).mpr ?_
      refine Og.gives_is (.pointer (some ⟨w.heap.size, 2, none⟩)) ?_ (And.intro (Below.refl _ _) rfl)
      go_simp
    · refine ⟨rfl, fun ρ w1 hr hd => ?_⟩
      obtain ⟨d0, _⟩ := hd
      have d0 : ρ (.tmp 6) = .pointer (some ⟨w.heap.size, 2, none⟩) := d0
      have hc : w1.cell? ⟨w.heap.size, 2, none⟩ = some (.func (.func 247) #[] #[]) := (hr.cell (p := ⟨w.heap.size, 2, none⟩) (by simp; omega)).trans (by go_simp)
      refine (if_pos (by rfl)).mpr ?_
      refine Og.gives_is (.func (.func 247) #[] #[]) ?_ (And.intro (Below.refl _ _) rfl)
      go_simp
    · refine ⟨rfl, fun ρ w1 hr hd => ?_⟩
      obtain ⟨d0, _⟩ := hd
      have d0 : ρ (.tmp 3) = .pointer (some ⟨w.heap.size + 1, 0, none⟩) := d0
      refine (if_pos (by rfl)).mpr ?_
      refine Og.gives_is (.pointer (some ⟨w.heap.size + 1, 4, none⟩)) ?_ (And.intro (Below.refl _ _) rfl)
      go_simp
    · refine ⟨rfl, fun ρ w1 hr hd => ?_⟩
      obtain ⟨d0, _⟩ := hd
      have d0 : ρ (.tmp 8) = .pointer (some ⟨w.heap.size + 1, 4, none⟩) := d0
      have hc : w1.cell? ⟨w.heap.size + 1, 4, none⟩ = some (.int .u32 imm) := (hr.cell (p := ⟨w.heap.size + 1, 4, none⟩) (by simp)).trans (by go_simp)
      refine (if_pos (by rfl)).mpr ?_
      refine Og.gives_is (.int .u32 imm) ?_ (And.intro (Below.refl _ _) rfl)
      go_simp
    · refine ⟨rfl, fun ρ w1 hr hd => ?_⟩
      obtain ⟨d0, d1, _⟩ := hd
      have d0 : ρ (.func 201) = .func (.func 201) #[] #[] := d0
      have d1 : ρ (.tmp 9) = .int .u32 imm := d1
      refine (if_pos (by rfl)).mpr ?_
      refine Og.gives_call 201 #[.int .u32 imm] ?_ ?_
      · go_simp
      · refine (bitsOf_any imm w1).mono ?_
        rintro e w3 ⟨rfl, rfl⟩
        exact ⟨_, rfl, (Below.refl _ _).alloc (Nat.le_refl _) _, _, Below.refl _ _, _, rfl, by go_simp⟩
    · refine ⟨rfl, fun ρ w1 hr hd => ?_⟩
      obtain ⟨d0, d1, _⟩ := hd
      have d0 : ρ (.tmp 7) = .func (.func 247) #[] #[] := d0
      have d1 : ∃ w1', Below w1'.heap.size w1' w1 ∧ (fun (v : Value) (w2 : World) => ∃ r, v = Clo r ∧ w2.cell? ⟨r, 0, none⟩ = some (.int .u32 imm)) (ρ (.tmp 10)) w1' := d1
      obtain ⟨w2, hb2, r, hr2, hc2⟩ := d1
      refine (if_pos (by rfl)).mpr ?_
      refine Og.gives_call 247 #[Clo r] (by rw [← hr2]; go_simp) ?_
      refine (noImm_any imm r w1 HI.out ((hb2.cell (p := ⟨r, 0, none⟩) (World.block_lt_of_cell? w2 ⟨r, 0, none⟩ hc2)).trans hc2)).mono ?_
      rintro e w3 ⟨rfl, rfl⟩
      exact ⟨_, rfl, Below.refl _ _, rfl⟩
    · refine ⟨rfl, fun ρ w1 hr hd => ?_⟩
      obtain ⟨d0, _⟩ := hd
      have d0 : ρ (.tmp 11) = .int .u32 (Is.placeO 12 imm) := d0
      refine (if_pos (by rfl)).mpr ?_
      refine Og.gives_is (.int .u32 (Is.placeO 12 imm)) ?_ (And.intro (Below.refl _ _) rfl)
      go_simp
  · intro vs w1 hbz hall
    have v0 : vs 0 = .pointer (some ⟨w.heap.size, 2, none⟩) := hall 0 _ 6 rfl rfl
    have v1 : vs 1 = .func (.func 247) #[] #[] := hall 1 _ 7 rfl rfl
    have v2 : vs 2 = .pointer (some ⟨w.heap.size + 1, 4, none⟩) := hall 2 _ 8 rfl rfl
    have v3 : vs 3 = .int .u32 imm := hall 3 _ 9 rfl rfl
    obtain ⟨wq, hbq, rq, hrq, hcq⟩ : ∃ w1' : World, Below w1'.heap.size w1' w1 ∧ (fun (v : Value) (w2 : World) => ∃ r, v = Clo r ∧ w2.cell? ⟨r, 0, none⟩ = some (.int .u32 imm)) (vs 4) w1' := hall 4 _ 10 rfl rfl
    clear hbq hcq
    have v5 : vs 5 = .int .u32 (Is.placeO 12 imm) := hall 5 _ 11 rfl rfl
    have v6 : vs 6 = .int .u32 (Is.placeO 12 imm) := hall 6 _ 5 rfl rfl
    simp only [Og.putAll, Act.put, List.setIfInBounds_toArray, List.set_cons_zero, List.set_cons_succ, Nat.zero_add, Nat.reduceAdd, v0, v1, v2, v3, hrq, v5, v6]
    clear v0 v1 v2 v3 hrq v5 v6 hall
    have hc0 : w1.cell? ⟨w.heap.size, 0, none⟩ = some (.int .i64 11) := (hbz.cell (p := ⟨w.heap.size, 0, none⟩) (by simp; omega)).trans (by go_simp)
    have hc1 : w1.cell? ⟨w.heap.size + 1, 1, none⟩ = some (.int .i64 rd) := (hbz.cell (p := ⟨w.heap.size + 1, 1, none⟩) (by simp)).trans (by go_simp)
    have hc2 : w1.cell? ⟨w.heap.size + 1, 2, none⟩ = some (.int .i64 rs1) := (hbz.cell (p := ⟨w.heap.size + 1, 2, none⟩) (by simp)).trans (by go_simp)
    have hc3 : w1.cell? ⟨w.heap.size + 1, 5, none⟩ = some (.bool aq) := (hbz.cell (p := ⟨w.heap.size + 1, 5, none⟩) (by simp)).trans (by go_simp)
    have hc4 : w1.cell? ⟨w.heap.size + 1, 6, none⟩ = some (.bool rl) := (hbz.cell (p := ⟨w.heap.size + 1, 6, none⟩) (by simp)).trans (by go_simp)
    have hz : w.heap.size + 1 < w1.heap.size := by have := hbz.size; simp at this; omega
    have hz0 : w.heap.size < w1.heap.size := by omega
    have hz1 : w.heap.size < w1.heap.size + 1 + 1 := by omega
    have hz2 : w.heap.size + 1 < w1.heap.size + 1 + 1 := by omega
    have hz3 : w.heap.size < w1.heap.size + 1 := by omega
    have hz4 : w.heap.size + 1 < w1.heap.size + 1 := by omega
    have HB := Lib.hid hbz; clear hbz
    go_wp2_with (go_at_call 202; refine (register_any _ _ (by assumption)).mono ?_; rintro e w' ⟨rfl, rfl⟩)
    go_quiet ((go_at_call 203; exact Calls.quiet_of_same ((bit_any _ _).mono fun _ _ h => ⟨h.1, h.2.symm⟩)))
    all_goals go_wp2
    go_ret
    exact ⟨ret_int (by rw [Is.b01_26, Is.b01_25]; exact Is.layw12 HI.out rd rs1 rs2 aq rl), below_drewN ((((((Below.refl _ w).alloc (Nat.le_refl _) _).alloc (by simp) _).trans (HB.out.mono (by simp; omega))).alloc (by first | omega | (simp; omega)) _).alloc (by first | omega | (simp; omega)) _)⟩

set_option maxRecDepth 100000 in
set_option maxHeartbeats 2000000 in
theorem lay13 (op rd rs1 rs2 imm : Int) (aq rl : Bool) (h1 : -9223372036854775808 ≤ rd ∧ rd ≤ 9223372036854775807) (h2 : -9223372036854775808 ≤ rs1 ∧ rs1 ≤ 9223372036854775807) (h3 : -9223372036854775808 ≤ rs2 ∧ rs2 ≤ 9223372036854775807) (hi : Is.Wd imm) (w : World) :
    Calls Tryz.prog 104 #[fo 13, inst op rd rs1 rs2 imm aq rl] w fun e w' => e = .returned (.int .u32 (Is.layO 13 rd rs1 rs2 imm aq rl)) ∧ Below w.heap.size w w' := by
  have HI := Lib.hid hi; clear hi
  rw [fo13]
  unfold inst
  go_enter Tryz.func104, Tryz.ntmps104
  go_upto_region 1 with (fail)
  refine Og.region3 (by kernel_rfl) (fun t => if t = 5 then some 6 else if 6 ≤ t ∧ t ≤ 11 then some (t - 6) else none) [.is (.pointer (some ⟨w.heap.size, 2, none⟩)), .is (.func (.func 247) #[] #[]), .is (.pointer (some ⟨w.heap.size + 1, 4, none⟩)), .is (.int .u32 imm), .says (fun (v : Value) (w2 : World) => ∃ r, v = Clo r ∧ w2.cell? ⟨r, 0, none⟩ = some (.int .u32 imm)), .is (.int .u32 (Is.placeO 13 imm)), .is (.int .u32 (Is.placeO 13 imm))] [true, true, true, true, true, true, true] (by kernel_rfl) ?_ ?_
  · refine ⟨?_, ?_, ?_, ?_, ?_, ?_, ?_, trivial⟩
    · refine ⟨rfl, fun ρ w1 hr hd => ?_⟩
      obtain ⟨d0, _⟩ := hd
      have d0 : ρ (.tmp 2) = .pointer (some ⟨w.heap.size, 0, none⟩) := d0
      refine (if_pos (by rfl)).mpr ?_
      refine Og.gives_is (.pointer (some ⟨w.heap.size, 2, none⟩)) ?_ (And.intro (Below.refl _ _) rfl)
      go_simp
    · refine ⟨rfl, fun ρ w1 hr hd => ?_⟩
      obtain ⟨d0, _⟩ := hd
      have d0 : ρ (.tmp 6) = .pointer (some ⟨w.heap.size, 2, none⟩) := d0
      have hc : w1.cell? ⟨w.heap.size, 2, none⟩ = some (.func (.func 247) #[] #[]) := (hr.cell (p := ⟨w.heap.size, 2, none⟩) (by simp; omega)).trans (by go_simp)
      refine (if_pos (by rfl)).mpr ?_
      refine Og.gives_is (.func (.func 247) #[] #[]) ?_ (And.intro (Below.refl _ _) rfl)
      go_simp
    · refine ⟨rfl, fun ρ w1 hr hd => ?_⟩
      obtain ⟨d0, _⟩ := hd
      have d0 : ρ (.tmp 3) = .pointer (some ⟨w.heap.size + 1, 0, none⟩) := d0
      refine (if_pos (by rfl)).mpr ?_
      refine Og.gives_is (.pointer (some ⟨w.heap.size + 1, 4, none⟩)) ?_ (And.intro (Below.refl _ _) rfl)
      go_simp
    · refine ⟨rfl, fun ρ w1 hr hd => ?_⟩
      obtain ⟨d0, _⟩ := hd
      have d0 : ρ (.tmp 8) = .pointer (some ⟨w.heap.size + 1, 4, none⟩) := d0
      have hc : w1.cell? ⟨w.heap.size + 1, 4, none⟩ = some (.int .u32 imm) := (hr.cell (p := ⟨w.heap.size + 1, 4, none⟩) (by simp)).trans (by go_simp)
      refine (if_pos (by rfl)).mpr ?_
      refine Og.gives_is (.int .u32 imm) ?_ (And.intro (Below.refl _ _) rfl)
      go_simp
    · refine ⟨rfl, fun ρ w1 hr hd => ?_⟩
      obtain ⟨d0, d1, _⟩ := hd
      have d0 : ρ (.func 201) = .func (.func 201) #[] #[] := d0
      have d1 : ρ (.tmp 9) = .int .u32 imm := d1
      refine (if_pos (by rfl)).mpr ?_
      refine Og.gives_call 201 #[.int .u32 imm] ?_ ?_
      · go_simp
      · refine (bitsOf_any imm w1).mono ?_
        rintro e w3 ⟨rfl, rfl⟩
        exact ⟨_, rfl, (Below.refl _ _).alloc (Nat.le_refl _) _, _, Below.refl _ _, _, rfl, by go_simp⟩
    · refine ⟨rfl, fun ρ w1 hr hd => ?_⟩
      obtain ⟨d0, d1, _⟩ := hd
      have d0 : ρ (.tmp 7) = .func (.func 247) #[] #[] := d0
      have d1 : ∃ w1', Below w1'.heap.size w1' w1 ∧ (fun (v : Value) (w2 : World) => ∃ r, v = Clo r ∧ w2.cell? ⟨r, 0, none⟩ = some (.int .u32 imm)) (ρ (.tmp 10)) w1' := d1
      obtain ⟨w2, hb2, r, hr2, hc2⟩ := d1
      refine (if_pos (by rfl)).mpr ?_
      refine Og.gives_call 247 #[Clo r] (by rw [← hr2]; go_simp) ?_
      refine (noImm_any imm r w1 HI.out ((hb2.cell (p := ⟨r, 0, none⟩) (World.block_lt_of_cell? w2 ⟨r, 0, none⟩ hc2)).trans hc2)).mono ?_
      rintro e w3 ⟨rfl, rfl⟩
      exact ⟨_, rfl, Below.refl _ _, rfl⟩
    · refine ⟨rfl, fun ρ w1 hr hd => ?_⟩
      obtain ⟨d0, _⟩ := hd
      have d0 : ρ (.tmp 11) = .int .u32 (Is.placeO 13 imm) := d0
      refine (if_pos (by rfl)).mpr ?_
      refine Og.gives_is (.int .u32 (Is.placeO 13 imm)) ?_ (And.intro (Below.refl _ _) rfl)
      go_simp
  · intro vs w1 hbz hall
    have v0 : vs 0 = .pointer (some ⟨w.heap.size, 2, none⟩) := hall 0 _ 6 rfl rfl
    have v1 : vs 1 = .func (.func 247) #[] #[] := hall 1 _ 7 rfl rfl
    have v2 : vs 2 = .pointer (some ⟨w.heap.size + 1, 4, none⟩) := hall 2 _ 8 rfl rfl
    have v3 : vs 3 = .int .u32 imm := hall 3 _ 9 rfl rfl
    obtain ⟨wq, hbq, rq, hrq, hcq⟩ : ∃ w1' : World, Below w1'.heap.size w1' w1 ∧ (fun (v : Value) (w2 : World) => ∃ r, v = Clo r ∧ w2.cell? ⟨r, 0, none⟩ = some (.int .u32 imm)) (vs 4) w1' := hall 4 _ 10 rfl rfl
    clear hbq hcq
    have v5 : vs 5 = .int .u32 (Is.placeO 13 imm) := hall 5 _ 11 rfl rfl
    have v6 : vs 6 = .int .u32 (Is.placeO 13 imm) := hall 6 _ 5 rfl rfl
    simp only [Og.putAll, Act.put, List.setIfInBounds_toArray, List.set_cons_zero, List.set_cons_succ, Nat.zero_add, Nat.reduceAdd, v0, v1, v2, v3, hrq, v5, v6]
    clear v0 v1 v2 v3 hrq v5 v6 hall
    have hc0 : w1.cell? ⟨w.heap.size, 0, none⟩ = some (.int .i64 1) := (hbz.cell (p := ⟨w.heap.size, 0, none⟩) (by simp; omega)).trans (by go_simp)
    have hc1 : w1.cell? ⟨w.heap.size + 1, 1, none⟩ = some (.int .i64 rd) := (hbz.cell (p := ⟨w.heap.size + 1, 1, none⟩) (by simp)).trans (by go_simp)
    have hz : w.heap.size + 1 < w1.heap.size := by have := hbz.size; simp at this; omega
    have hz0 : w.heap.size < w1.heap.size := by omega
    have hz1 : w.heap.size < w1.heap.size + 1 + 1 := by omega
    have hz2 : w.heap.size + 1 < w1.heap.size + 1 + 1 := by omega
    have hz3 : w.heap.size < w1.heap.size + 1 := by omega
    have hz4 : w.heap.size + 1 < w1.heap.size + 1 := by omega
    have HB := Lib.hid hbz; clear hbz
    go_wp2_with (go_at_call 202; refine (register_any _ _ (by assumption)).mono ?_; rintro e w' ⟨rfl, rfl⟩)
    go_ret
    exact ⟨ret_int (Is.layw13 HI.out rd rs1 rs2 aq rl), (((((Below.refl _ w).alloc (Nat.le_refl _) _).alloc (by simp) _).trans (HB.out.mono (by simp; omega))).alloc (by first | omega | (simp; omega)) _)⟩
end Go.Proofs.YtianojbdabeoeaaGreatDoor
