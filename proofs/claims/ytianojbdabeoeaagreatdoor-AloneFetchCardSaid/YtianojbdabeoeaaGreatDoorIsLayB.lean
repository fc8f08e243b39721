/-
  A word with the parts of an instruction, by its form: the program's method lay.
-/
import Derived.Test.YtianojbdabeoeaaGreatDoorIsForms
import Derived.Test.YtianojbdabeoeaaGreatDoorIsLow2
import Derived.Test.YtianojbdabeoeaaGreatDoorIsLayw
import Derived.Test.YtianojbdabeoeaaGreatDoorOg3
import Derived.Deep.Cut
import Derived.Deep.QuietTactic
import Derived.BigQuiet
namespace Go.Proofs.YtianojbdabeoeaaGreatDoor
open Go.RowKit Go.Maps
set_option linter.unusedVariables false
set_option linter.unusedSimpArgs false

set_option maxRecDepth 100000 in
set_option maxHeartbeats 2000000 in
theorem lay5 (op rd rs1 rs2 imm : Int) (aq rl : Bool) (h1 : -9223372036854775808 ≤ rd ∧ rd ≤ 9223372036854775807) (h2 : -9223372036854775808 ≤ rs1 ∧ rs1 ≤ 9223372036854775807) (h3 : -9223372036854775808 ≤ rs2 ∧ rs2 ≤ 9223372036854775807) (hi : Is.Wd imm) (w : World) :
    Calls Tryz.prog 104 #[fo 5, inst op rd rs1 rs2 imm aq rl] w fun e w' => e = .returned (.int .u32 (Is.layO 5 rd rs1 rs2 imm aq rl)) ∧ Below w.heap.size w w' := by
  have HI := Lib.hid hi; clear hi
  rw [fo5]
  unfold inst
  go_enter Tryz.func104, Tryz.ntmps104
  go_upto_region 1 with (fail)
  refine Og.region3 (by kernel_rfl) (fun t => if t = 5 then some 6 else if 6 ≤ t ∧ t ≤ 11 then some (t - 6) else none) [.is (.pointer (some ⟨w.heap.size, 2, none⟩)), .is (.func (.func 240) #[] #[]), .is (.pointer (some ⟨w.heap.size + 1, 4, none⟩)), .is (.int .u32 imm), .says (fun (v : Value) (w2 : World) => ∃ r, v = Clo r ∧ w2.cell? ⟨r, 0, none⟩ = some (.int .u32 imm)), .is (.int .u32 (Is.placeO 5 imm)), .is (.int .u32 (Is.placeO 5 imm))] [true, true, true, true, true, true, true] (by kernel_rfl) ?_ ?_
  · refine ⟨?_, ?_, ?_, ?_, ?_, ?_, ?_, trivial⟩
    · refine ⟨rfl, fun ρ w1 hr hd => ?_⟩
      obtain ⟨d0, _⟩ := hd
      have d0 : ρ (.tmp 2) = .pointer (some ⟨w.heap.size, 0, none⟩) := d0
      refine (if_pos (by rfl)).mpr ?_
      refine Og.gives_is (.pointer (some ⟨w.heap.size, 2, none⟩)) ?_ (And.intro (Below.refl _ _) rfl)
      go_simp
    · refine ⟨rfl, fun ρ w1 hr hd => ?_⟩
      obtain ⟨d0, _⟩ := hd
      have d0 : ρ (.tmp 6) = .pointer (some ⟨w.heap.size, 2, none⟩) := d0
      have hc : w1.cell? ⟨w.heap.size, 2, none⟩ = some (.func (.func 240) #[] #[]) := (hr.cell (p := ⟨w.heap.size, 2, none⟩) (by simp; omega)).trans (by go_simp)
      refine (if_pos (by rfl)).mpr ?_
      refine Og.gives_is (.func (.func 240) #[] #[]) ?_ (And.intro (Below.refl _ _) rfl)
      go_simp
    · refine ⟨rfl, fun ρ w1 hr hd => ?_⟩
      obtain ⟨d0, _⟩ := hd
      have d0 : ρ (.tmp 3) = .pointer (some ⟨w.heap.size + 1, 0, none⟩) := d0
      refine (if_pos (by rfl)).mpr ?_
      refine Og.gives_is (.pointer (some ⟨w.heap.size + 1, 4, none⟩)) ?_ (And.intro (Below.refl _ _) rfl)
      go_simp
    · refine ⟨rfl, fun ρ w1 hr hd => ?_⟩
      obtain ⟨d0, _⟩ := hd
      have d0 : ρ (.tmp 8) = .pointer (some ⟨w.heap.size + 1, 4, none⟩) := d0
      have hc : w1.cell? ⟨w.heap.size + 1, 4, none⟩ = some (.int .u32 imm) := (hr.cell (p := ⟨w.heap.size + 1, 4, none⟩) (by simp)).trans (by go_simp)
      refine (if_pos (by rfl)).mpr ?_
      refine Og.gives_is (.int .u32 imm) ?_ (And.intro (Below.refl _ _) rfl)
      go_simp
    · refine ⟨rfl, fun ρ w1 hr hd => ?_⟩
      obtain ⟨d0, d1, _⟩ := hd
      have d0 : ρ (.func 201) = .func (.func 201) #[] #[] := d0
      have d1 : ρ (.tmp 9) = .int .u32 imm := d1
      refine (if_pos (by rfl)).mpr ?_
      refine Og.gives_call 201 #[.int .u32 imm] ?_ ?_
      · go_simp
      · refine (bitsOf_any imm w1).mono ?_
        rintro e w3 ⟨rfl, rfl⟩
        exact ⟨_, rfl, (Below.refl _ _).alloc (Nat.le_refl _) _, _, Below.refl _ _, _, rfl, by go_simp⟩
    · refine ⟨rfl, fun ρ w1 hr hd => ?_⟩
      obtain ⟨d0, d1, _⟩ := hd
      have d0 : ρ (.tmp 7) = .func (.func 240) #[] #[] := d0
      have d1 : ∃ w1', Below w1'.heap.size w1' w1 ∧ (fun (v : Value) (w2 : World) => ∃ r, v = Clo r ∧ w2.cell? ⟨r, 0, none⟩ = some (.int .u32 imm)) (ρ (.tmp 10)) w1' := d1
      obtain ⟨w2, hb2, r, hr2, hc2⟩ := d1
      refine (if_pos (by rfl)).mpr ?_
      refine Og.gives_call 240 #[Clo r] (by rw [← hr2]; go_simp) ?_
      refine (shiftPlace_any imm r w1 HI.out ((hb2.cell (p := ⟨r, 0, none⟩) (World.block_lt_of_cell? w2 ⟨r, 0, none⟩ hc2)).trans hc2)).mono ?_
      rintro e w3 ⟨rfl, rfl⟩
      exact ⟨_, rfl, Below.refl _ _, rfl⟩
    · refine ⟨rfl, fun ρ w1 hr hd => ?_⟩
      obtain ⟨d0, _⟩ := hd
      have d0 : ρ (.tmp 11) = .int .u32 (Is.placeO 5 imm) := d0
      refine (if_pos (by rfl)).mpr ?_
      refine Og.gives_is (.int .u32 (Is.placeO 5 imm)) ?_ (And.intro (Below.refl _ _) rfl)
      go_simp
  · intro vs w1 hbz hall
    have v0 : vs 0 = .pointer (some ⟨w.heap.size, 2, none⟩) := hall 0 _ 6 rfl rfl
    have v1 : vs 1 = .func (.func 240) #[] #[] := hall 1 _ 7 rfl rfl
    have v2 : vs 2 = .pointer (some ⟨w.heap.size + 1, 4, none⟩) := hall 2 _ 8 rfl rfl
    have v3 : vs 3 = .int .u32 imm := hall 3 _ 9 rfl rfl
    obtain ⟨wq, hbq, rq, hrq, hcq⟩ : ∃ w1' : World, Below w1'.heap.size w1' w1 ∧ (fun (v : Value) (w2 : World) => ∃ r, v = Clo r ∧ w2.cell? ⟨r, 0, none⟩ = some (.int .u32 imm)) (vs 4) w1' := hall 4 _ 10 rfl rfl
    clear hbq hcq
    have v5 : vs 5 = .int .u32 (Is.placeO 5 imm) := hall 5 _ 11 rfl rfl
    have v6 : vs 6 = .int .u32 (Is.placeO 5 imm) := hall 6 _ 5 rfl rfl
    simp only [Og.putAll, Act.put, List.setIfInBounds_toArray, List.set_cons_zero, List.set_cons_succ, Nat.zero_add, Nat.reduceAdd, v0, v1, v2, v3, hrq, v5, v6]
    clear v0 v1 v2 v3 hrq v5 v6 hall
    have hc0 : w1.cell? ⟨w.heap.size, 0, none⟩ = some (.int .i64 3) := (hbz.cell (p := ⟨w.heap.size, 0, none⟩) (by simp; omega)).trans (by go_simp)
    have hc1 : w1.cell? ⟨w.heap.size + 1, 1, none⟩ = some (.int .i64 rd) := (hbz.cell (p := ⟨w.heap.size + 1, 1, none⟩) (by simp)).trans (by go_simp)
    have hc2 : w1.cell? ⟨w.heap.size + 1, 2, none⟩ = some (.int .i64 rs1) := (hbz.cell (p := ⟨w.heap.size + 1, 2, none⟩) (by simp)).trans (by go_simp)
    have hz : w.heap.size + 1 < w1.heap.size := by have := hbz.size; simp at this; omega
    have hz0 : w.heap.size < w1.heap.size := by omega
    have hz1 : w.heap.size < w1.heap.size + 1 + 1 := by omega
    have hz2 : w.heap.size + 1 < w1.heap.size + 1 + 1 := by omega
    have hz3 : w.heap.size < w1.heap.size + 1 := by omega
    have hz4 : w.heap.size + 1 < w1.heap.size + 1 := by omega
    have HB := Lib.hid hbz; clear hbz
    go_wp2_with (go_at_call 202; refine (register_any _ _ (by assumption)).mono ?_; rintro e w' ⟨rfl, rfl⟩)
    go_ret
    exact ⟨ret_int (Is.layw5 HI.out rd rs1 rs2 aq rl), ((((((Below.refl _ w).alloc (Nat.le_refl _) _).alloc (by simp) _).trans (HB.out.mono (by simp; omega))).alloc (by first | omega | (simp; omega)) _).alloc (by first | omega | (simp; omega)) _)⟩

set_option maxRecDepth 100000 in
set_option maxHeartbeats 2000000 in
theorem lay6 (op rd rs1 rs2 imm : Int) (aq rl : Bool) (h1 : -9223372036854775808 ≤ rd ∧ rd ≤ 9223372036854775807) (h2 : -9223372036854775808 ≤ rs1 ∧ rs1 ≤ 9223372036854775807) (h3 : -9223372036854775808 ≤ rs2 ∧ rs2 ≤ 9223372036854775807) (hi : Is.Wd imm) (w : World) :
    Calls Tryz.prog 104 #[fo 6, inst op rd rs1 rs2 imm aq rl] w fun e w' => e = .returned (.int .u32 (Is.layO 6 rd rs1 rs2 imm aq rl)) ∧ Below w.heap.size w w' := by
  have HI := Lib.hid hi; clear hi
  rw [fo6]
  unfold inst
  go_enter Tryz.func104, Tryz.ntmps104
  go_upto_region 1 with (fail)
  refine Og.region3 (by kernel_rfl) (fun t => if t = 5 then some 6 else if 6 ≤ t ∧ t ≤ 11 then some (t - 6) else none) [.is (.pointer (some ⟨w.heap.size, 2, none⟩)), .is (.func (.func 242) #[] #[]), .is (.pointer (some ⟨w.heap.size + 1, 4, none⟩)), .is (.int .u32 imm), .says (fun (v : Value) (w2 : World) => ∃ r, v = Clo r ∧ w2.cell? ⟨r, 0, none⟩ = some (.int .u32 imm)), .is (.int .u32 (Is.placeO 6 imm)), .is (.int .u32 (Is.placeO 6 imm))] [true, true, true, true, true, true, true] (by kernel_rfl) ?_ ?_
  · refine ⟨?_, ?_, ?_, ?_, ?_, ?_, ?_, trivial⟩
    · refine ⟨rfl, fun ρ w1 hr hd => ?_⟩
      obtain ⟨d0, _⟩ := hd
      have d0 : ρ (.tmp 2) = .pointer (some ⟨w.heap.size, 0, none⟩) := d0
      refine (if_pos (by rfl)).mpr ?_
      refine Og.gives_is (.pointer (some ⟨w.heap.size, 2, none⟩)) ?_ (And.intro (Below.refl _ _) rfl)
      go_simp
    · refine ⟨rfl, fun ρ w1 hr hd => ?_⟩
      obtain ⟨d0, _⟩ := hd
      have d0 : ρ (.tmp 6) = .pointer (some ⟨w.heap.size, 2, none⟩) := d0
      have hc : w1.cell? ⟨w.heap.size, 2, none⟩ = some (.func (.func 242) #[] #[]) := (hr.cell (p := ⟨w.heap.size, 2, none⟩) (by simp; omega)).trans (by go_simp)
      refine (if_pos (by rfl)).mpr ?_
      refine Og.gives_is (.func (.func 242) #[] #[]) ?_ (And.intro (Below.refl _ _) rfl)
      go_simp
    · refine ⟨rfl, fun ρ w1 hr hd => ?_⟩
      obtain ⟨d0, _⟩ := hd
      have d0 : ρ (.tmp 3) = .pointer (some ⟨w.heap.size + 1, 0, none⟩) := d0
      refine (if_pos (by rfl)).mpr ?_
      refine Og.gives_is (.pointer (some ⟨w.heap.size + 1, 4, none⟩)) ?_ (And.intro (Below.refl _ _) rfl)
      go_simp
    · refine ⟨rfl, fun ρ w1 hr hd => ?_⟩
      obtain ⟨d0, _⟩ := hd
      have d0 : ρ (.tmp 8) = .pointer (some ⟨w.heap.size + 1, 4, none⟩) := d0
      have hc : w1.cell? ⟨w.heap.size + 1, 4, none⟩ = some (.int .u32 imm) := (hr.cell (p := ⟨w.heap.size + 1, 4, none⟩) (by simp)).trans (by go_simp)
      refine (if_pos (by rfl)).mpr ?_
      refine Og.gives_is (.int .u32 imm) ?_ (And.intro (Below.refl _ _) rfl)
      go_simp
    · refine ⟨rfl, fun ρ w1 hr hd => ?_⟩
      obtain ⟨d0, d1, _⟩ := hd
      have d0 : ρ (.func 201) = .func (.func 201) #[] #[] := d0
      have d1 : ρ (.tmp 9) = .int .u32 imm := d1
      refine (if_pos (by rfl)).mpr ?_
      refine Og.gives_call 201 #[.int .u32 imm] ?_ ?_
      · go_simp
      · refine (bitsOf_any imm w1).mono ?_
        rintro e w3 ⟨rfl, rfl⟩
        exact ⟨_, rfl, (Below.refl _ _).alloc (Nat.le_refl _) _, _, Below.refl _ _, _, rfl, by go_simp⟩
    · refine ⟨rfl, fun ρ w1 hr hd => ?_⟩
      obtain ⟨d0, d1, _⟩ := hd
      have d0 : ρ (.tmp 7) = .func (.func 242) #[] #[] := d0
      have d1 : ∃ w1', Below w1'.heap.size w1' w1 ∧ (fun (v : Value) (w2 : World) => ∃ r, v = Clo r ∧ w2.cell? ⟨r, 0, none⟩ = some (.int .u32 imm)) (ρ (.tmp 10)) w1' := d1
      obtain ⟨w2, hb2, r, hr2, hc2⟩ := d1
      refine (if_pos (by rfl)).mpr ?_
      refine Og.gives_call 242 #[Clo r] (by rw [← hr2]; go_simp) ?_
      refine (branchPlace_any imm r w1 HI.out ((hb2.cell (p := ⟨r, 0, none⟩) (World.block_lt_of_cell? w2 ⟨r, 0, none⟩ hc2)).trans hc2)).mono ?_
      rintro e w3 ⟨rfl, rfl⟩
      exact ⟨_, rfl, Below.refl _ _, rfl⟩
    · refine ⟨rfl, fun ρ w1 hr hd => ?_⟩
      obtain ⟨d0, _⟩ := hd
      have d0 : ρ (.tmp 11) = .int .u32 (Is.placeO 6 imm) := d0
      refine (if_pos (by rfl)).mpr ?_
      refine Og.gives_is (.int .u32 (Is.placeO 6 imm)) ?_ (And.intro (Below.refl _ _) rfl)
      go_simp
  · intro vs w1 hbz hall
    have v0 : vs 0 = .pointer (some ⟨w.heap.size, 2, none⟩) := hall 0 _ 6 rfl rfl
    have v1 : vs 1 = .func (.func 242) #[] #[] := hall 1 _ 7 rfl rfl
    have v2 : vs 2 = .pointer (some ⟨w.heap.size + 1, 4, none⟩) := hall 2 _ 8 rfl rfl
    have v3 : vs 3 = .int .u32 imm := hall 3 _ 9 rfl rfl
    obtain ⟨wq, hbq, rq, hrq, hcq⟩ : ∃ w1' : World, Below w1'.heap.size w1' w1 ∧ (fun (v : Value) (w2 : World) => ∃ r, v = Clo r ∧ w2.cell? ⟨r, 0, none⟩ = some (.int .u32 imm)) (vs 4) w1' := hall 4 _ 10 rfl rfl
    clear hbq hcq
    have v5 : vs 5 = .int .u32 (Is.placeO 6 imm) := hall 5 _ 11 rfl rfl
    have v6 : vs 6 = .int .u32 (Is.placeO 6 imm) := hall 6 _ 5 rfl rfl
    simp only [Og.putAll, Act.put, List.setIfInBounds_toArray, List.set_cons_zero, List.set_cons_succ, Nat.zero_add, Nat.reduceAdd, v0, v1, v2, v3, hrq, v5, v6]
    clear v0 v1 v2 v3 hrq v5 v6 hall
    have hc0 : w1.cell? ⟨w.heap.size, 0, none⟩ = some (.int .i64 6) := (hbz.cell (p := ⟨w.heap.size, 0, none⟩) (by simp; omega)).trans (by go_simp)
    have hc1 : w1.cell? ⟨w.heap.size + 1, 2, none⟩ = some (.int .i64 rs1) := (hbz.cell (p := ⟨w.heap.size + 1, 2, none⟩) (by simp)).trans (by go_simp)
    have hc2 : w1.cell? ⟨w.heap.size + 1, 3, none⟩ = some (.int .i64 rs2) := (hbz.cell (p := ⟨w.heap.size + 1, 3, none⟩) (by simp)).trans (by go_simp)
    have hz : w.heap.size + 1 < w1.heap.size := by have := hbz.size; simp at this; omega
    have hz0 : w.heap.size < w1.heap.size := by omega
    have hz1 : w.heap.size < w1.heap.size + 1 + 1 := by omega
    have hz2 : w.heap.size + 1 < w1.heap.size + 1 + 1 := by omega
    have hz3 : w.heap.size < w1.heap.size + 1 := by omega
    have hz4 : w.heap.size + 1 < w1.heap.size + 1 := by omega
    have HB := Lib.hid hbz; clear hbz
    go_wp2_with (go_at_call 202; refine (register_any _ _ (by assumption)).mono ?_; rintro e w' ⟨rfl, rfl⟩)
    go_ret
    exact ⟨ret_int (Is.layw6 HI.out rd rs1 rs2 aq rl), ((((((Below.refl _ w).alloc (Nat.le_refl _) _).alloc (by simp) _).trans (HB.out.mono (by simp; omega))).alloc (by first | omega | (simp; omega)) _).alloc (by first | omega | (simp; omega)) _)⟩

set_option maxRecDepth 100000 in
set_option maxHeartbeats 2000000 in
theorem lay7 (op rd rs1 rs2 imm : Int) (aq rl : Bool) (h1 : -9223372036854775808 ≤ rd ∧ rd ≤ 9223372036854775807) (h2 : -9223372036854775808 ≤ rs1 ∧ rs1 ≤ 9223372036854775807) (h3 : -9223372036854775808 ≤ rs2 ∧ rs2 ≤ 9223372036854775807) (hi : Is.Wd imm) (w : World) :
    Calls Tryz.prog 104 #[fo 7, inst op rd rs1 rs2 imm aq rl] w fun e w' => e = .returned (.int .u32 (Is.layO 7 rd rs1 rs2 imm aq rl)) ∧ Below w.heap.size w w' := by
  have HI := Lib.hid hi; clear hi
  rw [fo7]
  unfold inst
  go_enter Tryz.func104, Tryz.ntmps104
  go_upto_region 1 with (fail)
  refine Og.region3 (by kernel_rfl) (fun t => if t = 5 then some 6 else if 6 ≤ t ∧ t ≤ 11 then some (t - 6) else none) [.is (.pointer (some ⟨w.heap.size, 2, none⟩)), .is (.func (.func 245) #[] #[]), .is (.pointer (some ⟨w.heap.size + 1, 4, none⟩)), .is (.int .u32 imm), .says (fun (v : Value) (w2 : World) => ∃ r, v = Clo r ∧ w2.cell? ⟨r, 0, none⟩ = some (.int .u32 imm)), .is (.int .u32 (Is.placeO 7 imm)), .is (.int .u32 (Is.placeO 7 imm))] [true, true, true, true, true, true, true] (by kernel_rfl) ?_ ?_
  · refine ⟨?_, ?_, ?_, ?_, ?_, ?_, ?_, trivial⟩
    · refine ⟨rfl, fun ρ w1 hr hd => ?_⟩
      obtain ⟨d0, _⟩ := hd
      have d0 : ρ (.tmp 2) = .pointer (some ⟨w.heap.size, 0, none⟩) := d0
      refine (if_pos (by rfl)).mpr ?_
      refine Og.gives_is (.pointer (some ⟨w.heap.size, 2, none⟩)) ?_ (And.intro (Below.refl _ _) rfl)
      go_simp
    · refine ⟨rfl, fun ρ w1 hr hd => ?_⟩
      obtain ⟨d0, _⟩ := hd
      have d0 : ρ (.tmp 6) = .pointer (some ⟨w.heap.size, 2, none⟩) := d0
      have hc : w1.cell? ⟨w.heap.size, 2, none⟩ = some (.func (.func 245) #[] #[]) := (hr.cell (p := ⟨w.heap.size, 2, none⟩) (by simp; omega)).trans (by go_simp)
      refine (if_pos (by rfl)).mpr ?_
      refine Og.gives_is (.func (.func 245) #[] #[]) ?_ (And.intro (Below.refl _ _) rfl)
      go_simp
    · refine ⟨rfl, fun ρ w1 hr hd => ?_⟩
      obtain ⟨d0, _⟩ := hd
      have d0 : ρ (.tmp 3) = .pointer (some ⟨w.heap.size + 1, 0, none⟩) := d0
      refine (if_pos (by rfl)).mpr ?_
      refine Og.gives_is (.pointer (some ⟨w.heap.size + 1, 4, none⟩)) ?_ (And.intro (Below.refl _ _) rfl)
      go_simp
    · refine ⟨rfl, fun ρ w1 hr hd => ?_⟩
      obtain ⟨d0, _⟩ := hd
      have d0 : ρ (.tmp 8) = .pointer (some ⟨w.heap.size + 1, 4, none⟩) := d0
      have hc : w1.cell? ⟨w.heap.size + 1, 4, none⟩ = some (.int .u32 imm) := (hr.cell (p := ⟨w.heap.size + 1, 4, none⟩) (by simp)).trans (by go_simp)
      refine (if_pos (by rfl)).mpr ?_
      refine Og.gives_is (.int .u32 imm) ?_ (And.intro (Below.refl _ _) rfl)
      go_simp
    · refine ⟨rfl, fun ρ w1 hr hd => ?_⟩
      obtain ⟨d0, d1, _⟩ := hd
      have d0 : ρ (.func 201) = .func (.func 201) #[] #[] := d0
      have d1 : ρ (.tmp 9) = .int .u32 imm := d1
      refine (if_pos (by rfl)).mpr ?_
      refine Og.gives_call 201 #[.int .u32 imm] ?_ ?_
      · go_simp
      · refine (bitsOf_any imm w1).mono ?_
        rintro e w3 ⟨rfl, rfl⟩
        exact ⟨_, rfl, (Below.refl _ _).alloc (Nat.le_refl _) _, _, Below.refl _ _, _, rfl, by go_simp⟩
    · refine ⟨rfl, fun ρ w1 hr hd => ?_⟩
      obtain ⟨d0, d1, _⟩ := hd
      have d0 : ρ (.tmp 7) = .func (.func 245) #[] #[] := d0
      have d1 : ∃ w1', Below w1'.heap.size w1' w1 ∧ (fun (v : Value) (w2 : World) => ∃ r, v = Clo r ∧ w2.cell? ⟨r, 0, none⟩ = some (.int .u32 imm)) (ρ (.tmp 10)) w1' := d1
      obtain ⟨w2, hb2, r, hr2, hc2⟩ := d1
      refine (if_pos (by rfl)).mpr ?_
      refine Og.gives_call 245 #[Clo r] (by rw [← hr2]; go_simp) ?_
      refine (storePlace_any imm r w1 HI.out ((hb2.cell (p := ⟨r, 0, none⟩) (World.block_lt_of_cell? w2 ⟨r, 0, none⟩ hc2)).trans hc2)).mono ?_
      rintro e w3 ⟨rfl, rfl⟩
      exact ⟨_, rfl, Below.refl _ _, rfl⟩
    · refine ⟨rfl, fun ρ w1 hr hd => ?_⟩
      obtain ⟨d0, _⟩ := hd
      have d0 : ρ (.tmp 11) = .int .u32 (Is.placeO 7 imm) := d0
      refine (if_pos (by rfl)).mpr ?_
      refine Og.gives_is (.int .u32 (Is.placeO 7 imm)) ?_ (And.intro (Below.refl _ _) rfl)
      go_simp
  · intro vs w1 hbz hall
    have v0 : vs 0 = .pointer (some ⟨w.heap.size, 2, none⟩) := hall 0 _ 6 rfl rfl
    have v1 : vs 1 = .func (.func 245) #[] #[] := hall 1 _ 7 rfl rfl
    have v2 : vs 2 = .pointer (some ⟨w.heap.size + 1, 4, none⟩) := hall 2 _ 8 rfl rfl
    have v3 : vs 3 = .int .u32 imm := hall 3 _ 9 rfl rfl
    obtain ⟨wq, hbq, rq, hrq, hcq⟩ : ∃ w1' : World, Below w1'.heap.size w1' w1 ∧ (fun (v : Value) (w2 : World) => ∃ r, v = Clo r ∧ w2.cell? ⟨r, 0, none⟩ = some (.int .u32 imm)) (vs 4) w1' := hall 4 _ 10 rfl rfl
    clear hbq hcq
    have v5 : vs 5 = .int .u32 (Is.placeO 7 imm) := hall 5 _ 11 rfl rfl
    have v6 : vs 6 = .int .u32 (Is.placeO 7 imm) := hall 6 _ 5 rfl rfl
    simp only [Og.putAll, Act.put, List.setIfInBounds_toArray, List.set_cons_zero, List.set_cons_succ, Nat.zero_add, Nat.reduceAdd, v0, v1, v2, v3, hrq, v5, v6]
    clear v0 v1 v2 v3 hrq v5 v6 hall
    have hc0 : w1.cell? ⟨w.heap.size, 0, none⟩ = some (.int .i64 6) := (hbz.cell (p := ⟨w.heap.size, 0, none⟩) (by simp; omega)).trans (by go_simp)
    have hc1 : w1.cell? ⟨w.heap.size + 1, 2, none⟩ = some (.int .i64 rs1) := (hbz.cell (p := ⟨w.heap.size + 1, 2, none⟩) (by simp)).trans (by go_simp)
    have hc2 : w1.cell? ⟨w.heap.size + 1, 3, none⟩ = some (.int .i64 rs2) := (hbz.cell (p := ⟨w.heap.size + 1, 3, none⟩) (by simp)).trans (by go_simp)
    have hz : w.heap.size + 1 < w1.heap.size := by have := hbz.size; simp at this; omega
    have hz0 : w.heap.size < w1.heap.size := by omega
    have hz1 : w.heap.size < w1.heap.size + 1 + 1 := by omega
    have hz2 : w.heap.size + 1 < w1.heap.size + 1 + 1 := by omega
    have hz3 : w.heap.size < w1.heap.size + 1 := by omega
    have hz4 : w.heap.size + 1 < w1.heap.size + 1 := by omega
    have HB := Lib.hid hbz; clear hbz
    go_wp2_with (go_at_call 202; refine (register_any _ _ (by assumption)).mono ?_; rintro e w' ⟨rfl, rfl⟩)
    go_ret
    exact ⟨ret_int (Is.layw7 HI.out rd rs1 rs2 aq rl), ((((((Below.refl _ w).alloc (Nat.le_refl _) _).alloc (by simp) _).trans (HB.out.mono (by simp; omega))).alloc (by first | omega | (simp; omega)) _).alloc (by first | omega | (simp; omega)) _)⟩

set_option maxRecDepth 100000 in
set_option maxHeartbeats 2000000 in
theorem lay8 (op rd rs1 rs2 imm : Int) (aq rl : Bool) (h1 : -9223372036854775808 ≤ rd ∧ rd ≤ 9223372036854775807) (h2 : -9223372036854775808 ≤ rs1 ∧ rs1 ≤ 9223372036854775807) (h3 : -9223372036854775808 ≤ rs2 ∧ rs2 ≤ 9223372036854775807) (hi : Is.Wd imm) (w : World) :
    Calls Tryz.prog 104 #[fo 8, inst op rd rs1 rs2 imm aq rl] w fun e w' => e = .returned (.int .u32 (Is.layO 8 rd rs1 rs2 imm aq rl)) ∧ Below w.heap.size w w' := by
  have HI := Lib.hid hi; clear hi
  rw [fo8]
  unfold inst
  go_enter Tryz.func104, Tryz.ntmps104
  go_upto_region 1 with (fail)
  refine Og.region3 (by kernel_rfl) (fun t => if t = 5 then some 6 else if 6 ≤ t ∧ t ≤ 11 then some (t - 6) else none) [.is (.pointer (some ⟨w.heap.size, 2, none⟩)), .is (.func (.func 247) #[] #[]), .is (.pointer (some ⟨w.heap.size + 1, 4, none⟩)), .is (.int .u32 imm), .says (fun (v : Value) (w2 : World) => ∃ r, v = Clo r ∧ w2.cell? ⟨r, 0, none⟩ = some (.int .u32 imm)), .is (.int .u32 (Is.placeO 8 imm)), .is (.int .u32 (Is.placeO 8 imm))] [true, true, true, true, true, true, true] (by kernel_rfl) ?_ ?_
  · refine ⟨?_, ?_, ?_, ?_, ?_, ?_, ?_, trivial⟩
    · refine ⟨rfl, fun ρ w1 hr hd => ?_⟩
      obtain ⟨d0, _⟩ := hd
      have d0 : ρ (.tmp 2) = .pointer (some ⟨w.heap.size, 0, none⟩) := d0
      refine (if_pos (by rfl)).mpr ?_
      refine Og.gives_is (.pointer (some ⟨w.heap.size, 2, none⟩)) ?_ (And.intro (Below.refl _ _) rfl)
      go_simp
    · refine ⟨rfl, fun ρ w1 hr hd => ?_⟩
      obtain ⟨d0, _⟩ := hd
      have d0 : ρ (.tmp 6) = .pointer (some ⟨w.heap.size, 2, none⟩) := d0
      have hc : w1.cell? ⟨w.heap.size, 2, none⟩ = some (.func (.func 247) #[] #[]) := (hr.cell (p := ⟨w.heap.size, 2, none⟩) (by simp; omega)).trans (by go_simp)
      refine (if_pos (by rfl)).mpr ?_
      refine Og.gives_is (.func (.func 247) #[] #[]) ?_ (And.intro (Below.refl _ _) rfl)
      go_simp
    · refine ⟨rfl, fun ρ w1 hr hd => ?_⟩
      obtain ⟨d0, _⟩ := hd
      have d0 : ρ (.tmp 3) = .pointer (some ⟨w.heap.size + 1, 0, none⟩) := d0
      refine (if_pos (by rfl)).mpr ?_
      refine Og.gives_is (.pointer (some ⟨w.heap.size + 1, 4, none⟩)) ?_ (And.intro (Below.refl _ _) rfl)
      go_simp
    · refine ⟨rfl, fun ρ w1 hr hd => ?_⟩
      obtain ⟨d0, _⟩ := hd
      have d0 : ρ (.tmp 8) = .pointer (some ⟨w.heap.size + 1, 4, none⟩) := d0
      have hc : w1.cell? ⟨w.heap.size + 1, 4, none⟩ = some (.int .u32 imm) := (hr.cell (p := ⟨w.heap.size + 1, 4, none⟩) (by simp)).trans (by go_simp)
      refine (if_pos (by rfl)).mpr ?_
      refine Og.gives_is (.int .u32 imm) ?_ (And.intro (Below.refl _ _) rfl)
      go_simp
    · refine ⟨rfl, fun ρ w1 hr hd => ?_⟩
      obtain ⟨d0, d1, _⟩ := hd
      have d0 : ρ (.func 201) = .func (.func 201) #[] #[] := d0
      have d1 : ρ (.tmp 9) = .int .u32 imm := d1
      refine (if_pos (by rfl)).mpr ?_
      refine Og.gives_call 201 #[.int .u32 imm] ?_ ?_
      · go_simp
      · refine (bitsOf_any imm w1).mono ?_
        rintro e w3 ⟨rfl, rfl⟩
        exact ⟨_, rfl, (Below.refl _ _).alloc (Nat.le_refl _) _, _, Below.refl _ _, _, rfl, by go_simp⟩
    · refine ⟨rfl, fun ρ w1 hr hd => ?_⟩
      obtain ⟨d0, d1, _⟩ := hd
      have d0 : ρ (.tmp 7) = .func (.func 247) #[] #[] := d0
      have d1 : ∃ w1', Below w1'.heap.size w1' w1 ∧ (fun (v : Value) (w2 : World) => ∃ r, v = Clo r ∧ w2.cell? ⟨r, 0, none⟩ = some (.int .u32 imm)) (ρ (.tmp 10)) w1' := d1
      obtain ⟨w2, hb2, r, hr2, hc2⟩ := d1
      refine (if_pos (by rfl)).mpr ?_
      refine Og.gives_call 247 #[Clo r] (by rw [← hr2]; go_simp) ?_
      refine (noImm_any imm r w1 HI.out ((hb2.cell (p := ⟨r, 0, none⟩) (World.block_lt_of_cell? w2 ⟨r, 0, none⟩ hc2)).trans hc2)).mono ?_
      rintro e w3 ⟨rfl, rfl⟩
      exact ⟨_, rfl, Below.refl _ _, rfl⟩
    · refine ⟨rfl, fun ρ w1 hr hd => ?_⟩
      obtain ⟨d0, _⟩ := hd
      have d0 : ρ (.tmp 11) = .int .u32 (Is.placeO 8 imm) := d0
      refine (if_pos (by rfl)).mpr ?_
      refine Og.gives_is (.int .u32 (Is.placeO 8 imm)) ?_ (And.intro (Below.refl _ _) rfl)
      go_simp
  · intro vs w1 hbz hall
    have v0 : vs 0 = .pointer (some ⟨w.heap.size, 2, none⟩) := hall 0 _ 6 rfl rfl
    have v1 : vs 1 = .func (.func 247) #[] #[] := hall 1 _ 7 rfl rfl
    have v2 : vs 2 = .pointer (some ⟨w.heap.size + 1, 4, none⟩) := hall 2 _ 8 rfl rfl
    have v3 : vs 3 = .int .u32 imm := hall 3 _ 9 rfl rfl
    obtain ⟨wq, hbq, rq, hrq, hcq⟩ : ∃ w1' : World, Below w1'.heap.size w1' w1 ∧ (fun (v : Value) (w2 : World) => ∃ r, v = Clo r ∧ w2.cell? ⟨r, 0, none⟩ = some (.int .u32 imm)) (vs 4) w1' := hall 4 _ 10 rfl rfl
    clear hbq hcq
    have v5 : vs 5 = .int .u32 (Is.placeO 8 imm) := hall 5 _ 11 rfl rfl
    have v6 : vs 6 = .int .u32 (Is.placeO 8 imm) := hall 6 _ 5 rfl rfl
    simp only [Og.putAll, Act.put, List.setIfInBounds_toArray, List.set_cons_zero, List.set_cons_succ, Nat.zero_add, Nat.reduceAdd, v0, v1, v2, v3, hrq, v5, v6]
    clear v0 v1 v2 v3 hrq v5 v6 hall
    have hc0 : w1.cell? ⟨w.heap.size, 0, none⟩ = some (.int .i64 7) := (hbz.cell (p := ⟨w.heap.size, 0, none⟩) (by simp; omega)).trans (by go_simp)
    have hc1 : w1.cell? ⟨w.heap.size + 1, 1, none⟩ = some (.int .i64 rd) := (hbz.cell (p := ⟨w.heap.size + 1, 1, none⟩) (by simp)).trans (by go_simp)
    have hc2 : w1.cell? ⟨w.heap.size + 1, 2, none⟩ = some (.int .i64 rs1) := (hbz.cell (p := ⟨w.heap.size + 1, 2, none⟩) (by simp)).trans (by go_simp)
    have hc3 : w1.cell? ⟨w.heap.size + 1, 3, none⟩ = some (.int .i64 rs2) := (hbz.cell (p := ⟨w.heap.size + 1, 3, none⟩) (by simp)).trans (by go_simp)
    have hz : w.heap.size + 1 < w1.heap.size := by have := hbz.size; simp at this; omega
    have hz0 : w.heap.size < w1.heap.size := by omega
    have hz1 : w.heap.size < w1.heap.size + 1 + 1 := by omega
    have hz2 : w.heap.size + 1 < w1.heap.size + 1 + 1 := by omega
    have hz3 : w.heap.size < w1.heap.size + 1 := by omega
    have hz4 : w.heap.size + 1 < w1.heap.size + 1 := by omega
    have HB := Lib.hid hbz; clear hbz
    go_wp2_with (go_at_call 202; refine (register_any _ _ (by assumption)).mono ?_; rintro e w' ⟨rfl, rfl⟩)
    go_ret
    exact ⟨ret_int (Is.layw8 HI.out rd rs1 rs2 aq rl), (((((((Below.refl _ w).alloc (Nat.le_refl _) _).alloc (by simp) _).trans (HB.out.mono (by simp; omega))).alloc (by first | omega | (simp; omega)) _).alloc (by first | omega | (simp; omega)) _).alloc (by first | omega | (simp; omega)) _)⟩

set_option maxRecDepth 100000 in
set_option maxHeartbeats 2000000 in
theorem lay9 (op rd rs1 rs2 imm : Int) (aq rl : Bool) (h1 : -9223372036854775808 ≤ rd ∧ rd ≤ 9223372036854775807) (h2 : -9223372036854775808 ≤ rs1 ∧ rs1 ≤ 9223372036854775807) (h3 : -9223372036854775808 ≤ rs2 ∧ rs2 ≤ 9223372036854775807) (hi : Is.Wd imm) (w : World) :
    Calls Tryz.prog 104 #[fo 9, inst op rd rs1 rs2 imm aq rl] w fun e w' => e = .returned (.int .u32 (Is.layO 9 rd rs1 rs2 imm aq rl)) ∧ Below w.heap.size w w' := by
  have HI := Lib.hid hi; clear hi
  rw [fo9]
  unfold inst
  go_enter Tryz.func104, Tryz.ntmps104
  go_upto_region 1 with (fail)
  refine Og.region3 (by kernel_rfl) (fun t => if t = 5 then some 6 else if 6 ≤ t ∧ t ≤ 11 then some (t - 6) else none) [.is (.pointer (some ⟨w.heap.size, 2, none⟩)), .is (.func (.func 250) #[] #[]), .is (.pointer (some ⟨w.heap.size + 1, 4, none⟩)), .is (.int .u32 imm), .says (fun (v : Value) (w2 : World) => ∃ r, v = Clo r ∧ w2.cell? ⟨r, 0, none⟩ = some (.int .u32 imm)), .is (.int .u32 (Is.placeO 9 imm)), .is (.int .u32 (Is.placeO 9 imm))] [true, true, true, true, true, true, true] (by kernel_rfl) ?_ ?_
  · refine ⟨?_, ?_, ?_, ?_, ?_, ?_, ?_, trivial⟩
    · refine ⟨rfl, fun ρ w1 hr hd => ?_⟩
      obtain ⟨d0, _⟩ := hd
      have d0 : ρ (.tmp 2) = .pointer (some ⟨w.heap.size, 0, none⟩) := d0
      refine (if_pos (by rfl)).mpr ?_
      refine Og.gives_is (.pointer (some ⟨w.heap.size, 2, none⟩)) ?_ (And.intro (Below.refl _ _) rfl)
      go_simp
    · refine ⟨rfl, fun ρ w1 hr hd => ?_⟩
      obtain ⟨d0, _⟩ := hd
      have d0 : ρ (.tmp 6) = .pointer (some ⟨w.heap.size, 2, none⟩) := d0
      have hc : w1.cell? ⟨w.heap.size, 2, none⟩ = some (.func (.func 250) #[] #[]) := (hr.cell (p := ⟨w.heap.size, 2, none⟩) (by simp; omega)).trans (by go_simp)
      refine (if_pos (by rfl)).mpr ?_
      refine Og.gives_is (.func (.func 250) #[] #[]) ?_ (And.intro (Below.refl _ _) rfl)
      go_simp
    · refine ⟨rfl, fun ρ w1 hr hd => ?_⟩
      obtain ⟨d0, _⟩ := hd
      have d0 : ρ (.tmp 3) = .pointer (some ⟨w.heap.size + 1, 0, none⟩) := d0
      refine (if_pos (by rfl)).mpr ?_
      refine Og.gives_is (.pointer (some ⟨w.heap.size + 1, 4, none⟩)) ?_ (And.intro (Below.refl _ _) rfl)
      go_simp
    · refine ⟨rfl, fun ρ w1 hr hd => ?_⟩
      obtain ⟨d0, _⟩ := hd
      have d0 : ρ (.tmp 8) = .pointer (some ⟨w.heap.size + 1, 4, none⟩) := d0
      have hc : w1.cell? ⟨w.heap.size + 1, 4, none⟩ = some (.int .u32 imm) := (hr.cell (p := ⟨w.heap.size + 1, 4, none⟩) (by simp)).trans (by go_simp)
      refine (if_pos (by rfl)).mpr ?_
      refine Og.gives_is (.int .u32 imm) ?_ (And.intro (Below.refl _ _) rfl)
      go_simp
    · refine ⟨rfl, fun ρ w1 hr hd => ?_⟩
      obtain ⟨d0, d1, _⟩ := hd
      have d0 : ρ (.func 201) = .func (.func 201) #[] #[] := d0
      have d1 : ρ (.tmp 9) = .int .u32 imm := d1
      refine (if_pos (by rfl)).mpr ?_
      refine Og.gives_call 201 #[.int .u32 imm] ?_ ?_
      · go_simp
      · refine (bitsOf_any imm w1).mono ?_
        rintro e w3 ⟨rfl, rfl⟩
        exact ⟨_, rfl, (Below.refl _ _).alloc (Nat.le_refl _) _, _, Below.refl _ _, _, rfl, by go_simp⟩
    · refine ⟨rfl, fun ρ w1 hr hd => ?_⟩
      obtain ⟨d0, d1, _⟩ := hd
      have d0 : ρ (.tmp 7) = .func (.func 250) #[] #[] := d0
      have d1 : ∃ w1', Below w1'.heap.size w1' w1 ∧ (fun (v : Value) (w2 : World) => ∃ r, v = Clo r ∧ w2.cell? ⟨r, 0, none⟩ = some (.int .u32 imm)) (ρ (.tmp 10)) w1' := d1
      obtain ⟨w2, hb2, r, hr2, hc2⟩ := d1
      refine (if_pos (by rfl)).mpr ?_
      refine Og.gives_call 250 #[Clo r] (by rw [← hr2]; go_simp) ?_
      refine (fencePlace_any imm r w1 HI.out ((hb2.cell (p := ⟨r, 0, none⟩) (World.block_lt_of_cell? w2 ⟨r, 0, none⟩ hc2)).trans hc2)).mono ?_
      rintro e w3 ⟨rfl, rfl⟩
      exact ⟨_, rfl, Below.refl _ _, rfl⟩
    · refine ⟨rfl, fun ρ w1 hr hd => ?_⟩
      obtain ⟨d0, _⟩ := hd
      have d0 : ρ (.tmp 11) = .int .u32 (Is.placeO 9 imm) := d0
      refine (if_pos (by rfl)).mpr ?_
      refine Og.gives_is (.int .u32 (Is.placeO 9 imm)) ?_ (And.intro (Below.refl _ _) rfl)
      go_simp
  · intro vs w1 hbz hall
    have v0 : vs 0 = .pointer (some ⟨w.heap.size, 2, none⟩) := hall 0 _ 6 rfl rfl
    have v1 : vs 1 = .func (.func 250) #[] #[] := hall 1 _ 7 rfl rfl
    have v2 : vs 2 = .pointer (some ⟨w.heap.size + 1, 4, none⟩) := hall 2 _ 8 rfl rfl
    have v3 : vs 3 = .int .u32 imm := hall 3 _ 9 rfl rfl
    obtain ⟨wq, hbq, rq, hrq, hcq⟩ : ∃ w1' : World, Below w1'.heap.size w1' w1 ∧ (fun (v : Value) (w2 : World) => ∃ r, v = Clo r ∧ w2.cell? ⟨r, 0, none⟩ = some (.int .u32 imm)) (vs 4) w1' := hall 4 _ 10 rfl rfl
    clear hbq hcq
    have v5 : vs 5 = .int .u32 (Is.placeO 9 imm) := hall 5 _ 11 rfl rfl
    have v6 : vs 6 = .int .u32 (Is.placeO 9 imm) := hall 6 _ 5 rfl rfl
    simp only [Og.putAll, Act.put, List.setIfInBounds_toArray, List.set_cons_zero, List.set_cons_succ, Nat.zero_add, Nat.reduceAdd, v0, v1, v2, v3, hrq, v5, v6]
    clear v0 v1 v2 v3 hrq v5 v6 hall
    have hc0 : w1.cell? ⟨w.heap.size, 0, none⟩ = some (.int .i64 0) := (hbz.cell (p := ⟨w.heap.size, 0, none⟩) (by simp; omega)).trans (by go_simp)
    have hz : w.heap.size + 1 < w1.heap.size := by have := hbz.size; simp at this; omega
    have hz0 : w.heap.size < w1.heap.size := by omega
    have hz1 : w.heap.size < w1.heap.size + 1 + 1 := by omega
    have hz2 : w.heap.size + 1 < w1.heap.size + 1 + 1 := by omega
    have hz3 : w.heap.size < w1.heap.size + 1 := by omega
    have hz4 : w.heap.size + 1 < w1.heap.size + 1 := by omega
    have HB := Lib.hid hbz; clear hbz
    go_wp2_with (go_at_call 202; refine (register_any _ _ (by assumption)).mono ?_; rintro e w' ⟨rfl, rfl⟩)
    go_ret
    exact ⟨ret_int (Is.layw9 HI.out rd rs1 rs2 aq rl), ((((Below.refl _ w).alloc (Nat.le_refl _) _).alloc (by simp) _).trans (HB.out.mono (by simp; omega)))⟩
end Go.Proofs.YtianojbdabeoeaaGreatDoor
