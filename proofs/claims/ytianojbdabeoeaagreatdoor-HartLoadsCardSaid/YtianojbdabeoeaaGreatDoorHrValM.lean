/-
  HrValM: HrValP, HrValA, HrValB, HrValC, HrValD in one text.
-/
import Derived.Test.YtianojbdabeoeaaGreatDoorHrM
import Derived.Test.YtianojbdabeoeaaGreatDoorHtDoM
import Derived.Deep.QuietTactic
import Derived.BigQuiet

section
namespace Go.Proofs.YtianojbdabeoeaaGreatDoor
open Go.RowKit Ht
set_option linter.unusedVariables false
namespace Ht
theorem hc (h : H) (k : Nat) (hk : k ≤ 31) : (hcells h)[2 + k]? = some (.int .u32 (h.R k)) := by
  rcases (show k = 0 ∨ k = 1 ∨ k = 2 ∨ k = 3 ∨ k = 4 ∨ k = 5 ∨ k = 6 ∨ k = 7 ∨ k = 8 ∨ k = 9 ∨ k = 10 ∨ k = 11 ∨ k = 12 ∨ k = 13 ∨ k = 14 ∨ k = 15 ∨ k = 16 ∨ k = 17 ∨ k = 18 ∨ k = 19 ∨ k = 20 ∨ k = 21 ∨ k = 22 ∨ k = 23 ∨ k = 24 ∨ k = 25 ∨ k = 26 ∨ k = 27 ∨ k = 28 ∨ k = 29 ∨ k = 30 ∨ k = 31 by omega) with
    rfl | rfl | rfl | rfl | rfl | rfl | rfl | rfl | rfl | rfl | rfl | rfl | rfl | rfl | rfl | rfl | rfl | rfl | rfl | rfl | rfl | rfl | rfl | rfl | rfl | rfl | rfl | rfl | rfl | rfl | rfl | rfl <;> rfl
/-- what the document asks of a hart and an instruction -/
structure HIOk (h : H) (i : I) : Prop where
  rs1 : i.rs1 ≤ 31
  rs2 : i.rs2 ≤ 31
  imm : Ar.Wd i.imm
  R : ∀ k, Ar.Wd (h.R k)
  pc : Ar.Wd h.pc
  id : 0 ≤ h.id ∧ h.id ≤ 3
end Ht
theorem Ht.low_bd1 {n : Int} (h : Ar.Wd n) : 0 ≤ low n 1 ∧ low n 1 ≤ 255 := by unfold low; simp; omega
theorem Ht.low_bd2 {n : Int} (h : Ar.Wd n) : 0 ≤ low n 2 ∧ low n 2 ≤ 65535 := by unfold low; simp; omega
theorem Ht.ext_hi1 {n : Int} (h : 127 < n) (hb : 0 ≤ n ∧ n ≤ 255) : (n - 256) % 4294967296 = Ar.ext n 8 := by
  unfold Ar.ext
  rw [if_neg (by omega), if_pos (by simp; omega)]
  unfold Ar.md
  simp
  omega
theorem Ht.ext_lo1 {n : Int} (h : ¬ 127 < n) (hb : 0 ≤ n ∧ n ≤ 255) : n % 4294967296 = Ar.ext n 8 := by
  unfold Ar.ext
  rw [if_neg (by omega), if_neg (by simp; omega)]
  unfold Ar.md
  simp
  omega
theorem Ht.ext_hi2 {n : Int} (h : 32767 < n) (hb : 0 ≤ n ∧ n ≤ 65535) : (n - 65536) % 4294967296 = Ar.ext n 16 := by
  unfold Ar.ext
  rw [if_neg (by omega), if_pos (by simp; omega)]
  unfold Ar.md
  simp
  omega
theorem Ht.ext_lo2 {n : Int} (h : ¬ 32767 < n) (hb : 0 ≤ n ∧ n ≤ 65535) : n % 4294967296 = Ar.ext n 16 := by
  unfold Ar.ext
  rw [if_neg (by omega), if_neg (by simp; omega)]
  unfold Ar.md
  simp
  omega
theorem vcells (w : World) (h : H) (i : I) (tv : Int) (tok : Bool) (nq : Nat) : ∃ W, W = (((w.alloc (.cells (hcells h).toArray 26)).alloc (.cells (icells i).toArray 85)).alloc (.cells #[.int .u32 tv, .bool tok] 28)).drewN nq ∧
    W.heap[w.heap.size]? = some (.cells (hcells h).toArray 26) ∧ W.heap[w.heap.size + 1]? = some (.cells (icells i).toArray 85) ∧ W.heap[w.heap.size + 2]? = some (.cells #[.int .u32 tv, .bool tok] 28) ∧
    W.cell? ⟨w.heap.size, 0, none⟩ = some (.int .i64 h.id) ∧ W.cell? ⟨w.heap.size, 1, none⟩ = some (.int .u32 h.pc) ∧ W.cell? ⟨w.heap.size + 1, 4, none⟩ = some (.int .u32 i.imm) ∧
    W.cell? ⟨w.heap.size + 1 + 1, 0, none⟩ = some (.int .u32 tv) ∧ W.cell? ⟨w.heap.size + 1 + 1, 1, none⟩ = some (.bool tok) ∧ Below w.heap.size w W := by
  refine ⟨_, rfl, ?_⟩
  obtain ⟨W, hW⟩ : ∃ W, W = (((w.alloc (.cells (hcells h).toArray 26)).alloc (.cells (icells i).toArray 85)).alloc (.cells #[.int .u32 tv, .bool tok] 28)).drewN nq := ⟨_, rfl⟩
  have q0 : W.heap[w.heap.size]? = some (.cells (hcells h).toArray 26) := by rw [hW]; exact (heap_a3 w _ _ _).1
  have q1 : W.heap[w.heap.size + 1]? = some (.cells (icells i).toArray 85) := by rw [hW]; exact (heap_a3 w _ _ _).2.1
  have q2 : W.heap[w.heap.size + 2]? = some (.cells #[.int .u32 tv, .bool tok] 28) := by rw [hW]; exact (heap_a3 w _ _ _).2.2
  rw [← hW]
  refine ⟨q0, q1, q2, ?_, ?_, ?_, ?_, ?_, ?_⟩
  · rw [cell_of_row W _ 0 _ _ _ q0]; rfl
  · rw [cell_of_row W _ 1 _ _ _ q0]; rfl
  · rw [cell_of_row W _ 4 _ _ _ q1]; rfl
  · rw [cell_of_row W _ 0 _ _ _ q2]; rfl
  · rw [cell_of_row W _ 1 _ _ _ q2]; rfl
  · rw [hW]; exact (((Below.refl w.heap.size w).alloc (Nat.le_refl _) _).alloc (by simp only [World.size_alloc]; omega) _).alloc (by simp only [World.size_alloc]; omega) _ |>.trans ⟨rfl, rfl, rfl, Nat.le_refl _, fun _ _ => rfl⟩
end Go.Proofs.YtianojbdabeoeaaGreatDoor
end

section
namespace Go.Proofs.YtianojbdabeoeaaGreatDoor
open Go.RowKit Ht
set_option linter.unusedVariables false
set_option maxRecDepth 100000 in
set_option maxHeartbeats 2000000 in
theorem rval_1 (h : H) (i : I) (hop : i.op = 1) (tv : Int) (tok : Bool) (ht : Ar.Wd tv) (K : HIOk h i) (w : World) :
    Calls Tryz.prog 56 #[hartV h, instV i, ansV tv tok] w fun e w' => e = .returned (.tuple #[.int .u32 (val 1 h.pc h.id (h.R i.rs1) (h.R i.rs2) i.imm tv tok), .bool (has 1)]) ∧ Below w.heap.size w w' := by
  have k1 := hc h i.rs1 K.rs1
  have k2 := hc h i.rs2 K.rs2
  have b1 : (i.rs1 : Int) < 32 := by have := K.rs1; omega
  have b2 : (i.rs2 : Int) < 32 := by have := K.rs2; omega
  have j0 : (icells i)[0]? = some (.int .i64 1) := by rw [← show ((i.op : Nat) : Int) = 1 by rw [hop]; rfl]; rfl
  have j2 : (icells i)[2]? = some (.int .i64 i.rs1) := rfl
  have j3 : (icells i)[3]? = some (.int .i64 i.rs2) := rfl
  have HT := Lib.hid ht; clear ht hop
  unfold hartV instV ansV
  go_enter Tryz.func56, Tryz.ntmps56
  go_wp2
  go_quiet (fail)
  clear k1 k2 j0 j2 j3 b1 b2
  obtain ⟨W, hW, q0, q1, q2, c0, c1, c2, c3, c4, b⟩ := vcells w h i tv tok nq
  rw [← hW]
  have B := Lib.hid b; clear b hW q0 q1 q2
  go_wp2
  go_ret2
  exact ⟨rfl, B.out⟩
set_option maxRecDepth 100000 in
set_option maxHeartbeats 2000000 in
theorem rval_2 (h : H) (i : I) (hop : i.op = 2) (tv : Int) (tok : Bool) (ht : Ar.Wd tv) (K : HIOk h i) (w : World) :
    Calls Tryz.prog 56 #[hartV h, instV i, ansV tv tok] w fun e w' => e = .returned (.tuple #[.int .u32 (val 2 h.pc h.id (h.R i.rs1) (h.R i.rs2) i.imm tv tok), .bool (has 2)]) ∧ Below w.heap.size w w' := by
  have k1 := hc h i.rs1 K.rs1
  have k2 := hc h i.rs2 K.rs2
  have b1 : (i.rs1 : Int) < 32 := by have := K.rs1; omega
  have b2 : (i.rs2 : Int) < 32 := by have := K.rs2; omega
  have j0 : (icells i)[0]? = some (.int .i64 2) := by rw [← show ((i.op : Nat) : Int) = 2 by rw [hop]; rfl]; rfl
  have j2 : (icells i)[2]? = some (.int .i64 i.rs1) := rfl
  have j3 : (icells i)[3]? = some (.int .i64 i.rs2) := rfl
  have HT := Lib.hid ht; clear ht hop
  unfold hartV instV ansV
  go_enter Tryz.func56, Tryz.ntmps56
  go_wp2
  go_quiet (fail)
  clear k1 k2 j0 j2 j3 b1 b2
  obtain ⟨W, hW, q0, q1, q2, c0, c1, c2, c3, c4, b⟩ := vcells w h i tv tok nq
  rw [← hW]
  have B := Lib.hid b; clear b hW q0 q1 q2
  go_wp2_with fail
  refine (radd_any _ _ K.pc K.imm _).mono ?_
  rintro e w1 ⟨rfl, rfl⟩
  go_wp2
  go_ret2
  exact ⟨rfl, B.out⟩
set_option maxRecDepth 100000 in
set_option maxHeartbeats 2000000 in
theorem rval_3 (h : H) (i : I) (hop : i.op = 3) (tv : Int) (tok : Bool) (ht : Ar.Wd tv) (K : HIOk h i) (w : World) :
    Calls Tryz.prog 56 #[hartV h, instV i, ansV tv tok] w fun e w' => e = .returned (.tuple #[.int .u32 (val 3 h.pc h.id (h.R i.rs1) (h.R i.rs2) i.imm tv tok), .bool (has 3)]) ∧ Below w.heap.size w w' := by
  have k1 := hc h i.rs1 K.rs1
  have k2 := hc h i.rs2 K.rs2
  have b1 : (i.rs1 : Int) < 32 := by have := K.rs1; omega
  have b2 : (i.rs2 : Int) < 32 := by have := K.rs2; omega
  have j0 : (icells i)[0]? = some (.int .i64 3) := by rw [← show ((i.op : Nat) : Int) = 3 by rw [hop]; rfl]; rfl
  have j2 : (icells i)[2]? = some (.int .i64 i.rs1) := rfl
  have j3 : (icells i)[3]? = some (.int .i64 i.rs2) := rfl
  have HT := Lib.hid ht; clear ht hop
  unfold hartV instV ansV
  go_enter Tryz.func56, Tryz.ntmps56
  go_wp2
  go_quiet (fail)
  clear k1 k2 j0 j2 j3 b1 b2
  obtain ⟨W, hW, q0, q1, q2, c0, c1, c2, c3, c4, b⟩ := vcells w h i tv tok nq
  rw [← hW]
  have B := Lib.hid b; clear b hW q0 q1 q2
  go_wp2_with fail
  refine (radd_any _ _ K.pc (by unfold Ar.Wd; omega) _).mono ?_
  rintro e w1 ⟨rfl, rfl⟩
  go_wp2
  go_ret2
  exact ⟨rfl, B.out⟩
set_option maxRecDepth 100000 in
set_option maxHeartbeats 2000000 in
theorem rval_4 (h : H) (i : I) (hop : i.op = 4) (tv : Int) (tok : Bool) (ht : Ar.Wd tv) (K : HIOk h i) (w : World) :
    Calls Tryz.prog 56 #[hartV h, instV i, ansV tv tok] w fun e w' => e = .returned (.tuple #[.int .u32 (val 4 h.pc h.id (h.R i.rs1) (h.R i.rs2) i.imm tv tok), .bool (has 4)]) ∧ Below w.heap.size w w' := by
  have k1 := hc h i.rs1 K.rs1
  have k2 := hc h i.rs2 K.rs2
  have b1 : (i.rs1 : Int) < 32 := by have := K.rs1; omega
  have b2 : (i.rs2 : Int) < 32 := by have := K.rs2; omega
  have j0 : (icells i)[0]? = some (.int .i64 4) := by rw [← show ((i.op : Nat) : Int) = 4 by rw [hop]; rfl]; rfl
  have j2 : (icells i)[2]? = some (.int .i64 i.rs1) := rfl
  have j3 : (icells i)[3]? = some (.int .i64 i.rs2) := rfl
  have HT := Lib.hid ht; clear ht hop
  unfold hartV instV ansV
  go_enter Tryz.func56, Tryz.ntmps56
  go_wp2
  go_quiet (fail)
  clear k1 k2 j0 j2 j3 b1 b2
  obtain ⟨W, hW, q0, q1, q2, c0, c1, c2, c3, c4, b⟩ := vcells w h i tv tok nq
  rw [← hW]
  have B := Lib.hid b; clear b hW q0 q1 q2
  go_wp2_with fail
  refine (radd_any _ _ K.pc (by unfold Ar.Wd; omega) _).mono ?_
  rintro e w1 ⟨rfl, rfl⟩
  go_wp2
  go_ret2
  exact ⟨rfl, B.out⟩
set_option maxRecDepth 100000 in
set_option maxHeartbeats 2000000 in
theorem rval_5 (h : H) (i : I) (hop : i.op = 5) (tv : Int) (tok : Bool) (ht : Ar.Wd tv) (K : HIOk h i) (w : World) :
    Calls Tryz.prog 56 #[hartV h, instV i, ansV tv tok] w fun e w' => e = .returned (.tuple #[.int .u32 (val 5 h.pc h.id (h.R i.rs1) (h.R i.rs2) i.imm tv tok), .bool (has 5)]) ∧ Below w.heap.size w w' := by
  have k1 := hc h i.rs1 K.rs1
  have k2 := hc h i.rs2 K.rs2
  have b1 : (i.rs1 : Int) < 32 := by have := K.rs1; omega
  have b2 : (i.rs2 : Int) < 32 := by have := K.rs2; omega
  have j0 : (icells i)[0]? = some (.int .i64 5) := by rw [← show ((i.op : Nat) : Int) = 5 by rw [hop]; rfl]; rfl
  have j2 : (icells i)[2]? = some (.int .i64 i.rs1) := rfl
  have j3 : (icells i)[3]? = some (.int .i64 i.rs2) := rfl
  have HT := Lib.hid ht; clear ht hop
  unfold hartV instV ansV
  go_enter Tryz.func56, Tryz.ntmps56
  go_wp2
  go_quiet (fail)
  clear k1 k2 j0 j2 j3 b1 b2
  obtain ⟨W, hW, q0, q1, q2, c0, c1, c2, c3, c4, b⟩ := vcells w h i tv tok nq
  rw [← hW]
  have B := Lib.hid b; clear b hW q0 q1 q2
  go_wp2
  go_ret2
  exact ⟨rfl, B.out⟩
set_option maxRecDepth 100000 in
set_option maxHeartbeats 2000000 in
theorem rval_6 (h : H) (i : I) (hop : i.op = 6) (tv : Int) (tok : Bool) (ht : Ar.Wd tv) (K : HIOk h i) (w : World) :
    Calls Tryz.prog 56 #[hartV h, instV i, ansV tv tok] w fun e w' => e = .returned (.tuple #[.int .u32 (val 6 h.pc h.id (h.R i.rs1) (h.R i.rs2) i.imm tv tok), .bool (has 6)]) ∧ Below w.heap.size w w' := by
  have k1 := hc h i.rs1 K.rs1
  have k2 := hc h i.rs2 K.rs2
  have b1 : (i.rs1 : Int) < 32 := by have := K.rs1; omega
  have b2 : (i.rs2 : Int) < 32 := by have := K.rs2; omega
  have j0 : (icells i)[0]? = some (.int .i64 6) := by rw [← show ((i.op : Nat) : Int) = 6 by rw [hop]; rfl]; rfl
  have j2 : (icells i)[2]? = some (.int .i64 i.rs1) := rfl
  have j3 : (icells i)[3]? = some (.int .i64 i.rs2) := rfl
  have HT := Lib.hid ht; clear ht hop
  unfold hartV instV ansV
  go_enter Tryz.func56, Tryz.ntmps56
  go_wp2
  go_quiet (fail)
  clear k1 k2 j0 j2 j3 b1 b2
  obtain ⟨W, hW, q0, q1, q2, c0, c1, c2, c3, c4, b⟩ := vcells w h i tv tok nq
  rw [← hW]
  have B := Lib.hid b; clear b hW q0 q1 q2
  go_wp2
  go_ret2
  exact ⟨rfl, B.out⟩
set_option maxRecDepth 100000 in
set_option maxHeartbeats 2000000 in
theorem rval_7 (h : H) (i : I) (hop : i.op = 7) (tv : Int) (tok : Bool) (ht : Ar.Wd tv) (K : HIOk h i) (w : World) :
    Calls Tryz.prog 56 #[hartV h, instV i, ansV tv tok] w fun e w' => e = .returned (.tuple #[.int .u32 (val 7 h.pc h.id (h.R i.rs1) (h.R i.rs2) i.imm tv tok), .bool (has 7)]) ∧ Below w.heap.size w w' := by
  have k1 := hc h i.rs1 K.rs1
  have k2 := hc h i.rs2 K.rs2
  have b1 : (i.rs1 : Int) < 32 := by have := K.rs1; omega
  have b2 : (i.rs2 : Int) < 32 := by have := K.rs2; omega
  have j0 : (icells i)[0]? = some (.int .i64 7) := by rw [← show ((i.op : Nat) : Int) = 7 by rw [hop]; rfl]; rfl
  have j2 : (icells i)[2]? = some (.int .i64 i.rs1) := rfl
  have j3 : (icells i)[3]? = some (.int .i64 i.rs2) := rfl
  have HT := Lib.hid ht; clear ht hop
  unfold hartV instV ansV
  go_enter Tryz.func56, Tryz.ntmps56
  go_wp2
  go_quiet (fail)
  clear k1 k2 j0 j2 j3 b1 b2
  obtain ⟨W, hW, q0, q1, q2, c0, c1, c2, c3, c4, b⟩ := vcells w h i tv tok nq
  rw [← hW]
  have B := Lib.hid b; clear b hW q0 q1 q2
  go_wp2
  go_ret2
  exact ⟨rfl, B.out⟩
set_option maxRecDepth 100000 in
set_option maxHeartbeats 2000000 in
theorem rval_8 (h : H) (i : I) (hop : i.op = 8) (tv : Int) (tok : Bool) (ht : Ar.Wd tv) (K : HIOk h i) (w : World) :
    Calls Tryz.prog 56 #[hartV h, instV i, ansV tv tok] w fun e w' => e = .returned (.tuple #[.int .u32 (val 8 h.pc h.id (h.R i.rs1) (h.R i.rs2) i.imm tv tok), .bool (has 8)]) ∧ Below w.heap.size w w' := by
  have k1 := hc h i.rs1 K.rs1
  have k2 := hc h i.rs2 K.rs2
  have b1 : (i.rs1 : Int) < 32 := by have := K.rs1; omega
  have b2 : (i.rs2 : Int) < 32 := by have := K.rs2; omega
  have j0 : (icells i)[0]? = some (.int .i64 8) := by rw [← show ((i.op : Nat) : Int) = 8 by rw [hop]; rfl]; rfl
  have j2 : (icells i)[2]? = some (.int .i64 i.rs1) := rfl
  have j3 : (icells i)[3]? = some (.int .i64 i.rs2) := rfl
  have HT := Lib.hid ht; clear ht hop
  unfold hartV instV ansV
  go_enter Tryz.func56, Tryz.ntmps56
  go_wp2
  go_quiet (fail)
  clear k1 k2 j0 j2 j3 b1 b2
  obtain ⟨W, hW, q0, q1, q2, c0, c1, c2, c3, c4, b⟩ := vcells w h i tv tok nq
  rw [← hW]
  have B := Lib.hid b; clear b hW q0 q1 q2
  go_wp2
  go_ret2
  exact ⟨rfl, B.out⟩
set_option maxRecDepth 100000 in
set_option maxHeartbeats 2000000 in
theorem rval_9 (h : H) (i : I) (hop : i.op = 9) (tv : Int) (tok : Bool) (ht : Ar.Wd tv) (K : HIOk h i) (w : World) :
    Calls Tryz.prog 56 #[hartV h, instV i, ansV tv tok] w fun e w' => e = .returned (.tuple #[.int .u32 (val 9 h.pc h.id (h.R i.rs1) (h.R i.rs2) i.imm tv tok), .bool (has 9)]) ∧ Below w.heap.size w w' := by
  have k1 := hc h i.rs1 K.rs1
  have k2 := hc h i.rs2 K.rs2
  have b1 : (i.rs1 : Int) < 32 := by have := K.rs1; omega
  have b2 : (i.rs2 : Int) < 32 := by have := K.rs2; omega
  have j0 : (icells i)[0]? = some (.int .i64 9) := by rw [← show ((i.op : Nat) : Int) = 9 by rw [hop]; rfl]; rfl
  have j2 : (icells i)[2]? = some (.int .i64 i.rs1) := rfl
  have j3 : (icells i)[3]? = some (.int .i64 i.rs2) := rfl
  have HT := Lib.hid ht; clear ht hop
  unfold hartV instV ansV
  go_enter Tryz.func56, Tryz.ntmps56
  go_wp2
  go_quiet (fail)
  clear k1 k2 j0 j2 j3 b1 b2
  obtain ⟨W, hW, q0, q1, q2, c0, c1, c2, c3, c4, b⟩ := vcells w h i tv tok nq
  rw [← hW]
  have B := Lib.hid b; clear b hW q0 q1 q2
  go_wp2
  go_ret2
  exact ⟨rfl, B.out⟩
set_option maxRecDepth 100000 in
set_option maxHeartbeats 2000000 in
theorem rval_10 (h : H) (i : I) (hop : i.op = 10) (tv : Int) (tok : Bool) (ht : Ar.Wd tv) (K : HIOk h i) (w : World) :
    Calls Tryz.prog 56 #[hartV h, instV i, ansV tv tok] w fun e w' => e = .returned (.tuple #[.int .u32 (val 10 h.pc h.id (h.R i.rs1) (h.R i.rs2) i.imm tv tok), .bool (has 10)]) ∧ Below w.heap.size w w' := by
  have k1 := hc h i.rs1 K.rs1
  have k2 := hc h i.rs2 K.rs2
  have b1 : (i.rs1 : Int) < 32 := by have := K.rs1; omega
  have b2 : (i.rs2 : Int) < 32 := by have := K.rs2; omega
  have j0 : (icells i)[0]? = some (.int .i64 10) := by rw [← show ((i.op : Nat) : Int) = 10 by rw [hop]; rfl]; rfl
  have j2 : (icells i)[2]? = some (.int .i64 i.rs1) := rfl
  have j3 : (icells i)[3]? = some (.int .i64 i.rs2) := rfl
  have HT := Lib.hid ht; clear ht hop
  unfold hartV instV ansV
  go_enter Tryz.func56, Tryz.ntmps56
  go_wp2
  go_quiet (fail)
  clear k1 k2 j0 j2 j3 b1 b2
  obtain ⟨W, hW, q0, q1, q2, c0, c1, c2, c3, c4, b⟩ := vcells w h i tv tok nq
  rw [← hW]
  have B := Lib.hid b; clear b hW q0 q1 q2
  go_wp2
  go_ret2
  exact ⟨rfl, B.out⟩
set_option maxRecDepth 100000 in
set_option maxHeartbeats 2000000 in
theorem rval_11 (h : H) (i : I) (hop : i.op = 11) (tv : Int) (tok : Bool) (ht : Ar.Wd tv) (K : HIOk h i) (w : World) :
    Calls Tryz.prog 56 #[hartV h, instV i, ansV tv tok] w fun e w' => e = .returned (.tuple #[.int .u32 (val 11 h.pc h.id (h.R i.rs1) (h.R i.rs2) i.imm tv tok), .bool (has 11)]) ∧ Below w.heap.size w w' := by
  have k1 := hc h i.rs1 K.rs1
  have k2 := hc h i.rs2 K.rs2
  have b1 : (i.rs1 : Int) < 32 := by have := K.rs1; omega
  have b2 : (i.rs2 : Int) < 32 := by have := K.rs2; omega
  have j0 : (icells i)[0]? = some (.int .i64 11) := by rw [← show ((i.op : Nat) : Int) = 11 by rw [hop]; rfl]; rfl
  have j2 : (icells i)[2]? = some (.int .i64 i.rs1) := rfl
  have j3 : (icells i)[3]? = some (.int .i64 i.rs2) := rfl
  have HT := Lib.hid ht; clear ht hop
  unfold hartV instV ansV
  go_enter Tryz.func56, Tryz.ntmps56
  go_wp2
  go_quiet (fail)
  clear k1 k2 j0 j2 j3 b1 b2
  obtain ⟨W, hW, q0, q1, q2, c0, c1, c2, c3, c4, b⟩ := vcells w h i tv tok nq
  rw [← hW]
  have B := Lib.hid b; clear b hW q0 q1 q2
  have hl := low_bd1 HT.out
  go_wp2
  go_quiet (first
    | (go_at_call 63; exact Calls.quiet_of_same ((rwidth_11 _).mono fun _ _ h => ⟨h.1, h.2.symm⟩))
    | (go_at_call 64; exact Calls.quiet_of_same ((rlow_1 _ HT.out _).mono fun _ _ h => ⟨h.1, h.2.symm⟩)))
  by_cases hc : 127 < low tv 1
  · have ex := ext_hi1 hc hl
    have EX := Lib.hid ex; clear ex
    go_wp2_with fail
    refine (rword_any _ (by omega) _).mono ?_
    rintro e w1 ⟨rfl, rfl⟩
    rw [EX.out]
    go_wp2
    go_ret2
    exact ⟨rfl, B.out.trans ⟨rfl, rfl, rfl, Nat.le_refl _, fun _ _ => rfl⟩⟩
  · have ex := ext_lo1 hc hl
    have EX := Lib.hid ex; clear ex
    go_wp2_with fail
    refine (rword_any _ (by omega) _).mono ?_
    rintro e w1 ⟨rfl, rfl⟩
    rw [EX.out]
    go_wp2
    go_ret2
    exact ⟨rfl, B.out.trans ⟨rfl, rfl, rfl, Nat.le_refl _, fun _ _ => rfl⟩⟩
set_option maxRecDepth 100000 in
set_option maxHeartbeats 2000000 in
theorem rval_12 (h : H) (i : I) (hop : i.op = 12) (tv : Int) (tok : Bool) (ht : Ar.Wd tv) (K : HIOk h i) (w : World) :
    Calls Tryz.prog 56 #[hartV h, instV i, ansV tv tok] w fun e w' => e = .returned (.tuple #[.int .u32 (val 12 h.pc h.id (h.R i.rs1) (h.R i.rs2) i.imm tv tok), .bool (has 12)]) ∧ Below w.heap.size w w' := by
  have k1 := hc h i.rs1 K.rs1
  have k2 := hc h i.rs2 K.rs2
  have b1 : (i.rs1 : Int) < 32 := by have := K.rs1; omega
  have b2 : (i.rs2 : Int) < 32 := by have := K.rs2; omega
  have j0 : (icells i)[0]? = some (.int .i64 12) := by rw [← show ((i.op : Nat) : Int) = 12 by rw [hop]; rfl]; rfl
  have j2 : (icells i)[2]? = some (.int .i64 i.rs1) := rfl
  have j3 : (icells i)[3]? = some (.int .i64 i.rs2) := rfl
  have HT := Lib.hid ht; clear ht hop
  unfold hartV instV ansV
  go_enter Tryz.func56, Tryz.ntmps56
  go_wp2
  go_quiet (fail)
  clear k1 k2 j0 j2 j3 b1 b2
  obtain ⟨W, hW, q0, q1, q2, c0, c1, c2, c3, c4, b⟩ := vcells w h i tv tok nq
  rw [← hW]
  have B := Lib.hid b; clear b hW q0 q1 q2
  have hl := low_bd2 HT.out
  go_wp2
  go_quiet (first
    | (go_at_call 63; exact Calls.quiet_of_same ((rwidth_12 _).mono fun _ _ h => ⟨h.1, h.2.symm⟩))
    | (go_at_call 64; exact Calls.quiet_of_same ((rlow_2 _ HT.out _).mono fun _ _ h => ⟨h.1, h.2.symm⟩)))
  by_cases hc : 32767 < low tv 2
  · have ex := ext_hi2 hc hl
    have EX := Lib.hid ex; clear ex
    go_wp2_with fail
    refine (rword_any _ (by omega) _).mono ?_
    rintro e w1 ⟨rfl, rfl⟩
    rw [EX.out]
    go_wp2
    go_ret2
    exact ⟨rfl, B.out.trans ⟨rfl, rfl, rfl, Nat.le_refl _, fun _ _ => rfl⟩⟩
  · have ex := ext_lo2 hc hl
    have EX := Lib.hid ex; clear ex
    go_wp2_with fail
    refine (rword_any _ (by omega) _).mono ?_
    rintro e w1 ⟨rfl, rfl⟩
    rw [EX.out]
    go_wp2
    go_ret2
    exact ⟨rfl, B.out.trans ⟨rfl, rfl, rfl, Nat.le_refl _, fun _ _ => rfl⟩⟩
set_option maxRecDepth 100000 in
set_option maxHeartbeats 2000000 in
theorem rval_13 (h : H) (i : I) (hop : i.op = 13) (tv : Int) (tok : Bool) (ht : Ar.Wd tv) (K : HIOk h i) (w : World) :
    Calls Tryz.prog 56 #[hartV h, instV i, ansV tv tok] w fun e w' => e = .returned (.tuple #[.int .u32 (val 13 h.pc h.id (h.R i.rs1) (h.R i.rs2) i.imm tv tok), .bool (has 13)]) ∧ Below w.heap.size w w' := by
  have k1 := hc h i.rs1 K.rs1
  have k2 := hc h i.rs2 K.rs2
  have b1 : (i.rs1 : Int) < 32 := by have := K.rs1; omega
  have b2 : (i.rs2 : Int) < 32 := by have := K.rs2; omega
  have j0 : (icells i)[0]? = some (.int .i64 13) := by rw [← show ((i.op : Nat) : Int) = 13 by rw [hop]; rfl]; rfl
  have j2 : (icells i)[2]? = some (.int .i64 i.rs1) := rfl
  have j3 : (icells i)[3]? = some (.int .i64 i.rs2) := rfl
  have HT := Lib.hid ht; clear ht hop
  unfold hartV instV ansV
  go_enter Tryz.func56, Tryz.ntmps56
  go_wp2
  go_quiet (fail)
  clear k1 k2 j0 j2 j3 b1 b2
  obtain ⟨W, hW, q0, q1, q2, c0, c1, c2, c3, c4, b⟩ := vcells w h i tv tok nq
  rw [← hW]
  have B := Lib.hid b; clear b hW q0 q1 q2
  go_wp2
  go_quiet (first
    | (go_at_call 63; exact Calls.quiet_of_same ((rwidth_13 _).mono fun _ _ h => ⟨h.1, h.2.symm⟩))
    | (go_at_call 64; exact Calls.quiet_of_same ((rlow_4 _ HT.out _).mono fun _ _ h => ⟨h.1, h.2.symm⟩)))
  go_wp2
  go_ret2
  exact ⟨rfl, B.out.trans ⟨rfl, rfl, rfl, Nat.le_refl _, fun _ _ => rfl⟩⟩
set_option maxRecDepth 100000 in
set_option maxHeartbeats 2000000 in
theorem rval_14 (h : H) (i : I) (hop : i.op = 14) (tv : Int) (tok : Bool) (ht : Ar.Wd tv) (K : HIOk h i) (w : World) :
    Calls Tryz.prog 56 #[hartV h, instV i, ansV tv tok] w fun e w' => e = .returned (.tuple #[.int .u32 (val 14 h.pc h.id (h.R i.rs1) (h.R i.rs2) i.imm tv tok), .bool (has 14)]) ∧ Below w.heap.size w w' := by
  have k1 := hc h i.rs1 K.rs1
  have k2 := hc h i.rs2 K.rs2
  have b1 : (i.rs1 : Int) < 32 := by have := K.rs1; omega
  have b2 : (i.rs2 : Int) < 32 := by have := K.rs2; omega
  have j0 : (icells i)[0]? = some (.int .i64 14) := by rw [← show ((i.op : Nat) : Int) = 14 by rw [hop]; rfl]; rfl
  have j2 : (icells i)[2]? = some (.int .i64 i.rs1) := rfl
  have j3 : (icells i)[3]? = some (.int .i64 i.rs2) := rfl
  have HT := Lib.hid ht; clear ht hop
  unfold hartV instV ansV
  go_enter Tryz.func56, Tryz.ntmps56
  go_wp2
  go_quiet (fail)
  clear k1 k2 j0 j2 j3 b1 b2
  obtain ⟨W, hW, q0, q1, q2, c0, c1, c2, c3, c4, b⟩ := vcells w h i tv tok nq
  rw [← hW]
  have B := Lib.hid b; clear b hW q0 q1 q2
  go_wp2
  go_quiet (first
    | (go_at_call 63; exact Calls.quiet_of_same ((rwidth_14 _).mono fun _ _ h => ⟨h.1, h.2.symm⟩))
    | (go_at_call 64; exact Calls.quiet_of_same ((rlow_1 _ HT.out _).mono fun _ _ h => ⟨h.1, h.2.symm⟩)))
  go_wp2
  go_ret2
  exact ⟨rfl, B.out.trans ⟨rfl, rfl, rfl, Nat.le_refl _, fun _ _ => rfl⟩⟩
set_option maxRecDepth 100000 in
set_option maxHeartbeats 2000000 in
theorem rval_15 (h : H) (i : I) (hop : i.op = 15) (tv : Int) (tok : Bool) (ht : Ar.Wd tv) (K : HIOk h i) (w : World) :
    Calls Tryz.prog 56 #[hartV h, instV i, ansV tv tok] w fun e w' => e = .returned (.tuple #[.int .u32 (val 15 h.pc h.id (h.R i.rs1) (h.R i.rs2) i.imm tv tok), .bool (has 15)]) ∧ Below w.heap.size w w' := by
  have k1 := hc h i.rs1 K.rs1
  have k2 := hc h i.rs2 K.rs2
  have b1 : (i.rs1 : Int) < 32 := by have := K.rs1; omega
  have b2 : (i.rs2 : Int) < 32 := by have := K.rs2; omega
  have j0 : (icells i)[0]? = some (.int .i64 15) := by rw [← show ((i.op : Nat) : Int) = 15 by rw [hop]; rfl]; rfl
  have j2 : (icells i)[2]? = some (.int .i64 i.rs1) := rfl
  have j3 : (icells i)[3]? = some (.int .i64 i.rs2) := rfl
  have HT := Lib.hid ht; clear ht hop
  unfold hartV instV ansV
  go_enter Tryz.func56, Tryz.ntmps56
  go_wp2
  go_quiet (fail)
  clear k1 k2 j0 j2 j3 b1 b2
  obtain ⟨W, hW, q0, q1, q2, c0, c1, c2, c3, c4, b⟩ := vcells w h i tv tok nq
  rw [← hW]
  have B := Lib.hid b; clear b hW q0 q1 q2
  go_wp2
  go_quiet (first
    | (go_at_call 63; exact Calls.quiet_of_same ((rwidth_15 _).mono fun _ _ h => ⟨h.1, h.2.symm⟩))
    | (go_at_call 64; exact Calls.quiet_of_same ((rlow_2 _ HT.out _).mono fun _ _ h => ⟨h.1, h.2.symm⟩)))
  go_wp2
  go_ret2
  exact ⟨rfl, B.out.trans ⟨rfl, rfl, rfl, Nat.le_refl _, fun _ _ => rfl⟩⟩
end Go.Proofs.YtianojbdabeoeaaGreatDoor
end

section
namespace Go.Proofs.YtianojbdabeoeaaGreatDoor
open Go.RowKit Ht
set_option linter.unusedVariables false
set_option maxRecDepth 100000 in
set_option maxHeartbeats 2000000 in
theorem rval_16 (h : H) (i : I) (hop : i.op = 16) (tv : Int) (tok : Bool) (ht : Ar.Wd tv) (K : HIOk h i) (w : World) :
    Calls Tryz.prog 56 #[hartV h, instV i, ansV tv tok] w fun e w' => e = .returned (.tuple #[.int .u32 (val 16 h.pc h.id (h.R i.rs1) (h.R i.rs2) i.imm tv tok), .bool (has 16)]) ∧ Below w.heap.size w w' := by
  have k1 := hc h i.rs1 K.rs1
  have k2 := hc h i.rs2 K.rs2
  have b1 : (i.rs1 : Int) < 32 := by have := K.rs1; omega
  have b2 : (i.rs2 : Int) < 32 := by have := K.rs2; omega
  have j0 : (icells i)[0]? = some (.int .i64 16) := by rw [← show ((i.op : Nat) : Int) = 16 by rw [hop]; rfl]; rfl
  have j2 : (icells i)[2]? = some (.int .i64 i.rs1) := rfl
  have j3 : (icells i)[3]? = some (.int .i64 i.rs2) := rfl
  have HT := Lib.hid ht; clear ht hop
  unfold hartV instV ansV
  go_enter Tryz.func56, Tryz.ntmps56
  go_wp2
  go_quiet (fail)
  clear k1 k2 j0 j2 j3 b1 b2
  obtain ⟨W, hW, q0, q1, q2, c0, c1, c2, c3, c4, b⟩ := vcells w h i tv tok nq
  rw [← hW]
  have B := Lib.hid b; clear b hW q0 q1 q2
  go_wp2
  go_ret2
  exact ⟨rfl, B.out⟩
set_option maxRecDepth 100000 in
set_option maxHeartbeats 2000000 in
theorem rval_17 (h : H) (i : I) (hop : i.op = 17) (tv : Int) (tok : Bool) (ht : Ar.Wd tv) (K : HIOk h i) (w : World) :
    Calls Tryz.prog 56 #[hartV h, instV i, ansV tv tok] w fun e w' => e = .returned (.tuple #[.int .u32 (val 17 h.pc h.id (h.R i.rs1) (h.R i.rs2) i.imm tv tok), .bool (has 17)]) ∧ Below w.heap.size w w' := by
  have k1 := hc h i.rs1 K.rs1
  have k2 := hc h i.rs2 K.rs2
  have b1 : (i.rs1 : Int) < 32 := by have := K.rs1; omega
  have b2 : (i.rs2 : Int) < 32 := by have := K.rs2; omega
  have j0 : (icells i)[0]? = some (.int .i64 17) := by rw [← show ((i.op : Nat) : Int) = 17 by rw [hop]; rfl]; rfl
  have j2 : (icells i)[2]? = some (.int .i64 i.rs1) := rfl
  have j3 : (icells i)[3]? = some (.int .i64 i.rs2) := rfl
  have HT := Lib.hid ht; clear ht hop
  unfold hartV instV ansV
  go_enter Tryz.func56, Tryz.ntmps56
  go_wp2
  go_quiet (fail)
  clear k1 k2 j0 j2 j3 b1 b2
  obtain ⟨W, hW, q0, q1, q2, c0, c1, c2, c3, c4, b⟩ := vcells w h i tv tok nq
  rw [← hW]
  have B := Lib.hid b; clear b hW q0 q1 q2
  go_wp2
  go_ret2
  exact ⟨rfl, B.out⟩
set_option maxRecDepth 100000 in
set_option maxHeartbeats 2000000 in
theorem rval_18 (h : H) (i : I) (hop : i.op = 18) (tv : Int) (tok : Bool) (ht : Ar.Wd tv) (K : HIOk h i) (w : World) :
    Calls Tryz.prog 56 #[hartV h, instV i, ansV tv tok] w fun e w' => e = .returned (.tuple #[.int .u32 (val 18 h.pc h.id (h.R i.rs1) (h.R i.rs2) i.imm tv tok), .bool (has 18)]) ∧ Below w.heap.size w w' := by
  have k1 := hc h i.rs1 K.rs1
  have k2 := hc h i.rs2 K.rs2
  have b1 : (i.rs1 : Int) < 32 := by have := K.rs1; omega
  have b2 : (i.rs2 : Int) < 32 := by have := K.rs2; omega
  have j0 : (icells i)[0]? = some (.int .i64 18) := by rw [← show ((i.op : Nat) : Int) = 18 by rw [hop]; rfl]; rfl
  have j2 : (icells i)[2]? = some (.int .i64 i.rs1) := rfl
  have j3 : (icells i)[3]? = some (.int .i64 i.rs2) := rfl
  have HT := Lib.hid ht; clear ht hop
  unfold hartV instV ansV
  go_enter Tryz.func56, Tryz.ntmps56
  go_wp2
  go_quiet (fail)
  clear k1 k2 j0 j2 j3 b1 b2
  obtain ⟨W, hW, q0, q1, q2, c0, c1, c2, c3, c4, b⟩ := vcells w h i tv tok nq
  rw [← hW]
  have B := Lib.hid b; clear b hW q0 q1 q2
  go_wp2
  go_ret2
  exact ⟨rfl, B.out⟩
set_option maxRecDepth 100000 in
set_option maxHeartbeats 2000000 in
theorem rval_19 (h : H) (i : I) (hop : i.op = 19) (tv : Int) (tok : Bool) (ht : Ar.Wd tv) (K : HIOk h i) (w : World) :
    Calls Tryz.prog 56 #[hartV h, instV i, ansV tv tok] w fun e w' => e = .returned (.tuple #[.int .u32 (val 19 h.pc h.id (h.R i.rs1) (h.R i.rs2) i.imm tv tok), .bool (has 19)]) ∧ Below w.heap.size w w' := by
  have k1 := hc h i.rs1 K.rs1
  have k2 := hc h i.rs2 K.rs2
  have b1 : (i.rs1 : Int) < 32 := by have := K.rs1; omega
  have b2 : (i.rs2 : Int) < 32 := by have := K.rs2; omega
  have j0 : (icells i)[0]? = some (.int .i64 19) := by rw [← show ((i.op : Nat) : Int) = 19 by rw [hop]; rfl]; rfl
  have j2 : (icells i)[2]? = some (.int .i64 i.rs1) := rfl
  have j3 : (icells i)[3]? = some (.int .i64 i.rs2) := rfl
  have HT := Lib.hid ht; clear ht hop
  unfold hartV instV ansV
  go_enter Tryz.func56, Tryz.ntmps56
  go_wp2
  go_quiet (fail)
  clear k1 k2 j0 j2 j3 b1 b2
  obtain ⟨W, hW, q0, q1, q2, c0, c1, c2, c3, c4, b⟩ := vcells w h i tv tok nq
  rw [← hW]
  have B := Lib.hid b; clear b hW q0 q1 q2
  go_wp2_with fail
  refine (rtwo_19 _ _ (K.R _) K.imm _).mono ?_
  rintro e w1 ⟨rfl, hb⟩
  have B2 := Lib.hid (B.out.trans (hb.mono B.out.size)); clear hb
  go_wp2
  go_ret2
  exact ⟨rfl, B2.out⟩
set_option maxRecDepth 100000 in
set_option maxHeartbeats 2000000 in
theorem rval_20 (h : H) (i : I) (hop : i.op = 20) (tv : Int) (tok : Bool) (ht : Ar.Wd tv) (K : HIOk h i) (w : World) :
    Calls Tryz.prog 56 #[hartV h, instV i, ansV tv tok] w fun e w' => e = .returned (.tuple #[.int .u32 (val 20 h.pc h.id (h.R i.rs1) (h.R i.rs2) i.imm tv tok), .bool (has 20)]) ∧ Below w.heap.size w w' := by
  have k1 := hc h i.rs1 K.rs1
  have k2 := hc h i.rs2 K.rs2
  have b1 : (i.rs1 : Int) < 32 := by have := K.rs1; omega
  have b2 : (i.rs2 : Int) < 32 := by have := K.rs2; omega
  have j0 : (icells i)[0]? = some (.int .i64 20) := by rw [← show ((i.op : Nat) : Int) = 20 by rw [hop]; rfl]; rfl
  have j2 : (icells i)[2]? = some (.int .i64 i.rs1) := rfl
  have j3 : (icells i)[3]? = some (.int .i64 i.rs2) := rfl
  have HT := Lib.hid ht; clear ht hop
  unfold hartV instV ansV
  go_enter Tryz.func56, Tryz.ntmps56
  go_wp2
  go_quiet (fail)
  clear k1 k2 j0 j2 j3 b1 b2
  obtain ⟨W, hW, q0, q1, q2, c0, c1, c2, c3, c4, b⟩ := vcells w h i tv tok nq
  rw [← hW]
  have B := Lib.hid b; clear b hW q0 q1 q2
  go_wp2_with fail
  refine (rtwo_20 _ _ (K.R _) K.imm _).mono ?_
  rintro e w1 ⟨rfl, hb⟩
  have B2 := Lib.hid (B.out.trans (hb.mono B.out.size)); clear hb
  go_wp2
  go_ret2
  exact ⟨rfl, B2.out⟩
set_option maxRecDepth 100000 in
set_option maxHeartbeats 2000000 in
theorem rval_21 (h : H) (i : I) (hop : i.op = 21) (tv : Int) (tok : Bool) (ht : Ar.Wd tv) (K : HIOk h i) (w : World) :
    Calls Tryz.prog 56 #[hartV h, instV i, ansV tv tok] w fun e w' => e = .returned (.tuple #[.int .u32 (val 21 h.pc h.id (h.R i.rs1) (h.R i.rs2) i.imm tv tok), .bool (has 21)]) ∧ Below w.heap.size w w' := by
  have k1 := hc h i.rs1 K.rs1
  have k2 := hc h i.rs2 K.rs2
  have b1 : (i.rs1 : Int) < 32 := by have := K.rs1; omega
  have b2 : (i.rs2 : Int) < 32 := by have := K.rs2; omega
  have j0 : (icells i)[0]? = some (.int .i64 21) := by rw [← show ((i.op : Nat) : Int) = 21 by rw [hop]; rfl]; rfl
  have j2 : (icells i)[2]? = some (.int .i64 i.rs1) := rfl
  have j3 : (icells i)[3]? = some (.int .i64 i.rs2) := rfl
  have HT := Lib.hid ht; clear ht hop
  unfold hartV instV ansV
  go_enter Tryz.func56, Tryz.ntmps56
  go_wp2
  go_quiet (fail)
  clear k1 k2 j0 j2 j3 b1 b2
  obtain ⟨W, hW, q0, q1, q2, c0, c1, c2, c3, c4, b⟩ := vcells w h i tv tok nq
  rw [← hW]
  have B := Lib.hid b; clear b hW q0 q1 q2
  go_wp2_with fail
  refine (rtwo_21 _ _ (K.R _) K.imm _).mono ?_
  rintro e w1 ⟨rfl, hb⟩
  have B2 := Lib.hid (B.out.trans (hb.mono B.out.size)); clear hb
  go_wp2
  go_ret2
  exact ⟨rfl, B2.out⟩
set_option maxRecDepth 100000 in
set_option maxHeartbeats 2000000 in
theorem rval_22 (h : H) (i : I) (hop : i.op = 22) (tv : Int) (tok : Bool) (ht : Ar.Wd tv) (K : HIOk h i) (w : World) :
    Calls Tryz.prog 56 #[hartV h, instV i, ansV tv tok] w fun e w' => e = .returned (.tuple #[.int .u32 (val 22 h.pc h.id (h.R i.rs1) (h.R i.rs2) i.imm tv tok), .bool (has 22)]) ∧ Below w.heap.size w w' := by
  have k1 := hc h i.rs1 K.rs1
  have k2 := hc h i.rs2 K.rs2
  have b1 : (i.rs1 : Int) < 32 := by have := K.rs1; omega
  have b2 : (i.rs2 : Int) < 32 := by have := K.rs2; omega
  have j0 : (icells i)[0]? = some (.int .i64 22) := by rw [← show ((i.op : Nat) : Int) = 22 by rw [hop]; rfl]; rfl
  have j2 : (icells i)[2]? = some (.int .i64 i.rs1) := rfl
  have j3 : (icells i)[3]? = some (.int .i64 i.rs2) := rfl
  have HT := Lib.hid ht; clear ht hop
  unfold hartV instV ansV
  go_enter Tryz.func56, Tryz.ntmps56
  go_wp2
  go_quiet (fail)
  clear k1 k2 j0 j2 j3 b1 b2
  obtain ⟨W, hW, q0, q1, q2, c0, c1, c2, c3, c4, b⟩ := vcells w h i tv tok nq
  rw [← hW]
  have B := Lib.hid b; clear b hW q0 q1 q2
  go_wp2_with fail
  refine (rtwo_22 _ _ (K.R _) K.imm _).mono ?_
  rintro e w1 ⟨rfl, hb⟩
  have B2 := Lib.hid (B.out.trans (hb.mono B.out.size)); clear hb
  go_wp2
  go_ret2
  exact ⟨rfl, B2.out⟩
set_option maxRecDepth 100000 in
set_option maxHeartbeats 2000000 in
theorem rval_23 (h : H) (i : I) (hop : i.op = 23) (tv : Int) (tok : Bool) (ht : Ar.Wd tv) (K : HIOk h i) (w : World) :
    Calls Tryz.prog 56 #[hartV h, instV i, ansV tv tok] w fun e w' => e = .returned (.tuple #[.int .u32 (val 23 h.pc h.id (h.R i.rs1) (h.R i.rs2) i.imm tv tok), .bool (has 23)]) ∧ Below w.heap.size w w' := by
  have k1 := hc h i.rs1 K.rs1
  have k2 := hc h i.rs2 K.rs2
  have b1 : (i.rs1 : Int) < 32 := by have := K.rs1; omega
  have b2 : (i.rs2 : Int) < 32 := by have := K.rs2; omega
  have j0 : (icells i)[0]? = some (.int .i64 23) := by rw [← show ((i.op : Nat) : Int) = 23 by rw [hop]; rfl]; rfl
  have j2 : (icells i)[2]? = some (.int .i64 i.rs1) := rfl
  have j3 : (icells i)[3]? = some (.int .i64 i.rs2) := rfl
  have HT := Lib.hid ht; clear ht hop
  unfold hartV instV ansV
  go_enter Tryz.func56, Tryz.ntmps56
  go_wp2
  go_quiet (fail)
  clear k1 k2 j0 j2 j3 b1 b2
  obtain ⟨W, hW, q0, q1, q2, c0, c1, c2, c3, c4, b⟩ := vcells w h i tv tok nq
  rw [← hW]
  have B := Lib.hid b; clear b hW q0 q1 q2
  go_wp2_with fail
  refine (rtwo_23 _ _ (K.R _) K.imm _).mono ?_
  rintro e w1 ⟨rfl, hb⟩
  have B2 := Lib.hid (B.out.trans (hb.mono B.out.size)); clear hb
  go_wp2
  go_ret2
  exact ⟨rfl, B2.out⟩
set_option maxRecDepth 100000 in
set_option maxHeartbeats 2000000 in
theorem rval_24 (h : H) (i : I) (hop : i.op = 24) (tv : Int) (tok : Bool) (ht : Ar.Wd tv) (K : HIOk h i) (w : World) :
    Calls Tryz.prog 56 #[hartV h, instV i, ansV tv tok] w fun e w' => e = .returned (.tuple #[.int .u32 (val 24 h.pc h.id (h.R i.rs1) (h.R i.rs2) i.imm tv tok), .bool (has 24)]) ∧ Below w.heap.size w w' := by
  have k1 := hc h i.rs1 K.rs1
  have k2 := hc h i.rs2 K.rs2
  have b1 : (i.rs1 : Int) < 32 := by have := K.rs1; omega
  have b2 : (i.rs2 : Int) < 32 := by have := K.rs2; omega
  have j0 : (icells i)[0]? = some (.int .i64 24) := by rw [← show ((i.op : Nat) : Int) = 24 by rw [hop]; rfl]; rfl
  have j2 : (icells i)[2]? = some (.int .i64 i.rs1) := rfl
  have j3 : (icells i)[3]? = some (.int .i64 i.rs2) := rfl
  have HT := Lib.hid ht; clear ht hop
  unfold hartV instV ansV
  go_enter Tryz.func56, Tryz.ntmps56
  go_wp2
  go_quiet (fail)
  clear k1 k2 j0 j2 j3 b1 b2
  obtain ⟨W, hW, q0, q1, q2, c0, c1, c2, c3, c4, b⟩ := vcells w h i tv tok nq
  rw [← hW]
  have B := Lib.hid b; clear b hW q0 q1 q2
  go_wp2_with fail
  refine (rtwo_24 _ _ (K.R _) K.imm _).mono ?_
  rintro e w1 ⟨rfl, hb⟩
  have B2 := Lib.hid (B.out.trans (hb.mono B.out.size)); clear hb
  go_wp2
  go_ret2
  exact ⟨rfl, B2.out⟩
set_option maxRecDepth 100000 in
set_option maxHeartbeats 2000000 in
theorem rval_25 (h : H) (i : I) (hop : i.op = 25) (tv : Int) (tok : Bool) (ht : Ar.Wd tv) (K : HIOk h i) (w : World) :
    Calls Tryz.prog 56 #[hartV h, instV i, ansV tv tok] w fun e w' => e = .returned (.tuple #[.int .u32 (val 25 h.pc h.id (h.R i.rs1) (h.R i.rs2) i.imm tv tok), .bool (has 25)]) ∧ Below w.heap.size w w' := by
  have k1 := hc h i.rs1 K.rs1
  have k2 := hc h i.rs2 K.rs2
  have b1 : (i.rs1 : Int) < 32 := by have := K.rs1; omega
  have b2 : (i.rs2 : Int) < 32 := by have := K.rs2; omega
  have j0 : (icells i)[0]? = some (.int .i64 25) := by rw [← show ((i.op : Nat) : Int) = 25 by rw [hop]; rfl]; rfl
  have j2 : (icells i)[2]? = some (.int .i64 i.rs1) := rfl
  have j3 : (icells i)[3]? = some (.int .i64 i.rs2) := rfl
  have HT := Lib.hid ht; clear ht hop
  unfold hartV instV ansV
  go_enter Tryz.func56, Tryz.ntmps56
  go_wp2
  go_quiet (fail)
  clear k1 k2 j0 j2 j3 b1 b2
  obtain ⟨W, hW, q0, q1, q2, c0, c1, c2, c3, c4, b⟩ := vcells w h i tv tok nq
  rw [← hW]
  have B := Lib.hid b; clear b hW q0 q1 q2
  go_wp2_with fail
  refine (rtwo_25 _ _ (K.R _) K.imm _).mono ?_
  rintro e w1 ⟨rfl, hb⟩
  have B2 := Lib.hid (B.out.trans (hb.mono B.out.size)); clear hb
  go_wp2
  go_ret2
  exact ⟨rfl, B2.out⟩
set_option maxRecDepth 100000 in
set_option maxHeartbeats 2000000 in
theorem rval_26 (h : H) (i : I) (hop : i.op = 26) (tv : Int) (tok : Bool) (ht : Ar.Wd tv) (K : HIOk h i) (w : World) :
    Calls Tryz.prog 56 #[hartV h, instV i, ansV tv tok] w fun e w' => e = .returned (.tuple #[.int .u32 (val 26 h.pc h.id (h.R i.rs1) (h.R i.rs2) i.imm tv tok), .bool (has 26)]) ∧ Below w.heap.size w w' := by
  have k1 := hc h i.rs1 K.rs1
  have k2 := hc h i.rs2 K.rs2
  have b1 : (i.rs1 : Int) < 32 := by have := K.rs1; omega
  have b2 : (i.rs2 : Int) < 32 := by have := K.rs2; omega
  have j0 : (icells i)[0]? = some (.int .i64 26) := by rw [← show ((i.op : Nat) : Int) = 26 by rw [hop]; rfl]; rfl
  have j2 : (icells i)[2]? = some (.int .i64 i.rs1) := rfl
  have j3 : (icells i)[3]? = some (.int .i64 i.rs2) := rfl
  have HT := Lib.hid ht; clear ht hop
  unfold hartV instV ansV
  go_enter Tryz.func56, Tryz.ntmps56
  go_wp2
  go_quiet (fail)
  clear k1 k2 j0 j2 j3 b1 b2
  obtain ⟨W, hW, q0, q1, q2, c0, c1, c2, c3, c4, b⟩ := vcells w h i tv tok nq
  rw [← hW]
  have B := Lib.hid b; clear b hW q0 q1 q2
  go_wp2_with fail
  refine (rtwo_26 _ _ (K.R _) K.imm _).mono ?_
  rintro e w1 ⟨rfl, hb⟩
  have B2 := Lib.hid (B.out.trans (hb.mono B.out.size)); clear hb
  go_wp2
  go_ret2
  exact ⟨rfl, B2.out⟩
set_option maxRecDepth 100000 in
set_option maxHeartbeats 2000000 in
theorem rval_27 (h : H) (i : I) (hop : i.op = 27) (tv : Int) (tok : Bool) (ht : Ar.Wd tv) (K : HIOk h i) (w : World) :
    Calls Tryz.prog 56 #[hartV h, instV i, ansV tv tok] w fun e w' => e = .returned (.tuple #[.int .u32 (val 27 h.pc h.id (h.R i.rs1) (h.R i.rs2) i.imm tv tok), .bool (has 27)]) ∧ Below w.heap.size w w' := by
  have k1 := hc h i.rs1 K.rs1
  have k2 := hc h i.rs2 K.rs2
  have b1 : (i.rs1 : Int) < 32 := by have := K.rs1; omega
  have b2 : (i.rs2 : Int) < 32 := by have := K.rs2; omega
  have j0 : (icells i)[0]? = some (.int .i64 27) := by rw [← show ((i.op : Nat) : Int) = 27 by rw [hop]; rfl]; rfl
  have j2 : (icells i)[2]? = some (.int .i64 i.rs1) := rfl
  have j3 : (icells i)[3]? = some (.int .i64 i.rs2) := rfl
  have HT := Lib.hid ht; clear ht hop
  unfold hartV instV ansV
  go_enter Tryz.func56, Tryz.ntmps56
  go_wp2
  go_quiet (fail)
  clear k1 k2 j0 j2 j3 b1 b2
  obtain ⟨W, hW, q0, q1, q2, c0, c1, c2, c3, c4, b⟩ := vcells w h i tv tok nq
  rw [← hW]
  have B := Lib.hid b; clear b hW q0 q1 q2
  go_wp2_with fail
  refine (rtwo_27 _ _ (K.R _) K.imm _).mono ?_
  rintro e w1 ⟨rfl, hb⟩
  have B2 := Lib.hid (B.out.trans (hb.mono B.out.size)); clear hb
  go_wp2
  go_ret2
  exact ⟨rfl, B2.out⟩
set_option maxRecDepth 100000 in
set_option maxHeartbeats 2000000 in
theorem rval_28 (h : H) (i : I) (hop : i.op = 28) (tv : Int) (tok : Bool) (ht : Ar.Wd tv) (K : HIOk h i) (w : World) :
    Calls Tryz.prog 56 #[hartV h, instV i, ansV tv tok] w fun e w' => e = .returned (.tuple #[.int .u32 (val 28 h.pc h.id (h.R i.rs1) (h.R i.rs2) i.imm tv tok), .bool (has 28)]) ∧ Below w.heap.size w w' := by
  have k1 := hc h i.rs1 K.rs1
  have k2 := hc h i.rs2 K.rs2
  have b1 : (i.rs1 : Int) < 32 := by have := K.rs1; omega
  have b2 : (i.rs2 : Int) < 32 := by have := K.rs2; omega
  have j0 : (icells i)[0]? = some (.int .i64 28) := by rw [← show ((i.op : Nat) : Int) = 28 by rw [hop]; rfl]; rfl
  have j2 : (icells i)[2]? = some (.int .i64 i.rs1) := rfl
  have j3 : (icells i)[3]? = some (.int .i64 i.rs2) := rfl
  have HT := Lib.hid ht; clear ht hop
  unfold hartV instV ansV
  go_enter Tryz.func56, Tryz.ntmps56
  go_wp2
  go_quiet (fail)
  clear k1 k2 j0 j2 j3 b1 b2
  obtain ⟨W, hW, q0, q1, q2, c0, c1, c2, c3, c4, b⟩ := vcells w h i tv tok nq
  rw [← hW]
  have B := Lib.hid b; clear b hW q0 q1 q2
  go_wp2_with fail
  refine (rtwo_28 _ _ (K.R _) (K.R _) _).mono ?_
  rintro e w1 ⟨rfl, hb⟩
  have B2 := Lib.hid (B.out.trans (hb.mono B.out.size)); clear hb
  go_wp2
  go_ret2
  exact ⟨rfl, B2.out⟩
set_option maxRecDepth 100000 in
set_option maxHeartbeats 2000000 in
theorem rval_29 (h : H) (i : I) (hop : i.op = 29) (tv : Int) (tok : Bool) (ht : Ar.Wd tv) (K : HIOk h i) (w : World) :
    Calls Tryz.prog 56 #[hartV h, instV i, ansV tv tok] w fun e w' => e = .returned (.tuple #[.int .u32 (val 29 h.pc h.id (h.R i.rs1) (h.R i.rs2) i.imm tv tok), .bool (has 29)]) ∧ Below w.heap.size w w' := by
  have k1 := hc h i.rs1 K.rs1
  have k2 := hc h i.rs2 K.rs2
  have b1 : (i.rs1 : Int) < 32 := by have := K.rs1; omega
  have b2 : (i.rs2 : Int) < 32 := by have := K.rs2; omega
  have j0 : (icells i)[0]? = some (.int .i64 29) := by rw [← show ((i.op : Nat) : Int) = 29 by rw [hop]; rfl]; rfl
  have j2 : (icells i)[2]? = some (.int .i64 i.rs1) := rfl
  have j3 : (icells i)[3]? = some (.int .i64 i.rs2) := rfl
  have HT := Lib.hid ht; clear ht hop
  unfold hartV instV ansV
  go_enter Tryz.func56, Tryz.ntmps56
  go_wp2
  go_quiet (fail)
  clear k1 k2 j0 j2 j3 b1 b2
  obtain ⟨W, hW, q0, q1, q2, c0, c1, c2, c3, c4, b⟩ := vcells w h i tv tok nq
  rw [← hW]
  have B := Lib.hid b; clear b hW q0 q1 q2
  go_wp2_with fail
  refine (rtwo_29 _ _ (K.R _) (K.R _) _).mono ?_
  rintro e w1 ⟨rfl, hb⟩
  have B2 := Lib.hid (B.out.trans (hb.mono B.out.size)); clear hb
  go_wp2
  go_ret2
  exact ⟨rfl, B2.out⟩
end Go.Proofs.YtianojbdabeoeaaGreatDoor
end

section
namespace Go.Proofs.YtianojbdabeoeaaGreatDoor
open Go.RowKit Ht
set_option linter.unusedVariables false
set_option maxRecDepth 100000 in
set_option maxHeartbeats 2000000 in
theorem rval_30 (h : H) (i : I) (hop : i.op = 30) (tv : Int) (tok : Bool) (ht : Ar.Wd tv) (K : HIOk h i) (w : World) :
    Calls Tryz.prog 56 #[hartV h, instV i, ansV tv tok] w fun e w' => e = .returned (.tuple #[.int .u32 (val 30 h.pc h.id (h.R i.rs1) (h.R i.rs2) i.imm tv tok), .bool (has 30)]) ∧ Below w.heap.size w w' := by
  have k1 := hc h i.rs1 K.rs1
  have k2 := hc h i.rs2 K.rs2
  have b1 : (i.rs1 : Int) < 32 := by have := K.rs1; omega
  have b2 : (i.rs2 : Int) < 32 := by have := K.rs2; omega
  have j0 : (icells i)[0]? = some (.int .i64 30) := by rw [← show ((i.op : Nat) : Int) = 30 by rw [hop]; rfl]; rfl
  have j2 : (icells i)[2]? = some (.int .i64 i.rs1) := rfl
  have j3 : (icells i)[3]? = some (.int .i64 i.rs2) := rfl
  have HT := Lib.hid ht; clear ht hop
  unfold hartV instV ansV
  go_enter Tryz.func56, Tryz.ntmps56
  go_wp2
  go_quiet (fail)
  clear k1 k2 j0 j2 j3 b1 b2
  obtain ⟨W, hW, q0, q1, q2, c0, c1, c2, c3, c4, b⟩ := vcells w h i tv tok nq
  rw [← hW]
  have B := Lib.hid b; clear b hW q0 q1 q2
  go_wp2_with fail
  refine (rtwo_30 _ _ (K.R _) (K.R _) _).mono ?_
  rintro e w1 ⟨rfl, hb⟩
  have B2 := Lib.hid (B.out.trans (hb.mono B.out.size)); clear hb
  go_wp2
  go_ret2
  exact ⟨rfl, B2.out⟩
set_option maxRecDepth 100000 in
set_option maxHeartbeats 2000000 in
theorem rval_31 (h : H) (i : I) (hop : i.op = 31) (tv : Int) (tok : Bool) (ht : Ar.Wd tv) (K : HIOk h i) (w : World) :
    Calls Tryz.prog 56 #[hartV h, instV i, ansV tv tok] w fun e w' => e = .returned (.tuple #[.int .u32 (val 31 h.pc h.id (h.R i.rs1) (h.R i.rs2) i.imm tv tok), .bool (has 31)]) ∧ Below w.heap.size w w' := by
  have k1 := hc h i.rs1 K.rs1
  have k2 := hc h i.rs2 K.rs2
  have b1 : (i.rs1 : Int) < 32 := by have := K.rs1; omega
  have b2 : (i.rs2 : Int) < 32 := by have := K.rs2; omega
  have j0 : (icells i)[0]? = some (.int .i64 31) := by rw [← show ((i.op : Nat) : Int) = 31 by rw [hop]; rfl]; rfl
  have j2 : (icells i)[2]? = some (.int .i64 i.rs1) := rfl
  have j3 : (icells i)[3]? = some (.int .i64 i.rs2) := rfl
  have HT := Lib.hid ht; clear ht hop
  unfold hartV instV ansV
  go_enter Tryz.func56, Tryz.ntmps56
  go_wp2
  go_quiet (fail)
  clear k1 k2 j0 j2 j3 b1 b2
  obtain ⟨W, hW, q0, q1, q2, c0, c1, c2, c3, c4, b⟩ := vcells w h i tv tok nq
  rw [← hW]
  have B := Lib.hid b; clear b hW q0 q1 q2
  go_wp2_with fail
  refine (rtwo_31 _ _ (K.R _) (K.R _) _).mono ?_
  rintro e w1 ⟨rfl, hb⟩
  have B2 := Lib.hid (B.out.trans (hb.mono B.out.size)); clear hb
  go_wp2
  go_ret2
  exact ⟨rfl, B2.out⟩
set_option maxRecDepth 100000 in
set_option maxHeartbeats 2000000 in
theorem rval_32 (h : H) (i : I) (hop : i.op = 32) (tv : Int) (tok : Bool) (ht : Ar.Wd tv) (K : HIOk h i) (w : World) :
    Calls Tryz.prog 56 #[hartV h, instV i, ansV tv tok] w fun e w' => e = .returned (.tuple #[.int .u32 (val 32 h.pc h.id (h.R i.rs1) (h.R i.rs2) i.imm tv tok), .bool (has 32)]) ∧ Below w.heap.size w w' := by
  have k1 := hc h i.rs1 K.rs1
  have k2 := hc h i.rs2 K.rs2
  have b1 : (i.rs1 : Int) < 32 := by have := K.rs1; omega
  have b2 : (i.rs2 : Int) < 32 := by have := K.rs2; omega
  have j0 : (icells i)[0]? = some (.int .i64 32) := by rw [← show ((i.op : Nat) : Int) = 32 by rw [hop]; rfl]; rfl
  have j2 : (icells i)[2]? = some (.int .i64 i.rs1) := rfl
  have j3 : (icells i)[3]? = some (.int .i64 i.rs2) := rfl
  have HT := Lib.hid ht; clear ht hop
  unfold hartV instV ansV
  go_enter Tryz.func56, Tryz.ntmps56
  go_wp2
  go_quiet (fail)
  clear k1 k2 j0 j2 j3 b1 b2
  obtain ⟨W, hW, q0, q1, q2, c0, c1, c2, c3, c4, b⟩ := vcells w h i tv tok nq
  rw [← hW]
  have B := Lib.hid b; clear b hW q0 q1 q2
  go_wp2_with fail
  refine (rtwo_32 _ _ (K.R _) (K.R _) _).mono ?_
  rintro e w1 ⟨rfl, hb⟩
  have B2 := Lib.hid (B.out.trans (hb.mono B.out.size)); clear hb
  go_wp2
  go_ret2
  exact ⟨rfl, B2.out⟩
set_option maxRecDepth 100000 in
set_option maxHeartbeats 2000000 in
theorem rval_33 (h : H) (i : I) (hop : i.op = 33) (tv : Int) (tok : Bool) (ht : Ar.Wd tv) (K : HIOk h i) (w : World) :
    Calls Tryz.prog 56 #[hartV h, instV i, ansV tv tok] w fun e w' => e = .returned (.tuple #[.int .u32 (val 33 h.pc h.id (h.R i.rs1) (h.R i.rs2) i.imm tv tok), .bool (has 33)]) ∧ Below w.heap.size w w' := by
  have k1 := hc h i.rs1 K.rs1
  have k2 := hc h i.rs2 K.rs2
  have b1 : (i.rs1 : Int) < 32 := by have := K.rs1; omega
  have b2 : (i.rs2 : Int) < 32 := by have := K.rs2; omega
  have j0 : (icells i)[0]? = some (.int .i64 33) := by rw [← show ((i.op : Nat) : Int) = 33 by rw [hop]; rfl]; rfl
  have j2 : (icells i)[2]? = some (.int .i64 i.rs1) := rfl
  have j3 : (icells i)[3]? = some (.int .i64 i.rs2) := rfl
  have HT := Lib.hid ht; clear ht hop
  unfold hartV instV ansV
  go_enter Tryz.func56, Tryz.ntmps56
  go_wp2
  go_quiet (fail)
  clear k1 k2 j0 j2 j3 b1 b2
  obtain ⟨W, hW, q0, q1, q2, c0, c1, c2, c3, c4, b⟩ := vcells w h i tv tok nq
  rw [← hW]
  have B := Lib.hid b; clear b hW q0 q1 q2
  go_wp2_with fail
  refine (rtwo_33 _ _ (K.R _) (K.R _) _).mono ?_
  rintro e w1 ⟨rfl, hb⟩
  have B2 := Lib.hid (B.out.trans (hb.mono B.out.size)); clear hb
  go_wp2
  go_ret2
  exact ⟨rfl, B2.out⟩
set_option maxRecDepth 100000 in
set_option maxHeartbeats 2000000 in
theorem rval_34 (h : H) (i : I) (hop : i.op = 34) (tv : Int) (tok : Bool) (ht : Ar.Wd tv) (K : HIOk h i) (w : World) :
    Calls Tryz.prog 56 #[hartV h, instV i, ansV tv tok] w fun e w' => e = .returned (.tuple #[.int .u32 (val 34 h.pc h.id (h.R i.rs1) (h.R i.rs2) i.imm tv tok), .bool (has 34)]) ∧ Below w.heap.size w w' := by
  have k1 := hc h i.rs1 K.rs1
  have k2 := hc h i.rs2 K.rs2
  have b1 : (i.rs1 : Int) < 32 := by have := K.rs1; omega
  have b2 : (i.rs2 : Int) < 32 := by have := K.rs2; omega
  have j0 : (icells i)[0]? = some (.int .i64 34) := by rw [← show ((i.op : Nat) : Int) = 34 by rw [hop]; rfl]; rfl
  have j2 : (icells i)[2]? = some (.int .i64 i.rs1) := rfl
  have j3 : (icells i)[3]? = some (.int .i64 i.rs2) := rfl
  have HT := Lib.hid ht; clear ht hop
  unfold hartV instV ansV
  go_enter Tryz.func56, Tryz.ntmps56
  go_wp2
  go_quiet (fail)
  clear k1 k2 j0 j2 j3 b1 b2
  obtain ⟨W, hW, q0, q1, q2, c0, c1, c2, c3, c4, b⟩ := vcells w h i tv tok nq
  rw [← hW]
  have B := Lib.hid b; clear b hW q0 q1 q2
  go_wp2_with fail
  refine (rtwo_34 _ _ (K.R _) (K.R _) _).mono ?_
  rintro e w1 ⟨rfl, hb⟩
  have B2 := Lib.hid (B.out.trans (hb.mono B.out.size)); clear hb
  go_wp2
  go_ret2
  exact ⟨rfl, B2.out⟩
set_option maxRecDepth 100000 in
set_option maxHeartbeats 2000000 in
theorem rval_35 (h : H) (i : I) (hop : i.op = 35) (tv : Int) (tok : Bool) (ht : Ar.Wd tv) (K : HIOk h i) (w : World) :
    Calls Tryz.prog 56 #[hartV h, instV i, ansV tv tok] w fun e w' => e = .returned (.tuple #[.int .u32 (val 35 h.pc h.id (h.R i.rs1) (h.R i.rs2) i.imm tv tok), .bool (has 35)]) ∧ Below w.heap.size w w' := by
  have k1 := hc h i.rs1 K.rs1
  have k2 := hc h i.rs2 K.rs2
  have b1 : (i.rs1 : Int) < 32 := by have := K.rs1; omega
  have b2 : (i.rs2 : Int) < 32 := by have := K.rs2; omega
  have j0 : (icells i)[0]? = some (.int .i64 35) := by rw [← show ((i.op : Nat) : Int) = 35 by rw [hop]; rfl]; rfl
  have j2 : (icells i)[2]? = some (.int .i64 i.rs1) := rfl
  have j3 : (icells i)[3]? = some (.int .i64 i.rs2) := rfl
  have HT := Lib.hid ht; clear ht hop
  unfold hartV instV ansV
  go_enter Tryz.func56, Tryz.ntmps56
  go_wp2
  go_quiet (fail)
  clear k1 k2 j0 j2 j3 b1 b2
  obtain ⟨W, hW, q0, q1, q2, c0, c1, c2, c3, c4, b⟩ := vcells w h i tv tok nq
  rw [← hW]
  have B := Lib.hid b; clear b hW q0 q1 q2
  go_wp2_with fail
  refine (rtwo_35 _ _ (K.R _) (K.R _) _).mono ?_
  rintro e w1 ⟨rfl, hb⟩
  have B2 := Lib.hid (B.out.trans (hb.mono B.out.size)); clear hb
  go_wp2
  go_ret2
  exact ⟨rfl, B2.out⟩
set_option maxRecDepth 100000 in
set_option maxHeartbeats 2000000 in
theorem rval_36 (h : H) (i : I) (hop : i.op = 36) (tv : Int) (tok : Bool) (ht : Ar.Wd tv) (K : HIOk h i) (w : World) :
    Calls Tryz.prog 56 #[hartV h, instV i, ansV tv tok] w fun e w' => e = .returned (.tuple #[.int .u32 (val 36 h.pc h.id (h.R i.rs1) (h.R i.rs2) i.imm tv tok), .bool (has 36)]) ∧ Below w.heap.size w w' := by
  have k1 := hc h i.rs1 K.rs1
  have k2 := hc h i.rs2 K.rs2
  have b1 : (i.rs1 : Int) < 32 := by have := K.rs1; omega
  have b2 : (i.rs2 : Int) < 32 := by have := K.rs2; omega
  have j0 : (icells i)[0]? = some (.int .i64 36) := by rw [← show ((i.op : Nat) : Int) = 36 by rw [hop]; rfl]; rfl
  have j2 : (icells i)[2]? = some (.int .i64 i.rs1) := rfl
  have j3 : (icells i)[3]? = some (.int .i64 i.rs2) := rfl
  have HT := Lib.hid ht; clear ht hop
  unfold hartV instV ansV
  go_enter Tryz.func56, Tryz.ntmps56
  go_wp2
  go_quiet (fail)
  clear k1 k2 j0 j2 j3 b1 b2
  obtain ⟨W, hW, q0, q1, q2, c0, c1, c2, c3, c4, b⟩ := vcells w h i tv tok nq
  rw [← hW]
  have B := Lib.hid b; clear b hW q0 q1 q2
  go_wp2_with fail
  refine (rtwo_36 _ _ (K.R _) (K.R _) _).mono ?_
  rintro e w1 ⟨rfl, hb⟩
  have B2 := Lib.hid (B.out.trans (hb.mono B.out.size)); clear hb
  go_wp2
  go_ret2
  exact ⟨rfl, B2.out⟩
set_option maxRecDepth 100000 in
set_option maxHeartbeats 2000000 in
theorem rval_37 (h : H) (i : I) (hop : i.op = 37) (tv : Int) (tok : Bool) (ht : Ar.Wd tv) (K : HIOk h i) (w : World) :
    Calls Tryz.prog 56 #[hartV h, instV i, ansV tv tok] w fun e w' => e = .returned (.tuple #[.int .u32 (val 37 h.pc h.id (h.R i.rs1) (h.R i.rs2) i.imm tv tok), .bool (has 37)]) ∧ Below w.heap.size w w' := by
  have k1 := hc h i.rs1 K.rs1
  have k2 := hc h i.rs2 K.rs2
  have b1 : (i.rs1 : Int) < 32 := by have := K.rs1; omega
  have b2 : (i.rs2 : Int) < 32 := by have := K.rs2; omega
  have j0 : (icells i)[0]? = some (.int .i64 37) := by rw [← show ((i.op : Nat) : Int) = 37 by rw [hop]; rfl]; rfl
  have j2 : (icells i)[2]? = some (.int .i64 i.rs1) := rfl
  have j3 : (icells i)[3]? = some (.int .i64 i.rs2) := rfl
  have HT := Lib.hid ht; clear ht hop
  unfold hartV instV ansV
  go_enter Tryz.func56, Tryz.ntmps56
  go_wp2
  go_quiet (fail)
  clear k1 k2 j0 j2 j3 b1 b2
  obtain ⟨W, hW, q0, q1, q2, c0, c1, c2, c3, c4, b⟩ := vcells w h i tv tok nq
  rw [← hW]
  have B := Lib.hid b; clear b hW q0 q1 q2
  go_wp2_with fail
  refine (rtwo_37 _ _ (K.R _) (K.R _) _).mono ?_
  rintro e w1 ⟨rfl, hb⟩
  have B2 := Lib.hid (B.out.trans (hb.mono B.out.size)); clear hb
  go_wp2
  go_ret2
  exact ⟨rfl, B2.out⟩
set_option maxRecDepth 100000 in
set_option maxHeartbeats 2000000 in
theorem rval_38 (h : H) (i : I) (hop : i.op = 38) (tv : Int) (tok : Bool) (ht : Ar.Wd tv) (K : HIOk h i) (w : World) :
    Calls Tryz.prog 56 #[hartV h, instV i, ansV tv tok] w fun e w' => e = .returned (.tuple #[.int .u32 (val 38 h.pc h.id (h.R i.rs1) (h.R i.rs2) i.imm tv tok), .bool (has 38)]) ∧ Below w.heap.size w w' := by
  have k1 := hc h i.rs1 K.rs1
  have k2 := hc h i.rs2 K.rs2
  have b1 : (i.rs1 : Int) < 32 := by have := K.rs1; omega
  have b2 : (i.rs2 : Int) < 32 := by have := K.rs2; omega
  have j0 : (icells i)[0]? = some (.int .i64 38) := by rw [← show ((i.op : Nat) : Int) = 38 by rw [hop]; rfl]; rfl
  have j2 : (icells i)[2]? = some (.int .i64 i.rs1) := rfl
  have j3 : (icells i)[3]? = some (.int .i64 i.rs2) := rfl
  have HT := Lib.hid ht; clear ht hop
  unfold hartV instV ansV
  go_enter Tryz.func56, Tryz.ntmps56
  go_wp2
  go_quiet (fail)
  clear k1 k2 j0 j2 j3 b1 b2
  obtain ⟨W, hW, q0, q1, q2, c0, c1, c2, c3, c4, b⟩ := vcells w h i tv tok nq
  rw [← hW]
  have B := Lib.hid b; clear b hW q0 q1 q2
  go_wp2
  go_ret2
  exact ⟨rfl, B.out⟩
set_option maxRecDepth 100000 in
set_option maxHeartbeats 2000000 in
theorem rval_39 (h : H) (i : I) (hop : i.op = 39) (tv : Int) (tok : Bool) (ht : Ar.Wd tv) (K : HIOk h i) (w : World) :
    Calls Tryz.prog 56 #[hartV h, instV i, ansV tv tok] w fun e w' => e = .returned (.tuple #[.int .u32 (val 39 h.pc h.id (h.R i.rs1) (h.R i.rs2) i.imm tv tok), .bool (has 39)]) ∧ Below w.heap.size w w' := by
  have k1 := hc h i.rs1 K.rs1
  have k2 := hc h i.rs2 K.rs2
  have b1 : (i.rs1 : Int) < 32 := by have := K.rs1; omega
  have b2 : (i.rs2 : Int) < 32 := by have := K.rs2; omega
  have j0 : (icells i)[0]? = some (.int .i64 39) := by rw [← show ((i.op : Nat) : Int) = 39 by rw [hop]; rfl]; rfl
  have j2 : (icells i)[2]? = some (.int .i64 i.rs1) := rfl
  have j3 : (icells i)[3]? = some (.int .i64 i.rs2) := rfl
  have HT := Lib.hid ht; clear ht hop
  unfold hartV instV ansV
  go_enter Tryz.func56, Tryz.ntmps56
  go_wp2
  go_quiet (fail)
  clear k1 k2 j0 j2 j3 b1 b2
  obtain ⟨W, hW, q0, q1, q2, c0, c1, c2, c3, c4, b⟩ := vcells w h i tv tok nq
  rw [← hW]
  have B := Lib.hid b; clear b hW q0 q1 q2
  go_wp2
  go_ret2
  exact ⟨rfl, B.out⟩
set_option maxRecDepth 100000 in
set_option maxHeartbeats 2000000 in
theorem rval_40 (h : H) (i : I) (hop : i.op = 40) (tv : Int) (tok : Bool) (ht : Ar.Wd tv) (K : HIOk h i) (w : World) :
    Calls Tryz.prog 56 #[hartV h, instV i, ansV tv tok] w fun e w' => e = .returned (.tuple #[.int .u32 (val 40 h.pc h.id (h.R i.rs1) (h.R i.rs2) i.imm tv tok), .bool (has 40)]) ∧ Below w.heap.size w w' := by
  have k1 := hc h i.rs1 K.rs1
  have k2 := hc h i.rs2 K.rs2
  have b1 : (i.rs1 : Int) < 32 := by have := K.rs1; omega
  have b2 : (i.rs2 : Int) < 32 := by have := K.rs2; omega
  have j0 : (icells i)[0]? = some (.int .i64 40) := by rw [← show ((i.op : Nat) : Int) = 40 by rw [hop]; rfl]; rfl
  have j2 : (icells i)[2]? = some (.int .i64 i.rs1) := rfl
  have j3 : (icells i)[3]? = some (.int .i64 i.rs2) := rfl
  have HT := Lib.hid ht; clear ht hop
  unfold hartV instV ansV
  go_enter Tryz.func56, Tryz.ntmps56
  go_wp2
  go_quiet (fail)
  clear k1 k2 j0 j2 j3 b1 b2
  obtain ⟨W, hW, q0, q1, q2, c0, c1, c2, c3, c4, b⟩ := vcells w h i tv tok nq
  rw [← hW]
  have B := Lib.hid b; clear b hW q0 q1 q2
  go_wp2_with fail
  refine (rtwo_40 _ _ (K.R _) (K.R _) _).mono ?_
  rintro e w1 ⟨rfl, hb⟩
  have B2 := Lib.hid (B.out.trans (hb.mono B.out.size)); clear hb
  go_wp2
  go_ret2
  exact ⟨rfl, B2.out⟩
set_option maxRecDepth 100000 in
set_option maxHeartbeats 2000000 in
theorem rval_41 (h : H) (i : I) (hop : i.op = 41) (tv : Int) (tok : Bool) (ht : Ar.Wd tv) (K : HIOk h i) (w : World) :
    Calls Tryz.prog 56 #[hartV h, instV i, ansV tv tok] w fun e w' => e = .returned (.tuple #[.int .u32 (val 41 h.pc h.id (h.R i.rs1) (h.R i.rs2) i.imm tv tok), .bool (has 41)]) ∧ Below w.heap.size w w' := by
  have k1 := hc h i.rs1 K.rs1
  have k2 := hc h i.rs2 K.rs2
  have b1 : (i.rs1 : Int) < 32 := by have := K.rs1; omega
  have b2 : (i.rs2 : Int) < 32 := by have := K.rs2; omega
  have j0 : (icells i)[0]? = some (.int .i64 41) := by rw [← show ((i.op : Nat) : Int) = 41 by rw [hop]; rfl]; rfl
  have j2 : (icells i)[2]? = some (.int .i64 i.rs1) := rfl
  have j3 : (icells i)[3]? = some (.int .i64 i.rs2) := rfl
  have HT := Lib.hid ht; clear ht hop
  unfold hartV instV ansV
  go_enter Tryz.func56, Tryz.ntmps56
  go_wp2
  go_quiet (fail)
  clear k1 k2 j0 j2 j3 b1 b2
  obtain ⟨W, hW, q0, q1, q2, c0, c1, c2, c3, c4, b⟩ := vcells w h i tv tok nq
  rw [← hW]
  have B := Lib.hid b; clear b hW q0 q1 q2
  go_wp2_with fail
  refine (rtwo_41 _ _ (K.R _) (K.R _) _).mono ?_
  rintro e w1 ⟨rfl, hb⟩
  have B2 := Lib.hid (B.out.trans (hb.mono B.out.size)); clear hb
  go_wp2
  go_ret2
  exact ⟨rfl, B2.out⟩
set_option maxRecDepth 100000 in
set_option maxHeartbeats 2000000 in
theorem rval_42 (h : H) (i : I) (hop : i.op = 42) (tv : Int) (tok : Bool) (ht : Ar.Wd tv) (K : HIOk h i) (w : World) :
    Calls Tryz.prog 56 #[hartV h, instV i, ansV tv tok] w fun e w' => e = .returned (.tuple #[.int .u32 (val 42 h.pc h.id (h.R i.rs1) (h.R i.rs2) i.imm tv tok), .bool (has 42)]) ∧ Below w.heap.size w w' := by
  have k1 := hc h i.rs1 K.rs1
  have k2 := hc h i.rs2 K.rs2
  have b1 : (i.rs1 : Int) < 32 := by have := K.rs1; omega
  have b2 : (i.rs2 : Int) < 32 := by have := K.rs2; omega
  have j0 : (icells i)[0]? = some (.int .i64 42) := by rw [← show ((i.op : Nat) : Int) = 42 by rw [hop]; rfl]; rfl
  have j2 : (icells i)[2]? = some (.int .i64 i.rs1) := rfl
  have j3 : (icells i)[3]? = some (.int .i64 i.rs2) := rfl
  have HT := Lib.hid ht; clear ht hop
  unfold hartV instV ansV
  go_enter Tryz.func56, Tryz.ntmps56
  go_wp2
  go_quiet (fail)
  clear k1 k2 j0 j2 j3 b1 b2
  obtain ⟨W, hW, q0, q1, q2, c0, c1, c2, c3, c4, b⟩ := vcells w h i tv tok nq
  rw [← hW]
  have B := Lib.hid b; clear b hW q0 q1 q2
  go_wp2_with fail
  refine (rtwo_42 _ _ (K.R _) (K.R _) _).mono ?_
  rintro e w1 ⟨rfl, hb⟩
  have B2 := Lib.hid (B.out.trans (hb.mono B.out.size)); clear hb
  go_wp2
  go_ret2
  exact ⟨rfl, B2.out⟩
set_option maxRecDepth 100000 in
set_option maxHeartbeats 2000000 in
theorem rval_43 (h : H) (i : I) (hop : i.op = 43) (tv : Int) (tok : Bool) (ht : Ar.Wd tv) (K : HIOk h i) (w : World) :
    Calls Tryz.prog 56 #[hartV h, instV i, ansV tv tok] w fun e w' => e = .returned (.tuple #[.int .u32 (val 43 h.pc h.id (h.R i.rs1) (h.R i.rs2) i.imm tv tok), .bool (has 43)]) ∧ Below w.heap.size w w' := by
  have k1 := hc h i.rs1 K.rs1
  have k2 := hc h i.rs2 K.rs2
  have b1 : (i.rs1 : Int) < 32 := by have := K.rs1; omega
  have b2 : (i.rs2 : Int) < 32 := by have := K.rs2; omega
  have j0 : (icells i)[0]? = some (.int .i64 43) := by rw [← show ((i.op : Nat) : Int) = 43 by rw [hop]; rfl]; rfl
  have j2 : (icells i)[2]? = some (.int .i64 i.rs1) := rfl
  have j3 : (icells i)[3]? = some (.int .i64 i.rs2) := rfl
  have HT := Lib.hid ht; clear ht hop
  unfold hartV instV ansV
  go_enter Tryz.func56, Tryz.ntmps56
  go_wp2
  go_quiet (fail)
  clear k1 k2 j0 j2 j3 b1 b2
  obtain ⟨W, hW, q0, q1, q2, c0, c1, c2, c3, c4, b⟩ := vcells w h i tv tok nq
  rw [← hW]
  have B := Lib.hid b; clear b hW q0 q1 q2
  go_wp2_with fail
  refine (rtwo_43 _ _ (K.R _) (K.R _) _).mono ?_
  rintro e w1 ⟨rfl, hb⟩
  have B2 := Lib.hid (B.out.trans (hb.mono B.out.size)); clear hb
  go_wp2
  go_ret2
  exact ⟨rfl, B2.out⟩
set_option maxRecDepth 100000 in
set_option maxHeartbeats 2000000 in
theorem rval_44 (h : H) (i : I) (hop : i.op = 44) (tv : Int) (tok : Bool) (ht : Ar.Wd tv) (K : HIOk h i) (w : World) :
    Calls Tryz.prog 56 #[hartV h, instV i, ansV tv tok] w fun e w' => e = .returned (.tuple #[.int .u32 (val 44 h.pc h.id (h.R i.rs1) (h.R i.rs2) i.imm tv tok), .bool (has 44)]) ∧ Below w.heap.size w w' := by
  have k1 := hc h i.rs1 K.rs1
  have k2 := hc h i.rs2 K.rs2
  have b1 : (i.rs1 : Int) < 32 := by have := K.rs1; omega
  have b2 : (i.rs2 : Int) < 32 := by have := K.rs2; omega
  have j0 : (icells i)[0]? = some (.int .i64 44) := by rw [← show ((i.op : Nat) : Int) = 44 by rw [hop]; rfl]; rfl
  have j2 : (icells i)[2]? = some (.int .i64 i.rs1) := rfl
  have j3 : (icells i)[3]? = some (.int .i64 i.rs2) := rfl
  have HT := Lib.hid ht; clear ht hop
  unfold hartV instV ansV
  go_enter Tryz.func56, Tryz.ntmps56
  go_wp2
  go_quiet (fail)
  clear k1 k2 j0 j2 j3 b1 b2
  obtain ⟨W, hW, q0, q1, q2, c0, c1, c2, c3, c4, b⟩ := vcells w h i tv tok nq
  rw [← hW]
  have B := Lib.hid b; clear b hW q0 q1 q2
  go_wp2_with fail
  refine (rtwo_44 _ _ (K.R _) (K.R _) _).mono ?_
  rintro e w1 ⟨rfl, hb⟩
  have B2 := Lib.hid (B.out.trans (hb.mono B.out.size)); clear hb
  go_wp2
  go_ret2
  exact ⟨rfl, B2.out⟩
end Go.Proofs.YtianojbdabeoeaaGreatDoor
end

section
namespace Go.Proofs.YtianojbdabeoeaaGreatDoor
open Go.RowKit Ht
set_option linter.unusedVariables false
set_option maxRecDepth 100000 in
set_option maxHeartbeats 2000000 in
theorem rval_45 (h : H) (i : I) (hop : i.op = 45) (tv : Int) (tok : Bool) (ht : Ar.Wd tv) (K : HIOk h i) (w : World) :
    Calls Tryz.prog 56 #[hartV h, instV i, ansV tv tok] w fun e w' => e = .returned (.tuple #[.int .u32 (val 45 h.pc h.id (h.R i.rs1) (h.R i.rs2) i.imm tv tok), .bool (has 45)]) ∧ Below w.heap.size w w' := by
  have k1 := hc h i.rs1 K.rs1
  have k2 := hc h i.rs2 K.rs2
  have b1 : (i.rs1 : Int) < 32 := by have := K.rs1; omega
  have b2 : (i.rs2 : Int) < 32 := by have := K.rs2; omega
  have j0 : (icells i)[0]? = some (.int .i64 45) := by rw [← show ((i.op : Nat) : Int) = 45 by rw [hop]; rfl]; rfl
  have j2 : (icells i)[2]? = some (.int .i64 i.rs1) := rfl
  have j3 : (icells i)[3]? = some (.int .i64 i.rs2) := rfl
  have HT := Lib.hid ht; clear ht hop
  unfold hartV instV ansV
  go_enter Tryz.func56, Tryz.ntmps56
  go_wp2
  go_quiet (fail)
  clear k1 k2 j0 j2 j3 b1 b2
  obtain ⟨W, hW, q0, q1, q2, c0, c1, c2, c3, c4, b⟩ := vcells w h i tv tok nq
  rw [← hW]
  have B := Lib.hid b; clear b hW q0 q1 q2
  go_wp2_with fail
  refine (rtwo_45 _ _ (K.R _) (K.R _) _).mono ?_
  rintro e w1 ⟨rfl, hb⟩
  have B2 := Lib.hid (B.out.trans (hb.mono B.out.size)); clear hb
  go_wp2
  go_ret2
  exact ⟨rfl, B2.out⟩
set_option maxRecDepth 100000 in
set_option maxHeartbeats 2000000 in
theorem rval_46 (h : H) (i : I) (hop : i.op = 46) (tv : Int) (tok : Bool) (ht : Ar.Wd tv) (K : HIOk h i) (w : World) :
    Calls Tryz.prog 56 #[hartV h, instV i, ansV tv tok] w fun e w' => e = .returned (.tuple #[.int .u32 (val 46 h.pc h.id (h.R i.rs1) (h.R i.rs2) i.imm tv tok), .bool (has 46)]) ∧ Below w.heap.size w w' := by
  have k1 := hc h i.rs1 K.rs1
  have k2 := hc h i.rs2 K.rs2
  have b1 : (i.rs1 : Int) < 32 := by have := K.rs1; omega
  have b2 : (i.rs2 : Int) < 32 := by have := K.rs2; omega
  have j0 : (icells i)[0]? = some (.int .i64 46) := by rw [← show ((i.op : Nat) : Int) = 46 by rw [hop]; rfl]; rfl
  have j2 : (icells i)[2]? = some (.int .i64 i.rs1) := rfl
  have j3 : (icells i)[3]? = some (.int .i64 i.rs2) := rfl
  have HT := Lib.hid ht; clear ht hop
  unfold hartV instV ansV
  go_enter Tryz.func56, Tryz.ntmps56
  go_wp2
  go_quiet (fail)
  clear k1 k2 j0 j2 j3 b1 b2
  obtain ⟨W, hW, q0, q1, q2, c0, c1, c2, c3, c4, b⟩ := vcells w h i tv tok nq
  rw [← hW]
  have B := Lib.hid b; clear b hW q0 q1 q2
  go_wp2_with fail
  refine (rtwo_46 _ _ (K.R _) (K.R _) _).mono ?_
  rintro e w1 ⟨rfl, hb⟩
  have B2 := Lib.hid (B.out.trans (hb.mono B.out.size)); clear hb
  go_wp2
  go_ret2
  exact ⟨rfl, B2.out⟩
set_option maxRecDepth 100000 in
set_option maxHeartbeats 2000000 in
theorem rval_47 (h : H) (i : I) (hop : i.op = 47) (tv : Int) (tok : Bool) (ht : Ar.Wd tv) (K : HIOk h i) (w : World) :
    Calls Tryz.prog 56 #[hartV h, instV i, ansV tv tok] w fun e w' => e = .returned (.tuple #[.int .u32 (val 47 h.pc h.id (h.R i.rs1) (h.R i.rs2) i.imm tv tok), .bool (has 47)]) ∧ Below w.heap.size w w' := by
  have k1 := hc h i.rs1 K.rs1
  have k2 := hc h i.rs2 K.rs2
  have b1 : (i.rs1 : Int) < 32 := by have := K.rs1; omega
  have b2 : (i.rs2 : Int) < 32 := by have := K.rs2; omega
  have j0 : (icells i)[0]? = some (.int .i64 47) := by rw [← show ((i.op : Nat) : Int) = 47 by rw [hop]; rfl]; rfl
  have j2 : (icells i)[2]? = some (.int .i64 i.rs1) := rfl
  have j3 : (icells i)[3]? = some (.int .i64 i.rs2) := rfl
  have HT := Lib.hid ht; clear ht hop
  unfold hartV instV ansV
  go_enter Tryz.func56, Tryz.ntmps56
  go_wp2
  go_quiet (fail)
  clear k1 k2 j0 j2 j3 b1 b2
  obtain ⟨W, hW, q0, q1, q2, c0, c1, c2, c3, c4, b⟩ := vcells w h i tv tok nq
  rw [← hW]
  have B := Lib.hid b; clear b hW q0 q1 q2
  go_wp2_with fail
  refine (rtwo_47 _ _ (K.R _) (K.R _) _).mono ?_
  rintro e w1 ⟨rfl, hb⟩
  have B2 := Lib.hid (B.out.trans (hb.mono B.out.size)); clear hb
  go_wp2
  go_ret2
  exact ⟨rfl, B2.out⟩
set_option maxRecDepth 100000 in
set_option maxHeartbeats 2000000 in
theorem rval_48 (h : H) (i : I) (hop : i.op = 48) (tv : Int) (tok : Bool) (ht : Ar.Wd tv) (K : HIOk h i) (w : World) :
    Calls Tryz.prog 56 #[hartV h, instV i, ansV tv tok] w fun e w' => e = .returned (.tuple #[.int .u32 (val 48 h.pc h.id (h.R i.rs1) (h.R i.rs2) i.imm tv tok), .bool (has 48)]) ∧ Below w.heap.size w w' := by
  have k1 := hc h i.rs1 K.rs1
  have k2 := hc h i.rs2 K.rs2
  have b1 : (i.rs1 : Int) < 32 := by have := K.rs1; omega
  have b2 : (i.rs2 : Int) < 32 := by have := K.rs2; omega
  have j0 : (icells i)[0]? = some (.int .i64 48) := by rw [← show ((i.op : Nat) : Int) = 48 by rw [hop]; rfl]; rfl
  have j2 : (icells i)[2]? = some (.int .i64 i.rs1) := rfl
  have j3 : (icells i)[3]? = some (.int .i64 i.rs2) := rfl
  have HT := Lib.hid ht; clear ht hop
  unfold hartV instV ansV
  go_enter Tryz.func56, Tryz.ntmps56
  go_wp2
  go_quiet (fail)
  clear k1 k2 j0 j2 j3 b1 b2
  obtain ⟨W, hW, q0, q1, q2, c0, c1, c2, c3, c4, b⟩ := vcells w h i tv tok nq
  rw [← hW]
  have B := Lib.hid b; clear b hW q0 q1 q2
  go_wp2
  go_ret2
  exact ⟨rfl, B.out⟩
set_option maxRecDepth 100000 in
set_option maxHeartbeats 2000000 in
theorem rval_49 (h : H) (i : I) (hop : i.op = 49) (tv : Int) (tok : Bool) (ht : Ar.Wd tv) (K : HIOk h i) (w : World) :
    Calls Tryz.prog 56 #[hartV h, instV i, ansV tv tok] w fun e w' => e = .returned (.tuple #[.int .u32 (val 49 h.pc h.id (h.R i.rs1) (h.R i.rs2) i.imm tv tok), .bool (has 49)]) ∧ Below w.heap.size w w' := by
  have k1 := hc h i.rs1 K.rs1
  have k2 := hc h i.rs2 K.rs2
  have b1 : (i.rs1 : Int) < 32 := by have := K.rs1; omega
  have b2 : (i.rs2 : Int) < 32 := by have := K.rs2; omega
  have j0 : (icells i)[0]? = some (.int .i64 49) := by rw [← show ((i.op : Nat) : Int) = 49 by rw [hop]; rfl]; rfl
  have j2 : (icells i)[2]? = some (.int .i64 i.rs1) := rfl
  have j3 : (icells i)[3]? = some (.int .i64 i.rs2) := rfl
  have HT := Lib.hid ht; clear ht hop
  unfold hartV instV ansV
  go_enter Tryz.func56, Tryz.ntmps56
  go_wp2
  go_quiet (fail)
  clear k1 k2 j0 j2 j3 b1 b2
  obtain ⟨W, hW, q0, q1, q2, c0, c1, c2, c3, c4, b⟩ := vcells w h i tv tok nq
  rw [← hW]
  have B := Lib.hid b; clear b hW q0 q1 q2
  go_wp2_with fail
  refine (rtruth_any _ _).mono ?_
  rintro e w1 ⟨rfl, rfl⟩
  go_wp2
  go_ret2
  exact ⟨rfl, B.out⟩
set_option maxRecDepth 100000 in
set_option maxHeartbeats 2000000 in
theorem rval_50 (h : H) (i : I) (hop : i.op = 50) (tv : Int) (tok : Bool) (ht : Ar.Wd tv) (K : HIOk h i) (w : World) :
    Calls Tryz.prog 56 #[hartV h, instV i, ansV tv tok] w fun e w' => e = .returned (.tuple #[.int .u32 (val 50 h.pc h.id (h.R i.rs1) (h.R i.rs2) i.imm tv tok), .bool (has 50)]) ∧ Below w.heap.size w w' := by
  have k1 := hc h i.rs1 K.rs1
  have k2 := hc h i.rs2 K.rs2
  have b1 : (i.rs1 : Int) < 32 := by have := K.rs1; omega
  have b2 : (i.rs2 : Int) < 32 := by have := K.rs2; omega
  have j0 : (icells i)[0]? = some (.int .i64 50) := by rw [← show ((i.op : Nat) : Int) = 50 by rw [hop]; rfl]; rfl
  have j2 : (icells i)[2]? = some (.int .i64 i.rs1) := rfl
  have j3 : (icells i)[3]? = some (.int .i64 i.rs2) := rfl
  have HT := Lib.hid ht; clear ht hop
  unfold hartV instV ansV
  go_enter Tryz.func56, Tryz.ntmps56
  go_wp2
  go_quiet (fail)
  clear k1 k2 j0 j2 j3 b1 b2
  obtain ⟨W, hW, q0, q1, q2, c0, c1, c2, c3, c4, b⟩ := vcells w h i tv tok nq
  rw [← hW]
  have B := Lib.hid b; clear b hW q0 q1 q2
  go_wp2
  go_ret2
  exact ⟨rfl, B.out⟩
set_option maxRecDepth 100000 in
set_option maxHeartbeats 2000000 in
theorem rval_51 (h : H) (i : I) (hop : i.op = 51) (tv : Int) (tok : Bool) (ht : Ar.Wd tv) (K : HIOk h i) (w : World) :
    Calls Tryz.prog 56 #[hartV h, instV i, ansV tv tok] w fun e w' => e = .returned (.tuple #[.int .u32 (val 51 h.pc h.id (h.R i.rs1) (h.R i.rs2) i.imm tv tok), .bool (has 51)]) ∧ Below w.heap.size w w' := by
  have k1 := hc h i.rs1 K.rs1
  have k2 := hc h i.rs2 K.rs2
  have b1 : (i.rs1 : Int) < 32 := by have := K.rs1; omega
  have b2 : (i.rs2 : Int) < 32 := by have := K.rs2; omega
  have j0 : (icells i)[0]? = some (.int .i64 51) := by rw [← show ((i.op : Nat) : Int) = 51 by rw [hop]; rfl]; rfl
  have j2 : (icells i)[2]? = some (.int .i64 i.rs1) := rfl
  have j3 : (icells i)[3]? = some (.int .i64 i.rs2) := rfl
  have HT := Lib.hid ht; clear ht hop
  unfold hartV instV ansV
  go_enter Tryz.func56, Tryz.ntmps56
  go_wp2
  go_quiet (fail)
  clear k1 k2 j0 j2 j3 b1 b2
  obtain ⟨W, hW, q0, q1, q2, c0, c1, c2, c3, c4, b⟩ := vcells w h i tv tok nq
  rw [← hW]
  have B := Lib.hid b; clear b hW q0 q1 q2
  go_wp2
  go_ret2
  exact ⟨rfl, B.out⟩
set_option maxRecDepth 100000 in
set_option maxHeartbeats 2000000 in
theorem rval_52 (h : H) (i : I) (hop : i.op = 52) (tv : Int) (tok : Bool) (ht : Ar.Wd tv) (K : HIOk h i) (w : World) :
    Calls Tryz.prog 56 #[hartV h, instV i, ansV tv tok] w fun e w' => e = .returned (.tuple #[.int .u32 (val 52 h.pc h.id (h.R i.rs1) (h.R i.rs2) i.imm tv tok), .bool (has 52)]) ∧ Below w.heap.size w w' := by
  have k1 := hc h i.rs1 K.rs1
  have k2 := hc h i.rs2 K.rs2
  have b1 : (i.rs1 : Int) < 32 := by have := K.rs1; omega
  have b2 : (i.rs2 : Int) < 32 := by have := K.rs2; omega
  have j0 : (icells i)[0]? = some (.int .i64 52) := by rw [← show ((i.op : Nat) : Int) = 52 by rw [hop]; rfl]; rfl
  have j2 : (icells i)[2]? = some (.int .i64 i.rs1) := rfl
  have j3 : (icells i)[3]? = some (.int .i64 i.rs2) := rfl
  have HT := Lib.hid ht; clear ht hop
  unfold hartV instV ansV
  go_enter Tryz.func56, Tryz.ntmps56
  go_wp2
  go_quiet (fail)
  clear k1 k2 j0 j2 j3 b1 b2
  obtain ⟨W, hW, q0, q1, q2, c0, c1, c2, c3, c4, b⟩ := vcells w h i tv tok nq
  rw [← hW]
  have B := Lib.hid b; clear b hW q0 q1 q2
  go_wp2
  go_ret2
  exact ⟨rfl, B.out⟩
set_option maxRecDepth 100000 in
set_option maxHeartbeats 2000000 in
theorem rval_53 (h : H) (i : I) (hop : i.op = 53) (tv : Int) (tok : Bool) (ht : Ar.Wd tv) (K : HIOk h i) (w : World) :
    Calls Tryz.prog 56 #[hartV h, instV i, ansV tv tok] w fun e w' => e = .returned (.tuple #[.int .u32 (val 53 h.pc h.id (h.R i.rs1) (h.R i.rs2) i.imm tv tok), .bool (has 53)]) ∧ Below w.heap.size w w' := by
  have k1 := hc h i.rs1 K.rs1
  have k2 := hc h i.rs2 K.rs2
  have b1 : (i.rs1 : Int) < 32 := by have := K.rs1; omega
  have b2 : (i.rs2 : Int) < 32 := by have := K.rs2; omega
  have j0 : (icells i)[0]? = some (.int .i64 53) := by rw [← show ((i.op : Nat) : Int) = 53 by rw [hop]; rfl]; rfl
  have j2 : (icells i)[2]? = some (.int .i64 i.rs1) := rfl
  have j3 : (icells i)[3]? = some (.int .i64 i.rs2) := rfl
  have HT := Lib.hid ht; clear ht hop
  unfold hartV instV ansV
  go_enter Tryz.func56, Tryz.ntmps56
  go_wp2
  go_quiet (fail)
  clear k1 k2 j0 j2 j3 b1 b2
  obtain ⟨W, hW, q0, q1, q2, c0, c1, c2, c3, c4, b⟩ := vcells w h i tv tok nq
  rw [← hW]
  have B := Lib.hid b; clear b hW q0 q1 q2
  go_wp2
  go_ret2
  exact ⟨rfl, B.out⟩
set_option maxRecDepth 100000 in
set_option maxHeartbeats 2000000 in
theorem rval_54 (h : H) (i : I) (hop : i.op = 54) (tv : Int) (tok : Bool) (ht : Ar.Wd tv) (K : HIOk h i) (w : World) :
    Calls Tryz.prog 56 #[hartV h, instV i, ansV tv tok] w fun e w' => e = .returned (.tuple #[.int .u32 (val 54 h.pc h.id (h.R i.rs1) (h.R i.rs2) i.imm tv tok), .bool (has 54)]) ∧ Below w.heap.size w w' := by
  have k1 := hc h i.rs1 K.rs1
  have k2 := hc h i.rs2 K.rs2
  have b1 : (i.rs1 : Int) < 32 := by have := K.rs1; omega
  have b2 : (i.rs2 : Int) < 32 := by have := K.rs2; omega
  have j0 : (icells i)[0]? = some (.int .i64 54) := by rw [← show ((i.op : Nat) : Int) = 54 by rw [hop]; rfl]; rfl
  have j2 : (icells i)[2]? = some (.int .i64 i.rs1) := rfl
  have j3 : (icells i)[3]? = some (.int .i64 i.rs2) := rfl
  have HT := Lib.hid ht; clear ht hop
  unfold hartV instV ansV
  go_enter Tryz.func56, Tryz.ntmps56
  go_wp2
  go_quiet (fail)
  clear k1 k2 j0 j2 j3 b1 b2
  obtain ⟨W, hW, q0, q1, q2, c0, c1, c2, c3, c4, b⟩ := vcells w h i tv tok nq
  rw [← hW]
  have B := Lib.hid b; clear b hW q0 q1 q2
  go_wp2
  go_ret2
  exact ⟨rfl, B.out⟩
set_option maxRecDepth 100000 in
set_option maxHeartbeats 2000000 in
theorem rval_55 (h : H) (i : I) (hop : i.op = 55) (tv : Int) (tok : Bool) (ht : Ar.Wd tv) (K : HIOk h i) (w : World) :
    Calls Tryz.prog 56 #[hartV h, instV i, ansV tv tok] w fun e w' => e = .returned (.tuple #[.int .u32 (val 55 h.pc h.id (h.R i.rs1) (h.R i.rs2) i.imm tv tok), .bool (has 55)]) ∧ Below w.heap.size w w' := by
  have k1 := hc h i.rs1 K.rs1
  have k2 := hc h i.rs2 K.rs2
  have b1 : (i.rs1 : Int) < 32 := by have := K.rs1; omega
  have b2 : (i.rs2 : Int) < 32 := by have := K.rs2; omega
  have j0 : (icells i)[0]? = some (.int .i64 55) := by rw [← show ((i.op : Nat) : Int) = 55 by rw [hop]; rfl]; rfl
  have j2 : (icells i)[2]? = some (.int .i64 i.rs1) := rfl
  have j3 : (icells i)[3]? = some (.int .i64 i.rs2) := rfl
  have HT := Lib.hid ht; clear ht hop
  unfold hartV instV ansV
  go_enter Tryz.func56, Tryz.ntmps56
  go_wp2
  go_quiet (fail)
  clear k1 k2 j0 j2 j3 b1 b2
  obtain ⟨W, hW, q0, q1, q2, c0, c1, c2, c3, c4, b⟩ := vcells w h i tv tok nq
  rw [← hW]
  have B := Lib.hid b; clear b hW q0 q1 q2
  go_wp2
  go_ret2
  exact ⟨rfl, B.out⟩
set_option maxRecDepth 100000 in
set_option maxHeartbeats 2000000 in
theorem rval_56 (h : H) (i : I) (hop : i.op = 56) (tv : Int) (tok : Bool) (ht : Ar.Wd tv) (K : HIOk h i) (w : World) :
    Calls Tryz.prog 56 #[hartV h, instV i, ansV tv tok] w fun e w' => e = .returned (.tuple #[.int .u32 (val 56 h.pc h.id (h.R i.rs1) (h.R i.rs2) i.imm tv tok), .bool (has 56)]) ∧ Below w.heap.size w w' := by
  have k1 := hc h i.rs1 K.rs1
  have k2 := hc h i.rs2 K.rs2
  have b1 : (i.rs1 : Int) < 32 := by have := K.rs1; omega
  have b2 : (i.rs2 : Int) < 32 := by have := K.rs2; omega
  have j0 : (icells i)[0]? = some (.int .i64 56) := by rw [← show ((i.op : Nat) : Int) = 56 by rw [hop]; rfl]; rfl
  have j2 : (icells i)[2]? = some (.int .i64 i.rs1) := rfl
  have j3 : (icells i)[3]? = some (.int .i64 i.rs2) := rfl
  have HT := Lib.hid ht; clear ht hop
  unfold hartV instV ansV
  go_enter Tryz.func56, Tryz.ntmps56
  go_wp2
  go_quiet (fail)
  clear k1 k2 j0 j2 j3 b1 b2
  obtain ⟨W, hW, q0, q1, q2, c0, c1, c2, c3, c4, b⟩ := vcells w h i tv tok nq
  rw [← hW]
  have B := Lib.hid b; clear b hW q0 q1 q2
  go_wp2
  go_ret2
  exact ⟨rfl, B.out⟩
set_option maxRecDepth 100000 in
set_option maxHeartbeats 2000000 in
theorem rval_57 (h : H) (i : I) (hop : i.op = 57) (tv : Int) (tok : Bool) (ht : Ar.Wd tv) (K : HIOk h i) (w : World) :
    Calls Tryz.prog 56 #[hartV h, instV i, ansV tv tok] w fun e w' => e = .returned (.tuple #[.int .u32 (val 57 h.pc h.id (h.R i.rs1) (h.R i.rs2) i.imm tv tok), .bool (has 57)]) ∧ Below w.heap.size w w' := by
  have k1 := hc h i.rs1 K.rs1
  have k2 := hc h i.rs2 K.rs2
  have b1 : (i.rs1 : Int) < 32 := by have := K.rs1; omega
  have b2 : (i.rs2 : Int) < 32 := by have := K.rs2; omega
  have j0 : (icells i)[0]? = some (.int .i64 57) := by rw [← show ((i.op : Nat) : Int) = 57 by rw [hop]; rfl]; rfl
  have j2 : (icells i)[2]? = some (.int .i64 i.rs1) := rfl
  have j3 : (icells i)[3]? = some (.int .i64 i.rs2) := rfl
  have HT := Lib.hid ht; clear ht hop
  unfold hartV instV ansV
  go_enter Tryz.func56, Tryz.ntmps56
  go_wp2
  go_quiet (fail)
  clear k1 k2 j0 j2 j3 b1 b2
  obtain ⟨W, hW, q0, q1, q2, c0, c1, c2, c3, c4, b⟩ := vcells w h i tv tok nq
  rw [← hW]
  have B := Lib.hid b; clear b hW q0 q1 q2
  go_wp2
  go_ret2
  exact ⟨rfl, B.out⟩
set_option maxRecDepth 100000 in
set_option maxHeartbeats 2000000 in
theorem rval_58 (h : H) (i : I) (hop : i.op = 58) (tv : Int) (tok : Bool) (ht : Ar.Wd tv) (K : HIOk h i) (w : World) :
    Calls Tryz.prog 56 #[hartV h, instV i, ansV tv tok] w fun e w' => e = .returned (.tuple #[.int .u32 (val 58 h.pc h.id (h.R i.rs1) (h.R i.rs2) i.imm tv tok), .bool (has 58)]) ∧ Below w.heap.size w w' := by
  have k1 := hc h i.rs1 K.rs1
  have k2 := hc h i.rs2 K.rs2
  have b1 : (i.rs1 : Int) < 32 := by have := K.rs1; omega
  have b2 : (i.rs2 : Int) < 32 := by have := K.rs2; omega
  have j0 : (icells i)[0]? = some (.int .i64 58) := by rw [← show ((i.op : Nat) : Int) = 58 by rw [hop]; rfl]; rfl
  have j2 : (icells i)[2]? = some (.int .i64 i.rs1) := rfl
  have j3 : (icells i)[3]? = some (.int .i64 i.rs2) := rfl
  have HT := Lib.hid ht; clear ht hop
  unfold hartV instV ansV
  go_enter Tryz.func56, Tryz.ntmps56
  go_wp2
  go_quiet (fail)
  clear k1 k2 j0 j2 j3 b1 b2
  obtain ⟨W, hW, q0, q1, q2, c0, c1, c2, c3, c4, b⟩ := vcells w h i tv tok nq
  rw [← hW]
  have B := Lib.hid b; clear b hW q0 q1 q2
  go_wp2
  go_ret2
  exact ⟨rfl, B.out⟩
set_option maxRecDepth 100000 in
set_option maxHeartbeats 2000000 in
theorem rval_59 (h : H) (i : I) (hop : i.op = 59) (tv : Int) (tok : Bool) (ht : Ar.Wd tv) (K : HIOk h i) (w : World) :
    Calls Tryz.prog 56 #[hartV h, instV i, ansV tv tok] w fun e w' => e = .returned (.tuple #[.int .u32 (val 59 h.pc h.id (h.R i.rs1) (h.R i.rs2) i.imm tv tok), .bool (has 59)]) ∧ Below w.heap.size w w' := by
  have k1 := hc h i.rs1 K.rs1
  have k2 := hc h i.rs2 K.rs2
  have b1 : (i.rs1 : Int) < 32 := by have := K.rs1; omega
  have b2 : (i.rs2 : Int) < 32 := by have := K.rs2; omega
  have j0 : (icells i)[0]? = some (.int .i64 59) := by rw [← show ((i.op : Nat) : Int) = 59 by rw [hop]; rfl]; rfl
  have j2 : (icells i)[2]? = some (.int .i64 i.rs1) := rfl
  have j3 : (icells i)[3]? = some (.int .i64 i.rs2) := rfl
  have HT := Lib.hid ht; clear ht hop
  unfold hartV instV ansV
  go_enter Tryz.func56, Tryz.ntmps56
  go_wp2
  go_quiet (fail)
  clear k1 k2 j0 j2 j3 b1 b2
  obtain ⟨W, hW, q0, q1, q2, c0, c1, c2, c3, c4, b⟩ := vcells w h i tv tok nq
  rw [← hW]
  have B := Lib.hid b; clear b hW q0 q1 q2
  have hid : h.id % 4294967296 = h.id := by have := K.id; omega
  go_wp2
  go_ret2
  exact ⟨rfl, B.out⟩
end Go.Proofs.YtianojbdabeoeaaGreatDoor
end
