/-
  The document's own answer: the word of an instruction that may be, form by form.
-/
import Derived.Test.YtianojbdabeoeaaDoorIsOwn
import Derived.Test.YtianojbdabeoeaaDoorIsForm
import Derived.Test.YtianojbdabeoeaaDoorIsOpc
import Derived.Test.YtianojbdabeoeaaDoorIsF7
import Derived.Test.YtianojbdabeoeaaDoorIsRefc
namespace Go.Proofs.YtianojbdabeoeaaDoor
open Go.RowKit
set_option linter.unusedVariables false
set_option linter.unusedSimpArgs false
theorem Is.tabE1 : ∀ op, op < 60 → Is.fm op = 1 → Is.wd op = Is.wd op % 128 := by decide +kernel

set_option maxRecDepth 100000 in
set_option maxHeartbeats 20000000 in
theorem renc1 (op : Nat) (h : 1 ≤ op ∧ op ≤ 59) (hk : Is.fm op = 1) (rd rs1 rs2 imm : Int) (aq rl : Bool) (hi : Is.Wd imm) (brd : 0 ≤ rd ∧ rd ≤ 31) (hm : imm % 4096 = 0) (w : World) :
    Calls Tryd.prog 7 #[inst op rd 0 0 imm false false] w fun e w' => e = .returned (.int .u32 (Is.wordO op rd 0 0 imm false false)) ∧ Below w.heap.size w w' := by
  have HF := Lib.hid (show Is.fb (Is.fm op) = 117 by rw [hk]; rfl)
  have HI := Lib.hid hi
  have HT := Lib.hid (Is.tabE1 op (by omega) hk)
  have HK := Lib.hid hk
  unfold Is.Wd at hi
  clear hk
  have z1 := Is.f3_bd op (by omega)
  have z2 := Is.f7_bd op (by omega)
  have z3 : 0 ≤ Is.wd op % 128 ∧ Is.wd op % 128 ≤ 127 := by omega
  unfold inst
  go_enter Tryd.func7, Tryd.ntmps7
  go_wp2_with (first
      | (go_at_call 15; refine (ropcode_any op h _).mono ?_; rintro e w' ⟨rfl, rfl⟩)
      | (go_at_call 13; refine (rform_yes op h _).mono ?_; rw [HF.out]; rintro e w' ⟨rfl, rfl⟩)
      | (go_at_call 18; with_reducible refine (rpow_lit 20 1048576 (by omega) rfl _).mono ?_; rintro e w' ⟨rfl, rfl⟩)
      | (go_at_call 18; with_reducible refine (rpow_lit 31 2147483648 (by omega) rfl _).mono ?_; rintro e w' ⟨rfl, rfl⟩)
      | (go_at_call 18; with_reducible refine (rpow_lit 21 2097152 (by omega) rfl _).mono ?_; rintro e w' ⟨rfl, rfl⟩)
      | (go_at_call 18; with_reducible refine (rpow_lit 12 4096 (by omega) rfl _).mono ?_; rintro e w' ⟨rfl, rfl⟩)
      | (go_at_call 18; with_reducible refine (rpow_lit 25 33554432 (by omega) rfl _).mono ?_; rintro e w' ⟨rfl, rfl⟩)
      | (go_at_call 18; with_reducible refine (rpow_lit 8 256 (by omega) rfl _).mono ?_; rintro e w' ⟨rfl, rfl⟩)
      | (go_at_call 18; with_reducible refine (rpow_lit 7 128 (by omega) rfl _).mono ?_; rintro e w' ⟨rfl, rfl⟩)
      | (go_at_call 18; with_reducible refine (rpow_lit 26 67108864 (by omega) rfl _).mono ?_; rintro e w' ⟨rfl, rfl⟩)
      | (go_at_call 17; with_reducible refine (rbits_lit imm 20 20 _ HI.out (by omega) (by omega) (by omega) (Is.bt_20_20 imm) _).mono ?_; rintro e w' ⟨rfl, rfl⟩)
      | (go_at_call 17; with_reducible refine (rbits_lit imm 10 1 _ HI.out (by omega) (by omega) (by omega) (Is.bt_10_1 imm) _).mono ?_; rintro e w' ⟨rfl, rfl⟩)
      | (go_at_call 17; with_reducible refine (rbits_lit imm 11 11 _ HI.out (by omega) (by omega) (by omega) (Is.bt_11_11 imm) _).mono ?_; rintro e w' ⟨rfl, rfl⟩)
      | (go_at_call 17; with_reducible refine (rbits_lit imm 19 12 _ HI.out (by omega) (by omega) (by omega) (Is.bt_19_12 imm) _).mono ?_; rintro e w' ⟨rfl, rfl⟩)
      | (go_at_call 17; with_reducible refine (rbits_lit imm 12 12 _ HI.out (by omega) (by omega) (by omega) (Is.bt_12_12 imm) _).mono ?_; rintro e w' ⟨rfl, rfl⟩)
      | (go_at_call 17; with_reducible refine (rbits_lit imm 10 5 _ HI.out (by omega) (by omega) (by omega) (Is.bt_10_5 imm) _).mono ?_; rintro e w' ⟨rfl, rfl⟩)
      | (go_at_call 17; with_reducible refine (rbits_lit imm 4 1 _ HI.out (by omega) (by omega) (by omega) (Is.bt_4_1 imm) _).mono ?_; rintro e w' ⟨rfl, rfl⟩)
      | (go_at_call 17; with_reducible refine (rbits_lit imm 11 5 _ HI.out (by omega) (by omega) (by omega) (Is.bt_11_5 imm) _).mono ?_; rintro e w' ⟨rfl, rfl⟩)
      | (go_at_call 17; with_reducible refine (rbits_lit imm 4 0 _ HI.out (by omega) (by omega) (by omega) (Is.bt_4_0 imm) _).mono ?_; rintro e w' ⟨rfl, rfl⟩)
      | (go_at_call 17; with_reducible refine (rbits_lit imm 11 0 _ HI.out (by omega) (by omega) (by omega) (Is.bt_11_0 imm) _).mono ?_; rintro e w' ⟨rfl, rfl⟩))
  go_ret
  refine ⟨ret_int ?_, (Below.refl w.heap.size w).alloc (Nat.le_refl _) _⟩
  unfold Is.wordO
  have e0 := HT.out
  rw [HK.out]
  simp only [Is.layO, Is.placeO, Is.hasRd, Is.hasRs1, Is.hasRs2, Is.hasOrd, Is.upperImm, Nat.reduceBEq, Bool.or_false, Bool.or_true, Bool.false_or, Bool.not_false, Bool.not_true, Bool.true_or, Bool.or_self, if_true, if_false, Bool.false_eq_true, Int.add_zero, Int.zero_add]
  omega
theorem Is.tabE2 : ∀ op, op < 60 → Is.fm op = 2 → Is.wd op = Is.wd op % 128 := by decide +kernel

set_option maxRecDepth 100000 in
set_option maxHeartbeats 20000000 in
theorem renc2 (op : Nat) (h : 1 ≤ op ∧ op ≤ 59) (hk : Is.fm op = 2) (rd rs1 rs2 imm : Int) (aq rl : Bool) (hi : Is.Wd imm) (brd : 0 ≤ rd ∧ rd ≤ 31)  (w : World) :
    Calls Tryd.prog 7 #[inst op rd 0 0 imm false false] w fun e w' => e = .returned (.int .u32 (Is.wordO op rd 0 0 imm false false)) ∧ Below w.heap.size w w' := by
  have HF := Lib.hid (show Is.fb (Is.fm op) = 106 by rw [hk]; rfl)
  have HI := Lib.hid hi
  have HT := Lib.hid (Is.tabE2 op (by omega) hk)
  have HK := Lib.hid hk
  unfold Is.Wd at hi
  clear hk
  have z1 := Is.f3_bd op (by omega)
  have z2 := Is.f7_bd op (by omega)
  have z3 : 0 ≤ Is.wd op % 128 ∧ Is.wd op % 128 ≤ 127 := by omega
  unfold inst
  go_enter Tryd.func7, Tryd.ntmps7
  go_wp2_with (first
      | (go_at_call 15; refine (ropcode_any op h _).mono ?_; rintro e w' ⟨rfl, rfl⟩)
      | (go_at_call 13; refine (rform_yes op h _).mono ?_; rw [HF.out]; rintro e w' ⟨rfl, rfl⟩)
      | (go_at_call 18; with_reducible refine (rpow_lit 20 1048576 (by omega) rfl _).mono ?_; rintro e w' ⟨rfl, rfl⟩)
      | (go_at_call 18; with_reducible refine (rpow_lit 31 2147483648 (by omega) rfl _).mono ?_; rintro e w' ⟨rfl, rfl⟩)
      | (go_at_call 18; with_reducible refine (rpow_lit 21 2097152 (by omega) rfl _).mono ?_; rintro e w' ⟨rfl, rfl⟩)
      | (go_at_call 18; with_reducible refine (rpow_lit 12 4096 (by omega) rfl _).mono ?_; rintro e w' ⟨rfl, rfl⟩)
      | (go_at_call 18; with_reducible refine (rpow_lit 25 33554432 (by omega) rfl _).mono ?_; rintro e w' ⟨rfl, rfl⟩)
      | (go_at_call 18; with_reducible refine (rpow_lit 8 256 (by omega) rfl _).mono ?_; rintro e w' ⟨rfl, rfl⟩)
      | (go_at_call 18; with_reducible refine (rpow_lit 7 128 (by omega) rfl _).mono ?_; rintro e w' ⟨rfl, rfl⟩)
      | (go_at_call 18; with_reducible refine (rpow_lit 26 67108864 (by omega) rfl _).mono ?_; rintro e w' ⟨rfl, rfl⟩)
      | (go_at_call 17; with_reducible refine (rbits_lit imm 20 20 _ HI.out (by omega) (by omega) (by omega) (Is.bt_20_20 imm) _).mono ?_; rintro e w' ⟨rfl, rfl⟩)
      | (go_at_call 17; with_reducible refine (rbits_lit imm 10 1 _ HI.out (by omega) (by omega) (by omega) (Is.bt_10_1 imm) _).mono ?_; rintro e w' ⟨rfl, rfl⟩)
      | (go_at_call 17; with_reducible refine (rbits_lit imm 11 11 _ HI.out (by omega) (by omega) (by omega) (Is.bt_11_11 imm) _).mono ?_; rintro e w' ⟨rfl, rfl⟩)
      | (go_at_call 17; with_reducible refine (rbits_lit imm 19 12 _ HI.out (by omega) (by omega) (by omega) (Is.bt_19_12 imm) _).mono ?_; rintro e w' ⟨rfl, rfl⟩)
      | (go_at_call 17; with_reducible refine (rbits_lit imm 12 12 _ HI.out (by omega) (by omega) (by omega) (Is.bt_12_12 imm) _).mono ?_; rintro e w' ⟨rfl, rfl⟩)
      | (go_at_call 17; with_reducible refine (rbits_lit imm 10 5 _ HI.out (by omega) (by omega) (by omega) (Is.bt_10_5 imm) _).mono ?_; rintro e w' ⟨rfl, rfl⟩)
      | (go_at_call 17; with_reducible refine (rbits_lit imm 4 1 _ HI.out (by omega) (by omega) (by omega) (Is.bt_4_1 imm) _).mono ?_; rintro e w' ⟨rfl, rfl⟩)
      | (go_at_call 17; with_reducible refine (rbits_lit imm 11 5 _ HI.out (by omega) (by omega) (by omega) (Is.bt_11_5 imm) _).mono ?_; rintro e w' ⟨rfl, rfl⟩)
      | (go_at_call 17; with_reducible refine (rbits_lit imm 4 0 _ HI.out (by omega) (by omega) (by omega) (Is.bt_4_0 imm) _).mono ?_; rintro e w' ⟨rfl, rfl⟩)
      | (go_at_call 17; with_reducible refine (rbits_lit imm 11 0 _ HI.out (by omega) (by omega) (by omega) (Is.bt_11_0 imm) _).mono ?_; rintro e w' ⟨rfl, rfl⟩))
  go_ret
  refine ⟨ret_int ?_, (Below.refl w.heap.size w).alloc (Nat.le_refl _) _⟩
  unfold Is.wordO
  have e0 := HT.out
  rw [HK.out]
  simp only [Is.layO, Is.placeO, Is.hasRd, Is.hasRs1, Is.hasRs2, Is.hasOrd, Is.jumpPlace, Nat.reduceBEq, Bool.or_false, Bool.or_true, Bool.false_or, Bool.not_false, Bool.not_true, Bool.true_or, Bool.or_self, if_true, if_false, Bool.false_eq_true, Int.add_zero, Int.zero_add]
  omega
theorem Is.tabE3 : ∀ op, op < 60 → Is.fm op = 3 → Is.wd op = Is.wd op % 128 + Is.f3 op * 4096 := by decide +kernel

set_option maxRecDepth 100000 in
set_option maxHeartbeats 20000000 in
theorem renc3 (op : Nat) (h : 1 ≤ op ∧ op ≤ 59) (hk : Is.fm op = 3) (rd rs1 rs2 imm : Int) (aq rl : Bool) (hi : Is.Wd imm) (brd : 0 ≤ rd ∧ rd ≤ 31) (brs1 : 0 ≤ rs1 ∧ rs1 ≤ 31)  (w : World) :
    Calls Tryd.prog 7 #[inst op rd rs1 0 imm false false] w fun e w' => e = .returned (.int .u32 (Is.wordO op rd rs1 0 imm false false)) ∧ Below w.heap.size w w' := by
  have HF := Lib.hid (show Is.fb (Is.fm op) = 105 by rw [hk]; rfl)
  have HI := Lib.hid hi
  have HT := Lib.hid (Is.tabE3 op (by omega) hk)
  have HK := Lib.hid hk
  unfold Is.Wd at hi
  clear hk
  have z1 := Is.f3_bd op (by omega)
  have z2 := Is.f7_bd op (by omega)
  have z3 : 0 ≤ Is.wd op % 128 ∧ Is.wd op % 128 ≤ 127 := by omega
  unfold inst
  go_enter Tryd.func7, Tryd.ntmps7
  go_wp2_with (first
      | (go_at_call 15; refine (ropcode_any op h _).mono ?_; rintro e w' ⟨rfl, rfl⟩)
      | (go_at_call 13; refine (rform_yes op h _).mono ?_; rw [HF.out]; rintro e w' ⟨rfl, rfl⟩)
      | (go_at_call 18; with_reducible refine (rpow_lit 20 1048576 (by omega) rfl _).mono ?_; rintro e w' ⟨rfl, rfl⟩)
      | (go_at_call 18; with_reducible refine (rpow_lit 31 2147483648 (by omega) rfl _).mono ?_; rintro e w' ⟨rfl, rfl⟩)
      | (go_at_call 18; with_reducible refine (rpow_lit 21 2097152 (by omega) rfl _).mono ?_; rintro e w' ⟨rfl, rfl⟩)
      | (go_at_call 18; with_reducible refine (rpow_lit 12 4096 (by omega) rfl _).mono ?_; rintro e w' ⟨rfl, rfl⟩)
      | (go_at_call 18; with_reducible refine (rpow_lit 25 33554432 (by omega) rfl _).mono ?_; rintro e w' ⟨rfl, rfl⟩)
      | (go_at_call 18; with_reducible refine (rpow_lit 8 256 (by omega) rfl _).mono ?_; rintro e w' ⟨rfl, rfl⟩)
      | (go_at_call 18; with_reducible refine (rpow_lit 7 128 (by omega) rfl _).mono ?_; rintro e w' ⟨rfl, rfl⟩)
      | (go_at_call 18; with_reducible refine (rpow_lit 26 67108864 (by omega) rfl _).mono ?_; rintro e w' ⟨rfl, rfl⟩)
      | (go_at_call 17; with_reducible refine (rbits_lit imm 20 20 _ HI.out (by omega) (by omega) (by omega) (Is.bt_20_20 imm) _).mono ?_; rintro e w' ⟨rfl, rfl⟩)
      | (go_at_call 17; with_reducible refine (rbits_lit imm 10 1 _ HI.out (by omega) (by omega) (by omega) (Is.bt_10_1 imm) _).mono ?_; rintro e w' ⟨rfl, rfl⟩)
      | (go_at_call 17; with_reducible refine (rbits_lit imm 11 11 _ HI.out (by omega) (by omega) (by omega) (Is.bt_11_11 imm) _).mono ?_; rintro e w' ⟨rfl, rfl⟩)
      | (go_at_call 17; with_reducible refine (rbits_lit imm 19 12 _ HI.out (by omega) (by omega) (by omega) (Is.bt_19_12 imm) _).mono ?_; rintro e w' ⟨rfl, rfl⟩)
      | (go_at_call 17; with_reducible refine (rbits_lit imm 12 12 _ HI.out (by omega) (by omega) (by omega) (Is.bt_12_12 imm) _).mono ?_; rintro e w' ⟨rfl, rfl⟩)
      | (go_at_call 17; with_reducible refine (rbits_lit imm 10 5 _ HI.out (by omega) (by omega) (by omega) (Is.bt_10_5 imm) _).mono ?_; rintro e w' ⟨rfl, rfl⟩)
      | (go_at_call 17; with_reducible refine (rbits_lit imm 4 1 _ HI.out (by omega) (by omega) (by omega) (Is.bt_4_1 imm) _).mono ?_; rintro e w' ⟨rfl, rfl⟩)
      | (go_at_call 17; with_reducible refine (rbits_lit imm 11 5 _ HI.out (by omega) (by omega) (by omega) (Is.bt_11_5 imm) _).mono ?_; rintro e w' ⟨rfl, rfl⟩)
      | (go_at_call 17; with_reducible refine (rbits_lit imm 4 0 _ HI.out (by omega) (by omega) (by omega) (Is.bt_4_0 imm) _).mono ?_; rintro e w' ⟨rfl, rfl⟩)
      | (go_at_call 17; with_reducible refine (rbits_lit imm 11 0 _ HI.out (by omega) (by omega) (by omega) (Is.bt_11_0 imm) _).mono ?_; rintro e w' ⟨rfl, rfl⟩))
  refine (rf3_any op h _).mono ?_
  rintro e w1 ⟨rfl, hb1⟩
  have hc0 : w1.cell? ⟨w.heap.size, 0, none⟩ = some (.int .i64 (op : Int)) := (hb1.cell (p := ⟨w.heap.size, 0, none⟩) (by simp)).trans (by go_simp)
  have hc1 : w1.cell? ⟨w.heap.size, 1, none⟩ = some (.int .i64 rd) := (hb1.cell (p := ⟨w.heap.size, 1, none⟩) (by simp)).trans (by go_simp)
  have hc2 : w1.cell? ⟨w.heap.size, 2, none⟩ = some (.int .i64 rs1) := (hb1.cell (p := ⟨w.heap.size, 2, none⟩) (by simp)).trans (by go_simp)
  have hc3 : w1.cell? ⟨w.heap.size, 3, none⟩ = some (.int .i64 0) := (hb1.cell (p := ⟨w.heap.size, 3, none⟩) (by simp)).trans (by go_simp)
  have hc4 : w1.cell? ⟨w.heap.size, 4, none⟩ = some (.int .u32 imm) := (hb1.cell (p := ⟨w.heap.size, 4, none⟩) (by simp)).trans (by go_simp)
  have HB1 := Lib.hid hb1; clear hb1
  go_wp2_with (first
      | (go_at_call 15; refine (ropcode_any op h _).mono ?_; rintro e w' ⟨rfl, rfl⟩)
      | (go_at_call 13; refine (rform_yes op h _).mono ?_; rw [HF.out]; rintro e w' ⟨rfl, rfl⟩)
      | (go_at_call 18; with_reducible refine (rpow_lit 20 1048576 (by omega) rfl _).mono ?_; rintro e w' ⟨rfl, rfl⟩)
      | (go_at_call 18; with_reducible refine (rpow_lit 31 2147483648 (by omega) rfl _).mono ?_; rintro e w' ⟨rfl, rfl⟩)
      | (go_at_call 18; with_reducible refine (rpow_lit 21 2097152 (by omega) rfl _).mono ?_; rintro e w' ⟨rfl, rfl⟩)
      | (go_at_call 18; with_reducible refine (rpow_lit 12 4096 (by omega) rfl _).mono ?_; rintro e w' ⟨rfl, rfl⟩)
      | (go_at_call 18; with_reducible refine (rpow_lit 25 33554432 (by omega) rfl _).mono ?_; rintro e w' ⟨rfl, rfl⟩)
      | (go_at_call 18; with_reducible refine (rpow_lit 8 256 (by omega) rfl _).mono ?_; rintro e w' ⟨rfl, rfl⟩)
      | (go_at_call 18; with_reducible refine (rpow_lit 7 128 (by omega) rfl _).mono ?_; rintro e w' ⟨rfl, rfl⟩)
      | (go_at_call 18; with_reducible refine (rpow_lit 26 67108864 (by omega) rfl _).mono ?_; rintro e w' ⟨rfl, rfl⟩)
      | (go_at_call 17; with_reducible refine (rbits_lit imm 20 20 _ HI.out (by omega) (by omega) (by omega) (Is.bt_20_20 imm) _).mono ?_; rintro e w' ⟨rfl, rfl⟩)
      | (go_at_call 17; with_reducible refine (rbits_lit imm 10 1 _ HI.out (by omega) (by omega) (by omega) (Is.bt_10_1 imm) _).mono ?_; rintro e w' ⟨rfl, rfl⟩)
      | (go_at_call 17; with_reducible refine (rbits_lit imm 11 11 _ HI.out (by omega) (by omega) (by omega) (Is.bt_11_11 imm) _).mono ?_; rintro e w' ⟨rfl, rfl⟩)
      | (go_at_call 17; with_reducible refine (rbits_lit imm 19 12 _ HI.out (by omega) (by omega) (by omega) (Is.bt_19_12 imm) _).mono ?_; rintro e w' ⟨rfl, rfl⟩)
      | (go_at_call 17; with_reducible refine (rbits_lit imm 12 12 _ HI.out (by omega) (by omega) (by omega) (Is.bt_12_12 imm) _).mono ?_; rintro e w' ⟨rfl, rfl⟩)
      | (go_at_call 17; with_reducible refine (rbits_lit imm 10 5 _ HI.out (by omega) (by omega) (by omega) (Is.bt_10_5 imm) _).mono ?_; rintro e w' ⟨rfl, rfl⟩)
      | (go_at_call 17; with_reducible refine (rbits_lit imm 4 1 _ HI.out (by omega) (by omega) (by omega) (Is.bt_4_1 imm) _).mono ?_; rintro e w' ⟨rfl, rfl⟩)
      | (go_at_call 17; with_reducible refine (rbits_lit imm 11 5 _ HI.out (by omega) (by omega) (by omega) (Is.bt_11_5 imm) _).mono ?_; rintro e w' ⟨rfl, rfl⟩)
      | (go_at_call 17; with_reducible refine (rbits_lit imm 4 0 _ HI.out (by omega) (by omega) (by omega) (Is.bt_4_0 imm) _).mono ?_; rintro e w' ⟨rfl, rfl⟩)
      | (go_at_call 17; with_reducible refine (rbits_lit imm 11 0 _ HI.out (by omega) (by omega) (by omega) (Is.bt_11_0 imm) _).mono ?_; rintro e w' ⟨rfl, rfl⟩))
  go_ret
  refine ⟨ret_int ?_, (((Below.refl w.heap.size w).alloc (Nat.le_refl _) _).trans (HB1.out.mono (by simp)))⟩
  unfold Is.wordO
  have e0 := HT.out
  rw [HK.out]
  simp only [Is.layO, Is.placeO, Is.hasRd, Is.hasRs1, Is.hasRs2, Is.hasOrd, Is.shortPlace, Nat.reduceBEq, Bool.or_false, Bool.or_true, Bool.false_or, Bool.not_false, Bool.not_true, Bool.true_or, Bool.or_self, if_true, if_false, Bool.false_eq_true, Int.add_zero, Int.zero_add]
  omega
theorem Is.tabE4 : ∀ op, op < 60 → Is.fm op = 4 → Is.wd op = Is.wd op % 128 + Is.f3 op * 4096 := by decide +kernel

set_option maxRecDepth 100000 in
set_option maxHeartbeats 20000000 in
theorem renc4 (op : Nat) (h : 1 ≤ op ∧ op ≤ 59) (hk : Is.fm op = 4) (rd rs1 rs2 imm : Int) (aq rl : Bool) (hi : Is.Wd imm) (brd : 0 ≤ rd ∧ rd ≤ 31) (brs1 : 0 ≤ rs1 ∧ rs1 ≤ 31)  (w : World) :
    Calls Tryd.prog 7 #[inst op rd rs1 0 imm false false] w fun e w' => e = .returned (.int .u32 (Is.wordO op rd rs1 0 imm false false)) ∧ Below w.heap.size w w' := by
  have HF := Lib.hid (show Is.fb (Is.fm op) = 108 by rw [hk]; rfl)
  have HI := Lib.hid hi
  have HT := Lib.hid (Is.tabE4 op (by omega) hk)
  have HK := Lib.hid hk
  unfold Is.Wd at hi
  clear hk
  have z1 := Is.f3_bd op (by omega)
  have z2 := Is.f7_bd op (by omega)
  have z3 : 0 ≤ Is.wd op % 128 ∧ Is.wd op % 128 ≤ 127 := by omega
  unfold inst
  go_enter Tryd.func7, Tryd.ntmps7
  go_wp2_with (first
      | (go_at_call 15; refine (ropcode_any op h _).mono ?_; rintro e w' ⟨rfl, rfl⟩)
      | (go_at_call 13; refine (rform_yes op h _).mono ?_; rw [HF.out]; rintro e w' ⟨rfl, rfl⟩)
      | (go_at_call 18; with_reducible refine (rpow_lit 20 1048576 (by omega) rfl _).mono ?_; rintro e w' ⟨rfl, rfl⟩)
      | (go_at_call 18; with_reducible refine (rpow_lit 31 2147483648 (by omega) rfl _).mono ?_; rintro e w' ⟨rfl, rfl⟩)
      | (go_at_call 18; with_reducible refine (rpow_lit 21 2097152 (by omega) rfl _).mono ?_; rintro e w' ⟨rfl, rfl⟩)
      | (go_at_call 18; with_reducible refine (rpow_lit 12 4096 (by omega) rfl _).mono ?_; rintro e w' ⟨rfl, rfl⟩)
      | (go_at_call 18; with_reducible refine (rpow_lit 25 33554432 (by omega) rfl _).mono ?_; rintro e w' ⟨rfl, rfl⟩)
      | (go_at_call 18; with_reducible refine (rpow_lit 8 256 (by omega) rfl _).mono ?_; rintro e w' ⟨rfl, rfl⟩)
      | (go_at_call 18; with_reducible refine (rpow_lit 7 128 (by omega) rfl _).mono ?_; rintro e w' ⟨rfl, rfl⟩)
      | (go_at_call 18; with_reducible refine (rpow_lit 26 67108864 (by omega) rfl _).mono ?_; rintro e w' ⟨rfl, rfl⟩)
      | (go_at_call 17; with_reducible refine (rbits_lit imm 20 20 _ HI.out (by omega) (by omega) (by omega) (Is.bt_20_20 imm) _).mono ?_; rintro e w' ⟨rfl, rfl⟩)
      | (go_at_call 17; with_reducible refine (rbits_lit imm 10 1 _ HI.out (by omega) (by omega) (by omega) (Is.bt_10_1 imm) _).mono ?_; rintro e w' ⟨rfl, rfl⟩)
      | (go_at_call 17; with_reducible refine (rbits_lit imm 11 11 _ HI.out (by omega) (by omega) (by omega) (Is.bt_11_11 imm) _).mono ?_; rintro e w' ⟨rfl, rfl⟩)
      | (go_at_call 17; with_reducible refine (rbits_lit imm 19 12 _ HI.out (by omega) (by omega) (by omega) (Is.bt_19_12 imm) _).mono ?_; rintro e w' ⟨rfl, rfl⟩)
      | (go_at_call 17; with_reducible refine (rbits_lit imm 12 12 _ HI.out (by omega) (by omega) (by omega) (Is.bt_12_12 imm) _).mono ?_; rintro e w' ⟨rfl, rfl⟩)
      | (go_at_call 17; with_reducible refine (rbits_lit imm 10 5 _ HI.out (by omega) (by omega) (by omega) (Is.bt_10_5 imm) _).mono ?_; rintro e w' ⟨rfl, rfl⟩)
      | (go_at_call 17; with_reducible refine (rbits_lit imm 4 1 _ HI.out (by omega) (by omega) (by omega) (Is.bt_4_1 imm) _).mono ?_; rintro e w' ⟨rfl, rfl⟩)
      | (go_at_call 17; with_reducible refine (rbits_lit imm 11 5 _ HI.out (by omega) (by omega) (by omega) (Is.bt_11_5 imm) _).mono ?_; rintro e w' ⟨rfl, rfl⟩)
      | (go_at_call 17; with_reducible refine (rbits_lit imm 4 0 _ HI.out (by omega) (by omega) (by omega) (Is.bt_4_0 imm) _).mono ?_; rintro e w' ⟨rfl, rfl⟩)
      | (go_at_call 17; with_reducible refine (rbits_lit imm 11 0 _ HI.out (by omega) (by omega) (by omega) (Is.bt_11_0 imm) _).mono ?_; rintro e w' ⟨rfl, rfl⟩))
  refine (rf3_any op h _).mono ?_
  rintro e w1 ⟨rfl, hb1⟩
  have hc0 : w1.cell? ⟨w.heap.size, 0, none⟩ = some (.int .i64 (op : Int)) := (hb1.cell (p := ⟨w.heap.size, 0, none⟩) (by simp)).trans (by go_simp)
  have hc1 : w1.cell? ⟨w.heap.size, 1, none⟩ = some (.int .i64 rd) := (hb1.cell (p := ⟨w.heap.size, 1, none⟩) (by simp)).trans (by go_simp)
  have hc2 : w1.cell? ⟨w.heap.size, 2, none⟩ = some (.int .i64 rs1) := (hb1.cell (p := ⟨w.heap.size, 2, none⟩) (by simp)).trans (by go_simp)
  have hc3 : w1.cell? ⟨w.heap.size, 3, none⟩ = some (.int .i64 0) := (hb1.cell (p := ⟨w.heap.size, 3, none⟩) (by simp)).trans (by go_simp)
  have hc4 : w1.cell? ⟨w.heap.size, 4, none⟩ = some (.int .u32 imm) := (hb1.cell (p := ⟨w.heap.size, 4, none⟩) (by simp)).trans (by go_simp)
  have HB1 := Lib.hid hb1; clear hb1
  go_wp2_with (first
      | (go_at_call 15; refine (ropcode_any op h _).mono ?_; rintro e w' ⟨rfl, rfl⟩)
      | (go_at_call 13; refine (rform_yes op h _).mono ?_; rw [HF.out]; rintro e w' ⟨rfl, rfl⟩)
      | (go_at_call 18; with_reducible refine (rpow_lit 20 1048576 (by omega) rfl _).mono ?_; rintro e w' ⟨rfl, rfl⟩)
      | (go_at_call 18; with_reducible refine (rpow_lit 31 2147483648 (by omega) rfl _).mono ?_; rintro e w' ⟨rfl, rfl⟩)
      | (go_at_call 18; with_reducible refine (rpow_lit 21 2097152 (by omega) rfl _).mono ?_; rintro e w' ⟨rfl, rfl⟩)
      | (go_at_call 18; with_reducible refine (rpow_lit 12 4096 (by omega) rfl _).mono ?_; rintro e w' ⟨rfl, rfl⟩)
      | (go_at_call 18; with_reducible refine (rpow_lit 25 33554432 (by omega) rfl _).mono ?_; rintro e w' ⟨rfl, rfl⟩)
      | (go_at_call 18; with_reducible refine (rpow_lit 8 256 (by omega) rfl _).mono ?_; rintro e w' ⟨rfl, rfl⟩)
      | (go_at_call 18; with_reducible refine (rpow_lit 7 128 (by omega) rfl _).mono ?_; rintro e w' ⟨rfl, rfl⟩)
      | (go_at_call 18; with_reducible refine (rpow_lit 26 67108864 (by omega) rfl _).mono ?_; rintro e w' ⟨rfl, rfl⟩)
      | (go_at_call 17; with_reducible refine (rbits_lit imm 20 20 _ HI.out (by omega) (by omega) (by omega) (Is.bt_20_20 imm) _).mono ?_; rintro e w' ⟨rfl, rfl⟩)
      | (go_at_call 17; with_reducible refine (rbits_lit imm 10 1 _ HI.out (by omega) (by omega) (by omega) (Is.bt_10_1 imm) _).mono ?_; rintro e w' ⟨rfl, rfl⟩)
      | (go_at_call 17; with_reducible refine (rbits_lit imm 11 11 _ HI.out (by omega) (by omega) (by omega) (Is.bt_11_11 imm) _).mono ?_; rintro e w' ⟨rfl, rfl⟩)
      | (go_at_call 17; with_reducible refine (rbits_lit imm 19 12 _ HI.out (by omega) (by omega) (by omega) (Is.bt_19_12 imm) _).mono ?_; rintro e w' ⟨rfl, rfl⟩)
      | (go_at_call 17; with_reducible refine (rbits_lit imm 12 12 _ HI.out (by omega) (by omega) (by omega) (Is.bt_12_12 imm) _).mono ?_; rintro e w' ⟨rfl, rfl⟩)
      | (go_at_call 17; with_reducible refine (rbits_lit imm 10 5 _ HI.out (by omega) (by omega) (by omega) (Is.bt_10_5 imm) _).mono ?_; rintro e w' ⟨rfl, rfl⟩)
      | (go_at_call 17; with_reducible refine (rbits_lit imm 4 1 _ HI.out (by omega) (by omega) (by omega) (Is.bt_4_1 imm) _).mono ?_; rintro e w' ⟨rfl, rfl⟩)
      | (go_at_call 17; with_reducible refine (rbits_lit imm 11 5 _ HI.out (by omega) (by omega) (by omega) (Is.bt_11_5 imm) _).mono ?_; rintro e w' ⟨rfl, rfl⟩)
      | (go_at_call 17; with_reducible refine (rbits_lit imm 4 0 _ HI.out (by omega) (by omega) (by omega) (Is.bt_4_0 imm) _).mono ?_; rintro e w' ⟨rfl, rfl⟩)
      | (go_at_call 17; with_reducible refine (rbits_lit imm 11 0 _ HI.out (by omega) (by omega) (by omega) (Is.bt_11_0 imm) _).mono ?_; rintro e w' ⟨rfl, rfl⟩))
  go_ret
  refine ⟨ret_int ?_, (((Below.refl w.heap.size w).alloc (Nat.le_refl _) _).trans (HB1.out.mono (by simp)))⟩
  unfold Is.wordO
  have e0 := HT.out
  rw [HK.out]
  simp only [Is.layO, Is.placeO, Is.hasRd, Is.hasRs1, Is.hasRs2, Is.hasOrd, Is.shortPlace, Nat.reduceBEq, Bool.or_false, Bool.or_true, Bool.false_or, Bool.not_false, Bool.not_true, Bool.true_or, Bool.or_self, if_true, if_false, Bool.false_eq_true, Int.add_zero, Int.zero_add]
  omega
theorem Is.tabE5 : ∀ op, op < 60 → Is.fm op = 5 → Is.wd op = Is.wd op % 128 + Is.f3 op * 4096 + Is.f7 op * 33554432 := by decide +kernel

set_option maxRecDepth 100000 in
set_option maxHeartbeats 20000000 in
theorem renc5 (op : Nat) (h : 1 ≤ op ∧ op ≤ 59) (hk : Is.fm op = 5) (rd rs1 rs2 imm : Int) (aq rl : Bool) (hi : Is.Wd imm) (brd : 0 ≤ rd ∧ rd ≤ 31) (brs1 : 0 ≤ rs1 ∧ rs1 ≤ 31) (hm : imm ≤ 31) (w : World) :
    Calls Tryd.prog 7 #[inst op rd rs1 0 imm false false] w fun e w' => e = .returned (.int .u32 (Is.wordO op rd rs1 0 imm false false)) ∧ Below w.heap.size w w' := by
  have HF := Lib.hid (show Is.fb (Is.fm op) = 104 by rw [hk]; rfl)
  have HI := Lib.hid hi
  have HT := Lib.hid (Is.tabE5 op (by omega) hk)
  have HK := Lib.hid hk
  unfold Is.Wd at hi
  clear hk
  have z1 := Is.f3_bd op (by omega)
  have z2 := Is.f7_bd op (by omega)
  have z3 : 0 ≤ Is.wd op % 128 ∧ Is.wd op % 128 ≤ 127 := by omega
  unfold inst
  go_enter Tryd.func7, Tryd.ntmps7
  go_wp2_with (first
      | (go_at_call 15; refine (ropcode_any op h _).mono ?_; rintro e w' ⟨rfl, rfl⟩)
      | (go_at_call 13; refine (rform_yes op h _).mono ?_; rw [HF.out]; rintro e w' ⟨rfl, rfl⟩)
      | (go_at_call 18; with_reducible refine (rpow_lit 20 1048576 (by omega) rfl _).mono ?_; rintro e w' ⟨rfl, rfl⟩)
      | (go_at_call 18; with_reducible refine (rpow_lit 31 2147483648 (by omega) rfl _).mono ?_; rintro e w' ⟨rfl, rfl⟩)
      | (go_at_call 18; with_reducible refine (rpow_lit 21 2097152 (by omega) rfl _).mono ?_; rintro e w' ⟨rfl, rfl⟩)
      | (go_at_call 18; with_reducible refine (rpow_lit 12 4096 (by omega) rfl _).mono ?_; rintro e w' ⟨rfl, rfl⟩)
      | (go_at_call 18; with_reducible refine (rpow_lit 25 33554432 (by omega) rfl _).mono ?_; rintro e w' ⟨rfl, rfl⟩)
      | (go_at_call 18; with_reducible refine (rpow_lit 8 256 (by omega) rfl _).mono ?_; rintro e w' ⟨rfl, rfl⟩)
      | (go_at_call 18; with_reducible refine (rpow_lit 7 128 (by omega) rfl _).mono ?_; rintro e w' ⟨rfl, rfl⟩)
      | (go_at_call 18; with_reducible refine (rpow_lit 26 67108864 (by omega) rfl _).mono ?_; rintro e w' ⟨rfl, rfl⟩)
      | (go_at_call 17; with_reducible refine (rbits_lit imm 20 20 _ HI.out (by omega) (by omega) (by omega) (Is.bt_20_20 imm) _).mono ?_; rintro e w' ⟨rfl, rfl⟩)
      | (go_at_call 17; with_reducible refine (rbits_lit imm 10 1 _ HI.out (by omega) (by omega) (by omega) (Is.bt_10_1 imm) _).mono ?_; rintro e w' ⟨rfl, rfl⟩)
      | (go_at_call 17; with_reducible refine (rbits_lit imm 11 11 _ HI.out (by omega) (by omega) (by omega) (Is.bt_11_11 imm) _).mono ?_; rintro e w' ⟨rfl, rfl⟩)
      | (go_at_call 17; with_reducible refine (rbits_lit imm 19 12 _ HI.out (by omega) (by omega) (by omega) (Is.bt_19_12 imm) _).mono ?_; rintro e w' ⟨rfl, rfl⟩)
      | (go_at_call 17; with_reducible refine (rbits_lit imm 12 12 _ HI.out (by omega) (by omega) (by omega) (Is.bt_12_12 imm) _).mono ?_; rintro e w' ⟨rfl, rfl⟩)
      | (go_at_call 17; with_reducible refine (rbits_lit imm 10 5 _ HI.out (by omega) (by omega) (by omega) (Is.bt_10_5 imm) _).mono ?_; rintro e w' ⟨rfl, rfl⟩)
      | (go_at_call 17; with_reducible refine (rbits_lit imm 4 1 _ HI.out (by omega) (by omega) (by omega) (Is.bt_4_1 imm) _).mono ?_; rintro e w' ⟨rfl, rfl⟩)
      | (go_at_call 17; with_reducible refine (rbits_lit imm 11 5 _ HI.out (by omega) (by omega) (by omega) (Is.bt_11_5 imm) _).mono ?_; rintro e w' ⟨rfl, rfl⟩)
      | (go_at_call 17; with_reducible refine (rbits_lit imm 4 0 _ HI.out (by omega) (by omega) (by omega) (Is.bt_4_0 imm) _).mono ?_; rintro e w' ⟨rfl, rfl⟩)
      | (go_at_call 17; with_reducible refine (rbits_lit imm 11 0 _ HI.out (by omega) (by omega) (by omega) (Is.bt_11_0 imm) _).mono ?_; rintro e w' ⟨rfl, rfl⟩))
  refine (rf3_any op h _).mono ?_
  rintro e w1 ⟨rfl, hb1⟩
  have hc0 : w1.cell? ⟨w.heap.size, 0, none⟩ = some (.int .i64 (op : Int)) := (hb1.cell (p := ⟨w.heap.size, 0, none⟩) (by simp)).trans (by go_simp)
  have hc1 : w1.cell? ⟨w.heap.size, 1, none⟩ = some (.int .i64 rd) := (hb1.cell (p := ⟨w.heap.size, 1, none⟩) (by simp)).trans (by go_simp)
  have hc2 : w1.cell? ⟨w.heap.size, 2, none⟩ = some (.int .i64 rs1) := (hb1.cell (p := ⟨w.heap.size, 2, none⟩) (by simp)).trans (by go_simp)
  have hc3 : w1.cell? ⟨w.heap.size, 3, none⟩ = some (.int .i64 0) := (hb1.cell (p := ⟨w.heap.size, 3, none⟩) (by simp)).trans (by go_simp)
  have hc4 : w1.cell? ⟨w.heap.size, 4, none⟩ = some (.int .u32 imm) := (hb1.cell (p := ⟨w.heap.size, 4, none⟩) (by simp)).trans (by go_simp)
  have HB1 := Lib.hid hb1; clear hb1
  go_wp2_with (first
      | (go_at_call 15; refine (ropcode_any op h _).mono ?_; rintro e w' ⟨rfl, rfl⟩)
      | (go_at_call 13; refine (rform_yes op h _).mono ?_; rw [HF.out]; rintro e w' ⟨rfl, rfl⟩)
      | (go_at_call 18; with_reducible refine (rpow_lit 20 1048576 (by omega) rfl _).mono ?_; rintro e w' ⟨rfl, rfl⟩)
      | (go_at_call 18; with_reducible refine (rpow_lit 31 2147483648 (by omega) rfl _).mono ?_; rintro e w' ⟨rfl, rfl⟩)
      | (go_at_call 18; with_reducible refine (rpow_lit 21 2097152 (by omega) rfl _).mono ?_; rintro e w' ⟨rfl, rfl⟩)
      | (go_at_call 18; with_reducible refine (rpow_lit 12 4096 (by omega) rfl _).mono ?_; rintro e w' ⟨rfl, rfl⟩)
      | (go_at_call 18; with_reducible refine (rpow_lit 25 33554432 (by omega) rfl _).mono ?_; rintro e w' ⟨rfl, rfl⟩)
      | (go_at_call 18; with_reducible refine (rpow_lit 8 256 (by omega) rfl _).mono ?_; rintro e w' ⟨rfl, rfl⟩)
      | (go_at_call 18; with_reducible refine (rpow_lit 7 128 (by omega) rfl _).mono ?_; rintro e w' ⟨rfl, rfl⟩)
      | (go_at_call 18; with_reducible refine (rpow_lit 26 67108864 (by omega) rfl _).mono ?_; rintro e w' ⟨rfl, rfl⟩)
      | (go_at_call 17; with_reducible refine (rbits_lit imm 20 20 _ HI.out (by omega) (by omega) (by omega) (Is.bt_20_20 imm) _).mono ?_; rintro e w' ⟨rfl, rfl⟩)
      | (go_at_call 17; with_reducible refine (rbits_lit imm 10 1 _ HI.out (by omega) (by omega) (by omega) (Is.bt_10_1 imm) _).mono ?_; rintro e w' ⟨rfl, rfl⟩)
      | (go_at_call 17; with_reducible refine (rbits_lit imm 11 11 _ HI.out (by omega) (by omega) (by omega) (Is.bt_11_11 imm) _).mono ?_; rintro e w' ⟨rfl, rfl⟩)
      | (go_at_call 17; with_reducible refine (rbits_lit imm 19 12 _ HI.out (by omega) (by omega) (by omega) (Is.bt_19_12 imm) _).mono ?_; rintro e w' ⟨rfl, rfl⟩)
      | (go_at_call 17; with_reducible refine (rbits_lit imm 12 12 _ HI.out (by omega) (by omega) (by omega) (Is.bt_12_12 imm) _).mono ?_; rintro e w' ⟨rfl, rfl⟩)
      | (go_at_call 17; with_reducible refine (rbits_lit imm 10 5 _ HI.out (by omega) (by omega) (by omega) (Is.bt_10_5 imm) _).mono ?_; rintro e w' ⟨rfl, rfl⟩)
      | (go_at_call 17; with_reducible refine (rbits_lit imm 4 1 _ HI.out (by omega) (by omega) (by omega) (Is.bt_4_1 imm) _).mono ?_; rintro e w' ⟨rfl, rfl⟩)
      | (go_at_call 17; with_reducible refine (rbits_lit imm 11 5 _ HI.out (by omega) (by omega) (by omega) (Is.bt_11_5 imm) _).mono ?_; rintro e w' ⟨rfl, rfl⟩)
      | (go_at_call 17; with_reducible refine (rbits_lit imm 4 0 _ HI.out (by omega) (by omega) (by omega) (Is.bt_4_0 imm) _).mono ?_; rintro e w' ⟨rfl, rfl⟩)
      | (go_at_call 17; with_reducible refine (rbits_lit imm 11 0 _ HI.out (by omega) (by omega) (by omega) (Is.bt_11_0 imm) _).mono ?_; rintro e w' ⟨rfl, rfl⟩))
  refine (rf7_any op h _).mono ?_
  rintro e w2 ⟨rfl, hb2⟩
  have HB2 := Lib.hid hb2; clear hb2
  go_wp2_with (first
      | (go_at_call 15; refine (ropcode_any op h _).mono ?_; rintro e w' ⟨rfl, rfl⟩)
      | (go_at_call 13; refine (rform_yes op h _).mono ?_; rw [HF.out]; rintro e w' ⟨rfl, rfl⟩)
      | (go_at_call 18; with_reducible refine (rpow_lit 20 1048576 (by omega) rfl _).mono ?_; rintro e w' ⟨rfl, rfl⟩)
      | (go_at_call 18; with_reducible refine (rpow_lit 31 2147483648 (by omega) rfl _).mono ?_; rintro e w' ⟨rfl, rfl⟩)
      | (go_at_call 18; with_reducible refine (rpow_lit 21 2097152 (by omega) rfl _).mono ?_; rintro e w' ⟨rfl, rfl⟩)
      | (go_at_call 18; with_reducible refine (rpow_lit 12 4096 (by omega) rfl _).mono ?_; rintro e w' ⟨rfl, rfl⟩)
      | (go_at_call 18; with_reducible refine (rpow_lit 25 33554432 (by omega) rfl _).mono ?_; rintro e w' ⟨rfl, rfl⟩)
      | (go_at_call 18; with_reducible refine (rpow_lit 8 256 (by omega) rfl _).mono ?_; rintro e w' ⟨rfl, rfl⟩)
      | (go_at_call 18; with_reducible refine (rpow_lit 7 128 (by omega) rfl _).mono ?_; rintro e w' ⟨rfl, rfl⟩)
      | (go_at_call 18; with_reducible refine (rpow_lit 26 67108864 (by omega) rfl _).mono ?_; rintro e w' ⟨rfl, rfl⟩)
      | (go_at_call 17; with_reducible refine (rbits_lit imm 20 20 _ HI.out (by omega) (by omega) (by omega) (Is.bt_20_20 imm) _).mono ?_; rintro e w' ⟨rfl, rfl⟩)
      | (go_at_call 17; with_reducible refine (rbits_lit imm 10 1 _ HI.out (by omega) (by omega) (by omega) (Is.bt_10_1 imm) _).mono ?_; rintro e w' ⟨rfl, rfl⟩)
      | (go_at_call 17; with_reducible refine (rbits_lit imm 11 11 _ HI.out (by omega) (by omega) (by omega) (Is.bt_11_11 imm) _).mono ?_; rintro e w' ⟨rfl, rfl⟩)
      | (go_at_call 17; with_reducible refine (rbits_lit imm 19 12 _ HI.out (by omega) (by omega) (by omega) (Is.bt_19_12 imm) _).mono ?_; rintro e w' ⟨rfl, rfl⟩)
      | (go_at_call 17; with_reducible refine (rbits_lit imm 12 12 _ HI.out (by omega) (by omega) (by omega) (Is.bt_12_12 imm) _).mono ?_; rintro e w' ⟨rfl, rfl⟩)
      | (go_at_call 17; with_reducible refine (rbits_lit imm 10 5 _ HI.out (by omega) (by omega) (by omega) (Is.bt_10_5 imm) _).mono ?_; rintro e w' ⟨rfl, rfl⟩)
      | (go_at_call 17; with_reducible refine (rbits_lit imm 4 1 _ HI.out (by omega) (by omega) (by omega) (Is.bt_4_1 imm) _).mono ?_; rintro e w' ⟨rfl, rfl⟩)
      | (go_at_call 17; with_reducible refine (rbits_lit imm 11 5 _ HI.out (by omega) (by omega) (by omega) (Is.bt_11_5 imm) _).mono ?_; rintro e w' ⟨rfl, rfl⟩)
      | (go_at_call 17; with_reducible refine (rbits_lit imm 4 0 _ HI.out (by omega) (by omega) (by omega) (Is.bt_4_0 imm) _).mono ?_; rintro e w' ⟨rfl, rfl⟩)
      | (go_at_call 17; with_reducible refine (rbits_lit imm 11 0 _ HI.out (by omega) (by omega) (by omega) (Is.bt_11_0 imm) _).mono ?_; rintro e w' ⟨rfl, rfl⟩))
  go_ret
  refine ⟨ret_int ?_, ((((Below.refl w.heap.size w).alloc (Nat.le_refl _) _).trans (HB1.out.mono (by simp))).trans (HB2.out.mono (by have := HB1.out.size; simp at this ⊢; omega)))⟩
  unfold Is.wordO
  have e0 := HT.out
  rw [HK.out]
  simp only [Is.layO, Is.placeO, Is.hasRd, Is.hasRs1, Is.hasRs2, Is.hasOrd, Is.shiftPlace, Nat.reduceBEq, Bool.or_false, Bool.or_true, Bool.false_or, Bool.not_false, Bool.not_true, Bool.true_or, Bool.or_self, if_true, if_false, Bool.false_eq_true, Int.add_zero, Int.zero_add]
  omega
theorem Is.tabE6 : ∀ op, op < 60 → Is.fm op = 6 → Is.wd op = Is.wd op % 128 + Is.f3 op * 4096 := by decide +kernel

set_option maxRecDepth 100000 in
set_option maxHeartbeats 20000000 in
theorem renc6 (op : Nat) (h : 1 ≤ op ∧ op ≤ 59) (hk : Is.fm op = 6) (rd rs1 rs2 imm : Int) (aq rl : Bool) (hi : Is.Wd imm) (brs1 : 0 ≤ rs1 ∧ rs1 ≤ 31) (brs2 : 0 ≤ rs2 ∧ rs2 ≤ 31)  (w : World) :
    Calls Tryd.prog 7 #[inst op 0 rs1 rs2 imm false false] w fun e w' => e = .returned (.int .u32 (Is.wordO op 0 rs1 rs2 imm false false)) ∧ Below w.heap.size w w' := by
  have HF := Lib.hid (show Is.fb (Is.fm op) = 98 by rw [hk]; rfl)
  have HI := Lib.hid hi
  have HT := Lib.hid (Is.tabE6 op (by omega) hk)
  have HK := Lib.hid hk
  unfold Is.Wd at hi
  clear hk
  have z1 := Is.f3_bd op (by omega)
  have z2 := Is.f7_bd op (by omega)
  have z3 : 0 ≤ Is.wd op % 128 ∧ Is.wd op % 128 ≤ 127 := by omega
  unfold inst
  go_enter Tryd.func7, Tryd.ntmps7
  go_wp2_with (first
      | (go_at_call 15; refine (ropcode_any op h _).mono ?_; rintro e w' ⟨rfl, rfl⟩)
      | (go_at_call 13; refine (rform_yes op h _).mono ?_; rw [HF.out]; rintro e w' ⟨rfl, rfl⟩)
      | (go_at_call 18; with_reducible refine (rpow_lit 20 1048576 (by omega) rfl _).mono ?_; rintro e w' ⟨rfl, rfl⟩)
      | (go_at_call 18; with_reducible refine (rpow_lit 31 2147483648 (by omega) rfl _).mono ?_; rintro e w' ⟨rfl, rfl⟩)
      | (go_at_call 18; with_reducible refine (rpow_lit 21 2097152 (by omega) rfl _).mono ?_; rintro e w' ⟨rfl, rfl⟩)
      | (go_at_call 18; with_reducible refine (rpow_lit 12 4096 (by omega) rfl _).mono ?_; rintro e w' ⟨rfl, rfl⟩)
      | (go_at_call 18; with_reducible refine (rpow_lit 25 33554432 (by omega) rfl _).mono ?_; rintro e w' ⟨rfl, rfl⟩)
      | (go_at_call 18; with_reducible refine (rpow_lit 8 256 (by omega) rfl _).mono ?_; rintro e w' ⟨rfl, rfl⟩)
      | (go_at_call 18; with_reducible refine (rpow_lit 7 128 (by omega) rfl _).mono ?_; rintro e w' ⟨rfl, rfl⟩)
      | (go_at_call 18; with_reducible refine (rpow_lit 26 67108864 (by omega) rfl _).mono ?_; rintro e w' ⟨rfl, rfl⟩)
      | (go_at_call 17; with_reducible refine (rbits_lit imm 20 20 _ HI.out (by omega) (by omega) (by omega) (Is.bt_20_20 imm) _).mono ?_; rintro e w' ⟨rfl, rfl⟩)
      | (go_at_call 17; with_reducible refine (rbits_lit imm 10 1 _ HI.out (by omega) (by omega) (by omega) (Is.bt_10_1 imm) _).mono ?_; rintro e w' ⟨rfl, rfl⟩)
      | (go_at_call 17; with_reducible refine (rbits_lit imm 11 11 _ HI.out (by omega) (by omega) (by omega) (Is.bt_11_11 imm) _).mono ?_; rintro e w' ⟨rfl, rfl⟩)
      | (go_at_call 17; with_reducible refine (rbits_lit imm 19 12 _ HI.out (by omega) (by omega) (by omega) (Is.bt_19_12 imm) _).mono ?_; rintro e w' ⟨rfl, rfl⟩)
      | (go_at_call 17; with_reducible refine (rbits_lit imm 12 12 _ HI.out (by omega) (by omega) (by omega) (Is.bt_12_12 imm) _).mono ?_; rintro e w' ⟨rfl, rfl⟩)
      | (go_at_call 17; with_reducible refine (rbits_lit imm 10 5 _ HI.out (by omega) (by omega) (by omega) (Is.bt_10_5 imm) _).mono ?_; rintro e w' ⟨rfl, rfl⟩)
      | (go_at_call 17; with_reducible refine (rbits_lit imm 4 1 _ HI.out (by omega) (by omega) (by omega) (Is.bt_4_1 imm) _).mono ?_; rintro e w' ⟨rfl, rfl⟩)
      | (go_at_call 17; with_reducible refine (rbits_lit imm 11 5 _ HI.out (by omega) (by omega) (by omega) (Is.bt_11_5 imm) _).mono ?_; rintro e w' ⟨rfl, rfl⟩)
      | (go_at_call 17; with_reducible refine (rbits_lit imm 4 0 _ HI.out (by omega) (by omega) (by omega) (Is.bt_4_0 imm) _).mono ?_; rintro e w' ⟨rfl, rfl⟩)
      | (go_at_call 17; with_reducible refine (rbits_lit imm 11 0 _ HI.out (by omega) (by omega) (by omega) (Is.bt_11_0 imm) _).mono ?_; rintro e w' ⟨rfl, rfl⟩))
  refine (rf3_any op h _).mono ?_
  rintro e w1 ⟨rfl, hb1⟩
  have hc0 : w1.cell? ⟨w.heap.size, 0, none⟩ = some (.int .i64 (op : Int)) := (hb1.cell (p := ⟨w.heap.size, 0, none⟩) (by simp)).trans (by go_simp)
  have hc1 : w1.cell? ⟨w.heap.size, 1, none⟩ = some (.int .i64 0) := (hb1.cell (p := ⟨w.heap.size, 1, none⟩) (by simp)).trans (by go_simp)
  have hc2 : w1.cell? ⟨w.heap.size, 2, none⟩ = some (.int .i64 rs1) := (hb1.cell (p := ⟨w.heap.size, 2, none⟩) (by simp)).trans (by go_simp)
  have hc3 : w1.cell? ⟨w.heap.size, 3, none⟩ = some (.int .i64 rs2) := (hb1.cell (p := ⟨w.heap.size, 3, none⟩) (by simp)).trans (by go_simp)
  have hc4 : w1.cell? ⟨w.heap.size, 4, none⟩ = some (.int .u32 imm) := (hb1.cell (p := ⟨w.heap.size, 4, none⟩) (by simp)).trans (by go_simp)
  have HB1 := Lib.hid hb1; clear hb1
  go_wp2_with (first
      | (go_at_call 15; refine (ropcode_any op h _).mono ?_; rintro e w' ⟨rfl, rfl⟩)
      | (go_at_call 13; refine (rform_yes op h _).mono ?_; rw [HF.out]; rintro e w' ⟨rfl, rfl⟩)
      | (go_at_call 18; with_reducible refine (rpow_lit 20 1048576 (by omega) rfl _).mono ?_; rintro e w' ⟨rfl, rfl⟩)
      | (go_at_call 18; with_reducible refine (rpow_lit 31 2147483648 (by omega) rfl _).mono ?_; rintro e w' ⟨rfl, rfl⟩)
      | (go_at_call 18; with_reducible refine (rpow_lit 21 2097152 (by omega) rfl _).mono ?_; rintro e w' ⟨rfl, rfl⟩)
      | (go_at_call 18; with_reducible refine (rpow_lit 12 4096 (by omega) rfl _).mono ?_; rintro e w' ⟨rfl, rfl⟩)
      | (go_at_call 18; with_reducible refine (rpow_lit 25 33554432 (by omega) rfl _).mono ?_; rintro e w' ⟨rfl, rfl⟩)
      | (go_at_call 18; with_reducible refine (rpow_lit 8 256 (by omega) rfl _).mono ?_; rintro e w' ⟨rfl, rfl⟩)
      | (go_at_call 18; with_reducible refine (rpow_lit 7 128 (by omega) rfl _).mono ?_; rintro e w' ⟨rfl, rfl⟩)
      | (go_at_call 18; with_reducible refine (rpow_lit 26 67108864 (by omega) rfl _).mono ?_; rintro e w' ⟨rfl, rfl⟩)
      | (go_at_call 17; with_reducible refine (rbits_lit imm 20 20 _ HI.out (by omega) (by omega) (by omega) (Is.bt_20_20 imm) _).mono ?_; rintro e w' ⟨rfl, rfl⟩)
      | (go_at_call 17; with_reducible refine (rbits_lit imm 10 1 _ HI.out (by omega) (by omega) (by omega) (Is.bt_10_1 imm) _).mono ?_; rintro e w' ⟨rfl, rfl⟩)
      | (go_at_call 17; with_reducible refine (rbits_lit imm 11 11 _ HI.out (by omega) (by omega) (by omega) (Is.bt_11_11 imm) _).mono ?_; rintro e w' ⟨rfl, rfl⟩)
      | (go_at_call 17; with_reducible refine (rbits_lit imm 19 12 _ HI.out (by omega) (by omega) (by omega) (Is.bt_19_12 imm) _).mono ?_; rintro e w' ⟨rfl, rfl⟩)
      | (go_at_call 17; with_reducible refine (rbits_lit imm 12 12 _ HI.out (by omega) (by omega) (by omega) (Is.bt_12_12 imm) _).mono ?_; rintro e w' ⟨rfl, rfl⟩)
      | (go_at_call 17; with_reducible refine (rbits_lit imm 10 5 _ HI.out (by omega) (by omega) (by omega) (Is.bt_10_5 imm) _).mono ?_; rintro e w' ⟨rfl, rfl⟩)
      | (go_at_call 17; with_reducible refine (rbits_lit imm 4 1 _ HI.out (by omega) (by omega) (by omega) (Is.bt_4_1 imm) _).mono ?_; rintro e w' ⟨rfl, rfl⟩)
      | (go_at_call 17; with_reducible refine (rbits_lit imm 11 5 _ HI.out (by omega) (by omega) (by omega) (Is.bt_11_5 imm) _).mono ?_; rintro e w' ⟨rfl, rfl⟩)
      | (go_at_call 17; with_reducible refine (rbits_lit imm 4 0 _ HI.out (by omega) (by omega) (by omega) (Is.bt_4_0 imm) _).mono ?_; rintro e w' ⟨rfl, rfl⟩)
      | (go_at_call 17; with_reducible refine (rbits_lit imm 11 0 _ HI.out (by omega) (by omega) (by omega) (Is.bt_11_0 imm) _).mono ?_; rintro e w' ⟨rfl, rfl⟩))
  go_ret
  refine ⟨ret_int ?_, (((Below.refl w.heap.size w).alloc (Nat.le_refl _) _).trans (HB1.out.mono (by simp)))⟩
  unfold Is.wordO
  have e0 := HT.out
  rw [HK.out]
  simp only [Is.layO, Is.placeO, Is.hasRd, Is.hasRs1, Is.hasRs2, Is.hasOrd, Is.branchPlace, Nat.reduceBEq, Bool.or_false, Bool.or_true, Bool.false_or, Bool.not_false, Bool.not_true, Bool.true_or, Bool.or_self, if_true, if_false, Bool.false_eq_true, Int.add_zero, Int.zero_add]
  omega
theorem Is.tabE7 : ∀ op, op < 60 → Is.fm op = 7 → Is.wd op = Is.wd op % 128 + Is.f3 op * 4096 := by decide +kernel

set_option maxRecDepth 100000 in
set_option maxHeartbeats 20000000 in
theorem renc7 (op : Nat) (h : 1 ≤ op ∧ op ≤ 59) (hk : Is.fm op = 7) (rd rs1 rs2 imm : Int) (aq rl : Bool) (hi : Is.Wd imm) (brs1 : 0 ≤ rs1 ∧ rs1 ≤ 31) (brs2 : 0 ≤ rs2 ∧ rs2 ≤ 31)  (w : World) :
    Calls Tryd.prog 7 #[inst op 0 rs1 rs2 imm false false] w fun e w' => e = .returned (.int .u32 (Is.wordO op 0 rs1 rs2 imm false false)) ∧ Below w.heap.size w w' := by
  have HF := Lib.hid (show Is.fb (Is.fm op) = 115 by rw [hk]; rfl)
  have HI := Lib.hid hi
  have HT := Lib.hid (Is.tabE7 op (by omega) hk)
  have HK := Lib.hid hk
  unfold Is.Wd at hi
  clear hk
  have z1 := Is.f3_bd op (by omega)
  have z2 := Is.f7_bd op (by omega)
  have z3 : 0 ≤ Is.wd op % 128 ∧ Is.wd op % 128 ≤ 127 := by omega
  unfold inst
  go_enter Tryd.func7, Tryd.ntmps7
  go_wp2_with (first
      | (go_at_call 15; refine (ropcode_any op h _).mono ?_; rintro e w' ⟨rfl, rfl⟩)
      | (go_at_call 13; refine (rform_yes op h _).mono ?_; rw [HF.out]; rintro e w' ⟨rfl, rfl⟩)
      | (go_at_call 18; with_reducible refine (rpow_lit 20 1048576 (by omega) rfl _).mono ?_; rintro e w' ⟨rfl, rfl⟩)
      | (go_at_call 18; with_reducible refine (rpow_lit 31 2147483648 (by omega) rfl _).mono ?_; rintro e w' ⟨rfl, rfl⟩)
      | (go_at_call 18; with_reducible refine (rpow_lit 21 2097152 (by omega) rfl _).mono ?_; rintro e w' ⟨rfl, rfl⟩)
      | (go_at_call 18; with_reducible refine (rpow_lit 12 4096 (by omega) rfl _).mono ?_; rintro e w' ⟨rfl, rfl⟩)
      | (go_at_call 18; with_reducible refine (rpow_lit 25 33554432 (by omega) rfl _).mono ?_; rintro e w' ⟨rfl, rfl⟩)
      | (go_at_call 18; with_reducible refine (rpow_lit 8 256 (by omega) rfl _).mono ?_; rintro e w' ⟨rfl, rfl⟩)
      | (go_at_call 18; with_reducible refine (rpow_lit 7 128 (by omega) rfl _).mono ?_; rintro e w' ⟨rfl, rfl⟩)
      | (go_at_call 18; with_reducible refine (rpow_lit 26 67108864 (by omega) rfl _).mono ?_; rintro e w' ⟨rfl, rfl⟩)
      | (go_at_call 17; with_reducible refine (rbits_lit imm 20 20 _ HI.out (by omega) (by omega) (by omega) (Is.bt_20_20 imm) _).mono ?_; rintro e w' ⟨rfl, rfl⟩)
      | (go_at_call 17; with_reducible refine (rbits_lit imm 10 1 _ HI.out (by omega) (by omega) (by omega) (Is.bt_10_1 imm) _).mono ?_; rintro e w' ⟨rfl, rfl⟩)
      | (go_at_call 17; with_reducible refine (rbits_lit imm 11 11 _ HI.out (by omega) (by omega) (by omega) (Is.bt_11_11 imm) _).mono ?_; rintro e w' ⟨rfl, rfl⟩)
      | (go_at_call 17; with_reducible refine (rbits_lit imm 19 12 _ HI.out (by omega) (by omega) (by omega) (Is.bt_19_12 imm) _).mono ?_; rintro e w' ⟨rfl, rfl⟩)
      | (go_at_call 17; with_reducible refine (rbits_lit imm 12 12 _ HI.out (by omega) (by omega) (by omega) (Is.bt_12_12 imm) _).mono ?_; rintro e w' ⟨rfl, rfl⟩)
      | (go_at_call 17; with_reducible refine (rbits_lit imm 10 5 _ HI.out (by omega) (by omega) (by omega) (Is.bt_10_5 imm) _).mono ?_; rintro e w' ⟨rfl, rfl⟩)
      | (go_at_call 17; with_reducible refine (rbits_lit imm 4 1 _ HI.out (by omega) (by omega) (by omega) (Is.bt_4_1 imm) _).mono ?_; rintro e w' ⟨rfl, rfl⟩)
      | (go_at_call 17; with_reducible refine (rbits_lit imm 11 5 _ HI.out (by omega) (by omega) (by omega) (Is.bt_11_5 imm) _).mono ?_; rintro e w' ⟨rfl, rfl⟩)
      | (go_at_call 17; with_reducible refine (rbits_lit imm 4 0 _ HI.out (by omega) (by omega) (by omega) (Is.bt_4_0 imm) _).mono ?_; rintro e w' ⟨rfl, rfl⟩)
      | (go_at_call 17; with_reducible refine (rbits_lit imm 11 0 _ HI.out (by omega) (by omega) (by omega) (Is.bt_11_0 imm) _).mono ?_; rintro e w' ⟨rfl, rfl⟩))
  refine (rf3_any op h _).mono ?_
  rintro e w1 ⟨rfl, hb1⟩
  have hc0 : w1.cell? ⟨w.heap.size, 0, none⟩ = some (.int .i64 (op : Int)) := (hb1.cell (p := ⟨w.heap.size, 0, none⟩) (by simp)).trans (by go_simp)
  have hc1 : w1.cell? ⟨w.heap.size, 1, none⟩ = some (.int .i64 0) := (hb1.cell (p := ⟨w.heap.size, 1, none⟩) (by simp)).trans (by go_simp)
  have hc2 : w1.cell? ⟨w.heap.size, 2, none⟩ = some (.int .i64 rs1) := (hb1.cell (p := ⟨w.heap.size, 2, none⟩) (by simp)).trans (by go_simp)
  have hc3 : w1.cell? ⟨w.heap.size, 3, none⟩ = some (.int .i64 rs2) := (hb1.cell (p := ⟨w.heap.size, 3, none⟩) (by simp)).trans (by go_simp)
  have hc4 : w1.cell? ⟨w.heap.size, 4, none⟩ = some (.int .u32 imm) := (hb1.cell (p := ⟨w.heap.size, 4, none⟩) (by simp)).trans (by go_simp)
  have HB1 := Lib.hid hb1; clear hb1
  go_wp2_with (first
      | (go_at_call 15; refine (ropcode_any op h _).mono ?_; rintro e w' ⟨rfl, rfl⟩)
      | (go_at_call 13; refine (rform_yes op h _).mono ?_; rw [HF.out]; rintro e w' ⟨rfl, rfl⟩)
      | (go_at_call 18; with_reducible refine (rpow_lit 20 1048576 (by omega) rfl _).mono ?_; rintro e w' ⟨rfl, rfl⟩)
      | (go_at_call 18; with_reducible refine (rpow_lit 31 2147483648 (by omega) rfl _).mono ?_; rintro e w' ⟨rfl, rfl⟩)
      | (go_at_call 18; with_reducible refine (rpow_lit 21 2097152 (by omega) rfl _).mono ?_; rintro e w' ⟨rfl, rfl⟩)
      | (go_at_call 18; with_reducible refine (rpow_lit 12 4096 (by omega) rfl _).mono ?_; rintro e w' ⟨rfl, rfl⟩)
      | (go_at_call 18; with_reducible refine (rpow_lit 25 33554432 (by omega) rfl _).mono ?_; rintro e w' ⟨rfl, rfl⟩)
      | (go_at_call 18; with_reducible refine (rpow_lit 8 256 (by omega) rfl _).mono ?_; rintro e w' ⟨rfl, rfl⟩)
      | (go_at_call 18; with_reducible refine (rpow_lit 7 128 (by omega) rfl _).mono ?_; rintro e w' ⟨rfl, rfl⟩)
      | (go_at_call 18; with_reducible refine (rpow_lit 26 67108864 (by omega) rfl _).mono ?_; rintro e w' ⟨rfl, rfl⟩)
      | (go_at_call 17; with_reducible refine (rbits_lit imm 20 20 _ HI.out (by omega) (by omega) (by omega) (Is.bt_20_20 imm) _).mono ?_; rintro e w' ⟨rfl, rfl⟩)
      | (go_at_call 17; with_reducible refine (rbits_lit imm 10 1 _ HI.out (by omega) (by omega) (by omega) (Is.bt_10_1 imm) _).mono ?_; rintro e w' ⟨rfl, rfl⟩)
      | (go_at_call 17; with_reducible refine (rbits_lit imm 11 11 _ HI.out (by omega) (by omega) (by omega) (Is.bt_11_11 imm) _).mono ?_; rintro e w' ⟨rfl, rfl⟩)
      | (go_at_call 17; with_reducible refine (rbits_lit imm 19 12 _ HI.out (by omega) (by omega) (by omega) (Is.bt_19_12 imm) _).mono ?_; rintro e w' ⟨rfl, rfl⟩)
      | (go_at_call 17; with_reducible refine (rbits_lit imm 12 12 _ HI.out (by omega) (by omega) (by omega) (Is.bt_12_12 imm) _).mono ?_; rintro e w' ⟨rfl, rfl⟩)
      | (go_at_call 17; with_reducible refine (rbits_lit imm 10 5 _ HI.out (by omega) (by omega) (by omega) (Is.bt_10_5 imm) _).mono ?_; rintro e w' ⟨rfl, rfl⟩)
      | (go_at_call 17; with_reducible refine (rbits_lit imm 4 1 _ HI.out (by omega) (by omega) (by omega) (Is.bt_4_1 imm) _).mono ?_; rintro e w' ⟨rfl, rfl⟩)
      | (go_at_call 17; with_reducible refine (rbits_lit imm 11 5 _ HI.out (by omega) (by omega) (by omega) (Is.bt_11_5 imm) _).mono ?_; rintro e w' ⟨rfl, rfl⟩)
      | (go_at_call 17; with_reducible refine (rbits_lit imm 4 0 _ HI.out (by omega) (by omega) (by omega) (Is.bt_4_0 imm) _).mono ?_; rintro e w' ⟨rfl, rfl⟩)
      | (go_at_call 17; with_reducible refine (rbits_lit imm 11 0 _ HI.out (by omega) (by omega) (by omega) (Is.bt_11_0 imm) _).mono ?_; rintro e w' ⟨rfl, rfl⟩))
  go_ret
  refine ⟨ret_int ?_, (((Below.refl w.heap.size w).alloc (Nat.le_refl _) _).trans (HB1.out.mono (by simp)))⟩
  unfold Is.wordO
  have e0 := HT.out
  rw [HK.out]
  simp only [Is.layO, Is.placeO, Is.hasRd, Is.hasRs1, Is.hasRs2, Is.hasOrd, Is.storePlace, Nat.reduceBEq, Bool.or_false, Bool.or_true, Bool.false_or, Bool.not_false, Bool.not_true, Bool.true_or, Bool.or_self, if_true, if_false, Bool.false_eq_true, Int.add_zero, Int.zero_add]
  omega
theorem Is.tabE8 : ∀ op, op < 60 → Is.fm op = 8 → Is.wd op = Is.wd op % 128 + Is.f3 op * 4096 + Is.f7 op * 33554432 := by decide +kernel

set_option maxRecDepth 100000 in
set_option maxHeartbeats 20000000 in
theorem renc8 (op : Nat) (h : 1 ≤ op ∧ op ≤ 59) (hk : Is.fm op = 8) (rd rs1 rs2 imm : Int) (aq rl : Bool) (hi : Is.Wd 0) (brd : 0 ≤ rd ∧ rd ≤ 31) (brs1 : 0 ≤ rs1 ∧ rs1 ≤ 31) (brs2 : 0 ≤ rs2 ∧ rs2 ≤ 31)  (w : World) :
    Calls Tryd.prog 7 #[inst op rd rs1 rs2 0 false false] w fun e w' => e = .returned (.int .u32 (Is.wordO op rd rs1 rs2 0 false false)) ∧ Below w.heap.size w w' := by
  have HF := Lib.hid (show Is.fb (Is.fm op) = 114 by rw [hk]; rfl)
  have HI := Lib.hid hi
  have HT := Lib.hid (Is.tabE8 op (by omega) hk)
  have HK := Lib.hid hk
  unfold Is.Wd at hi
  clear hk
  have z1 := Is.f3_bd op (by omega)
  have z2 := Is.f7_bd op (by omega)
  have z3 : 0 ≤ Is.wd op % 128 ∧ Is.wd op % 128 ≤ 127 := by omega
  unfold inst
  go_enter Tryd.func7, Tryd.ntmps7
  go_wp2_with (first
      | (go_at_call 15; refine (ropcode_any op h _).mono ?_; rintro e w' ⟨rfl, rfl⟩)
      | (go_at_call 13; refine (rform_yes op h _).mono ?_; rw [HF.out]; rintro e w' ⟨rfl, rfl⟩)
      | (go_at_call 18; with_reducible refine (rpow_lit 20 1048576 (by omega) rfl _).mono ?_; rintro e w' ⟨rfl, rfl⟩)
      | (go_at_call 18; with_reducible refine (rpow_lit 31 2147483648 (by omega) rfl _).mono ?_; rintro e w' ⟨rfl, rfl⟩)
      | (go_at_call 18; with_reducible refine (rpow_lit 21 2097152 (by omega) rfl _).mono ?_; rintro e w' ⟨rfl, rfl⟩)
      | (go_at_call 18; with_reducible refine (rpow_lit 12 4096 (by omega) rfl _).mono ?_; rintro e w' ⟨rfl, rfl⟩)
      | (go_at_call 18; with_reducible refine (rpow_lit 25 33554432 (by omega) rfl _).mono ?_; rintro e w' ⟨rfl, rfl⟩)
      | (go_at_call 18; with_reducible refine (rpow_lit 8 256 (by omega) rfl _).mono ?_; rintro e w' ⟨rfl, rfl⟩)
      | (go_at_call 18; with_reducible refine (rpow_lit 7 128 (by omega) rfl _).mono ?_; rintro e w' ⟨rfl, rfl⟩)
      | (go_at_call 18; with_reducible refine (rpow_lit 26 67108864 (by omega) rfl _).mono ?_; rintro e w' ⟨rfl, rfl⟩)
      | (go_at_call 17; with_reducible refine (rbits_lit imm 20 20 _ HI.out (by omega) (by omega) (by omega) (Is.bt_20_20 imm) _).mono ?_; rintro e w' ⟨rfl, rfl⟩)
      | (go_at_call 17; with_reducible refine (rbits_lit imm 10 1 _ HI.out (by omega) (by omega) (by omega) (Is.bt_10_1 imm) _).mono ?_; rintro e w' ⟨rfl, rfl⟩)
      | (go_at_call 17; with_reducible refine (rbits_lit imm 11 11 _ HI.out (by omega) (by omega) (by omega) (Is.bt_11_11 imm) _).mono ?_; rintro e w' ⟨rfl, rfl⟩)
      | (go_at_call 17; with_reducible refine (rbits_lit imm 19 12 _ HI.out (by omega) (by omega) (by omega) (Is.bt_19_12 imm) _).mono ?_; rintro e w' ⟨rfl, rfl⟩)
      | (go_at_call 17; with_reducible refine (rbits_lit imm 12 12 _ HI.out (by omega) (by omega) (by omega) (Is.bt_12_12 imm) _).mono ?_; rintro e w' ⟨rfl, rfl⟩)
      | (go_at_call 17; with_reducible refine (rbits_lit imm 10 5 _ HI.out (by omega) (by omega) (by omega) (Is.bt_10_5 imm) _).mono ?_; rintro e w' ⟨rfl, rfl⟩)
      | (go_at_call 17; with_reducible refine (rbits_lit imm 4 1 _ HI.out (by omega) (by omega) (by omega) (Is.bt_4_1 imm) _).mono ?_; rintro e w' ⟨rfl, rfl⟩)
      | (go_at_call 17; with_reducible refine (rbits_lit imm 11 5 _ HI.out (by omega) (by omega) (by omega) (Is.bt_11_5 imm) _).mono ?_; rintro e w' ⟨rfl, rfl⟩)
      | (go_at_call 17; with_reducible refine (rbits_lit imm 4 0 _ HI.out (by omega) (by omega) (by omega) (Is.bt_4_0 imm) _).mono ?_; rintro e w' ⟨rfl, rfl⟩)
      | (go_at_call 17; with_reducible refine (rbits_lit imm 11 0 _ HI.out (by omega) (by omega) (by omega) (Is.bt_11_0 imm) _).mono ?_; rintro e w' ⟨rfl, rfl⟩))
  refine (rf3_any op h _).mono ?_
  rintro e w1 ⟨rfl, hb1⟩
  have hc0 : w1.cell? ⟨w.heap.size, 0, none⟩ = some (.int .i64 (op : Int)) := (hb1.cell (p := ⟨w.heap.size, 0, none⟩) (by simp)).trans (by go_simp)
  have hc1 : w1.cell? ⟨w.heap.size, 1, none⟩ = some (.int .i64 rd) := (hb1.cell (p := ⟨w.heap.size, 1, none⟩) (by simp)).trans (by go_simp)
  have hc2 : w1.cell? ⟨w.heap.size, 2, none⟩ = some (.int .i64 rs1) := (hb1.cell (p := ⟨w.heap.size, 2, none⟩) (by simp)).trans (by go_simp)
  have hc3 : w1.cell? ⟨w.heap.size, 3, none⟩ = some (.int .i64 rs2) := (hb1.cell (p := ⟨w.heap.size, 3, none⟩) (by simp)).trans (by go_simp)
  have hc4 : w1.cell? ⟨w.heap.size, 4, none⟩ = some (.int .u32 0) := (hb1.cell (p := ⟨w.heap.size, 4, none⟩) (by simp)).trans (by go_simp)
  have HB1 := Lib.hid hb1; clear hb1
  go_wp2_with (first
      | (go_at_call 15; refine (ropcode_any op h _).mono ?_; rintro e w' ⟨rfl, rfl⟩)
      | (go_at_call 13; refine (rform_yes op h _).mono ?_; rw [HF.out]; rintro e w' ⟨rfl, rfl⟩)
      | (go_at_call 18; with_reducible refine (rpow_lit 20 1048576 (by omega) rfl _).mono ?_; rintro e w' ⟨rfl, rfl⟩)
      | (go_at_call 18; with_reducible refine (rpow_lit 31 2147483648 (by omega) rfl _).mono ?_; rintro e w' ⟨rfl, rfl⟩)
      | (go_at_call 18; with_reducible refine (rpow_lit 21 2097152 (by omega) rfl _).mono ?_; rintro e w' ⟨rfl, rfl⟩)
      | (go_at_call 18; with_reducible refine (rpow_lit 12 4096 (by omega) rfl _).mono ?_; rintro e w' ⟨rfl, rfl⟩)
      | (go_at_call 18; with_reducible refine (rpow_lit 25 33554432 (by omega) rfl _).mono ?_; rintro e w' ⟨rfl, rfl⟩)
      | (go_at_call 18; with_reducible refine (rpow_lit 8 256 (by omega) rfl _).mono ?_; rintro e w' ⟨rfl, rfl⟩)
      | (go_at_call 18; with_reducible refine (rpow_lit 7 128 (by omega) rfl _).mono ?_; rintro e w' ⟨rfl, rfl⟩)
      | (go_at_call 18; with_reducible refine (rpow_lit 26 67108864 (by omega) rfl _).mono ?_; rintro e w' ⟨rfl, rfl⟩)
      | (go_at_call 17; with_reducible refine (rbits_lit imm 20 20 _ HI.out (by omega) (by omega) (by omega) (Is.bt_20_20 imm) _).mono ?_; rintro e w' ⟨rfl, rfl⟩)
      | (go_at_call 17; with_reducible refine (rbits_lit imm 10 1 _ HI.out (by omega) (by omega) (by omega) (Is.bt_10_1 imm) _).mono ?_; rintro e w' ⟨rfl, rfl⟩)
      | (go_at_call 17; with_reducible refine (rbits_lit imm 11 11 _ HI.out (by omega) (by omega) (by omega) (Is.bt_11_11 imm) _).mono ?_; rintro e w' ⟨rfl, rfl⟩)
      | (go_at_call 17; with_reducible refine (rbits_lit imm 19 12 _ HI.out (by omega) (by omega) (by omega) (Is.bt_19_12 imm) _).mono ?_; rintro e w' ⟨rfl, rfl⟩)
      | (go_at_call 17; with_reducible refine (rbits_lit imm 12 12 _ HI.out (by omega) (by omega) (by omega) (Is.bt_12_12 imm) _).mono ?_; rintro e w' ⟨rfl, rfl⟩)
      | (go_at_call 17; with_reducible refine (rbits_lit imm 10 5 _ HI.out (by omega) (by omega) (by omega) (Is.bt_10_5 imm) _).mono ?_; rintro e w' ⟨rfl, rfl⟩)
      | (go_at_call 17; with_reducible refine (rbits_lit imm 4 1 _ HI.out (by omega) (by omega) (by omega) (Is.bt_4_1 imm) _).mono ?_; rintro e w' ⟨rfl, rfl⟩)
      | (go_at_call 17; with_reducible refine (rbits_lit imm 11 5 _ HI.out (by omega) (by omega) (by omega) (Is.bt_11_5 imm) _).mono ?_; rintro e w' ⟨rfl, rfl⟩)
      | (go_at_call 17; with_reducible refine (rbits_lit imm 4 0 _ HI.out (by omega) (by omega) (by omega) (Is.bt_4_0 imm) _).mono ?_; rintro e w' ⟨rfl, rfl⟩)
      | (go_at_call 17; with_reducible refine (rbits_lit imm 11 0 _ HI.out (by omega) (by omega) (by omega) (Is.bt_11_0 imm) _).mono ?_; rintro e w' ⟨rfl, rfl⟩))
  refine (rf7_any op h _).mono ?_
  rintro e w2 ⟨rfl, hb2⟩
  have HB2 := Lib.hid hb2; clear hb2
  go_wp2_with (first
      | (go_at_call 15; refine (ropcode_any op h _).mono ?_; rintro e w' ⟨rfl, rfl⟩)
      | (go_at_call 13; refine (rform_yes op h _).mono ?_; rw [HF.out]; rintro e w' ⟨rfl, rfl⟩)
      | (go_at_call 18; with_reducible refine (rpow_lit 20 1048576 (by omega) rfl _).mono ?_; rintro e w' ⟨rfl, rfl⟩)
      | (go_at_call 18; with_reducible refine (rpow_lit 31 2147483648 (by omega) rfl _).mono ?_; rintro e w' ⟨rfl, rfl⟩)
      | (go_at_call 18; with_reducible refine (rpow_lit 21 2097152 (by omega) rfl _).mono ?_; rintro e w' ⟨rfl, rfl⟩)
      | (go_at_call 18; with_reducible refine (rpow_lit 12 4096 (by omega) rfl _).mono ?_; rintro e w' ⟨rfl, rfl⟩)
      | (go_at_call 18; with_reducible refine (rpow_lit 25 33554432 (by omega) rfl _).mono ?_; rintro e w' ⟨rfl, rfl⟩)
      | (go_at_call 18; with_reducible refine (rpow_lit 8 256 (by omega) rfl _).mono ?_; rintro e w' ⟨rfl, rfl⟩)
      | (go_at_call 18; with_reducible refine (rpow_lit 7 128 (by omega) rfl _).mono ?_; rintro e w' ⟨rfl, rfl⟩)
      | (go_at_call 18; with_reducible refine (rpow_lit 26 67108864 (by omega) rfl _).mono ?_; rintro e w' ⟨rfl, rfl⟩)
      | (go_at_call 17; with_reducible refine (rbits_lit imm 20 20 _ HI.out (by omega) (by omega) (by omega) (Is.bt_20_20 imm) _).mono ?_; rintro e w' ⟨rfl, rfl⟩)
      | (go_at_call 17; with_reducible refine (rbits_lit imm 10 1 _ HI.out (by omega) (by omega) (by omega) (Is.bt_10_1 imm) _).mono ?_; rintro e w' ⟨rfl, rfl⟩)
      | (go_at_call 17; with_reducible refine (rbits_lit imm 11 11 _ HI.out (by omega) (by omega) (by omega) (Is.bt_11_11 imm) _).mono ?_; rintro e w' ⟨rfl, rfl⟩)
      | (go_at_call 17; with_reducible refine (rbits_lit imm 19 12 _ HI.out (by omega) (by omega) (by omega) (Is.bt_19_12 imm) _).mono ?_; rintro e w' ⟨rfl, rfl⟩)
      | (go_at_call 17; with_reducible refine (rbits_lit imm 12 12 _ HI.out (by omega) (by omega) (by omega) (Is.bt_12_12 imm) _).mono ?_; rintro e w' ⟨rfl, rfl⟩)
      | (go_at_call 17; with_reducible refine (rbits_lit imm 10 5 _ HI.out (by omega) (by omega) (by omega) (Is.bt_10_5 imm) _).mono ?_; rintro e w' ⟨rfl, rfl⟩)
      | (go_at_call 17; with_reducible refine (rbits_lit imm 4 1 _ HI.out (by omega) (by omega) (by omega) (Is.bt_4_1 imm) _).mono ?_; rintro e w' ⟨rfl, rfl⟩)
      | (go_at_call 17; with_reducible refine (rbits_lit imm 11 5 _ HI.out (by omega) (by omega) (by omega) (Is.bt_11_5 imm) _).mono ?_; rintro e w' ⟨rfl, rfl⟩)
      | (go_at_call 17; with_reducible refine (rbits_lit imm 4 0 _ HI.out (by omega) (by omega) (by omega) (Is.bt_4_0 imm) _).mono ?_; rintro e w' ⟨rfl, rfl⟩)
      | (go_at_call 17; with_reducible refine (rbits_lit imm 11 0 _ HI.out (by omega) (by omega) (by omega) (Is.bt_11_0 imm) _).mono ?_; rintro e w' ⟨rfl, rfl⟩))
  go_ret
  refine ⟨ret_int ?_, ((((Below.refl w.heap.size w).alloc (Nat.le_refl _) _).trans (HB1.out.mono (by simp))).trans (HB2.out.mono (by have := HB1.out.size; simp at this ⊢; omega)))⟩
  unfold Is.wordO
  have e0 := HT.out
  rw [HK.out]
  simp only [Is.layO, Is.placeO, Is.hasRd, Is.hasRs1, Is.hasRs2, Is.hasOrd, Nat.reduceBEq, Bool.or_false, Bool.or_true, Bool.false_or, Bool.not_false, Bool.not_true, Bool.true_or, Bool.or_self, if_true, if_false, Bool.false_eq_true, Int.add_zero, Int.zero_add]
  omega
end Go.Proofs.YtianojbdabeoeaaDoor
