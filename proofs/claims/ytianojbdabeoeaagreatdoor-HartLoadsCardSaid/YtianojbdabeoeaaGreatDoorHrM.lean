/-
  HrM: Ref, HrLow, HrBit, HrBitw, Refb, Refc, HrTwo in one text.
-/
import Derived.Test.YtianojbdabeoeaaGreatDoorQuot
import Derived.LoopTactic
import Derived.Test.YtianojbdabeoeaaGreatDoorHtMeans
import Derived.Test.YtianojbdabeoeaaGreatDoorIsRef
import Derived.Deep.QuietTactic
import Derived.BigQuiet

section
namespace Go.Proofs.YtianojbdabeoeaaGreatDoor
open Go.RowKit

theorem a_rsign_any (a : Int) (ha : Ar.Wd a) (w : World) :
    Calls Tryz.prog 216 #[.int .u32 a] w fun e w' => e = .returned (.int .i64 (Ar.sg a)) ∧ w = w' := by
  unfold Ar.Wd at ha
  by_cases h : a < 2147483648
  · have hs := Lib.hid (Ar.sg_pos h)
    go_enter Tryz.func216, Tryz.ntmps216
    go_wp2
    go_ret
    exact ⟨ret_int hs.out.symm, rfl⟩
  · have hs := Lib.hid (show Ar.sg a = a - 4294967296 by unfold Ar.sg; rw [if_neg h])
    go_enter Tryz.func216, Tryz.ntmps216
    go_wp2
    go_ret
    exact ⟨ret_int hs.out.symm, rfl⟩

theorem a_rword_any (x : Int) (hx : -9223372036854775808 ≤ x ∧ x ≤ 9223372036854775807) (w : World) :
    Calls Tryz.prog 78 #[.int .i64 x] w fun e w' => e = .returned (.int .u32 (Ar.md x)) ∧ w = w' := by
  by_cases h : 0 ≤ x
  · go_enter Tryz.func78, Tryz.ntmps78
    go_wp2
    go_ret
    exact ⟨rfl, rfl⟩
  · have ht : x.tmod 4294967296 = -(-x % 4294967296) := by
      rw [show x = -(-x) from by omega, Int.neg_tmod, Int.tmod_eq_emod_of_nonneg (by omega), Int.neg_neg]
    by_cases hz : -x % 4294967296 = 0
    · have h0 := Lib.hid (show Ar.md x = 0 by unfold Ar.md; omega)
      have h1 : ¬ x.tmod 4294967296 < 0 := by omega
      go_enter Tryz.func78, Tryz.ntmps78
      go_wp2
      go_ret
      exact ⟨ret_int h0.out.symm, rfl⟩
    · have h0 := Lib.hid (show Ar.md x = -(-x % 4294967296) + 4294967296 by unfold Ar.md; omega)
      have h1 : x.tmod 4294967296 < 0 := by omega
      go_enter Tryz.func78, Tryz.ntmps78
      go_wp2
      go_ret
      exact ⟨ret_int h0.out.symm, rfl⟩

theorem radd_any (a b : Int) (ha : Ar.Wd a) (hb : Ar.Wd b) (w : World) :
    Calls Tryz.prog 49 #[.int .u32 a, .int .u32 b] w fun e w' => e = .returned (.int .u32 (Ar.add a b)) ∧ w = w' := by
  unfold Ar.Wd at ha hb
  go_enter Tryz.func49, Tryz.ntmps49
  go_wp2_with fail
  refine (a_rword_any _ (by omega) _).mono ?_
  rintro e w' ⟨rfl, rfl⟩
  go_wp2
  go_ret
  exact ⟨rfl, rfl⟩
theorem rsub_any (a b : Int) (ha : Ar.Wd a) (hb : Ar.Wd b) (w : World) :
    Calls Tryz.prog 181 #[.int .u32 a, .int .u32 b] w fun e w' => e = .returned (.int .u32 (Ar.sub a b)) ∧ w = w' := by
  unfold Ar.Wd at ha hb
  go_enter Tryz.func181, Tryz.ntmps181
  go_wp2_with fail
  refine (a_rword_any _ (by omega) _).mono ?_
  rintro e w' ⟨rfl, rfl⟩
  go_wp2
  go_ret
  exact ⟨rfl, rfl⟩

theorem rmul_any (a b : Int) (ha : Ar.Wd a) (hb : Ar.Wd b) (w : World) :
    Calls Tryz.prog 185 #[.int .u32 a, .int .u32 b] w fun e w' => e = .returned (.int .u32 (Ar.mul a b)) ∧ w = w' := by
  unfold Ar.Wd at ha hb
  have h1 := Ar.prod_up (m := 4294967295) (k := 65535) ha (show 0 ≤ b % 65536 ∧ b % 65536 ≤ 65535 by omega)
  have h2 := Ar.prod_up (m := 4294967295) (k := 65535) ha (show 0 ≤ b / 65536 ∧ b / 65536 ≤ 65535 by omega)
  have hm := Ar.md_wd (a * (b / 65536)); unfold Ar.Wd at hm
  have he := Lib.hid (Ar.mul_parts a b)
  go_enter Tryz.func185, Tryz.ntmps185
  go_wp2_with fail
  refine (a_rword_any _ (by omega) _).mono ?_
  rintro e w' ⟨rfl, rfl⟩
  go_wp2_with fail
  refine (a_rword_any _ (by omega) _).mono ?_
  rintro e w' ⟨rfl, rfl⟩
  go_wp2
  go_ret
  exact ⟨ret_int he.out, rfl⟩

theorem rmulhu_any (a b : Int) (ha : Ar.Wd a) (hb : Ar.Wd b) (w : World) :
    Calls Tryz.prog 188 #[.int .u32 a, .int .u32 b] w fun e w' => e = .returned (.int .u32 (Ar.mulhu a b)) ∧ w = w' := by
  unfold Ar.Wd at ha hb
  have h1 := Ar.prod_up (m := 65535) (k := 65535) (show 0 ≤ a / 65536 ∧ a / 65536 ≤ 65535 by omega) (show 0 ≤ b % 65536 ∧ b % 65536 ≤ 65535 by omega)
  have h2 := Ar.prod_up (m := 65535) (k := 65535) (show 0 ≤ a % 65536 ∧ a % 65536 ≤ 65535 by omega) (show 0 ≤ b / 65536 ∧ b / 65536 ≤ 65535 by omega)
  have h3 := Ar.prod_up (m := 65535) (k := 65535) (show 0 ≤ a % 65536 ∧ a % 65536 ≤ 65535 by omega) (show 0 ≤ b % 65536 ∧ b % 65536 ≤ 65535 by omega)
  have h4 := Ar.prod_up (m := 65535) (k := 65535) (show 0 ≤ a / 65536 ∧ a / 65536 ≤ 65535 by omega) (show 0 ≤ b / 65536 ∧ b / 65536 ≤ 65535 by omega)
  have he := Lib.hid (Ar.mulhu_parts a b)
  go_enter Tryz.func188, Tryz.ntmps188
  go_wp2_with fail
  refine (a_rword_any _ (by omega) _).mono ?_
  rintro e w' ⟨rfl, rfl⟩
  go_wp2
  go_ret
  exact ⟨ret_int he.out, rfl⟩

theorem rdown_any (x : Int) (hx : -9223372036854775808 ≤ x ∧ x ≤ 9223372036854775807) (w : World) :
    Calls Tryz.prog 217 #[.int .i64 x] w fun e w' => e = .returned (.int .i64 (x / 4294967296)) ∧ w = w' := by
  by_cases h : 0 ≤ x
  · go_enter Tryz.func217, Tryz.ntmps217
    go_wp2
    go_ret
    exact ⟨rfl, rfl⟩
  · have ht : x.tdiv 4294967296 = -(-x / 4294967296) := Ar.tdiv_neg_of (by omega)
    by_cases hz : -x / 4294967296 * 4294967296 = -x
    · have h0 := Lib.hid (show x / 4294967296 = -(-x / 4294967296) by omega)
      go_enter Tryz.func217, Tryz.ntmps217
      go_wp2
      go_ret
      exact ⟨ret_int h0.out.symm, rfl⟩
    · have h0 := Lib.hid (show x / 4294967296 = -(-x / 4294967296) - 1 by omega)
      go_enter Tryz.func217, Tryz.ntmps217
      go_wp2
      go_ret
      exact ⟨ret_int h0.out.symm, rfl⟩

theorem rmulh_any (a b : Int) (ha : Ar.Wd a) (hb : Ar.Wd b) (w : World) :
    Calls Tryz.prog 186 #[.int .u32 a, .int .u32 b] w fun e w' => e = .returned (.int .u32 (Ar.mulh a b)) ∧ w = w' := by
  have hA := Lib.hid ha; have hB := Lib.hid hb; clear ha hb
  have h1 := Ar.prod_bd (m := 2147483648) (k := 2147483648) (x := Ar.sg a) (y := Ar.sg b) (by have := Ar.sg_bd hA.out; omega) (by have := Ar.sg_bd hB.out; omega)
  go_enter Tryz.func186, Tryz.ntmps186
  go_wp2_with fail
  refine (a_rsign_any a hA.out _).mono ?_
  rintro e w' ⟨rfl, rfl⟩
  go_wp2_with fail
  refine (a_rsign_any b hB.out _).mono ?_
  rintro e w' ⟨rfl, rfl⟩
  go_wp2_with fail
  refine (rdown_any _ (by omega) _).mono ?_
  rintro e w' ⟨rfl, rfl⟩
  go_wp2_with fail
  refine (a_rword_any _ (by omega) _).mono ?_
  rintro e w' ⟨rfl, rfl⟩
  go_wp2
  go_ret
  exact ⟨rfl, rfl⟩
theorem rmulhsu_any (a b : Int) (ha : Ar.Wd a) (hb : Ar.Wd b) (w : World) :
    Calls Tryz.prog 187 #[.int .u32 a, .int .u32 b] w fun e w' => e = .returned (.int .u32 (Ar.mulhsu a b)) ∧ w = w' := by
  have hA := Lib.hid ha; clear ha
  unfold Ar.Wd at hb
  have h1 := Ar.prod_bd (m := 2147483648) (k := 4294967295) (x := Ar.sg a) (y := b) (by have := Ar.sg_bd hA.out; omega) (by omega)
  go_enter Tryz.func187, Tryz.ntmps187
  go_wp2_with fail
  refine (a_rsign_any a hA.out _).mono ?_
  rintro e w' ⟨rfl, rfl⟩
  go_wp2_with fail
  refine (rdown_any _ (by omega) _).mono ?_
  rintro e w' ⟨rfl, rfl⟩
  go_wp2_with fail
  refine (a_rword_any _ (by omega) _).mono ?_
  rintro e w' ⟨rfl, rfl⟩
  go_wp2
  go_ret
  exact ⟨rfl, rfl⟩
end Go.Proofs.YtianojbdabeoeaaGreatDoor
end

section
namespace Go.Proofs.YtianojbdabeoeaaGreatDoor
open Go.RowKit Ht
set_option linter.unusedVariables false
theorem ret_bool {a b : Bool} (h : a = b) : Ending.returned (.bool a) = .returned (.bool b) := by rw [h]
theorem ge_not (a b : Int) : decide (a ≥ b) = !decide (a < b) := by
  by_cases h : a < b
  · simp [h]
  · simp [h]; omega
theorem rtruth_any (b : Bool) (w : World) :
    Calls Tryz.prog 90 #[.bool b] w fun e w' => e = .returned (.int .u32 (b01 b)) ∧ w = w' := by
  cases b
  all_goals
    go_enter Tryz.func90, Tryz.ntmps90
    go_wp2
    go_ret
    exact ⟨rfl, rfl⟩
theorem rlow_1 (n : Int) (hn : Ar.Wd n) (w : World) :
    Calls Tryz.prog 64 #[.int .u32 n, .int .i64 1] w fun e w' => e = .returned (.int .u32 (low n 1)) ∧ w = w' := by
  unfold Ar.Wd at hn
  go_enter Tryz.func64, Tryz.ntmps64
  go_wp2
  go_ret
  exact ⟨rfl, rfl⟩
theorem rlow_2 (n : Int) (hn : Ar.Wd n) (w : World) :
    Calls Tryz.prog 64 #[.int .u32 n, .int .i64 2] w fun e w' => e = .returned (.int .u32 (low n 2)) ∧ w = w' := by
  unfold Ar.Wd at hn
  go_enter Tryz.func64, Tryz.ntmps64
  go_wp2
  go_ret
  exact ⟨rfl, rfl⟩
theorem rlow_4 (n : Int) (hn : Ar.Wd n) (w : World) :
    Calls Tryz.prog 64 #[.int .u32 n, .int .i64 4] w fun e w' => e = .returned (.int .u32 (low n 4)) ∧ w = w' := by
  unfold Ar.Wd at hn
  go_enter Tryz.func64, Tryz.ntmps64
  go_wp2
  go_ret
  exact ⟨rfl, rfl⟩
theorem rwidth_11 (w : World) :
    Calls Tryz.prog 63 #[.int .i64 11] w fun e w' => e = .returned (.int .i64 1) ∧ w = w' := by
  go_enter Tryz.func63, Tryz.ntmps63
  go_wp2
  go_ret
  exact ⟨rfl, rfl⟩
theorem rwidth_12 (w : World) :
    Calls Tryz.prog 63 #[.int .i64 12] w fun e w' => e = .returned (.int .i64 2) ∧ w = w' := by
  go_enter Tryz.func63, Tryz.ntmps63
  go_wp2
  go_ret
  exact ⟨rfl, rfl⟩
theorem rwidth_13 (w : World) :
    Calls Tryz.prog 63 #[.int .i64 13] w fun e w' => e = .returned (.int .i64 4) ∧ w = w' := by
  go_enter Tryz.func63, Tryz.ntmps63
  go_wp2
  go_ret
  exact ⟨rfl, rfl⟩
theorem rwidth_14 (w : World) :
    Calls Tryz.prog 63 #[.int .i64 14] w fun e w' => e = .returned (.int .i64 1) ∧ w = w' := by
  go_enter Tryz.func63, Tryz.ntmps63
  go_wp2
  go_ret
  exact ⟨rfl, rfl⟩
theorem rwidth_15 (w : World) :
    Calls Tryz.prog 63 #[.int .i64 15] w fun e w' => e = .returned (.int .i64 2) ∧ w = w' := by
  go_enter Tryz.func63, Tryz.ntmps63
  go_wp2
  go_ret
  exact ⟨rfl, rfl⟩
theorem rwidth_16 (w : World) :
    Calls Tryz.prog 63 #[.int .i64 16] w fun e w' => e = .returned (.int .i64 1) ∧ w = w' := by
  go_enter Tryz.func63, Tryz.ntmps63
  go_wp2
  go_ret
  exact ⟨rfl, rfl⟩
theorem rwidth_17 (w : World) :
    Calls Tryz.prog 63 #[.int .i64 17] w fun e w' => e = .returned (.int .i64 2) ∧ w = w' := by
  go_enter Tryz.func63, Tryz.ntmps63
  go_wp2
  go_ret
  exact ⟨rfl, rfl⟩
theorem rwidth_18 (w : World) :
    Calls Tryz.prog 63 #[.int .i64 18] w fun e w' => e = .returned (.int .i64 4) ∧ w = w' := by
  go_enter Tryz.func63, Tryz.ntmps63
  go_wp2
  go_ret
  exact ⟨rfl, rfl⟩
theorem rtaken_5 (a b : Int) (ha : Ar.Wd a) (hb : Ar.Wd b) (w : World) :
    Calls Tryz.prog 36 #[.int .i64 5, .int .u32 a, .int .u32 b] w fun e w' => e = .returned (.bool (taken 5 a b)) ∧ w = w' := by
  have HA := Lib.hid ha; have HB := Lib.hid hb; clear ha hb
  go_enter Tryz.func36, Tryz.ntmps36
  go_wp2
  go_ret
  exact ⟨rfl, rfl⟩
theorem rtaken_6 (a b : Int) (ha : Ar.Wd a) (hb : Ar.Wd b) (w : World) :
    Calls Tryz.prog 36 #[.int .i64 6, .int .u32 a, .int .u32 b] w fun e w' => e = .returned (.bool (taken 6 a b)) ∧ w = w' := by
  have HA := Lib.hid ha; have HB := Lib.hid hb; clear ha hb
  go_enter Tryz.func36, Tryz.ntmps36
  go_wp2
  go_ret
  exact ⟨rfl, rfl⟩
theorem rtaken_7 (a b : Int) (ha : Ar.Wd a) (hb : Ar.Wd b) (w : World) :
    Calls Tryz.prog 36 #[.int .i64 7, .int .u32 a, .int .u32 b] w fun e w' => e = .returned (.bool (taken 7 a b)) ∧ w = w' := by
  have HA := Lib.hid ha; have HB := Lib.hid hb; clear ha hb
  go_enter Tryz.func36, Tryz.ntmps36
  go_wp2_with fail
  refine (rsigned_any _ HA.out _).mono ?_
  rintro e w1 ⟨rfl, rfl⟩
  go_wp2_with fail
  refine (rsigned_any _ HB.out _).mono ?_
  rintro e w1 ⟨rfl, rfl⟩
  go_wp2
  go_ret
  exact ⟨rfl, rfl⟩
theorem rtaken_8 (a b : Int) (ha : Ar.Wd a) (hb : Ar.Wd b) (w : World) :
    Calls Tryz.prog 36 #[.int .i64 8, .int .u32 a, .int .u32 b] w fun e w' => e = .returned (.bool (taken 8 a b)) ∧ w = w' := by
  have HA := Lib.hid ha; have HB := Lib.hid hb; clear ha hb
  go_enter Tryz.func36, Tryz.ntmps36
  go_wp2_with fail
  refine (rsigned_any _ HA.out _).mono ?_
  rintro e w1 ⟨rfl, rfl⟩
  go_wp2_with fail
  refine (rsigned_any _ HB.out _).mono ?_
  rintro e w1 ⟨rfl, rfl⟩
  go_wp2
  go_ret
  exact ⟨ret_bool (ge_not (Is.sg a) (Is.sg b)), rfl⟩
theorem rtaken_9 (a b : Int) (ha : Ar.Wd a) (hb : Ar.Wd b) (w : World) :
    Calls Tryz.prog 36 #[.int .i64 9, .int .u32 a, .int .u32 b] w fun e w' => e = .returned (.bool (taken 9 a b)) ∧ w = w' := by
  have HA := Lib.hid ha; have HB := Lib.hid hb; clear ha hb
  go_enter Tryz.func36, Tryz.ntmps36
  go_wp2
  go_ret
  exact ⟨rfl, rfl⟩
theorem rtaken_10 (a b : Int) (ha : Ar.Wd a) (hb : Ar.Wd b) (w : World) :
    Calls Tryz.prog 36 #[.int .i64 10, .int .u32 a, .int .u32 b] w fun e w' => e = .returned (.bool (taken 10 a b)) ∧ w = w' := by
  have HA := Lib.hid ha; have HB := Lib.hid hb; clear ha hb
  go_enter Tryz.func36, Tryz.ntmps36
  go_wp2
  go_ret
  exact ⟨ret_bool (ge_not a b), rfl⟩
theorem rtaken_no (op : Nat) (h : op < 5 ∨ 10 < op) (a b : Int) (w : World) :
    Calls Tryz.prog 36 #[.int .i64 op, .int .u32 a, .int .u32 b] w fun e w' => e = .returned (.bool false) ∧ w = w' := by
  have t5 : ((op : Int) == 5) = false := beq_eq_false_iff_ne.2 (by omega)
  have t6 : ((op : Int) == 6) = false := beq_eq_false_iff_ne.2 (by omega)
  have t7 : ((op : Int) == 7) = false := beq_eq_false_iff_ne.2 (by omega)
  have t8 : ((op : Int) == 8) = false := beq_eq_false_iff_ne.2 (by omega)
  have t9 : ((op : Int) == 9) = false := beq_eq_false_iff_ne.2 (by omega)
  have t10 : ((op : Int) == 10) = false := beq_eq_false_iff_ne.2 (by omega)
  clear h
  go_enter Tryz.func36, Tryz.ntmps36
  go_wp2
  go_ret
  exact ⟨rfl, rfl⟩
theorem taken_other (op : Nat) (h : op < 5 ∨ 10 < op) (a b : Int) : taken op a b = false := by
  unfold taken
  split <;> first | omega | rfl
theorem rtaken_any (op : Nat) (a b : Int) (ha : Ar.Wd a) (hb : Ar.Wd b) (w : World) :
    Calls Tryz.prog 36 #[.int .i64 op, .int .u32 a, .int .u32 b] w fun e w' => e = .returned (.bool (taken op a b)) ∧ w = w' := by
  by_cases h : op < 5 ∨ 10 < op
  · rw [taken_other op h]
    exact rtaken_no op h a b w
  · rcases (show op = 5 ∨ op = 6 ∨ op = 7 ∨ op = 8 ∨ op = 9 ∨ op = 10 by omega) with rfl | rfl | rfl | rfl | rfl | rfl
    · exact rtaken_5 a b ha hb w
    · exact rtaken_6 a b ha hb w
    · exact rtaken_7 a b ha hb w
    · exact rtaken_8 a b ha hb w
    · exact rtaken_9 a b ha hb w
    · exact rtaken_10 a b ha hb w
end Go.Proofs.YtianojbdabeoeaaGreatDoor
end

section
namespace Go.Proofs.YtianojbdabeoeaaGreatDoor
open Go.RowKit Ht
set_option linter.unusedVariables false
theorem Ht.nat_bits (a b : Nat) (ha : a < 4294967296) (hb : b < 4294967296) :
    bits .xor .u32 a b = ((a ^^^ b : Nat) : Int) ∧ bits .or .u32 a b = ((a ||| b : Nat) : Int) ∧ bits .and .u32 a b = ((a &&& b : Nat) : Int) := by
  have ha' : a % 2 ^ IntKind.u32.bits = a := Nat.mod_eq_of_lt (by simpa [IntKind.bits] using ha)
  have hb' : b % 2 ^ IntKind.u32.bits = b := Nat.mod_eq_of_lt (by simpa [IntKind.bits] using hb)
  have ha2 : a < 2 ^ 32 := by simpa using ha
  have hb2 : b < 2 ^ 32 := by simpa using hb
  refine ⟨?_, ?_, ?_⟩
  · simp only [bits, BitVec.ofInt_natCast, BitVec.toNat_xor, BitVec.toNat_ofNat, ha', hb']
    exact wraps_u32 _ (Int.natCast_nonneg _) (by exact_mod_cast Nat.xor_lt_two_pow ha2 hb2)
  · simp only [bits, BitVec.ofInt_natCast, BitVec.toNat_or, BitVec.toNat_ofNat, ha', hb']
    exact wraps_u32 _ (Int.natCast_nonneg _) (by exact_mod_cast Nat.or_lt_two_pow ha2 hb2)
  · simp only [bits, BitVec.ofInt_natCast, BitVec.toNat_and, BitVec.toNat_ofNat, ha', hb']
    exact wraps_u32 _ (Int.natCast_nonneg _) (by exact_mod_cast Nat.and_lt_two_pow _ hb2)
/-- a bit of what is made of two -/
def Ht.bop (how : Nat) (x y : Int) : Int := if how = 0 then (if x = y then 0 else 1) else if how = 1 then (if x + y = 0 then 0 else 1) else (if x + y = 2 then 1 else 0)
def Ht.full (how : Nat) (a b : Nat) : Nat := if how = 0 then a ^^^ b else if how = 1 then a ||| b else a &&& b
theorem Ht.digit (x i : Nat) : x / 2 ^ i % 2 = (x.testBit i).toNat := by
  rw [Nat.testBit_eq_decide_div_mod_eq]
  by_cases h : x / 2 ^ i % 2 = 1
  · simp [h]
  · simp [h]; omega
theorem Ht.full_digit (how : Nat) (hh : how ≤ 2) (a b i : Nat) : ((full how a b / 2 ^ i % 2 : Nat) : Int) = bop how ((a / 2 ^ i % 2 : Nat) : Int) ((b / 2 ^ i % 2 : Nat) : Int) := by
  rw [digit, digit, digit]
  rcases (show how = 0 ∨ how = 1 ∨ how = 2 by omega) with rfl | rfl | rfl
  · show ((((a ^^^ b).testBit i).toNat : Nat) : Int) = _; rw [Nat.testBit_xor]; cases a.testBit i <;> cases b.testBit i <;> rfl
  · show ((((a ||| b).testBit i).toNat : Nat) : Int) = _; rw [Nat.testBit_or]; cases a.testBit i <;> cases b.testBit i <;> rfl
  · show ((((a &&& b).testBit i).toNat : Nat) : Int) = _; rw [Nat.testBit_and]; cases a.testBit i <;> cases b.testBit i <;> rfl
theorem Ht.full_low (how a b i : Nat) : ((full how a b % 2 ^ (i + 1) : Nat) : Int) = ((full how a b % 2 ^ i : Nat) : Int) + ((2 ^ i : Nat) : Int) * ((full how a b / 2 ^ i % 2 : Nat) : Int) := by
  have := Nat.mod_pow_succ (b := 2) (k := i) (x := full how a b)
  exact_mod_cast this
end Go.Proofs.YtianojbdabeoeaaGreatDoor
end

section
namespace Go.Proofs.YtianojbdabeoeaaGreatDoor
open Go.RowKit Ht
set_option linter.unusedVariables false
namespace Ht
def Fnb (how A B k : Nat) : Int := ((full how A B % 2 ^ k : Nat) : Int)
theorem Fnb_zero (how A B : Nat) : Fnb how A B 0 = 0 := by unfold Fnb; rw [Nat.pow_zero, Nat.mod_one]; rfl
theorem Fnb_bd (how A B k : Nat) : 0 ≤ Fnb how A B k ∧ Fnb how A B k < ((2 ^ k : Nat) : Int) := by
  have h := Nat.mod_lt (full how A B) (Nat.two_pow_pos k)
  unfold Fnb
  omega
theorem Fnb_succ (how : Nat) (hh : how ≤ 2) (A B k : Nat) : Fnb how A B (k + 1) = Fnb how A B k + ((2 ^ k : Nat) : Int) * bop how ((A / 2 ^ k % 2 : Nat) : Int) ((B / 2 ^ k % 2 : Nat) : Int) := by
  unfold Fnb
  rw [full_low, full_digit how hh]
theorem full_lt (how A B : Nat) (ha : A < 2 ^ 32) (hb : B < 2 ^ 32) : full how A B < 2 ^ 32 := by
  unfold full
  split
  · exact Nat.xor_lt_two_pow ha hb
  · split
    · exact Nat.or_lt_two_pow ha hb
    · exact Nat.and_lt_two_pow _ hb
theorem Fnb_all (how A B : Nat) (ha : A < 2 ^ 32) (hb : B < 2 ^ 32) : Fnb how A B 32 = (full how A B : Int) := by
  unfold Fnb
  rw [Nat.mod_eq_of_lt (full_lt how A B ha hb)]
theorem dig01 (A k : Nat) : ((A / 2 ^ k % 2 : Nat) : Int) = 0 ∨ ((A / 2 ^ k % 2 : Nat) : Int) = 1 := by omega
theorem dig_of (A k : Nat) : (A : Int) / ((2 ^ k : Nat) : Int) % 2 = ((A / 2 ^ k % 2 : Nat) : Int) := by simp
theorem pk_bd (k : Nat) (h : k ≤ 31) : 1 ≤ ((2 ^ k : Nat) : Int) ∧ ((2 ^ k : Nat) : Int) ≤ 2147483648 := by
  have h1 := Nat.two_pow_pos k
  have h2 := Nat.pow_le_pow_right (n := 2) (by omega) h
  have h3 : (2 : Nat) ^ 31 = 2147483648 := by decide
  omega
theorem pk_succ (k : Nat) : ((2 ^ (k + 1) : Nat) : Int) = ((2 ^ k : Nat) : Int) * 2 := by rw [Nat.pow_succ]; exact Int.natCast_mul _ _
end Ht
set_option maxRecDepth 100000 in
set_option maxHeartbeats 4000000 in
theorem rbitwise_0 (A B : Nat) (ha : A < 4294967296) (hb : B < 4294967296) (w : World) :
    Calls Tryz.prog 50 #[.int .u32 (A : Int), .int .u32 (B : Int), .int .i64 0] w fun e w' => e = .returned (.int .u32 (full 0 A B : Int)) ∧ ∃ n, w' = w.drewN n := by
  have ha' : (A : Int) ≤ 4294967295 := by omega
  have hb' : (B : Int) ≤ 4294967295 := by omega
  have ha0 : 0 ≤ (A : Int) := by omega
  have hb0 : 0 ≤ (B : Int) := by omega
  have HA := Lib.hid ha; have HB := Lib.hid hb; clear ha hb
  go_enter Tryz.func50, Tryz.ntmps50
  go_wp2
  go_loopw [7, 8, 9] (fun n p i wr => ∃ k : Nat, k ≤ 32 ∧ i = .int .i64 k ∧ n = .int .u32 (Fnb 0 A B k) ∧ p = .int .u32 ((2 ^ (min k 31) : Nat) : Int) ∧ ∃ m, wr = w.drewN m) (fun _ _ i _ => 32 - (intOf i).toNat)
  case atStart => exact ⟨0, by omega, rfl, by rw [Fnb_zero], rfl, 0, rfl⟩
  case round =>
    obtain ⟨k, hk, rfl, rfl, rfl, m, rfl⟩ := hrel
    by_cases hlt : k < 32
    · have hmin : min k 31 = k := by omega
      have hs := Fnb_succ 0 (by omega) A B k
      have hp := pk_bd k (by omega)
      have hf := Fnb_bd 0 A B k
      have hq := pk_succ k
      have dA := dig_of A k; have dB := dig_of B k
      have xA := dig01 A k; have xB := dig01 B k
      rw [hmin]
      have HMIN := Lib.hid hmin
      have hp2 : k < 31 → ((2 ^ k : Nat) : Int) * 2 ≤ 2147483648 := fun h => by rw [← pk_succ]; exact (pk_bd (k + 1) (by omega)).2
      obtain ⟨P, hPK⟩ : ∃ P : Int, P = ((2 ^ k : Nat) : Int) := ⟨_, rfl⟩
      rw [← hPK] at hs hp hf hq dA dB hp2 ⊢
      have HPK := Lib.hid hPK.symm; clear hPK
      generalize ((A / 2 ^ k % 2 : Nat) : Int) = x at hs dA xA
      generalize ((B / 2 ^ k % 2 : Nat) : Int) = y at hs dB xB
      generalize Fnb 0 A B k = n0 at hs hf ⊢
      have hP : ¬ P = 0 := by omega
      have HS := Lib.hid hs; have HQ := Lib.hid hq; clear hs hq hmin
      by_cases h31 : k < 31
      · have h2P := hp2 h31
        clear hp2
        rcases xA with rfl | rfl <;> rcases xB with rfl | rfl
        all_goals
          go_wp2
          go_quiet (fail)
          go_wp2
          go_roundw
          case rel => exact ⟨k + 1, by omega, by go_num, by rw [HS.out]; simp [bop], by rw [show min (k + 1) 31 = k + 1 by omega, HQ.out], _, rfl⟩
          case measure => simp [intOf]; omega
      · clear hp2
        rcases xA with rfl | rfl <;> rcases xB with rfl | rfl
        all_goals
          go_wp2
          go_quiet (fail)
          go_wp2
          go_roundw
          case rel => exact ⟨k + 1, by omega, by go_num, by rw [HS.out]; simp [bop], by rw [show min (k + 1) 31 = k by omega, HPK.out], _, rfl⟩
          case measure => simp [intOf]; omega
    · obtain rfl : k = 32 := by omega
      have hall := Fnb_all 0 A B HA.out HB.out
      rw [hall]
      have HALL := Lib.hid hall; clear hall
      go_wp2
      go_ret
      exact ⟨rfl, m, rfl⟩
set_option maxRecDepth 100000 in
set_option maxHeartbeats 4000000 in
theorem rbitwise_1 (A B : Nat) (ha : A < 4294967296) (hb : B < 4294967296) (w : World) :
    Calls Tryz.prog 50 #[.int .u32 (A : Int), .int .u32 (B : Int), .int .i64 1] w fun e w' => e = .returned (.int .u32 (full 1 A B : Int)) ∧ ∃ n, w' = w.drewN n := by
  have ha' : (A : Int) ≤ 4294967295 := by omega
  have hb' : (B : Int) ≤ 4294967295 := by omega
  have ha0 : 0 ≤ (A : Int) := by omega
  have hb0 : 0 ≤ (B : Int) := by omega
  have HA := Lib.hid ha; have HB := Lib.hid hb; clear ha hb
  go_enter Tryz.func50, Tryz.ntmps50
  go_wp2
  go_loopw [7, 8, 9] (fun n p i wr => ∃ k : Nat, k ≤ 32 ∧ i = .int .i64 k ∧ n = .int .u32 (Fnb 1 A B k) ∧ p = .int .u32 ((2 ^ (min k 31) : Nat) : Int) ∧ ∃ m, wr = w.drewN m) (fun _ _ i _ => 32 - (intOf i).toNat)
  case atStart => exact ⟨0, by omega, rfl, by rw [Fnb_zero], rfl, 0, rfl⟩
  case round =>
    obtain ⟨k, hk, rfl, rfl, rfl, m, rfl⟩ := hrel
    by_cases hlt : k < 32
    · have hmin : min k 31 = k := by omega
      have hs := Fnb_succ 1 (by omega) A B k
      have hp := pk_bd k (by omega)
      have hf := Fnb_bd 1 A B k
      have hq := pk_succ k
      have dA := dig_of A k; have dB := dig_of B k
      have xA := dig01 A k; have xB := dig01 B k
      rw [hmin]
      have HMIN := Lib.hid hmin
      have hp2 : k < 31 → ((2 ^ k : Nat) : Int) * 2 ≤ 2147483648 := fun h => by rw [← pk_succ]; exact (pk_bd (k + 1) (by omega)).2
      obtain ⟨P, hPK⟩ : ∃ P : Int, P = ((2 ^ k : Nat) : Int) := ⟨_, rfl⟩
      rw [← hPK] at hs hp hf hq dA dB hp2 ⊢
      have HPK := Lib.hid hPK.symm; clear hPK
      generalize ((A / 2 ^ k % 2 : Nat) : Int) = x at hs dA xA
      generalize ((B / 2 ^ k % 2 : Nat) : Int) = y at hs dB xB
      generalize Fnb 1 A B k = n0 at hs hf ⊢
      have hP : ¬ P = 0 := by omega
      have HS := Lib.hid hs; have HQ := Lib.hid hq; clear hs hq hmin
      by_cases h31 : k < 31
      · have h2P := hp2 h31
        clear hp2
        rcases xA with rfl | rfl <;> rcases xB with rfl | rfl
        all_goals
          go_wp2
          go_quiet (fail)
          go_wp2
          go_roundw
          case rel => exact ⟨k + 1, by omega, by go_num, by rw [HS.out]; simp [bop], by rw [show min (k + 1) 31 = k + 1 by omega, HQ.out], _, rfl⟩
          case measure => simp [intOf]; omega
      · clear hp2
        rcases xA with rfl | rfl <;> rcases xB with rfl | rfl
        all_goals
          go_wp2
          go_quiet (fail)
          go_wp2
          go_roundw
          case rel => exact ⟨k + 1, by omega, by go_num, by rw [HS.out]; simp [bop], by rw [show min (k + 1) 31 = k by omega, HPK.out], _, rfl⟩
          case measure => simp [intOf]; omega
    · obtain rfl : k = 32 := by omega
      have hall := Fnb_all 1 A B HA.out HB.out
      rw [hall]
      have HALL := Lib.hid hall; clear hall
      go_wp2
      go_ret
      exact ⟨rfl, m, rfl⟩
set_option maxRecDepth 100000 in
set_option maxHeartbeats 4000000 in
theorem rbitwise_2 (A B : Nat) (ha : A < 4294967296) (hb : B < 4294967296) (w : World) :
    Calls Tryz.prog 50 #[.int .u32 (A : Int), .int .u32 (B : Int), .int .i64 2] w fun e w' => e = .returned (.int .u32 (full 2 A B : Int)) ∧ ∃ n, w' = w.drewN n := by
  have ha' : (A : Int) ≤ 4294967295 := by omega
  have hb' : (B : Int) ≤ 4294967295 := by omega
  have ha0 : 0 ≤ (A : Int) := by omega
  have hb0 : 0 ≤ (B : Int) := by omega
  have HA := Lib.hid ha; have HB := Lib.hid hb; clear ha hb
  go_enter Tryz.func50, Tryz.ntmps50
  go_wp2
  go_loopw [7, 8, 9] (fun n p i wr => ∃ k : Nat, k ≤ 32 ∧ i = .int .i64 k ∧ n = .int .u32 (Fnb 2 A B k) ∧ p = .int .u32 ((2 ^ (min k 31) : Nat) : Int) ∧ ∃ m, wr = w.drewN m) (fun _ _ i _ => 32 - (intOf i).toNat)
  case atStart => exact ⟨0, by omega, rfl, by rw [Fnb_zero], rfl, 0, rfl⟩
  case round =>
    obtain ⟨k, hk, rfl, rfl, rfl, m, rfl⟩ := hrel
    by_cases hlt : k < 32
    · have hmin : min k 31 = k := by omega
      have hs := Fnb_succ 2 (by omega) A B k
      have hp := pk_bd k (by omega)
      have hf := Fnb_bd 2 A B k
      have hq := pk_succ k
      have dA := dig_of A k; have dB := dig_of B k
      have xA := dig01 A k; have xB := dig01 B k
      rw [hmin]
      have HMIN := Lib.hid hmin
      have hp2 : k < 31 → ((2 ^ k : Nat) : Int) * 2 ≤ 2147483648 := fun h => by rw [← pk_succ]; exact (pk_bd (k + 1) (by omega)).2
      obtain ⟨P, hPK⟩ : ∃ P : Int, P = ((2 ^ k : Nat) : Int) := ⟨_, rfl⟩
      rw [← hPK] at hs hp hf hq dA dB hp2 ⊢
      have HPK := Lib.hid hPK.symm; clear hPK
      generalize ((A / 2 ^ k % 2 : Nat) : Int) = x at hs dA xA
      generalize ((B / 2 ^ k % 2 : Nat) : Int) = y at hs dB xB
      generalize Fnb 2 A B k = n0 at hs hf ⊢
      have hP : ¬ P = 0 := by omega
      have HS := Lib.hid hs; have HQ := Lib.hid hq; clear hs hq hmin
      by_cases h31 : k < 31
      · have h2P := hp2 h31
        clear hp2
        rcases xA with rfl | rfl <;> rcases xB with rfl | rfl
        all_goals
          go_wp2
          go_quiet (fail)
          go_wp2
          go_roundw
          case rel => exact ⟨k + 1, by omega, by go_num, by rw [HS.out]; simp [bop], by rw [show min (k + 1) 31 = k + 1 by omega, HQ.out], _, rfl⟩
          case measure => simp [intOf]; omega
      · clear hp2
        rcases xA with rfl | rfl <;> rcases xB with rfl | rfl
        all_goals
          go_wp2
          go_quiet (fail)
          go_wp2
          go_roundw
          case rel => exact ⟨k + 1, by omega, by go_num, by rw [HS.out]; simp [bop], by rw [show min (k + 1) 31 = k by omega, HPK.out], _, rfl⟩
          case measure => simp [intOf]; omega
    · obtain rfl : k = 32 := by omega
      have hall := Fnb_all 2 A B HA.out HB.out
      rw [hall]
      have HALL := Lib.hid hall; clear hall
      go_wp2
      go_ret
      exact ⟨rfl, m, rfl⟩
end Go.Proofs.YtianojbdabeoeaaGreatDoor
end

section
namespace Go.Proofs.YtianojbdabeoeaaGreatDoor
open Go.RowKit

theorem rdivu_any (a b : Int) (ha : Ar.Wd a) (hb : Ar.Wd b) (w : World) :
    Calls Tryz.prog 190 #[.int .u32 a, .int .u32 b] w fun e w' => e = .returned (.int .u32 (Ar.divu a b)) ∧ w = w' := by
  unfold Ar.Wd at ha hb
  by_cases h : b = 0
  · subst h
    go_enter Tryz.func190, Tryz.ntmps190
    go_wp2
    go_ret
    exact ⟨rfl, rfl⟩
  · have he := Lib.hid (show Ar.divu a b = a / b by unfold Ar.divu; rw [if_neg h])
    have h1 : 1 ≤ b := by omega
    have hq := Ar.quo_bd ha.1 ha.2 h1
    have hb0 : (b == 0) = false := by simp [h]
    clear h
    go_enter Tryz.func190, Tryz.ntmps190
    go_wp2
    go_ret
    exact ⟨ret_int he.out.symm, rfl⟩
theorem rremu_any (a b : Int) (ha : Ar.Wd a) (hb : Ar.Wd b) (w : World) :
    Calls Tryz.prog 192 #[.int .u32 a, .int .u32 b] w fun e w' => e = .returned (.int .u32 (Ar.remu a b)) ∧ w = w' := by
  unfold Ar.Wd at ha hb
  by_cases h : b = 0
  · subst h
    go_enter Tryz.func192, Tryz.ntmps192
    go_wp2
    go_ret
    exact ⟨rfl, rfl⟩
  · have he := Lib.hid (show Ar.remu a b = a % b by unfold Ar.remu; rw [if_neg h])
    have h1 : 1 ≤ b := by omega
    have hq := Ar.rem_bd (x := a) h1 hb.2
    have hb0 : (b == 0) = false := by simp [h]
    clear h
    go_enter Tryz.func192, Tryz.ntmps192
    go_wp2
    go_ret
    exact ⟨ret_int he.out.symm, rfl⟩
theorem rdiv_any (a b : Int) (ha : Ar.Wd a) (hb : Ar.Wd b) (w : World) :
    Calls Tryz.prog 189 #[.int .u32 a, .int .u32 b] w fun e w' => e = .returned (.int .u32 (Ar.div a b)) ∧ w = w' := by
  by_cases h : b = 0
  · subst h
    go_enter Tryz.func189, Tryz.ntmps189
    go_wp2
    go_ret
    exact ⟨rfl, rfl⟩
  · have he := Lib.hid (show Ar.md ((Ar.sg a).tdiv (Ar.sg b)) = Ar.div a b by unfold Ar.div; rw [if_neg h])
    have hq := Ar.sdiv_bd ha hb h
    have hn : ¬ Ar.sg b = 0 := Ar.sg_nz hb h
    have hb0 : (b == 0) = false := by simp [h]
    have hA := Lib.hid ha; have hB := Lib.hid hb; clear ha hb h
    go_enter Tryz.func189, Tryz.ntmps189
    go_wp2_with fail
    refine (a_rsign_any a hA.out _).mono ?_
    rintro e w' ⟨rfl, rfl⟩
    go_wp2_with fail
    refine (a_rsign_any b hB.out _).mono ?_
    rintro e w' ⟨rfl, rfl⟩
    go_wp2_with fail
    refine (a_rword_any _ (by omega) _).mono ?_
    rintro e w' ⟨rfl, rfl⟩
    go_wp2
    go_ret
    exact ⟨ret_int he.out, rfl⟩
theorem rrem_any (a b : Int) (ha : Ar.Wd a) (hb : Ar.Wd b) (w : World) :
    Calls Tryz.prog 191 #[.int .u32 a, .int .u32 b] w fun e w' => e = .returned (.int .u32 (Ar.rem a b)) ∧ w = w' := by
  by_cases h : b = 0
  · subst h
    go_enter Tryz.func191, Tryz.ntmps191
    go_wp2
    go_ret
    exact ⟨rfl, rfl⟩
  · have he := Lib.hid (show Ar.md ((Ar.sg a).tmod (Ar.sg b)) = Ar.rem a b by unfold Ar.rem; rw [if_neg h])
    have hq := Ar.srem_bd (b := b) ha
    have hn : ¬ Ar.sg b = 0 := Ar.sg_nz hb h
    have hb0 : (b == 0) = false := by simp [h]
    have hA := Lib.hid ha; have hB := Lib.hid hb; clear ha hb h
    go_enter Tryz.func191, Tryz.ntmps191
    go_wp2_with fail
    refine (a_rsign_any a hA.out _).mono ?_
    rintro e w' ⟨rfl, rfl⟩
    go_wp2_with fail
    refine (a_rsign_any b hB.out _).mono ?_
    rintro e w' ⟨rfl, rfl⟩
    go_wp2_with fail
    refine (a_rword_any _ (by omega) _).mono ?_
    rintro e w' ⟨rfl, rfl⟩
    go_wp2
    go_ret
    exact ⟨ret_int he.out, rfl⟩

theorem rpower_any (n : Int) (hn : Ar.Wd n) (w : World) :
    Calls Tryz.prog 215 #[.int .u32 n] w fun e w' => e = .returned (.int .i64 (Ar.pw n)) ∧ w = w' := by
  unfold Ar.Wd at hn
  obtain ⟨m, hm⟩ : ∃ m : Nat, n % 32 = m := ⟨(n % 32).toNat, by omega⟩
  have hm1 : m ≤ 31 := by omega
  have he := Lib.hid (show Ar.pw n = Ar.p2 m by rw [Ar.pw_p2, hm]; rfl)
  go_enter Tryz.func215, Tryz.ntmps215
  go_wp2
  go_loop [3, 4] (fun p i => ∃ k : Nat, k ≤ m ∧ i = .int .u32 k ∧ p = .int .i64 (Ar.p2 k)) (fun _ i => m - (intOf i).toNat)
  case atStart => exact ⟨0, Nat.zero_le _, rfl, rfl⟩
  case round =>
    obtain ⟨k, hk, rfl, rfl⟩ := hrel
    have hp1 := Ar.p2_pos k
    have hp2 := Ar.p2_le (k := k) (by omega)
    have hs := Lib.hid (Ar.p2_succ k)
    by_cases hlt : k < m
    · go_wp2
      go_round
      case rel => exact ⟨k + 1, by omega, by go_num, by rw [hs.out]⟩
      case measure => simp [intOf]; omega
    · have hkm : k = m := by omega
      subst hkm
      go_wp2
      go_ret
      exact ⟨ret_int he.out.symm, rfl⟩

theorem rshl_any (a n : Int) (ha : Ar.Wd a) (hn : Ar.Wd n) (w : World) :
    Calls Tryz.prog 182 #[.int .u32 a, .int .u32 n] w fun e w' => e = .returned (.int .u32 (Ar.shl a n)) ∧ w = w' := by
  unfold Ar.Wd at hn
  have h0 := Lib.hid (show Ar.md (a * Ar.p2 0) = a by unfold Ar.Wd at ha; unfold Ar.p2 Ar.md; simp; omega)
  clear ha
  obtain ⟨m, hm⟩ : ∃ m : Nat, n % 32 = m := ⟨(n % 32).toNat, by omega⟩
  have hm1 : m ≤ 31 := by omega
  have he := Lib.hid (show Ar.shl a n = Ar.md (a * Ar.p2 m) by unfold Ar.shl; rw [Ar.pw_p2, hm]; rfl)
  go_enter Tryz.func182, Tryz.ntmps182
  go_wp2
  go_loop [0, 5] (fun p i => ∃ k : Nat, k ≤ m ∧ i = .int .u32 k ∧ p = .int .u32 (Ar.md (a * Ar.p2 k))) (fun _ i => m - (intOf i).toNat)
  case atStart => exact ⟨0, Nat.zero_le _, rfl, by rw [h0.out]⟩
  case round =>
    obtain ⟨k, hk, rfl, rfl⟩ := hrel
    have hw := Ar.md_wd (a * Ar.p2 k)
    unfold Ar.Wd at hw
    have hs := Lib.hid (Ar.md_step a k)
    by_cases hlt : k < m
    · go_wp2_with fail
      refine (a_rword_any _ (by omega) _).mono ?_
      rintro e w' ⟨rfl, rfl⟩
      go_wp2
      go_round
      case rel => exact ⟨k + 1, by omega, by go_num, by rw [hs.out]⟩
      case measure => simp [intOf]; omega
    · have hkm : k = m := by omega
      subst hkm
      go_wp2
      go_ret
      exact ⟨ret_int he.out.symm, rfl⟩

theorem rshr_any (a n : Int) (ha : Ar.Wd a) (hn : Ar.Wd n) (w : World) :
    Calls Tryz.prog 183 #[.int .u32 a, .int .u32 n] w fun e w' => e = .returned (.int .u32 (Ar.shr a n)) ∧ w = w' := by
  have hp := Ar.pw_pos n
  have hN := Lib.hid hn; clear hn
  have hq := Ar.quo_bd ha.1 ha.2 hp
  have he := Lib.hid (Ar.md_in hq)
  unfold Ar.Wd at ha
  go_enter Tryz.func183, Tryz.ntmps183
  go_wp2_with fail
  refine (rpower_any n hN.out _).mono ?_
  rintro e w' ⟨rfl, rfl⟩
  go_wp2_with fail
  refine (a_rword_any _ (by omega) _).mono ?_
  rintro e w' ⟨rfl, rfl⟩
  go_wp2
  go_ret
  exact ⟨ret_int he.out, rfl⟩

end Go.Proofs.YtianojbdabeoeaaGreatDoor
end

section
namespace Go.Proofs.YtianojbdabeoeaaGreatDoor
open Go.RowKit

theorem rsar_any (a n : Int) (ha : Ar.Wd a) (hn : Ar.Wd n) (w : World) :
    Calls Tryz.prog 184 #[.int .u32 a, .int .u32 n] w fun e w' => e = .returned (.int .u32 (Ar.sar a n)) ∧ w = w' := by
  have hA := Lib.hid ha
  have hN := Lib.hid hn; clear hn
  have hs := Ar.sg_bd ha
  have hp := Ar.pw_pos n
  have hpu := Ar.pw_le n
  have hz : ¬ Ar.pw n = 0 := by omega
  clear ha
  by_cases h : 0 ≤ Ar.sg a
  · have hq := Ar.quo_bd h hs.2 hp
    go_enter Tryz.func184, Tryz.ntmps184
    go_wp2_with fail
    refine (a_rsign_any a hA.out _).mono ?_
    rintro e w' ⟨rfl, rfl⟩
    go_wp2_with fail
    refine (rpower_any n hN.out _).mono ?_
    rintro e w' ⟨rfl, rfl⟩
    go_wp2_with fail
    refine (a_rword_any _ (by omega) _).mono ?_
    rintro e w' ⟨rfl, rfl⟩
    go_wp2
    go_ret
    exact ⟨rfl, rfl⟩
  · have ht : (Ar.sg a).tdiv (Ar.pw n) = -(-Ar.sg a / Ar.pw n) := Ar.tdiv_neg_of (by omega)
    have hb := Ar.near_bd hp (show Ar.sg a < 0 by omega)
    have hw : wrap64 (-(-Ar.sg a / Ar.pw n) * Ar.pw n) = -(-Ar.sg a / Ar.pw n * Ar.pw n) := by
      rw [Int.neg_mul]; exact i64_of _ (by omega)
    by_cases hz2 : -Ar.sg a / Ar.pw n * Ar.pw n = -Ar.sg a
    · have h0 := Lib.hid (Ar.floor_even hp hz2)
      have ht2 : (wrap64 (-(-Ar.sg a / Ar.pw n) * Ar.pw n) != Ar.sg a) = false := by rw [hw, hz2]; simp
      clear hz2 hw
      go_enter Tryz.func184, Tryz.ntmps184
      go_wp2_with fail
      refine (a_rsign_any a hA.out _).mono ?_
      rintro e w' ⟨rfl, rfl⟩
      go_wp2_with fail
      refine (rpower_any n hN.out _).mono ?_
      rintro e w' ⟨rfl, rfl⟩
      go_wp2_with fail
      refine (a_rword_any _ (by omega) _).mono ?_
      rintro e w' ⟨rfl, rfl⟩
      go_wp2
      go_ret
      exact ⟨ret_int (by unfold Ar.sar; rw [h0.out]), rfl⟩
    · have h0 := Lib.hid (Ar.floor_odd hp hz2)
      have ht2 : (wrap64 (-(-Ar.sg a / Ar.pw n) * Ar.pw n) != Ar.sg a) = true := by
        rw [hw]
        have : ¬ -(-Ar.sg a / Ar.pw n * Ar.pw n) = Ar.sg a := by omega
        simp [this]
      clear hz2 hw
      go_enter Tryz.func184, Tryz.ntmps184
      go_wp2_with fail
      refine (a_rsign_any a hA.out _).mono ?_
      rintro e w' ⟨rfl, rfl⟩
      go_wp2_with fail
      refine (rpower_any n hN.out _).mono ?_
      rintro e w' ⟨rfl, rfl⟩
      go_wp2_with fail
      refine (a_rword_any _ (by omega) _).mono ?_
      rintro e w' ⟨rfl, rfl⟩
      go_wp2
      go_ret
      exact ⟨ret_int (by unfold Ar.sar; rw [h0.out]), rfl⟩

end Go.Proofs.YtianojbdabeoeaaGreatDoor
end

section
namespace Go.Proofs.YtianojbdabeoeaaGreatDoor
open Go.RowKit Ht
set_option linter.unusedVariables false
theorem Ht.to_nat {a : Int} (h : Ar.Wd a) : ∃ A : Nat, a = (A : Int) ∧ A < 4294967296 := by
  unfold Ar.Wd at h
  obtain ⟨A, rfl⟩ := Int.eq_ofNat_of_zero_le h.1
  exact ⟨A, rfl, by omega⟩
theorem Ht.m32 {b : Int} (h : Ar.Wd b) : Ar.Wd (b % 32) := by unfold Ar.Wd at *; omega
theorem Ht.shl_m (a b : Int) : Ar.shl a (b % 32) = Ar.shl a b := by unfold Ar.shl Ar.pw; rw [Int.emod_emod_of_dvd _ (Int.dvd_refl 32)]
theorem Ht.shr_m (a b : Int) : Ar.shr a (b % 32) = Ar.shr a b := by unfold Ar.shr Ar.pw; rw [Int.emod_emod_of_dvd _ (Int.dvd_refl 32)]
theorem Ht.sar_m (a b : Int) : Ar.sar a (b % 32) = Ar.sar a b := by unfold Ar.sar Ar.pw; rw [Int.emod_emod_of_dvd _ (Int.dvd_refl 32)]
theorem rbw (how : Nat) (op : BinOp) (hh : (how = 0 ∧ op = .xor) ∨ (how = 1 ∧ op = .or) ∨ (how = 2 ∧ op = .and)) (a b : Int) (ha : Ar.Wd a) (hb : Ar.Wd b) (w : World) :
    Calls Tryz.prog 50 #[.int .u32 a, .int .u32 b, .int .i64 how] w fun e w' => e = .returned (.int .u32 (bits op .u32 a b)) ∧ Below w.heap.size w w' := by
  obtain ⟨A, rfl, hA⟩ := to_nat ha
  obtain ⟨B, rfl, hB⟩ := to_nat hb
  obtain ⟨n1, n2, n3⟩ := nat_bits A B hA hB
  rcases hh with ⟨rfl, rfl⟩ | ⟨rfl, rfl⟩ | ⟨rfl, rfl⟩
  · rw [n1]; exact (rbitwise_0 A B hA hB w).mono fun e w' ⟨he, n, hw⟩ => ⟨he, by rw [hw]; exact bdrewN w n⟩
  · rw [n2]; exact (rbitwise_1 A B hA hB w).mono fun e w' ⟨he, n, hw⟩ => ⟨he, by rw [hw]; exact bdrewN w n⟩
  · rw [n3]; exact (rbitwise_2 A B hA hB w).mono fun e w' ⟨he, n, hw⟩ => ⟨he, by rw [hw]; exact bdrewN w n⟩
theorem rtwo_19 (a b : Int) (ha : Ar.Wd a) (hb : Ar.Wd b) (w : World) :
    Calls Tryz.prog 89 #[.int .i64 19, .int .u32 a, .int .u32 b] w fun e w' => e = .returned (.int .u32 (two 19 a b)) ∧ Below w.heap.size w w' := by
  have HA := Lib.hid ha; have HB := Lib.hid hb; clear ha hb
  go_enter Tryz.func89, Tryz.ntmps89
  go_wp2_with fail
  refine (radd_any _ _ HA.out HB.out _).mono ?_
  rintro e w1 ⟨rfl, rfl⟩
  go_wp2
  go_ret
  exact ⟨rfl, Below.refl _ _⟩
theorem rtwo_20 (a b : Int) (ha : Ar.Wd a) (hb : Ar.Wd b) (w : World) :
    Calls Tryz.prog 89 #[.int .i64 20, .int .u32 a, .int .u32 b] w fun e w' => e = .returned (.int .u32 (two 20 a b)) ∧ Below w.heap.size w w' := by
  have HA := Lib.hid ha; have HB := Lib.hid hb; clear ha hb
  go_enter Tryz.func89, Tryz.ntmps89
  go_wp2_with fail
  refine (rsigned_any _ HA.out _).mono ?_
  rintro e w1 ⟨rfl, rfl⟩
  go_wp2_with fail
  refine (rsigned_any _ HB.out _).mono ?_
  rintro e w1 ⟨rfl, rfl⟩
  go_wp2_with fail
  refine (rtruth_any _ _).mono ?_
  rintro e w1 ⟨rfl, rfl⟩
  go_wp2
  go_ret
  exact ⟨rfl, Below.refl _ _⟩
theorem rtwo_21 (a b : Int) (ha : Ar.Wd a) (hb : Ar.Wd b) (w : World) :
    Calls Tryz.prog 89 #[.int .i64 21, .int .u32 a, .int .u32 b] w fun e w' => e = .returned (.int .u32 (two 21 a b)) ∧ Below w.heap.size w w' := by
  have HA := Lib.hid ha; have HB := Lib.hid hb; clear ha hb
  go_enter Tryz.func89, Tryz.ntmps89
  go_wp2_with fail
  refine (rtruth_any _ _).mono ?_
  rintro e w1 ⟨rfl, rfl⟩
  go_wp2
  go_ret
  exact ⟨rfl, Below.refl _ _⟩
theorem rtwo_22 (a b : Int) (ha : Ar.Wd a) (hb : Ar.Wd b) (w : World) :
    Calls Tryz.prog 89 #[.int .i64 22, .int .u32 a, .int .u32 b] w fun e w' => e = .returned (.int .u32 (two 22 a b)) ∧ Below w.heap.size w w' := by
  have HA := Lib.hid ha; have HB := Lib.hid hb; clear ha hb
  go_enter Tryz.func89, Tryz.ntmps89
  go_wp2_with fail
  refine (rbw 0 .xor (by simp) _ _ HA.out HB.out _).mono ?_
  rintro e w1 ⟨rfl, hbb⟩
  have HBB := Lib.hid hbb; clear hbb
  go_wp2
  go_ret
  exact ⟨rfl, HBB.out⟩
theorem rtwo_23 (a b : Int) (ha : Ar.Wd a) (hb : Ar.Wd b) (w : World) :
    Calls Tryz.prog 89 #[.int .i64 23, .int .u32 a, .int .u32 b] w fun e w' => e = .returned (.int .u32 (two 23 a b)) ∧ Below w.heap.size w w' := by
  have HA := Lib.hid ha; have HB := Lib.hid hb; clear ha hb
  go_enter Tryz.func89, Tryz.ntmps89
  go_wp2_with fail
  refine (rbw 1 .or (by simp) _ _ HA.out HB.out _).mono ?_
  rintro e w1 ⟨rfl, hbb⟩
  have HBB := Lib.hid hbb; clear hbb
  go_wp2
  go_ret
  exact ⟨rfl, HBB.out⟩
theorem rtwo_24 (a b : Int) (ha : Ar.Wd a) (hb : Ar.Wd b) (w : World) :
    Calls Tryz.prog 89 #[.int .i64 24, .int .u32 a, .int .u32 b] w fun e w' => e = .returned (.int .u32 (two 24 a b)) ∧ Below w.heap.size w w' := by
  have HA := Lib.hid ha; have HB := Lib.hid hb; clear ha hb
  go_enter Tryz.func89, Tryz.ntmps89
  go_wp2_with fail
  refine (rbw 2 .and (by simp) _ _ HA.out HB.out _).mono ?_
  rintro e w1 ⟨rfl, hbb⟩
  have HBB := Lib.hid hbb; clear hbb
  go_wp2
  go_ret
  exact ⟨rfl, HBB.out⟩
theorem rtwo_25 (a b : Int) (ha : Ar.Wd a) (hb : Ar.Wd b) (w : World) :
    Calls Tryz.prog 89 #[.int .i64 25, .int .u32 a, .int .u32 b] w fun e w' => e = .returned (.int .u32 (two 25 a b)) ∧ Below w.heap.size w w' := by
  have HA := Lib.hid ha; have HB := Lib.hid hb; clear ha hb
  have hb0 := HB.out
  unfold Ar.Wd at hb0
  go_enter Tryz.func89, Tryz.ntmps89
  go_wp2_with fail
  refine (rshl_any _ _ HA.out (m32 HB.out) _).mono ?_
  rintro e w1 ⟨rfl, rfl⟩
  rw [shl_m]
  go_wp2
  go_ret
  exact ⟨rfl, Below.refl _ _⟩
theorem rtwo_26 (a b : Int) (ha : Ar.Wd a) (hb : Ar.Wd b) (w : World) :
    Calls Tryz.prog 89 #[.int .i64 26, .int .u32 a, .int .u32 b] w fun e w' => e = .returned (.int .u32 (two 26 a b)) ∧ Below w.heap.size w w' := by
  have HA := Lib.hid ha; have HB := Lib.hid hb; clear ha hb
  have hb0 := HB.out
  unfold Ar.Wd at hb0
  go_enter Tryz.func89, Tryz.ntmps89
  go_wp2_with fail
  refine (rshr_any _ _ HA.out (m32 HB.out) _).mono ?_
  rintro e w1 ⟨rfl, rfl⟩
  rw [shr_m]
  go_wp2
  go_ret
  exact ⟨rfl, Below.refl _ _⟩
theorem rtwo_27 (a b : Int) (ha : Ar.Wd a) (hb : Ar.Wd b) (w : World) :
    Calls Tryz.prog 89 #[.int .i64 27, .int .u32 a, .int .u32 b] w fun e w' => e = .returned (.int .u32 (two 27 a b)) ∧ Below w.heap.size w w' := by
  have HA := Lib.hid ha; have HB := Lib.hid hb; clear ha hb
  have hb0 := HB.out
  unfold Ar.Wd at hb0
  go_enter Tryz.func89, Tryz.ntmps89
  go_wp2_with fail
  refine (rsar_any _ _ HA.out (m32 HB.out) _).mono ?_
  rintro e w1 ⟨rfl, rfl⟩
  rw [sar_m]
  go_wp2
  go_ret
  exact ⟨rfl, Below.refl _ _⟩
theorem rtwo_28 (a b : Int) (ha : Ar.Wd a) (hb : Ar.Wd b) (w : World) :
    Calls Tryz.prog 89 #[.int .i64 28, .int .u32 a, .int .u32 b] w fun e w' => e = .returned (.int .u32 (two 28 a b)) ∧ Below w.heap.size w w' := by
  have HA := Lib.hid ha; have HB := Lib.hid hb; clear ha hb
  go_enter Tryz.func89, Tryz.ntmps89
  go_wp2_with fail
  refine (radd_any _ _ HA.out HB.out _).mono ?_
  rintro e w1 ⟨rfl, rfl⟩
  go_wp2
  go_ret
  exact ⟨rfl, Below.refl _ _⟩
theorem rtwo_29 (a b : Int) (ha : Ar.Wd a) (hb : Ar.Wd b) (w : World) :
    Calls Tryz.prog 89 #[.int .i64 29, .int .u32 a, .int .u32 b] w fun e w' => e = .returned (.int .u32 (two 29 a b)) ∧ Below w.heap.size w w' := by
  have HA := Lib.hid ha; have HB := Lib.hid hb; clear ha hb
  go_enter Tryz.func89, Tryz.ntmps89
  go_wp2_with fail
  refine (rsub_any _ _ HA.out HB.out _).mono ?_
  rintro e w1 ⟨rfl, rfl⟩
  go_wp2
  go_ret
  exact ⟨rfl, Below.refl _ _⟩
theorem rtwo_30 (a b : Int) (ha : Ar.Wd a) (hb : Ar.Wd b) (w : World) :
    Calls Tryz.prog 89 #[.int .i64 30, .int .u32 a, .int .u32 b] w fun e w' => e = .returned (.int .u32 (two 30 a b)) ∧ Below w.heap.size w w' := by
  have HA := Lib.hid ha; have HB := Lib.hid hb; clear ha hb
  have hb0 := HB.out
  unfold Ar.Wd at hb0
  go_enter Tryz.func89, Tryz.ntmps89
  go_wp2_with fail
  refine (rshl_any _ _ HA.out (m32 HB.out) _).mono ?_
  rintro e w1 ⟨rfl, rfl⟩
  rw [shl_m]
  go_wp2
  go_ret
  exact ⟨rfl, Below.refl _ _⟩
theorem rtwo_31 (a b : Int) (ha : Ar.Wd a) (hb : Ar.Wd b) (w : World) :
    Calls Tryz.prog 89 #[.int .i64 31, .int .u32 a, .int .u32 b] w fun e w' => e = .returned (.int .u32 (two 31 a b)) ∧ Below w.heap.size w w' := by
  have HA := Lib.hid ha; have HB := Lib.hid hb; clear ha hb
  go_enter Tryz.func89, Tryz.ntmps89
  go_wp2_with fail
  refine (rsigned_any _ HA.out _).mono ?_
  rintro e w1 ⟨rfl, rfl⟩
  go_wp2_with fail
  refine (rsigned_any _ HB.out _).mono ?_
  rintro e w1 ⟨rfl, rfl⟩
  go_wp2_with fail
  refine (rtruth_any _ _).mono ?_
  rintro e w1 ⟨rfl, rfl⟩
  go_wp2
  go_ret
  exact ⟨rfl, Below.refl _ _⟩
theorem rtwo_32 (a b : Int) (ha : Ar.Wd a) (hb : Ar.Wd b) (w : World) :
    Calls Tryz.prog 89 #[.int .i64 32, .int .u32 a, .int .u32 b] w fun e w' => e = .returned (.int .u32 (two 32 a b)) ∧ Below w.heap.size w w' := by
  have HA := Lib.hid ha; have HB := Lib.hid hb; clear ha hb
  go_enter Tryz.func89, Tryz.ntmps89
  go_wp2_with fail
  refine (rtruth_any _ _).mono ?_
  rintro e w1 ⟨rfl, rfl⟩
  go_wp2
  go_ret
  exact ⟨rfl, Below.refl _ _⟩
theorem rtwo_33 (a b : Int) (ha : Ar.Wd a) (hb : Ar.Wd b) (w : World) :
    Calls Tryz.prog 89 #[.int .i64 33, .int .u32 a, .int .u32 b] w fun e w' => e = .returned (.int .u32 (two 33 a b)) ∧ Below w.heap.size w w' := by
  have HA := Lib.hid ha; have HB := Lib.hid hb; clear ha hb
  go_enter Tryz.func89, Tryz.ntmps89
  go_wp2_with fail
  refine (rbw 0 .xor (by simp) _ _ HA.out HB.out _).mono ?_
  rintro e w1 ⟨rfl, hbb⟩
  have HBB := Lib.hid hbb; clear hbb
  go_wp2
  go_ret
  exact ⟨rfl, HBB.out⟩
theorem rtwo_34 (a b : Int) (ha : Ar.Wd a) (hb : Ar.Wd b) (w : World) :
    Calls Tryz.prog 89 #[.int .i64 34, .int .u32 a, .int .u32 b] w fun e w' => e = .returned (.int .u32 (two 34 a b)) ∧ Below w.heap.size w w' := by
  have HA := Lib.hid ha; have HB := Lib.hid hb; clear ha hb
  have hb0 := HB.out
  unfold Ar.Wd at hb0
  go_enter Tryz.func89, Tryz.ntmps89
  go_wp2_with fail
  refine (rshr_any _ _ HA.out (m32 HB.out) _).mono ?_
  rintro e w1 ⟨rfl, rfl⟩
  rw [shr_m]
  go_wp2
  go_ret
  exact ⟨rfl, Below.refl _ _⟩
theorem rtwo_35 (a b : Int) (ha : Ar.Wd a) (hb : Ar.Wd b) (w : World) :
    Calls Tryz.prog 89 #[.int .i64 35, .int .u32 a, .int .u32 b] w fun e w' => e = .returned (.int .u32 (two 35 a b)) ∧ Below w.heap.size w w' := by
  have HA := Lib.hid ha; have HB := Lib.hid hb; clear ha hb
  have hb0 := HB.out
  unfold Ar.Wd at hb0
  go_enter Tryz.func89, Tryz.ntmps89
  go_wp2_with fail
  refine (rsar_any _ _ HA.out (m32 HB.out) _).mono ?_
  rintro e w1 ⟨rfl, rfl⟩
  rw [sar_m]
  go_wp2
  go_ret
  exact ⟨rfl, Below.refl _ _⟩
theorem rtwo_36 (a b : Int) (ha : Ar.Wd a) (hb : Ar.Wd b) (w : World) :
    Calls Tryz.prog 89 #[.int .i64 36, .int .u32 a, .int .u32 b] w fun e w' => e = .returned (.int .u32 (two 36 a b)) ∧ Below w.heap.size w w' := by
  have HA := Lib.hid ha; have HB := Lib.hid hb; clear ha hb
  go_enter Tryz.func89, Tryz.ntmps89
  go_wp2_with fail
  refine (rbw 1 .or (by simp) _ _ HA.out HB.out _).mono ?_
  rintro e w1 ⟨rfl, hbb⟩
  have HBB := Lib.hid hbb; clear hbb
  go_wp2
  go_ret
  exact ⟨rfl, HBB.out⟩
theorem rtwo_37 (a b : Int) (ha : Ar.Wd a) (hb : Ar.Wd b) (w : World) :
    Calls Tryz.prog 89 #[.int .i64 37, .int .u32 a, .int .u32 b] w fun e w' => e = .returned (.int .u32 (two 37 a b)) ∧ Below w.heap.size w w' := by
  have HA := Lib.hid ha; have HB := Lib.hid hb; clear ha hb
  go_enter Tryz.func89, Tryz.ntmps89
  go_wp2_with fail
  refine (rbw 2 .and (by simp) _ _ HA.out HB.out _).mono ?_
  rintro e w1 ⟨rfl, hbb⟩
  have HBB := Lib.hid hbb; clear hbb
  go_wp2
  go_ret
  exact ⟨rfl, HBB.out⟩
theorem rtwo_40 (a b : Int) (ha : Ar.Wd a) (hb : Ar.Wd b) (w : World) :
    Calls Tryz.prog 89 #[.int .i64 40, .int .u32 a, .int .u32 b] w fun e w' => e = .returned (.int .u32 (two 40 a b)) ∧ Below w.heap.size w w' := by
  have HA := Lib.hid ha; have HB := Lib.hid hb; clear ha hb
  go_enter Tryz.func89, Tryz.ntmps89
  go_wp2_with fail
  refine (rmul_any _ _ HA.out HB.out _).mono ?_
  rintro e w1 ⟨rfl, rfl⟩
  go_wp2
  go_ret
  exact ⟨rfl, Below.refl _ _⟩
theorem rtwo_41 (a b : Int) (ha : Ar.Wd a) (hb : Ar.Wd b) (w : World) :
    Calls Tryz.prog 89 #[.int .i64 41, .int .u32 a, .int .u32 b] w fun e w' => e = .returned (.int .u32 (two 41 a b)) ∧ Below w.heap.size w w' := by
  have HA := Lib.hid ha; have HB := Lib.hid hb; clear ha hb
  go_enter Tryz.func89, Tryz.ntmps89
  go_wp2_with fail
  refine (rmulh_any _ _ HA.out HB.out _).mono ?_
  rintro e w1 ⟨rfl, rfl⟩
  go_wp2
  go_ret
  exact ⟨rfl, Below.refl _ _⟩
theorem rtwo_42 (a b : Int) (ha : Ar.Wd a) (hb : Ar.Wd b) (w : World) :
    Calls Tryz.prog 89 #[.int .i64 42, .int .u32 a, .int .u32 b] w fun e w' => e = .returned (.int .u32 (two 42 a b)) ∧ Below w.heap.size w w' := by
  have HA := Lib.hid ha; have HB := Lib.hid hb; clear ha hb
  go_enter Tryz.func89, Tryz.ntmps89
  go_wp2_with fail
  refine (rmulhsu_any _ _ HA.out HB.out _).mono ?_
  rintro e w1 ⟨rfl, rfl⟩
  go_wp2
  go_ret
  exact ⟨rfl, Below.refl _ _⟩
theorem rtwo_43 (a b : Int) (ha : Ar.Wd a) (hb : Ar.Wd b) (w : World) :
    Calls Tryz.prog 89 #[.int .i64 43, .int .u32 a, .int .u32 b] w fun e w' => e = .returned (.int .u32 (two 43 a b)) ∧ Below w.heap.size w w' := by
  have HA := Lib.hid ha; have HB := Lib.hid hb; clear ha hb
  go_enter Tryz.func89, Tryz.ntmps89
  go_wp2_with fail
  refine (rmulhu_any _ _ HA.out HB.out _).mono ?_
  rintro e w1 ⟨rfl, rfl⟩
  go_wp2
  go_ret
  exact ⟨rfl, Below.refl _ _⟩
theorem rtwo_44 (a b : Int) (ha : Ar.Wd a) (hb : Ar.Wd b) (w : World) :
    Calls Tryz.prog 89 #[.int .i64 44, .int .u32 a, .int .u32 b] w fun e w' => e = .returned (.int .u32 (two 44 a b)) ∧ Below w.heap.size w w' := by
  have HA := Lib.hid ha; have HB := Lib.hid hb; clear ha hb
  go_enter Tryz.func89, Tryz.ntmps89
  go_wp2_with fail
  refine (rdiv_any _ _ HA.out HB.out _).mono ?_
  rintro e w1 ⟨rfl, rfl⟩
  go_wp2
  go_ret
  exact ⟨rfl, Below.refl _ _⟩
theorem rtwo_45 (a b : Int) (ha : Ar.Wd a) (hb : Ar.Wd b) (w : World) :
    Calls Tryz.prog 89 #[.int .i64 45, .int .u32 a, .int .u32 b] w fun e w' => e = .returned (.int .u32 (two 45 a b)) ∧ Below w.heap.size w w' := by
  have HA := Lib.hid ha; have HB := Lib.hid hb; clear ha hb
  go_enter Tryz.func89, Tryz.ntmps89
  go_wp2_with fail
  refine (rdivu_any _ _ HA.out HB.out _).mono ?_
  rintro e w1 ⟨rfl, rfl⟩
  go_wp2
  go_ret
  exact ⟨rfl, Below.refl _ _⟩
theorem rtwo_46 (a b : Int) (ha : Ar.Wd a) (hb : Ar.Wd b) (w : World) :
    Calls Tryz.prog 89 #[.int .i64 46, .int .u32 a, .int .u32 b] w fun e w' => e = .returned (.int .u32 (two 46 a b)) ∧ Below w.heap.size w w' := by
  have HA := Lib.hid ha; have HB := Lib.hid hb; clear ha hb
  go_enter Tryz.func89, Tryz.ntmps89
  go_wp2_with fail
  refine (rrem_any _ _ HA.out HB.out _).mono ?_
  rintro e w1 ⟨rfl, rfl⟩
  go_wp2
  go_ret
  exact ⟨rfl, Below.refl _ _⟩
theorem rtwo_47 (a b : Int) (ha : Ar.Wd a) (hb : Ar.Wd b) (w : World) :
    Calls Tryz.prog 89 #[.int .i64 47, .int .u32 a, .int .u32 b] w fun e w' => e = .returned (.int .u32 (two 47 a b)) ∧ Below w.heap.size w w' := by
  have HA := Lib.hid ha; have HB := Lib.hid hb; clear ha hb
  go_enter Tryz.func89, Tryz.ntmps89
  go_wp2_with fail
  refine (rremu_any _ _ HA.out HB.out _).mono ?_
  rintro e w1 ⟨rfl, rfl⟩
  go_wp2
  go_ret
  exact ⟨rfl, Below.refl _ _⟩
end Go.Proofs.YtianojbdabeoeaaGreatDoor
end
