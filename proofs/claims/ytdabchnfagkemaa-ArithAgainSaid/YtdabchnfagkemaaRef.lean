/-
  The contracts of the document's own answers for layer 1: each tells what Math says.
-/
import Derived.Test.YtdabchnfagkemaaQuot
import Derived.LoopTactic
namespace Go.Proofs.Ytdabchnfagkemaa
open Go.RowKit

theorem rsign_any (a : Int) (ha : Ar.Wd a) (w : World) :
    Calls Try.prog 46 #[.int .u32 a] w fun e w' => e = .returned (.int .i64 (Ar.sg a)) ∧ w = w' := by
  unfold Ar.Wd at ha
  by_cases h : a < 2147483648
  · have hs := Lib.hid (Ar.sg_pos h)
    go_enter Try.func46, Try.ntmps46
    go_wp2
    go_ret
    exact ⟨ret_int hs.out.symm, rfl⟩
  · have hs := Lib.hid (show Ar.sg a = a - 4294967296 by unfold Ar.sg; rw [if_neg h])
    go_enter Try.func46, Try.ntmps46
    go_wp2
    go_ret
    exact ⟨ret_int hs.out.symm, rfl⟩

theorem rword_any (x : Int) (hx : -9223372036854775808 ≤ x ∧ x ≤ 9223372036854775807) (w : World) :
    Calls Try.prog 47 #[.int .i64 x] w fun e w' => e = .returned (.int .u32 (Ar.md x)) ∧ w = w' := by
  by_cases h : 0 ≤ x
  · go_enter Try.func47, Try.ntmps47
    go_wp2
    go_ret
    exact ⟨rfl, rfl⟩
  · have ht : x.tmod 4294967296 = -(-x % 4294967296) := by
      rw [show x = -(-x) from by omega, Int.neg_tmod, Int.tmod_eq_emod_of_nonneg (by omega), Int.neg_neg]
    by_cases hz : -x % 4294967296 = 0
    · have h0 := Lib.hid (show Ar.md x = 0 by unfold Ar.md; omega)
      have h1 : ¬ x.tmod 4294967296 < 0 := by omega
      go_enter Try.func47, Try.ntmps47
      go_wp2
      go_ret
      exact ⟨ret_int h0.out.symm, rfl⟩
    · have h0 := Lib.hid (show Ar.md x = -(-x % 4294967296) + 4294967296 by unfold Ar.md; omega)
      have h1 : x.tmod 4294967296 < 0 := by omega
      go_enter Try.func47, Try.ntmps47
      go_wp2
      go_ret
      exact ⟨ret_int h0.out.symm, rfl⟩

theorem radd_any (a b : Int) (ha : Ar.Wd a) (hb : Ar.Wd b) (w : World) :
    Calls Try.prog 13 #[.int .u32 a, .int .u32 b] w fun e w' => e = .returned (.int .u32 (Ar.add a b)) ∧ w = w' := by
  unfold Ar.Wd at ha hb
  go_enter Try.func13, Try.ntmps13
  go_wp2_with fail
  refine (rword_any _ (by omega) _).mono ?_
  rintro e w' ⟨rfl, rfl⟩
  go_wp2
  go_ret
  exact ⟨rfl, rfl⟩
theorem rsub_any (a b : Int) (ha : Ar.Wd a) (hb : Ar.Wd b) (w : World) :
    Calls Try.prog 15 #[.int .u32 a, .int .u32 b] w fun e w' => e = .returned (.int .u32 (Ar.sub a b)) ∧ w = w' := by
  unfold Ar.Wd at ha hb
  go_enter Try.func15, Try.ntmps15
  go_wp2_with fail
  refine (rword_any _ (by omega) _).mono ?_
  rintro e w' ⟨rfl, rfl⟩
  go_wp2
  go_ret
  exact ⟨rfl, rfl⟩

theorem rmul_any (a b : Int) (ha : Ar.Wd a) (hb : Ar.Wd b) (w : World) :
    Calls Try.prog 17 #[.int .u32 a, .int .u32 b] w fun e w' => e = .returned (.int .u32 (Ar.mul a b)) ∧ w = w' := by
  unfold Ar.Wd at ha hb
  have h1 := Ar.prod_up (m := 4294967295) (k := 65535) ha (show 0 ≤ b % 65536 ∧ b % 65536 ≤ 65535 by omega)
  have h2 := Ar.prod_up (m := 4294967295) (k := 65535) ha (show 0 ≤ b / 65536 ∧ b / 65536 ≤ 65535 by omega)
  have hm := Ar.md_wd (a * (b / 65536)); unfold Ar.Wd at hm
  have he := Lib.hid (Ar.mul_parts a b)
  go_enter Try.func17, Try.ntmps17
  go_wp2_with fail
  refine (rword_any _ (by omega) _).mono ?_
  rintro e w' ⟨rfl, rfl⟩
  go_wp2_with fail
  refine (rword_any _ (by omega) _).mono ?_
  rintro e w' ⟨rfl, rfl⟩
  go_wp2
  go_ret
  exact ⟨ret_int he.out, rfl⟩

theorem rmulhu_any (a b : Int) (ha : Ar.Wd a) (hb : Ar.Wd b) (w : World) :
    Calls Try.prog 22 #[.int .u32 a, .int .u32 b] w fun e w' => e = .returned (.int .u32 (Ar.mulhu a b)) ∧ w = w' := by
  unfold Ar.Wd at ha hb
  have h1 := Ar.prod_up (m := 65535) (k := 65535) (show 0 ≤ a / 65536 ∧ a / 65536 ≤ 65535 by omega) (show 0 ≤ b % 65536 ∧ b % 65536 ≤ 65535 by omega)
  have h2 := Ar.prod_up (m := 65535) (k := 65535) (show 0 ≤ a % 65536 ∧ a % 65536 ≤ 65535 by omega) (show 0 ≤ b / 65536 ∧ b / 65536 ≤ 65535 by omega)
  have h3 := Ar.prod_up (m := 65535) (k := 65535) (show 0 ≤ a % 65536 ∧ a % 65536 ≤ 65535 by omega) (show 0 ≤ b % 65536 ∧ b % 65536 ≤ 65535 by omega)
  have h4 := Ar.prod_up (m := 65535) (k := 65535) (show 0 ≤ a / 65536 ∧ a / 65536 ≤ 65535 by omega) (show 0 ≤ b / 65536 ∧ b / 65536 ≤ 65535 by omega)
  have he := Lib.hid (Ar.mulhu_parts a b)
  go_enter Try.func22, Try.ntmps22
  go_wp2_with fail
  refine (rword_any _ (by omega) _).mono ?_
  rintro e w' ⟨rfl, rfl⟩
  go_wp2
  go_ret
  exact ⟨ret_int he.out, rfl⟩

theorem rdown_any (x : Int) (hx : -9223372036854775808 ≤ x ∧ x ≤ 9223372036854775807) (w : World) :
    Calls Try.prog 50 #[.int .i64 x] w fun e w' => e = .returned (.int .i64 (x / 4294967296)) ∧ w = w' := by
  by_cases h : 0 ≤ x
  · go_enter Try.func50, Try.ntmps50
    go_wp2
    go_ret
    exact ⟨rfl, rfl⟩
  · have ht : x.tdiv 4294967296 = -(-x / 4294967296) := Ar.tdiv_neg_of (by omega)
    by_cases hz : -x / 4294967296 * 4294967296 = -x
    · have h0 := Lib.hid (show x / 4294967296 = -(-x / 4294967296) by omega)
      go_enter Try.func50, Try.ntmps50
      go_wp2
      go_ret
      exact ⟨ret_int h0.out.symm, rfl⟩
    · have h0 := Lib.hid (show x / 4294967296 = -(-x / 4294967296) - 1 by omega)
      go_enter Try.func50, Try.ntmps50
      go_wp2
      go_ret
      exact ⟨ret_int h0.out.symm, rfl⟩

theorem rmulh_any (a b : Int) (ha : Ar.Wd a) (hb : Ar.Wd b) (w : World) :
    Calls Try.prog 20 #[.int .u32 a, .int .u32 b] w fun e w' => e = .returned (.int .u32 (Ar.mulh a b)) ∧ w = w' := by
  have hA := Lib.hid ha; have hB := Lib.hid hb; clear ha hb
  have h1 := Ar.prod_bd (m := 2147483648) (k := 2147483648) (x := Ar.sg a) (y := Ar.sg b) (by have := Ar.sg_bd hA.out; omega) (by have := Ar.sg_bd hB.out; omega)
  go_enter Try.func20, Try.ntmps20
  go_wp2_with fail
  refine (rsign_any a hA.out _).mono ?_
  rintro e w' ⟨rfl, rfl⟩
  go_wp2_with fail
  refine (rsign_any b hB.out _).mono ?_
  rintro e w' ⟨rfl, rfl⟩
  go_wp2_with fail
  refine (rdown_any _ (by omega) _).mono ?_
  rintro e w' ⟨rfl, rfl⟩
  go_wp2_with fail
  refine (rword_any _ (by omega) _).mono ?_
  rintro e w' ⟨rfl, rfl⟩
  go_wp2
  go_ret
  exact ⟨rfl, rfl⟩
theorem rmulhsu_any (a b : Int) (ha : Ar.Wd a) (hb : Ar.Wd b) (w : World) :
    Calls Try.prog 24 #[.int .u32 a, .int .u32 b] w fun e w' => e = .returned (.int .u32 (Ar.mulhsu a b)) ∧ w = w' := by
  have hA := Lib.hid ha; clear ha
  unfold Ar.Wd at hb
  have h1 := Ar.prod_bd (m := 2147483648) (k := 4294967295) (x := Ar.sg a) (y := b) (by have := Ar.sg_bd hA.out; omega) (by omega)
  go_enter Try.func24, Try.ntmps24
  go_wp2_with fail
  refine (rsign_any a hA.out _).mono ?_
  rintro e w' ⟨rfl, rfl⟩
  go_wp2_with fail
  refine (rdown_any _ (by omega) _).mono ?_
  rintro e w' ⟨rfl, rfl⟩
  go_wp2_with fail
  refine (rword_any _ (by omega) _).mono ?_
  rintro e w' ⟨rfl, rfl⟩
  go_wp2
  go_ret
  exact ⟨rfl, rfl⟩
end Go.Proofs.Ytdabchnfagkemaa
