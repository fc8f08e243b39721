/-
  The contracts of the document's own quotients, moves and comparisons for layer 1: each tells what Math says.
-/
import Derived.Test.YtdabchnfagkemaaRef
namespace Go.Proofs.Ytdabchnfagkemaa
open Go.RowKit

theorem rless_any (a b : Int) (ha : Ar.Wd a) (hb : Ar.Wd b) (w : World) :
    Calls Try.prog 42 #[.int .u32 a, .int .u32 b] w fun e w' => e = .returned (.bool (Ar.less a b)) ∧ w = w' := by
  have hA := Lib.hid ha; have hB := Lib.hid hb; clear ha hb
  go_enter Try.func42, Try.ntmps42
  go_wp2_with fail
  refine (rsign_any a hA.out _).mono ?_
  rintro e w' ⟨rfl, rfl⟩
  go_wp2_with fail
  refine (rsign_any b hB.out _).mono ?_
  rintro e w' ⟨rfl, rfl⟩
  go_wp2
  go_ret
  exact ⟨rfl, rfl⟩
theorem rlessu_any (a b : Int) (w : World) :
    Calls Try.prog 44 #[.int .u32 a, .int .u32 b] w fun e w' => e = .returned (.bool (Ar.lessu a b)) ∧ w = w' := by
  go_enter Try.func44, Try.ntmps44
  go_wp2
  go_ret
  exact ⟨rfl, rfl⟩

theorem rdivu_any (a b : Int) (ha : Ar.Wd a) (hb : Ar.Wd b) (w : World) :
    Calls Try.prog 28 #[.int .u32 a, .int .u32 b] w fun e w' => e = .returned (.int .u32 (Ar.divu a b)) ∧ w = w' := by
  unfold Ar.Wd at ha hb
  by_cases h : b = 0
  · subst h
    go_enter Try.func28, Try.ntmps28
    go_wp2
    go_ret
    exact ⟨rfl, rfl⟩
  · have he := Lib.hid (show Ar.divu a b = a / b by unfold Ar.divu; rw [if_neg h])
    have h1 : 1 ≤ b := by omega
    have hq := Ar.quo_bd ha.1 ha.2 h1
    have hb0 : (b == 0) = false := by simp [h]
    clear h
    go_enter Try.func28, Try.ntmps28
    go_wp2
    go_ret
    exact ⟨ret_int he.out.symm, rfl⟩
theorem rremu_any (a b : Int) (ha : Ar.Wd a) (hb : Ar.Wd b) (w : World) :
    Calls Try.prog 32 #[.int .u32 a, .int .u32 b] w fun e w' => e = .returned (.int .u32 (Ar.remu a b)) ∧ w = w' := by
  unfold Ar.Wd at ha hb
  by_cases h : b = 0
  · subst h
    go_enter Try.func32, Try.ntmps32
    go_wp2
    go_ret
    exact ⟨rfl, rfl⟩
  · have he := Lib.hid (show Ar.remu a b = a % b by unfold Ar.remu; rw [if_neg h])
    have h1 : 1 ≤ b := by omega
    have hq := Ar.rem_bd (x := a) h1 hb.2
    have hb0 : (b == 0) = false := by simp [h]
    clear h
    go_enter Try.func32, Try.ntmps32
    go_wp2
    go_ret
    exact ⟨ret_int he.out.symm, rfl⟩
theorem rdiv_any (a b : Int) (ha : Ar.Wd a) (hb : Ar.Wd b) (w : World) :
    Calls Try.prog 26 #[.int .u32 a, .int .u32 b] w fun e w' => e = .returned (.int .u32 (Ar.div a b)) ∧ w = w' := by
  by_cases h : b = 0
  · subst h
    go_enter Try.func26, Try.ntmps26
    go_wp2
    go_ret
    exact ⟨rfl, rfl⟩
  · have he := Lib.hid (show Ar.md ((Ar.sg a).tdiv (Ar.sg b)) = Ar.div a b by unfold Ar.div; rw [if_neg h])
    have hq := Ar.sdiv_bd ha hb h
    have hn : ¬ Ar.sg b = 0 := Ar.sg_nz hb h
    have hb0 : (b == 0) = false := by simp [h]
    have hA := Lib.hid ha; have hB := Lib.hid hb; clear ha hb h
    go_enter Try.func26, Try.ntmps26
    go_wp2_with fail
    refine (rsign_any a hA.out _).mono ?_
    rintro e w' ⟨rfl, rfl⟩
    go_wp2_with fail
    refine (rsign_any b hB.out _).mono ?_
    rintro e w' ⟨rfl, rfl⟩
    go_wp2_with fail
    refine (rword_any _ (by omega) _).mono ?_
    rintro e w' ⟨rfl, rfl⟩
    go_wp2
    go_ret
    exact ⟨ret_int he.out, rfl⟩
theorem rrem_any (a b : Int) (ha : Ar.Wd a) (hb : Ar.Wd b) (w : World) :
    Calls Try.prog 30 #[.int .u32 a, .int .u32 b] w fun e w' => e = .returned (.int .u32 (Ar.rem a b)) ∧ w = w' := by
  by_cases h : b = 0
  · subst h
    go_enter Try.func30, Try.ntmps30
    go_wp2
    go_ret
    exact ⟨rfl, rfl⟩
  · have he := Lib.hid (show Ar.md ((Ar.sg a).tmod (Ar.sg b)) = Ar.rem a b by unfold Ar.rem; rw [if_neg h])
    have hq := Ar.srem_bd (b := b) ha
    have hn : ¬ Ar.sg b = 0 := Ar.sg_nz hb h
    have hb0 : (b == 0) = false := by simp [h]
    have hA := Lib.hid ha; have hB := Lib.hid hb; clear ha hb h
    go_enter Try.func30, Try.ntmps30
    go_wp2_with fail
    refine (rsign_any a hA.out _).mono ?_
    rintro e w' ⟨rfl, rfl⟩
    go_wp2_with fail
    refine (rsign_any b hB.out _).mono ?_
    rintro e w' ⟨rfl, rfl⟩
    go_wp2_with fail
    refine (rword_any _ (by omega) _).mono ?_
    rintro e w' ⟨rfl, rfl⟩
    go_wp2
    go_ret
    exact ⟨ret_int he.out, rfl⟩

theorem rpower_any (n : Int) (hn : Ar.Wd n) (w : World) :
    Calls Try.prog 55 #[.int .u32 n] w fun e w' => e = .returned (.int .i64 (Ar.pw n)) ∧ w = w' := by
  unfold Ar.Wd at hn
  obtain ⟨m, hm⟩ : ∃ m : Nat, n % 32 = m := ⟨(n % 32).toNat, by omega⟩
  have hm1 : m ≤ 31 := by omega
  have he := Lib.hid (show Ar.pw n = Ar.p2 m by rw [Ar.pw_p2, hm]; rfl)
  go_enter Try.func55, Try.ntmps55
  go_wp2
  go_loop [3, 4] (fun p i => ∃ k : Nat, k ≤ m ∧ i = .int .u32 k ∧ p = .int .i64 (Ar.p2 k)) (fun _ i => m - (intOf i).toNat)
  case atStart => exact ⟨0, Nat.zero_le _, rfl, rfl⟩
  case round =>
    obtain ⟨k, hk, rfl, rfl⟩ := hrel
    have hp1 := Ar.p2_pos k
    have hp2 := Ar.p2_le (k := k) (by omega)
    have hs := Lib.hid (Ar.p2_succ k)
    by_cases hlt : k < m
    · go_wp2
      go_round
      case rel => exact ⟨k + 1, by omega, by go_num, by rw [hs.out]⟩
      case measure => simp [intOf]; omega
    · have hkm : k = m := by omega
      subst hkm
      go_wp2
      go_ret
      exact ⟨ret_int he.out.symm, rfl⟩

theorem rshl_any (a n : Int) (ha : Ar.Wd a) (hn : Ar.Wd n) (w : World) :
    Calls Try.prog 34 #[.int .u32 a, .int .u32 n] w fun e w' => e = .returned (.int .u32 (Ar.shl a n)) ∧ w = w' := by
  unfold Ar.Wd at hn
  have h0 := Lib.hid (show Ar.md (a * Ar.p2 0) = a by unfold Ar.Wd at ha; unfold Ar.p2 Ar.md; simp; omega)
  clear ha
  obtain ⟨m, hm⟩ : ∃ m : Nat, n % 32 = m := ⟨(n % 32).toNat, by omega⟩
  have hm1 : m ≤ 31 := by omega
  have he := Lib.hid (show Ar.shl a n = Ar.md (a * Ar.p2 m) by unfold Ar.shl; rw [Ar.pw_p2, hm]; rfl)
  go_enter Try.func34, Try.ntmps34
  go_wp2
  go_loop [0, 5] (fun p i => ∃ k : Nat, k ≤ m ∧ i = .int .u32 k ∧ p = .int .u32 (Ar.md (a * Ar.p2 k))) (fun _ i => m - (intOf i).toNat)
  case atStart => exact ⟨0, Nat.zero_le _, rfl, by rw [h0.out]⟩
  case round =>
    obtain ⟨k, hk, rfl, rfl⟩ := hrel
    have hw := Ar.md_wd (a * Ar.p2 k)
    unfold Ar.Wd at hw
    have hs := Lib.hid (Ar.md_step a k)
    by_cases hlt : k < m
    · go_wp2_with fail
      refine (rword_any _ (by omega) _).mono ?_
      rintro e w' ⟨rfl, rfl⟩
      go_wp2
      go_round
      case rel => exact ⟨k + 1, by omega, by go_num, by rw [hs.out]⟩
      case measure => simp [intOf]; omega
    · have hkm : k = m := by omega
      subst hkm
      go_wp2
      go_ret
      exact ⟨ret_int he.out.symm, rfl⟩

theorem rshr_any (a n : Int) (ha : Ar.Wd a) (hn : Ar.Wd n) (w : World) :
    Calls Try.prog 36 #[.int .u32 a, .int .u32 n] w fun e w' => e = .returned (.int .u32 (Ar.shr a n)) ∧ w = w' := by
  have hp := Ar.pw_pos n
  have hN := Lib.hid hn; clear hn
  have hq := Ar.quo_bd ha.1 ha.2 hp
  have he := Lib.hid (Ar.md_in hq)
  unfold Ar.Wd at ha
  go_enter Try.func36, Try.ntmps36
  go_wp2_with fail
  refine (rpower_any n hN.out _).mono ?_
  rintro e w' ⟨rfl, rfl⟩
  go_wp2_with fail
  refine (rword_any _ (by omega) _).mono ?_
  rintro e w' ⟨rfl, rfl⟩
  go_wp2
  go_ret
  exact ⟨ret_int he.out, rfl⟩

end Go.Proofs.Ytdabchnfagkemaa
