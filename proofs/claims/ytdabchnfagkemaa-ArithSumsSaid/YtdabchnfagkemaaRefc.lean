/-
  The contracts of the document's own Sar and Extend: each tells what Math says.
-/
import Derived.Test.YtdabchnfagkemaaRefb
namespace Go.Proofs.Ytdabchnfagkemaa
open Go.RowKit

theorem rsar_any (a n : Int) (ha : Ar.Wd a) (hn : Ar.Wd n) (w : World) :
    Calls Try.prog 38 #[.int .u32 a, .int .u32 n] w fun e w' => e = .returned (.int .u32 (Ar.sar a n)) ∧ w = w' := by
  have hA := Lib.hid ha
  have hN := Lib.hid hn; clear hn
  have hs := Ar.sg_bd ha
  have hp := Ar.pw_pos n
  have hpu := Ar.pw_le n
  have hz : ¬ Ar.pw n = 0 := by omega
  clear ha
  by_cases h : 0 ≤ Ar.sg a
  · have hq := Ar.quo_bd h hs.2 hp
    go_enter Try.func38, Try.ntmps38
    go_wp2_with fail
    refine (rsign_any a hA.out _).mono ?_
    rintro e w' ⟨rfl, rfl⟩
    go_wp2_with fail
    refine (rpower_any n hN.out _).mono ?_
    rintro e w' ⟨rfl, rfl⟩
    go_wp2_with fail
    refine (rword_any _ (by omega) _).mono ?_
    rintro e w' ⟨rfl, rfl⟩
    go_wp2
    go_ret
    exact ⟨rfl, rfl⟩
  · have ht : (Ar.sg a).tdiv (Ar.pw n) = -(-Ar.sg a / Ar.pw n) := Ar.tdiv_neg_of (by omega)
    have hb := Ar.near_bd hp (show Ar.sg a < 0 by omega)
    have hw : wrap64 (-(-Ar.sg a / Ar.pw n) * Ar.pw n) = -(-Ar.sg a / Ar.pw n * Ar.pw n) := by
      rw [Int.neg_mul]; exact i64_of _ (by omega)
    by_cases hz2 : -Ar.sg a / Ar.pw n * Ar.pw n = -Ar.sg a
    · have h0 := Lib.hid (Ar.floor_even hp hz2)
      have ht2 : (wrap64 (-(-Ar.sg a / Ar.pw n) * Ar.pw n) != Ar.sg a) = false := by rw [hw, hz2]; simp
      clear hz2 hw
      go_enter Try.func38, Try.ntmps38
      go_wp2_with fail
      refine (rsign_any a hA.out _).mono ?_
      rintro e w' ⟨rfl, rfl⟩
      go_wp2_with fail
      refine (rpower_any n hN.out _).mono ?_
      rintro e w' ⟨rfl, rfl⟩
      go_wp2_with fail
      refine (rword_any _ (by omega) _).mono ?_
      rintro e w' ⟨rfl, rfl⟩
      go_wp2
      go_ret
      exact ⟨ret_int (by unfold Ar.sar; rw [h0.out]), rfl⟩
    · have h0 := Lib.hid (Ar.floor_odd hp hz2)
      have ht2 : (wrap64 (-(-Ar.sg a / Ar.pw n) * Ar.pw n) != Ar.sg a) = true := by
        rw [hw]
        have : ¬ -(-Ar.sg a / Ar.pw n * Ar.pw n) = Ar.sg a := by omega
        simp [this]
      clear hz2 hw
      go_enter Try.func38, Try.ntmps38
      go_wp2_with fail
      refine (rsign_any a hA.out _).mono ?_
      rintro e w' ⟨rfl, rfl⟩
      go_wp2_with fail
      refine (rpower_any n hN.out _).mono ?_
      rintro e w' ⟨rfl, rfl⟩
      go_wp2_with fail
      refine (rword_any _ (by omega) _).mono ?_
      rintro e w' ⟨rfl, rfl⟩
      go_wp2
      go_ret
      exact ⟨ret_int (by unfold Ar.sar; rw [h0.out]), rfl⟩

theorem rextend_any (n b : Int) (hn : Ar.Wd n) (_hb : -9223372036854775808 ≤ b ∧ b ≤ 9223372036854775807) (w : World) :
    Calls Try.prog 40 #[.int .u32 n, .int .i64 b] w fun e w' => e = .returned (.int .u32 (Ar.ext n b)) ∧ w = w' := by
  unfold Ar.Wd at hn
  by_cases h : 1 ≤ b ∧ b ≤ 31
  · have hp := Ar.pw_pos b
    have hpu := Ar.pw_le b
    have hz : ¬ Ar.pw b = 0 := by omega
    have hr := Ar.rem_bd (x := n) hp hpu
    have he : Ar.ext n b = if Ar.pw b / 2 ≤ n % Ar.pw b then Ar.md (n % Ar.pw b - Ar.pw b) else Ar.md (n % Ar.pw b) := by
      unfold Ar.ext
      rw [if_neg (by omega)]
      unfold Ar.pw
      rw [show b % 32 = b from by omega]
    by_cases hc : Ar.pw b / 2 ≤ n % Ar.pw b
    · rw [if_pos hc] at he
      have hE := Lib.hid he
      clear he
      go_enter Try.func40, Try.ntmps40
      go_wp2_with fail
      refine (rpower_any b (by unfold Ar.Wd; omega) _).mono ?_
      rintro e w' ⟨rfl, rfl⟩
      go_wp2_with fail
      refine (rword_any _ (by omega) _).mono ?_
      rintro e w' ⟨rfl, rfl⟩
      go_wp2
      go_ret
      exact ⟨ret_int hE.out.symm, rfl⟩
    · rw [if_neg hc] at he
      have hE := Lib.hid he
      clear he
      go_enter Try.func40, Try.ntmps40
      go_wp2_with fail
      refine (rpower_any b (by unfold Ar.Wd; omega) _).mono ?_
      rintro e w' ⟨rfl, rfl⟩
      go_wp2_with fail
      refine (rword_any _ (by omega) _).mono ?_
      rintro e w' ⟨rfl, rfl⟩
      go_wp2
      go_ret
      exact ⟨ret_int hE.out.symm, rfl⟩
  · have hE := Lib.hid (show Ar.ext n b = n by unfold Ar.ext; rw [if_pos (by omega)])
    have h1 : b < 1 ∨ 32 ≤ b := by omega
    clear h
    rcases h1 with h1 | h1
    all_goals
      go_enter Try.func40, Try.ntmps40
      go_wp2
      go_ret
      exact ⟨ret_int hE.out.symm, rfl⟩
end Go.Proofs.Ytdabchnfagkemaa
