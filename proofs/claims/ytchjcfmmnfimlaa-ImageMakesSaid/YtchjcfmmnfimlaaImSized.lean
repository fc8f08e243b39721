/-
  The contracts of the statements' own 'sized' (bytes of an image) and 'works' (a known value, read in parts).
-/
import Derived.Test.YtchjcfmmnfimlaaImRefb
namespace Go.Proofs.Ytchjcfmmnfimlaa
open Go.RowKit Go.Maps
set_option linter.unusedVariables false

theorem ok_double {k : Nat} (h : Im.okB k = true) (hk : k < 4096) : Im.okB ((k * 2 : Nat) : Int) = true := by
  rw [Im.okB_iff] at h ⊢; omega

set_option maxHeartbeats 1000000 in
theorem sized_some (b o m c : Nat) (xs : List Int) (wide : Int) (w : World) (hc : ∀ j, j < m → w.cell? ⟨b, o + j, none⟩ = some (.int .u8 (xs.getD j 0))) (hx : Im.Byt xs) (hm : m ≤ 10000) (hm0 : 0 < m) (hw : -9223372036854775808 ≤ wide ∧ wide ≤ 9223372036854775807) :
    Calls Try.prog 18 #[.slice (some ⟨b, o, none⟩) m c, .int .i64 wide] w fun e w' => ∃ g ys, e = .returned (.slice (some ⟨g, 0, none⟩) ys.length ys.length) ∧ Row w' g ys ∧ Im.okB ys.length = true ∧ Im.Byt ys ∧ w.heap.size ≤ g ∧ Below w.heap.size w w' := by
  obtain ⟨i0, hi, hz0, hz1, hz2⟩ := info_parts info5
  have HI := Lib.hid hi; have HZ0 := Lib.hid hz0; have HZ1 := Lib.hid hz1; have HZ2 := Lib.hid hz2; clear hi hz0 hz1 hz2
  have HX := Lib.hid hx; have HC := Lib.hid hc; clear hx hc
  have hm1 : 1 ≤ (m : Int) := by omega
  go_enter Try.func18, Try.ntmps18
  go_wp2
  go_loop [5] (fun n => ∃ k : Nat, n = .int .i64 k ∧ Im.okB k = true) (fun n => 4096 - (intOf n).toNat)
  case atStart => exact ⟨16, rfl, by decide⟩
  case round =>
    obtain ⟨k, rfl, hok⟩ := hrel
    have hbd := Im.okB_bd hok
    have HOK := Lib.hid hok; clear hok
    by_cases hgo : (k : Int) < 4096 ∧ (k : Int) < wide
    · obtain ⟨h1, h2⟩ := hgo
      go_wp2
      go_round
      case rel => exact ⟨k * 2, by go_num, ok_double HOK.out (by omega)⟩
      case measure => simp [intOf]; omega
    · have hcase : ¬ (k : Int) < 4096 ∨ ((k : Int) < 4096 ∧ ¬ (k : Int) < wide) := by omega
      clear hgo
      rcases hcase with h1 | ⟨h1, h2⟩
      all_goals
        go_wp2_with (at_make; refine wpList_make_full _ rfl _ _ 22 rfl w.heap.size 5 i0 (.int .u8 0) 1 Try.underlying22 HI.out HZ0.out HZ1.out .i64 .i64 _ _ k rfl rfl rfl rfl (by rw [HZ2.out]; omega) (by unfold maxLen; omega) (Nat.le_refl _) ?_; intro w1 hown hg1; have hrow := (row_of_own (by rw [← made_zeros]; exact hown)).1; have HR := Lib.hid hrow; have HB := Lib.hid (grown_below hg1); clear hown hg1 hrow)
        go_loopw [7] (fun i wr => ∃ (j : Nat) (ys : List Int), i = .int .i64 j ∧ j ≤ k ∧ Row wr w.heap.size ys ∧ ys.length = k ∧ Im.Byt ys ∧ Below w.heap.size w wr) (fun i wr => k - (intOf i).toNat)
        case atStart => exact ⟨0, _, rfl, Nat.zero_le _, HR.out, by simp, byt_zeros k, HB.out⟩
        case round =>
          obtain ⟨j, ys, rfl, hj, hrow, hyl, hyb, hbel⟩ := hrel
          have HROW := Lib.hid hrow; have HYL := Lib.hid hyl; have HYB := Lib.hid hyb; have HBEL := Lib.hid hbel; clear hrow hyl hyb hbel
          by_cases hgo : j < k
          · have cq := (HBEL.out.cell (p := ⟨b, o + j % m, none⟩) (World.block_lt_of_cell? w ⟨b, o + j % m, none⟩ (HC.out (j % m) (Nat.mod_lt _ hm0)))).trans (HC.out (j % m) (Nat.mod_lt _ hm0))
            have bx := Im.getD_byt HX.out (j % m)
            obtain ⟨x, ex⟩ : ∃ x, x = xs.getD (j % m) 0 := ⟨_, rfl⟩
            rw [← ex] at cq bx
            clear ex
            have cr := HROW.out.cell (j := j) (by rw [HYL.out]; exact hgo)
            have fr := HROW.out.free j
            obtain ⟨y, ey⟩ : ∃ y, y = ys.getD j 0 := ⟨_, rfl⟩
            rw [← ey] at cr
            clear ey
            have hlt := Nat.mod_lt j hm0
            go_wp2
            go_roundw
            case rel => exact ⟨j + 1, ys.set j x, by go_num, by omega, HROW.out.set j x, by rw [List.length_set]; exact HYL.out, Im.byt_set HYB.out j bx, HBEL.out.setCell (Nat.le_refl _) _⟩
            case measure => simp [intOf]; omega
          · go_wp2
            go_ret
            exact ⟨w.heap.size, ys, by rw [HYL.out]; rfl, HROW.out, by rw [HYL.out]; exact HOK.out, HYB.out, Nat.le_refl _, HBEL.out⟩

set_option maxHeartbeats 1000000 in
theorem sized_none (a : Option Addr) (c : Nat) (wide : Int) (w : World) (hw : -9223372036854775808 ≤ wide ∧ wide ≤ 9223372036854775807) :
    Calls Try.prog 18 #[.slice a 0 c, .int .i64 wide] w fun e w' => ∃ g ys, e = .returned (.slice (some ⟨g, 0, none⟩) ys.length ys.length) ∧ Row w' g ys ∧ Im.okB ys.length = true ∧ Im.Byt ys ∧ w.heap.size ≤ g ∧ Below w.heap.size w w' := by
  obtain ⟨i0, hi, hz0, hz1, hz2⟩ := info_parts info5
  have HI := Lib.hid hi; have HZ0 := Lib.hid hz0; have HZ1 := Lib.hid hz1; have HZ2 := Lib.hid hz2; clear hi hz0 hz1 hz2
  go_enter Try.func18, Try.ntmps18
  go_wp2
  go_loop [5] (fun n => ∃ k : Nat, n = .int .i64 k ∧ Im.okB k = true) (fun n => 4096 - (intOf n).toNat)
  case atStart => exact ⟨16, rfl, by decide⟩
  case round =>
    obtain ⟨k, rfl, hok⟩ := hrel
    have hbd := Im.okB_bd hok
    have HOK := Lib.hid hok; clear hok
    by_cases hgo : (k : Int) < 4096 ∧ (k : Int) < wide
    · obtain ⟨h1, h2⟩ := hgo
      go_wp2
      go_round
      case rel => exact ⟨k * 2, by go_num, ok_double HOK.out (by omega)⟩
      case measure => simp [intOf]; omega
    · have hcase : ¬ (k : Int) < 4096 ∨ ((k : Int) < 4096 ∧ ¬ (k : Int) < wide) := by omega
      clear hgo
      rcases hcase with h1 | ⟨h1, h2⟩
      all_goals
        go_wp2_with (at_make; refine wpList_make_full _ rfl _ _ 22 rfl w.heap.size 5 i0 (.int .u8 0) 1 Try.underlying22 HI.out HZ0.out HZ1.out .i64 .i64 _ _ k rfl rfl rfl rfl (by rw [HZ2.out]; omega) (by unfold maxLen; omega) (Nat.le_refl _) ?_; intro w1 hown hg1; have hrow := (row_of_own (by rw [← made_zeros]; exact hown)).1; have HR := Lib.hid hrow; have HB := Lib.hid (grown_below hg1); clear hown hg1 hrow)
        go_loopw [7] (fun i wr => ∃ (j : Nat) (ys : List Int), i = .int .i64 j ∧ j ≤ k ∧ Row wr w.heap.size ys ∧ ys.length = k ∧ Im.Byt ys ∧ Below w.heap.size w wr) (fun i wr => k - (intOf i).toNat)
        case atStart => exact ⟨0, _, rfl, Nat.zero_le _, HR.out, by simp, byt_zeros k, HB.out⟩
        case round =>
          obtain ⟨j, ys, rfl, hj, hrow, hyl, hyb, hbel⟩ := hrel
          have HROW := Lib.hid hrow; have HYL := Lib.hid hyl; have HYB := Lib.hid hyb; have HBEL := Lib.hid hbel; clear hrow hyl hyb hbel
          by_cases hgo : j < k
          all_goals
            go_wp2
            go_ret
            exact ⟨w.heap.size, ys, by rw [HYL.out]; rfl, HROW.out, by rw [HYL.out]; exact HOK.out, HYB.out, Nat.le_refl _, HBEL.out⟩

/-- a slice that came in: its bytes, if there are any, lie at a plain address; each is a byte -/
def BIn (w : World) (a : Option Addr) (xs : List Int) : Prop := Sl w a xs ∧ Im.Byt xs
theorem BIn.old {w w' : World} {a : Option Addr} {xs : List Int} (h : BIn w a xs) (hb : Below w.heap.size w w') : BIn w' a xs := ⟨h.1.old hb, h.2⟩
theorem sized_any (a : Option Addr) (m c : Nat) (xs : List Int) (wide : Int) (w : World) (hx : BIn w a xs) (hl : xs.length = m) (hm : m ≤ 10000) (hw : -9223372036854775808 ≤ wide ∧ wide ≤ 9223372036854775807) :
    Calls Try.prog 18 #[.slice a m c, .int .i64 wide] w fun e w' => ∃ g ys, e = .returned (.slice (some ⟨g, 0, none⟩) ys.length ys.length) ∧ Row w' g ys ∧ Im.okB ys.length = true ∧ Im.Byt ys ∧ w.heap.size ≤ g ∧ Below w.heap.size w w' := by
  by_cases h0 : 0 < m
  · obtain ⟨b, o, rfl, hc⟩ := hx.1 (by omega)
    exact sized_some b o m c xs wide w (fun j hj => hc j (by omega)) hx.2 hm h0 hw
  · obtain rfl : m = 0 := by omega
    exact sized_none a c wide w hw

theorem works_any (w : World) :
    Calls Try.prog 11 #[] w fun e w' => e = .returned (.bool true) ∧ Below w.heap.size w w' := by
  go_enter Try.func11, Try.ntmps11
  go_wp2_with fail
  refine (new_yes 16 (by decide) _).mono ?_
  rintro e w1 ⟨p, g, rfl, hi, hp, hg, hb⟩
  have HI := Lib.hid (show Img w1 p g zs16 from hi); have HB := Lib.hid hb; have HP := Lib.hid hp; have HG := Lib.hid hg; clear hi hb hp hg
  go_wp2_with fail
  refine (write_goes p g zs16 4 4 305419896 _ (by omega) (by omega) HI.out (by omega) (by omega) (by decide)).mono ?_
  rintro e w2 ⟨rfl, hi2, hg2⟩
  have HI2 := Lib.hid hi2; have HG2 := Lib.hid hg2; clear hi2 hg2
  go_wp2_with fail
  have v1 : Im.val (Im.win (Im.sets zs16 4 (Im.byt 305419896) 4) 4 1) = 120 := by decide
  refine (read_goes p g (Im.sets zs16 4 (Im.byt 305419896) 4) 4 1 _ (by omega) HI2.out (by omega) (by omega) (by rw [Im.length_sets]; decide)).mono ?_
  rw [v1]
  clear v1
  rintro e w3 ⟨rfl, hb3⟩
  have HB3 := Lib.hid hb3; clear hb3
  have HI3 := Lib.hid (HI2.out.old HB3.out)
  go_wp2_with fail
  have v2 : Im.val (Im.win (Im.sets zs16 4 (Im.byt 305419896) 4) 6 2) = 4660 := by decide
  refine (read_goes p g (Im.sets zs16 4 (Im.byt 305419896) 4) 6 2 _ (by omega) HI3.out (by omega) (by omega) (by rw [Im.length_sets]; decide)).mono ?_
  rw [v2]
  clear v2
  rintro e w4 ⟨rfl, hb4⟩
  have HB4 := Lib.hid hb4; clear hb4
  have HI4 := Lib.hid (HI3.out.old HB4.out)
  go_wp2_with fail
  refine (read_no p g _ 2 4 120 _ HI4.out (by omega) (by decide) (.inr ⟨4, rfl, by omega, .inl ⟨rfl, by omega⟩⟩)).mono ?_
  rintro e w5 ⟨rfl, hb5⟩
  have HB5 := Lib.hid hb5; clear hb5
  have HI5 := Lib.hid (HI4.out.old HB5.out)
  go_wp2_with (first
    | (go_at_call 14; refine (num_any _ _).mono ?_; rintro e w' ⟨rfl, rfl⟩)
    | (go_at_call 17; refine (size_any p g 16 _ (by omega) HI5.out.cell).mono ?_; rintro e w' ⟨rfl, rfl⟩))
  go_ret
  exact ⟨rfl, below_tr (below_tr (below_tr (HB.out.grown HG2.out HB.out.size (fun k hk => by cases hk; exact HG.out)) HB3.out) HB4.out) HB5.out⟩
end Go.Proofs.Ytchjcfmmnfimlaa
