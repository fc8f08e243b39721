/-
  LinesTells: for every input the statement's function returns true, with no condition; each argument reads behind the call as before. By contracts of the program's and the document's functions.
-/
import Derived.Test.YtifniogldinbdaaLnTl
namespace Go.Proofs.Ytifniogldinbdaa.linesTells
open Go.ChangeShapes Go.WideShapes Go.ChangeAt Go.RowKit
set_option linter.unusedVariables false
set_option linter.unusedSimpArgs false

set_option maxRecDepth 100000 in
set_option maxHeartbeats 4000000 in
theorem walk_bad (w : World) (a0 a1 : Int) (hs : Ev.i64B a0) (hw : Ev.i64B a1) (hm : Ln.mayB a0 a1 = false) (a2 : Option Addr) (n2 c2 : Nat) (n pick : Int) :
    Calls Try.prog 5 #[.int .i64 a0, .int .i64 a1, .slice a2 n2 c2, .agg #[.int .u32 n, .int .i64 pick]] w fun e w' => e = .returned (.bool true) ∧ Below w.heap.size w w' := by
  have RG := Lib.hid (fun W => hm ▸ right_any a0 a1 hs hw W)
  clear hs hw
  go_enter Try.func5, Try.ntmps5
  go_wp2_with (first
    | (go_at_call 20; (with_reducible refine (RG.out _).mono ?_); rintro e W1 ⟨rfl, hw⟩; subst hw)
    | (go_at_call 21; (with_reducible refine (works_any _).mono ?_); rintro e W2 ⟨rfl, hb⟩; have B2 := Lib.hid (Ln.bel_next (Below.refl _ _) hb); clear hb))
  go_ret
  exact ⟨rfl, B2.out⟩
set_option maxRecDepth 100000 in
set_option maxHeartbeats 4000000 in
theorem walk_long (w : World) (a0 a1 : Int) (hs : Ev.i64B a0) (hw : Ev.i64B a1) (hm : Ln.mayB a0 a1 = true) (a2 : Option Addr) (n2 c2 : Nat) (n pick : Int) (hn : (100 : Int) < (n2 : Int)) :
    Calls Try.prog 5 #[.int .i64 a0, .int .i64 a1, .slice a2 n2 c2, .agg #[.int .u32 n, .int .i64 pick]] w fun e w' => e = .returned (.bool true) ∧ Below w.heap.size w w' := by
  have RG := Lib.hid (fun W => hm ▸ right_any a0 a1 hs hw W)
  clear hs hw
  go_enter Try.func5, Try.ntmps5
  go_wp2_with (first
    | (go_at_call 20; (with_reducible refine (RG.out _).mono ?_); rintro e W1 ⟨rfl, hw⟩; subst hw)
    | (go_at_call 21; (with_reducible refine (works_any _).mono ?_); rintro e W2 ⟨rfl, hb⟩; have B2 := Lib.hid (Ln.bel_next (Below.refl _ _) hb); clear hb))
  go_ret
  exact ⟨rfl, B2.out⟩
set_option maxRecDepth 100000 in
set_option maxHeartbeats 8000000 in
theorem walk_good (w : World) (s ways : Nat) (hm : Ln.mayB s ways = true) (h0 : 0 < s) (h1 : s ≤ 64) (h2 : 0 < ways) (h3 : ways ≤ 8) (a2 : Option Addr) (c2 : Nat) (x2 : List Ln.Act) (b2 : Ln.AsIn w a2 c2 x2) (hx : x2.length ≤ 100) (n pick : Int) (hn : Ev.u32B n) (hp : Ev.i64B pick) :
    Calls Try.prog 5 #[.int .i64 (s : Int), .int .i64 (ways : Int), .slice a2 x2.length c2, .agg #[.int .u32 n, .int .i64 pick]] w fun e w' => e = .returned (.bool true) ∧ Below w.heap.size w w' := by
  obtain ⟨xb, hxb⟩ : ∃ xb, xb = w.heap.size := ⟨_, rfl⟩
  obtain ⟨W0, hW0⟩ : ∃ W0, W0 = w.alloc (.cells #[.int .u32 n, .int .i64 pick] 52) := ⟨_, rfl⟩
  have HXB := Lib.hid hxb; have HW0 := Lib.hid hW0
  have B0 := Lib.hid (show Below w.heap.size w W0 by rw [hW0]; exact (Below.refl w.heap.size w).alloc (Nat.le_refl _) _)
  have X0 := Lib.hid (show W0.heap[xb]? = some (.cells #[.int .u32 n, .int .i64 pick] 52 (0, 0)) by rw [hW0, hxb]; exact heap_alloc_new _ _)
  have RG := Lib.hid (fun W => hm ▸ right_any s ways (by unfold Ev.i64B; omega) (by unfold Ev.i64B; omega) W)
  have PL := Lib.hid (played_any s ways hm a2 c2 x2 hx W0 ⟨b2.rows.kp (Ev.kp_below B0.out), b2.ok, b2.le, b2.max⟩)
  obtain ⟨hrl, hll⟩ := Ln.playL_rl (s := s) (ways := ways) h0 h1 h2 h3 b2.ok x2.length (Nat.le_refl _)
  rw [List.take_length] at hrl hll
  unfold Ln.Played at PL
  obtain ⟨l, hl⟩ : ∃ l, Ln.playL s ways x2 = l := ⟨_, rfl⟩
  rw [hl] at PL hrl hll
  have hng : ¬ (100 : Int) < (x2.length : Int) := by omega
  have hl5 : l.length ≤ 500 := by omega
  have RL := Lib.hid hrl
  obtain ⟨m1, z1, t, f1, f2, f3, f4, f5⟩ := Ln.fd_cases hrl.ok n
  obtain ⟨m2, z2, v1, v2, v3⟩ := Ln.vic_cases hrl n pick
  have F1 := Lib.hid f1; have F2 := Lib.hid f2; have F3 := Lib.hid f3; have O1 := Lib.hid f4; have F5 := Lib.hid f5
  have V1 := Lib.hid v1; have V2 := Lib.hid v2; have O2 := Lib.hid v3
  have HN := Lib.hid hn; have HP := Lib.hid hp
  clear hl hrl b2 hm hW0 hxb f1 f2 f3 f4 f5 v1 v2 v3 hn hp
  go_enter Try.func5, Try.ntmps5
  go_wp2_with (first
    | (go_at_call 20; (with_reducible refine (RG.out _).mono ?_); rintro e W1 ⟨rfl, hw⟩; subst hw)
    | (go_at_call 22; rw [← HW0.out, ← HXB.out]; (with_reducible refine PL.out.mono ?_); rintro e W1 ⟨p, F, a, c, rfl, hca, hb, hf, ho, hnf⟩
       have CA := Lib.hid hca; have HB := Lib.hid hb; have HF := Lib.hid hf; have HO := Lib.hid ho; have HNF := Lib.hid hnf
       clear hca hb hf ho hnf)
    | ((with_reducible show wpList _ _ _ (Oper.mk none (Op.store 46 _ _) _ _ _ _ :: _) _ _); refine wpList_store_own rfl 46 (.tmp 10) (.tmp 35) rfl W1.heap.size #[.int .i64 (s : Int), .int .i64 (ways : Int), .slice a l.length c] rfl rfl 46 _ (heap_alloc_new W1 _) (by kernel_rfl) rfl (by kernel_rfl) ?_
       intro W2 HW2
       have P2 := Lib.hid (Ln.Pl.of_played CA.out HB.out HF.out HO.out HNF.out HW2)
       clear HW2
       refine Ln.Stop.out ?_))
  refine ⟨?_⟩
  obtain ⟨lb, hlb⟩ : ∃ lb, lb = W1.heap.size := ⟨_, rfl⟩
  rw [← hlb] at P2 ⊢
  clear hlb CA HB HF HO HNF PL
  have X2 := Lib.hid ((P2.out.bel.block xb (Array.getElem?_eq_some_iff.1 X0.out).1).trans X0.out)
  have xn : W2.cell? ⟨xb, 0, none⟩ = some (.int .u32 n) := by rw [cell_of_row _ _ _ _ _ _ X2.out]; rfl
  have KF := Lib.hid (Ln.find_rows HN.out P2.out.cache RL.out)
  rw [F1.out, F2.out] at KF
  go_wp2_with (first
    | (go_at_call 11; (with_reducible refine KF.out.mono ?_); rintro e W3 ⟨rfl, hb3⟩; have B3 := Lib.hid hb3; clear hb3)
    | ((with_reducible show wpList _ _ _ (Oper.mk none (Op.store 30 _ _) _ _ _ _ :: _) _ _); refine wpList_store_own rfl 30 (.tmp 12) (.tmp 42) rfl W3.heap.size (Ln.cells m1).toArray rfl rfl 30 #[.int .u32 0, .int .i64 0, .int .u8 0, .int .u8 0, .int .u8 0, .int .u8 0, .int .u8 0, .int .u8 0, .int .u8 0, .int .u8 0, .int .u8 0, .int .u8 0, .int .u8 0, .int .u8 0, .int .u8 0, .int .u8 0, .int .u8 0, .int .u8 0] (heap_alloc_new W3 _) (by rw [O1.out.size]; exact Ln.size_line) (by rw [O1.out.size]; rfl) (Ln.cells_all m1) ?_
       intro W4 HW
       have B4 := Lib.hid (show Below W2.heap.size W2 W4 from B3.out.trans ((((Below.refl W3.heap.size W3).alloc (Nat.le_refl _) _).trans HW.below).mono B3.out.size))
       have R4 := Lib.hid HW.row
       clear HW
       refine Ln.Stop.out ?_))
  refine ⟨?_⟩
  obtain ⟨fb, hfb⟩ : ∃ fb, fb = W3.heap.size := ⟨_, rfl⟩
  rw [← hfb] at R4 ⊢
  clear hfb
  have P4 := Lib.hid (P2.out.kp B4.out)
  have X4 := Lib.hid ((B4.out.block xb (Array.getElem?_eq_some_iff.1 X2.out).1).trans X2.out)
  clear xn
  have xn : W4.cell? ⟨xb, 0, none⟩ = some (.int .u32 n) := by rw [cell_of_row _ _ _ _ _ _ X4.out]; rfl
  have xp : W4.cell? ⟨xb, 1, none⟩ = some (.int .i64 pick) := by rw [cell_of_row _ _ _ _ _ _ X4.out]; rfl
  have KV := Lib.hid (show Calls Try.prog 12 #[.pointer (some ⟨p, 0, none⟩), .int .u32 n, .int .i64 pick] W4 fun e w' => e = .returned (.tuple #[.agg (Ln.cells m2).toArray, .bool z2]) ∧ Below W4.heap.size W4 w' from by
    have h1 := victim_any n pick HN.out HP.out W4 P4.out.cache
    unfold Ln.optV at h1
    rw [V1.out, V2.out] at h1
    exact h1)
  go_wp2_with (first
    | (go_at_call 12; (with_reducible refine KV.out.mono ?_); rintro e W5 ⟨rfl, hb5⟩; have B5 := Lib.hid hb5; clear hb5)
    | ((with_reducible show wpList _ _ _ (Oper.mk none (Op.store 30 _ _) _ _ _ _ :: _) _ _); refine wpList_store_own rfl 30 (.tmp 14) (.tmp 51) rfl W5.heap.size (Ln.cells m2).toArray rfl rfl 30 #[.int .u32 0, .int .i64 0, .int .u8 0, .int .u8 0, .int .u8 0, .int .u8 0, .int .u8 0, .int .u8 0, .int .u8 0, .int .u8 0, .int .u8 0, .int .u8 0, .int .u8 0, .int .u8 0, .int .u8 0, .int .u8 0, .int .u8 0, .int .u8 0] (heap_alloc_new W5 _) (by rw [O2.out.size]; exact Ln.size_line) (by rw [O2.out.size]; rfl) (Ln.cells_all m2) ?_
       intro W6 HW
       have B6 := Lib.hid (show Below W4.heap.size W4 W6 from B5.out.trans ((((Below.refl W5.heap.size W5).alloc (Nat.le_refl _) _).trans HW.below).mono B5.out.size))
       have R6 := Lib.hid HW.row
       clear HW
       refine Ln.Stop.out ?_))
  refine ⟨?_⟩
  obtain ⟨vb, hvb⟩ : ∃ vb, vb = W5.heap.size := ⟨_, rfl⟩
  rw [← hvb] at R6 ⊢
  clear hvb
  have P6 := Lib.hid (P4.out.kp B6.out)
  have X6 := Lib.hid ((B6.out.block xb (Array.getElem?_eq_some_iff.1 X4.out).1).trans X4.out)
  have FB6 := Lib.hid ((B6.out.block fb (Array.getElem?_eq_some_iff.1 R4.out).1).trans R4.out)
  clear xn xp
  have xn : W6.cell? ⟨xb, 0, none⟩ = some (.int .u32 n) := by rw [cell_of_row _ _ _ _ _ _ X6.out]; rfl
  have xp : W6.cell? ⟨xb, 1, none⟩ = some (.int .i64 pick) := by rw [cell_of_row _ _ _ _ _ _ X6.out]; rfl
  have KW := Lib.hid (show Calls Try.prog 24 #[.agg #[.int .i64 (s : Int), .int .i64 (ways : Int), .slice a l.length c], .int .u32 n, .int .i64 pick] W6 fun e w' => e = .returned (.tuple #[.agg (Ln.cells m2).toArray, .bool z2]) ∧ Below W6.heap.size W6 w' from by
    have h1 := rvictim_any s ways a c l n pick HN.out HP.out W6 (P6.out.rin RL.out hl5) RL.out
    unfold Ln.optV at h1
    rw [V1.out, V2.out] at h1
    exact h1)
  go_wp2_with (first
    | ((with_reducible show wpList _ _ _ (Oper.mk (some 54) _ _ _ _ _ :: _) _ _); refine wpList_load_row rfl 46 (.tmp 10) rfl lb rfl 46 _ (0, 0) _ P6.out.want Try.underlying46 rfl (by kernel_rfl) ?_)
    | (go_at_call 24; (with_reducible refine KW.out.mono ?_); rintro e W7 ⟨rfl, hb7⟩; have B7 := Lib.hid hb7; clear hb7)
    | ((with_reducible show wpList _ _ _ (Oper.mk none (Op.store 30 _ _) _ _ _ _ :: _) _ _); refine wpList_store_own rfl 30 (.tmp 16) (.tmp 60) rfl W7.heap.size (Ln.cells m2).toArray rfl rfl 30 #[.int .u32 0, .int .i64 0, .int .u8 0, .int .u8 0, .int .u8 0, .int .u8 0, .int .u8 0, .int .u8 0, .int .u8 0, .int .u8 0, .int .u8 0, .int .u8 0, .int .u8 0, .int .u8 0, .int .u8 0, .int .u8 0, .int .u8 0, .int .u8 0] (heap_alloc_new W7 _) (by rw [O2.out.size]; exact Ln.size_line) (by rw [O2.out.size]; rfl) (Ln.cells_all m2) ?_
       intro W8 HW
       have B8 := Lib.hid (show Below W6.heap.size W6 W8 from B7.out.trans ((((Below.refl W7.heap.size W7).alloc (Nat.le_refl _) _).trans HW.below).mono B7.out.size))
       have R8 := Lib.hid HW.row
       clear HW
       refine Ln.Stop.out ?_))
  refine ⟨?_⟩
  obtain ⟨ub, hub⟩ : ∃ ub, ub = W7.heap.size := ⟨_, rfl⟩
  rw [← hub] at R8 ⊢
  clear hub
  have P8 := Lib.hid (P6.out.kp B8.out)
  have X8 := Lib.hid ((B8.out.block xb (Array.getElem?_eq_some_iff.1 X6.out).1).trans X6.out)
  have FB8 := Lib.hid ((B8.out.block fb (Array.getElem?_eq_some_iff.1 FB6.out).1).trans FB6.out)
  have VB8 := Lib.hid ((B8.out.block vb (Array.getElem?_eq_some_iff.1 R6.out).1).trans R6.out)
  clear xn xp
  have xn : W8.cell? ⟨xb, 0, none⟩ = some (.int .u32 n) := by rw [cell_of_row _ _ _ _ _ _ X8.out]; rfl
  have KG := Lib.hid (F3.out ▸ rfind_any s ways a c l n HN.out W8 (P8.out.rin RL.out hl5))
  go_wp2_with (first
    | ((with_reducible show wpList _ _ _ (Oper.mk (some 62) _ _ _ _ _ :: _) _ _); refine wpList_load_row rfl 46 (.tmp 10) rfl lb rfl 46 _ (0, 0) _ P8.out.want Try.underlying46 rfl (by kernel_rfl) ?_)
    | (go_at_call 25; (with_reducible refine KG.out.mono ?_); rintro e W9 ⟨rfl, hb9⟩; have B9 := Lib.hid hb9; clear hb9))
  have P9 := Lib.hid (P8.out.kp B9.out)
  have FB9 := Lib.hid ((B9.out.block fb (Array.getElem?_eq_some_iff.1 FB8.out).1).trans FB8.out)
  have VB9 := Lib.hid ((B9.out.block vb (Array.getElem?_eq_some_iff.1 VB8.out).1).trans VB8.out)
  have UB9 := Lib.hid ((B9.out.block ub (Array.getElem?_eq_some_iff.1 R8.out).1).trans R8.out)
  have hzz : (z2 == z2) = true := by simp
  clear xn P8 P6 P4 P2 KG KW KV KF
  have f5 := F5.out
  clear F5 F1 F2 F3
  rcases f5 with ⟨rfl, k, rfl, hlk⟩ | ⟨rfl, rfl, rfl⟩
  · have c2 : W9.cell? ⟨lb, 2, none⟩ = some (.slice a l.length c) := by rw [cell_of_row _ _ _ _ _ _ P9.out.want]; rfl
    obtain ⟨ga, o, ea, hc⟩ := (P9.out.rin RL.out hl5).ls.at_ hlk
    have HC := Lib.hid hc
    have hki : (k : Int) < (l.length : Int) := by have := (List.getElem?_eq_some_iff.1 hlk).1; omega
    clear hc hlk
    subst ea
    refine Og.region3 (by kernel_rfl) (fun t => ([(66, 0), (67, 1), (68, 2), (69, 3), (70, 4), (71, 5), (72, 6), (73, 7), (74, 8), (75, 9), (76, 10), (77, 11), (78, 12), (79, 13), (80, 14), (81, 15), (82, 16), (83, 17), (84, 18), (85, 19), (86, 20), (87, 21), (88, 22), (89, 23), (90, 24)] : List (Nat × Nat)).lookup t) [.is (.bool true), .is (.int .i64 (k : Int)), .is (.bool true), .is (.bool false), .is (.bool false), .is (.bool true), .is (.bool true), .is (.agg (Ln.cells m1).toArray), .is (.pointer (some ⟨lb, 2, none⟩)), .is (.slice (some ⟨ga, o, none⟩) l.length c), .is (.int .i64 (k : Int)), .is (.pointer (some ⟨ga, o + k * 18, none⟩)), .is (.agg (Ln.cells m1).toArray), .is (.bool false), .is (.bool false), .is (.bool false), .is (.bool false), .is (.bool true), .is (.bool false), .is (.bool false), .is (undef), .is (undef), .is (undef), .is (.bool false), .is (.bool false)] [true, true, true, true, true, true, true, true, true, true, true, true, true, true, true, true, true, true, true, true, false, false, false, true, true] (by kernel_rfl) ?_ ?_
    · refine ⟨?_, ?_, ?_, ?_, ?_, ?_, ?_, ?_, ?_, ?_, ?_, ?_, ?_, ?_, ?_, ?_, ?_, ?_, ?_, ?_, ?_, ?_, ?_, ?_, ?_, trivial⟩
      · refine ⟨rfl, fun ρ w1 hr hd => ?_⟩
        obtain ⟨d0, _⟩ := hd
        have d0 : ρ (.tmp 13) = .bool true := d0
        refine (if_pos (by rfl)).mpr ?_
        refine Og.gives_is (.bool true) ?_ (And.intro (Below.refl _ _) rfl)
        go_simp
      · refine ⟨rfl, fun ρ w1 hr hd => ?_⟩
        obtain ⟨d0, _⟩ := hd
        have d0 : ρ (.tmp 18) = .int .i64 (k : Int) := d0
        refine (if_pos (by rfl)).mpr ?_
        refine Og.gives_is (.int .i64 (k : Int)) ?_ (And.intro (Below.refl _ _) rfl)
        go_simp
      · refine ⟨rfl, fun ρ w1 hr hd => ?_⟩
        obtain ⟨d0, d1, _⟩ := hd
        have d0 : ρ (.tmp 67) = .int .i64 (k : Int) := d0
        have d1 : ρ (.const (.int .i64 0)) = (.int .i64 0) := d1
        refine (if_pos (by rfl)).mpr ?_
        refine Og.gives_is (.bool true) ?_ (And.intro (Below.refl _ _) rfl)
        simp only [execOp, d0]; go_simp; try simp
      · refine ⟨rfl, fun ρ w1 hr hd => ?_⟩
        obtain ⟨d0, d1, _⟩ := hd
        have d0 : ρ (.tmp 66) = .bool true := d0
        have d1 : ρ (.tmp 68) = .bool true := d1
        refine (if_pos (by rfl)).mpr ?_
        refine Og.gives_is (.bool false) ?_ (And.intro (Below.refl _ _) rfl)
        simp only [execOp, d0, d1]; go_simp; try simp
      · refine ⟨rfl, fun ρ w1 hr hd => ?_⟩
        obtain ⟨d0, _⟩ := hd
        have d0 : ρ (.tmp 69) = .bool false := d0
        refine (if_pos (by rfl)).mpr ?_
        refine Og.gives_is (.bool false) ?_ (And.intro (Below.refl _ _) rfl)
        go_simp
      · refine ⟨fun v w hv => by (have hv' : v = .bool false := hv); subst hv'; exact (if_pos rfl).mpr rfl, fun ρ w1 hr hd => ?_⟩
        obtain ⟨d0, _⟩ := hd
        have d0 : ρ (.tmp 13) = .bool true := d0
        refine (if_pos (by rfl)).mpr ?_
        refine Og.gives_is (.bool true) ?_ (And.intro (Below.refl _ _) rfl)
        go_simp
      · refine ⟨fun v w hv => by (have hv' : v = .bool false := hv); subst hv'; exact (if_pos rfl).mpr rfl, fun ρ w1 hr hd => ?_⟩
        obtain ⟨d0, _⟩ := hd
        have d0 : ρ (.tmp 71) = .bool true := d0
        refine (if_pos (by rfl)).mpr ?_
        refine Og.gives_is (.bool true) ?_ (And.intro (Below.refl _ _) rfl)
        go_simp
      · refine ⟨fun v w hv => by (have hv' : v = .bool true := hv); subst hv'; exact (if_pos rfl).mpr rfl, fun ρ w1 hr hd => ?_⟩
        obtain ⟨d0, _⟩ := hd
        have d0 : ρ (.tmp 12) = .pointer (some ⟨fb, 0, none⟩) := d0
        refine (if_pos (by rfl)).mpr ?_
        refine Og.gives_is (.agg (Ln.cells m1).toArray) ?_ (And.intro (Below.refl _ _) rfl)
        exact Og.load_run 30 (.tmp 12) rfl ⟨fb, 0, none⟩ d0 (run_loadVar_row w1 fb 30 30 _ (0, 0) _ ((hr.block fb (Array.getElem?_eq_some_iff.1 FB9.out).1).trans FB9.out) Try.underlying30 rfl (by rw [O1.out.size]; exact Ln.size_line))
      · refine ⟨fun v w hv => by (have hv' : v = .bool true := hv); subst hv'; exact (if_pos rfl).mpr rfl, fun ρ w1 hr hd => ?_⟩
        obtain ⟨d0, _⟩ := hd
        have d0 : ρ (.tmp 10) = .pointer (some ⟨lb, 0, none⟩) := d0
        refine (if_pos (by rfl)).mpr ?_
        refine Og.gives_is (.pointer (some ⟨lb, 2, none⟩)) ?_ (And.intro (Below.refl _ _) rfl)
        go_simp
      · refine ⟨fun v w hv => by (have hv' : v = .bool true := hv); subst hv'; exact (if_pos rfl).mpr rfl, fun ρ w1 hr hd => ?_⟩
        obtain ⟨d0, _⟩ := hd
        have d0 : ρ (.tmp 74) = .pointer (some ⟨lb, 2, none⟩) := d0
        refine (if_pos (by rfl)).mpr ?_
        have hc : w1.cell? ⟨lb, 2, none⟩ = some (.slice (some ⟨ga, o, none⟩) l.length c) := Ev.kp_below hr _ _ c2
        refine Og.gives_is (.slice (some ⟨ga, o, none⟩) l.length c) ?_ (And.intro (Below.refl _ _) rfl)
        go_simp
      · refine ⟨fun v w hv => by (have hv' : v = .bool true := hv); subst hv'; exact (if_pos rfl).mpr rfl, fun ρ w1 hr hd => ?_⟩
        obtain ⟨d0, _⟩ := hd
        have d0 : ρ (.tmp 18) = .int .i64 (k : Int) := d0
        refine (if_pos (by rfl)).mpr ?_
        refine Og.gives_is (.int .i64 (k : Int)) ?_ (And.intro (Below.refl _ _) rfl)
        go_simp
      · refine ⟨fun v w hv => by (have hv' : v = .bool true := hv); subst hv'; exact (if_pos rfl).mpr rfl, fun ρ w1 hr hd => ?_⟩
        obtain ⟨d0, d1, _⟩ := hd
        have d0 : ρ (.tmp 75) = .slice (some ⟨ga, o, none⟩) l.length c := d0
        have d1 : ρ (.tmp 76) = .int .i64 (k : Int) := d1
        refine (if_pos (by rfl)).mpr ?_
        refine Og.gives_is (.pointer (some ⟨ga, o + k * 18, none⟩)) ?_ (And.intro (Below.refl _ _) rfl)
        go_simp
      · refine ⟨fun v w hv => by (have hv' : v = .bool true := hv); subst hv'; exact (if_pos rfl).mpr rfl, fun ρ w1 hr hd => ?_⟩
        obtain ⟨d0, _⟩ := hd
        have d0 : ρ (.tmp 77) = .pointer (some ⟨ga, o + k * 18, none⟩) := d0
        refine (if_pos (by rfl)).mpr ?_
        refine Og.gives_is (.agg (Ln.cells m1).toArray) ?_ (And.intro (Below.refl _ _) rfl)
        exact Og.load_run 30 (.tmp 77) rfl ⟨ga, o + k * 18, none⟩ d0 (run_loadVar_at w1 ga (o + k * 18) 30 (Ln.cells m1) _ (fun i c hi => Ev.kp_below hr _ _ (HC.out i c hi)) Try.underlying30 rfl (by rw [O1.out.len]; exact Ln.size_line))
      · refine ⟨fun v w hv => by (have hv' : v = .bool true := hv); subst hv'; exact (if_pos rfl).mpr rfl, fun ρ w1 hr hd => ?_⟩
        obtain ⟨d0, d1, _⟩ := hd
        have d0 : ρ (.tmp 73) = .agg (Ln.cells m1).toArray := d0
        have d1 : ρ (.tmp 78) = .agg (Ln.cells m1).toArray := d1
        refine (if_pos (by rfl)).mpr ?_
        refine Og.gives_is (.bool false) ?_ (And.intro (Below.refl _ _) rfl)
        exact Ln.neq_op (a := m1) (b := m1) (.tmp 73) (.tmp 78) rfl O1.out O1.out d0 d1 false (by rw [Ln.eqL_self O1.out]; rfl) w1
      · refine ⟨fun v w hv => by (have hv' : v = .bool false := hv); subst hv'; exact (if_pos rfl).mpr rfl, fun ρ w1 hr hd => ?_⟩
        obtain ⟨d0, d1, d2, _⟩ := hd
        have d0 : ρ (.tmp 72) = .bool true := d0
        have d1 : ρ (.tmp 79) = .bool false := d1
        have d2 : ρ (.const (Value.bool false)) = (Value.bool false) := d2
        refine (if_pos (by rfl)).mpr ?_
        refine Og.gives_is (.bool false) ?_ (And.intro (Below.refl _ _) rfl)
        go_simp
      · refine ⟨rfl, fun ρ w1 hr hd => ?_⟩
        obtain ⟨d0, d1, d2, _⟩ := hd
        have d0 : ρ (.tmp 70) = .bool false := d0
        have d1 : ρ (.const (Value.bool true)) = (Value.bool true) := d1
        have d2 : ρ (.tmp 80) = .bool false := d2
        refine (if_pos (by rfl)).mpr ?_
        refine Og.gives_is (.bool false) ?_ (And.intro (Below.refl _ _) rfl)
        go_simp
      · refine ⟨rfl, fun ρ w1 hr hd => ?_⟩
        obtain ⟨d0, _⟩ := hd
        have d0 : ρ (.tmp 81) = .bool false := d0
        refine (if_pos (by rfl)).mpr ?_
        refine Og.gives_is (.bool false) ?_ (And.intro (Below.refl _ _) rfl)
        go_simp
      · refine ⟨fun v w hv => by (have hv' : v = .bool false := hv); subst hv'; exact (if_pos rfl).mpr rfl, fun ρ w1 hr hd => ?_⟩
        obtain ⟨d0, _⟩ := hd
        have d0 : ρ (.tmp 13) = .bool true := d0
        refine (if_pos (by rfl)).mpr ?_
        refine Og.gives_is (.bool true) ?_ (And.intro (Below.refl _ _) rfl)
        go_simp
      · refine ⟨fun v w hv => by (have hv' : v = .bool false := hv); subst hv'; exact (if_pos rfl).mpr rfl, fun ρ w1 hr hd => ?_⟩
        obtain ⟨d0, _⟩ := hd
        have d0 : ρ (.tmp 83) = .bool true := d0
        refine (if_pos (by rfl)).mpr ?_
        refine Og.gives_is (.bool false) ?_ (And.intro (Below.refl _ _) rfl)
        simp only [execOp, d0]; go_simp; try simp
      · refine ⟨fun v w hv => by (have hv' : v = .bool false := hv); subst hv'; exact (if_pos rfl).mpr rfl, fun ρ w1 hr hd => ?_⟩
        obtain ⟨d0, _⟩ := hd
        have d0 : ρ (.tmp 84) = .bool false := d0
        refine (if_pos (by rfl)).mpr ?_
        refine Og.gives_is (.bool false) ?_ (And.intro (Below.refl _ _) rfl)
        go_simp
      · refine ⟨fun v w hv => by (have hv' : v = .bool false := hv); subst hv'; exact (if_neg (by exact Bool.false_ne_true)).mpr (fun h => by cases h), fun ρ w1 hr hd => ?_⟩
        exact (if_neg (by exact Bool.false_ne_true)).mpr (rfl : undef = undef)
      · refine ⟨fun v w hv => by (have hv' : v = .bool false := hv); subst hv'; exact (if_neg (by exact Bool.false_ne_true)).mpr (fun h => by cases h), fun ρ w1 hr hd => ?_⟩
        exact (if_neg (by exact Bool.false_ne_true)).mpr (rfl : undef = undef)
      · refine ⟨fun v w hv => by (have hv' : v = .bool false := hv); subst hv'; exact (if_neg (by exact Bool.false_ne_true)).mpr (fun h => by cases h), fun ρ w1 hr hd => ?_⟩
        exact (if_neg (by exact Bool.false_ne_true)).mpr (rfl : undef = undef)
      · refine ⟨fun v w hv => by (have hv' : v = .bool false := hv); subst hv'; exact (if_pos rfl).mpr rfl, fun ρ w1 hr hd => ?_⟩
        obtain ⟨d0, d1, d2, _⟩ := hd
        have d0 : ρ (.tmp 85) = .bool false := d0
        have d1 : ρ (.tmp 88) = undef := d1
        have d2 : ρ (.const (Value.bool false)) = (Value.bool false) := d2
        refine (if_pos (by rfl)).mpr ?_
        refine Og.gives_is (.bool false) ?_ (And.intro (Below.refl _ _) rfl)
        go_simp
      · refine ⟨rfl, fun ρ w1 hr hd => ?_⟩
        obtain ⟨d0, d1, d2, _⟩ := hd
        have d0 : ρ (.tmp 82) = .bool false := d0
        have d1 : ρ (.const (Value.bool true)) = (Value.bool true) := d1
        have d2 : ρ (.tmp 89) = .bool false := d2
        refine (if_pos (by rfl)).mpr ?_
        refine Og.gives_is (.bool false) ?_ (And.intro (Below.refl _ _) rfl)
        go_simp
    · intro vs w1 hbz hall
      have e0 : vs 0 = .bool true := hall 0 _ 66 rfl rfl
      have e1 : vs 1 = .int .i64 (k : Int) := hall 1 _ 67 rfl rfl
      have e2 : vs 2 = .bool true := hall 2 _ 68 rfl rfl
      have e3 : vs 3 = .bool false := hall 3 _ 69 rfl rfl
      have e4 : vs 4 = .bool false := hall 4 _ 70 rfl rfl
      have e5 : vs 5 = .bool true := hall 5 _ 71 rfl rfl
      have e6 : vs 6 = .bool true := hall 6 _ 72 rfl rfl
      have e7 : vs 7 = .agg (Ln.cells m1).toArray := hall 7 _ 73 rfl rfl
      have e8 : vs 8 = .pointer (some ⟨lb, 2, none⟩) := hall 8 _ 74 rfl rfl
      have e9 : vs 9 = .slice (some ⟨ga, o, none⟩) l.length c := hall 9 _ 75 rfl rfl
      have e10 : vs 10 = .int .i64 (k : Int) := hall 10 _ 76 rfl rfl
      have e11 : vs 11 = .pointer (some ⟨ga, o + k * 18, none⟩) := hall 11 _ 77 rfl rfl
      have e12 : vs 12 = .agg (Ln.cells m1).toArray := hall 12 _ 78 rfl rfl
      have e13 : vs 13 = .bool false := hall 13 _ 79 rfl rfl
      have e14 : vs 14 = .bool false := hall 14 _ 80 rfl rfl
      have e15 : vs 15 = .bool false := hall 15 _ 81 rfl rfl
      have e16 : vs 16 = .bool false := hall 16 _ 82 rfl rfl
      have e17 : vs 17 = .bool true := hall 17 _ 83 rfl rfl
      have e18 : vs 18 = .bool false := hall 18 _ 84 rfl rfl
      have e19 : vs 19 = .bool false := hall 19 _ 85 rfl rfl
      have e20 : vs 20 = undef := hall 20 _ 86 rfl rfl
      have e21 : vs 21 = undef := hall 21 _ 87 rfl rfl
      have e22 : vs 22 = undef := hall 22 _ 88 rfl rfl
      have e23 : vs 23 = .bool false := hall 23 _ 89 rfl rfl
      have e24 : vs 24 = .bool false := hall 24 _ 90 rfl rfl
      have HBZ := Lib.hid hbz
      simp only [Og.putAll, Act.put, List.setIfInBounds_toArray, List.set_cons_zero, List.set_cons_succ, Nat.zero_add, Nat.reduceAdd, e0, e1, e2, e3, e4, e5, e6, e7, e8, e9, e10, e11, e12, e13, e14, e15, e16, e17, e18, e19, e20, e21, e22, e23, e24]
      clear hall hbz
      have P10 := Lib.hid (P9.out.kp HBZ.out)
      have VB10 := Lib.hid ((HBZ.out.block vb (Array.getElem?_eq_some_iff.1 VB9.out).1).trans VB9.out)
      have UB10 := Lib.hid ((HBZ.out.block ub (Array.getElem?_eq_some_iff.1 UB9.out).1).trans UB9.out)
      have KI := Lib.hid (is_any s ways _ c l w1 (P10.out.rin RL.out hl5) RL.out P10.out.cache)
      go_wp2_with (first
        | ((with_reducible show wpList _ _ _ (Oper.mk (some 93) _ _ _ _ _ :: _) _ _); refine Ev.load_row_g 30 (.tmp 14) rfl rfl vb rfl 30 (Ln.cells m2).toArray (0, 0) _ VB10.out Try.underlying30 rfl (by rw [O2.out.size]; exact Ln.size_line) ?_)
        | ((with_reducible show wpList _ _ _ (Oper.mk (some 94) _ _ _ _ _ :: _) _ _); refine Ev.load_row_g 30 (.tmp 16) rfl rfl ub rfl 30 (Ln.cells m2).toArray (0, 0) _ UB10.out Try.underlying30 rfl (by rw [O2.out.size]; exact Ln.size_line) ?_)
        | ((with_reducible show wpList _ _ _ (Oper.mk (some 95) _ _ _ _ _ :: _) _ _); refine Ln.wpList_val_g rfl (Ln.eql_op (a := m2) (b := m2) (.tmp 93) (.tmp 94) rfl O2.out O2.out rfl rfl true (Ln.eqL_self O2.out) _) ?_)
        | ((with_reducible show wpList _ _ _ (Oper.mk (some 104) _ _ _ _ _ :: _) _ _); refine Ev.load_row_g 46 (.tmp 10) rfl rfl lb rfl 46 _ (0, 0) _ P10.out.want Try.underlying46 rfl (by kernel_rfl) ?_)
        | (go_at_call 23; (with_reducible refine KI.out.mono ?_); rintro e W11 ⟨rfl, hb⟩; have B11 := Lib.hid (P10.out.bel.trans (hb.mono P10.out.bel.size)); clear hb)
        | (go_at_call 21; (with_reducible refine (works_any _).mono ?_); rintro e W12 ⟨rfl, hb⟩; have B12 := Lib.hid (B11.out.trans (hb.mono B11.out.size)); clear hb))
      go_ret
      exact ⟨rfl, B0.out.trans (B12.out.mono B0.out.size)⟩
  ·
    refine Og.region3 (by kernel_rfl) (fun t => ([(66, 0), (67, 1), (68, 2), (69, 3), (70, 4), (71, 5), (72, 6), (73, 7), (74, 8), (75, 9), (76, 10), (77, 11), (78, 12), (79, 13), (80, 14), (81, 15), (82, 16), (83, 17), (84, 18), (85, 19), (86, 20), (87, 21), (88, 22), (89, 23), (90, 24)] : List (Nat × Nat)).lookup t) [.is (.bool false), .is (.int .i64 (-1)), .is (.bool false), .is (.bool false), .is (.bool false), .is (.bool false), .is (.bool false), .is (undef), .is (undef), .is (undef), .is (undef), .is (undef), .is (undef), .is (undef), .is (.bool false), .is (.bool false), .is (.bool false), .is (.bool false), .is (.bool true), .is (.bool true), .is (.agg (Ln.cells Ln.E0).toArray), .is (.agg (Ln.cells Ln.E0).toArray), .is (.bool false), .is (.bool false), .is (.bool false)] [true, true, true, true, true, true, true, false, false, false, false, false, false, false, true, true, true, true, true, true, true, true, true, true, true] (by kernel_rfl) ?_ ?_
    · refine ⟨?_, ?_, ?_, ?_, ?_, ?_, ?_, ?_, ?_, ?_, ?_, ?_, ?_, ?_, ?_, ?_, ?_, ?_, ?_, ?_, ?_, ?_, ?_, ?_, ?_, trivial⟩
      · refine ⟨rfl, fun ρ w1 hr hd => ?_⟩
        obtain ⟨d0, _⟩ := hd
        have d0 : ρ (.tmp 13) = .bool false := d0
        refine (if_pos (by rfl)).mpr ?_
        refine Og.gives_is (.bool false) ?_ (And.intro (Below.refl _ _) rfl)
        go_simp
      · refine ⟨rfl, fun ρ w1 hr hd => ?_⟩
        obtain ⟨d0, _⟩ := hd
        have d0 : ρ (.tmp 18) = .int .i64 (-1) := d0
        refine (if_pos (by rfl)).mpr ?_
        refine Og.gives_is (.int .i64 (-1)) ?_ (And.intro (Below.refl _ _) rfl)
        go_simp
      · refine ⟨rfl, fun ρ w1 hr hd => ?_⟩
        obtain ⟨d0, d1, _⟩ := hd
        have d0 : ρ (.tmp 67) = .int .i64 (-1) := d0
        have d1 : ρ (.const (.int .i64 0)) = (.int .i64 0) := d1
        refine (if_pos (by rfl)).mpr ?_
        refine Og.gives_is (.bool false) ?_ (And.intro (Below.refl _ _) rfl)
        simp only [execOp, d0]; go_simp; try simp
      · refine ⟨rfl, fun ρ w1 hr hd => ?_⟩
        obtain ⟨d0, d1, _⟩ := hd
        have d0 : ρ (.tmp 66) = .bool false := d0
        have d1 : ρ (.tmp 68) = .bool false := d1
        refine (if_pos (by rfl)).mpr ?_
        refine Og.gives_is (.bool false) ?_ (And.intro (Below.refl _ _) rfl)
        simp only [execOp, d0, d1]; go_simp; try simp
      · refine ⟨rfl, fun ρ w1 hr hd => ?_⟩
        obtain ⟨d0, _⟩ := hd
        have d0 : ρ (.tmp 69) = .bool false := d0
        refine (if_pos (by rfl)).mpr ?_
        refine Og.gives_is (.bool false) ?_ (And.intro (Below.refl _ _) rfl)
        go_simp
      · refine ⟨fun v w hv => by (have hv' : v = .bool false := hv); subst hv'; exact (if_pos rfl).mpr rfl, fun ρ w1 hr hd => ?_⟩
        obtain ⟨d0, _⟩ := hd
        have d0 : ρ (.tmp 13) = .bool false := d0
        refine (if_pos (by rfl)).mpr ?_
        refine Og.gives_is (.bool false) ?_ (And.intro (Below.refl _ _) rfl)
        go_simp
      · refine ⟨fun v w hv => by (have hv' : v = .bool false := hv); subst hv'; exact (if_pos rfl).mpr rfl, fun ρ w1 hr hd => ?_⟩
        obtain ⟨d0, _⟩ := hd
        have d0 : ρ (.tmp 71) = .bool false := d0
        refine (if_pos (by rfl)).mpr ?_
        refine Og.gives_is (.bool false) ?_ (And.intro (Below.refl _ _) rfl)
        go_simp
      · refine ⟨fun v w hv => by (have hv' : v = .bool false := hv); subst hv'; exact (if_neg (by exact Bool.false_ne_true)).mpr (fun h => by cases h), fun ρ w1 hr hd => ?_⟩
        exact (if_neg (by exact Bool.false_ne_true)).mpr (rfl : undef = undef)
      · refine ⟨fun v w hv => by (have hv' : v = .bool false := hv); subst hv'; exact (if_neg (by exact Bool.false_ne_true)).mpr (fun h => by cases h), fun ρ w1 hr hd => ?_⟩
        exact (if_neg (by exact Bool.false_ne_true)).mpr (rfl : undef = undef)
      · refine ⟨fun v w hv => by (have hv' : v = .bool false := hv); subst hv'; exact (if_neg (by exact Bool.false_ne_true)).mpr (fun h => by cases h), fun ρ w1 hr hd => ?_⟩
        exact (if_neg (by exact Bool.false_ne_true)).mpr (rfl : undef = undef)
      · refine ⟨fun v w hv => by (have hv' : v = .bool false := hv); subst hv'; exact (if_neg (by exact Bool.false_ne_true)).mpr (fun h => by cases h), fun ρ w1 hr hd => ?_⟩
        exact (if_neg (by exact Bool.false_ne_true)).mpr (rfl : undef = undef)
      · refine ⟨fun v w hv => by (have hv' : v = .bool false := hv); subst hv'; exact (if_neg (by exact Bool.false_ne_true)).mpr (fun h => by cases h), fun ρ w1 hr hd => ?_⟩
        exact (if_neg (by exact Bool.false_ne_true)).mpr (rfl : undef = undef)
      · refine ⟨fun v w hv => by (have hv' : v = .bool false := hv); subst hv'; exact (if_neg (by exact Bool.false_ne_true)).mpr (fun h => by cases h), fun ρ w1 hr hd => ?_⟩
        exact (if_neg (by exact Bool.false_ne_true)).mpr (rfl : undef = undef)
      · refine ⟨fun v w hv => by (have hv' : v = .bool false := hv); subst hv'; exact (if_neg (by exact Bool.false_ne_true)).mpr (fun h => by cases h), fun ρ w1 hr hd => ?_⟩
        exact (if_neg (by exact Bool.false_ne_true)).mpr (rfl : undef = undef)
      · refine ⟨fun v w hv => by (have hv' : v = .bool false := hv); subst hv'; exact (if_pos rfl).mpr rfl, fun ρ w1 hr hd => ?_⟩
        obtain ⟨d0, d1, d2, _⟩ := hd
        have d0 : ρ (.tmp 72) = .bool false := d0
        have d1 : ρ (.tmp 79) = undef := d1
        have d2 : ρ (.const (Value.bool false)) = (Value.bool false) := d2
        refine (if_pos (by rfl)).mpr ?_
        refine Og.gives_is (.bool false) ?_ (And.intro (Below.refl _ _) rfl)
        go_simp
      · refine ⟨rfl, fun ρ w1 hr hd => ?_⟩
        obtain ⟨d0, d1, d2, _⟩ := hd
        have d0 : ρ (.tmp 70) = .bool false := d0
        have d1 : ρ (.const (Value.bool true)) = (Value.bool true) := d1
        have d2 : ρ (.tmp 80) = .bool false := d2
        refine (if_pos (by rfl)).mpr ?_
        refine Og.gives_is (.bool false) ?_ (And.intro (Below.refl _ _) rfl)
        go_simp
      · refine ⟨rfl, fun ρ w1 hr hd => ?_⟩
        obtain ⟨d0, _⟩ := hd
        have d0 : ρ (.tmp 81) = .bool false := d0
        refine (if_pos (by rfl)).mpr ?_
        refine Og.gives_is (.bool false) ?_ (And.intro (Below.refl _ _) rfl)
        go_simp
      · refine ⟨fun v w hv => by (have hv' : v = .bool false := hv); subst hv'; exact (if_pos rfl).mpr rfl, fun ρ w1 hr hd => ?_⟩
        obtain ⟨d0, _⟩ := hd
        have d0 : ρ (.tmp 13) = .bool false := d0
        refine (if_pos (by rfl)).mpr ?_
        refine Og.gives_is (.bool false) ?_ (And.intro (Below.refl _ _) rfl)
        go_simp
      · refine ⟨fun v w hv => by (have hv' : v = .bool false := hv); subst hv'; exact (if_pos rfl).mpr rfl, fun ρ w1 hr hd => ?_⟩
        obtain ⟨d0, _⟩ := hd
        have d0 : ρ (.tmp 83) = .bool false := d0
        refine (if_pos (by rfl)).mpr ?_
        refine Og.gives_is (.bool true) ?_ (And.intro (Below.refl _ _) rfl)
        simp only [execOp, d0]; go_simp; try simp
      · refine ⟨fun v w hv => by (have hv' : v = .bool false := hv); subst hv'; exact (if_pos rfl).mpr rfl, fun ρ w1 hr hd => ?_⟩
        obtain ⟨d0, _⟩ := hd
        have d0 : ρ (.tmp 84) = .bool true := d0
        refine (if_pos (by rfl)).mpr ?_
        refine Og.gives_is (.bool true) ?_ (And.intro (Below.refl _ _) rfl)
        go_simp
      · refine ⟨fun v w hv => by (have hv' : v = .bool true := hv); subst hv'; exact (if_pos rfl).mpr rfl, fun ρ w1 hr hd => ?_⟩
        obtain ⟨d0, _⟩ := hd
        have d0 : ρ (.tmp 12) = .pointer (some ⟨fb, 0, none⟩) := d0
        refine (if_pos (by rfl)).mpr ?_
        refine Og.gives_is (.agg (Ln.cells Ln.E0).toArray) ?_ (And.intro (Below.refl _ _) rfl)
        exact Og.load_run 30 (.tmp 12) rfl ⟨fb, 0, none⟩ d0 (run_loadVar_row w1 fb 30 30 _ (0, 0) _ ((hr.block fb (Array.getElem?_eq_some_iff.1 FB9.out).1).trans FB9.out) Try.underlying30 rfl (by rw [O1.out.size]; exact Ln.size_line))
      · refine ⟨fun v w hv => by (have hv' : v = .bool true := hv); subst hv'; exact (if_pos rfl).mpr rfl, fun ρ w1 hr hd => ?_⟩
        refine (if_pos (by rfl)).mpr ?_
        refine Og.gives_is (.agg (Ln.cells Ln.E0).toArray) ?_ (And.intro (Below.refl _ _) rfl)
        first | rfl | kernel_rfl
      · refine ⟨fun v w hv => by (have hv' : v = .bool true := hv); subst hv'; exact (if_pos rfl).mpr rfl, fun ρ w1 hr hd => ?_⟩
        obtain ⟨d0, d1, _⟩ := hd
        have d0 : ρ (.tmp 86) = .agg (Ln.cells Ln.E0).toArray := d0
        have d1 : ρ (.tmp 87) = .agg (Ln.cells Ln.E0).toArray := d1
        refine (if_pos (by rfl)).mpr ?_
        refine Og.gives_is (.bool false) ?_ (And.intro (Below.refl _ _) rfl)
        exact Ln.neq_op (a := Ln.E0) (b := Ln.E0) (.tmp 86) (.tmp 87) rfl O1.out O1.out d0 d1 false (by rw [Ln.eqL_self O1.out]; rfl) w1
      · refine ⟨fun v w hv => by (have hv' : v = .bool false := hv); subst hv'; exact (if_pos rfl).mpr rfl, fun ρ w1 hr hd => ?_⟩
        obtain ⟨d0, d1, d2, _⟩ := hd
        have d0 : ρ (.tmp 85) = .bool true := d0
        have d1 : ρ (.tmp 88) = .bool false := d1
        have d2 : ρ (.const (Value.bool false)) = (Value.bool false) := d2
        refine (if_pos (by rfl)).mpr ?_
        refine Og.gives_is (.bool false) ?_ (And.intro (Below.refl _ _) rfl)
        go_simp
      · refine ⟨rfl, fun ρ w1 hr hd => ?_⟩
        obtain ⟨d0, d1, d2, _⟩ := hd
        have d0 : ρ (.tmp 82) = .bool false := d0
        have d1 : ρ (.const (Value.bool true)) = (Value.bool true) := d1
        have d2 : ρ (.tmp 89) = .bool false := d2
        refine (if_pos (by rfl)).mpr ?_
        refine Og.gives_is (.bool false) ?_ (And.intro (Below.refl _ _) rfl)
        go_simp
    · intro vs w1 hbz hall
      have e0 : vs 0 = .bool false := hall 0 _ 66 rfl rfl
      have e1 : vs 1 = .int .i64 (-1) := hall 1 _ 67 rfl rfl
      have e2 : vs 2 = .bool false := hall 2 _ 68 rfl rfl
      have e3 : vs 3 = .bool false := hall 3 _ 69 rfl rfl
      have e4 : vs 4 = .bool false := hall 4 _ 70 rfl rfl
      have e5 : vs 5 = .bool false := hall 5 _ 71 rfl rfl
      have e6 : vs 6 = .bool false := hall 6 _ 72 rfl rfl
      have e7 : vs 7 = undef := hall 7 _ 73 rfl rfl
      have e8 : vs 8 = undef := hall 8 _ 74 rfl rfl
      have e9 : vs 9 = undef := hall 9 _ 75 rfl rfl
      have e10 : vs 10 = undef := hall 10 _ 76 rfl rfl
      have e11 : vs 11 = undef := hall 11 _ 77 rfl rfl
      have e12 : vs 12 = undef := hall 12 _ 78 rfl rfl
      have e13 : vs 13 = undef := hall 13 _ 79 rfl rfl
      have e14 : vs 14 = .bool false := hall 14 _ 80 rfl rfl
      have e15 : vs 15 = .bool false := hall 15 _ 81 rfl rfl
      have e16 : vs 16 = .bool false := hall 16 _ 82 rfl rfl
      have e17 : vs 17 = .bool false := hall 17 _ 83 rfl rfl
      have e18 : vs 18 = .bool true := hall 18 _ 84 rfl rfl
      have e19 : vs 19 = .bool true := hall 19 _ 85 rfl rfl
      have e20 : vs 20 = .agg (Ln.cells Ln.E0).toArray := hall 20 _ 86 rfl rfl
      have e21 : vs 21 = .agg (Ln.cells Ln.E0).toArray := hall 21 _ 87 rfl rfl
      have e22 : vs 22 = .bool false := hall 22 _ 88 rfl rfl
      have e23 : vs 23 = .bool false := hall 23 _ 89 rfl rfl
      have e24 : vs 24 = .bool false := hall 24 _ 90 rfl rfl
      have HBZ := Lib.hid hbz
      simp only [Og.putAll, Act.put, List.setIfInBounds_toArray, List.set_cons_zero, List.set_cons_succ, Nat.zero_add, Nat.reduceAdd, e0, e1, e2, e3, e4, e5, e6, e7, e8, e9, e10, e11, e12, e13, e14, e15, e16, e17, e18, e19, e20, e21, e22, e23, e24]
      clear hall hbz
      have P10 := Lib.hid (P9.out.kp HBZ.out)
      have VB10 := Lib.hid ((HBZ.out.block vb (Array.getElem?_eq_some_iff.1 VB9.out).1).trans VB9.out)
      have UB10 := Lib.hid ((HBZ.out.block ub (Array.getElem?_eq_some_iff.1 UB9.out).1).trans UB9.out)
      have KI := Lib.hid (is_any s ways _ c l w1 (P10.out.rin RL.out hl5) RL.out P10.out.cache)
      go_wp2_with (first
        | ((with_reducible show wpList _ _ _ (Oper.mk (some 93) _ _ _ _ _ :: _) _ _); refine Ev.load_row_g 30 (.tmp 14) rfl rfl vb rfl 30 (Ln.cells m2).toArray (0, 0) _ VB10.out Try.underlying30 rfl (by rw [O2.out.size]; exact Ln.size_line) ?_)
        | ((with_reducible show wpList _ _ _ (Oper.mk (some 94) _ _ _ _ _ :: _) _ _); refine Ev.load_row_g 30 (.tmp 16) rfl rfl ub rfl 30 (Ln.cells m2).toArray (0, 0) _ UB10.out Try.underlying30 rfl (by rw [O2.out.size]; exact Ln.size_line) ?_)
        | ((with_reducible show wpList _ _ _ (Oper.mk (some 95) _ _ _ _ _ :: _) _ _); refine Ln.wpList_val_g rfl (Ln.eql_op (a := m2) (b := m2) (.tmp 93) (.tmp 94) rfl O2.out O2.out rfl rfl true (Ln.eqL_self O2.out) _) ?_)
        | ((with_reducible show wpList _ _ _ (Oper.mk (some 104) _ _ _ _ _ :: _) _ _); refine Ev.load_row_g 46 (.tmp 10) rfl rfl lb rfl 46 _ (0, 0) _ P10.out.want Try.underlying46 rfl (by kernel_rfl) ?_)
        | (go_at_call 23; (with_reducible refine KI.out.mono ?_); rintro e W11 ⟨rfl, hb⟩; have B11 := Lib.hid (P10.out.bel.trans (hb.mono P10.out.bel.size)); clear hb)
        | (go_at_call 21; (with_reducible refine (works_any _).mono ?_); rintro e W12 ⟨rfl, hb⟩; have B12 := Lib.hid (B11.out.trans (hb.mono B11.out.size)); clear hb))
      go_ret
      exact ⟨rfl, B0.out.trans (B12.out.mono B0.out.size)⟩
/-! THE WALK: the Go text returns true; of memory nothing that stood there has turned. -/
set_option maxRecDepth 100000 in
set_option maxHeartbeats 8000000 in
theorem walk (w : World) (a0 : Int) (w0 : (Lit.int .i64 a0).wf = true) (a1 : Int) (w1 : (Lit.int .i64 a1).wf = true) (a2 : Option Addr) (n2 c2 : Nat) (x2 : List Ln.Act) (l2 : x2.length = n2) (b2 : Ln.AsIn w a2 c2 x2) (p3 q3 : Int) (l3 : Ev.u32B p3) (m3 : Ev.i64B q3) :
    Calls Try.prog 5 #[.int .i64 a0, .int .i64 a1, .slice a2 n2 c2, .agg #[.int .u32 p3, .int .i64 q3]] w fun e w' => e = .returned (.bool true) ∧ Below w.heap.size w w' := by
  cases hm : Ln.mayB a0 a1
  · exact walk_bad w a0 a1 (i64_of_wf w0) (i64_of_wf w1) hm a2 n2 c2 p3 q3
  · by_cases hn : (100 : Int) < (n2 : Int)
    · exact walk_long w a0 a1 (i64_of_wf w0) (i64_of_wf w1) hm a2 n2 c2 p3 q3 hn
    · obtain ⟨s, ways, rfl, rfl, h0, h1, h2, h3⟩ := Ln.may_nat hm
      subst l2
      exact walk_good w s ways hm h0 h1 h2 h3 a2 c2 x2 b2 (by omega) p3 q3 l3 m3

/-! THE ROW -/
set_option maxRecDepth 100000 in
theorem lifted (os : Os) (started : os.Started) (H : Type) (enc : TypeId × Value → H) :
    ReturnsInHanded {} Try.checked os 5 .any (Rows.linesTellsSpec.pre6 enc Try.prog Try.f5 Rows.linesTellsRow.domain false) (Rows.linesTellsSpec.post enc Try.prog Try.f5 false true false false) := by
  refine returnsInHanded_of_change (C := Try.checked) own started (by kernel_rfl) Try.func5
    (ChangeSpec.witness6 (enc := enc) (C := Try.checked) false ⟨#[], #[.int .i64 0, .int .i64 0, .slice none 0 0, .agg #[.int .u32 0, .int .i64 0]], []⟩ 8 (by kernel_rfl) (by kernel_rfl) (by kernel_rfl) (by kernel_rfl)) ?_
  intro W base args ds gs before hval0 hW hcnd _
  have hval : ∀ (j : Nat) t v, Try.f5.params[j]? = some t → args[j]? = some v → Value.okWide Try.prog W .any base t v := hval0
  have hW' := hW
  obtain ⟨p, q, hA0, hV, rfl, hfz, hnd⟩ := hW
  have hA : DataW.TrodAll enc Try.prog W 0 (fun _ => true) true Try.f5.params.toList args.toList ds p := hA0
  rw [Try.params5] at hA hval
  obtain ⟨v0, vs0, d0, ds0, p0, q0, hargs, rfl, rfl, h0, r0⟩ := trodAll_cons hA
  obtain ⟨v1, vs1, d1, ds1, p1, q1, rfl, rfl, rfl, h1, r1⟩ := trodAll_cons r0
  obtain ⟨v2, vs2, d2, ds2, p2, q2, rfl, rfl, rfl, h2, r2⟩ := trodAll_cons r1
  obtain ⟨v3, vs3, d3, ds3, p3, q3, rfl, rfl, rfl, h3, r3⟩ := trodAll_cons r2
  obtain ⟨rfl, rfl, rfl⟩ := trodAll_nil r3
  obtain rfl : args = #[v0, v1, v2, v3] := by cases args; simp_all
  obtain ⟨rfl, rfl⟩ := trodVars_none hV
  clear hA0 hval0
  simp only [List.append_nil] at hW'
  have hlt : ∀ x ∈ p0 ++ (p1 ++ (p2 ++ (p3))), x.block < W.heap.size := fun x hx => by simpa using hW'.lt x (by simpa using hx)
  have h0k := h0
  obtain ⟨a0, rfl, rfl, rfl, w0⟩ := open_int Try.underlying3 (hval 0 3 v0 rfl rfl) h0
  have h1k := h1
  obtain ⟨a1, rfl, rfl, rfl, w1⟩ := open_int Try.underlying3 (hval 1 3 v1 rfl rfl) h1
  obtain ⟨a2, n2, c2, rfl⟩ := okWide_slice Try.underlying44 (hval 2 44 v2 rfl rfl)
  obtain ⟨x2, l2, b2⟩ := open_acts h2
  obtain ⟨p3, q3, rfl, l3, m3⟩ := open_ask (hval 3 52 v3 rfl rfl) h3
  refine (walk W a0 w0 a1 w1 a2 n2 c2 x2 l2 b2 p3 q3 l3 m3).mono fun e W' ⟨he, hb⟩ => ?_
  subst he
  have harg0 : DataW.Trod enc Try.prog W' 0 (fun b => decide (b < W.heap.size)) true 3 _ _ _ := Below.trod laidOut (by kernel_rfl) (of_decide_eq_true (by kernel_rfl)) h0k hb (fun x hx => by cases hx)
  have harg1 : DataW.Trod enc Try.prog W' 0 (fun b => decide (b < W.heap.size)) true 3 _ _ _ := Below.trod laidOut (by kernel_rfl) (of_decide_eq_true (by kernel_rfl)) h1k hb (fun x hx => by cases hx)
  have harg2 : DataW.Trod enc Try.prog W' 0 (fun b => decide (b < W.heap.size)) true 44 _ _ _ := Below.trod laidOut (by kernel_rfl) (of_decide_eq_true (by kernel_rfl)) h2 hb (fun x hx => hlt x (by simp [hx]))
  have harg3 : DataW.Trod enc Try.prog W' 0 (fun b => decide (b < W.heap.size)) true 52 _ _ _ := Below.trod laidOut (by kernel_rfl) (of_decide_eq_true (by kernel_rfl)) h3 hb (fun x hx => hlt x (by simp [hx]))
  exact ⟨_, rfl, _, _, _, [], _, [], hW', trodAll_mk1 (shut_bool Try.underlying4 _), (trodAll_cons_mk harg0 (trodAll_cons_mk harg1 (trodAll_cons_mk harg2 (trodAll_cons_mk harg3 trodAll_mk0)))), rfl, hb.frame _, fun h => by cases h⟩

theorem over : Rows.linesTellsRow.holds Try.pinned (OpenSpec.ofChange Rows.linesTellsSpec) :=
  OpenClaim.holds_of_wide 5 Try.f5 rfl rfl rfl rfl rfl rfl rfl ⟨rfl, rfl, rfl, rfl, rfl⟩ rfl rfl rfl rfl rfl (by kernel_rfl) Try.func5 (by kernel_rfl)
    (of_decide_eq_true (by kernel_rfl)) (by unfold Func.isWrapper; first | (rw [if_pos (by decide +kernel)]; kernel_rfl) | (rw [if_neg (by decide +kernel)]; exact ⟨rfl, rfl⟩))
    (fun os started H enc _ => lifted os started H enc)

/-- THE STATEMENT -/
theorem proved : Rows.LinesTellsSaid :=
  over
end Go.Proofs.Ytifniogldinbdaa.linesTells
