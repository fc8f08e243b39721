/-
  The contract of Same.
-/
import Derived.Test.YtnfpcklpmfemiaaNtIs
namespace Go.Proofs.Ytnfpcklpmfemiaa
open Go.RowKit
set_option linter.unusedVariables false
set_option linter.unusedSimpArgs false
namespace Nt
theorem same_nn (w : World) : Calls Try.prog 36 #[.pointer none, .pointer none] w fun e w' => e = .returned (.bool true) ∧ w = w' := by
  go_enter Try.func36, Try.ntmps36
  go_wp2_with (go_at_call 64; (with_reducible refine (isNone_nil w).mono ?_); rintro e W2 ⟨rfl, hw⟩; subst hw)
  go_ret
  exact ⟨rfl, rfl⟩
theorem same_nc (w : World) {F p most l} (h : Net w F p most l) : Calls Try.prog 36 #[.pointer none, .pointer (some ⟨p, 0, none⟩)] w fun e w' => e = .returned (.bool false) ∧ w = w' := by
  have KN := Lib.hid (isNone_any w h)
  clear h
  go_enter Try.func36, Try.ntmps36
  go_wp2_with (first
    | (go_at_call 64; (with_reducible refine (isNone_nil w).mono ?_); rintro e W2 ⟨rfl, hw⟩; subst hw)
    | (go_at_call 64; (with_reducible refine KN.out.mono ?_); rintro e W2 ⟨rfl, hw⟩; subst hw))
  go_ret
  exact ⟨rfl, rfl⟩
theorem same_cn (w : World) {F p most l} (h : Net w F p most l) : Calls Try.prog 36 #[.pointer (some ⟨p, 0, none⟩), .pointer none] w fun e w' => e = .returned (.bool false) ∧ w = w' := by
  have KN := Lib.hid (isNone_any w h)
  clear h
  go_enter Try.func36, Try.ntmps36
  go_wp2_with (first
    | (go_at_call 64; (with_reducible refine (isNone_nil w).mono ?_); rintro e W2 ⟨rfl, hw⟩; subst hw)
    | (go_at_call 64; (with_reducible refine KN.out.mono ?_); rintro e W2 ⟨rfl, hw⟩; subst hw))
  go_ret
  exact ⟨rfl, rfl⟩
set_option maxRecDepth 100000 in
set_option maxHeartbeats 4000000 in
theorem same_any (w : World) {F p most l} (h : Net w F p most l) {G q m k} (h2 : Net w G q m k) : Calls Try.prog 36 #[.pointer (some ⟨p, 0, none⟩), .pointer (some ⟨q, 0, none⟩)] w fun e w' => e = .returned (.bool (decide (most = m) && sameLs l k)) ∧ Below w.heap.size w w' := by
  have KN := Lib.hid (isNone_any w h)
  have KM := Lib.hid (isNone_any w h2)
  obtain ⟨a, c, h⟩ := h
  obtain ⟨a2, c2, h2⟩ := h2
  have cp0 := h.c0; have cp1 := h.c1; have cq0 := h2.c0; have cq1 := h2.c1
  have L1 := Lib.hid h.ls; have L2 := Lib.hid h2.ls
  have hl1 : l.length ≤ 1100 := by have := h.len; have := h.max; omega
  have hl2 : k.length ≤ 1100 := by have := h2.len; have := h2.max; omega
  clear h h2
  by_cases hm : most = m
  · have hmi : (most : Int) = (m : Int) := by omega
    rw [decide_eq_true hm, Bool.true_and]
    clear hm
    obtain ⟨v, hv⟩ : ∃ v, sameLs l k = v := ⟨_, rfl⟩
    rw [hv]
    have HV := Lib.hid hv
    clear hv
    go_enter Try.func36, Try.ntmps36
    go_wp2_with (first
      | (go_at_call 64; (with_reducible refine KN.out.mono ?_); rintro e W2 ⟨rfl, hw⟩; subst hw)
      | (go_at_call 64; (with_reducible refine KM.out.mono ?_); rintro e W2 ⟨rfl, hw⟩; subst hw))
    refine Og.region3 (by kernel_rfl) (fun t => ([(17, 0), (18, 1), (19, 2), (20, 3), (21, 4), (22, 5), (23, 6), (24, 7), (25, 8), (26, 9), (27, 10), (28, 11), (29, 12), (30, 13), (31, 14), (32, 15), (33, 16), (34, 17), (35, 18), (36, 19), (4, 20)] : List (Nat × Nat)).lookup t) [.is (.pointer (some ⟨p, 0, none⟩)), .is (.pointer (some ⟨p, 0, none⟩)), .is (.pointer (some ⟨p, 0, none⟩)), .is (.int .i64 (most : Int)), .is (.pointer (some ⟨q, 0, none⟩)), .is (.pointer (some ⟨q, 0, none⟩)), .is (.pointer (some ⟨q, 0, none⟩)), .is (.int .i64 (m : Int)), .is (.bool true), .is (.bool true), .is (.pointer (some ⟨p, 0, none⟩)), .is (.pointer (some ⟨p, 0, none⟩)), .is (.pointer (some ⟨p, 1, none⟩)), .is (.slice a l.length c), .is (.pointer (some ⟨q, 0, none⟩)), .is (.pointer (some ⟨q, 0, none⟩)), .is (.pointer (some ⟨q, 1, none⟩)), .is (.slice a2 k.length c2), .is (.bool v), .is (.bool v), .is (.bool v)] [true, true, true, true, true, true, true, true, true, true, true, true, true, true, true, true, true, true, true, true, true] (by kernel_rfl) ?_ ?_
    · refine ⟨?_, ?_, ?_, ?_, ?_, ?_, ?_, ?_, ?_, ?_, ?_, ?_, ?_, ?_, ?_, ?_, ?_, ?_, ?_, ?_, ?_, trivial⟩
      · refine ⟨rfl, fun ρ w1 hr hd => ?_⟩
        obtain ⟨d0, _⟩ := hd
        have d0 : ρ (.tmp 0) = .pointer (some ⟨p, 0, none⟩) := d0
        refine (if_pos (by rfl)).mpr ?_
        refine Og.gives_is (.pointer (some ⟨p, 0, none⟩)) ?_ (And.intro (Below.refl _ _) rfl)
        go_simp
      · refine ⟨rfl, fun ρ w1 hr hd => ?_⟩
        obtain ⟨d0, _⟩ := hd
        have d0 : ρ (.tmp 17) = .pointer (some ⟨p, 0, none⟩) := d0
        refine (if_pos (by rfl)).mpr ?_
        refine Og.gives_is (.pointer (some ⟨p, 0, none⟩)) ?_ (And.intro (Below.refl _ _) rfl)
        go_simp
      · refine ⟨rfl, fun ρ w1 hr hd => ?_⟩
        obtain ⟨d0, _⟩ := hd
        have d0 : ρ (.tmp 18) = .pointer (some ⟨p, 0, none⟩) := d0
        refine (if_pos (by rfl)).mpr ?_
        refine Og.gives_is (.pointer (some ⟨p, 0, none⟩)) ?_ (And.intro (Below.refl _ _) rfl)
        go_simp
      · refine ⟨rfl, fun ρ w1 hr hd => ?_⟩
        obtain ⟨d0, _⟩ := hd
        have d0 : ρ (.tmp 19) = .pointer (some ⟨p, 0, none⟩) := d0
        refine (if_pos (by rfl)).mpr ?_
        have hc : w1.cell? ⟨p, 0, none⟩ = some (.int .i64 (most : Int)) := Ev.kp_below hr _ _ cp0
        refine Og.gives_is (.int .i64 (most : Int)) ?_ (And.intro (Below.refl _ _) rfl)
        go_simp
      · refine ⟨rfl, fun ρ w1 hr hd => ?_⟩
        obtain ⟨d0, _⟩ := hd
        have d0 : ρ (.tmp 1) = .pointer (some ⟨q, 0, none⟩) := d0
        refine (if_pos (by rfl)).mpr ?_
        refine Og.gives_is (.pointer (some ⟨q, 0, none⟩)) ?_ (And.intro (Below.refl _ _) rfl)
        go_simp
      · refine ⟨rfl, fun ρ w1 hr hd => ?_⟩
        obtain ⟨d0, _⟩ := hd
        have d0 : ρ (.tmp 21) = .pointer (some ⟨q, 0, none⟩) := d0
        refine (if_pos (by rfl)).mpr ?_
        refine Og.gives_is (.pointer (some ⟨q, 0, none⟩)) ?_ (And.intro (Below.refl _ _) rfl)
        go_simp
      · refine ⟨rfl, fun ρ w1 hr hd => ?_⟩
        obtain ⟨d0, _⟩ := hd
        have d0 : ρ (.tmp 22) = .pointer (some ⟨q, 0, none⟩) := d0
        refine (if_pos (by rfl)).mpr ?_
        refine Og.gives_is (.pointer (some ⟨q, 0, none⟩)) ?_ (And.intro (Below.refl _ _) rfl)
        go_simp
      · refine ⟨rfl, fun ρ w1 hr hd => ?_⟩
        obtain ⟨d0, _⟩ := hd
        have d0 : ρ (.tmp 23) = .pointer (some ⟨q, 0, none⟩) := d0
        refine (if_pos (by rfl)).mpr ?_
        have hc : w1.cell? ⟨q, 0, none⟩ = some (.int .i64 (m : Int)) := Ev.kp_below hr _ _ cq0
        refine Og.gives_is (.int .i64 (m : Int)) ?_ (And.intro (Below.refl _ _) rfl)
        go_simp
      · refine ⟨rfl, fun ρ w1 hr hd => ?_⟩
        obtain ⟨d0, d1, _⟩ := hd
        have d0 : ρ (.tmp 20) = .int .i64 (most : Int) := d0
        have d1 : ρ (.tmp 24) = .int .i64 (m : Int) := d1
        refine (if_pos (by rfl)).mpr ?_
        refine Og.gives_is (.bool true) ?_ (And.intro (Below.refl _ _) rfl)
        simp only [execOp, d0, d1]; go_simp; try simp [hmi]
      · refine ⟨rfl, fun ρ w1 hr hd => ?_⟩
        obtain ⟨d0, _⟩ := hd
        have d0 : ρ (.tmp 25) = .bool true := d0
        refine (if_pos (by rfl)).mpr ?_
        refine Og.gives_is (.bool true) ?_ (And.intro (Below.refl _ _) rfl)
        go_simp
      · refine ⟨fun v w hv => by (have hv' : v = .bool true := hv); subst hv'; exact (if_pos rfl).mpr rfl, fun ρ w1 hr hd => ?_⟩
        obtain ⟨d0, _⟩ := hd
        have d0 : ρ (.tmp 0) = .pointer (some ⟨p, 0, none⟩) := d0
        refine (if_pos (by rfl)).mpr ?_
        refine Og.gives_is (.pointer (some ⟨p, 0, none⟩)) ?_ (And.intro (Below.refl _ _) rfl)
        go_simp
      · refine ⟨fun v w hv => by (have hv' : v = .bool true := hv); subst hv'; exact (if_pos rfl).mpr rfl, fun ρ w1 hr hd => ?_⟩
        obtain ⟨d0, _⟩ := hd
        have d0 : ρ (.tmp 27) = .pointer (some ⟨p, 0, none⟩) := d0
        refine (if_pos (by rfl)).mpr ?_
        refine Og.gives_is (.pointer (some ⟨p, 0, none⟩)) ?_ (And.intro (Below.refl _ _) rfl)
        go_simp
      · refine ⟨fun v w hv => by (have hv' : v = .bool true := hv); subst hv'; exact (if_pos rfl).mpr rfl, fun ρ w1 hr hd => ?_⟩
        obtain ⟨d0, _⟩ := hd
        have d0 : ρ (.tmp 28) = .pointer (some ⟨p, 0, none⟩) := d0
        refine (if_pos (by rfl)).mpr ?_
        refine Og.gives_is (.pointer (some ⟨p, 1, none⟩)) ?_ (And.intro (Below.refl _ _) rfl)
        go_simp
      · refine ⟨fun v w hv => by (have hv' : v = .bool true := hv); subst hv'; exact (if_pos rfl).mpr rfl, fun ρ w1 hr hd => ?_⟩
        obtain ⟨d0, _⟩ := hd
        have d0 : ρ (.tmp 29) = .pointer (some ⟨p, 1, none⟩) := d0
        refine (if_pos (by rfl)).mpr ?_
        have hc : w1.cell? ⟨p, 1, none⟩ = some (.slice a l.length c) := Ev.kp_below hr _ _ cp1
        refine Og.gives_is (.slice a l.length c) ?_ (And.intro (Below.refl _ _) rfl)
        go_simp
      · refine ⟨fun v w hv => by (have hv' : v = .bool true := hv); subst hv'; exact (if_pos rfl).mpr rfl, fun ρ w1 hr hd => ?_⟩
        obtain ⟨d0, _⟩ := hd
        have d0 : ρ (.tmp 1) = .pointer (some ⟨q, 0, none⟩) := d0
        refine (if_pos (by rfl)).mpr ?_
        refine Og.gives_is (.pointer (some ⟨q, 0, none⟩)) ?_ (And.intro (Below.refl _ _) rfl)
        go_simp
      · refine ⟨fun v w hv => by (have hv' : v = .bool true := hv); subst hv'; exact (if_pos rfl).mpr rfl, fun ρ w1 hr hd => ?_⟩
        obtain ⟨d0, _⟩ := hd
        have d0 : ρ (.tmp 31) = .pointer (some ⟨q, 0, none⟩) := d0
        refine (if_pos (by rfl)).mpr ?_
        refine Og.gives_is (.pointer (some ⟨q, 0, none⟩)) ?_ (And.intro (Below.refl _ _) rfl)
        go_simp
      · refine ⟨fun v w hv => by (have hv' : v = .bool true := hv); subst hv'; exact (if_pos rfl).mpr rfl, fun ρ w1 hr hd => ?_⟩
        obtain ⟨d0, _⟩ := hd
        have d0 : ρ (.tmp 32) = .pointer (some ⟨q, 0, none⟩) := d0
        refine (if_pos (by rfl)).mpr ?_
        refine Og.gives_is (.pointer (some ⟨q, 1, none⟩)) ?_ (And.intro (Below.refl _ _) rfl)
        go_simp
      · refine ⟨fun v w hv => by (have hv' : v = .bool true := hv); subst hv'; exact (if_pos rfl).mpr rfl, fun ρ w1 hr hd => ?_⟩
        obtain ⟨d0, _⟩ := hd
        have d0 : ρ (.tmp 33) = .pointer (some ⟨q, 1, none⟩) := d0
        refine (if_pos (by rfl)).mpr ?_
        have hc : w1.cell? ⟨q, 1, none⟩ = some (.slice a2 k.length c2) := Ev.kp_below hr _ _ cq1
        refine Og.gives_is (.slice a2 k.length c2) ?_ (And.intro (Below.refl _ _) rfl)
        go_simp
      · refine ⟨fun v w hv => by (have hv' : v = .bool true := hv); subst hv'; exact (if_pos rfl).mpr rfl, fun ρ w1 hr hd => ?_⟩
        obtain ⟨d0, d1, d2, _⟩ := hd
        have d0 : ρ (.func 66) = .func (.func 66) #[] #[] := d0
        have d1 : ρ (.tmp 30) = .slice a l.length c := d1
        have d2 : ρ (.tmp 34) = .slice a2 k.length c2 := d2
        refine (if_pos (by rfl)).mpr ?_
        refine Og.gives_call 66 #[.slice a l.length c, .slice a2 k.length c2] ?_ ?_
        · go_simp
        · refine (equal_any a a2 c c2 l k hl1 hl2 w1 (L1.out.kp (Ev.kp_below hr)) (L2.out.kp (Ev.kp_below hr))).mono ?_
          rintro e' w3 ⟨rfl, hb⟩
          exact ⟨_, rfl, hb, by rw [HV.out]; rfl⟩
      · refine ⟨rfl, fun ρ w1 hr hd => ?_⟩
        obtain ⟨d0, d1, d2, _⟩ := hd
        have d0 : ρ (.tmp 26) = .bool true := d0
        have d1 : ρ (.tmp 35) = .bool v := d1
        have d2 : ρ (.const (Value.bool false)) = (Value.bool false) := d2
        refine (if_pos (by rfl)).mpr ?_
        refine Og.gives_is (.bool v) ?_ (And.intro (Below.refl _ _) rfl)
        go_simp
      · refine ⟨rfl, fun ρ w1 hr hd => ?_⟩
        obtain ⟨d0, _⟩ := hd
        have d0 : ρ (.tmp 36) = .bool v := d0
        refine (if_pos (by rfl)).mpr ?_
        refine Og.gives_is (.bool v) ?_ (And.intro (Below.refl _ _) rfl)
        go_simp
    · intro vs w1 hbz hall
      have e0 : vs 0 = .pointer (some ⟨p, 0, none⟩) := hall 0 _ 17 rfl rfl
      have e1 : vs 1 = .pointer (some ⟨p, 0, none⟩) := hall 1 _ 18 rfl rfl
      have e2 : vs 2 = .pointer (some ⟨p, 0, none⟩) := hall 2 _ 19 rfl rfl
      have e3 : vs 3 = .int .i64 (most : Int) := hall 3 _ 20 rfl rfl
      have e4 : vs 4 = .pointer (some ⟨q, 0, none⟩) := hall 4 _ 21 rfl rfl
      have e5 : vs 5 = .pointer (some ⟨q, 0, none⟩) := hall 5 _ 22 rfl rfl
      have e6 : vs 6 = .pointer (some ⟨q, 0, none⟩) := hall 6 _ 23 rfl rfl
      have e7 : vs 7 = .int .i64 (m : Int) := hall 7 _ 24 rfl rfl
      have e8 : vs 8 = .bool true := hall 8 _ 25 rfl rfl
      have e9 : vs 9 = .bool true := hall 9 _ 26 rfl rfl
      have e10 : vs 10 = .pointer (some ⟨p, 0, none⟩) := hall 10 _ 27 rfl rfl
      have e11 : vs 11 = .pointer (some ⟨p, 0, none⟩) := hall 11 _ 28 rfl rfl
      have e12 : vs 12 = .pointer (some ⟨p, 1, none⟩) := hall 12 _ 29 rfl rfl
      have e13 : vs 13 = .slice a l.length c := hall 13 _ 30 rfl rfl
      have e14 : vs 14 = .pointer (some ⟨q, 0, none⟩) := hall 14 _ 31 rfl rfl
      have e15 : vs 15 = .pointer (some ⟨q, 0, none⟩) := hall 15 _ 32 rfl rfl
      have e16 : vs 16 = .pointer (some ⟨q, 1, none⟩) := hall 16 _ 33 rfl rfl
      have e17 : vs 17 = .slice a2 k.length c2 := hall 17 _ 34 rfl rfl
      have e18 : vs 18 = .bool v := hall 18 _ 35 rfl rfl
      have e19 : vs 19 = .bool v := hall 19 _ 36 rfl rfl
      have e20 : vs 20 = .bool v := hall 20 _ 4 rfl rfl
      have HBZ := Lib.hid hbz
      simp only [Og.putAll, Act.put, List.setIfInBounds_toArray, List.set_cons_zero, List.set_cons_succ, Nat.zero_add, Nat.reduceAdd, e0, e1, e2, e3, e4, e5, e6, e7, e8, e9, e10, e11, e12, e13, e14, e15, e16, e17, e18, e19, e20]
      clear hall hbz
      go_wp2_with fail
      go_ret
      exact ⟨rfl, HBZ.out⟩
  · have hmi : ¬ (most : Int) = (m : Int) := by omega
    rw [decide_eq_false hm, Bool.false_and]
    clear hm
    go_enter Try.func36, Try.ntmps36
    go_wp2_with (first
      | (go_at_call 64; (with_reducible refine KN.out.mono ?_); rintro e W2 ⟨rfl, hw⟩; subst hw)
      | (go_at_call 64; (with_reducible refine KM.out.mono ?_); rintro e W2 ⟨rfl, hw⟩; subst hw))
    refine Og.region3 (by kernel_rfl) (fun t => ([(17, 0), (18, 1), (19, 2), (20, 3), (21, 4), (22, 5), (23, 6), (24, 7), (25, 8), (26, 9), (27, 10), (28, 11), (29, 12), (30, 13), (31, 14), (32, 15), (33, 16), (34, 17), (35, 18), (36, 19), (4, 20)] : List (Nat × Nat)).lookup t) [.is (.pointer (some ⟨p, 0, none⟩)), .is (.pointer (some ⟨p, 0, none⟩)), .is (.pointer (some ⟨p, 0, none⟩)), .is (.int .i64 (most : Int)), .is (.pointer (some ⟨q, 0, none⟩)), .is (.pointer (some ⟨q, 0, none⟩)), .is (.pointer (some ⟨q, 0, none⟩)), .is (.int .i64 (m : Int)), .is (.bool false), .is (.bool false), .is (undef), .is (undef), .is (undef), .is (undef), .is (undef), .is (undef), .is (undef), .is (undef), .is (undef), .is (.bool false), .is (.bool false)] [true, true, true, true, true, true, true, true, true, true, false, false, false, false, false, false, false, false, false, true, true] (by kernel_rfl) ?_ ?_
    · refine ⟨?_, ?_, ?_, ?_, ?_, ?_, ?_, ?_, ?_, ?_, ?_, ?_, ?_, ?_, ?_, ?_, ?_, ?_, ?_, ?_, ?_, trivial⟩
      · refine ⟨rfl, fun ρ w1 hr hd => ?_⟩
        obtain ⟨d0, _⟩ := hd
        have d0 : ρ (.tmp 0) = .pointer (some ⟨p, 0, none⟩) := d0
        refine (if_pos (by rfl)).mpr ?_
        refine Og.gives_is (.pointer (some ⟨p, 0, none⟩)) ?_ (And.intro (Below.refl _ _) rfl)
        go_simp
      · refine ⟨rfl, fun ρ w1 hr hd => ?_⟩
        obtain ⟨d0, _⟩ := hd
        have d0 : ρ (.tmp 17) = .pointer (some ⟨p, 0, none⟩) := d0
        refine (if_pos (by rfl)).mpr ?_
        refine Og.gives_is (.pointer (some ⟨p, 0, none⟩)) ?_ (And.intro (Below.refl _ _) rfl)
        go_simp
      · refine ⟨rfl, fun ρ w1 hr hd => ?_⟩
        obtain ⟨d0, _⟩ := hd
        have d0 : ρ (.tmp 18) = .pointer (some ⟨p, 0, none⟩) := d0
        refine (if_pos (by rfl)).mpr ?_
        refine Og.gives_is (.pointer (some ⟨p, 0, none⟩)) ?_ (And.intro (Below.refl _ _) rfl)
        go_simp
      · refine ⟨rfl, fun ρ w1 hr hd => ?_⟩
        obtain ⟨d0, _⟩ := hd
        have d0 : ρ (.tmp 19) = .pointer (some ⟨p, 0, none⟩) := d0
        refine (if_pos (by rfl)).mpr ?_
        have hc : w1.cell? ⟨p, 0, none⟩ = some (.int .i64 (most : Int)) := Ev.kp_below hr _ _ cp0
        refine Og.gives_is (.int .i64 (most : Int)) ?_ (And.intro (Below.refl _ _) rfl)
        go_simp
      · refine ⟨rfl, fun ρ w1 hr hd => ?_⟩
        obtain ⟨d0, _⟩ := hd
        have d0 : ρ (.tmp 1) = .pointer (some ⟨q, 0, none⟩) := d0
        refine (if_pos (by rfl)).mpr ?_
        refine Og.gives_is (.pointer (some ⟨q, 0, none⟩)) ?_ (And.intro (Below.refl _ _) rfl)
        go_simp
      · refine ⟨rfl, fun ρ w1 hr hd => ?_⟩
        obtain ⟨d0, _⟩ := hd
        have d0 : ρ (.tmp 21) = .pointer (some ⟨q, 0, none⟩) := d0
        refine (if_pos (by rfl)).mpr ?_
        refine Og.gives_is (.pointer (some ⟨q, 0, none⟩)) ?_ (And.intro (Below.refl _ _) rfl)
        go_simp
      · refine ⟨rfl, fun ρ w1 hr hd => ?_⟩
        obtain ⟨d0, _⟩ := hd
        have d0 : ρ (.tmp 22) = .pointer (some ⟨q, 0, none⟩) := d0
        refine (if_pos (by rfl)).mpr ?_
        refine Og.gives_is (.pointer (some ⟨q, 0, none⟩)) ?_ (And.intro (Below.refl _ _) rfl)
        go_simp
      · refine ⟨rfl, fun ρ w1 hr hd => ?_⟩
        obtain ⟨d0, _⟩ := hd
        have d0 : ρ (.tmp 23) = .pointer (some ⟨q, 0, none⟩) := d0
        refine (if_pos (by rfl)).mpr ?_
        have hc : w1.cell? ⟨q, 0, none⟩ = some (.int .i64 (m : Int)) := Ev.kp_below hr _ _ cq0
        refine Og.gives_is (.int .i64 (m : Int)) ?_ (And.intro (Below.refl _ _) rfl)
        go_simp
      · refine ⟨rfl, fun ρ w1 hr hd => ?_⟩
        obtain ⟨d0, d1, _⟩ := hd
        have d0 : ρ (.tmp 20) = .int .i64 (most : Int) := d0
        have d1 : ρ (.tmp 24) = .int .i64 (m : Int) := d1
        refine (if_pos (by rfl)).mpr ?_
        refine Og.gives_is (.bool false) ?_ (And.intro (Below.refl _ _) rfl)
        simp only [execOp, d0, d1]; go_simp; try simp [hmi]
      · refine ⟨rfl, fun ρ w1 hr hd => ?_⟩
        obtain ⟨d0, _⟩ := hd
        have d0 : ρ (.tmp 25) = .bool false := d0
        refine (if_pos (by rfl)).mpr ?_
        refine Og.gives_is (.bool false) ?_ (And.intro (Below.refl _ _) rfl)
        go_simp
      · refine ⟨fun v w hv => by (have hv' : v = .bool false := hv); subst hv'; exact (if_neg (by exact Bool.false_ne_true)).mpr (fun h => by cases h), fun ρ w1 hr hd => ?_⟩
        exact (if_neg (by exact Bool.false_ne_true)).mpr (rfl : undef = undef)
      · refine ⟨fun v w hv => by (have hv' : v = .bool false := hv); subst hv'; exact (if_neg (by exact Bool.false_ne_true)).mpr (fun h => by cases h), fun ρ w1 hr hd => ?_⟩
        exact (if_neg (by exact Bool.false_ne_true)).mpr (rfl : undef = undef)
      · refine ⟨fun v w hv => by (have hv' : v = .bool false := hv); subst hv'; exact (if_neg (by exact Bool.false_ne_true)).mpr (fun h => by cases h), fun ρ w1 hr hd => ?_⟩
        exact (if_neg (by exact Bool.false_ne_true)).mpr (rfl : undef = undef)
      · refine ⟨fun v w hv => by (have hv' : v = .bool false := hv); subst hv'; exact (if_neg (by exact Bool.false_ne_true)).mpr (fun h => by cases h), fun ρ w1 hr hd => ?_⟩
        exact (if_neg (by exact Bool.false_ne_true)).mpr (rfl : undef = undef)
      · refine ⟨fun v w hv => by (have hv' : v = .bool false := hv); subst hv'; exact (if_neg (by exact Bool.false_ne_true)).mpr (fun h => by cases h), fun ρ w1 hr hd => ?_⟩
        exact (if_neg (by exact Bool.false_ne_true)).mpr (rfl : undef = undef)
      · refine ⟨fun v w hv => by (have hv' : v = .bool false := hv); subst hv'; exact (if_neg (by exact Bool.false_ne_true)).mpr (fun h => by cases h), fun ρ w1 hr hd => ?_⟩
        exact (if_neg (by exact Bool.false_ne_true)).mpr (rfl : undef = undef)
      · refine ⟨fun v w hv => by (have hv' : v = .bool false := hv); subst hv'; exact (if_neg (by exact Bool.false_ne_true)).mpr (fun h => by cases h), fun ρ w1 hr hd => ?_⟩
        exact (if_neg (by exact Bool.false_ne_true)).mpr (rfl : undef = undef)
      · refine ⟨fun v w hv => by (have hv' : v = .bool false := hv); subst hv'; exact (if_neg (by exact Bool.false_ne_true)).mpr (fun h => by cases h), fun ρ w1 hr hd => ?_⟩
        exact (if_neg (by exact Bool.false_ne_true)).mpr (rfl : undef = undef)
      · refine ⟨fun v w hv => by (have hv' : v = .bool false := hv); subst hv'; exact (if_neg (by exact Bool.false_ne_true)).mpr (fun h => by cases h), fun ρ w1 hr hd => ?_⟩
        exact (if_neg (by exact Bool.false_ne_true)).mpr (rfl : undef = undef)
      · refine ⟨rfl, fun ρ w1 hr hd => ?_⟩
        obtain ⟨d0, d1, d2, _⟩ := hd
        have d0 : ρ (.tmp 26) = .bool false := d0
        have d1 : ρ (.tmp 35) = undef := d1
        have d2 : ρ (.const (Value.bool false)) = (Value.bool false) := d2
        refine (if_pos (by rfl)).mpr ?_
        refine Og.gives_is (.bool false) ?_ (And.intro (Below.refl _ _) rfl)
        go_simp
      · refine ⟨rfl, fun ρ w1 hr hd => ?_⟩
        obtain ⟨d0, _⟩ := hd
        have d0 : ρ (.tmp 36) = .bool false := d0
        refine (if_pos (by rfl)).mpr ?_
        refine Og.gives_is (.bool false) ?_ (And.intro (Below.refl _ _) rfl)
        go_simp
    · intro vs w1 hbz hall
      have e0 : vs 0 = .pointer (some ⟨p, 0, none⟩) := hall 0 _ 17 rfl rfl
      have e1 : vs 1 = .pointer (some ⟨p, 0, none⟩) := hall 1 _ 18 rfl rfl
      have e2 : vs 2 = .pointer (some ⟨p, 0, none⟩) := hall 2 _ 19 rfl rfl
      have e3 : vs 3 = .int .i64 (most : Int) := hall 3 _ 20 rfl rfl
      have e4 : vs 4 = .pointer (some ⟨q, 0, none⟩) := hall 4 _ 21 rfl rfl
      have e5 : vs 5 = .pointer (some ⟨q, 0, none⟩) := hall 5 _ 22 rfl rfl
      have e6 : vs 6 = .pointer (some ⟨q, 0, none⟩) := hall 6 _ 23 rfl rfl
      have e7 : vs 7 = .int .i64 (m : Int) := hall 7 _ 24 rfl rfl
      have e8 : vs 8 = .bool false := hall 8 _ 25 rfl rfl
      have e9 : vs 9 = .bool false := hall 9 _ 26 rfl rfl
      have e10 : vs 10 = undef := hall 10 _ 27 rfl rfl
      have e11 : vs 11 = undef := hall 11 _ 28 rfl rfl
      have e12 : vs 12 = undef := hall 12 _ 29 rfl rfl
      have e13 : vs 13 = undef := hall 13 _ 30 rfl rfl
      have e14 : vs 14 = undef := hall 14 _ 31 rfl rfl
      have e15 : vs 15 = undef := hall 15 _ 32 rfl rfl
      have e16 : vs 16 = undef := hall 16 _ 33 rfl rfl
      have e17 : vs 17 = undef := hall 17 _ 34 rfl rfl
      have e18 : vs 18 = undef := hall 18 _ 35 rfl rfl
      have e19 : vs 19 = .bool false := hall 19 _ 36 rfl rfl
      have e20 : vs 20 = .bool false := hall 20 _ 4 rfl rfl
      have HBZ := Lib.hid hbz
      simp only [Og.putAll, Act.put, List.setIfInBounds_toArray, List.set_cons_zero, List.set_cons_succ, Nat.zero_add, Nat.reduceAdd, e0, e1, e2, e3, e4, e5, e6, e7, e8, e9, e10, e11, e12, e13, e14, e15, e16, e17, e18, e19, e20]
      clear hall hbz
      go_wp2_with fail
      go_ret
      exact ⟨rfl, HBZ.out⟩
end Nt
end Go.Proofs.Ytnfpcklpmfemiaa
