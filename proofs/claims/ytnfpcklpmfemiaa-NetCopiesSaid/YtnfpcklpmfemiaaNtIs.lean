/-
  The contract of the laws' is: a net that has these messages has them in all its ways.
-/
import Derived.Test.YtnfpcklpmfemiaaNtRef
namespace Go.Proofs.Ytnfpcklpmfemiaa
open Go.RowKit
set_option linter.unusedVariables false
set_option linter.unusedSimpArgs false
namespace Nt
theorem Told.ls {w w' : World} {e : Ending} {l : List E} (h : Told w w' e l) : ∃ a c, e = .returned (.slice a l.length c) ∧ LsIn w' a c l ∧ Below w.heap.size w w' := by
  obtain ⟨a, c, e1, ho, hk, hb⟩ := h
  exact ⟨a, c, e1, ho.ls hk, hb⟩
set_option maxRecDepth 100000 in
set_option maxHeartbeats 8000000 in
theorem is_any (most : Nat) (a : Option Addr) (c : Nat) (l : List E) (w : World) (h : LsIn w a c l) (hl : l.length ≤ 1024) {F p m} (hn : Net w F p m l) :
    Calls Try.prog 38 #[.pointer (some ⟨p, 0, none⟩), .agg #[.int .i64 (most : Int), .slice a l.length c]] w fun e w' => e = .returned (.bool true) ∧ Below w.heap.size w w' := by
  obtain ⟨b, hb⟩ : ∃ b, b = w.heap.size := ⟨_, rfl⟩
  obtain ⟨B, hB⟩ : ∃ B, B = w.alloc (.cells #[.int .i64 (most : Int), .slice a l.length c] 76) := ⟨_, rfl⟩
  have HB := Lib.hid hB; have Hb := Lib.hid hb
  have B0 := Lib.hid (show Below w.heap.size w B by rw [hB]; exact (Below.refl w.heap.size w).alloc (Nat.le_refl _) _)
  have N0 := Lib.hid (show B.heap[b]? = some (.cells #[.int .i64 (most : Int), .slice a l.length c] 76 (0, 0)) by rw [hB, hb]; exact heap_alloc_new _ _)
  have HIN := Lib.hid (h.kp (Ev.kp_below B0.out)); have HNT := Lib.hid (hn.kp B0.out)
  clear h hb hB hn
  go_enter Try.func38, Try.ntmps38
  go_wp2_with fail
  rw [← HB.out, ← Hb.out]
  go_loopw [5] (fun i wr => ∃ j : Int, -1 ≤ j ∧ j ≤ 6 ∧ i = .int .i64 j ∧ Below B.heap.size B wr) (fun i _ => (7 - intOf i).toNat)
  case atStart => exact ⟨-1, by omega, by omega, rfl, Below.refl _ _⟩
  case round =>
    obtain ⟨j, hj1, hj2, rfl, hbr⟩ := hrel
    have BR := Lib.hid hbr
    have NR := Lib.hid ((hbr.block b (Array.getElem?_eq_some_iff.1 N0.out).1).trans N0.out)
    have LR := Lib.hid (HIN.out.kp (Ev.kp_below hbr)); have TR := Lib.hid (HNT.out.kp hbr)
    have c1 : wr.cell? ⟨b, 1, none⟩ = some (.slice a l.length c) := by rw [cell_of_row _ _ _ _ _ _ NR.out]; rfl
    clear hbr
    by_cases hlt : j ≤ 5
    · have hal : (toL j l).length ≤ 1100 := Nat.le_trans (List.length_filter_le _ _) (by omega)
      have hok : ∀ x ∈ toL j l, Ok x := fun x hx => HIN.out.ok x (List.mem_filter.1 hx).1
      have HSM := Lib.hid (show sameLs (toL j l) (toL j l) = true from (sameLs_iff hok hok).2 rfl)
      have KT := Lib.hid (show ∀ W, Below wr.heap.size wr W → Calls Try.prog 34 #[.pointer (some ⟨p, 0, none⟩), .int .i64 j] W fun e w' => Told W w' e (toL j l) from fun W hW => to_any j W (TR.out.kp hW))
      clear hok
      go_wp2_with fail
      refine Og.region3 (by kernel_rfl) (fun t => ([(10, 0), (11, 1), (12, 2), (13, 3), (14, 4), (15, 5), (16, 6), (17, 7)] : List (Nat × Nat)).lookup t) [.is (.pointer (some ⟨p, 0, none⟩)), .is (.int .i64 j), .says (fun v w => ∃ a' c', v = .slice a' (toL j l).length c' ∧ LsIn w a' c' (toL j l)), .is (.agg #[.int .i64 (most : Int), .slice a l.length c]), .is (.int .i64 j), .says (fun v w => ∃ a' c', v = .slice a' (toL j l).length c' ∧ LsIn w a' c' (toL j l)), .is (.bool true), .is (.bool false)] [true, true, true, true, true, true, true, true] (by kernel_rfl) ?_ ?_
      · refine ⟨?_, ?_, ?_, ?_, ?_, ?_, ?_, ?_, trivial⟩
        · refine ⟨rfl, fun ρ w1 hr hd => ?_⟩
          obtain ⟨d0, _⟩ := hd
          have d0 : ρ (.tmp 0) = .pointer (some ⟨p, 0, none⟩) := d0
          refine (if_pos (by rfl)).mpr ?_
          refine Og.gives_is (.pointer (some ⟨p, 0, none⟩)) ?_ (And.intro (Below.refl _ _) rfl)
          go_simp
        · refine ⟨rfl, fun ρ w1 hr hd => ?_⟩
          obtain ⟨d0, _⟩ := hd
          have d0 : ρ (.tmp 5) = .int .i64 j := d0
          refine (if_pos (by rfl)).mpr ?_
          refine Og.gives_is (.int .i64 j) ?_ (And.intro (Below.refl _ _) rfl)
          go_simp
        · refine ⟨rfl, fun ρ w1 hr hd => ?_⟩
          obtain ⟨d0, d1, d2, _⟩ := hd
          have d0 : ρ (.func 34) = .func (.func 34) #[] #[] := d0
          have d1 : ρ (.tmp 10) = .pointer (some ⟨p, 0, none⟩) := d1
          have d2 : ρ (.tmp 11) = .int .i64 j := d2
          refine (if_pos (by rfl)).mpr ?_
          refine Og.gives_call 34 #[.pointer (some ⟨p, 0, none⟩), .int .i64 j] ?_ ?_
          · go_simp
          · refine (KT.out w1 hr).mono ?_
            rintro e' w3 ht
            obtain ⟨a', c', rfl, hl, hb⟩ := ht.ls
            exact ⟨_, rfl, hb, w3, Below.refl _ _, a', c', rfl, hl⟩
        · refine ⟨rfl, fun ρ w1 hr hd => ?_⟩
          obtain ⟨d0, _⟩ := hd
          have d0 : ρ (.tmp 3) = .pointer (some ⟨b, 0, none⟩) := d0
          refine (if_pos (by rfl)).mpr ?_
          refine Og.gives_is (.agg #[.int .i64 (most : Int), .slice a l.length c]) ?_ (And.intro (Below.refl _ _) rfl)
          exact Og.load_run 76 (.tmp 3) rfl ⟨b, 0, none⟩ d0 (run_loadVar_row w1 b 76 76 _ (0, 0) _ ((hr.block b (Array.getElem?_eq_some_iff.1 NR.out).1).trans NR.out) Try.underlying76 rfl (by kernel_rfl))
        · refine ⟨rfl, fun ρ w1 hr hd => ?_⟩
          obtain ⟨d0, _⟩ := hd
          have d0 : ρ (.tmp 5) = .int .i64 j := d0
          refine (if_pos (by rfl)).mpr ?_
          refine Og.gives_is (.int .i64 j) ?_ (And.intro (Below.refl _ _) rfl)
          go_simp
        · refine ⟨rfl, fun ρ w1 hr hd => ?_⟩
          obtain ⟨d0, d1, d2, _⟩ := hd
          have d0 : ρ (.func 67) = .func (.func 67) #[] #[] := d0
          have d1 : ρ (.tmp 13) = .agg #[.int .i64 (most : Int), .slice a l.length c] := d1
          have d2 : ρ (.tmp 14) = .int .i64 j := d2
          refine (if_pos (by rfl)).mpr ?_
          refine Og.gives_call 67 #[.agg #[.int .i64 (most : Int), .slice a l.length c], .int .i64 j] ?_ ?_
          · go_simp
          · refine (rto_any most a c l j w1 (LR.out.kp (Ev.kp_below hr)) hl).mono ?_
            rintro e' w3 ht
            obtain ⟨a', c', rfl, hl, hb⟩ := ht.ls
            exact ⟨_, rfl, hb, w3, Below.refl _ _, a', c', rfl, hl⟩
        · refine ⟨rfl, fun ρ w1 hr hd => ?_⟩
          obtain ⟨d0, d1, d2, _⟩ := hd
          have d0 : ρ (.func 41) = .func (.func 41) #[] #[] := d0
          have d1 : ∃ w1', Below w1'.heap.size w1' w1 ∧ (fun v w => ∃ a' c', v = .slice a' (toL j l).length c' ∧ LsIn w a' c' (toL j l)) (ρ (.tmp 12)) w1' := d1
          obtain ⟨v1, hv1⟩ : ∃ v, ρ (.tmp 12) = v := ⟨_, rfl⟩
          rw [hv1] at d1
          have d2 : ∃ w1', Below w1'.heap.size w1' w1 ∧ (fun v w => ∃ a' c', v = .slice a' (toL j l).length c' ∧ LsIn w a' c' (toL j l)) (ρ (.tmp 15)) w1' := d2
          obtain ⟨v2, hv2⟩ : ∃ v, ρ (.tmp 15) = v := ⟨_, rfl⟩
          rw [hv2] at d2
          refine (if_pos (by rfl)).mpr ?_
          obtain ⟨u1, hu1, a1, c1', e1, hl1⟩ := d1
          obtain ⟨u2, hu2, a2, c2, e2, hl2⟩ := d2
          subst e1
          subst e2
          refine Og.gives_call 41 #[.slice a1 (toL j l).length c1', .slice a2 (toL j l).length c2] ?_ ?_
          · go_simp
          · refine (rsame_any a1 a2 c1' c2 (toL j l) (toL j l) hal hal w1 (hl1.kp (Ev.kp_below hu1)) (hl2.kp (Ev.kp_below hu2))).mono ?_
            rintro e' w3 ⟨rfl, hb⟩
            exact ⟨_, rfl, hb, by rw [HSM.out]; rfl⟩
        · refine ⟨rfl, fun ρ w1 hr hd => ?_⟩
          obtain ⟨d0, _⟩ := hd
          have d0 : ρ (.tmp 16) = .bool true := d0
          refine (if_pos (by rfl)).mpr ?_
          refine Og.gives_is (.bool false) ?_ (And.intro (Below.refl _ _) rfl)
          go_simp
      · intro vs w1 hbz hall
        have e0 : vs 0 = .pointer (some ⟨p, 0, none⟩) := hall 0 _ 10 rfl rfl
        have e1 : vs 1 = .int .i64 j := hall 1 _ 11 rfl rfl
        have h2 : ∃ w1', Below w1'.heap.size w1' w1 ∧ (fun v w => ∃ a' c', v = .slice a' (toL j l).length c' ∧ LsIn w a' c' (toL j l)) (vs 2) w1' := hall 2 _ 12 rfl rfl
        obtain ⟨wz2, hz2, p2⟩ := h2
        have e3 : vs 3 = .agg #[.int .i64 (most : Int), .slice a l.length c] := hall 3 _ 13 rfl rfl
        have e4 : vs 4 = .int .i64 j := hall 4 _ 14 rfl rfl
        have h5 : ∃ w1', Below w1'.heap.size w1' w1 ∧ (fun v w => ∃ a' c', v = .slice a' (toL j l).length c' ∧ LsIn w a' c' (toL j l)) (vs 5) w1' := hall 5 _ 15 rfl rfl
        obtain ⟨wz5, hz5, p5⟩ := h5
        have e6 : vs 6 = .bool true := hall 6 _ 16 rfl rfl
        have e7 : vs 7 = .bool false := hall 7 _ 17 rfl rfl
        have HBZ := Lib.hid hbz
        simp only [Og.putAll, Act.put, List.setIfInBounds_toArray, List.set_cons_zero, List.set_cons_succ, Nat.zero_add, Nat.reduceAdd, e0, e1, e3, e4, e6, e7]
        clear hall hbz
        go_wp2_with fail
        go_roundw
        case rel => exact ⟨j + 1, by omega, by omega, by go_num, BR.out.trans (HBZ.out.mono BR.out.size)⟩
        case measure => simp [intOf]; omega
    · have HSM := Lib.hid (show sameLs l l = true from (sameLs_iff HIN.out.ok HIN.out.ok).2 rfl)
      have hal : l.length ≤ 1100 := by omega
      have KA := Lib.hid (show ∀ W, Below wr.heap.size wr W → Calls Try.prog 33 #[.pointer (some ⟨p, 0, none⟩)] W fun e w' => Told W w' e l from fun W hW => ready_any W (TR.out.kp hW))
      have KN := Lib.hid (show ∀ W, Below wr.heap.size wr W → Calls Try.prog 32 #[.pointer (some ⟨p, 0, none⟩)] W fun e w' => e = .returned (.int .i64 (l.length : Int)) ∧ W = w' from fun W hW => len_any W (TR.out.kp hW))
      go_wp2_with fail
      refine Og.region3 (by kernel_rfl) (fun t => ([(18, 0), (19, 1), (20, 2), (21, 3), (22, 4), (23, 5), (24, 6), (25, 7), (26, 8), (27, 9), (28, 10), (29, 11), (30, 12), (4, 13)] : List (Nat × Nat)).lookup t) [.is (.pointer (some ⟨p, 0, none⟩)), .says (fun v w => ∃ a' c', v = .slice a' (l).length c' ∧ LsIn w a' c' (l)), .is (.pointer (some ⟨b, 1, none⟩)), .is (.slice a l.length c), .is (.bool true), .is (.bool true), .is (.pointer (some ⟨p, 0, none⟩)), .is (.int .i64 (l.length : Int)), .is (.pointer (some ⟨b, 1, none⟩)), .is (.slice a l.length c), .is (.int .i64 (l.length : Int)), .is (.bool true), .is (.bool true), .is (.bool true)] [true, true, true, true, true, true, true, true, true, true, true, true, true, true] (by kernel_rfl) ?_ ?_
      · refine ⟨?_, ?_, ?_, ?_, ?_, ?_, ?_, ?_, ?_, ?_, ?_, ?_, ?_, ?_, trivial⟩
        · refine ⟨rfl, fun ρ w1 hr hd => ?_⟩
          obtain ⟨d0, _⟩ := hd
          have d0 : ρ (.tmp 0) = .pointer (some ⟨p, 0, none⟩) := d0
          refine (if_pos (by rfl)).mpr ?_
          refine Og.gives_is (.pointer (some ⟨p, 0, none⟩)) ?_ (And.intro (Below.refl _ _) rfl)
          go_simp
        · refine ⟨rfl, fun ρ w1 hr hd => ?_⟩
          obtain ⟨d0, d1, _⟩ := hd
          have d0 : ρ (.func 33) = .func (.func 33) #[] #[] := d0
          have d1 : ρ (.tmp 18) = .pointer (some ⟨p, 0, none⟩) := d1
          refine (if_pos (by rfl)).mpr ?_
          refine Og.gives_call 33 #[.pointer (some ⟨p, 0, none⟩)] ?_ ?_
          · go_simp
          · refine (KA.out w1 hr).mono ?_
            rintro e' w3 ht
            obtain ⟨a', c', rfl, hl, hb⟩ := ht.ls
            exact ⟨_, rfl, hb, w3, Below.refl _ _, a', c', rfl, hl⟩
        · refine ⟨rfl, fun ρ w1 hr hd => ?_⟩
          obtain ⟨d0, _⟩ := hd
          have d0 : ρ (.tmp 3) = .pointer (some ⟨b, 0, none⟩) := d0
          refine (if_pos (by rfl)).mpr ?_
          refine Og.gives_is (.pointer (some ⟨b, 1, none⟩)) ?_ (And.intro (Below.refl _ _) rfl)
          go_simp
        · refine ⟨rfl, fun ρ w1 hr hd => ?_⟩
          obtain ⟨d0, _⟩ := hd
          have d0 : ρ (.tmp 20) = .pointer (some ⟨b, 1, none⟩) := d0
          refine (if_pos (by rfl)).mpr ?_
          have hc : w1.cell? ⟨b, 1, none⟩ = some (.slice a l.length c) := Ev.kp_below hr _ _ c1
          refine Og.gives_is (.slice a l.length c) ?_ (And.intro (Below.refl _ _) rfl)
          go_simp
        · refine ⟨rfl, fun ρ w1 hr hd => ?_⟩
          obtain ⟨d0, d1, d2, _⟩ := hd
          have d0 : ρ (.func 41) = .func (.func 41) #[] #[] := d0
          have d1 : ∃ w1', Below w1'.heap.size w1' w1 ∧ (fun v w => ∃ a' c', v = .slice a' (l).length c' ∧ LsIn w a' c' (l)) (ρ (.tmp 19)) w1' := d1
          obtain ⟨v1, hv1⟩ : ∃ v, ρ (.tmp 19) = v := ⟨_, rfl⟩
          rw [hv1] at d1
          have d2 : ρ (.tmp 21) = .slice a l.length c := d2
          refine (if_pos (by rfl)).mpr ?_
          obtain ⟨u1, hu1, a1, c1', e1, hl1⟩ := d1
          subst e1
          refine Og.gives_call 41 #[.slice a1 (l).length c1', .slice a (l).length c] ?_ ?_
          · go_simp
          · refine (rsame_any a1 a c1' c (l) (l) hal hal w1 (hl1.kp (Ev.kp_below hu1)) (LR.out.kp (Ev.kp_below hr))).mono ?_
            rintro e' w3 ⟨rfl, hb⟩
            exact ⟨_, rfl, hb, by rw [HSM.out]; rfl⟩
        · refine ⟨rfl, fun ρ w1 hr hd => ?_⟩
          obtain ⟨d0, _⟩ := hd
          have d0 : ρ (.tmp 22) = .bool true := d0
          refine (if_pos (by rfl)).mpr ?_
          refine Og.gives_is (.bool true) ?_ (And.intro (Below.refl _ _) rfl)
          go_simp
        · refine ⟨fun v w hv => by (have hv' : v = .bool true := hv); subst hv'; exact (if_pos rfl).mpr rfl, fun ρ w1 hr hd => ?_⟩
          obtain ⟨d0, _⟩ := hd
          have d0 : ρ (.tmp 0) = .pointer (some ⟨p, 0, none⟩) := d0
          refine (if_pos (by rfl)).mpr ?_
          refine Og.gives_is (.pointer (some ⟨p, 0, none⟩)) ?_ (And.intro (Below.refl _ _) rfl)
          go_simp
        · refine ⟨fun v w hv => by (have hv' : v = .bool true := hv); subst hv'; exact (if_pos rfl).mpr rfl, fun ρ w1 hr hd => ?_⟩
          obtain ⟨d0, d1, _⟩ := hd
          have d0 : ρ (.func 32) = .func (.func 32) #[] #[] := d0
          have d1 : ρ (.tmp 24) = .pointer (some ⟨p, 0, none⟩) := d1
          refine (if_pos (by rfl)).mpr ?_
          refine Og.gives_call 32 #[.pointer (some ⟨p, 0, none⟩)] ?_ ?_
          · go_simp
          · refine (KN.out w1 hr).mono ?_
            rintro e' w3 ⟨rfl, hw⟩
            subst hw
            exact ⟨_, rfl, Below.refl _ _, rfl⟩
        · refine ⟨fun v w hv => by (have hv' : v = .bool true := hv); subst hv'; exact (if_pos rfl).mpr rfl, fun ρ w1 hr hd => ?_⟩
          obtain ⟨d0, _⟩ := hd
          have d0 : ρ (.tmp 3) = .pointer (some ⟨b, 0, none⟩) := d0
          refine (if_pos (by rfl)).mpr ?_
          refine Og.gives_is (.pointer (some ⟨b, 1, none⟩)) ?_ (And.intro (Below.refl _ _) rfl)
          go_simp
        · refine ⟨fun v w hv => by (have hv' : v = .bool true := hv); subst hv'; exact (if_pos rfl).mpr rfl, fun ρ w1 hr hd => ?_⟩
          obtain ⟨d0, _⟩ := hd
          have d0 : ρ (.tmp 26) = .pointer (some ⟨b, 1, none⟩) := d0
          refine (if_pos (by rfl)).mpr ?_
          have hc : w1.cell? ⟨b, 1, none⟩ = some (.slice a l.length c) := Ev.kp_below hr _ _ c1
          refine Og.gives_is (.slice a l.length c) ?_ (And.intro (Below.refl _ _) rfl)
          go_simp
        · refine ⟨fun v w hv => by (have hv' : v = .bool true := hv); subst hv'; exact (if_pos rfl).mpr rfl, fun ρ w1 hr hd => ?_⟩
          obtain ⟨d0, _⟩ := hd
          have d0 : ρ (.tmp 27) = .slice a l.length c := d0
          refine (if_pos (by rfl)).mpr ?_
          refine Og.gives_is (.int .i64 (l.length : Int)) ?_ (And.intro (Below.refl _ _) rfl)
          go_simp
        · refine ⟨fun v w hv => by (have hv' : v = .bool true := hv); subst hv'; exact (if_pos rfl).mpr rfl, fun ρ w1 hr hd => ?_⟩
          obtain ⟨d0, d1, _⟩ := hd
          have d0 : ρ (.tmp 25) = .int .i64 (l.length : Int) := d0
          have d1 : ρ (.tmp 28) = .int .i64 (l.length : Int) := d1
          refine (if_pos (by rfl)).mpr ?_
          refine Og.gives_is (.bool true) ?_ (And.intro (Below.refl _ _) rfl)
          simp only [execOp, d0, d1]; go_simp; try simp
        · refine ⟨rfl, fun ρ w1 hr hd => ?_⟩
          obtain ⟨d0, d1, d2, _⟩ := hd
          have d0 : ρ (.tmp 23) = .bool true := d0
          have d1 : ρ (.tmp 29) = .bool true := d1
          have d2 : ρ (.const (Value.bool false)) = (Value.bool false) := d2
          refine (if_pos (by rfl)).mpr ?_
          refine Og.gives_is (.bool true) ?_ (And.intro (Below.refl _ _) rfl)
          go_simp
        · refine ⟨rfl, fun ρ w1 hr hd => ?_⟩
          obtain ⟨d0, _⟩ := hd
          have d0 : ρ (.tmp 30) = .bool true := d0
          refine (if_pos (by rfl)).mpr ?_
          refine Og.gives_is (.bool true) ?_ (And.intro (Below.refl _ _) rfl)
          go_simp
      · intro vs w1 hbz hall
        have e0 : vs 0 = .pointer (some ⟨p, 0, none⟩) := hall 0 _ 18 rfl rfl
        have h1 : ∃ w1', Below w1'.heap.size w1' w1 ∧ (fun v w => ∃ a' c', v = .slice a' (l).length c' ∧ LsIn w a' c' (l)) (vs 1) w1' := hall 1 _ 19 rfl rfl
        obtain ⟨wz1, hz1, p1⟩ := h1
        have e2 : vs 2 = .pointer (some ⟨b, 1, none⟩) := hall 2 _ 20 rfl rfl
        have e3 : vs 3 = .slice a l.length c := hall 3 _ 21 rfl rfl
        have e4 : vs 4 = .bool true := hall 4 _ 22 rfl rfl
        have e5 : vs 5 = .bool true := hall 5 _ 23 rfl rfl
        have e6 : vs 6 = .pointer (some ⟨p, 0, none⟩) := hall 6 _ 24 rfl rfl
        have e7 : vs 7 = .int .i64 (l.length : Int) := hall 7 _ 25 rfl rfl
        have e8 : vs 8 = .pointer (some ⟨b, 1, none⟩) := hall 8 _ 26 rfl rfl
        have e9 : vs 9 = .slice a l.length c := hall 9 _ 27 rfl rfl
        have e10 : vs 10 = .int .i64 (l.length : Int) := hall 10 _ 28 rfl rfl
        have e11 : vs 11 = .bool true := hall 11 _ 29 rfl rfl
        have e12 : vs 12 = .bool true := hall 12 _ 30 rfl rfl
        have e13 : vs 13 = .bool true := hall 13 _ 4 rfl rfl
        have HBZ := Lib.hid hbz
        simp only [Og.putAll, Act.put, List.setIfInBounds_toArray, List.set_cons_zero, List.set_cons_succ, Nat.zero_add, Nat.reduceAdd, e0, e2, e3, e4, e5, e6, e7, e8, e9, e10, e11, e12, e13]
        clear hall hbz
        go_wp2_with fail
        go_ret
        exact ⟨rfl, B0.out.trans ((BR.out.trans (HBZ.out.mono BR.out.size)).mono B0.out.size)⟩
end Nt
end Go.Proofs.Ytnfpcklpmfemiaa
