/-
  The contract of the laws' is: a cache that has a list has it in all its ways.
-/
import Derived.Test.YtifniogldinbdaaLnRl
import Derived.Test.YtifniogldinbdaaLnMk
namespace Go.Proofs.Ytifniogldinbdaa
open Go.RowKit
set_option linter.unusedVariables false
set_option linter.unusedSimpArgs false
namespace Ln
theorem allL_rows (l : List E) (s : Nat) : (rows l s).flatten = allL l s s := rfl
end Ln
set_option maxRecDepth 100000 in
set_option maxHeartbeats 8000000 in
theorem is_any (s ways : Nat) (a : Option Addr) (c : Nat) (l : List Ln.E) (w : World) (h : Ln.RIn w s ways a c l) (hrl : Ln.Rl s ways l) {F p} (hca : Ln.Cache w F p ways (Ln.rows l s)) :
    Calls Try.prog 23 #[.pointer (some ⟨p, 0, none⟩), .agg #[.int .i64 (s : Int), .int .i64 (ways : Int), .slice a l.length c]] w fun e w' => e = .returned (.bool true) ∧ Below w.heap.size w w' := by
  have hlen := h.len
  obtain ⟨b, hb⟩ : ∃ b, b = w.heap.size := ⟨_, rfl⟩
  obtain ⟨B, hB⟩ : ∃ B, B = w.alloc (.cells #[.int .i64 (s : Int), .int .i64 (ways : Int), .slice a l.length c] 46) := ⟨_, rfl⟩
  have RB := Lib.hid (show Ln.RBox w B b s ways a c l by rw [hB, hb]; exact Ln.rbox h)
  have CB := Lib.hid (hca.kp (show Below w.heap.size w B by rw [hB]; exact (Below.refl _ _).alloc (Nat.le_refl _) _))
  have HB := Lib.hid hB; have Hb := Lib.hid hb; have HRL := Lib.hid hrl
  have hs0 := hrl.s0
  clear h hb hB hrl hca
  go_enter Try.func23, Try.ntmps23
  go_wp2_with fail
  rw [← HB.out, ← Hb.out]
  go_loopw [5, 6, 7] (fun i _ _ wr => ∃ k : Nat, k ≤ l.length ∧ i = .int .i64 (k : Int) ∧ Ln.RBox w wr b s ways a c l ∧ Ln.Cache wr F p ways (Ln.rows l s)) (fun i _ _ _ => l.length - (intOf i).toNat)
  case atStart => exact ⟨0, Nat.zero_le _, rfl, RB.out, CB.out⟩
  case round =>
    obtain ⟨k, hk, rfl, hrb, hca⟩ := hrel
    have RR := Lib.hid hrb; have CA := Lib.hid hca
    have c2 := hrb.c2
    clear hrb hca
    by_cases hlt : k < l.length
    · obtain ⟨m, hm⟩ : ∃ m, l[k]? = some m := ⟨_, List.getElem?_eq_getElem hlt⟩
      have HOK := Lib.hid (RR.out.rin.ls.ok_ hm)
      obtain ⟨ga, o, ea, hc⟩ := RR.out.rinB.ls.at_ hm
      have HC := Lib.hid hc
      have hki : (k : Int) < (l.length : Int) := by omega
      have cc := hc 0 _ (Ln.cell0 m)
      rw [Nat.add_zero] at cc
      have KF := Lib.hid (show Calls Try.prog 11 #[.pointer (some ⟨p, 0, none⟩), .int .u32 m.n] wr fun e w' => e = .returned (.tuple #[.agg (Ln.cells m).toArray, .bool true]) ∧ Below wr.heap.size wr w' from by
        have h1 := find_any m.n HOK.out.n wr CA.out
        rw [Ln.rowQ_rows l s hs0, Ln.fd_ofL, Ln.fd_self HRL.out.nd hm] at h1
        exact h1)
      clear hm hc
      subst ea
      go_wp2_with (first
        | (go_at_call 11; (with_reducible refine KF.out.mono ?_); rintro e' W2 ⟨rfl, hb2⟩
           have R2 := Lib.hid (RR.out.kp hb2); have C2 := Lib.hid (CA.out.kp hb2)
           have HC2 := Lib.hid (fun i x hx => Ev.kp_below hb2 _ _ (HC.out i x hx))
           clear hb2)
        | ((with_reducible show wpList _ _ _ (Oper.mk none (Op.store 30 _ _) _ _ _ _ :: _) _ _); refine wpList_store_own rfl 30 (.tmp 6) (.tmp 24) rfl W2.heap.size (Ln.cells m).toArray rfl rfl 30 #[.int .u32 0, .int .i64 0, .int .u8 0, .int .u8 0, .int .u8 0, .int .u8 0, .int .u8 0, .int .u8 0, .int .u8 0, .int .u8 0, .int .u8 0, .int .u8 0, .int .u8 0, .int .u8 0, .int .u8 0, .int .u8 0, .int .u8 0, .int .u8 0] (heap_alloc_new W2 _) (by rw [HOK.out.size]; exact Ln.size_line) (by rw [HOK.out.size]; rfl) (Ln.cells_all m) ?_
           intro W3 HW3
           have B23 := Lib.hid (show Below W2.heap.size W2 W3 from ((Below.refl W2.heap.size W2).alloc (Nat.le_refl _) _).trans HW3.below)
           have R3 := Lib.hid HW3.row
           clear HW3
           refine Ln.Stop.out ?_))
      refine ⟨?_⟩
      have RR3 := Lib.hid (R2.out.kp B23.out); have C3 := Lib.hid (C2.out.kp B23.out)
      have HC3 := Lib.hid (fun i x hx => Ev.kp_below B23.out _ _ (HC2.out i x hx))
      obtain ⟨fb, hfb⟩ : ∃ fb, fb = W2.heap.size := ⟨_, rfl⟩
      rw [← hfb] at R3 ⊢
      clear c2 cc hfb
      have c2 := RR3.out.c2
      go_wp2_with fail
      refine Og.region3 (by kernel_rfl) (fun t => ([(26, 0), (27, 1), (28, 2), (29, 3), (30, 4), (31, 5), (32, 6), (33, 7), (34, 8), (35, 9), (36, 10)] : List (Nat × Nat)).lookup t) [.is (.agg (Ln.cells m).toArray), .is (.pointer (some ⟨b, 2, none⟩)), .is (.slice (some ⟨ga, o, none⟩) l.length c), .is (.int .i64 (k : Int)), .is (.pointer (some ⟨ga, o + k * 18, none⟩)), .is (.agg (Ln.cells m).toArray), .is (.bool false), .is (.bool false), .is (.bool true), .is (.bool false), .is (.bool false)] [true, true, true, true, true, true, true, true, true, true, true] (by kernel_rfl) ?_ ?_
      · refine ⟨?_, ?_, ?_, ?_, ?_, ?_, ?_, ?_, ?_, ?_, ?_, trivial⟩
        · refine ⟨rfl, fun ρ w1 hr hd => ?_⟩
          obtain ⟨d0, _⟩ := hd
          have d0 : ρ (.tmp 6) = .pointer (some ⟨fb, 0, none⟩) := d0
          refine (if_pos (by rfl)).mpr ?_
          refine Og.gives_is (.agg (Ln.cells m).toArray) ?_ (And.intro (Below.refl _ _) rfl)
          exact Og.load_run 30 (.tmp 6) rfl ⟨fb, 0, none⟩ d0 (run_loadVar_row w1 fb 30 30 _ (0, 0) _ ((hr.block fb (Array.getElem?_eq_some_iff.1 R3.out).1).trans R3.out) Try.underlying30 rfl (by rw [HOK.out.size]; exact Ln.size_line))
        · refine ⟨rfl, fun ρ w1 hr hd => ?_⟩
          obtain ⟨d0, _⟩ := hd
          have d0 : ρ (.tmp 3) = .pointer (some ⟨b, 0, none⟩) := d0
          refine (if_pos (by rfl)).mpr ?_
          refine Og.gives_is (.pointer (some ⟨b, 2, none⟩)) ?_ (And.intro (Below.refl _ _) rfl)
          go_simp
        · refine ⟨rfl, fun ρ w1 hr hd => ?_⟩
          obtain ⟨d0, _⟩ := hd
          have d0 : ρ (.tmp 27) = .pointer (some ⟨b, 2, none⟩) := d0
          refine (if_pos (by rfl)).mpr ?_
          have hc : w1.cell? ⟨b, 2, none⟩ = some (.slice (some ⟨ga, o, none⟩) l.length c) := Ev.kp_below hr _ _ c2
          refine Og.gives_is (.slice (some ⟨ga, o, none⟩) l.length c) ?_ (And.intro (Below.refl _ _) rfl)
          go_simp
        · refine ⟨rfl, fun ρ w1 hr hd => ?_⟩
          obtain ⟨d0, _⟩ := hd
          have d0 : ρ (.tmp 5) = .int .i64 (k : Int) := d0
          refine (if_pos (by rfl)).mpr ?_
          refine Og.gives_is (.int .i64 (k : Int)) ?_ (And.intro (Below.refl _ _) rfl)
          go_simp
        · refine ⟨rfl, fun ρ w1 hr hd => ?_⟩
          obtain ⟨d0, d1, _⟩ := hd
          have d0 : ρ (.tmp 28) = .slice (some ⟨ga, o, none⟩) l.length c := d0
          have d1 : ρ (.tmp 29) = .int .i64 (k : Int) := d1
          refine (if_pos (by rfl)).mpr ?_
          refine Og.gives_is (.pointer (some ⟨ga, o + k * 18, none⟩)) ?_ (And.intro (Below.refl _ _) rfl)
          go_simp
        · refine ⟨rfl, fun ρ w1 hr hd => ?_⟩
          obtain ⟨d0, _⟩ := hd
          have d0 : ρ (.tmp 30) = .pointer (some ⟨ga, o + k * 18, none⟩) := d0
          refine (if_pos (by rfl)).mpr ?_
          refine Og.gives_is (.agg (Ln.cells m).toArray) ?_ (And.intro (Below.refl _ _) rfl)
          exact Og.load_run 30 (.tmp 30) rfl ⟨ga, o + k * 18, none⟩ d0 (run_loadVar_at w1 ga (o + k * 18) 30 (Ln.cells m) _ (fun i c hi => Ev.kp_below hr _ _ (HC3.out i c hi)) Try.underlying30 rfl (by rw [HOK.out.len]; exact Ln.size_line))
        · refine ⟨rfl, fun ρ w1 hr hd => ?_⟩
          obtain ⟨d0, d1, _⟩ := hd
          have d0 : ρ (.tmp 26) = .agg (Ln.cells m).toArray := d0
          have d1 : ρ (.tmp 31) = .agg (Ln.cells m).toArray := d1
          refine (if_pos (by rfl)).mpr ?_
          refine Og.gives_is (.bool false) ?_ (And.intro (Below.refl _ _) rfl)
          exact Ln.neq_op (a := m) (b := m) (.tmp 26) (.tmp 31) rfl HOK.out HOK.out d0 d1 false (by rw [Ln.eqL_self HOK.out]; rfl) w1
        · refine ⟨rfl, fun ρ w1 hr hd => ?_⟩
          obtain ⟨d0, _⟩ := hd
          have d0 : ρ (.tmp 32) = .bool false := d0
          refine (if_pos (by rfl)).mpr ?_
          refine Og.gives_is (.bool false) ?_ (And.intro (Below.refl _ _) rfl)
          go_simp
        · refine ⟨fun v w hv => by (have hv' : v = .bool false := hv); subst hv'; exact (if_pos rfl).mpr rfl, fun ρ w1 hr hd => ?_⟩
          obtain ⟨d0, _⟩ := hd
          have d0 : ρ (.tmp 7) = .bool true := d0
          refine (if_pos (by rfl)).mpr ?_
          refine Og.gives_is (.bool true) ?_ (And.intro (Below.refl _ _) rfl)
          go_simp
        · refine ⟨fun v w hv => by (have hv' : v = .bool false := hv); subst hv'; exact (if_pos rfl).mpr rfl, fun ρ w1 hr hd => ?_⟩
          obtain ⟨d0, _⟩ := hd
          have d0 : ρ (.tmp 34) = .bool true := d0
          refine (if_pos (by rfl)).mpr ?_
          refine Og.gives_is (.bool false) ?_ (And.intro (Below.refl _ _) rfl)
          go_simp
        · refine ⟨rfl, fun ρ w1 hr hd => ?_⟩
          obtain ⟨d0, d1, d2, _⟩ := hd
          have d0 : ρ (.tmp 33) = .bool false := d0
          have d1 : ρ (.const (Value.bool true)) = (Value.bool true) := d1
          have d2 : ρ (.tmp 35) = .bool false := d2
          refine (if_pos (by rfl)).mpr ?_
          refine Og.gives_is (.bool false) ?_ (And.intro (Below.refl _ _) rfl)
          go_simp
      · intro vs w1 hbz hall
        have e0 : vs 0 = .agg (Ln.cells m).toArray := hall 0 _ 26 rfl rfl
        have e1 : vs 1 = .pointer (some ⟨b, 2, none⟩) := hall 1 _ 27 rfl rfl
        have e2 : vs 2 = .slice (some ⟨ga, o, none⟩) l.length c := hall 2 _ 28 rfl rfl
        have e3 : vs 3 = .int .i64 (k : Int) := hall 3 _ 29 rfl rfl
        have e4 : vs 4 = .pointer (some ⟨ga, o + k * 18, none⟩) := hall 4 _ 30 rfl rfl
        have e5 : vs 5 = .agg (Ln.cells m).toArray := hall 5 _ 31 rfl rfl
        have e6 : vs 6 = .bool false := hall 6 _ 32 rfl rfl
        have e7 : vs 7 = .bool false := hall 7 _ 33 rfl rfl
        have e8 : vs 8 = .bool true := hall 8 _ 34 rfl rfl
        have e9 : vs 9 = .bool false := hall 9 _ 35 rfl rfl
        have e10 : vs 10 = .bool false := hall 10 _ 36 rfl rfl
        have HBZ := Lib.hid hbz
        simp only [Og.putAll, Act.put, List.setIfInBounds_toArray, List.set_cons_zero, List.set_cons_succ, Nat.zero_add, Nat.reduceAdd, e0, e1, e2, e3, e4, e5, e6, e7, e8, e9, e10]
        clear hall hbz
        go_wp2_with fail
        go_roundw
        case rel => exact ⟨k + 1, by omega, by go_num, RR3.out.kp HBZ.out, C3.out.kp HBZ.out⟩
        case measure => simp [intOf]; omega
    · have hki : ¬ (k : Int) < (l.length : Int) := by omega
      have HSM := Lib.hid (show Ln.sameLs (Ln.allL l s s) (Ln.allL l s s) = true from (Ln.sameLs_iff (Ln.allL_ok HRL.out.ok s s) (Ln.allL_ok HRL.out.ok s s)).2 rfl)
      have hal : (Ln.allL l s s).length ≤ 600 := by rw [← Ln.allL_rows, Ln.flat_rows_len l s hs0]; omega
      have KA := Lib.hid (show ∀ W, Below wr.heap.size wr W → Calls Try.prog 17 #[.pointer (some ⟨p, 0, none⟩)] W fun e w' => Ln.Told W w' e (Ln.allL l s s) from fun W hW => gather_any W (CA.out.kp hW))
      have KN := Lib.hid (show ∀ W, Below wr.heap.size wr W → Calls Try.prog 16 #[.pointer (some ⟨p, 0, none⟩)] W fun e w' => e = .returned (.int .i64 (l.length : Int)) ∧ Below W.heap.size W w' from fun W hW => by
        have h1 := len_any W (CA.out.kp hW)
        rw [Ln.flat_rows_len l s hs0] at h1
        exact h1)
      go_wp2_with fail
      refine Og.region3 (by kernel_rfl) (fun t => ([(37, 0), (38, 1), (39, 2), (40, 3), (41, 4), (42, 5), (43, 6), (44, 7), (45, 8), (46, 9), (47, 10), (48, 11), (49, 12), (4, 13)] : List (Nat × Nat)).lookup t) [.is (.pointer (some ⟨p, 0, none⟩)), .says (fun v w => ∃ a' c', v = .slice a' (Ln.allL l s s).length c' ∧ Ln.LsIn w a' c' (Ln.allL l s s)), .is (.agg #[.int .i64 (s : Int), .int .i64 (ways : Int), .slice a l.length c]), .says (fun v w => ∃ a' c', v = .slice a' (Ln.allL l s s).length c' ∧ Ln.LsIn w a' c' (Ln.allL l s s)), .is (.bool true), .is (.bool true), .is (.pointer (some ⟨p, 0, none⟩)), .is (.int .i64 (l.length : Int)), .is (.pointer (some ⟨b, 2, none⟩)), .is (.slice a l.length c), .is (.int .i64 (l.length : Int)), .is (.bool true), .is (.bool true), .is (.bool true)] [true, true, true, true, true, true, true, true, true, true, true, true, true, true] (by kernel_rfl) ?_ ?_
      · refine ⟨?_, ?_, ?_, ?_, ?_, ?_, ?_, ?_, ?_, ?_, ?_, ?_, ?_, ?_, trivial⟩
        · refine ⟨rfl, fun ρ w1 hr hd => ?_⟩
          obtain ⟨d0, _⟩ := hd
          have d0 : ρ (.tmp 0) = .pointer (some ⟨p, 0, none⟩) := d0
          refine (if_pos (by rfl)).mpr ?_
          refine Og.gives_is (.pointer (some ⟨p, 0, none⟩)) ?_ (And.intro (Below.refl _ _) rfl)
          go_simp
        · refine ⟨rfl, fun ρ w1 hr hd => ?_⟩
          obtain ⟨d0, d1, _⟩ := hd
          have d0 : ρ (.func 17) = .func (.func 17) #[] #[] := d0
          have d1 : ρ (.tmp 37) = .pointer (some ⟨p, 0, none⟩) := d1
          refine (if_pos (by rfl)).mpr ?_
          refine Og.gives_call 17 #[.pointer (some ⟨p, 0, none⟩)] ?_ ?_
          · go_simp
          · refine (KA.out w1 hr).mono ?_
            rintro e' w3 ⟨a', c', rfl, ho, hok', hb⟩
            obtain ⟨a2, c2, e2, hl⟩ := Ln.own_in ho hok'
            obtain ⟨rfl, rfl⟩ : a' = a2 ∧ c' = c2 := by injection e2 with e1 _ e3; exact ⟨e1, e3⟩
            exact ⟨_, rfl, hb, w3, Below.refl _ _, a', c', rfl, hl⟩
        · refine ⟨rfl, fun ρ w1 hr hd => ?_⟩
          obtain ⟨d0, _⟩ := hd
          have d0 : ρ (.tmp 3) = .pointer (some ⟨b, 0, none⟩) := d0
          refine (if_pos (by rfl)).mpr ?_
          refine Og.gives_is (.agg #[.int .i64 (s : Int), .int .i64 (ways : Int), .slice a l.length c]) ?_ (And.intro (Below.refl _ _) rfl)
          exact Og.load_run 46 (.tmp 3) rfl ⟨b, 0, none⟩ d0 (run_loadVar_row w1 b 46 46 _ (0, 0) _ ((hr.block b (Array.getElem?_eq_some_iff.1 RR.out.row).1).trans RR.out.row) Try.underlying46 rfl (by kernel_rfl))
        · refine ⟨rfl, fun ρ w1 hr hd => ?_⟩
          obtain ⟨d0, d1, _⟩ := hd
          have d0 : ρ (.func 30) = .func (.func 30) #[] #[] := d0
          have d1 : ρ (.tmp 39) = .agg #[.int .i64 (s : Int), .int .i64 (ways : Int), .slice a l.length c] := d1
          refine (if_pos (by rfl)).mpr ?_
          refine Og.gives_call 30 #[.agg #[.int .i64 (s : Int), .int .i64 (ways : Int), .slice a l.length c]] ?_ ?_
          · go_simp
          · refine (rall_any s ways a c l w1 (RR.out.rinB.kp (Ev.kp_below hr))).mono ?_
            rintro e' w3 ⟨a', c', rfl, ho, hb⟩
            obtain ⟨a2, c2, e2, hl⟩ := Ln.own_in ho (Ln.allL_ok HRL.out.ok s s)
            obtain ⟨rfl, rfl⟩ : a' = a2 ∧ c' = c2 := by injection e2 with e1 _ e3; exact ⟨e1, e3⟩
            exact ⟨_, rfl, hb, w3, Below.refl _ _, a', c', rfl, hl⟩
        · refine ⟨rfl, fun ρ w1 hr hd => ?_⟩
          obtain ⟨d0, d1, d2, _⟩ := hd
          have d0 : ρ (.func 29) = .func (.func 29) #[] #[] := d0
          have d1 : ∃ w1', Below w1'.heap.size w1' w1 ∧ (fun v w => ∃ a' c', v = .slice a' (Ln.allL l s s).length c' ∧ Ln.LsIn w a' c' (Ln.allL l s s)) (ρ (.tmp 38)) w1' := d1
          obtain ⟨v1, hv1⟩ : ∃ v, ρ (.tmp 38) = v := ⟨_, rfl⟩
          rw [hv1] at d1
          have d2 : ∃ w1', Below w1'.heap.size w1' w1 ∧ (fun v w => ∃ a' c', v = .slice a' (Ln.allL l s s).length c' ∧ Ln.LsIn w a' c' (Ln.allL l s s)) (ρ (.tmp 40)) w1' := d2
          obtain ⟨v2, hv2⟩ : ∃ v, ρ (.tmp 40) = v := ⟨_, rfl⟩
          rw [hv2] at d2
          refine (if_pos (by rfl)).mpr ?_
          obtain ⟨u1, hu1, a1, c1', e1, hl1⟩ := d1
          obtain ⟨u2, hu2, a2, c2', e2, hl2⟩ := d2
          subst e1
          subst e2
          refine Og.gives_call 29 #[.slice a1 (Ln.allL l s s).length c1', .slice a2 (Ln.allL l s s).length c2'] ?_ ?_
          · go_simp
          · refine (rsame_any a1 a2 c1' c2' (Ln.allL l s s) (Ln.allL l s s) hal hal w1 (hl1.kp (Ev.kp_below hu1)) (hl2.kp (Ev.kp_below hu2))).mono ?_
            rintro e' w3 ⟨rfl, hb⟩
            exact ⟨_, rfl, hb, by rw [HSM.out]; rfl⟩
        · refine ⟨rfl, fun ρ w1 hr hd => ?_⟩
          obtain ⟨d0, _⟩ := hd
          have d0 : ρ (.tmp 41) = .bool true := d0
          refine (if_pos (by rfl)).mpr ?_
          refine Og.gives_is (.bool true) ?_ (And.intro (Below.refl _ _) rfl)
          go_simp
        · refine ⟨fun v w hv => by (have hv' : v = .bool true := hv); subst hv'; exact (if_pos rfl).mpr rfl, fun ρ w1 hr hd => ?_⟩
          obtain ⟨d0, _⟩ := hd
          have d0 : ρ (.tmp 0) = .pointer (some ⟨p, 0, none⟩) := d0
          refine (if_pos (by rfl)).mpr ?_
          refine Og.gives_is (.pointer (some ⟨p, 0, none⟩)) ?_ (And.intro (Below.refl _ _) rfl)
          go_simp
        · refine ⟨fun v w hv => by (have hv' : v = .bool true := hv); subst hv'; exact (if_pos rfl).mpr rfl, fun ρ w1 hr hd => ?_⟩
          obtain ⟨d0, d1, _⟩ := hd
          have d0 : ρ (.func 16) = .func (.func 16) #[] #[] := d0
          have d1 : ρ (.tmp 43) = .pointer (some ⟨p, 0, none⟩) := d1
          refine (if_pos (by rfl)).mpr ?_
          refine Og.gives_call 16 #[.pointer (some ⟨p, 0, none⟩)] ?_ ?_
          · go_simp
          · refine (KN.out w1 hr).mono ?_
            rintro e' w3 ⟨rfl, hb⟩
            exact ⟨_, rfl, hb, rfl⟩
        · refine ⟨fun v w hv => by (have hv' : v = .bool true := hv); subst hv'; exact (if_pos rfl).mpr rfl, fun ρ w1 hr hd => ?_⟩
          obtain ⟨d0, _⟩ := hd
          have d0 : ρ (.tmp 3) = .pointer (some ⟨b, 0, none⟩) := d0
          refine (if_pos (by rfl)).mpr ?_
          refine Og.gives_is (.pointer (some ⟨b, 2, none⟩)) ?_ (And.intro (Below.refl _ _) rfl)
          go_simp
        · refine ⟨fun v w hv => by (have hv' : v = .bool true := hv); subst hv'; exact (if_pos rfl).mpr rfl, fun ρ w1 hr hd => ?_⟩
          obtain ⟨d0, _⟩ := hd
          have d0 : ρ (.tmp 45) = .pointer (some ⟨b, 2, none⟩) := d0
          refine (if_pos (by rfl)).mpr ?_
          have hc : w1.cell? ⟨b, 2, none⟩ = some (.slice a l.length c) := Ev.kp_below hr _ _ c2
          refine Og.gives_is (.slice a l.length c) ?_ (And.intro (Below.refl _ _) rfl)
          go_simp
        · refine ⟨fun v w hv => by (have hv' : v = .bool true := hv); subst hv'; exact (if_pos rfl).mpr rfl, fun ρ w1 hr hd => ?_⟩
          obtain ⟨d0, _⟩ := hd
          have d0 : ρ (.tmp 46) = .slice a l.length c := d0
          refine (if_pos (by rfl)).mpr ?_
          refine Og.gives_is (.int .i64 (l.length : Int)) ?_ (And.intro (Below.refl _ _) rfl)
          go_simp
        · refine ⟨fun v w hv => by (have hv' : v = .bool true := hv); subst hv'; exact (if_pos rfl).mpr rfl, fun ρ w1 hr hd => ?_⟩
          obtain ⟨d0, d1, _⟩ := hd
          have d0 : ρ (.tmp 44) = .int .i64 (l.length : Int) := d0
          have d1 : ρ (.tmp 47) = .int .i64 (l.length : Int) := d1
          refine (if_pos (by rfl)).mpr ?_
          refine Og.gives_is (.bool true) ?_ (And.intro (Below.refl _ _) rfl)
          simp only [execOp, d0, d1]; go_simp; try simp
        · refine ⟨rfl, fun ρ w1 hr hd => ?_⟩
          obtain ⟨d0, d1, d2, _⟩ := hd
          have d0 : ρ (.tmp 42) = .bool true := d0
          have d1 : ρ (.tmp 48) = .bool true := d1
          have d2 : ρ (.const (Value.bool false)) = (Value.bool false) := d2
          refine (if_pos (by rfl)).mpr ?_
          refine Og.gives_is (.bool true) ?_ (And.intro (Below.refl _ _) rfl)
          go_simp
        · refine ⟨rfl, fun ρ w1 hr hd => ?_⟩
          obtain ⟨d0, _⟩ := hd
          have d0 : ρ (.tmp 49) = .bool true := d0
          refine (if_pos (by rfl)).mpr ?_
          refine Og.gives_is (.bool true) ?_ (And.intro (Below.refl _ _) rfl)
          go_simp
      · intro vs w1 hbz hall
        have e0 : vs 0 = .pointer (some ⟨p, 0, none⟩) := hall 0 _ 37 rfl rfl
        have h1 : ∃ w1', Below w1'.heap.size w1' w1 ∧ (fun v w => ∃ a' c', v = .slice a' (Ln.allL l s s).length c' ∧ Ln.LsIn w a' c' (Ln.allL l s s)) (vs 1) w1' := hall 1 _ 38 rfl rfl
        obtain ⟨wz1, hz1, p1⟩ := h1
        have e2 : vs 2 = .agg #[.int .i64 (s : Int), .int .i64 (ways : Int), .slice a l.length c] := hall 2 _ 39 rfl rfl
        have h3 : ∃ w1', Below w1'.heap.size w1' w1 ∧ (fun v w => ∃ a' c', v = .slice a' (Ln.allL l s s).length c' ∧ Ln.LsIn w a' c' (Ln.allL l s s)) (vs 3) w1' := hall 3 _ 40 rfl rfl
        obtain ⟨wz3, hz3, p3⟩ := h3
        have e4 : vs 4 = .bool true := hall 4 _ 41 rfl rfl
        have e5 : vs 5 = .bool true := hall 5 _ 42 rfl rfl
        have e6 : vs 6 = .pointer (some ⟨p, 0, none⟩) := hall 6 _ 43 rfl rfl
        have e7 : vs 7 = .int .i64 (l.length : Int) := hall 7 _ 44 rfl rfl
        have e8 : vs 8 = .pointer (some ⟨b, 2, none⟩) := hall 8 _ 45 rfl rfl
        have e9 : vs 9 = .slice a l.length c := hall 9 _ 46 rfl rfl
        have e10 : vs 10 = .int .i64 (l.length : Int) := hall 10 _ 47 rfl rfl
        have e11 : vs 11 = .bool true := hall 11 _ 48 rfl rfl
        have e12 : vs 12 = .bool true := hall 12 _ 49 rfl rfl
        have e13 : vs 13 = .bool true := hall 13 _ 4 rfl rfl
        have HBZ := Lib.hid hbz
        simp only [Og.putAll, Act.put, List.setIfInBounds_toArray, List.set_cons_zero, List.set_cons_succ, Nat.zero_add, Nat.reduceAdd, e0, e2, e4, e5, e6, e7, e8, e9, e10, e11, e12, e13]
        clear hall hbz
        go_wp2_with fail
        go_ret
        exact ⟨rfl, RR.out.bel.trans (HBZ.out.mono RR.out.bel.size)⟩
end Go.Proofs.Ytifniogldinbdaa
