/-
  The contract of the document's Victim.
-/
import Derived.Test.YtifniogldinbdaaLnLaw
namespace Go.Proofs.Ytifniogldinbdaa
open Go.RowKit
set_option linter.unusedVariables false
set_option linter.unusedSimpArgs false
set_option maxRecDepth 100000 in
set_option maxHeartbeats 4000000 in
theorem rvictim_any (s ways : Nat) (a : Option Addr) (c : Nat) (l : List Ln.E) (n pick : Int) (hn : Ev.u32B n) (hp : Ev.i64B pick) (w : World) (h : Ln.RIn w s ways a c l) (hrl : Ln.Rl s ways l) :
    Calls Try.prog 24 #[.agg #[.int .i64 (s : Int), .int .i64 (ways : Int), .slice a l.length c], .int .u32 n, .int .i64 pick] w fun e w' => e = .returned (Ln.optV (Ln.vic ways (Ln.rows l s) n pick)) ∧ Below w.heap.size w w' := by
  have hlen := h.len
  obtain ⟨b, hb⟩ : ∃ b, b = w.heap.size := ⟨_, rfl⟩
  obtain ⟨B1, hB1⟩ : ∃ B1, B1 = w.alloc (.cells #[.int .i64 (s : Int), .int .i64 (ways : Int), .slice a l.length c] 46) := ⟨_, rfl⟩
  obtain ⟨B, hB⟩ : ∃ B, B = B1.alloc (.cells #[.int .u32 0, .int .i64 0, .int .u8 0, .int .u8 0, .int .u8 0, .int .u8 0, .int .u8 0, .int .u8 0, .int .u8 0, .int .u8 0, .int .u8 0, .int .u8 0, .int .u8 0, .int .u8 0, .int .u8 0, .int .u8 0, .int .u8 0, .int .u8 0] 30) := ⟨_, rfl⟩
  have hs1 : B1.heap.size = b + 1 := by rw [hB1, hb]; simp
  have RB := Lib.hid (show Ln.RBox w B b s ways a c l from (show Ln.RBox w B1 b s ways a c l by rw [hB1, hb]; exact Ln.rbox h).kp (by rw [hB]; exact (Below.refl _ _).alloc (Nat.le_refl _) _))
  have RZ := Lib.hid (show B.heap[b + 1]? = some (.cells (Ln.cells Ln.E0).toArray 30 (0, 0)) by rw [hB, ← hs1]; exact heap_alloc_new _ _)
  have HBB := Lib.hid (show (w.alloc (.cells #[.int .i64 (s : Int), .int .i64 (ways : Int), .slice a l.length c] 46)).alloc (.cells #[.int .u32 0, .int .i64 0, .int .u8 0, .int .u8 0, .int .u8 0, .int .u8 0, .int .u8 0, .int .u8 0, .int .u8 0, .int .u8 0, .int .u8 0, .int .u8 0, .int .u8 0, .int .u8 0, .int .u8 0, .int .u8 0, .int .u8 0, .int .u8 0] 30) = B by rw [hB, hB1])
  have Hb := Lib.hid hb
  have HN := Lib.hid hn; have HP := Lib.hid hp
  obtain ⟨t0, ht0⟩ : ∃ t0, n.toNat % s = t0 := ⟨_, rfl⟩
  obtain ⟨q, hq⟩ : ∃ q, Ln.ofL l s t0 = q := ⟨_, rfl⟩
  have ht64 : t0 < 64 := by have := Nat.mod_lt n.toNat hrl.s0; have := hrl.s1; omega
  have hw0 := hrl.w0; have hw1 := hrl.w1
  have hfit : q.length ≤ ways := by rw [← hq]; exact hrl.fit t0
  have HQR := Lib.hid (show Ln.rowQ (Ln.rows l s) n = q by rw [Ln.rowQ_rows l s hrl.s0, ht0, hq])
  have HIX := Lib.hid (show (0 ≤ Ln.ix q n 0) ↔ 0 ≤ Ln.ix l n 0 by rw [← hq, ← ht0]; exact Ln.ix_ofL)
  have HOKQ := Lib.hid (show ∀ e ∈ q, Ln.Ok e from fun e he => hrl.ok e (by rw [← hq] at he; exact (List.mem_filter.1 he).1))
  have HT0 := Lib.hid ht0; have HQ := Lib.hid hq
  clear h hb hB hB1 hs1 hn hp ht0 hq hrl
  go_enter Try.func24, Try.ntmps24
  go_wp2_with fail
  rw [HBB.out, ← Hb.out]
  obtain ⟨wq, hwq⟩ : ∃ wq, wq = { B with drawn := B.drawn + 1 } := ⟨_, rfl⟩
  have BQ := Lib.hid (show Below B.heap.size B wq by rw [hwq]; exact ⟨rfl, rfl, rfl, Nat.le_refl _, fun _ _ => rfl⟩)
  have HWQ := Lib.hid hwq
  clear hwq
  have RQ := Lib.hid (RB.out.kp BQ.out)
  have ZQ := Lib.hid ((BQ.out.block _ (Array.getElem?_eq_some_iff.1 RZ.out).1).trans RZ.out)
  have HFA := Lib.hid (show (fun x : World => x.heap[b]? = some (.cells #[.int .i64 (s : Int), .int .i64 (ways : Int), .slice a l.length c] 46 (0, 0))) wq from RQ.out.row)
  refine Og.region_S (S := Og.SF 3 (fun x : World => x.heap[b]? = some (.cells #[.int .i64 (s : Int), .int .i64 (ways : Int), .slice a l.length c] 46 (0, 0)))) (by kernel_rfl) ?_
  rw [← HWQ.out]
  refine Og.s_take 0 { dst := some 9, op := Go.Op.load 46 (Go.Operand.tmp 3), type := 46, pos := "ref.go:95", after := #[], guard := none } (.agg #[.int .i64 (s : Int), .int .i64 (ways : Int), .slice a l.length c]) _ (by kernel_rfl) (by kernel_rfl) (by kernel_rfl) (by kernel_rfl) (by kernel_rfl) (fun _ _ _ h => h) (fun _ => HFA.out) (fun x' hx => ?_) (by simp only [Act.put, List.setIfInBounds_toArray, List.set_cons_zero, List.set_cons_succ]; rfl) ?_
  · exact Og.load_run 46 (.tmp 3) rfl ⟨b, 0, none⟩ rfl (run_loadVar_row x' b 46 46 #[.int .i64 (s : Int), .int .i64 (ways : Int), .slice a l.length c] (0, 0) _ (hx (by decide)) Try.underlying46 rfl (by kernel_rfl))
  refine Og.s_take 1 { dst := some 10, op := Go.Op.load 46 (Go.Operand.tmp 3), type := 46, pos := "ref.go:95", after := #[], guard := none } (.agg #[.int .i64 (s : Int), .int .i64 (ways : Int), .slice a l.length c]) _ (by kernel_rfl) (by kernel_rfl) (by kernel_rfl) (by kernel_rfl) (by kernel_rfl) (fun _ _ _ h => h) (fun _ => HFA.out) (fun x' hx => ?_) (by simp only [Act.put, List.setIfInBounds_toArray, List.set_cons_zero, List.set_cons_succ]; rfl) ?_
  · exact Og.load_run 46 (.tmp 3) rfl ⟨b, 0, none⟩ rfl (run_loadVar_row x' b 46 46 #[.int .i64 (s : Int), .int .i64 (ways : Int), .slice a l.length c] (0, 0) _ (hx (by decide)) Try.underlying46 rfl (by kernel_rfl))
  refine Og.s_take 2 { dst := some 11, op := Go.Op.move (Go.Operand.tmp 1), type := 26, pos := "ref.go:95", after := #[], guard := none } (.int .u32 n) _ (by kernel_rfl) (by kernel_rfl) (by kernel_rfl) (by kernel_rfl) (by kernel_rfl) (fun _ _ _ h => h) (fun _ => HFA.out) (fun x' hx => ?_) (by simp only [Act.put, List.setIfInBounds_toArray, List.set_cons_zero, List.set_cons_succ]; rfl) ?_
  · go_simp; try (with_reducible rfl)
  refine Og.s_one 3 { dst := some 12, op := Go.Op.call { callee := Go.Callee.value (Go.Operand.func 42), args := #[Go.Operand.tmp 10, Go.Operand.tmp 11], argTypes := #[46, 26] }, type := 3, pos := "ref.go:95", after := #[{ on := 1, ground := Go.Ground.data }, { on := 2, ground := Go.Ground.data }], guard := none } (by kernel_rfl) (by kernel_rfl) (by kernel_rfl) ?_
  refine Og.call_to (w1 := wq) (f := 42) (args := #[.agg #[.int .i64 (s : Int), .int .i64 (ways : Int), .slice a l.length c], .int .u32 n]) (by go_simp) ?_
  refine (HT0.out ▸ rset_any s ways a c l n HN.out wq RQ.out.rinB).mono ?_
  rintro e' W3 ⟨rfl, hb3⟩
  have R3 := Lib.hid (RQ.out.kp hb3)
  have Z3 := Lib.hid ((hb3.block _ (Array.getElem?_eq_some_iff.1 ZQ.out).1).trans ZQ.out)
  refine ⟨_, rfl, Og.keep_sf (fun h => R3.out.row), ?_⟩
  clear hb3
  refine Og.s_one 4 { dst := some 13, op := Go.Op.call { callee := Go.Callee.value (Go.Operand.func 41), args := #[Go.Operand.tmp 9, Go.Operand.tmp 12], argTypes := #[46, 3] }, type := 38, pos := "ref.go:95", after := #[{ on := 0, ground := Go.Ground.data }, { on := 3, ground := Go.Ground.data }, { on := 3, ground := Go.Ground.chain }], guard := none } (by kernel_rfl) (by kernel_rfl) (by kernel_rfl) ?_
  refine Og.call_to (w1 := W3) (f := 41) (args := #[.agg #[.int .i64 (s : Int), .int .i64 (ways : Int), .slice a l.length c], .int .i64 (t0 : Int)]) (by go_simp) ?_
  have KO := rof_any s ways a c l t0 ht64 W3 R3.out.rinB
  rw [HQ.out] at KO
  refine KO.mono ?_
  clear KO
  rintro e' W4 ⟨a4, c4, rfl, ho4, hb4⟩
  have R4 := Lib.hid (R3.out.kp hb4)
  have Z4 := Lib.hid ((hb4.block _ (Array.getElem?_eq_some_iff.1 Z3.out).1).trans Z3.out)
  have O4 := Lib.hid ho4
  refine ⟨_, rfl, Og.keep_sf (fun h => R4.out.row), ?_⟩
  clear hb4 ho4
  refine Og.s_take 5 { dst := some 8, op := Go.Op.assign (Go.Operand.tmp 13), type := 38, pos := "ref.go:95", after := #[{ on := 4, ground := Go.Ground.data }, { on := 4, ground := Go.Ground.chain }, { on := 0, ground := Go.Ground.phase }, { on := 1, ground := Go.Ground.phase }, { on := 2, ground := Go.Ground.phase }, { on := 3, ground := Go.Ground.phase }, { on := 4, ground := Go.Ground.phase }], guard := none } (.slice a4 q.length c4) _ (by kernel_rfl) (by kernel_rfl) (by kernel_rfl) (by kernel_rfl) (by kernel_rfl) (fun _ _ _ h => h) (fun h => absurd h (by decide)) (fun x' hx => ?_) (by simp only [Act.put, List.setIfInBounds_toArray, List.set_cons_zero, List.set_cons_succ]; rfl) ?_
  · go_simp; try (with_reducible rfl)
  refine Og.s_done (by kernel_rfl) ?_ _
  try simp only [Act.put, List.setIfInBounds_toArray, List.set_cons_zero, List.set_cons_succ]
  obtain ⟨t, ht⟩ : ∃ t, Ln.ix l n 0 = t := ⟨_, rfl⟩
  have KF := Lib.hid (ht ▸ rfind_any s ways a c l n HN.out W4 R4.out.rinB)
  have HT := Lib.hid ht
  have B4 := Lib.hid R4.out.bel
  clear ht
  by_cases h0 : 0 ≤ t
  · have HV := Lib.hid (show Ln.vic ways (Ln.rows l s) n pick = none by unfold Ln.vic; rw [HQR.out, if_pos (by rw [HIX.out, HT.out]; exact h0)])
    go_wp2_with (first
      | ((with_reducible show wpList _ _ _ (Oper.mk (some 14) _ _ _ _ _ :: _) _ _); refine wpList_load_row rfl 46 (.tmp 3) rfl b rfl 46 _ (0, 0) _ R4.out.row Try.underlying46 rfl (by kernel_rfl) ?_)
      | (go_at_call 25; (with_reducible refine KF.out.mono ?_); rintro e' W5 ⟨rfl, hb5⟩
         have R5 := Lib.hid (R4.out.kp hb5)
         have Z5 := Lib.hid ((hb5.block _ (Array.getElem?_eq_some_iff.1 Z4.out).1).trans Z4.out)
         have B5 := Lib.hid (B4.out.trans (hb5.mono B4.out.size))
         have HB5 := Lib.hid hb5
         have c1 := R5.out.c1
         clear hb5)
      | ((with_reducible show wpList _ _ _ (Oper.mk none (Op.store 30 _ _) _ _ _ _ :: _) _ _); refine wpList_store_own rfl 30 (.tmp 6) (.tmp 25) rfl (b + 1) (Ln.cells Ln.E0).toArray rfl rfl 30 _ Z5.out Ln.size_line rfl (by kernel_rfl) ?_
         intro W6 HW6
         have B6 := Lib.hid (B5.out.trans (HW6.below.mono (by rw [Hb.out]; omega)))
         have R6 := Lib.hid HW6.row
         clear HW6))
    refine bodyPost_ret (Ln.res2 (fn := Try.f24) rfl _ _ (b + 1) 30 (Ln.cells Ln.E0).toArray (0, 0) _ rfl R6.out Try.underlying30 rfl Ln.size_line) rfl ⟨?_, B6.out⟩
    rw [HV.out]; rfl
  · by_cases hlt : q.length < ways
    · have hli : (q.length : Int) < (ways : Int) := by omega
      have HV := Lib.hid (show Ln.vic ways (Ln.rows l s) n pick = none by unfold Ln.vic; rw [HQR.out, if_neg (by rw [HIX.out, HT.out]; exact h0), if_neg (by omega)])
      go_wp2_with (first
        | ((with_reducible show wpList _ _ _ (Oper.mk (some 14) _ _ _ _ _ :: _) _ _); refine wpList_load_row rfl 46 (.tmp 3) rfl b rfl 46 _ (0, 0) _ R4.out.row Try.underlying46 rfl (by kernel_rfl) ?_)
        | (go_at_call 25; (with_reducible refine KF.out.mono ?_); rintro e' W5 ⟨rfl, hb5⟩
           have R5 := Lib.hid (R4.out.kp hb5)
           have Z5 := Lib.hid ((hb5.block _ (Array.getElem?_eq_some_iff.1 Z4.out).1).trans Z4.out)
           have B5 := Lib.hid (B4.out.trans (hb5.mono B4.out.size))
           have HB5 := Lib.hid hb5
           have c1 := R5.out.c1
           clear hb5)
        | ((with_reducible show wpList _ _ _ (Oper.mk none (Op.store 30 _ _) _ _ _ _ :: _) _ _); refine wpList_store_own rfl 30 (.tmp 6) (.tmp 25) rfl (b + 1) (Ln.cells Ln.E0).toArray rfl rfl 30 _ Z5.out Ln.size_line rfl (by kernel_rfl) ?_
           intro W6 HW6
           have B6 := Lib.hid (B5.out.trans (HW6.below.mono (by rw [Hb.out]; omega)))
           have R6 := Lib.hid HW6.row
           clear HW6))
      refine bodyPost_ret (Ln.res2 (fn := Try.f24) rfl _ _ (b + 1) 30 (Ln.cells Ln.E0).toArray (0, 0) _ rfl R6.out Try.underlying30 rfl Ln.size_line) rfl ⟨?_, B6.out⟩
      rw [HV.out]; rfl
    · have hli : ¬ (q.length : Int) < (ways : Int) := by omega
      have hful : q.length = ways := by omega
      obtain ⟨k, hk⟩ : ∃ k : Nat, pick % (ways : Int) = (k : Int) := ⟨(pick % (ways : Int)).toNat, by have := Int.emod_nonneg pick (by omega : (ways : Int) ≠ 0); omega⟩
      have hkw : k < ways := by have := Int.emod_lt_of_pos pick (by omega : (0 : Int) < (ways : Int)); omega
      have hkl : k < q.length := by omega
      have hki : (k : Int) < (q.length : Int) := by omega
      obtain ⟨e, he⟩ : ∃ e, q[k]? = some e := ⟨_, List.getElem?_eq_getElem hkl⟩
      have HV := Lib.hid (show Ln.vic ways (Ln.rows l s) n pick = some e by unfold Ln.vic; rw [HQR.out, if_neg (by rw [HIX.out, HT.out]; exact h0), if_pos hful, hk, Int.toNat_natCast, he])
      have CH := Lib.hid (fun W => show Calls Try.prog 43 #[.int .i64 pick, .int .i64 (q.length : Int)] W fun r w' => r = .returned (.int .i64 (k : Int)) ∧ W = w' by
        have h1 := rchoice_any pick (q.length : Int) HP.out (by omega) (by omega) W
        rw [hful, hk] at h1
        rw [hful]
        exact h1)
      obtain ⟨a', c', e1, hls⟩ := Ln.own_in O4.out HOKQ.out
      obtain ⟨rfl, rfl⟩ : a4 = a' ∧ c4 = c' := by injection e1 with e1 _ e3; exact ⟨e1, e3⟩
      obtain ⟨ga, o, ea, hce⟩ := hls.at_ he
      subst ea
      have HOK := Lib.hid (HOKQ.out e (List.mem_of_getElem? he))
      have HCE := Lib.hid hce
      clear e1 hls he hce hk hful O4
      go_wp2_with (first
        | ((with_reducible show wpList _ _ _ (Oper.mk (some 14) _ _ _ _ _ :: _) _ _); refine wpList_load_row rfl 46 (.tmp 3) rfl b rfl 46 _ (0, 0) _ R4.out.row Try.underlying46 rfl (by kernel_rfl) ?_)
        | (go_at_call 25; (with_reducible refine KF.out.mono ?_); rintro e' W5 ⟨rfl, hb5⟩
           have R5 := Lib.hid (R4.out.kp hb5)
           have Z5 := Lib.hid ((hb5.block _ (Array.getElem?_eq_some_iff.1 Z4.out).1).trans Z4.out)
           have B5 := Lib.hid (B4.out.trans (hb5.mono B4.out.size))
           have HB5 := Lib.hid hb5
           have c1 := R5.out.c1
           clear hb5)
        | (go_at_call 43; (with_reducible refine (CH.out _).mono ?_); rintro e' W8 ⟨rfl, hw8⟩; subst hw8)
        | ((with_reducible show wpList _ _ _ (Oper.mk (some 32) _ _ _ _ _ :: _) _ _); refine wpList_load_at rfl 30 (.tmp 31) rfl ga (o + k * 18) rfl (Ln.cells e) _ (fun i c hi => Ev.kp_below HB5.out _ _ (HCE.out i c hi)) Try.underlying30 rfl (by rw [HOK.out.len]; exact Ln.size_line) ?_)
        | ((with_reducible show wpList _ _ _ (Oper.mk none (Op.store 30 _ _) _ _ _ _ :: _) _ _); refine wpList_store_own rfl 30 (.tmp 6) (.tmp 32) rfl (b + 1) (Ln.cells e).toArray rfl rfl 30 _ Z5.out (by rw [HOK.out.size]; exact Ln.size_line) (by rw [HOK.out.size]; rfl) (Ln.cells_all e) ?_
           intro W6 HW6
           have B6 := Lib.hid (B5.out.trans (HW6.below.mono (by rw [Hb.out]; omega)))
           have R6 := Lib.hid HW6.row
           clear HW6))
      refine bodyPost_ret (Ln.res2 (fn := Try.f24) rfl _ _ (b + 1) 30 (Ln.cells e).toArray (0, 0) _ rfl R6.out Try.underlying30 rfl (by rw [HOK.out.size]; exact Ln.size_line)) rfl ⟨?_, B6.out⟩
      rw [HV.out]; rfl
end Go.Proofs.Ytifniogldinbdaa
