/-
  The contract of Send.
-/
import Derived.Test.YtnfpcklpmfemiaaNtTurn
namespace Go.Proofs.Ytnfpcklpmfemiaa
open Go.RowKit
set_option linter.unusedVariables false
set_option linter.unusedSimpArgs false
namespace Nt
set_option maxRecDepth 100000 in
set_option maxHeartbeats 8000000 in
theorem send_any (e : E) (hok : Ok e) (w : World) {F p most l} (h : Net w F p most l) : Calls Try.prog 31 #[.pointer (some ⟨p, 0, none⟩), .agg (cells e).toArray] w fun r w' => r = .returned (.int .i64 (sendE most l e)) ∧ Turns F w w' p most (sendL most l e) := by
  obtain ⟨mb, hmb⟩ : ∃ mb, mb = w.heap.size := ⟨_, rfl⟩
  obtain ⟨B, hB⟩ : ∃ B, B = w.alloc (.cells (cells e).toArray 57) := ⟨_, rfl⟩
  have HB := Lib.hid hB; have HMB := Lib.hid hmb
  have B0 := Lib.hid (show Below w.heap.size w B by rw [hB]; exact (Below.refl w.heap.size w).alloc (Nat.le_refl _) _)
  have R0 := Lib.hid (show B.heap[mb]? = some (.cells (cells e).toArray 57 (0, 0)) by rw [hB, hmb]; exact heap_alloc_new _ _)
  have N0 := Lib.hid (h.kp B0.out)
  have HOK := Lib.hid hok
  have KN := Lib.hid (isNone_any B N0.out)
  have HM := Lib.hid (mayBe_any e hok B)
  have HW := Lib.hid h
  obtain ⟨m, hm⟩ : ∃ m, may e = m := ⟨_, rfl⟩
  have HE := Lib.hid (show sendE most l e = if m then (if l.length = most then 210 else 0) else 2 from by unfold sendE; rw [hm])
  have HL := Lib.hid (show sendL most l e = if m then (if l.length = most then l else l ++ [e]) else l from by unfold sendL; rw [hm])
  have HM' := HM.out
  rw [hm] at HM'
  have HM2 := Lib.hid HM'
  clear hB hmb hok h hm HM HM'
  cases m
  · go_enter Try.func31, Try.ntmps31
    go_wp2_with (first
      | (go_at_call 64; rw [← HB.out, ← HMB.out]; (with_reducible refine KN.out.mono ?_); rintro e2 W1 ⟨rfl, hw⟩; subst hw)
      | ((with_reducible show wpList _ _ _ (Oper.mk (some 9) _ _ _ _ _ :: _) _ _); refine wpList_load_row rfl 57 (.tmp 3) rfl mb rfl 57 _ (0, 0) _ R0.out Try.underlying57 rfl (by rw [HOK.out.size]; exact size_msg) ?_)
      | (go_at_call 60; (with_reducible refine HM2.out.mono ?_); rintro e2 W2 ⟨rfl, hb⟩; have B2 := Lib.hid hb; clear hb))
    go_ret
    exact ⟨by rw [HE.out]; rfl, by rw [HL.out]; exact Turns.same HW.out (B0.out.trans (B2.out.mono B0.out.size))⟩
  · go_enter Try.func31, Try.ntmps31
    go_wp2_with (first
      | (go_at_call 64; rw [← HB.out, ← HMB.out]; (with_reducible refine KN.out.mono ?_); rintro e2 W1 ⟨rfl, hw⟩; subst hw)
      | ((with_reducible show wpList _ _ _ (Oper.mk (some 9) _ _ _ _ _ :: _) _ _); refine wpList_load_row rfl 57 (.tmp 3) rfl mb rfl 57 _ (0, 0) _ R0.out Try.underlying57 rfl (by rw [HOK.out.size]; exact size_msg) ?_)
      | (go_at_call 60; (with_reducible refine HM2.out.mono ?_); rintro e2 W2 ⟨rfl, hb⟩; have B2 := Lib.hid hb; clear hb))
    obtain ⟨a, c, hn⟩ := N0.out
    have N2 := Lib.hid (hn.kp B2.out)
    have R2 := Lib.hid ((B2.out.block _ (Array.getElem?_eq_some_iff.1 R0.out).1).trans R0.out)
    have BE := Lib.hid (B0.out.trans (B2.out.mono B0.out.size))
    have q0 : ∀ z : Og.On W2.heap.size W2, z.x.cell? ⟨p, 0, none⟩ = _ := fun z => Og.cellB z N2.out.c0
    have q1 : ∀ z : Og.On W2.heap.size W2, z.x.cell? ⟨p, 1, none⟩ = _ := fun z => Og.cellB z N2.out.c1
    clear hn
    have HE2 := Lib.hid (show sendE most l e = if l.length = most then 210 else 0 from by rw [HE.out]; simp)
    have HL2 := Lib.hid (show sendL most l e = if l.length = most then l else l ++ [e] from by rw [HL.out]; simp)
    by_cases hf : l.length = most
    · have hfb : decide ((l.length : Int) = (most : Int)) = true := decide_eq_true (by omega)
      have hfi : (l.length : Int) = (most : Int) := by omega
      refine Og.regionB (by kernel_rfl) (by kernel_rfl) ?_
      repeat (first | go_big_quiet_skip | (go_big_quiet_want; go_big_quiet_op; go_big_quiet_on))
      refine wpQuiet_nil ?_
      intro _ hw'
      obtain ⟨q9, hw''⟩ := hw'
      subst hw''
      go_wp2_with fail
      go_ret
      exact ⟨by rw [HE2.out, if_pos hf]; rfl, by rw [HL2.out, if_pos hf]; exact Turns.same HW.out (BE.out.trans (q9.b.mono BE.out.size))⟩
    · have hfi : ¬ (l.length : Int) = (most : Int) := by omega
      refine Og.regionB (by kernel_rfl) (by kernel_rfl) ?_
      repeat (first | go_big_quiet_skip | (go_big_quiet_want; go_big_quiet_op; go_big_quiet_on))
      refine wpQuiet_nil ?_
      intro _ hw'
      obtain ⟨q9, hw''⟩ := hw'
      subst hw''
      go_wp2_with fail
      have N3 := Lib.hid (N2.out.kp q9.b)
      have R3 := Lib.hid ((q9.b.block _ (Array.getElem?_eq_some_iff.1 R2.out).1).trans R2.out)
      have BF := Lib.hid (BE.out.trans (q9.b.mono BE.out.size))
      obtain ⟨W3, hW3⟩ : ∃ W3, W3 = q9.x := ⟨_, rfl⟩
      rw [← hW3] at N3 R3 BF ⊢
      clear q0 q1 hW3
      obtain ⟨wq, hwq⟩ : ∃ wq, wq = { W3 with drawn := W3.drawn + 1 } := ⟨_, rfl⟩
      have BQ := Lib.hid (show Below W3.heap.size W3 wq by rw [hwq]; exact ⟨rfl, rfl, rfl, Nat.le_refl _, fun _ _ => rfl⟩)
      have HWQ := Lib.hid hwq
      clear hwq
      have NQ := Lib.hid (N3.out.kp BQ.out)
      have RQ := Lib.hid ((BQ.out.block _ (Array.getElem?_eq_some_iff.1 R3.out).1).trans R3.out)
      have HFA := Lib.hid (show (fun x : World => x.cell? ⟨p, 1, none⟩ = some (.slice a l.length c) ∧ x.heap[mb]? = some (.cells (cells e).toArray 57 (0, 0))) wq from ⟨NQ.out.c1, RQ.out⟩)
      refine Og.region_S (S := Og.SF 6 (fun x : World => x.cell? ⟨p, 1, none⟩ = some (.slice a l.length c) ∧ x.heap[mb]? = some (.cells (cells e).toArray 57 (0, 0)))) (by kernel_rfl) ?_
      rw [← HWQ.out]
      refine Og.s_take 0 { dst := some 23, op := Go.Op.move (Go.Operand.tmp 0), type := 62, pos := "net.go:42", after := #[], guard := none } (.pointer (some ⟨p, 0, none⟩)) _ (by kernel_rfl) (by kernel_rfl) (by kernel_rfl) (by kernel_rfl) (by kernel_rfl) (fun _ _ _ h => h) (fun _ => HFA.out) (fun x' hx => ?_) (by simp only [Act.put, List.setIfInBounds_toArray, List.set_cons_zero, List.set_cons_succ]; rfl) ?_
      · go_simp; try (with_reducible rfl)
      refine Og.s_take 1 { dst := some 24, op := Go.Op.move (Go.Operand.tmp 0), type := 62, pos := "net.go:42", after := #[], guard := none } (.pointer (some ⟨p, 0, none⟩)) _ (by kernel_rfl) (by kernel_rfl) (by kernel_rfl) (by kernel_rfl) (by kernel_rfl) (fun _ _ _ h => h) (fun _ => HFA.out) (fun x' hx => ?_) (by simp only [Act.put, List.setIfInBounds_toArray, List.set_cons_zero, List.set_cons_succ]; rfl) ?_
      · go_simp; try (with_reducible rfl)
      refine Og.s_take 2 { dst := some 25, op := Go.Op.nilCheck (Go.Operand.tmp 24), type := 0, pos := "net.go:42", after := #[{ on := 1, ground := Go.Ground.data }], guard := none } (.pointer (some ⟨p, 0, none⟩)) _ (by kernel_rfl) (by kernel_rfl) (by kernel_rfl) (by kernel_rfl) (by kernel_rfl) (fun _ _ _ h => h) (fun _ => HFA.out) (fun x' hx => ?_) (by simp only [Act.put, List.setIfInBounds_toArray, List.set_cons_zero, List.set_cons_succ]; rfl) ?_
      · go_simp; try (with_reducible rfl)
      refine Og.s_take 3 { dst := some 26, op := Go.Op.fieldAddr 110 (Go.Operand.tmp 25) 1, type := 0, pos := "net.go:42", after := #[{ on := 2, ground := Go.Ground.data }], guard := none } (.pointer (some ⟨p, 1, none⟩)) _ (by kernel_rfl) (by kernel_rfl) (by kernel_rfl) (by kernel_rfl) (by kernel_rfl) (fun _ _ _ h => h) (fun _ => HFA.out) (fun x' hx => ?_) (by simp only [Act.put, List.setIfInBounds_toArray, List.set_cons_zero, List.set_cons_succ]; rfl) ?_
      · go_simp; try (with_reducible rfl)
      refine Og.s_take 4 { dst := some 27, op := Go.Op.load 68 (Go.Operand.tmp 26), type := 68, pos := "net.go:42", after := #[{ on := 3, ground := Go.Ground.data }], guard := none } (.slice a l.length c) _ (by kernel_rfl) (by kernel_rfl) (by kernel_rfl) (by kernel_rfl) (by kernel_rfl) (fun _ _ _ h => h) (fun _ => HFA.out) (fun x' hx => ?_) (by simp only [Act.put, List.setIfInBounds_toArray, List.set_cons_zero, List.set_cons_succ]; rfl) ?_
      · have hx1 := (hx (by decide)).1; go_simp; try (with_reducible rfl)
      refine Og.s_take 5 { dst := some 28, op := Go.Op.load 57 (Go.Operand.tmp 3), type := 57, pos := "net.go:42", after := #[], guard := none } (.agg (cells e).toArray) _ (by kernel_rfl) (by kernel_rfl) (by kernel_rfl) (by kernel_rfl) (by kernel_rfl) (fun _ _ _ h => h) (fun _ => HFA.out) (fun x' hx => ?_) (by simp only [Act.put, List.setIfInBounds_toArray, List.set_cons_zero, List.set_cons_succ]; rfl) ?_
      · exact Og.load_run 57 (.tmp 3) rfl ⟨mb, 0, none⟩ rfl (run_loadVar_row x' mb 57 57 _ (0, 0) _ (hx (by decide)).2 Try.underlying57 rfl (by rw [HOK.out.size]; exact size_msg))
      refine Og.s_one 6 { dst := some 29, op := Go.Op.buildSlice 68 1 #[(0, Go.Operand.tmp 28)], type := 68, pos := "net.go:42", after := #[{ on := 5, ground := Go.Ground.data }], guard := none } (by kernel_rfl) (by kernel_rfl) (by kernel_rfl) ?_
      refine Og.run_to (v := .slice (some ⟨wq.heap.size, 0, none⟩) 1 1) (w' := wq.alloc (.cells (cells e).toArray 57)) (build_to HOK.out (.tmp 28) rfl rfl) ?_
      obtain ⟨nb, hnb⟩ : ∃ nb, nb = wq.heap.size := ⟨_, rfl⟩
      obtain ⟨W4, hW4⟩ : ∃ W4, W4 = wq.alloc (.cells (cells e).toArray 57) := ⟨_, rfl⟩
      have BA := Lib.hid (show Below wq.heap.size wq W4 by rw [hW4]; exact (Below.refl wq.heap.size wq).alloc (Nat.le_refl _) _)
      have Z4 := Lib.hid (show W4.heap[nb]? = some (.cells (cells e).toArray 57 (0, 0)) by rw [hW4, hnb]; exact heap_alloc_new _ _)
      rw [← hW4, ← hnb]
      clear hW4
      refine ⟨Og.keep_sf (fun h => ⟨Ev.kp_below BA.out _ _ h.1, (BA.out.block _ (Array.getElem?_eq_some_iff.1 h.2).1).trans h.2⟩), ?_⟩
      have N4 := Lib.hid (NQ.out.kp BA.out)
      obtain ⟨a', c', W5, hr5, ho5, hf5⟩ := append_any N4.out.own_ne N4.out.ok (ls_one HOK.out Z4.out) (by have := N4.out.len; have := N4.out.max; simp only [List.length_singleton]; omega)
      have B34 := Lib.hid (show Below w.heap.size w W4 from (BF.out.trans (BQ.out.mono BF.out.size)).trans (BA.out.mono (by have := BF.out.size; have := BQ.out.size; omega)))
      obtain ⟨a0, c0', hw0⟩ := HW.out
      have HFL := Lib.hid (HW.out.lt)
      have C5 := Lib.hid (show W5.cell? ⟨p, 1, none⟩ = some (.slice a l.length c) from by rw [cell_of_row _ _ _ _ _ _ ((hf5.block p (N4.out.lt p N4.out.fp) (fun h => h.2 rfl)).trans N4.out.box)]; rfl)
      have M5 := Lib.hid (show W5.heap[mb]? = some (.cells (cells e).toArray 57 (0, 0)) from (hf5.block mb (Array.getElem?_eq_some_iff.1 ((BA.out.block _ (Array.getElem?_eq_some_iff.1 RQ.out).1).trans RQ.out)).1 (fun h => by have := HFL.out mb h.1; have := HMB.out; omega)).trans ((BA.out.block _ (Array.getElem?_eq_some_iff.1 RQ.out).1).trans RQ.out))
      obtain ⟨hbx, htn⟩ := hw0.put B34.out ho5 hf5 (fun x hx => by
        rcases List.mem_append.1 hx with hx | hx
        · exact N4.out.ok x hx
        · obtain rfl : x = e := by simpa using hx
          exact HOK.out) (by rw [List.length_append, List.length_singleton]; have := N4.out.len; omega)
      have BX := Lib.hid hbx; have TN := Lib.hid htn; have HR5 := Lib.hid hr5
      clear ho5 hf5 hbx htn hw0 hr5
      refine Og.s_one 7 { dst := some 30, op := Go.Op.call { callee := Go.Callee.builtin Go.Builtin.append, args := #[Go.Operand.tmp 27, Go.Operand.tmp 29], argTypes := #[68, 68] }, type := 68, pos := "net.go:42", after := #[{ on := 4, ground := Go.Ground.data }, { on := 6, ground := Go.Ground.data }], guard := none } (by kernel_rfl) (by kernel_rfl) (by kernel_rfl) ?_
      refine Og.run_to (v := .slice a' (l ++ [e]).length c') (w' := W5) (Og.append_to (.tmp 27) (.tmp 29) 68 rfl rfl rfl HR5.out) ⟨Og.keep_sf (fun h => ⟨C5.out, M5.out⟩), ?_⟩
      refine Og.s_take 8 { dst := some 31, op := Go.Op.nilCheck (Go.Operand.tmp 23), type := 0, pos := "net.go:42", after := #[{ on := 0, ground := Go.Ground.data }, { on := 0, ground := Go.Ground.phase }, { on := 1, ground := Go.Ground.phase }, { on := 2, ground := Go.Ground.phase }, { on := 3, ground := Go.Ground.phase }, { on := 4, ground := Go.Ground.phase }, { on := 5, ground := Go.Ground.phase }, { on := 6, ground := Go.Ground.phase }, { on := 7, ground := Go.Ground.phase }], guard := none } (.pointer (some ⟨p, 0, none⟩)) _ (by kernel_rfl) (by kernel_rfl) (by kernel_rfl) (by kernel_rfl) (by kernel_rfl) (fun _ _ _ h => h) (fun h => absurd h (by decide)) (fun x' hx => ?_) (by simp only [Act.put, List.setIfInBounds_toArray, List.set_cons_zero, List.set_cons_succ]; rfl) ?_
      · go_simp; try (with_reducible rfl)
      refine Og.s_take 9 { dst := some 32, op := Go.Op.fieldAddr 110 (Go.Operand.tmp 31) 1, type := 0, pos := "net.go:42", after := #[{ on := 8, ground := Go.Ground.data }, { on := 0, ground := Go.Ground.phase }, { on := 1, ground := Go.Ground.phase }, { on := 2, ground := Go.Ground.phase }, { on := 3, ground := Go.Ground.phase }, { on := 4, ground := Go.Ground.phase }, { on := 5, ground := Go.Ground.phase }, { on := 6, ground := Go.Ground.phase }, { on := 7, ground := Go.Ground.phase }], guard := none } (.pointer (some ⟨p, 1, none⟩)) _ (by kernel_rfl) (by kernel_rfl) (by kernel_rfl) (by kernel_rfl) (by kernel_rfl) (fun _ _ _ h => h) (fun h => absurd h (by decide)) (fun x' hx => ?_) (by simp only [Act.put, List.setIfInBounds_toArray, List.set_cons_zero, List.set_cons_succ]; rfl) ?_
      · go_simp; try (with_reducible rfl)
      refine Og.s_one 10 { dst := none, op := Go.Op.store 68 (Go.Operand.tmp 32) (Go.Operand.tmp 30), type := 0, pos := "net.go:42", after := #[{ on := 9, ground := Go.Ground.data }, { on := 7, ground := Go.Ground.data }, { on := 7, ground := Go.Ground.chain }, { on := 0, ground := Go.Ground.phase }, { on := 1, ground := Go.Ground.phase }, { on := 2, ground := Go.Ground.phase }, { on := 3, ground := Go.Ground.phase }, { on := 4, ground := Go.Ground.phase }, { on := 5, ground := Go.Ground.phase }, { on := 6, ground := Go.Ground.phase }, { on := 7, ground := Go.Ground.phase }], guard := none } (by kernel_rfl) (by kernel_rfl) (by kernel_rfl) ?_
      refine Og.skip_to (w' := W5.setCell ⟨p, 1, none⟩ (.slice a' (l ++ [e]).length c')) (Og.store_to 68 (.tmp 32) (.tmp 30) rfl rfl rfl (by kernel_rfl) C5.out (free_row BX.out)) ⟨Og.keep_last (o := { dst := none, op := Go.Op.store 68 (Go.Operand.tmp 32) (Go.Operand.tmp 30), type := 0, pos := "net.go:42", after := #[{ on := 9, ground := Go.Ground.data }, { on := 7, ground := Go.Ground.data }, { on := 7, ground := Go.Ground.chain }, { on := 0, ground := Go.Ground.phase }, { on := 1, ground := Go.Ground.phase }, { on := 2, ground := Go.Ground.phase }, { on := 3, ground := Go.Ground.phase }, { on := 4, ground := Go.Ground.phase }, { on := 5, ground := Go.Ground.phase }, { on := 6, ground := Go.Ground.phase }, { on := 7, ground := Go.Ground.phase }], guard := none }) (by kernel_rfl) (by kernel_rfl), ?_⟩
      refine Og.s_done (by kernel_rfl) ?_ _
      try simp only [Act.put, List.setIfInBounds_toArray, List.set_cons_zero, List.set_cons_succ]
      go_wp2_with fail
      go_ret
      exact ⟨by rw [HE2.out, if_neg hf]; rfl, by rw [HL2.out, if_neg hf]; have t := TN.out; simp only [List.length_append, List.length_cons, List.length_nil, Nat.zero_add] at t; exact t⟩
end Nt
end Go.Proofs.Ytnfpcklpmfemiaa
