import Derived.Test.YtfajkgbpeapcbaaNa12
set_option linter.unusedVariables false
set_option linter.unusedSimpArgs false

section
namespace Go.Proofs.Ytfajkgbpeapcbaa
open Go.RowKit
namespace Hm
open Nt
set_option maxRecDepth 100000
section
variable {tp ep mp g : Nat} {S Q : Nat → Prop}
set_option maxHeartbeats 8000000 in
theorem send_any (T : Tg) (kk to : Int) (bb : List Int) (hk : Ev.i64B kk) (hto : Ev.i64B to) (hbb : bb.length = 16) (hsl : T.sent.length ≤ 4000) (w : World) (h : Ta w tp ep mp g S Q T) :
    Calls Try.prog 116 #[.pointer (some ⟨tp, 0, none⟩), .int .i64 kk, .int .i64 to, .agg (Im.vals bb).toArray] w fun r w' => r = .returned (.tuple #[]) ∧ TT w w' tp ep mp g S Q (sendP T kk to bb) := by
  obtain ⟨n, sent, e, bs⟩ := T
  obtain ⟨sa, sc, qa, qc, h⟩ := h
  have hnu : Ev.u32B (n : Int) := by
    have h1 := h.nl; have h2 := h.im.bd
    simp only at h1 h2
    unfold Ev.u32B; omega
  obtain ⟨x, hx⟩ : ∃ x : E, x = ⟨kk, 4, to, (n : Int), bb⟩ := ⟨_, rfl⟩
  have HX := Lib.hid hx
  have HOK := Lib.hid (show Ok x from by rw [hx]; exact ⟨hk, by show Ev.i64B 4; unfold Ev.i64B; decide, hto, hnu, hbb⟩)
  obtain ⟨l', hl'⟩ : ∃ l' : List E, l' = sent ++ [x] := ⟨_, rfl⟩
  have HL := Lib.hid hl'
  obtain ⟨mb, hmb⟩ : ∃ mb, mb = w.heap.size := ⟨_, rfl⟩
  obtain ⟨B, hB⟩ : ∃ B, B = w.alloc (.cells (Im.vals bb).toArray 25) := ⟨_, rfl⟩
  have HB := Lib.hid hB; have HMB := Lib.hid hmb
  have B0 := Lib.hid (show Below w.heap.size w B by rw [hB]; exact (Below.refl w.heap.size w).alloc (Nat.le_refl _) _)
  have R0 := Lib.hid (show B.heap[mb]? = some (.cells (Im.vals bb).toArray 25 (0, 0)) by rw [hB, hmb]; exact heap_alloc_new _ _)
  have OW := Lib.hid (show ∀ j, own tp ep g S Q j → j < mb from fun j hj => by rw [HMB.out]; exact Tw.own_lt h j hj)
  have T0 := Lib.hid (Tw.start (h.kp B0.out))
  obtain ⟨T', hT⟩ : ∃ T', sendP ⟨n, sent, e, bs⟩ kk to bb = T' := ⟨_, rfl⟩
  rw [hT]
  have HT := Lib.hid hT
  have SZ := Lib.hid (show (Try.prog.info? 25).map (·.size) = some (Im.vals bb).toArray.size by rw [size45, List.size_toArray, len_vals, hbb])
  have HBB := Lib.hid hbb
  clear hB hmb h hT hbb hx hl'
  go_enter Try.func116, Try.ntmps116
  go_wp2_with fail
  rw [← HB.out, ← HMB.out]
  obtain ⟨wq, hwq⟩ : ∃ wq, wq = { B with drawn := B.drawn + 1 } := ⟨_, rfl⟩
  have BQ := Lib.hid (show Below B.heap.size B wq by rw [hwq]; exact ⟨rfl, rfl, rfl, Nat.le_refl _, fun _ _ => rfl⟩)
  have HWQ := Lib.hid hwq
  clear hwq
  have TQ := Lib.hid (T0.out.kp BQ.out)
  have RQ := Lib.hid ((BQ.out.block _ (Array.getElem?_eq_some_iff.1 R0.out).1).trans R0.out)
  have HFA := Lib.hid (show (fun x : World => x.cell? ⟨tp, 1, none⟩ = some (.slice sa sent.length sc) ∧ x.cell? ⟨tp, 0, none⟩ = some (.int .u32 (n : Int)) ∧ x.heap[mb]? = some (.cells (Im.vals bb).toArray 25 (0, 0))) wq from ⟨TQ.out.tk.t1, TQ.out.tk.t0, RQ.out⟩)
  refine Og.region_S (S := SL [4, 10, 11] (fun x : World => x.cell? ⟨tp, 1, none⟩ = some (.slice sa sent.length sc) ∧ x.cell? ⟨tp, 0, none⟩ = some (.int .u32 (n : Int)) ∧ x.heap[mb]? = some (.cells (Im.vals bb).toArray 25 (0, 0)))) (by kernel_rfl) ?_
  rw [← HWQ.out]
  refine Og.s_take 0 { dst := some 8, op := Go.Op.move (Go.Operand.tmp 0), type := 174, pos := "taking.go:16", after := #[], guard := none } (.pointer (some ⟨tp, 0, none⟩)) _ (by kernel_rfl) (by kernel_rfl) (by kernel_rfl) (by kernel_rfl) (by kernel_rfl) (fun _ _ _ h => h) (fun h => absurd h (by decide)) (fun x' hx => ?_) (by simp only [Act.put, List.setIfInBounds_toArray, List.set_cons_zero, List.set_cons_succ]; rfl) ?_
  · go_simp; try (with_reducible rfl)
  refine Og.s_take 1 { dst := some 9, op := Go.Op.move (Go.Operand.tmp 0), type := 174, pos := "taking.go:16", after := #[], guard := none } (.pointer (some ⟨tp, 0, none⟩)) _ (by kernel_rfl) (by kernel_rfl) (by kernel_rfl) (by kernel_rfl) (by kernel_rfl) (fun _ _ _ h => h) (fun h => absurd h (by decide)) (fun x' hx => ?_) (by simp only [Act.put, List.setIfInBounds_toArray, List.set_cons_zero, List.set_cons_succ]; rfl) ?_
  · go_simp; try (with_reducible rfl)
  refine Og.s_take 2 { dst := some 10, op := Go.Op.nilCheck (Go.Operand.tmp 9), type := 0, pos := "taking.go:16", after := #[{ on := 1, ground := Go.Ground.data }], guard := none } (.pointer (some ⟨tp, 0, none⟩)) _ (by kernel_rfl) (by kernel_rfl) (by kernel_rfl) (by kernel_rfl) (by kernel_rfl) (fun _ _ _ h => h) (fun h => absurd h (by decide)) (fun x' hx => ?_) (by simp only [Act.put, List.setIfInBounds_toArray, List.set_cons_zero, List.set_cons_succ]; rfl) ?_
  · go_simp; try (with_reducible rfl)
  refine Og.s_take 3 { dst := some 11, op := Go.Op.fieldAddr 121 (Go.Operand.tmp 10) 1, type := 0, pos := "taking.go:16", after := #[{ on := 2, ground := Go.Ground.data }], guard := none } (.pointer (some ⟨tp, 1, none⟩)) _ (by kernel_rfl) (by kernel_rfl) (by kernel_rfl) (by kernel_rfl) (by kernel_rfl) (fun _ _ _ h => h) (fun h => absurd h (by decide)) (fun x' hx => ?_) (by simp only [Act.put, List.setIfInBounds_toArray, List.set_cons_zero, List.set_cons_succ]; rfl) ?_
  · go_simp; try (with_reducible rfl)
  refine Og.s_take 4 { dst := some 12, op := Go.Op.load 56 (Go.Operand.tmp 11), type := 56, pos := "taking.go:16", after := #[{ on := 3, ground := Go.Ground.data }], guard := none } (.slice sa sent.length sc) _ (by kernel_rfl) (by kernel_rfl) (by kernel_rfl) (by kernel_rfl) (by kernel_rfl) (fun _ _ _ h => h) (fun _ => HFA.out) (fun x' hx => ?_) (by simp only [Act.put, List.setIfInBounds_toArray, List.set_cons_zero, List.set_cons_succ]; rfl) ?_
  · have hx1 := (hx (by decide)).1; go_simp; try (with_reducible rfl)
  refine Og.s_take 5 { dst := some 13, op := Go.Op.move (Go.Operand.tmp 1), type := 65, pos := "taking.go:16", after := #[], guard := none } (.int .i64 kk) _ (by kernel_rfl) (by kernel_rfl) (by kernel_rfl) (by kernel_rfl) (by kernel_rfl) (fun _ _ _ h => h) (fun h => absurd h (by decide)) (fun x' hx => ?_) (by simp only [Act.put, List.setIfInBounds_toArray, List.set_cons_zero, List.set_cons_succ]; rfl) ?_
  · go_simp; try (with_reducible rfl)
  refine Og.s_take 6 { dst := some 14, op := Go.Op.move (Go.Operand.tmp 2), type := 3, pos := "taking.go:16", after := #[], guard := none } (.int .i64 to) _ (by kernel_rfl) (by kernel_rfl) (by kernel_rfl) (by kernel_rfl) (by kernel_rfl) (fun _ _ _ h => h) (fun h => absurd h (by decide)) (fun x' hx => ?_) (by simp only [Act.put, List.setIfInBounds_toArray, List.set_cons_zero, List.set_cons_succ]; rfl) ?_
  · go_simp; try (with_reducible rfl)
  refine Og.s_take 7 { dst := some 15, op := Go.Op.move (Go.Operand.tmp 0), type := 174, pos := "taking.go:16", after := #[], guard := none } (.pointer (some ⟨tp, 0, none⟩)) _ (by kernel_rfl) (by kernel_rfl) (by kernel_rfl) (by kernel_rfl) (by kernel_rfl) (fun _ _ _ h => h) (fun h => absurd h (by decide)) (fun x' hx => ?_) (by simp only [Act.put, List.setIfInBounds_toArray, List.set_cons_zero, List.set_cons_succ]; rfl) ?_
  · go_simp; try (with_reducible rfl)
  refine Og.s_take 8 { dst := some 16, op := Go.Op.nilCheck (Go.Operand.tmp 15), type := 0, pos := "taking.go:16", after := #[{ on := 7, ground := Go.Ground.data }], guard := none } (.pointer (some ⟨tp, 0, none⟩)) _ (by kernel_rfl) (by kernel_rfl) (by kernel_rfl) (by kernel_rfl) (by kernel_rfl) (fun _ _ _ h => h) (fun h => absurd h (by decide)) (fun x' hx => ?_) (by simp only [Act.put, List.setIfInBounds_toArray, List.set_cons_zero, List.set_cons_succ]; rfl) ?_
  · go_simp; try (with_reducible rfl)
  refine Og.s_take 9 { dst := some 17, op := Go.Op.fieldAddr 121 (Go.Operand.tmp 16) 0, type := 0, pos := "taking.go:16", after := #[{ on := 8, ground := Go.Ground.data }], guard := none } (.pointer (some ⟨tp, 0, none⟩)) _ (by kernel_rfl) (by kernel_rfl) (by kernel_rfl) (by kernel_rfl) (by kernel_rfl) (fun _ _ _ h => h) (fun h => absurd h (by decide)) (fun x' hx => ?_) (by simp only [Act.put, List.setIfInBounds_toArray, List.set_cons_zero, List.set_cons_succ]; rfl) ?_
  · go_simp; try (with_reducible rfl)
  refine Og.s_take 10 { dst := some 18, op := Go.Op.load 23 (Go.Operand.tmp 17), type := 23, pos := "taking.go:16", after := #[{ on := 9, ground := Go.Ground.data }], guard := none } (.int .u32 (n : Int)) _ (by kernel_rfl) (by kernel_rfl) (by kernel_rfl) (by kernel_rfl) (by kernel_rfl) (fun _ _ _ h => h) (fun _ => HFA.out) (fun x' hx => ?_) (by simp only [Act.put, List.setIfInBounds_toArray, List.set_cons_zero, List.set_cons_succ]; rfl) ?_
  · have hx1 := (hx (by decide)).2.1; go_simp; try (with_reducible rfl)
  refine Og.s_take 11 { dst := some 19, op := Go.Op.load 25 (Go.Operand.tmp 7), type := 25, pos := "taking.go:16", after := #[], guard := none } (.agg (Im.vals bb).toArray) _ (by kernel_rfl) (by kernel_rfl) (by kernel_rfl) (by kernel_rfl) (by kernel_rfl) (fun _ _ _ h => h) (fun _ => HFA.out) (fun x' hx => ?_) (by simp only [Act.put, List.setIfInBounds_toArray, List.set_cons_zero, List.set_cons_succ]; rfl) ?_
  · exact Og.load_run 25 (.tmp 7) rfl ⟨mb, 0, none⟩ rfl (run_loadVar_row x' mb 25 25 _ (0, 0) _ (hx (by decide)).2.2 Try.underlying25 rfl SZ.out)
  refine Og.s_take 12 { dst := some 20, op := Go.Op.build 67 #[(0, Go.Operand.tmp 13), (1, Go.Operand.const (Go.Value.int Go.IntKind.i64 4)), (2, Go.Operand.tmp 14), (3, Go.Operand.tmp 18), (4, Go.Operand.tmp 19)], type := 67, pos := "taking.go:16", after := #[{ on := 5, ground := Go.Ground.data }, { on := 6, ground := Go.Ground.data }, { on := 10, ground := Go.Ground.data }, { on := 11, ground := Go.Ground.data }], guard := none } (.agg (cells x).toArray) _ (by kernel_rfl) (by kernel_rfl) (by kernel_rfl) (by kernel_rfl) (by kernel_rfl) (fun _ _ _ h => h) (fun h => absurd h (by decide)) (fun x' hx => ?_) (by simp only [Act.put, List.setIfInBounds_toArray, List.set_cons_zero, List.set_cons_succ]; rfl) ?_
  · rw [HX.out]; exact build_msg HBB.out rfl rfl rfl rfl rfl rfl
  refine Og.s_one 13 { dst := some 21, op := Go.Op.buildSlice 56 1 #[(0, Go.Operand.tmp 20)], type := 56, pos := "taking.go:16", after := #[{ on := 12, ground := Go.Ground.data }], guard := none } (by kernel_rfl) (by kernel_rfl) (by kernel_rfl) ?_
  refine Og.run_to (v := .slice (some ⟨wq.heap.size, 0, none⟩) 1 1) (w' := wq.alloc (.cells (cells x).toArray 67)) (build_to HOK.out (.tmp 20) rfl rfl) ?_
  obtain ⟨nb, hnb⟩ : ∃ nb, nb = wq.heap.size := ⟨_, rfl⟩
  obtain ⟨W4, hW4⟩ : ∃ W4, W4 = wq.alloc (.cells (cells x).toArray 67) := ⟨_, rfl⟩
  have BA := Lib.hid (show Below wq.heap.size wq W4 by rw [hW4]; exact (Below.refl wq.heap.size wq).alloc (Nat.le_refl _) _)
  have Z4 := Lib.hid (show W4.heap[nb]? = some (.cells (cells x).toArray 67 (0, 0)) by rw [hW4, hnb]; exact heap_alloc_new _ _)
  rw [← hW4, ← hnb]
  clear hW4
  have T4 := Lib.hid (TQ.out.kp BA.out)
  have R4 := Lib.hid ((BA.out.block _ (Array.getElem?_eq_some_iff.1 RQ.out).1).trans RQ.out)
  have F4 := Lib.hid (show (fun x : World => x.cell? ⟨tp, 1, none⟩ = some (.slice sa sent.length sc) ∧ x.cell? ⟨tp, 0, none⟩ = some (.int .u32 (n : Int)) ∧ x.heap[mb]? = some (.cells (Im.vals bb).toArray 25 (0, 0))) W4 from ⟨T4.out.tk.t1, T4.out.tk.t0, R4.out⟩)
  refine ⟨keep_sl F4.out, ?_⟩
  obtain ⟨a', c', W5, hr5, ho5, hf5⟩ := append_any T4.out.tk.so T4.out.tk.sok (ls_one HOK.out Z4.out) (by simp only [List.length_singleton]; omega)
  rw [show (⟨n, sent, e, bs⟩ : Tg).sent ++ [x] = l' from HL.out.symm] at hr5 ho5
  obtain ⟨hbx, htw⟩ := T4.out.push ho5 hf5 (fun y hy => by
    rw [HL.out] at hy
    rcases List.mem_append.1 hy with hy | hy
    · exact T4.out.tk.sok y hy
    · obtain rfl : y = x := by simpa using hy
      exact HOK.out)
  have R5 := Lib.hid ((hf5.block mb (Array.getElem?_eq_some_iff.1 R4.out).1 (fun h => by
    have h1 := T0.out.own_sub; have h2 := T4.out.own_sub mb (.inr (.inr (.inr (.inl h))))
    rcases h2 with h2 | h2
    · exact Nat.lt_irrefl _ (OW.out _ h2)
    · have := (Array.getElem?_eq_some_iff.1 R0.out).1; omega)).trans R4.out)
  have HBX := Lib.hid hbx; have TP := Lib.hid htw; have HR5 := Lib.hid hr5
  have F5 := Lib.hid (show (fun x : World => x.cell? ⟨tp, 1, none⟩ = some (.slice sa sent.length sc) ∧ x.cell? ⟨tp, 0, none⟩ = some (.int .u32 (n : Int)) ∧ x.heap[mb]? = some (.cells (Im.vals bb).toArray 25 (0, 0))) W5 from ⟨by rw [cell_of_row _ _ _ _ _ _ HBX.out]; rfl, by rw [cell_of_row _ _ _ _ _ _ HBX.out]; rfl, R5.out⟩)
  clear ho5 hf5 hbx htw hr5
  refine Og.s_one 14 { dst := some 22, op := Go.Op.call { callee := Go.Callee.builtin Go.Builtin.append, args := #[Go.Operand.tmp 12, Go.Operand.tmp 21], argTypes := #[56, 56] }, type := 56, pos := "taking.go:16", after := #[{ on := 4, ground := Go.Ground.data }, { on := 13, ground := Go.Ground.data }], guard := none } (by kernel_rfl) (by kernel_rfl) (by kernel_rfl) ?_
  refine Og.run_to (v := .slice a' l'.length c') (w' := W5) (Og.append_to (.tmp 12) (.tmp 21) 56 rfl rfl rfl HR5.out) ⟨keep_sl F5.out, ?_⟩
  refine Og.s_take 15 { dst := some 23, op := Go.Op.nilCheck (Go.Operand.tmp 8), type := 0, pos := "taking.go:16", after := #[{ on := 0, ground := Go.Ground.data }, { on := 0, ground := Go.Ground.phase }, { on := 1, ground := Go.Ground.phase }, { on := 2, ground := Go.Ground.phase }, { on := 3, ground := Go.Ground.phase }, { on := 4, ground := Go.Ground.phase }, { on := 5, ground := Go.Ground.phase }, { on := 6, ground := Go.Ground.phase }, { on := 7, ground := Go.Ground.phase }, { on := 8, ground := Go.Ground.phase }, { on := 9, ground := Go.Ground.phase }, { on := 10, ground := Go.Ground.phase }, { on := 11, ground := Go.Ground.phase }, { on := 12, ground := Go.Ground.phase }, { on := 13, ground := Go.Ground.phase }, { on := 14, ground := Go.Ground.phase }], guard := none } (.pointer (some ⟨tp, 0, none⟩)) _ (by kernel_rfl) (by kernel_rfl) (by kernel_rfl) (by kernel_rfl) (by kernel_rfl) (fun _ _ _ h => h) (fun h => absurd h (by decide)) (fun x' hx => ?_) (by simp only [Act.put, List.setIfInBounds_toArray, List.set_cons_zero, List.set_cons_succ]; rfl) ?_
  · go_simp; try (with_reducible rfl)
  refine Og.s_take 16 { dst := some 24, op := Go.Op.fieldAddr 121 (Go.Operand.tmp 23) 1, type := 0, pos := "taking.go:16", after := #[{ on := 15, ground := Go.Ground.data }, { on := 0, ground := Go.Ground.phase }, { on := 1, ground := Go.Ground.phase }, { on := 2, ground := Go.Ground.phase }, { on := 3, ground := Go.Ground.phase }, { on := 4, ground := Go.Ground.phase }, { on := 5, ground := Go.Ground.phase }, { on := 6, ground := Go.Ground.phase }, { on := 7, ground := Go.Ground.phase }, { on := 8, ground := Go.Ground.phase }, { on := 9, ground := Go.Ground.phase }, { on := 10, ground := Go.Ground.phase }, { on := 11, ground := Go.Ground.phase }, { on := 12, ground := Go.Ground.phase }, { on := 13, ground := Go.Ground.phase }, { on := 14, ground := Go.Ground.phase }], guard := none } (.pointer (some ⟨tp, 1, none⟩)) _ (by kernel_rfl) (by kernel_rfl) (by kernel_rfl) (by kernel_rfl) (by kernel_rfl) (fun _ _ _ h => h) (fun h => absurd h (by decide)) (fun x' hx => ?_) (by simp only [Act.put, List.setIfInBounds_toArray, List.set_cons_zero, List.set_cons_succ]; rfl) ?_
  · go_simp; try (with_reducible rfl)
  refine Og.s_one 17 { dst := none, op := Go.Op.store 56 (Go.Operand.tmp 24) (Go.Operand.tmp 22), type := 0, pos := "taking.go:16", after := #[{ on := 16, ground := Go.Ground.data }, { on := 14, ground := Go.Ground.data }, { on := 14, ground := Go.Ground.chain }, { on := 0, ground := Go.Ground.phase }, { on := 1, ground := Go.Ground.phase }, { on := 2, ground := Go.Ground.phase }, { on := 3, ground := Go.Ground.phase }, { on := 4, ground := Go.Ground.phase }, { on := 5, ground := Go.Ground.phase }, { on := 6, ground := Go.Ground.phase }, { on := 7, ground := Go.Ground.phase }, { on := 8, ground := Go.Ground.phase }, { on := 9, ground := Go.Ground.phase }, { on := 10, ground := Go.Ground.phase }, { on := 11, ground := Go.Ground.phase }, { on := 12, ground := Go.Ground.phase }, { on := 13, ground := Go.Ground.phase }, { on := 14, ground := Go.Ground.phase }], guard := none } (by kernel_rfl) (by kernel_rfl) (by kernel_rfl) ?_
  refine Og.skip_to (w' := W5.setRow tp (tcells n a' l'.length c' ep mp)) (put_to 56 (.tmp 24) (.tmp 22) rfl tp 1 (.slice a' l'.length c') rfl rfl 125 _ HBX.out (by kernel_rfl) (Nat.le_of_ble_eq_true rfl) (one_slice _ _ _) _ rfl) ⟨keep_end (o := { dst := none, op := Go.Op.store 56 (Go.Operand.tmp 24) (Go.Operand.tmp 22), type := 0, pos := "taking.go:16", after := #[{ on := 16, ground := Go.Ground.data }, { on := 14, ground := Go.Ground.data }, { on := 14, ground := Go.Ground.chain }, { on := 0, ground := Go.Ground.phase }, { on := 1, ground := Go.Ground.phase }, { on := 2, ground := Go.Ground.phase }, { on := 3, ground := Go.Ground.phase }, { on := 4, ground := Go.Ground.phase }, { on := 5, ground := Go.Ground.phase }, { on := 6, ground := Go.Ground.phase }, { on := 7, ground := Go.Ground.phase }, { on := 8, ground := Go.Ground.phase }, { on := 9, ground := Go.Ground.phase }, { on := 10, ground := Go.Ground.phase }, { on := 11, ground := Go.Ground.phase }, { on := 12, ground := Go.Ground.phase }, { on := 13, ground := Go.Ground.phase }, { on := 14, ground := Go.Ground.phase }], guard := none }) (by kernel_rfl) (by kernel_rfl), ?_⟩
  refine Og.s_done (by kernel_rfl) ?_ _
  try simp only [Act.put, List.setIfInBounds_toArray, List.set_cons_zero, List.set_cons_succ]
  go_wp2_with fail
  go_end0
  refine ⟨rfl, TT.before B0.out ?_⟩
  have e : T' = ⟨n, l', e, bs⟩ := by rw [← HT.out, HL.out, HX.out]; rfl
  rw [e]
  exact TP.out.tt
end
end Hm
end Go.Proofs.Ytfajkgbpeapcbaa
end
