/-
  The contract of Drop.
-/
import Derived.Test.YtifniogldinbdaaLnDel
namespace Go.Proofs.Ytifniogldinbdaa
open Go.RowKit
set_option linter.unusedVariables false
set_option linter.unusedSimpArgs false
theorem Og.call_to {P : Program} {o : Oper} {a : Act} {w w1 : World} {f : FuncId} {args : Array Value} {K : Act → World → Prop} {Q : Exit → Act → World → Prop} (h : (execOp a.eval o).run P w = .ok (.enter f args) w1) (hc : Calls P f args w1 fun e w' => ∃ v, e = .returned v ∧ K (a.put o.dst v) w') : o.wp P a w K Q := by
  unfold Oper.wp
  rw [h, Oper.upon_enter]
  refine hc.mono ?_
  rintro e w' ⟨v, rfl, hk⟩
  exact hk
namespace Ln
def dropQ (Q : List (List E)) (n : Int) : List (List E) :=
  if 0 ≤ ix (rowQ Q n) n 0 then Q.set (sQ Q n) ((rowQ Q n).eraseIdx (ix (rowQ Q n) n 0).toNat) else Q
theorem Cin.erase {w : World} {F p g ways S} (h : Cin w F p g ways S) {i k k1 : Nat} {r : RW} (hr : S[i]? = some r) (hk1 : k1 = k + 1) (hk : k < r.l.length) :
    ∃ b : Nat, r.a = some ⟨b, 0, none⟩ ∧ Calls Try.prog 37 #[.slice (some ⟨b, 0, none⟩) r.l.length r.c, .int .i64 (k : Int), .int .i64 (k1 : Int)] w fun e w' => e = .returned (.slice (some ⟨b, 0, none⟩) (r.l.length - 1) r.c) ∧
      w.grownBy w' (some b) ∧ w'.heap[g]? = some (.cells (S.map RW.v).toArray 38 (0, 0)) ∧ Turns F w (w'.setCell ⟨g, i, none⟩ (.slice (some ⟨b, 0, none⟩) (r.l.length - 1) r.c)) p ways ((S.map (·.l)).set i (r.l.eraseIdx k)) := by
  have hrow := h.rows i r hr
  have hokr := h.ok r (List.mem_of_getElem? hr)
  have hfit := h.fits r (List.mem_of_getElem? hr)
  have hw8 := h.wlen
  rcases hrow.2 with ⟨e1, hn⟩ | ⟨b, cap, cur, e1, hb0, hb, hnc, hcm, hcs, ht⟩
  · omega
  · unfold RW.v at e1
    injection e1 with e1 _ e3
    have hov : r.v.ownBlock = some b := by unfold RW.v; rw [e1]; rfl
    refine ⟨b, e1, ?_⟩
    rw [e3]
    refine (del_any r.l hokr b cap k k1 hk1 hk cur w hb hcs hnc (by omega) hcm ht).mono ?_
    rintro e w' ⟨rfl, hg, cur', hb', hcs', ht'⟩
    have hel : (r.l.eraseIdx k).length = r.l.length - 1 := by rw [List.length_eraseIdx, if_pos hk]
    have hoe : ∀ x ∈ r.l.eraseIdx k, Ok x := fun x hx => hokr x (List.mem_of_mem_eraseIdx hx)
    have hv : (⟨some ⟨b, 0, none⟩, cap, r.l.eraseIdx k⟩ : RW).v = .slice (some ⟨b, 0, none⟩) (r.l.length - 1) cap := by unfold RW.v; rw [hel]
    obtain ⟨k1', k2⟩ := h.put_row (r' := ⟨some ⟨b, 0, none⟩, cap, r.l.eraseIdx k⟩) hr hg.os hg.tape hg.output hg.size (fun j hj hne => hg.block j hj (by rw [← hov]; exact hne)) ⟨by rw [flat_len hoe], .inr ⟨b, cap, cur', hv.trans (by rw [hel]), Nat.zero_le _, hb', by rw [hel]; omega, hcm, hcs', by rw [hel]; exact ht'⟩⟩ (fun j hj => .inl (by
      rw [hov]
      have : (⟨some ⟨b, 0, none⟩, cap, r.l.eraseIdx k⟩ : RW).v.ownBlock = some b := rfl
      rw [this] at hj; exact hj)) hoe (by rw [hel]; omega)
    rw [hv] at k2
    exact ⟨rfl, hg, k1', k2⟩
end Ln
set_option maxRecDepth 100000 in
theorem drop_nil (n : Int) (w : World) : Calls Try.prog 15 #[.pointer none, .int .u32 n] w fun x w' => x = .returned (.bool false) ∧ w = w' := by
  go_enter Try.func15, Try.ntmps15
  go_wp2_with (go_at_call 32; refine (seek_nil n w).mono ?_; rintro e' W2 ⟨rfl, hw⟩; subst hw)
  go_ret
  exact ⟨rfl, rfl⟩
set_option maxRecDepth 100000 in
set_option maxHeartbeats 4000000 in
theorem drop_any (n : Int) (hn : Ev.u32B n) (w : World) {F p ways Q} (h : Ln.Cache w F p ways Q) :
    Calls Try.prog 15 #[.pointer (some ⟨p, 0, none⟩), .int .u32 n] w fun x w' => x = .returned (.bool (decide (0 ≤ Ln.ix (Ln.rowQ Q n) n 0))) ∧ Ln.Turns F w w' p ways (Ln.dropQ Q n) := by
  have HCA := Lib.hid h
  obtain ⟨g, S, hc, rfl⟩ := h
  obtain ⟨i, r, hi, hr, hq⟩ := hc.at_ n
  have HQ1 := Lib.hid (show Ln.sQ (S.map (·.l)) n = i by unfold Ln.sQ; rw [List.length_map]; exact hi)
  have HQ := Lib.hid hq
  have HC := Lib.hid hc
  have HR := Lib.hid hr
  have hil := (List.getElem?_eq_some_iff.1 hr).1
  have hii : (i : Int) < (S.length : Int) := by omega
  have hl := hc.len
  have hf := hc.fits r (List.mem_of_getElem? hr)
  have hw8 := hc.wlen
  have KS := Lib.hid (seek_any n hn w hc hi hr)
  clear hc hr hi hq hn
  by_cases h0 : 0 ≤ Ln.ix r.l n 0
  · obtain ⟨k, e0, e1, e2, e3, e4⟩ := Ln.fd_at h0
    have hkl := (List.getElem?_eq_some_iff.1 e2).1
    obtain ⟨k1, hk1⟩ : ∃ k1, k1 = k + 1 := ⟨_, rfl⟩
    have hki : (k : Int) < (r.l.length : Int) := by omega
    have SK1 := KS.out
    rw [e1] at SK1
    rw [show decide (0 ≤ (k : Int)) = true from decide_eq_true (by omega)] at SK1
    have SK2 := Lib.hid SK1
    have HE1 := Lib.hid e1
    have HH0 := Lib.hid h0
    clear SK1 e1 e2 e3 h0 e4
    go_enter Try.func15, Try.ntmps15
    go_wp2_with (go_at_call 32; refine SK2.out.mono ?_; rintro e' WB ⟨rfl, hb2⟩
                 have B2 := Lib.hid hb2
                 have C2 := Lib.hid (HC.out.kp hb2)
                 clear hb2)
    obtain ⟨wq, hwq⟩ : ∃ wq, wq = { WB with drawn := WB.drawn + 1 } := ⟨_, rfl⟩
    have BQ := Lib.hid (show Below WB.heap.size WB wq by rw [hwq]; exact ⟨rfl, rfl, rfl, Nat.le_refl _, fun _ _ => rfl⟩)
    have HWQ := Lib.hid hwq
    clear hwq
    have CQ := Lib.hid (C2.out.kp BQ.out)
    obtain ⟨b, hea, hd⟩ := CQ.out.erase HR.out hk1 hkl
    have HEA := Lib.hid hea; have DEL := Lib.hid hd
    have HPB := Lib.hid (show some p ≠ some b by have := CQ.out.p_ne HR.out; unfold Ln.RW.v at this; rw [hea] at this; exact this)
    have HK1 := Lib.hid hk1
    clear hea hd hk1
    have HFA := Lib.hid (show (fun x : World => x.cell? ⟨p, 0, none⟩ = some (.slice (some ⟨g, 0, none⟩) S.length S.length) ∧ x.cell? ⟨g, i, none⟩ = some (.slice (some ⟨b, 0, none⟩) r.l.length r.c)) wq from ⟨CQ.out.c0, by have := CQ.out.cs HR.out; rw [HEA.out] at this; exact this⟩)
    refine Og.region_S (S := Og.SF 15 (fun x : World => x.cell? ⟨p, 0, none⟩ = some (.slice (some ⟨g, 0, none⟩) S.length S.length) ∧ x.cell? ⟨g, i, none⟩ = some (.slice (some ⟨b, 0, none⟩) r.l.length r.c))) (by kernel_rfl) ?_
    rw [← HWQ.out]
    refine Og.s_take 0 { dst := some 16, op := Go.Op.move (Go.Operand.tmp 0), type := 22, pos := "lines.go:58", after := #[], guard := none } (.pointer (some ⟨p, 0, none⟩)) _ (by kernel_rfl) (by kernel_rfl) (by kernel_rfl) (by kernel_rfl) (by kernel_rfl) (fun _ _ _ h => h) (fun _ => HFA.out) (fun x' hx => ?_) (by simp only [Act.put, List.setIfInBounds_toArray, List.set_cons_zero, List.set_cons_succ]; rfl) ?_
    · go_simp; try (with_reducible rfl)
    refine Og.s_take 1 { dst := some 17, op := Go.Op.nilCheck (Go.Operand.tmp 16), type := 0, pos := "lines.go:58", after := #[{ on := 0, ground := Go.Ground.data }], guard := none } (.pointer (some ⟨p, 0, none⟩)) _ (by kernel_rfl) (by kernel_rfl) (by kernel_rfl) (by kernel_rfl) (by kernel_rfl) (fun _ _ _ h => h) (fun _ => HFA.out) (fun x' hx => ?_) (by simp only [Act.put, List.setIfInBounds_toArray, List.set_cons_zero, List.set_cons_succ]; rfl) ?_
    · go_simp; try (with_reducible rfl)
    refine Og.s_take 2 { dst := some 18, op := Go.Op.fieldAddr 71 (Go.Operand.tmp 17) 0, type := 0, pos := "lines.go:58", after := #[{ on := 1, ground := Go.Ground.data }], guard := none } (.pointer (some ⟨p, 0, none⟩)) _ (by kernel_rfl) (by kernel_rfl) (by kernel_rfl) (by kernel_rfl) (by kernel_rfl) (fun _ _ _ h => h) (fun _ => HFA.out) (fun x' hx => ?_) (by simp only [Act.put, List.setIfInBounds_toArray, List.set_cons_zero, List.set_cons_succ]; rfl) ?_
    · go_simp; try (with_reducible rfl)
    refine Og.s_take 3 { dst := some 19, op := Go.Op.load 69 (Go.Operand.tmp 18), type := 69, pos := "lines.go:58", after := #[{ on := 2, ground := Go.Ground.data }], guard := none } (.slice (some ⟨g, 0, none⟩) S.length S.length) _ (by kernel_rfl) (by kernel_rfl) (by kernel_rfl) (by kernel_rfl) (by kernel_rfl) (fun _ _ _ h => h) (fun _ => HFA.out) (fun x' hx => ?_) (by simp only [Act.put, List.setIfInBounds_toArray, List.set_cons_zero, List.set_cons_succ]; rfl) ?_
    · have hx1 := (hx (by decide)).1; go_simp; try (with_reducible rfl)
    refine Og.s_take 4 { dst := some 20, op := Go.Op.move (Go.Operand.tmp 5), type := 3, pos := "lines.go:58", after := #[], guard := none } (.int .i64 (i : Int)) _ (by kernel_rfl) (by kernel_rfl) (by kernel_rfl) (by kernel_rfl) (by kernel_rfl) (fun _ _ _ h => h) (fun _ => HFA.out) (fun x' hx => ?_) (by simp only [Act.put, List.setIfInBounds_toArray, List.set_cons_zero, List.set_cons_succ]; rfl) ?_
    · go_simp; try (with_reducible rfl)
    refine Og.s_take 5 { dst := some 21, op := Go.Op.move (Go.Operand.tmp 0), type := 22, pos := "lines.go:58", after := #[], guard := none } (.pointer (some ⟨p, 0, none⟩)) _ (by kernel_rfl) (by kernel_rfl) (by kernel_rfl) (by kernel_rfl) (by kernel_rfl) (fun _ _ _ h => h) (fun _ => HFA.out) (fun x' hx => ?_) (by simp only [Act.put, List.setIfInBounds_toArray, List.set_cons_zero, List.set_cons_succ]; rfl) ?_
    · go_simp; try (with_reducible rfl)
    refine Og.s_take 6 { dst := some 22, op := Go.Op.nilCheck (Go.Operand.tmp 21), type := 0, pos := "lines.go:58", after := #[{ on := 5, ground := Go.Ground.data }], guard := none } (.pointer (some ⟨p, 0, none⟩)) _ (by kernel_rfl) (by kernel_rfl) (by kernel_rfl) (by kernel_rfl) (by kernel_rfl) (fun _ _ _ h => h) (fun _ => HFA.out) (fun x' hx => ?_) (by simp only [Act.put, List.setIfInBounds_toArray, List.set_cons_zero, List.set_cons_succ]; rfl) ?_
    · go_simp; try (with_reducible rfl)
    refine Og.s_take 7 { dst := some 23, op := Go.Op.fieldAddr 71 (Go.Operand.tmp 22) 0, type := 0, pos := "lines.go:58", after := #[{ on := 6, ground := Go.Ground.data }], guard := none } (.pointer (some ⟨p, 0, none⟩)) _ (by kernel_rfl) (by kernel_rfl) (by kernel_rfl) (by kernel_rfl) (by kernel_rfl) (fun _ _ _ h => h) (fun _ => HFA.out) (fun x' hx => ?_) (by simp only [Act.put, List.setIfInBounds_toArray, List.set_cons_zero, List.set_cons_succ]; rfl) ?_
    · go_simp; try (with_reducible rfl)
    refine Og.s_take 8 { dst := some 24, op := Go.Op.load 69 (Go.Operand.tmp 23), type := 69, pos := "lines.go:58", after := #[{ on := 7, ground := Go.Ground.data }], guard := none } (.slice (some ⟨g, 0, none⟩) S.length S.length) _ (by kernel_rfl) (by kernel_rfl) (by kernel_rfl) (by kernel_rfl) (by kernel_rfl) (fun _ _ _ h => h) (fun _ => HFA.out) (fun x' hx => ?_) (by simp only [Act.put, List.setIfInBounds_toArray, List.set_cons_zero, List.set_cons_succ]; rfl) ?_
    · have hx1 := (hx (by decide)).1; go_simp; try (with_reducible rfl)
    refine Og.s_take 9 { dst := some 25, op := Go.Op.move (Go.Operand.tmp 5), type := 3, pos := "lines.go:58", after := #[], guard := none } (.int .i64 (i : Int)) _ (by kernel_rfl) (by kernel_rfl) (by kernel_rfl) (by kernel_rfl) (by kernel_rfl) (fun _ _ _ h => h) (fun _ => HFA.out) (fun x' hx => ?_) (by simp only [Act.put, List.setIfInBounds_toArray, List.set_cons_zero, List.set_cons_succ]; rfl) ?_
    · go_simp; try (with_reducible rfl)
    refine Og.s_take 10 { dst := some 26, op := Go.Op.indexAddr 69 (Go.Operand.tmp 24) (Go.Operand.tmp 25), type := 0, pos := "lines.go:58", after := #[{ on := 8, ground := Go.Ground.data }, { on := 9, ground := Go.Ground.data }], guard := none } (.pointer (some ⟨g, i, none⟩)) _ (by kernel_rfl) (by kernel_rfl) (by kernel_rfl) (by kernel_rfl) (by kernel_rfl) (fun _ _ _ h => h) (fun _ => HFA.out) (fun x' hx => ?_) (by simp only [Act.put, List.setIfInBounds_toArray, List.set_cons_zero, List.set_cons_succ]; rfl) ?_
    · go_simp; try (with_reducible rfl)
    refine Og.s_take 11 { dst := some 27, op := Go.Op.load 38 (Go.Operand.tmp 26), type := 38, pos := "lines.go:58", after := #[{ on := 10, ground := Go.Ground.data }], guard := none } (.slice (some ⟨b, 0, none⟩) r.l.length r.c) _ (by kernel_rfl) (by kernel_rfl) (by kernel_rfl) (by kernel_rfl) (by kernel_rfl) (fun _ _ _ h => h) (fun _ => HFA.out) (fun x' hx => ?_) (by simp only [Act.put, List.setIfInBounds_toArray, List.set_cons_zero, List.set_cons_succ]; rfl) ?_
    · have hx1 := (hx (by decide)).2; go_simp; try (with_reducible rfl)
    refine Og.s_take 12 { dst := some 28, op := Go.Op.move (Go.Operand.tmp 6), type := 3, pos := "lines.go:58", after := #[], guard := none } (.int .i64 (k : Int)) _ (by kernel_rfl) (by kernel_rfl) (by kernel_rfl) (by kernel_rfl) (by kernel_rfl) (fun _ _ _ h => h) (fun _ => HFA.out) (fun x' hx => ?_) (by simp only [Act.put, List.setIfInBounds_toArray, List.set_cons_zero, List.set_cons_succ]; rfl) ?_
    · go_simp; try (with_reducible rfl)
    refine Og.s_take 13 { dst := some 29, op := Go.Op.move (Go.Operand.tmp 6), type := 3, pos := "lines.go:58", after := #[], guard := none } (.int .i64 (k : Int)) _ (by kernel_rfl) (by kernel_rfl) (by kernel_rfl) (by kernel_rfl) (by kernel_rfl) (fun _ _ _ h => h) (fun _ => HFA.out) (fun x' hx => ?_) (by simp only [Act.put, List.setIfInBounds_toArray, List.set_cons_zero, List.set_cons_succ]; rfl) ?_
    · go_simp; try (with_reducible rfl)
    refine Og.s_take 14 { dst := some 30, op := Go.Op.binOp Go.BinOp.add 3 (Go.Operand.tmp 29) (Go.Operand.const (Go.Value.int Go.IntKind.i64 1)) 3, type := 3, pos := "lines.go:58", after := #[{ on := 13, ground := Go.Ground.data }], guard := none } (.int .i64 (k1 : Int)) _ (by kernel_rfl) (by kernel_rfl) (by kernel_rfl) (by kernel_rfl) (by kernel_rfl) (fun _ _ _ h => h) (fun _ => HFA.out) (fun x' hx => ?_) (by simp only [Act.put, List.setIfInBounds_toArray, List.set_cons_zero, List.set_cons_succ]; rfl) ?_
    · have hk1 := HK1.out; go_simp; rw [IntKind.wrap_i64]; omega
    refine Og.s_one 15 { dst := some 31, op := Go.Op.call { callee := Go.Callee.value (Go.Operand.func 37), args := #[Go.Operand.tmp 27, Go.Operand.tmp 28, Go.Operand.tmp 30], argTypes := #[38, 3, 3] }, type := 38, pos := "lines.go:58", after := #[{ on := 11, ground := Go.Ground.data }, { on := 12, ground := Go.Ground.data }, { on := 14, ground := Go.Ground.data }], guard := none } (by kernel_rfl) (by kernel_rfl) (by kernel_rfl) ?_
    refine Og.call_to (w1 := wq) (f := 37) (args := #[.slice (some ⟨b, 0, none⟩) r.l.length r.c, .int .i64 (k : Int), .int .i64 (k1 : Int)]) (by go_simp) ?_
    refine DEL.out.mono ?_
    rintro e' w9 ⟨rfl, hg9, hh9, ht9⟩
    have HT9 := Lib.hid ht9; have HG9 := Lib.hid hg9; have HH9 := Lib.hid hh9
    clear ht9 hg9 hh9
    refine ⟨_, rfl, Og.keep_sf (fun _ => ⟨(World.cell?_of_block (HG9.out.block p (World.block_lt_of_cell? _ _ HFA.out.1) HPB.out)).trans HFA.out.1, by rw [cell_of_row _ _ _ _ _ _ HH9.out]; have h1 := CQ.out.cs HR.out; rw [cell_of_row _ _ _ _ _ _ CQ.out.sets, HEA.out] at h1; exact h1⟩), ?_⟩
    refine Og.s_take 16 { dst := some 32, op := Go.Op.indexAddr 69 (Go.Operand.tmp 19) (Go.Operand.tmp 20), type := 0, pos := "lines.go:58", after := #[{ on := 3, ground := Go.Ground.data }, { on := 4, ground := Go.Ground.data }, { on := 0, ground := Go.Ground.phase }, { on := 1, ground := Go.Ground.phase }, { on := 2, ground := Go.Ground.phase }, { on := 3, ground := Go.Ground.phase }, { on := 4, ground := Go.Ground.phase }, { on := 5, ground := Go.Ground.phase }, { on := 6, ground := Go.Ground.phase }, { on := 7, ground := Go.Ground.phase }, { on := 8, ground := Go.Ground.phase }, { on := 9, ground := Go.Ground.phase }, { on := 10, ground := Go.Ground.phase }, { on := 11, ground := Go.Ground.phase }, { on := 12, ground := Go.Ground.phase }, { on := 13, ground := Go.Ground.phase }, { on := 14, ground := Go.Ground.phase }, { on := 15, ground := Go.Ground.phase }], guard := none } (.pointer (some ⟨g, i, none⟩)) _ (by kernel_rfl) (by kernel_rfl) (by kernel_rfl) (by kernel_rfl) (by kernel_rfl) (fun _ _ _ h => h) (fun h => absurd h (by decide)) (fun x' hx => ?_) (by simp only [Act.put, List.setIfInBounds_toArray, List.set_cons_zero, List.set_cons_succ]; rfl) ?_
    · go_simp; try (with_reducible rfl)
    refine Og.s_one 17 { dst := none, op := Go.Op.store 38 (Go.Operand.tmp 32) (Go.Operand.tmp 31), type := 0, pos := "lines.go:58", after := #[{ on := 16, ground := Go.Ground.data }, { on := 15, ground := Go.Ground.data }, { on := 15, ground := Go.Ground.chain }, { on := 0, ground := Go.Ground.phase }, { on := 1, ground := Go.Ground.phase }, { on := 2, ground := Go.Ground.phase }, { on := 3, ground := Go.Ground.phase }, { on := 4, ground := Go.Ground.phase }, { on := 5, ground := Go.Ground.phase }, { on := 6, ground := Go.Ground.phase }, { on := 7, ground := Go.Ground.phase }, { on := 8, ground := Go.Ground.phase }, { on := 9, ground := Go.Ground.phase }, { on := 10, ground := Go.Ground.phase }, { on := 11, ground := Go.Ground.phase }, { on := 12, ground := Go.Ground.phase }, { on := 13, ground := Go.Ground.phase }, { on := 14, ground := Go.Ground.phase }, { on := 15, ground := Go.Ground.phase }], guard := none } (by kernel_rfl) (by kernel_rfl) (by kernel_rfl) ?_
    refine Og.skip_to (Og.store_to 38 (.tmp 32) (.tmp 31) rfl rfl rfl Ln.info_row1 (u := r.v) (by rw [cell_of_row _ _ _ _ _ _ HH9.out]; simp [HR.out]) (Ln.free_row HH9.out)) ⟨Og.keep_last (o := { dst := none, op := Go.Op.store 38 (Go.Operand.tmp 32) (Go.Operand.tmp 31), type := 0, pos := "lines.go:58", after := #[{ on := 16, ground := Go.Ground.data }, { on := 15, ground := Go.Ground.data }, { on := 15, ground := Go.Ground.chain }, { on := 0, ground := Go.Ground.phase }, { on := 1, ground := Go.Ground.phase }, { on := 2, ground := Go.Ground.phase }, { on := 3, ground := Go.Ground.phase }, { on := 4, ground := Go.Ground.phase }, { on := 5, ground := Go.Ground.phase }, { on := 6, ground := Go.Ground.phase }, { on := 7, ground := Go.Ground.phase }, { on := 8, ground := Go.Ground.phase }, { on := 9, ground := Go.Ground.phase }, { on := 10, ground := Go.Ground.phase }, { on := 11, ground := Go.Ground.phase }, { on := 12, ground := Go.Ground.phase }, { on := 13, ground := Go.Ground.phase }, { on := 14, ground := Go.Ground.phase }, { on := 15, ground := Go.Ground.phase }], guard := none }) (by kernel_rfl) (by kernel_rfl), ?_⟩
    obtain ⟨w10, hw10⟩ : ∃ w10, w10 = w9.setCell ⟨g, i, none⟩ (.slice (some ⟨b, 0, none⟩) (r.l.length - 1) r.c) := ⟨_, rfl⟩
    rw [← hw10]
    have HT10 := Lib.hid (show Ln.Turns F wq w10 p ways ((S.map (·.l)).set i (r.l.eraseIdx k)) by rw [hw10]; exact HT9.out)
    clear hw10
    refine Og.s_done (by kernel_rfl) ?_ _
    try simp only [Act.put, List.setIfInBounds_toArray, List.set_cons_zero, List.set_cons_succ]
    go_wp2_with fail
    go_ret
    have EQ := HQ.out
    refine ⟨by rw [EQ, show decide (0 ≤ Ln.ix r.l n 0) = true from decide_eq_true HH0.out]; rfl, ?_⟩
    unfold Ln.dropQ
    rw [EQ, if_pos HH0.out, HE1.out, HQ1.out, Int.toNat_natCast]
    exact (HT10.out.before BQ.out).before B2.out
  · have SK1 := KS.out
    rw [(Ln.ix_none (by omega : Ln.ix r.l n 0 < 0)).1] at SK1
    rw [show decide (0 ≤ (-1 : Int)) = false from rfl] at SK1
    have SK2 := Lib.hid SK1
    have HH0 := Lib.hid h0
    clear SK1 h0
    go_enter Try.func15, Try.ntmps15
    go_wp2_with (go_at_call 32; refine SK2.out.mono ?_; rintro e' WB ⟨rfl, hb2⟩
                 have B2 := Lib.hid hb2
                 clear hb2)
    go_ret
    have EQ := HQ.out
    refine ⟨by rw [EQ, show decide (0 ≤ Ln.ix r.l n 0) = false from decide_eq_false (by have := HH0.out; omega)]; rfl, ?_⟩
    unfold Ln.dropQ
    rw [EQ, if_neg (by have := HH0.out; omega)]
    exact Ln.Turns.same HCA.out B2.out
end Go.Proofs.Ytifniogldinbdaa
