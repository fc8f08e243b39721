/-
  The contract of Victim.
-/
import Derived.Test.YtifniogldinbdaaLnDrop
namespace Go.Proofs.Ytifniogldinbdaa
open Go.RowKit
set_option linter.unusedVariables false
set_option linter.unusedSimpArgs false
namespace Ln
/-- the line that is to make room -/
def vic (ways : Nat) (Q : List (List E)) (n pick : Int) : Option E :=
  if 0 ≤ ix (rowQ Q n) n 0 then none else if (rowQ Q n).length = ways then (rowQ Q n)[(pick % (ways : Int)).toNat]? else none
def optV (o : Option E) : Value := .tuple #[EV (o.getD E0), .bool o.isSome]
end Ln
set_option maxRecDepth 100000 in
set_option maxHeartbeats 2000000 in
theorem victim_nil (n pick : Int) (w : World) : Calls Try.prog 12 #[.pointer none, .int .u32 n, .int .i64 pick] w fun e w' => e = .returned (Ln.optV none) ∧ Below w.heap.size w w' := by
  obtain ⟨B, hB⟩ : ∃ B, B = w.alloc (.cells #[.int .u32 0, .int .i64 0, .int .u8 0, .int .u8 0, .int .u8 0, .int .u8 0, .int .u8 0, .int .u8 0, .int .u8 0, .int .u8 0, .int .u8 0, .int .u8 0, .int .u8 0, .int .u8 0, .int .u8 0, .int .u8 0, .int .u8 0, .int .u8 0] 30) := ⟨_, rfl⟩
  have HB := Lib.hid hB
  have B0 := Lib.hid (show Below w.heap.size w B by rw [hB]; exact (Below.refl w.heap.size w).alloc (Nat.le_refl _) _)
  have R0 := Lib.hid (show B.heap[w.heap.size]? = some (.cells (Ln.cells Ln.E0).toArray 30 (0, 0)) by rw [hB]; exact heap_alloc_new _ _)
  clear hB
  go_enter Try.func12, Try.ntmps12
  go_wp2_with (first
    | (go_at_call 32; rw [← HB.out]; refine (seek_nil n B).mono ?_; rintro e W2 ⟨rfl, hw⟩; subst hw)
    | (go_at_call 33; refine (isNone_nil B).mono ?_; rintro e W2 ⟨rfl, hw⟩; subst hw)
    | ((with_reducible show wpList _ _ _ (Oper.mk none (Op.store 30 _ _) _ _ _ _ :: _) _ _); refine wpList_store_own rfl 30 (.tmp 6) (.tmp 29) rfl w.heap.size (Ln.cells Ln.E0).toArray rfl rfl 30 _ R0.out Ln.size_line rfl (by kernel_rfl) ?_
       intro W1 HW1
       have B1 := Lib.hid (B0.out.trans HW1.below)
       have R1 := Lib.hid HW1.row
       clear HW1))
  exact bodyPost_ret (Ln.res2 (fn := Try.f12) rfl _ _ w.heap.size 30 (Ln.cells Ln.E0).toArray (0, 0) _ rfl R1.out Try.underlying30 rfl Ln.size_line) rfl ⟨rfl, B1.out⟩
set_option maxRecDepth 100000 in
set_option maxHeartbeats 4000000 in
theorem victim_any (n pick : Int) (hn : Ev.u32B n) (hp : Ev.i64B pick) (w : World) {F p ways Q} (h : Ln.Cache w F p ways Q) :
    Calls Try.prog 12 #[.pointer (some ⟨p, 0, none⟩), .int .u32 n, .int .i64 pick] w fun e w' => e = .returned (Ln.optV (Ln.vic ways Q n pick)) ∧ Below w.heap.size w w' := by
  obtain ⟨g, S, hc, rfl⟩ := h
  obtain ⟨i, r, hi, hr, hq⟩ := hc.at_ n
  have HQ := Lib.hid hq
  obtain ⟨vb, hvb⟩ : ∃ vb, vb = w.heap.size := ⟨_, rfl⟩
  have HVB := Lib.hid hvb
  obtain ⟨B, hB⟩ : ∃ B, B = w.alloc (.cells #[.int .u32 0, .int .i64 0, .int .u8 0, .int .u8 0, .int .u8 0, .int .u8 0, .int .u8 0, .int .u8 0, .int .u8 0, .int .u8 0, .int .u8 0, .int .u8 0, .int .u8 0, .int .u8 0, .int .u8 0, .int .u8 0, .int .u8 0, .int .u8 0] 30) := ⟨_, rfl⟩
  have HB := Lib.hid hB
  have B0 := Lib.hid (show Below w.heap.size w B by rw [hB]; exact (Below.refl w.heap.size w).alloc (Nat.le_refl _) _)
  have R0 := Lib.hid (show B.heap[vb]? = some (.cells (Ln.cells Ln.E0).toArray 30 (0, 0)) by rw [hB, hvb]; exact heap_alloc_new _ _)
  have KS := Lib.hid (seek_any n hn B (hc.kp B0.out) hi hr)
  have HC := Lib.hid hc; have HR := Lib.hid hr
  have hil := (List.getElem?_eq_some_iff.1 hr).1
  have hii : (i : Int) < (S.length : Int) := by omega
  have hl := hc.len
  have hf := hc.fits r (List.mem_of_getElem? hr)
  have hw8 := hc.wlen
  have hw0 := hc.wpos
  have CH := Lib.hid (fun W => chosen_any pick (ways : Int) hp (by omega) (by omega) W)
  clear hB hc hr hi hq hn hp hvb
  by_cases h0 : 0 ≤ Ln.ix r.l n 0
  · obtain ⟨k, e, e1, e2, e3, e4⟩ := Ln.fd_at h0
    have SK1 := KS.out
    rw [e1] at SK1
    rw [show decide (0 ≤ (k : Int)) = true from decide_eq_true (by omega)] at SK1
    have SK2 := Lib.hid SK1
    have HV := Lib.hid (show Ln.vic ways (S.map (·.l)) n pick = none by unfold Ln.vic; rw [HQ.out, if_pos h0])
    clear SK1 e1 e2 e3 h0 e4
    go_enter Try.func12, Try.ntmps12
    go_wp2_with (first
      | (go_at_call 32; rw [← HB.out, ← HVB.out]; refine SK2.out.mono ?_; rintro e' W2 ⟨rfl, hb2⟩
         have B2 := Lib.hid (B0.out.trans (hb2.mono B0.out.size))
         have R2 := Lib.hid ((hb2.block _ (Array.getElem?_eq_some_iff.1 R0.out).1).trans R0.out)
         clear hb2)
      | (go_at_call 33; refine (isNone_any W2 (HC.out.kp B2.out)).mono ?_; rintro e' W3 ⟨rfl, hw⟩; subst hw)
      | ((with_reducible show wpList _ _ _ (Oper.mk none (Op.store 30 _ _) _ _ _ _ :: _) _ _); refine wpList_store_own rfl 30 (.tmp 6) (.tmp 29) rfl vb (Ln.cells Ln.E0).toArray rfl rfl 30 _ R2.out Ln.size_line rfl (by kernel_rfl) ?_
         intro W1 HW1
         have B1 := Lib.hid (B2.out.trans (HW1.below.mono (by rw [HVB.out]; exact Nat.le_refl _)))
         have R1 := Lib.hid HW1.row
         clear HW1))
    refine bodyPost_ret (Ln.res2 (fn := Try.f12) rfl _ _ vb 30 (Ln.cells Ln.E0).toArray (0, 0) _ rfl R1.out Try.underlying30 rfl Ln.size_line) rfl ⟨?_, B1.out⟩
    rw [HV.out]; rfl
  · have SK1 := KS.out
    rw [(Ln.ix_none (by omega : Ln.ix r.l n 0 < 0)).1] at SK1
    rw [show decide (0 ≤ (-1 : Int)) = false from rfl] at SK1
    have SK2 := Lib.hid SK1
    by_cases hful : r.l.length = ways
    · obtain ⟨k, hk⟩ : ∃ k : Nat, pick % (ways : Int) = (k : Int) := ⟨(pick % (ways : Int)).toNat, by have := Int.emod_nonneg pick (by omega : (ways : Int) ≠ 0); omega⟩
      have hkw : k < ways := by have := Int.emod_lt_of_pos pick (by omega : (0 : Int) < (ways : Int)); omega
      have hkl : k < r.l.length := by omega
      have hki : (k : Int) < (r.l.length : Int) := by omega
      obtain ⟨e, he⟩ : ∃ e, r.l[k]? = some e := ⟨_, List.getElem?_eq_getElem hkl⟩
      have HV := Lib.hid (show Ln.vic ways (S.map (·.l)) n pick = some e by unfold Ln.vic; rw [HQ.out, if_neg h0, if_pos hful, hk, Int.toNat_natCast, he])
      have CH1 := CH.out
      rw [hk] at CH1
      have CH2 := Lib.hid CH1
      obtain ⟨ga, o, ea, hce⟩ := (HC.out.row HR.out).at_ he
      have HEA := Lib.hid ea; have HCE := Lib.hid hce
      have HOK := Lib.hid ((HC.out.row HR.out).ok_ he)
      have HFU := Lib.hid hful
      clear SK1 CH CH1 h0 he hk ea hce
      have CH := CH2
      go_enter Try.func12, Try.ntmps12
      go_wp2_with (first
        | (go_at_call 32; rw [← HB.out, ← HVB.out]; refine SK2.out.mono ?_; rintro e' WA ⟨rfl, hb2⟩
           have B1 := Lib.hid (B0.out.trans (hb2.mono B0.out.size))
           have R1 := Lib.hid ((hb2.block _ (Array.getElem?_eq_some_iff.1 R0.out).1).trans R0.out)
           have C1 := Lib.hid (HC.out.kp B1.out)
           clear hb2)
        | (go_at_call 33; refine (isNone_any WA C1.out).mono ?_; rintro e' W3 ⟨rfl, hw⟩; subst hw)
        | (go_at_call 34; refine (isFull_any WA C1.out HR.out).mono ?_; rw [show decide (r.l.length = ways) = true from decide_eq_true HFU.out]; rintro e' WB ⟨rfl, hb3⟩
           have B2 := Lib.hid (B1.out.trans (hb3.mono B1.out.size))
           have RB := Lib.hid ((hb3.block _ (Array.getElem?_eq_some_iff.1 R1.out).1).trans R1.out)
           have C2 := Lib.hid (C1.out.kp hb3)
           clear hb3))
      obtain ⟨wq, hwq⟩ : ∃ wq, wq = { WB with drawn := WB.drawn + 1 } := ⟨_, rfl⟩
      have BQ := Lib.hid (show Below WB.heap.size WB wq by rw [hwq]; exact ⟨rfl, rfl, rfl, Nat.le_refl _, fun _ _ => rfl⟩)
      have HWQ := Lib.hid hwq
      clear hwq
      have CQ := Lib.hid (C2.out.kp BQ.out)
      have RQ := Lib.hid ((BQ.out.block vb (Array.getElem?_eq_some_iff.1 RB.out).1).trans RB.out)
      have HFA := Lib.hid (show (fun x : World => x.cell? ⟨p, 0, none⟩ = some (.slice (some ⟨g, 0, none⟩) S.length S.length) ∧ x.cell? ⟨p, 1, none⟩ = some (.int .i64 (ways : Int)) ∧ x.cell? ⟨g, i, none⟩ = some (.slice (some ⟨ga, o, none⟩) r.l.length r.c) ∧ (∀ j c, (Ln.cells e)[j]? = some c → x.cell? ⟨ga, o + k * 18 + j, none⟩ = some c)) wq from ⟨CQ.out.c0, CQ.out.c1, by have := CQ.out.cs HR.out; rw [HEA.out] at this; exact this, fun j c hj => Ev.kp_below (B2.out.trans (BQ.out.mono B2.out.size)) _ _ (HCE.out j c hj)⟩)
      refine Og.region_S (S := Og.SF 15 (fun x : World => x.cell? ⟨p, 0, none⟩ = some (.slice (some ⟨g, 0, none⟩) S.length S.length) ∧ x.cell? ⟨p, 1, none⟩ = some (.int .i64 (ways : Int)) ∧ x.cell? ⟨g, i, none⟩ = some (.slice (some ⟨ga, o, none⟩) r.l.length r.c) ∧ (∀ j c, (Ln.cells e)[j]? = some c → x.cell? ⟨ga, o + k * 18 + j, none⟩ = some c))) (by kernel_rfl) ?_
      rw [← HWQ.out]
      refine Og.s_take 0 { dst := some 30, op := Go.Op.move (Go.Operand.tmp 0), type := 22, pos := "lines.go:69", after := #[], guard := none } (.pointer (some ⟨p, 0, none⟩)) _ (by kernel_rfl) (by kernel_rfl) (by kernel_rfl) (by kernel_rfl) (by kernel_rfl) (fun _ _ _ h => h) (fun _ => HFA.out) (fun x' hx => ?_) (by simp only [Act.put, List.setIfInBounds_toArray, List.set_cons_zero, List.set_cons_succ]; rfl) ?_
      · go_simp; try (with_reducible rfl)
      refine Og.s_take 1 { dst := some 31, op := Go.Op.nilCheck (Go.Operand.tmp 30), type := 0, pos := "lines.go:69", after := #[{ on := 0, ground := Go.Ground.data }], guard := none } (.pointer (some ⟨p, 0, none⟩)) _ (by kernel_rfl) (by kernel_rfl) (by kernel_rfl) (by kernel_rfl) (by kernel_rfl) (fun _ _ _ h => h) (fun _ => HFA.out) (fun x' hx => ?_) (by simp only [Act.put, List.setIfInBounds_toArray, List.set_cons_zero, List.set_cons_succ]; rfl) ?_
      · go_simp; try (with_reducible rfl)
      refine Og.s_take 2 { dst := some 32, op := Go.Op.fieldAddr 71 (Go.Operand.tmp 31) 0, type := 0, pos := "lines.go:69", after := #[{ on := 1, ground := Go.Ground.data }], guard := none } (.pointer (some ⟨p, 0, none⟩)) _ (by kernel_rfl) (by kernel_rfl) (by kernel_rfl) (by kernel_rfl) (by kernel_rfl) (fun _ _ _ h => h) (fun _ => HFA.out) (fun x' hx => ?_) (by simp only [Act.put, List.setIfInBounds_toArray, List.set_cons_zero, List.set_cons_succ]; rfl) ?_
      · go_simp; try (with_reducible rfl)
      refine Og.s_take 3 { dst := some 33, op := Go.Op.load 69 (Go.Operand.tmp 32), type := 69, pos := "lines.go:69", after := #[{ on := 2, ground := Go.Ground.data }], guard := none } (.slice (some ⟨g, 0, none⟩) S.length S.length) _ (by kernel_rfl) (by kernel_rfl) (by kernel_rfl) (by kernel_rfl) (by kernel_rfl) (fun _ _ _ h => h) (fun _ => HFA.out) (fun x' hx => ?_) (by simp only [Act.put, List.setIfInBounds_toArray, List.set_cons_zero, List.set_cons_succ]; rfl) ?_
      · have hx1 := (hx (by decide)).1; go_simp; try (with_reducible rfl)
      refine Og.s_take 4 { dst := some 34, op := Go.Op.move (Go.Operand.tmp 8), type := 3, pos := "lines.go:69", after := #[], guard := none } (.int .i64 (i : Int)) _ (by kernel_rfl) (by kernel_rfl) (by kernel_rfl) (by kernel_rfl) (by kernel_rfl) (fun _ _ _ h => h) (fun _ => HFA.out) (fun x' hx => ?_) (by simp only [Act.put, List.setIfInBounds_toArray, List.set_cons_zero, List.set_cons_succ]; rfl) ?_
      · go_simp; try (with_reducible rfl)
      refine Og.s_take 5 { dst := some 35, op := Go.Op.indexAddr 69 (Go.Operand.tmp 33) (Go.Operand.tmp 34), type := 0, pos := "lines.go:69", after := #[{ on := 3, ground := Go.Ground.data }, { on := 4, ground := Go.Ground.data }], guard := none } (.pointer (some ⟨g, i, none⟩)) _ (by kernel_rfl) (by kernel_rfl) (by kernel_rfl) (by kernel_rfl) (by kernel_rfl) (fun _ _ _ h => h) (fun _ => HFA.out) (fun x' hx => ?_) (by simp only [Act.put, List.setIfInBounds_toArray, List.set_cons_zero, List.set_cons_succ]; rfl) ?_
      · go_simp; try (with_reducible rfl)
      refine Og.s_take 6 { dst := some 36, op := Go.Op.load 38 (Go.Operand.tmp 35), type := 38, pos := "lines.go:69", after := #[{ on := 5, ground := Go.Ground.data }], guard := none } (.slice (some ⟨ga, o, none⟩) r.l.length r.c) _ (by kernel_rfl) (by kernel_rfl) (by kernel_rfl) (by kernel_rfl) (by kernel_rfl) (fun _ _ _ h => h) (fun _ => HFA.out) (fun x' hx => ?_) (by simp only [Act.put, List.setIfInBounds_toArray, List.set_cons_zero, List.set_cons_succ]; rfl) ?_
      · have hx1 := (hx (by decide)).2.2.1; go_simp; try (with_reducible rfl)
      refine Og.s_take 7 { dst := some 37, op := Go.Op.move (Go.Operand.tmp 2), type := 3, pos := "lines.go:69", after := #[], guard := none } (.int .i64 pick) _ (by kernel_rfl) (by kernel_rfl) (by kernel_rfl) (by kernel_rfl) (by kernel_rfl) (fun _ _ _ h => h) (fun _ => HFA.out) (fun x' hx => ?_) (by simp only [Act.put, List.setIfInBounds_toArray, List.set_cons_zero, List.set_cons_succ]; rfl) ?_
      · go_simp; try (with_reducible rfl)
      refine Og.s_take 8 { dst := some 38, op := Go.Op.move (Go.Operand.tmp 0), type := 22, pos := "lines.go:69", after := #[], guard := none } (.pointer (some ⟨p, 0, none⟩)) _ (by kernel_rfl) (by kernel_rfl) (by kernel_rfl) (by kernel_rfl) (by kernel_rfl) (fun _ _ _ h => h) (fun _ => HFA.out) (fun x' hx => ?_) (by simp only [Act.put, List.setIfInBounds_toArray, List.set_cons_zero, List.set_cons_succ]; rfl) ?_
      · go_simp; try (with_reducible rfl)
      refine Og.s_take 9 { dst := some 39, op := Go.Op.nilCheck (Go.Operand.tmp 38), type := 0, pos := "lines.go:69", after := #[{ on := 8, ground := Go.Ground.data }], guard := none } (.pointer (some ⟨p, 0, none⟩)) _ (by kernel_rfl) (by kernel_rfl) (by kernel_rfl) (by kernel_rfl) (by kernel_rfl) (fun _ _ _ h => h) (fun _ => HFA.out) (fun x' hx => ?_) (by simp only [Act.put, List.setIfInBounds_toArray, List.set_cons_zero, List.set_cons_succ]; rfl) ?_
      · go_simp; try (with_reducible rfl)
      refine Og.s_take 10 { dst := some 40, op := Go.Op.fieldAddr 71 (Go.Operand.tmp 39) 1, type := 0, pos := "lines.go:69", after := #[{ on := 9, ground := Go.Ground.data }], guard := none } (.pointer (some ⟨p, 1, none⟩)) _ (by kernel_rfl) (by kernel_rfl) (by kernel_rfl) (by kernel_rfl) (by kernel_rfl) (fun _ _ _ h => h) (fun _ => HFA.out) (fun x' hx => ?_) (by simp only [Act.put, List.setIfInBounds_toArray, List.set_cons_zero, List.set_cons_succ]; rfl) ?_
      · go_simp; try (with_reducible rfl)
      refine Og.s_take 11 { dst := some 41, op := Go.Op.load 3 (Go.Operand.tmp 40), type := 3, pos := "lines.go:69", after := #[{ on := 10, ground := Go.Ground.data }], guard := none } (.int .i64 (ways : Int)) _ (by kernel_rfl) (by kernel_rfl) (by kernel_rfl) (by kernel_rfl) (by kernel_rfl) (fun _ _ _ h => h) (fun _ => HFA.out) (fun x' hx => ?_) (by simp only [Act.put, List.setIfInBounds_toArray, List.set_cons_zero, List.set_cons_succ]; rfl) ?_
      · have hx1 := (hx (by decide)).2.1; go_simp; try (with_reducible rfl)
      refine Og.s_one 12 { dst := some 42, op := Go.Op.call { callee := Go.Callee.value (Go.Operand.func 35), args := #[Go.Operand.tmp 37, Go.Operand.tmp 41], argTypes := #[3, 3] }, type := 3, pos := "lines.go:69", after := #[{ on := 7, ground := Go.Ground.data }, { on := 11, ground := Go.Ground.data }], guard := none } (by kernel_rfl) (by kernel_rfl) (by kernel_rfl) ?_
      refine Og.call_to (w1 := wq) (f := 35) (args := #[.int .i64 pick, .int .i64 (ways : Int)]) (by go_simp) ?_
      refine (CH.out wq).mono ?_
      rintro e' w9 ⟨rfl, hw⟩
      subst hw
      refine ⟨_, rfl, Og.keep_sf (fun h => h), ?_⟩
      refine Og.s_take 13 { dst := some 43, op := Go.Op.indexAddr 38 (Go.Operand.tmp 36) (Go.Operand.tmp 42), type := 0, pos := "lines.go:69", after := #[{ on := 6, ground := Go.Ground.data }, { on := 12, ground := Go.Ground.data }], guard := none } (.pointer (some ⟨ga, o + k * 18, none⟩)) _ (by kernel_rfl) (by kernel_rfl) (by kernel_rfl) (by kernel_rfl) (by kernel_rfl) (fun _ _ _ h => h) (fun _ => HFA.out) (fun x' hx => ?_) (by simp only [Act.put, List.setIfInBounds_toArray, List.set_cons_zero, List.set_cons_succ]; rfl) ?_
      · go_simp; try (with_reducible rfl)
      refine Og.s_take 14 { dst := some 44, op := Go.Op.load 30 (Go.Operand.tmp 43), type := 30, pos := "lines.go:69", after := #[{ on := 13, ground := Go.Ground.data }], guard := none } (.agg (Ln.cells e).toArray) _ (by kernel_rfl) (by kernel_rfl) (by kernel_rfl) (by kernel_rfl) (by kernel_rfl) (fun _ _ _ h => h) (fun _ => HFA.out) (fun x' hx => ?_) (by simp only [Act.put, List.setIfInBounds_toArray, List.set_cons_zero, List.set_cons_succ]; rfl) ?_
      · exact Og.load_run 30 (.tmp 43) rfl ⟨ga, o + k * 18, none⟩ rfl (run_loadVar_at x' ga (o + k * 18) 30 (Ln.cells e) _ (hx (by decide)).2.2.2 Try.underlying30 rfl (by rw [HOK.out.len]; exact Ln.size_line))
      refine Og.s_one 15 { dst := none, op := Go.Op.store 30 (Go.Operand.tmp 6) (Go.Operand.tmp 44), type := 0, pos := "lines.go:69", after := #[{ on := 14, ground := Go.Ground.data }, { on := 12, ground := Go.Ground.chain }, { on := 0, ground := Go.Ground.phase }, { on := 1, ground := Go.Ground.phase }, { on := 2, ground := Go.Ground.phase }, { on := 3, ground := Go.Ground.phase }, { on := 4, ground := Go.Ground.phase }, { on := 5, ground := Go.Ground.phase }, { on := 6, ground := Go.Ground.phase }, { on := 7, ground := Go.Ground.phase }, { on := 8, ground := Go.Ground.phase }, { on := 9, ground := Go.Ground.phase }, { on := 10, ground := Go.Ground.phase }, { on := 11, ground := Go.Ground.phase }, { on := 12, ground := Go.Ground.phase }, { on := 13, ground := Go.Ground.phase }, { on := 14, ground := Go.Ground.phase }], guard := none } (by kernel_rfl) (by kernel_rfl) (by kernel_rfl) ?_
      refine Og.skip_to (w' := wq.setRow vb (Ln.cells e).toArray) ?_ ⟨Og.keep_last (o := { dst := none, op := Go.Op.store 30 (Go.Operand.tmp 6) (Go.Operand.tmp 44), type := 0, pos := "lines.go:69", after := #[{ on := 14, ground := Go.Ground.data }, { on := 12, ground := Go.Ground.chain }, { on := 0, ground := Go.Ground.phase }, { on := 1, ground := Go.Ground.phase }, { on := 2, ground := Go.Ground.phase }, { on := 3, ground := Go.Ground.phase }, { on := 4, ground := Go.Ground.phase }, { on := 5, ground := Go.Ground.phase }, { on := 6, ground := Go.Ground.phase }, { on := 7, ground := Go.Ground.phase }, { on := 8, ground := Go.Ground.phase }, { on := 9, ground := Go.Ground.phase }, { on := 10, ground := Go.Ground.phase }, { on := 11, ground := Go.Ground.phase }, { on := 12, ground := Go.Ground.phase }, { on := 13, ground := Go.Ground.phase }, { on := 14, ground := Go.Ground.phase }], guard := none }) (by kernel_rfl) (by kernel_rfl), ?_⟩
      · exact Og.row_to 30 (.tmp 6) (.tmp 44) rfl vb (Ln.cells e).toArray rfl rfl 30 (Ln.cells Ln.E0).toArray RQ.out (by rw [HOK.out.size]; exact Ln.size_line) (by rw [HOK.out.size]; rfl) (Ln.cells_all e)
      obtain ⟨w10, hw10⟩ : ∃ w10, w10 = wq.setRow vb (Ln.cells e).toArray := ⟨_, rfl⟩
      have hs10 := Ev.set1 (cs := (Ln.cells e).toArray) RQ.out (by rw [HOK.out.size]; rfl)
      rw [← hw10] at hs10 ⊢
      have HS10 := Lib.hid hs10
      clear hw10 hs10
      refine Og.s_take 16 { dst := some 7, op := Go.Op.assign (Go.Operand.const (Go.Value.bool true)), type := 4, pos := "lines.go:69", after := #[{ on := 15, ground := Go.Ground.chain }, { on := 0, ground := Go.Ground.phase }, { on := 1, ground := Go.Ground.phase }, { on := 2, ground := Go.Ground.phase }, { on := 3, ground := Go.Ground.phase }, { on := 4, ground := Go.Ground.phase }, { on := 5, ground := Go.Ground.phase }, { on := 6, ground := Go.Ground.phase }, { on := 7, ground := Go.Ground.phase }, { on := 8, ground := Go.Ground.phase }, { on := 9, ground := Go.Ground.phase }, { on := 10, ground := Go.Ground.phase }, { on := 11, ground := Go.Ground.phase }, { on := 12, ground := Go.Ground.phase }, { on := 13, ground := Go.Ground.phase }, { on := 14, ground := Go.Ground.phase }, { on := 15, ground := Go.Ground.phase }], guard := none } (.bool true) _ (by kernel_rfl) (by kernel_rfl) (by kernel_rfl) (by kernel_rfl) (by kernel_rfl) (fun _ _ _ h => h) (fun h => absurd h (by decide)) (fun x' hx => ?_) (by simp only [Act.put, List.setIfInBounds_toArray, List.set_cons_zero, List.set_cons_succ]; rfl) ?_
      · go_simp; try (with_reducible rfl)
      refine Og.s_done (by kernel_rfl) ?_ _
      try simp only [Act.put, List.setIfInBounds_toArray, List.set_cons_zero, List.set_cons_succ]
      go_wp2_with fail
      have B9 := Lib.hid ((B2.out.trans (BQ.out.mono B2.out.size)).trans (HS10.out.below.mono (by rw [HVB.out]; exact Nat.le_refl _)))
      refine bodyPost_ret (Ln.res2 (fn := Try.f12) rfl _ _ vb 30 (Ln.cells e).toArray (0, 0) _ rfl HS10.out.row Try.underlying30 rfl (by rw [HOK.out.size]; exact Ln.size_line)) rfl ⟨?_, B9.out⟩
      rw [HV.out]; rfl
    · have HV := Lib.hid (show Ln.vic ways (S.map (·.l)) n pick = none by unfold Ln.vic; rw [HQ.out, if_neg h0, if_neg hful])
      have HFU := Lib.hid hful
      clear SK1 h0 hful
      go_enter Try.func12, Try.ntmps12
      go_wp2_with (first
        | (go_at_call 32; rw [← HB.out, ← HVB.out]; refine SK2.out.mono ?_; rintro e' WA ⟨rfl, hb2⟩
           have B1 := Lib.hid (B0.out.trans (hb2.mono B0.out.size))
           have R1 := Lib.hid ((hb2.block _ (Array.getElem?_eq_some_iff.1 R0.out).1).trans R0.out)
           have C1 := Lib.hid (HC.out.kp B1.out)
           clear hb2)
        | (go_at_call 33; refine (isNone_any WA C1.out).mono ?_; rintro e' W3 ⟨rfl, hw⟩; subst hw)
        | (go_at_call 34; refine (isFull_any WA C1.out HR.out).mono ?_; rw [show decide (r.l.length = ways) = false from decide_eq_false HFU.out]; rintro e' WB ⟨rfl, hb3⟩
           have B2 := Lib.hid (B1.out.trans (hb3.mono B1.out.size))
           have RB := Lib.hid ((hb3.block _ (Array.getElem?_eq_some_iff.1 R1.out).1).trans R1.out)
           clear hb3)
        | ((with_reducible show wpList _ _ _ (Oper.mk none (Op.store 30 _ _) _ _ _ _ :: _) _ _); refine wpList_store_own rfl 30 (.tmp 6) (.tmp 29) rfl vb (Ln.cells Ln.E0).toArray rfl rfl 30 _ RB.out Ln.size_line rfl (by kernel_rfl) ?_
           intro W1 HW1
           have B9 := Lib.hid (B2.out.trans (HW1.below.mono (by rw [HVB.out]; exact Nat.le_refl _)))
           have R9 := Lib.hid HW1.row
           clear HW1))
      refine bodyPost_ret (Ln.res2 (fn := Try.f12) rfl _ _ vb 30 (Ln.cells Ln.E0).toArray (0, 0) _ rfl R9.out Try.underlying30 rfl Ln.size_line) rfl ⟨?_, B9.out⟩
      rw [HV.out]; rfl
end Go.Proofs.Ytifniogldinbdaa
