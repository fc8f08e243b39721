/-
  The contract of Put.
-/
import Derived.Test.YtifniogldinbdaaLnApp
namespace Go.Proofs.Ytifniogldinbdaa
open Go.RowKit
set_option linter.unusedVariables false
set_option linter.unusedSimpArgs false
namespace Ln
/-- the place of a number's set -/
def sQ (Q : List (List E)) (n : Int) : Nat := n.toNat % Q.length
def putE (ways : Nat) (Q : List (List E)) (e : E) : Int :=
  if held e.s then (if 0 ≤ ix (rowQ Q e.n) e.n 0 then 0 else if (rowQ Q e.n).length = ways then 200 else 0) else 2
def putQ (ways : Nat) (Q : List (List E)) (e : E) : List (List E) :=
  if held e.s then (if 0 ≤ ix (rowQ Q e.n) e.n 0 then Q.set (sQ Q e.n) ((rowQ Q e.n).set (ix (rowQ Q e.n) e.n 0).toNat e) else if (rowQ Q e.n).length = ways then Q else Q.set (sQ Q e.n) (rowQ Q e.n ++ [e])) else Q
theorem storeLine_to {o : Oper} {ρ : Operand → Value} {w : World} {e : E} (hok : Ok e) {b off : Nat} {cur : Array Value} (x y : Operand) (ho : o.op = .store 30 x y) (hx : ρ x = .pointer (some ⟨b, off, none⟩)) (hy : ρ y = .agg (cells e).toArray)
    (hb : w.heap[b]? = some (.cells cur 30 (0, 0))) (hf : off + (cells e).length ≤ cur.size) : (execOp ρ o).run Try.prog w = .ok .skip (w.setRow b (cur.toList.take off ++ cells e ++ cur.toList.drop (off + (cells e).length)).toArray) := by
  unfold execOp
  simp only [ho, hx, hy, Instr.storeAt, Instr.sureAddr, Sem.run_bind, Sem.run_pure, Result.andThen_ok, run_storeVar_at (P := Try.prog) w b off 30 30 cur (cells e) hb (by rw [hok.len]; exact size_line) hf (cells_one e)]
end Ln
set_option maxRecDepth 100000 in
theorem put_nil (e : Ln.E) (w : World) : Calls Try.prog 14 #[.pointer none, Ln.EV e] w fun x w' => x = .returned (.int .i64 1) ∧ Below w.heap.size w w' := by
  obtain ⟨B, hB⟩ : ∃ B, B = w.alloc (.cells (Ln.cells e).toArray 30) := ⟨_, rfl⟩
  have HB := Lib.hid hB
  have B0 := Lib.hid (show Below w.heap.size w B by rw [hB]; exact (Below.refl w.heap.size w).alloc (Nat.le_refl _) _)
  clear hB
  unfold Ln.EV
  go_enter Try.func14, Try.ntmps14
  go_wp2_with (go_at_call 33; rw [← HB.out]; refine (isNone_nil B).mono ?_; rintro e' W2 ⟨rfl, hw⟩; subst hw)
  go_ret
  exact ⟨rfl, B0.out⟩
set_option maxRecDepth 100000 in
set_option maxHeartbeats 4000000 in
theorem put_any (e : Ln.E) (hok : Ln.Ok e) (w : World) {F p ways Q} (h : Ln.Cache w F p ways Q) :
    Calls Try.prog 14 #[.pointer (some ⟨p, 0, none⟩), Ln.EV e] w fun x w' => x = .returned (.int .i64 (Ln.putE ways Q e)) ∧ Ln.Turns F w w' p ways (Ln.putQ ways Q e) := by
  have HCA := Lib.hid h
  obtain ⟨g, S, hc, rfl⟩ := h
  obtain ⟨i, r, hi, hr, hq⟩ := hc.at_ e.n
  have HQ1 := Lib.hid (show Ln.sQ (S.map (·.l)) e.n = i by unfold Ln.sQ; rw [List.length_map]; exact hi)
  have HQ := Lib.hid hq
  obtain ⟨lb, hlb⟩ : ∃ lb, lb = w.heap.size := ⟨_, rfl⟩
  obtain ⟨B, hB⟩ : ∃ B, B = w.alloc (.cells (Ln.cells e).toArray 30) := ⟨_, rfl⟩
  have HB := Lib.hid hB; have HLB := Lib.hid hlb
  have B0 := Lib.hid (show Below w.heap.size w B by rw [hB]; exact (Below.refl w.heap.size w).alloc (Nat.le_refl _) _)
  have R0 := Lib.hid (show B.heap[lb]? = some (.cells (Ln.cells e).toArray 30 (0, 0)) by rw [hB, hlb]; exact heap_alloc_new _ _)
  have K0 : B.cell? ⟨lb, 0, none⟩ = some (.int .u32 e.n) := by rw [cell_of_row _ _ _ _ _ _ R0.out]; rfl
  have K1 : B.cell? ⟨lb, 1, none⟩ = some (.int .i64 e.s) := by rw [cell_of_row _ _ _ _ _ _ R0.out]; rfl
  have CB := Lib.hid (hc.kp B0.out)
  have HOK := Lib.hid hok; have HR := Lib.hid hr; have HI := Lib.hid hi
  have HLN := Lib.hid (hc.new_ne hr (by rw [hlb]; exact Nat.le_refl _ : w.heap.size ≤ lb))
  have KN := Lib.hid (isNone_any B CB.out)
  have KH := Lib.hid (isHeld_any e.s B)
  have hil := (List.getElem?_eq_some_iff.1 hr).1
  have hii : (i : Int) < (S.length : Int) := by omega
  have hl := hc.len
  have hf := hc.fits r (List.mem_of_getElem? hr)
  have hw8 := hc.wlen
  have KS := Lib.hid (seek_any e.n hok.n B CB.out hi hr)
  clear hB hc hr hi hq hlb hok
  unfold Ln.EV
  cases hh : Ln.held e.s
  · have KH2 := KH.out
    rw [hh] at KH2
    have KH3 := Lib.hid KH2
    have HH := Lib.hid hh
    clear KH2 hh
    go_enter Try.func14, Try.ntmps14
    go_wp2_with (first
      | (go_at_call 33; rw [← HB.out, ← HLB.out]; refine KN.out.mono ?_; rintro e' W2 ⟨rfl, hw⟩; subst hw)
      | (go_at_call 36; refine KH3.out.mono ?_; rintro e' W2 ⟨rfl, hw⟩; subst hw))
    go_ret
    refine ⟨by unfold Ln.putE; rw [HH.out]; rfl, ?_⟩
    unfold Ln.putQ
    rw [HH.out]
    exact Ln.Turns.same HCA.out B0.out
  · have KH2 := KH.out
    rw [hh] at KH2
    have KH3 := Lib.hid KH2
    have HH := Lib.hid hh
    clear KH2 hh
    by_cases h0 : 0 ≤ Ln.ix r.l e.n 0
    · obtain ⟨k, e0, e1, e2, e3, e4⟩ := Ln.fd_at h0
      have hkl := (List.getElem?_eq_some_iff.1 e2).1
      have hki : (k : Int) < (r.l.length : Int) := by omega
      have SK1 := KS.out
      rw [e1] at SK1
      rw [show decide (0 ≤ (k : Int)) = true from decide_eq_true (by omega)] at SK1
      have SK2 := Lib.hid SK1
      have HE1 := Lib.hid e1
      have HH0 := Lib.hid h0
      clear SK1 e1 e2 e3 h0 e4
      go_enter Try.func14, Try.ntmps14
      go_wp2_with (first
        | (go_at_call 33; rw [← HB.out, ← HLB.out]; refine KN.out.mono ?_; rintro e' W2 ⟨rfl, hw⟩; subst hw)
        | (go_at_call 36; refine KH3.out.mono ?_; rintro e' W2 ⟨rfl, hw⟩; subst hw)
        | (go_at_call 32; refine SK2.out.mono ?_; rintro e' WB ⟨rfl, hb2⟩
           have B2 := Lib.hid (B0.out.trans (hb2.mono B0.out.size))
           have RB := Lib.hid ((hb2.block _ (Array.getElem?_eq_some_iff.1 R0.out).1).trans R0.out)
           have C2 := Lib.hid (CB.out.kp hb2)
           clear hb2))
      clear K0 K1
      obtain ⟨wq, hwq⟩ : ∃ wq, wq = { WB with drawn := WB.drawn + 1 } := ⟨_, rfl⟩
      have BQ := Lib.hid (show Below WB.heap.size WB wq by rw [hwq]; exact ⟨rfl, rfl, rfl, Nat.le_refl _, fun _ _ => rfl⟩)
      have HWQ := Lib.hid hwq
      clear hwq
      have CQ := Lib.hid (C2.out.kp BQ.out)
      obtain ⟨b, cur, ea, hbb, hfit, ht9⟩ := CQ.out.over HR.out hkl HOK.out
      have HEA := Lib.hid ea; have HBB := Lib.hid hbb; have HFIT := Lib.hid hfit; have HT9 := Lib.hid ht9
      clear ea hbb hfit ht9
      have HFA := Lib.hid (show (fun x : World => x.cell? ⟨p, 0, none⟩ = some (.slice (some ⟨g, 0, none⟩) S.length S.length) ∧ x.cell? ⟨g, i, none⟩ = some (.slice (some ⟨b, 0, none⟩) r.l.length r.c) ∧ x.heap[lb]? = some (.cells (Ln.cells e).toArray 30 (0, 0))) wq from ⟨CQ.out.c0, (by have := CQ.out.cs HR.out; rw [HEA.out] at this; exact this), (BQ.out.block lb (Array.getElem?_eq_some_iff.1 RB.out).1).trans RB.out⟩)
      refine Og.region_S (S := Og.SF 10 (fun x : World => x.cell? ⟨p, 0, none⟩ = some (.slice (some ⟨g, 0, none⟩) S.length S.length) ∧ x.cell? ⟨g, i, none⟩ = some (.slice (some ⟨b, 0, none⟩) r.l.length r.c) ∧ x.heap[lb]? = some (.cells (Ln.cells e).toArray 30 (0, 0)))) (by kernel_rfl) ?_
      rw [← HWQ.out]
      refine Og.s_take 0 { dst := some 40, op := Go.Op.move (Go.Operand.tmp 0), type := 22, pos := "lines.go:45", after := #[], guard := none } (.pointer (some ⟨p, 0, none⟩)) _ (by kernel_rfl) (by kernel_rfl) (by kernel_rfl) (by kernel_rfl) (by kernel_rfl) (fun _ _ _ h => h) (fun _ => HFA.out) (fun x' hx => ?_) (by simp only [Act.put, List.setIfInBounds_toArray, List.set_cons_zero, List.set_cons_succ]; rfl) ?_
      · go_simp; try (with_reducible rfl)
      refine Og.s_take 1 { dst := some 41, op := Go.Op.nilCheck (Go.Operand.tmp 40), type := 0, pos := "lines.go:45", after := #[{ on := 0, ground := Go.Ground.data }], guard := none } (.pointer (some ⟨p, 0, none⟩)) _ (by kernel_rfl) (by kernel_rfl) (by kernel_rfl) (by kernel_rfl) (by kernel_rfl) (fun _ _ _ h => h) (fun _ => HFA.out) (fun x' hx => ?_) (by simp only [Act.put, List.setIfInBounds_toArray, List.set_cons_zero, List.set_cons_succ]; rfl) ?_
      · go_simp; try (with_reducible rfl)
      refine Og.s_take 2 { dst := some 42, op := Go.Op.fieldAddr 71 (Go.Operand.tmp 41) 0, type := 0, pos := "lines.go:45", after := #[{ on := 1, ground := Go.Ground.data }], guard := none } (.pointer (some ⟨p, 0, none⟩)) _ (by kernel_rfl) (by kernel_rfl) (by kernel_rfl) (by kernel_rfl) (by kernel_rfl) (fun _ _ _ h => h) (fun _ => HFA.out) (fun x' hx => ?_) (by simp only [Act.put, List.setIfInBounds_toArray, List.set_cons_zero, List.set_cons_succ]; rfl) ?_
      · go_simp; try (with_reducible rfl)
      refine Og.s_take 3 { dst := some 43, op := Go.Op.load 69 (Go.Operand.tmp 42), type := 69, pos := "lines.go:45", after := #[{ on := 2, ground := Go.Ground.data }], guard := none } (.slice (some ⟨g, 0, none⟩) S.length S.length) _ (by kernel_rfl) (by kernel_rfl) (by kernel_rfl) (by kernel_rfl) (by kernel_rfl) (fun _ _ _ h => h) (fun _ => HFA.out) (fun x' hx => ?_) (by simp only [Act.put, List.setIfInBounds_toArray, List.set_cons_zero, List.set_cons_succ]; rfl) ?_
      · have hx1 := (hx (by decide)).1; go_simp; try (with_reducible rfl)
      refine Og.s_take 4 { dst := some 44, op := Go.Op.move (Go.Operand.tmp 5), type := 3, pos := "lines.go:45", after := #[], guard := none } (.int .i64 (i : Int)) _ (by kernel_rfl) (by kernel_rfl) (by kernel_rfl) (by kernel_rfl) (by kernel_rfl) (fun _ _ _ h => h) (fun _ => HFA.out) (fun x' hx => ?_) (by simp only [Act.put, List.setIfInBounds_toArray, List.set_cons_zero, List.set_cons_succ]; rfl) ?_
      · go_simp; try (with_reducible rfl)
      refine Og.s_take 5 { dst := some 45, op := Go.Op.indexAddr 69 (Go.Operand.tmp 43) (Go.Operand.tmp 44), type := 0, pos := "lines.go:45", after := #[{ on := 3, ground := Go.Ground.data }, { on := 4, ground := Go.Ground.data }], guard := none } (.pointer (some ⟨g, i, none⟩)) _ (by kernel_rfl) (by kernel_rfl) (by kernel_rfl) (by kernel_rfl) (by kernel_rfl) (fun _ _ _ h => h) (fun _ => HFA.out) (fun x' hx => ?_) (by simp only [Act.put, List.setIfInBounds_toArray, List.set_cons_zero, List.set_cons_succ]; rfl) ?_
      · go_simp; try (with_reducible rfl)
      refine Og.s_take 6 { dst := some 46, op := Go.Op.load 38 (Go.Operand.tmp 45), type := 38, pos := "lines.go:45", after := #[{ on := 5, ground := Go.Ground.data }], guard := none } (.slice (some ⟨b, 0, none⟩) r.l.length r.c) _ (by kernel_rfl) (by kernel_rfl) (by kernel_rfl) (by kernel_rfl) (by kernel_rfl) (fun _ _ _ h => h) (fun _ => HFA.out) (fun x' hx => ?_) (by simp only [Act.put, List.setIfInBounds_toArray, List.set_cons_zero, List.set_cons_succ]; rfl) ?_
      · have hx1 := (hx (by decide)).2.1; go_simp; try (with_reducible rfl)
      refine Og.s_take 7 { dst := some 47, op := Go.Op.move (Go.Operand.tmp 6), type := 3, pos := "lines.go:45", after := #[], guard := none } (.int .i64 (k : Int)) _ (by kernel_rfl) (by kernel_rfl) (by kernel_rfl) (by kernel_rfl) (by kernel_rfl) (fun _ _ _ h => h) (fun _ => HFA.out) (fun x' hx => ?_) (by simp only [Act.put, List.setIfInBounds_toArray, List.set_cons_zero, List.set_cons_succ]; rfl) ?_
      · go_simp; try (with_reducible rfl)
      refine Og.s_take 8 { dst := some 48, op := Go.Op.load 30 (Go.Operand.tmp 3), type := 30, pos := "lines.go:45", after := #[], guard := none } (.agg (Ln.cells e).toArray) _ (by kernel_rfl) (by kernel_rfl) (by kernel_rfl) (by kernel_rfl) (by kernel_rfl) (fun _ _ _ h => h) (fun _ => HFA.out) (fun x' hx => ?_) (by simp only [Act.put, List.setIfInBounds_toArray, List.set_cons_zero, List.set_cons_succ]; rfl) ?_
      · exact Og.load_run 30 (.tmp 3) rfl ⟨lb, 0, none⟩ rfl (run_loadVar_row x' lb 30 30 (Ln.cells e).toArray (0, 0) _ (hx (by decide)).2.2 Try.underlying30 rfl (by rw [HOK.out.size]; exact Ln.size_line))
      refine Og.s_take 9 { dst := some 49, op := Go.Op.indexAddr 38 (Go.Operand.tmp 46) (Go.Operand.tmp 47), type := 0, pos := "lines.go:45", after := #[{ on := 6, ground := Go.Ground.data }, { on := 7, ground := Go.Ground.data }, { on := 0, ground := Go.Ground.phase }, { on := 1, ground := Go.Ground.phase }, { on := 2, ground := Go.Ground.phase }, { on := 3, ground := Go.Ground.phase }, { on := 4, ground := Go.Ground.phase }, { on := 5, ground := Go.Ground.phase }, { on := 6, ground := Go.Ground.phase }, { on := 7, ground := Go.Ground.phase }, { on := 8, ground := Go.Ground.phase }], guard := none } (.pointer (some ⟨b, k * 18, none⟩)) _ (by kernel_rfl) (by kernel_rfl) (by kernel_rfl) (by kernel_rfl) (by kernel_rfl) (fun _ _ _ h => h) (fun _ => HFA.out) (fun x' hx => ?_) (by simp only [Act.put, List.setIfInBounds_toArray, List.set_cons_zero, List.set_cons_succ]; rfl) ?_
      · go_simp; try (with_reducible rfl)
      refine Og.s_one 10 { dst := none, op := Go.Op.store 30 (Go.Operand.tmp 49) (Go.Operand.tmp 48), type := 0, pos := "lines.go:45", after := #[{ on := 9, ground := Go.Ground.data }, { on := 8, ground := Go.Ground.data }, { on := 0, ground := Go.Ground.phase }, { on := 1, ground := Go.Ground.phase }, { on := 2, ground := Go.Ground.phase }, { on := 3, ground := Go.Ground.phase }, { on := 4, ground := Go.Ground.phase }, { on := 5, ground := Go.Ground.phase }, { on := 6, ground := Go.Ground.phase }, { on := 7, ground := Go.Ground.phase }, { on := 8, ground := Go.Ground.phase }], guard := none } (by kernel_rfl) (by kernel_rfl) (by kernel_rfl) ?_
      refine Og.skip_to (w' := wq.setRow b (cur.toList.take (k * 18) ++ Ln.cells e ++ cur.toList.drop (k * 18 + (Ln.cells e).length)).toArray) ?_ ⟨Og.keep_last (o := { dst := none, op := Go.Op.store 30 (Go.Operand.tmp 49) (Go.Operand.tmp 48), type := 0, pos := "lines.go:45", after := #[{ on := 9, ground := Go.Ground.data }, { on := 8, ground := Go.Ground.data }, { on := 0, ground := Go.Ground.phase }, { on := 1, ground := Go.Ground.phase }, { on := 2, ground := Go.Ground.phase }, { on := 3, ground := Go.Ground.phase }, { on := 4, ground := Go.Ground.phase }, { on := 5, ground := Go.Ground.phase }, { on := 6, ground := Go.Ground.phase }, { on := 7, ground := Go.Ground.phase }, { on := 8, ground := Go.Ground.phase }], guard := none }) (by kernel_rfl) (by kernel_rfl), ?_⟩
      · exact Ln.storeLine_to HOK.out (.tmp 49) (.tmp 48) rfl rfl rfl HBB.out HFIT.out
      obtain ⟨w10, hw10⟩ : ∃ w10, w10 = wq.setRow b (cur.toList.take (k * 18) ++ Ln.cells e ++ cur.toList.drop (k * 18 + (Ln.cells e).length)).toArray := ⟨_, rfl⟩
      rw [← hw10]
      have HT10 := Lib.hid (show Ln.Turns F wq w10 p ways ((S.map (·.l)).set i (r.l.set k e)) by rw [hw10]; exact HT9.out)
      clear hw10
      refine Og.s_done (by kernel_rfl) ?_ _
      simp only [Act.put, List.setIfInBounds_toArray, List.set_cons_zero, List.set_cons_succ]
      go_wp2_with fail
      go_ret
      have EQ := HQ.out
      refine ⟨by unfold Ln.putE; rw [HH.out, EQ, if_pos rfl, if_pos HH0.out]; rfl, ?_⟩
      unfold Ln.putQ
      rw [HH.out, EQ, if_pos rfl, if_pos HH0.out, HE1.out, HQ1.out, Int.toNat_natCast]
      exact (HT10.out.before BQ.out).before B2.out
    · have SK1 := KS.out
      rw [(Ln.ix_none (by omega : Ln.ix r.l e.n 0 < 0)).1] at SK1
      rw [show decide (0 ≤ (-1 : Int)) = false from rfl] at SK1
      have SK2 := Lib.hid SK1
      have HH0 := Lib.hid h0
      clear SK1 h0
      by_cases hful : r.l.length = ways
      · have HFU := Lib.hid hful
        go_enter Try.func14, Try.ntmps14
        go_wp2_with (first
          | (go_at_call 33; rw [← HB.out, ← HLB.out]; refine KN.out.mono ?_; rintro e' W2 ⟨rfl, hw⟩; subst hw)
          | (go_at_call 36; refine KH3.out.mono ?_; rintro e' W2 ⟨rfl, hw⟩; subst hw)
          | (go_at_call 32; refine SK2.out.mono ?_; rintro e' WB ⟨rfl, hb2⟩
             have B2 := Lib.hid (B0.out.trans (hb2.mono B0.out.size))
             have C2 := Lib.hid (CB.out.kp hb2)
             clear hb2)
          | (go_at_call 34; refine (isFull_any WB C2.out HR.out).mono ?_; rw [show decide (r.l.length = ways) = true from decide_eq_true HFU.out]; rintro e' W3 ⟨rfl, hb3⟩
             have B3 := Lib.hid (B2.out.trans (hb3.mono B2.out.size))
             clear hb3))
        go_ret
        have EQ := HQ.out
        refine ⟨by unfold Ln.putE; rw [HH.out, EQ, if_pos rfl, if_neg (by have := HH0.out; omega), if_pos HFU.out]; rfl, ?_⟩
        unfold Ln.putQ
        rw [HH.out, EQ, if_pos rfl, if_neg (by have := HH0.out; omega), if_pos HFU.out]
        exact Ln.Turns.same HCA.out B3.out
      · have HFU := Lib.hid hful
        have HLT := Lib.hid (show r.l.length < ways by omega)
        clear hful
        go_enter Try.func14, Try.ntmps14
        go_wp2_with (first
          | (go_at_call 33; rw [← HB.out, ← HLB.out]; refine KN.out.mono ?_; rintro e' W2 ⟨rfl, hw⟩; subst hw)
          | (go_at_call 36; refine KH3.out.mono ?_; rintro e' W2 ⟨rfl, hw⟩; subst hw)
          | (go_at_call 32; refine SK2.out.mono ?_; rintro e' WA ⟨rfl, hb2⟩
             have B1 := Lib.hid (B0.out.trans (hb2.mono B0.out.size))
             have R1 := Lib.hid ((hb2.block _ (Array.getElem?_eq_some_iff.1 R0.out).1).trans R0.out)
             have C1 := Lib.hid (CB.out.kp hb2)
             clear hb2)
          | (go_at_call 34; refine (isFull_any WA C1.out HR.out).mono ?_; rw [show decide (r.l.length = ways) = false from decide_eq_false HFU.out]; rintro e' WB ⟨rfl, hb3⟩
             have B2 := Lib.hid (B1.out.trans (hb3.mono B1.out.size))
             have RB := Lib.hid ((hb3.block _ (Array.getElem?_eq_some_iff.1 R1.out).1).trans R1.out)
             have C2 := Lib.hid (C1.out.kp hb3)
             clear hb3))
        clear K0 K1
        obtain ⟨wq, hwq⟩ : ∃ wq, wq = { WB with drawn := WB.drawn + 1 } := ⟨_, rfl⟩
        have BQ := Lib.hid (show Below WB.heap.size WB wq by rw [hwq]; exact ⟨rfl, rfl, rfl, Nat.le_refl _, fun _ _ => rfl⟩)
        have HWQ := Lib.hid hwq
        clear hwq
        have CQ := Lib.hid (C2.out.kp BQ.out)
        have HFA := Lib.hid (show (fun x : World => x.cell? ⟨p, 0, none⟩ = some (.slice (some ⟨g, 0, none⟩) S.length S.length) ∧ x.cell? ⟨g, i, none⟩ = some (.slice r.a r.l.length r.c) ∧ x.heap[lb]? = some (.cells (Ln.cells e).toArray 30 (0, 0))) wq from ⟨CQ.out.c0, CQ.out.cs HR.out, (BQ.out.block lb (Array.getElem?_eq_some_iff.1 RB.out).1).trans RB.out⟩)
        refine Og.region_S (S := Og.SF 15 (fun x : World => x.cell? ⟨p, 0, none⟩ = some (.slice (some ⟨g, 0, none⟩) S.length S.length) ∧ x.cell? ⟨g, i, none⟩ = some (.slice r.a r.l.length r.c) ∧ x.heap[lb]? = some (.cells (Ln.cells e).toArray 30 (0, 0)))) (by kernel_rfl) ?_
        rw [← HWQ.out]
        refine Og.s_take 0 { dst := some 22, op := Go.Op.move (Go.Operand.tmp 0), type := 22, pos := "lines.go:49", after := #[], guard := none } (.pointer (some ⟨p, 0, none⟩)) _ (by kernel_rfl) (by kernel_rfl) (by kernel_rfl) (by kernel_rfl) (by kernel_rfl) (fun _ _ _ h => h) (fun _ => HFA.out) (fun x' hx => ?_) (by simp only [Act.put, List.setIfInBounds_toArray, List.set_cons_zero, List.set_cons_succ]; rfl) ?_
        · go_simp; try (with_reducible rfl)
        refine Og.s_take 1 { dst := some 23, op := Go.Op.nilCheck (Go.Operand.tmp 22), type := 0, pos := "lines.go:49", after := #[{ on := 0, ground := Go.Ground.data }], guard := none } (.pointer (some ⟨p, 0, none⟩)) _ (by kernel_rfl) (by kernel_rfl) (by kernel_rfl) (by kernel_rfl) (by kernel_rfl) (fun _ _ _ h => h) (fun _ => HFA.out) (fun x' hx => ?_) (by simp only [Act.put, List.setIfInBounds_toArray, List.set_cons_zero, List.set_cons_succ]; rfl) ?_
        · go_simp; try (with_reducible rfl)
        refine Og.s_take 2 { dst := some 24, op := Go.Op.fieldAddr 71 (Go.Operand.tmp 23) 0, type := 0, pos := "lines.go:49", after := #[{ on := 1, ground := Go.Ground.data }], guard := none } (.pointer (some ⟨p, 0, none⟩)) _ (by kernel_rfl) (by kernel_rfl) (by kernel_rfl) (by kernel_rfl) (by kernel_rfl) (fun _ _ _ h => h) (fun _ => HFA.out) (fun x' hx => ?_) (by simp only [Act.put, List.setIfInBounds_toArray, List.set_cons_zero, List.set_cons_succ]; rfl) ?_
        · go_simp; try (with_reducible rfl)
        refine Og.s_take 3 { dst := some 25, op := Go.Op.load 69 (Go.Operand.tmp 24), type := 69, pos := "lines.go:49", after := #[{ on := 2, ground := Go.Ground.data }], guard := none } (.slice (some ⟨g, 0, none⟩) S.length S.length) _ (by kernel_rfl) (by kernel_rfl) (by kernel_rfl) (by kernel_rfl) (by kernel_rfl) (fun _ _ _ h => h) (fun _ => HFA.out) (fun x' hx => ?_) (by simp only [Act.put, List.setIfInBounds_toArray, List.set_cons_zero, List.set_cons_succ]; rfl) ?_
        · have hx1 := (hx (by decide)).1; go_simp; try (with_reducible rfl)
        refine Og.s_take 4 { dst := some 26, op := Go.Op.move (Go.Operand.tmp 5), type := 3, pos := "lines.go:49", after := #[], guard := none } (.int .i64 (i : Int)) _ (by kernel_rfl) (by kernel_rfl) (by kernel_rfl) (by kernel_rfl) (by kernel_rfl) (fun _ _ _ h => h) (fun _ => HFA.out) (fun x' hx => ?_) (by simp only [Act.put, List.setIfInBounds_toArray, List.set_cons_zero, List.set_cons_succ]; rfl) ?_
        · go_simp; try (with_reducible rfl)
        refine Og.s_take 5 { dst := some 27, op := Go.Op.move (Go.Operand.tmp 0), type := 22, pos := "lines.go:49", after := #[], guard := none } (.pointer (some ⟨p, 0, none⟩)) _ (by kernel_rfl) (by kernel_rfl) (by kernel_rfl) (by kernel_rfl) (by kernel_rfl) (fun _ _ _ h => h) (fun _ => HFA.out) (fun x' hx => ?_) (by simp only [Act.put, List.setIfInBounds_toArray, List.set_cons_zero, List.set_cons_succ]; rfl) ?_
        · go_simp; try (with_reducible rfl)
        refine Og.s_take 6 { dst := some 28, op := Go.Op.nilCheck (Go.Operand.tmp 27), type := 0, pos := "lines.go:49", after := #[{ on := 5, ground := Go.Ground.data }], guard := none } (.pointer (some ⟨p, 0, none⟩)) _ (by kernel_rfl) (by kernel_rfl) (by kernel_rfl) (by kernel_rfl) (by kernel_rfl) (fun _ _ _ h => h) (fun _ => HFA.out) (fun x' hx => ?_) (by simp only [Act.put, List.setIfInBounds_toArray, List.set_cons_zero, List.set_cons_succ]; rfl) ?_
        · go_simp; try (with_reducible rfl)
        refine Og.s_take 7 { dst := some 29, op := Go.Op.fieldAddr 71 (Go.Operand.tmp 28) 0, type := 0, pos := "lines.go:49", after := #[{ on := 6, ground := Go.Ground.data }], guard := none } (.pointer (some ⟨p, 0, none⟩)) _ (by kernel_rfl) (by kernel_rfl) (by kernel_rfl) (by kernel_rfl) (by kernel_rfl) (fun _ _ _ h => h) (fun _ => HFA.out) (fun x' hx => ?_) (by simp only [Act.put, List.setIfInBounds_toArray, List.set_cons_zero, List.set_cons_succ]; rfl) ?_
        · go_simp; try (with_reducible rfl)
        refine Og.s_take 8 { dst := some 30, op := Go.Op.load 69 (Go.Operand.tmp 29), type := 69, pos := "lines.go:49", after := #[{ on := 7, ground := Go.Ground.data }], guard := none } (.slice (some ⟨g, 0, none⟩) S.length S.length) _ (by kernel_rfl) (by kernel_rfl) (by kernel_rfl) (by kernel_rfl) (by kernel_rfl) (fun _ _ _ h => h) (fun _ => HFA.out) (fun x' hx => ?_) (by simp only [Act.put, List.setIfInBounds_toArray, List.set_cons_zero, List.set_cons_succ]; rfl) ?_
        · have hx1 := (hx (by decide)).1; go_simp; try (with_reducible rfl)
        refine Og.s_take 9 { dst := some 31, op := Go.Op.move (Go.Operand.tmp 5), type := 3, pos := "lines.go:49", after := #[], guard := none } (.int .i64 (i : Int)) _ (by kernel_rfl) (by kernel_rfl) (by kernel_rfl) (by kernel_rfl) (by kernel_rfl) (fun _ _ _ h => h) (fun _ => HFA.out) (fun x' hx => ?_) (by simp only [Act.put, List.setIfInBounds_toArray, List.set_cons_zero, List.set_cons_succ]; rfl) ?_
        · go_simp; try (with_reducible rfl)
        refine Og.s_take 10 { dst := some 32, op := Go.Op.indexAddr 69 (Go.Operand.tmp 30) (Go.Operand.tmp 31), type := 0, pos := "lines.go:49", after := #[{ on := 8, ground := Go.Ground.data }, { on := 9, ground := Go.Ground.data }], guard := none } (.pointer (some ⟨g, i, none⟩)) _ (by kernel_rfl) (by kernel_rfl) (by kernel_rfl) (by kernel_rfl) (by kernel_rfl) (fun _ _ _ h => h) (fun _ => HFA.out) (fun x' hx => ?_) (by simp only [Act.put, List.setIfInBounds_toArray, List.set_cons_zero, List.set_cons_succ]; rfl) ?_
        · go_simp; try (with_reducible rfl)
        refine Og.s_take 11 { dst := some 33, op := Go.Op.load 38 (Go.Operand.tmp 32), type := 38, pos := "lines.go:49", after := #[{ on := 10, ground := Go.Ground.data }], guard := none } (.slice r.a r.l.length r.c) _ (by kernel_rfl) (by kernel_rfl) (by kernel_rfl) (by kernel_rfl) (by kernel_rfl) (fun _ _ _ h => h) (fun _ => HFA.out) (fun x' hx => ?_) (by simp only [Act.put, List.setIfInBounds_toArray, List.set_cons_zero, List.set_cons_succ]; rfl) ?_
        · have hx1 := (hx (by decide)).2.1; go_simp; try (with_reducible rfl)
        refine Og.s_take 12 { dst := some 34, op := Go.Op.load 30 (Go.Operand.tmp 3), type := 30, pos := "lines.go:49", after := #[], guard := none } (.agg (Ln.cells e).toArray) _ (by kernel_rfl) (by kernel_rfl) (by kernel_rfl) (by kernel_rfl) (by kernel_rfl) (fun _ _ _ h => h) (fun _ => HFA.out) (fun x' hx => ?_) (by simp only [Act.put, List.setIfInBounds_toArray, List.set_cons_zero, List.set_cons_succ]; rfl) ?_
        · exact Og.load_run 30 (.tmp 3) rfl ⟨lb, 0, none⟩ rfl (run_loadVar_row x' lb 30 30 (Ln.cells e).toArray (0, 0) _ (hx (by decide)).2.2 Try.underlying30 rfl (by rw [HOK.out.size]; exact Ln.size_line))
        refine Og.s_one 13 { dst := some 35, op := Go.Op.buildSlice 38 1 #[(0, Go.Operand.tmp 34)], type := 38, pos := "lines.go:49", after := #[{ on := 12, ground := Go.Ground.data }], guard := none } (by kernel_rfl) (by kernel_rfl) (by kernel_rfl) ?_
        refine Og.run_to (Ln.build_to HOK.out (.tmp 34) rfl rfl) ⟨Og.keep_sf (fun h => ⟨Ev.kp_below ((Below.refl wq.heap.size wq).alloc (Nat.le_refl _) _) _ _ h.1, Ev.kp_below ((Below.refl wq.heap.size wq).alloc (Nat.le_refl _) _) _ _ h.2.1, (((Below.refl wq.heap.size wq).alloc (Nat.le_refl _) _).block lb (Array.getElem?_eq_some_iff.1 h.2.2).1).trans h.2.2⟩), ?_⟩
        obtain ⟨a9, c9, w9, hrun9, hg9, hb9, ht9⟩ := CQ.out.append HR.out HOK.out HLT.out
        have HT9 := Lib.hid ht9; have HB9 := Lib.hid hb9; have HG9 := Lib.hid hg9; have HRN := Lib.hid hrun9
        clear hrun9 hg9 hb9 ht9
        refine Og.s_one 14 { dst := some 36, op := Go.Op.call { callee := Go.Callee.builtin Go.Builtin.append, args := #[Go.Operand.tmp 33, Go.Operand.tmp 35], argTypes := #[38, 38] }, type := 38, pos := "lines.go:49", after := #[{ on := 11, ground := Go.Ground.data }, { on := 13, ground := Go.Ground.data }], guard := none } (by kernel_rfl) (by kernel_rfl) (by kernel_rfl) ?_
        refine Og.run_to (Og.append_to (.tmp 33) (.tmp 35) 38 rfl rfl rfl HRN.out) ⟨Og.keep_sf (fun _ => ⟨(World.cell?_of_block (HB9.out p (World.block_lt_of_cell? _ _ HFA.out.1) (CQ.out.p_ne HR.out))).trans HFA.out.1, by rw [cell_of_row _ _ _ _ _ _ HG9.out]; simp [Ln.RW.v, HR.out], (HB9.out lb (Array.getElem?_eq_some_iff.1 HFA.out.2.2).1 HLN.out).trans HFA.out.2.2⟩), ?_⟩
        refine Og.s_take 15 { dst := some 37, op := Go.Op.indexAddr 69 (Go.Operand.tmp 25) (Go.Operand.tmp 26), type := 0, pos := "lines.go:49", after := #[{ on := 3, ground := Go.Ground.data }, { on := 4, ground := Go.Ground.data }, { on := 0, ground := Go.Ground.phase }, { on := 1, ground := Go.Ground.phase }, { on := 2, ground := Go.Ground.phase }, { on := 3, ground := Go.Ground.phase }, { on := 4, ground := Go.Ground.phase }, { on := 5, ground := Go.Ground.phase }, { on := 6, ground := Go.Ground.phase }, { on := 7, ground := Go.Ground.phase }, { on := 8, ground := Go.Ground.phase }, { on := 9, ground := Go.Ground.phase }, { on := 10, ground := Go.Ground.phase }, { on := 11, ground := Go.Ground.phase }, { on := 12, ground := Go.Ground.phase }, { on := 13, ground := Go.Ground.phase }, { on := 14, ground := Go.Ground.phase }], guard := none } (.pointer (some ⟨g, i, none⟩)) _ (by kernel_rfl) (by kernel_rfl) (by kernel_rfl) (by kernel_rfl) (by kernel_rfl) (fun _ _ _ h => h) (fun h => absurd h (by decide)) (fun x' hx => ?_) (by simp only [Act.put, List.setIfInBounds_toArray, List.set_cons_zero, List.set_cons_succ]; rfl) ?_
        · go_simp; try (with_reducible rfl)
        refine Og.s_one 16 { dst := none, op := Go.Op.store 38 (Go.Operand.tmp 37) (Go.Operand.tmp 36), type := 0, pos := "lines.go:49", after := #[{ on := 15, ground := Go.Ground.data }, { on := 14, ground := Go.Ground.data }, { on := 14, ground := Go.Ground.chain }, { on := 0, ground := Go.Ground.phase }, { on := 1, ground := Go.Ground.phase }, { on := 2, ground := Go.Ground.phase }, { on := 3, ground := Go.Ground.phase }, { on := 4, ground := Go.Ground.phase }, { on := 5, ground := Go.Ground.phase }, { on := 6, ground := Go.Ground.phase }, { on := 7, ground := Go.Ground.phase }, { on := 8, ground := Go.Ground.phase }, { on := 9, ground := Go.Ground.phase }, { on := 10, ground := Go.Ground.phase }, { on := 11, ground := Go.Ground.phase }, { on := 12, ground := Go.Ground.phase }, { on := 13, ground := Go.Ground.phase }, { on := 14, ground := Go.Ground.phase }], guard := none } (by kernel_rfl) (by kernel_rfl) (by kernel_rfl) ?_
        refine Og.skip_to (Og.store_to 38 (.tmp 37) (.tmp 36) rfl rfl rfl Ln.info_row1 (by rw [cell_of_row _ _ _ _ _ _ HG9.out]; simp [Ln.RW.v, HR.out]; rfl) (Ln.free_row HG9.out)) ⟨Og.keep_last (o := { dst := none, op := Go.Op.store 38 (Go.Operand.tmp 37) (Go.Operand.tmp 36), type := 0, pos := "lines.go:49", after := #[{ on := 15, ground := Go.Ground.data }, { on := 14, ground := Go.Ground.data }, { on := 14, ground := Go.Ground.chain }, { on := 0, ground := Go.Ground.phase }, { on := 1, ground := Go.Ground.phase }, { on := 2, ground := Go.Ground.phase }, { on := 3, ground := Go.Ground.phase }, { on := 4, ground := Go.Ground.phase }, { on := 5, ground := Go.Ground.phase }, { on := 6, ground := Go.Ground.phase }, { on := 7, ground := Go.Ground.phase }, { on := 8, ground := Go.Ground.phase }, { on := 9, ground := Go.Ground.phase }, { on := 10, ground := Go.Ground.phase }, { on := 11, ground := Go.Ground.phase }, { on := 12, ground := Go.Ground.phase }, { on := 13, ground := Go.Ground.phase }, { on := 14, ground := Go.Ground.phase }], guard := none }) (by kernel_rfl) (by kernel_rfl), ?_⟩
        obtain ⟨w10, hw10⟩ : ∃ w10, w10 = w9.setCell ⟨g, i, none⟩ (.slice a9 (r.l.length + 1) c9) := ⟨_, rfl⟩
        rw [← hw10]
        have HT10 := Lib.hid (show Ln.Turns F wq w10 p ways ((S.map (·.l)).set i (r.l ++ [e])) by rw [hw10]; exact HT9.out)
        clear hw10
        refine Og.s_done (by kernel_rfl) ?_ _
        simp only [Act.put, List.setIfInBounds_toArray, List.set_cons_zero, List.set_cons_succ]
        go_wp2_with fail
        go_ret
        have EQ := HQ.out
        refine ⟨by unfold Ln.putE; rw [HH.out, EQ, if_pos rfl, if_neg (by have := HH0.out; omega), if_neg HFU.out]; rfl, ?_⟩
        unfold Ln.putQ
        rw [HH.out, EQ, if_pos rfl, if_neg (by have := HH0.out; omega), if_neg HFU.out, HQ1.out]
        exact (HT10.out.before BQ.out).before B2.out
end Go.Proofs.Ytifniogldinbdaa
