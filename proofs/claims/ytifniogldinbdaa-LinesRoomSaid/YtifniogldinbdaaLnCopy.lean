/-
  The contract of Copy.
-/
import Derived.Test.YtifniogldinbdaaLnClone
namespace Go.Proofs.Ytifniogldinbdaa
open Go.RowKit
set_option linter.unusedVariables false
set_option linter.unusedSimpArgs false
theorem Og.build2_to {o : Oper} {ρ : Operand → Value} {w : World} {u v : Value} (x y : Operand) (ho : o.op = .build 71 #[(0, x), (1, y)]) (hb : Try.prog.built 71 [(0, ρ x), (1, ρ y)] = some #[u, v]) : (execOp ρ o).run Try.prog w = .ok (.value (.agg #[u, v])) w := by
  unfold execOp
  simp only [ho, Sem.run_bind, List.map_toArray, List.map_cons, List.map_nil, run_build w 71 _ #[u, v] hb, Result.andThen_ok, Sem.run_pure]
theorem copy_nil (w : World) : Calls Try.prog 18 #[.pointer none] w fun e w' => e = .returned (.pointer none) ∧ w = w' := by
  go_enter Try.func18, Try.ntmps18
  go_wp2_with (go_at_call 33; refine (isNone_nil w).mono ?_; rintro e W2 ⟨rfl, hw⟩; subst hw)
  go_ret
  exact ⟨rfl, rfl⟩
set_option maxRecDepth 100000 in
set_option maxHeartbeats 4000000 in
theorem copy_any (w : World) {F p ways Q} (h : Ln.Cache w F p ways Q) :
    Calls Try.prog 18 #[.pointer (some ⟨p, 0, none⟩)] w fun e w' => ∃ p2, e = .returned (.pointer (some ⟨p2, 0, none⟩)) ∧ Below w.heap.size w w' ∧ ∃ F2, Ln.Cache w' F2 p2 ways Q ∧ ∀ k, F2 k → w.heap.size ≤ k := by
  obtain ⟨g, S, hc, rfl⟩ := h
  have HC := Lib.hid hc
  have hl := hc.len
  have hp := hc.pos
  have hw8 := hc.wlen
  have hw0 := hc.wpos
  have KN := Lib.hid (isNone_any w hc)
  obtain ⟨i0, hi, hz0, hz1, hz2⟩ := Ln.info_rows
  have HMK := Lib.hid (show ∀ W : World, (Instr.makeSlice 69 (.int .i64 (S.length : Int)) (.int .i64 (S.length : Int))).run Try.prog W = .ok (.slice (some ⟨W.heap.size, 0, none⟩) S.length S.length) (W.alloc (.cells ((List.replicate S.length Ln.noRW).map Ln.RW.v).toArray 38)) from by
    intro W
    have := run_make (P := Try.prog) W 69 38 i0 (.slice none 0 0) Try.underlying69 hi hz0 .i64 .i64 (S.length : Int) (S.length : Int) (by omega) (by omega) (by rw [hz2]; omega) (by omega)
    rw [this, hz1, Int.toNat_natCast]
    congr 3
    apply Array.toList_inj.1
    show (madeCells #[Value.slice none 0 0] (S.length * 1)).toList = _
    rw [toList_madeCells_one]
    simp [Ln.noRW, Ln.RW.v])
  clear hi hz0 hz1 hz2 hc
  go_enter Try.func18, Try.ntmps18
  go_wp2_with (go_at_call 33; refine KN.out.mono ?_; rintro e W2 ⟨rfl, hw⟩; subst hw)
  obtain ⟨wq, hwq⟩ : ∃ wq, wq = { w with drawn := w.drawn + 1 } := ⟨_, rfl⟩
  have BQ := Lib.hid (show Below w.heap.size w wq by rw [hwq]; exact ⟨rfl, rfl, rfl, Nat.le_refl _, fun _ _ => rfl⟩)
  have HWQ := Lib.hid hwq
  clear hwq
  have CQ := Lib.hid (HC.out.kp BQ.out)
  have HFA := Lib.hid (show (fun x : World => x.cell? ⟨p, 0, none⟩ = some (.slice (some ⟨g, 0, none⟩) S.length S.length) ∧ x.cell? ⟨p, 1, none⟩ = some (.int .i64 (ways : Int))) wq from ⟨CQ.out.c0, CQ.out.c1⟩)
  refine Og.region_S (S := Og.SF 10 (fun x : World => x.cell? ⟨p, 0, none⟩ = some (.slice (some ⟨g, 0, none⟩) S.length S.length) ∧ x.cell? ⟨p, 1, none⟩ = some (.int .i64 (ways : Int)))) (by kernel_rfl) ?_
  rw [← HWQ.out]
  refine Og.s_take 0 { dst := some 8, op := Go.Op.move (Go.Operand.tmp 0), type := 22, pos := "lines.go:89", after := #[], guard := none } (.pointer (some ⟨p, 0, none⟩)) _ (by kernel_rfl) (by kernel_rfl) (by kernel_rfl) (by kernel_rfl) (by kernel_rfl) (fun _ _ _ h => h) (fun _ => HFA.out) (fun x' hx => ?_) (by simp only [Act.put, List.setIfInBounds_toArray, List.set_cons_zero, List.set_cons_succ]; rfl) ?_
  · go_simp; try (with_reducible rfl)
  refine Og.s_take 1 { dst := some 9, op := Go.Op.nilCheck (Go.Operand.tmp 8), type := 0, pos := "lines.go:89", after := #[{ on := 0, ground := Go.Ground.data }], guard := none } (.pointer (some ⟨p, 0, none⟩)) _ (by kernel_rfl) (by kernel_rfl) (by kernel_rfl) (by kernel_rfl) (by kernel_rfl) (fun _ _ _ h => h) (fun _ => HFA.out) (fun x' hx => ?_) (by simp only [Act.put, List.setIfInBounds_toArray, List.set_cons_zero, List.set_cons_succ]; rfl) ?_
  · go_simp; try (with_reducible rfl)
  refine Og.s_take 2 { dst := some 10, op := Go.Op.fieldAddr 71 (Go.Operand.tmp 9) 0, type := 0, pos := "lines.go:89", after := #[{ on := 1, ground := Go.Ground.data }], guard := none } (.pointer (some ⟨p, 0, none⟩)) _ (by kernel_rfl) (by kernel_rfl) (by kernel_rfl) (by kernel_rfl) (by kernel_rfl) (fun _ _ _ h => h) (fun _ => HFA.out) (fun x' hx => ?_) (by simp only [Act.put, List.setIfInBounds_toArray, List.set_cons_zero, List.set_cons_succ]; rfl) ?_
  · go_simp; try (with_reducible rfl)
  refine Og.s_take 3 { dst := some 11, op := Go.Op.load 69 (Go.Operand.tmp 10), type := 69, pos := "lines.go:89", after := #[{ on := 2, ground := Go.Ground.data }], guard := none } (.slice (some ⟨g, 0, none⟩) S.length S.length) _ (by kernel_rfl) (by kernel_rfl) (by kernel_rfl) (by kernel_rfl) (by kernel_rfl) (fun _ _ _ h => h) (fun _ => HFA.out) (fun x' hx => ?_) (by simp only [Act.put, List.setIfInBounds_toArray, List.set_cons_zero, List.set_cons_succ]; rfl) ?_
  · have hx1 := (hx (by decide)).1; go_simp; try (with_reducible rfl)
  refine Og.s_take 4 { dst := some 12, op := Go.Op.call { callee := Go.Callee.builtin Go.Builtin.len, args := #[Go.Operand.tmp 11], argTypes := #[69] }, type := 3, pos := "lines.go:89", after := #[{ on := 3, ground := Go.Ground.data }], guard := none } (.int .i64 (S.length : Int)) _ (by kernel_rfl) (by kernel_rfl) (by kernel_rfl) (by kernel_rfl) (by kernel_rfl) (fun _ _ _ h => h) (fun _ => HFA.out) (fun x' hx => ?_) (by simp only [Act.put, List.setIfInBounds_toArray, List.set_cons_zero, List.set_cons_succ]; rfl) ?_
  · go_simp; try (with_reducible rfl)
  refine Og.s_take 6 { dst := some 14, op := Go.Op.move (Go.Operand.tmp 0), type := 22, pos := "lines.go:89", after := #[], guard := none } (.pointer (some ⟨p, 0, none⟩)) _ (by kernel_rfl) (by kernel_rfl) (by kernel_rfl) (by kernel_rfl) (by kernel_rfl) (fun _ _ _ h => h) (fun _ => HFA.out) (fun x' hx => ?_) (by simp only [Act.put, List.setIfInBounds_toArray, List.set_cons_zero, List.set_cons_succ]; rfl) ?_
  · go_simp; try (with_reducible rfl)
  refine Og.s_take 7 { dst := some 15, op := Go.Op.nilCheck (Go.Operand.tmp 14), type := 0, pos := "lines.go:89", after := #[{ on := 6, ground := Go.Ground.data }], guard := none } (.pointer (some ⟨p, 0, none⟩)) _ (by kernel_rfl) (by kernel_rfl) (by kernel_rfl) (by kernel_rfl) (by kernel_rfl) (fun _ _ _ h => h) (fun _ => HFA.out) (fun x' hx => ?_) (by simp only [Act.put, List.setIfInBounds_toArray, List.set_cons_zero, List.set_cons_succ]; rfl) ?_
  · go_simp; try (with_reducible rfl)
  refine Og.s_take 8 { dst := some 16, op := Go.Op.fieldAddr 71 (Go.Operand.tmp 15) 1, type := 0, pos := "lines.go:89", after := #[{ on := 7, ground := Go.Ground.data }], guard := none } (.pointer (some ⟨p, 1, none⟩)) _ (by kernel_rfl) (by kernel_rfl) (by kernel_rfl) (by kernel_rfl) (by kernel_rfl) (fun _ _ _ h => h) (fun _ => HFA.out) (fun x' hx => ?_) (by simp only [Act.put, List.setIfInBounds_toArray, List.set_cons_zero, List.set_cons_succ]; rfl) ?_
  · go_simp; try (with_reducible rfl)
  refine Og.s_take 9 { dst := some 17, op := Go.Op.load 3 (Go.Operand.tmp 16), type := 3, pos := "lines.go:89", after := #[{ on := 8, ground := Go.Ground.data }], guard := none } (.int .i64 (ways : Int)) _ (by kernel_rfl) (by kernel_rfl) (by kernel_rfl) (by kernel_rfl) (by kernel_rfl) (fun _ _ _ h => h) (fun _ => HFA.out) (fun x' hx => ?_) (by simp only [Act.put, List.setIfInBounds_toArray, List.set_cons_zero, List.set_cons_succ]; rfl) ?_
  · have hx1 := (hx (by decide)).2; go_simp; try (with_reducible rfl)
  refine Og.s_one 5 { dst := some 13, op := Go.Op.makeSlice 69 (Go.Operand.tmp 12) (Go.Operand.tmp 12), type := 69, pos := "lines.go:89", after := #[{ on := 4, ground := Go.Ground.data }, { on := 4, ground := Go.Ground.data }], guard := none } (by kernel_rfl) (by kernel_rfl) (by kernel_rfl) ?_
  refine Og.run_to (v := .slice (some ⟨wq.heap.size, 0, none⟩) S.length S.length) (w' := wq.alloc (.cells ((List.replicate S.length Ln.noRW).map Ln.RW.v).toArray 38)) ?_ ⟨Og.keep_sf (fun h => ⟨Ev.kp_below ((Below.refl wq.heap.size wq).alloc (Nat.le_refl _) _) _ _ h.1, Ev.kp_below ((Below.refl wq.heap.size wq).alloc (Nat.le_refl _) _) _ _ h.2⟩), ?_⟩
  · have hmk := HMK.out wq
    go_simp
  obtain ⟨w9, hw9⟩ : ∃ w9, w9 = wq.alloc (.cells ((List.replicate S.length Ln.noRW).map Ln.RW.v).toArray 38) := ⟨_, rfl⟩
  rw [← hw9]
  have HW9 := Lib.hid hw9
  clear hw9
  refine Og.s_take 10 { dst := some 18, op := Go.Op.build 71 #[(0, Go.Operand.tmp 13), (1, Go.Operand.tmp 17)], type := 71, pos := "lines.go:89", after := #[{ on := 5, ground := Go.Ground.data }, { on := 9, ground := Go.Ground.data }], guard := none } (.agg #[.slice (some ⟨wq.heap.size, 0, none⟩) S.length S.length, .int .i64 (ways : Int)]) _ (by kernel_rfl) (by kernel_rfl) (by kernel_rfl) (by kernel_rfl) (by kernel_rfl) (fun _ _ _ h => h) (fun h => absurd h (by decide)) (fun x' hx => ?_) (by simp only [Act.put, List.setIfInBounds_toArray, List.set_cons_zero, List.set_cons_succ]; rfl) ?_
  · exact Og.build2_to _ _ rfl (by kernel_rfl)
  refine Og.s_one 11 { dst := some 19, op := Go.Op.box 71 (Go.Operand.tmp 18), type := 22, pos := "lines.go:89", after := #[{ on := 10, ground := Go.Ground.data }], guard := none } (by kernel_rfl) (by kernel_rfl) (by kernel_rfl) ?_
  refine Og.run_to (v := .pointer (some ⟨w9.heap.size, 0, none⟩)) (w' := w9.alloc (.cells #[.slice (some ⟨wq.heap.size, 0, none⟩) S.length S.length, .int .i64 (ways : Int)] 71)) (by go_simp) ⟨Og.keep_sf (fun h => ⟨Ev.kp_below ((Below.refl w9.heap.size w9).alloc (Nat.le_refl _) _) _ _ h.1, Ev.kp_below ((Below.refl w9.heap.size w9).alloc (Nat.le_refl _) _) _ _ h.2⟩), ?_⟩
  refine Og.s_take 12 { dst := some 3, op := Go.Op.assign (Go.Operand.tmp 19), type := 22, pos := "lines.go:89", after := #[{ on := 11, ground := Go.Ground.data }, { on := 0, ground := Go.Ground.phase }, { on := 1, ground := Go.Ground.phase }, { on := 2, ground := Go.Ground.phase }, { on := 3, ground := Go.Ground.phase }, { on := 4, ground := Go.Ground.phase }, { on := 5, ground := Go.Ground.phase }, { on := 6, ground := Go.Ground.phase }, { on := 7, ground := Go.Ground.phase }, { on := 8, ground := Go.Ground.phase }, { on := 9, ground := Go.Ground.phase }, { on := 10, ground := Go.Ground.phase }, { on := 11, ground := Go.Ground.phase }], guard := none } (.pointer (some ⟨w9.heap.size, 0, none⟩)) _ (by kernel_rfl) (by kernel_rfl) (by kernel_rfl) (by kernel_rfl) (by kernel_rfl) (fun _ _ _ h => h) (fun h => absurd h (by decide)) (fun x' hx => ?_) (by simp only [Act.put, List.setIfInBounds_toArray, List.set_cons_zero, List.set_cons_succ]; rfl) ?_
  · go_simp; try (with_reducible rfl)
  refine Og.s_done (by kernel_rfl) ?_ _
  try simp only [Act.put, List.setIfInBounds_toArray, List.set_cons_zero, List.set_cons_succ]
  have hsz9 : w9.heap.size = wq.heap.size + 1 := by rw [HW9.out]; simp
  obtain ⟨p2, hp2⟩ : ∃ p2, p2 = w9.heap.size := ⟨_, rfl⟩
  obtain ⟨w1, hw1⟩ : ∃ w1, w1 = w9.alloc (.cells #[.slice (some ⟨wq.heap.size, 0, none⟩) S.length S.length, .int .i64 (ways : Int)] 71) := ⟨_, rfl⟩
  rw [← hp2, ← hw1]
  have B1 := Lib.hid (show Below w.heap.size w w1 by rw [hw1, HW9.out]; exact (BQ.out.alloc BQ.out.size _).alloc (by have := BQ.out.size; simp; omega) _)
  have hget : ∀ (i : Nat) (r : Ln.RW), (List.replicate S.length Ln.noRW)[i]? = some r → r = Ln.noRW := fun i r hr => List.eq_of_mem_replicate (List.mem_of_getElem? hr)
  have hC1 : Ln.Cin w1 (fun k => k = p2 ∨ k = wq.heap.size) p2 wq.heap.size ways (List.replicate S.length Ln.noRW) := by
    refine ⟨?_, ?_, fun i r hr => ?_, fun i j r t hij hr ht => ?_, .inl rfl, .inr rfl, fun r hr k hk => ?_, fun k hk => ?_, fun r hr e he => ?_, by simp; omega, by simp; omega, by omega, by omega, fun r hr => ?_⟩
    · rw [List.length_replicate, hw1, hp2]; exact heap_alloc_new _ _
    · rw [hw1, HW9.out]; exact heap_alloc2_old wq _ _
    · rw [hget i r hr]; exact World.ownsRow_nil _ _ _ _
    · rw [hget i r hr]; exact .inl rfl
    · rw [List.eq_of_mem_replicate hr] at hk; cases hk
    · rw [hw1]; simp; omega
    · rw [List.eq_of_mem_replicate hr] at he; cases he
    · rw [List.eq_of_mem_replicate hr]; exact Nat.zero_le _
  have hwqs := BQ.out.size
  have HQ1 := Lib.hid (show ∃ F2, Ln.Cache w1 F2 p2 ways (((S.map (·.l)).take 0) ++ List.replicate (S.length - 0) []) ∧ ∀ k, F2 k → w.heap.size ≤ k from ⟨_, ⟨_, _, hC1, by simp [Ln.noRW]⟩, fun k hk => by omega⟩)
  have c0 := (HC.out.kp B1.out).c0
  clear hC1 hget hp2 hw1 hsz9 hwqs
  go_wp2_with fail
  clear c0
  go_loopw [4, 5, 25] (fun _ _ i wr => ∃ k : Nat, k ≤ S.length ∧ i = .int .i64 (k : Int) ∧ Below w.heap.size w wr ∧ ∃ F2, Ln.Cache wr F2 p2 ways (((S.map (·.l)).take k) ++ List.replicate (S.length - k) []) ∧ ∀ j, F2 j → w.heap.size ≤ j) (fun _ _ i _ => S.length - (intOf i).toNat)
  case atStart => exact ⟨0, Nat.zero_le _, rfl, B1.out, HQ1.out⟩
  case round =>
    obtain ⟨k, hk, rfl, hbr, F2, hca, hf2⟩ := hrel
    have HBR := Lib.hid hbr; have HCA := Lib.hid hca; have HF2 := Lib.hid hf2
    clear hbr hca hf2
    by_cases hlt : k < S.length
    · have hki : (k : Int) < (S.length : Int) := by omega
      obtain ⟨r, hr⟩ : ∃ r, S[k]? = some r := ⟨_, List.getElem?_eq_getElem hlt⟩
      have HR := Lib.hid hr
      have CR := Lib.hid (HC.out.kp HBR.out)
      have hrl := CR.out.fits r (List.mem_of_getElem? hr)
      have cs := CR.out.cs hr
      obtain ⟨g2, S2, hc2, hq2⟩ := HCA.out
      have C2 := Lib.hid hc2
      have hl2 : S2.length = S.length := by
        have := congrArg List.length hq2
        simp at this
        omega
      obtain ⟨r2, hr2⟩ : ∃ r2, S2[k]? = some r2 := ⟨_, List.getElem?_eq_getElem (by omega)⟩
      have HR2 := Lib.hid hr2
      have hki2 : (k : Int) < (S2.length : Int) := by omega
      have HQ2 := Lib.hid hq2
      have HNX := Lib.hid (show (S2.map (·.l)).set k r.l = ((S.map (·.l)).take (k + 1)) ++ List.replicate (S.length - (k + 1)) [] from by
        rw [HQ2.out]
        have h1 : ((S.map (·.l)).take k).length = k := by simp; omega
        obtain ⟨m, hm⟩ : ∃ m, S.length - k = m + 1 := ⟨S.length - k - 1, by omega⟩
        rw [hm, List.set_append_right _ _ (by omega), h1, Nat.sub_self, List.replicate_succ, List.set_cons_zero, List.take_add_one, List.getElem?_map, HR.out, show S.length - (k + 1) = m by omega]
        simp)
      clear hr hc2 hq2 hr2
      go_wp2_with fail
      clear cs
      obtain ⟨wq, hwq⟩ : ∃ wq, wq = { wr with drawn := wr.drawn + 1 } := ⟨_, rfl⟩
      have BQ := Lib.hid (show Below wr.heap.size wr wq by rw [hwq]; exact ⟨rfl, rfl, rfl, Nat.le_refl _, fun _ _ => rfl⟩)
      have HWQ := Lib.hid hwq
      clear hwq
      have C2Q := Lib.hid (C2.out.kp BQ.out)
      have CQ := Lib.hid (CR.out.kp BQ.out)
      have HFA := Lib.hid (show (fun x : World => x.cell? ⟨p2, 0, none⟩ = some (.slice (some ⟨g2, 0, none⟩) S2.length S2.length)) wq from C2Q.out.c0)
      refine Og.region_S (S := Og.SF 6 (fun x : World => x.cell? ⟨p2, 0, none⟩ = some (.slice (some ⟨g2, 0, none⟩) S2.length S2.length))) (by kernel_rfl) ?_
      rw [← HWQ.out]
      refine Og.s_take 0 { dst := some 30, op := Go.Op.move (Go.Operand.tmp 3), type := 22, pos := "lines.go:91", after := #[], guard := none } (.pointer (some ⟨p2, 0, none⟩)) _ (by kernel_rfl) (by kernel_rfl) (by kernel_rfl) (by kernel_rfl) (by kernel_rfl) (fun _ _ _ h => h) (fun _ => HFA.out) (fun x' hx => ?_) (by simp only [Act.put, List.setIfInBounds_toArray, List.set_cons_zero, List.set_cons_succ]; rfl) ?_
      · go_simp; try (with_reducible rfl)
      refine Og.s_take 1 { dst := some 31, op := Go.Op.nilCheck (Go.Operand.tmp 30), type := 0, pos := "lines.go:91", after := #[{ on := 0, ground := Go.Ground.data }], guard := none } (.pointer (some ⟨p2, 0, none⟩)) _ (by kernel_rfl) (by kernel_rfl) (by kernel_rfl) (by kernel_rfl) (by kernel_rfl) (fun _ _ _ h => h) (fun _ => HFA.out) (fun x' hx => ?_) (by simp only [Act.put, List.setIfInBounds_toArray, List.set_cons_zero, List.set_cons_succ]; rfl) ?_
      · go_simp; try (with_reducible rfl)
      refine Og.s_take 2 { dst := some 32, op := Go.Op.fieldAddr 71 (Go.Operand.tmp 31) 0, type := 0, pos := "lines.go:91", after := #[{ on := 1, ground := Go.Ground.data }], guard := none } (.pointer (some ⟨p2, 0, none⟩)) _ (by kernel_rfl) (by kernel_rfl) (by kernel_rfl) (by kernel_rfl) (by kernel_rfl) (fun _ _ _ h => h) (fun _ => HFA.out) (fun x' hx => ?_) (by simp only [Act.put, List.setIfInBounds_toArray, List.set_cons_zero, List.set_cons_succ]; rfl) ?_
      · go_simp; try (with_reducible rfl)
      refine Og.s_take 3 { dst := some 33, op := Go.Op.load 69 (Go.Operand.tmp 32), type := 69, pos := "lines.go:91", after := #[{ on := 2, ground := Go.Ground.data }], guard := none } (.slice (some ⟨g2, 0, none⟩) S2.length S2.length) _ (by kernel_rfl) (by kernel_rfl) (by kernel_rfl) (by kernel_rfl) (by kernel_rfl) (fun _ _ _ h => h) (fun _ => HFA.out) (fun x' hx => ?_) (by simp only [Act.put, List.setIfInBounds_toArray, List.set_cons_zero, List.set_cons_succ]; rfl) ?_
      · have hx1 := (hx (by decide)); go_simp; try (with_reducible rfl)
      refine Og.s_take 4 { dst := some 34, op := Go.Op.move (Go.Operand.tmp 4), type := 3, pos := "lines.go:91", after := #[], guard := none } (.int .i64 (k : Int)) _ (by kernel_rfl) (by kernel_rfl) (by kernel_rfl) (by kernel_rfl) (by kernel_rfl) (fun _ _ _ h => h) (fun _ => HFA.out) (fun x' hx => ?_) (by simp only [Act.put, List.setIfInBounds_toArray, List.set_cons_zero, List.set_cons_succ]; rfl) ?_
      · go_simp; try (with_reducible rfl)
      refine Og.s_take 5 { dst := some 35, op := Go.Op.move (Go.Operand.tmp 5), type := 38, pos := "lines.go:91", after := #[], guard := none } (.slice r.a r.l.length r.c) _ (by kernel_rfl) (by kernel_rfl) (by kernel_rfl) (by kernel_rfl) (by kernel_rfl) (fun _ _ _ h => h) (fun _ => HFA.out) (fun x' hx => ?_) (by simp only [Act.put, List.setIfInBounds_toArray, List.set_cons_zero, List.set_cons_succ]; rfl) ?_
      · go_simp; try (with_reducible rfl)
      refine Og.s_one 6 { dst := some 36, op := Go.Op.call { callee := Go.Callee.value (Go.Operand.func 39), args := #[Go.Operand.tmp 35], argTypes := #[38] }, type := 38, pos := "lines.go:91", after := #[{ on := 5, ground := Go.Ground.data }], guard := none } (by kernel_rfl) (by kernel_rfl) (by kernel_rfl) ?_
      refine Og.call_to (w1 := wq) (f := 39) (args := #[.slice r.a r.l.length r.c]) (by go_simp) ?_
      refine (clone_any r.a r.c r.l (by omega) wq (CQ.out.row HR.out)).mono ?_
      rintro e' w9 ⟨a9, c9, rfl, ho9, hb9⟩
      have HO9 := Lib.hid ho9; have HB9 := Lib.hid hb9
      clear ho9 hb9
      refine ⟨_, rfl, Og.keep_sf (fun h => Ev.kp_below HB9.out _ _ h), ?_⟩
      refine Og.s_take 7 { dst := some 37, op := Go.Op.indexAddr 69 (Go.Operand.tmp 33) (Go.Operand.tmp 34), type := 0, pos := "lines.go:91", after := #[{ on := 3, ground := Go.Ground.data }, { on := 4, ground := Go.Ground.data }, { on := 0, ground := Go.Ground.phase }, { on := 1, ground := Go.Ground.phase }, { on := 2, ground := Go.Ground.phase }, { on := 3, ground := Go.Ground.phase }, { on := 4, ground := Go.Ground.phase }, { on := 5, ground := Go.Ground.phase }, { on := 6, ground := Go.Ground.phase }], guard := none } (.pointer (some ⟨g2, k, none⟩)) _ (by kernel_rfl) (by kernel_rfl) (by kernel_rfl) (by kernel_rfl) (by kernel_rfl) (fun _ _ _ h => h) (fun h => absurd h (by decide)) (fun x' hx => ?_) (by simp only [Act.put, List.setIfInBounds_toArray, List.set_cons_zero, List.set_cons_succ]; rfl) ?_
      · go_simp; try (with_reducible rfl)
      obtain ⟨hg9, ht9⟩ := C2Q.out.put_row (w1 := w9) (r' := ⟨a9, c9, r.l⟩) HR2.out HB9.out.os HB9.out.tape HB9.out.output HB9.out.size (fun j hj _ => HB9.out.block j hj) (Ln.own_mono HO9.out (Nat.zero_le _)) (fun j hj => .inr ((HO9.out.lt j hj).1)) (CQ.out.ok r (List.mem_of_getElem? HR.out)) (by omega)
      have HT9 := Lib.hid ht9; have HG9 := Lib.hid hg9
      clear ht9 hg9
      refine Og.s_one 8 { dst := none, op := Go.Op.store 38 (Go.Operand.tmp 37) (Go.Operand.tmp 36), type := 0, pos := "lines.go:91", after := #[{ on := 7, ground := Go.Ground.data }, { on := 6, ground := Go.Ground.data }, { on := 6, ground := Go.Ground.chain }, { on := 0, ground := Go.Ground.phase }, { on := 1, ground := Go.Ground.phase }, { on := 2, ground := Go.Ground.phase }, { on := 3, ground := Go.Ground.phase }, { on := 4, ground := Go.Ground.phase }, { on := 5, ground := Go.Ground.phase }, { on := 6, ground := Go.Ground.phase }], guard := none } (by kernel_rfl) (by kernel_rfl) (by kernel_rfl) ?_
      refine Og.skip_to (Og.store_to 38 (.tmp 37) (.tmp 36) rfl rfl rfl Ln.info_row1 (u := r2.v) (by rw [cell_of_row _ _ _ _ _ _ HG9.out]; simp [HR2.out]) (Ln.free_row HG9.out)) ⟨Og.keep_last (o := { dst := none, op := Go.Op.store 38 (Go.Operand.tmp 37) (Go.Operand.tmp 36), type := 0, pos := "lines.go:91", after := #[{ on := 7, ground := Go.Ground.data }, { on := 6, ground := Go.Ground.data }, { on := 6, ground := Go.Ground.chain }, { on := 0, ground := Go.Ground.phase }, { on := 1, ground := Go.Ground.phase }, { on := 2, ground := Go.Ground.phase }, { on := 3, ground := Go.Ground.phase }, { on := 4, ground := Go.Ground.phase }, { on := 5, ground := Go.Ground.phase }, { on := 6, ground := Go.Ground.phase }], guard := none }) (by kernel_rfl) (by kernel_rfl), ?_⟩
      obtain ⟨w10, hw10⟩ : ∃ w10, w10 = w9.setCell ⟨g2, k, none⟩ (.slice a9 r.l.length c9) := ⟨_, rfl⟩
      rw [← hw10]
      have HT10 := Lib.hid (show Ln.Turns F2 wq w10 p2 ways ((S2.map (·.l)).set k r.l) by rw [hw10]; exact HT9.out)
      clear hw10
      refine Og.s_done (by kernel_rfl) ?_ _
      try simp only [Act.put, List.setIfInBounds_toArray, List.set_cons_zero, List.set_cons_succ]
      go_wp2_with fail
      go_roundw
      case rel =>
        obtain ⟨F3, hc3, hfr, hk3⟩ := HT10.out.before BQ.out
        exact ⟨k + 1, by omega, by go_num, Ln.Fr.below HBR.out hfr HF2.out (Nat.le_refl _), F3, by rw [← HNX.out]; exact hc3, fun j hj => by
          rcases hk3 j hj with h | h
          · exact HF2.out j h
          · have := HBR.out.size; omega⟩
      case measure => simp [intOf]; omega
    · have hki : ¬ (k : Int) < (S.length : Int) := by omega
      have hke : k = S.length := by omega
      subst hke
      go_wp2_with fail
      go_ret
      refine ⟨p2, rfl, HBR.out, F2, ?_, HF2.out⟩
      have := HCA.out
      rw [List.take_of_length_le (by simp), Nat.sub_self, List.replicate_zero, List.append_nil] at this
      exact this
end Go.Proofs.Ytifniogldinbdaa
