import Derived.Test.YtfajkgbpeapcbaaNa08
import Derived.Test.YtfajkgbpeapcbaaNa07
set_option linter.unusedVariables false
set_option linter.unusedSimpArgs false

section
namespace Go.Proofs.Ytfajkgbpeapcbaa
open Go.RowKit
theorem Og.call_to {P : Program} {o : Oper} {a : Act} {w w1 : World} {f : FuncId} {args : Array Value} {K : Act → World → Prop} {Q : Exit → Act → World → Prop} (h : (execOp a.eval o).run P w = .ok (.enter f args) w1) (hc : Calls P f args w1 fun e w' => ∃ v, e = .returned v ∧ K (a.put o.dst v) w') : o.wp P a w K Q := by
  unfold Oper.wp
  rw [h, Oper.upon_enter]
  refine hc.mono ?_
  rintro e w' ⟨v, rfl, hk⟩
  exact hk
namespace Og
theorem s_two {P : Program} {ops : Array Oper} {Q : Exit → Act → World → Prop} {md : Region.Mode} {S : Nat → World → Prop} {fuel : Nat} {listed : Array Bool} {a : Act} {w : World} (i j : Nat) (o o' : Oper) (hi : ops[i]? = some o) (hg : o.guard = none) (hj : ops[j]? = some o') (hg' : o'.guard = none) (hr : Region.ready md ops listed = [i, j])
    (h : o.wp P a w (fun a' w' => Keep md ops S i w w' ∧ wpAnyS P md ops Q S fuel (listed.setIfInBounds i true) a' w') Q)
    (h' : o'.wp P a w (fun a' w' => Keep md ops S j w w' ∧ wpAnyS P md ops Q S fuel (listed.setIfInBounds j true) a' w') Q) : wpAnyS P md ops Q S (fuel + 1) listed a w :=
  ⟨fun h0 => absurd (hr ▸ h0) (by simp), fun k hk => by
    rw [hr] at hk
    simp only [List.mem_cons, List.not_mem_nil, or_false] at hk
    rcases hk with rfl | rfl
    · unfold wpOp
      rw [hi]
      have hw : Region.wanted o (yielded ops a.tmps) = true := by unfold Region.wanted; rw [hg]
      simp only [hw, if_true]
      exact .inl h
    · unfold wpOp
      rw [hj]
      have hw : Region.wanted o' (yielded ops a.tmps) = true := by unfold Region.wanted; rw [hg']
      simp only [hw, if_true]
      exact .inl h'⟩
theorem region_to {P : Program} {id : Nat} {ops : Array Oper} {b : Bool} {Q : Exit → Act → World → Prop} {a : Act} {w : World} {ι : Type} (G : Act → ι → Act) (Facts : World → ι → Prop)
    (h1 : (Code.region id ops b).wp P (fun e a' w' => e = .normal ∧ ∃ i, a' = G a i ∧ Facts w' i) a w)
    (h2 : ∀ i w', Facts w' i → Q .normal (G a i) w') : (Code.region id ops b).wp P Q a w := by
  refine Code.wp_mono (Q := fun e a' w' => e = .normal ∧ ∃ i, a' = G a i ∧ Facts w' i) ?_ h1
  rintro e a' w' ⟨rfl, i, rfl, hf⟩
  exact h2 i w' hf
end Og
namespace Nt
inductive Stop (P : Prop) : Prop where
  | mk (out : P) : Stop P
theorem Stop.out {P : Prop} (h : Stop P) : P := h.1
theorem cells_at {W : World} {g : Nat} {e : E} {t : TypeId} {fr : Nat × Nat} (h : W.heap[g]? = some (.cells (cells e).toArray t fr)) {i : Nat} {c : Value} (hi : (cells e)[i]? = some c) : W.cell? ⟨g, i, none⟩ = some c := by
  rw [cell_of_row _ _ _ _ _ _ h, List.getElem?_toArray]
  exact hi
def may (e : E) : Bool := kd e.k && ((bs e.k || zb e.b) && (if hm e.k then ca e.f && e.t == 4 else e.f == 4 && ca e.t))
set_option maxRecDepth 100000 in
set_option maxHeartbeats 8000000 in
theorem mayBe_any (e : E) (hok : Ok e) (w : World) : Calls Try.prog 96 #[.agg (cells e).toArray] w fun r w' => r = .returned (.bool (may e)) ∧ Below w.heap.size w w' := by
  obtain ⟨mb, hmb⟩ : ∃ mb, mb = w.heap.size := ⟨_, rfl⟩
  obtain ⟨B, hB⟩ : ∃ B, B = w.alloc (.cells (cells e).toArray 67) := ⟨_, rfl⟩
  have HB := Lib.hid hB; have HMB := Lib.hid hmb
  have B0 := Lib.hid (show Below w.heap.size w B by rw [hB]; exact (Below.refl w.heap.size w).alloc (Nat.le_refl _) _)
  have R0 := Lib.hid (show B.heap[mb]? = some (.cells (cells e).toArray 67 (0, 0)) by rw [hB, hmb]; exact heap_alloc_new _ _)
  have HOK := Lib.hid hok
  clear hB hmb hok
  go_enter Try.func96, Try.ntmps96
  go_wp2_with fail
  rw [← HB.out, ← HMB.out]
  refine Og.region_to (fun A (i : Nat × Nat) => (((((((((A.put (some 6) (.map (some i.2))).put (some 7) (.pointer (some ⟨mb, 0, none⟩))).put (some 8) (.int .i64 e.k)).put (some 9) (.tuple #[.agg #[.bool (hm e.k), .bool (bs e.k)], .bool (kd e.k)])).put (some 5) (.tuple #[.agg #[.bool (hm e.k), .bool (bs e.k)], .bool (kd e.k)])).put (some 10) (.agg #[.bool (hm e.k), .bool (bs e.k)])).put (some 11) (.bool (kd e.k))).put (some 3) (.pointer (some ⟨i.1, 0, none⟩))).put (some 4) (.bool (kd e.k)))) (fun w' (i : Nat × Nat) => Below B.heap.size B w' ∧ w'.heap[i.1]? = some (.cells #[.bool (hm e.k), .bool (bs e.k)] 162 (0, 0))) ?_ ?_
  · obtain ⟨wq, hwq⟩ : ∃ wq, wq = { B with drawn := B.drawn + 1 } := ⟨_, rfl⟩
    have BQ := Lib.hid (show Below B.heap.size B wq by rw [hwq]; exact ⟨rfl, rfl, rfl, Nat.le_refl _, fun _ _ => rfl⟩)
    have HWQ := Lib.hid hwq
    clear hwq
    have BR := Lib.hid ((BQ.out.block _ (Array.getElem?_eq_some_iff.1 R0.out).1).trans R0.out)
    have HFA := Lib.hid (show (fun x : World => x.cell? ⟨mb, 0, none⟩ = some (.int .i64 e.k)) wq from cells_at BR.out (cell0 e))
    refine Og.region_S (S := Og.SF 3 (fun x : World => x.cell? ⟨mb, 0, none⟩ = some (.int .i64 e.k))) (by kernel_rfl) ?_
    rw [← HWQ.out]
    refine Og.s_take 1 { dst := some 7, op := Go.Op.fieldAddr 67 (Go.Operand.tmp 1) 0, type := 0, pos := "kinds.go:34", after := #[], guard := none } (.pointer (some ⟨mb, 0, none⟩)) _ (by kernel_rfl) (by kernel_rfl) (by kernel_rfl) (by kernel_rfl) (by kernel_rfl) (fun _ _ _ h => nomatch h.1) (fun _ => HFA.out) (fun x' hx => ?_) (by simp only [Act.put, List.setIfInBounds_toArray, List.set_cons_zero, List.set_cons_succ]; rfl) ?_
    · go_simp; try (with_reducible rfl)
    refine Og.s_take 2 { dst := some 8, op := Go.Op.load 65 (Go.Operand.tmp 7), type := 65, pos := "kinds.go:34", after := #[{ on := 1, ground := Go.Ground.data }], guard := none } (.int .i64 e.k) _ (by kernel_rfl) (by kernel_rfl) (by kernel_rfl) (by kernel_rfl) (by kernel_rfl) (fun _ _ _ h => nomatch h.1) (fun _ => HFA.out) (fun x' hx => ?_) (by simp only [Act.put, List.setIfInBounds_toArray, List.set_cons_zero, List.set_cons_succ]; rfl) ?_
    · have hx1 := hx (by decide); go_simp; try (with_reducible rfl)
    refine Og.s_two 0 7 { dst := some 6, op := Go.Op.call { callee := Go.Callee.value (Go.Operand.func 104), args := #[], argTypes := #[] }, type := 164, pos := "kinds.go:34", after := #[], guard := none } { dst := some 3, op := Go.Op.alloc 162, type := 0, pos := "kinds.go:34", after := #[], guard := none } (by kernel_rfl) (by kernel_rfl) (by kernel_rfl) (by kernel_rfl) (by kernel_rfl) ?_ ?_
    · refine Og.call_to (w1 := wq) (f := 104) (args := #[]) (by go_simp) ?_
      refine (wants_any wq).mono ?_
      rintro e' W3 ⟨b, rfl, hb0, hom, hb3⟩
      have OM3 := Lib.hid hom
      have B3 := Lib.hid hb3
      clear hom hb3
      refine ⟨_, rfl, Og.keep_sf (fun h => Ev.kp_below B3.out _ _ h), ?_⟩
      refine Og.s_two 3 7 { dst := some 9, op := Go.Op.lookup 164 (Go.Operand.tmp 6) (Go.Operand.tmp 8) true, type := 163, pos := "kinds.go:34", after := #[{ on := 0, ground := Go.Ground.data }, { on := 2, ground := Go.Ground.data }], guard := none } { dst := some 3, op := Go.Op.alloc 162, type := 0, pos := "kinds.go:34", after := #[], guard := none } (by kernel_rfl) (by kernel_rfl) (by kernel_rfl) (by kernel_rfl) (by kernel_rfl) ?_ ?_
      · refine Og.run_to (v := .tuple #[.agg #[.bool (hm e.k), .bool (bs e.k)], .bool (kd e.k)]) (w' := W3) (look_to OM3.out HOK.out.k (.tmp 6) (.tmp 8) rfl rfl rfl) ⟨Og.keep_sf (fun h => h), ?_⟩
        refine Og.s_take 4 { dst := some 5, op := Go.Op.move (Go.Operand.tmp 9), type := 163, pos := "kinds.go:34", after := #[{ on := 3, ground := Go.Ground.data }], guard := none } (.tuple #[.agg #[.bool (hm e.k), .bool (bs e.k)], .bool (kd e.k)]) _ (by kernel_rfl) (by kernel_rfl) (by kernel_rfl) (by kernel_rfl) (by kernel_rfl) (fun _ _ _ h => nomatch h.1) (fun h => absurd h (by decide)) (fun x' hx => ?_) (by simp only [Act.put, List.setIfInBounds_toArray, List.set_cons_zero, List.set_cons_succ]; rfl) ?_
        · go_simp; try (with_reducible rfl)
        refine Og.s_take 5 { dst := some 10, op := Go.Op.extract (Go.Operand.tmp 5) 0, type := 162, pos := "kinds.go:34", after := #[{ on := 4, ground := Go.Ground.data }], guard := none } (.agg #[.bool (hm e.k), .bool (bs e.k)]) _ (by kernel_rfl) (by kernel_rfl) (by kernel_rfl) (by kernel_rfl) (by kernel_rfl) (fun _ _ _ h => nomatch h.1) (fun h => absurd h (by decide)) (fun x' hx => ?_) (by simp only [Act.put, List.setIfInBounds_toArray, List.set_cons_zero, List.set_cons_succ]; rfl) ?_
        · go_simp; try (with_reducible rfl)
        refine Og.s_take 6 { dst := some 11, op := Go.Op.extract (Go.Operand.tmp 5) 1, type := 4, pos := "kinds.go:34", after := #[{ on := 4, ground := Go.Ground.data }, { on := 8, ground := Go.Ground.gcOnly Go.Departure.lateStores }], guard := none } (.bool (kd e.k)) _ (by kernel_rfl) (by kernel_rfl) (by kernel_rfl) (by kernel_rfl) (by kernel_rfl) (fun _ _ _ h => nomatch h.1) (fun h => absurd h (by decide)) (fun x' hx => ?_) (by simp only [Act.put, List.setIfInBounds_toArray, List.set_cons_zero, List.set_cons_succ]; rfl) ?_
        · go_simp; try (with_reducible rfl)
        refine Og.s_one 7 { dst := some 3, op := Go.Op.alloc 162, type := 0, pos := "kinds.go:34", after := #[], guard := none } (by kernel_rfl) (by kernel_rfl) (by kernel_rfl) ?_
        refine Og.run_to (v := .pointer (some ⟨W3.heap.size, 0, none⟩)) (w' := W3.alloc (.cells #[.bool false, .bool false] 162)) (by go_simp) ?_
        obtain ⟨nb, hnb⟩ : ∃ nb, nb = W3.heap.size := ⟨_, rfl⟩
        obtain ⟨W4, hW4⟩ : ∃ W4, W4 = W3.alloc (.cells #[.bool false, .bool false] 162) := ⟨_, rfl⟩
        have BA := Lib.hid (show Below W3.heap.size W3 W4 by rw [hW4]; exact (Below.refl W3.heap.size W3).alloc (Nat.le_refl _) _)
        have Z4 := Lib.hid (show W4.heap[nb]? = some (.cells #[.bool false, .bool false] 162 (0, 0)) by rw [hW4, hnb]; exact heap_alloc_new _ _)
        rw [← hW4, ← hnb]
        clear hW4
        refine ⟨Og.keep_sf (fun h => Ev.kp_below BA.out _ _ h), ?_⟩
        refine Og.s_one 8 { dst := none, op := Go.Op.store 162 (Go.Operand.tmp 3) (Go.Operand.tmp 10), type := 0, pos := "kinds.go:34", after := #[{ on := 7, ground := Go.Ground.data }, { on := 5, ground := Go.Ground.data }, { on := 0, ground := Go.Ground.chain }, { on := 0, ground := Go.Ground.phase }, { on := 1, ground := Go.Ground.phase }, { on := 2, ground := Go.Ground.phase }, { on := 3, ground := Go.Ground.phase }, { on := 4, ground := Go.Ground.phase }, { on := 5, ground := Go.Ground.phase }, { on := 6, ground := Go.Ground.textOnly Go.Departure.lateStores }, { on := 7, ground := Go.Ground.phase }], guard := none } (by kernel_rfl) (by kernel_rfl) (by kernel_rfl) ?_
        refine Og.skip_to (w' := W4.setRow nb #[.bool (hm e.k), .bool (bs e.k)]) ?_ ⟨Og.keep_last (o := { dst := none, op := Go.Op.store 162 (Go.Operand.tmp 3) (Go.Operand.tmp 10), type := 0, pos := "kinds.go:34", after := #[{ on := 7, ground := Go.Ground.data }, { on := 5, ground := Go.Ground.data }, { on := 0, ground := Go.Ground.chain }, { on := 0, ground := Go.Ground.phase }, { on := 1, ground := Go.Ground.phase }, { on := 2, ground := Go.Ground.phase }, { on := 3, ground := Go.Ground.phase }, { on := 4, ground := Go.Ground.phase }, { on := 5, ground := Go.Ground.phase }, { on := 6, ground := Go.Ground.textOnly Go.Departure.lateStores }, { on := 7, ground := Go.Ground.phase }], guard := none }) (by kernel_rfl) (by kernel_rfl), ?_⟩
        · exact Og.row_to 162 (.tmp 3) (.tmp 10) rfl nb #[.bool (hm e.k), .bool (bs e.k)] rfl rfl 162 _ Z4.out (by kernel_rfl) rfl (by kernel_rfl)
        obtain ⟨W5, hW5⟩ : ∃ W5, W5 = W4.setRow nb #[.bool (hm e.k), .bool (bs e.k)] := ⟨_, rfl⟩
        have hsW5 := Ev.set1 (cs := #[.bool (hm e.k), .bool (bs e.k)]) Z4.out rfl
        rw [← hW5] at hsW5 ⊢
        have S5 := Lib.hid hsW5
        clear hW5 hsW5
        refine Og.s_take 9 { dst := some 4, op := Go.Op.assign (Go.Operand.tmp 11), type := 4, pos := "kinds.go:34", after := #[{ on := 6, ground := Go.Ground.data }, { on := 8, ground := Go.Ground.chain }, { on := 0, ground := Go.Ground.phase }, { on := 1, ground := Go.Ground.phase }, { on := 2, ground := Go.Ground.phase }, { on := 3, ground := Go.Ground.phase }, { on := 4, ground := Go.Ground.phase }, { on := 5, ground := Go.Ground.phase }, { on := 6, ground := Go.Ground.phase }, { on := 7, ground := Go.Ground.phase }, { on := 8, ground := Go.Ground.phase }], guard := none } (.bool (kd e.k)) _ (by kernel_rfl) (by kernel_rfl) (by kernel_rfl) (by kernel_rfl) (by kernel_rfl) (fun _ _ _ h => nomatch h.1) (fun h => absurd h (by decide)) (fun x' hx => ?_) (by simp only [Act.put, List.setIfInBounds_toArray, List.set_cons_zero, List.set_cons_succ]; rfl) ?_
        · go_simp; try (with_reducible rfl)
        refine Og.s_done (by kernel_rfl) ?_ _
        refine ⟨rfl, (nb, b), ?_, BQ.out.trans (B3.out.mono BQ.out.size |>.trans ((BA.out.mono B3.out.size |>.mono BQ.out.size).trans (S5.out.below.mono (by have := B3.out.size; have := BQ.out.size; omega)))), S5.out.row⟩
        simp only [Act.put, List.setIfInBounds_toArray, List.set_cons_zero, List.set_cons_succ]
      · refine Og.run_to (v := .pointer (some ⟨W3.heap.size, 0, none⟩)) (w' := W3.alloc (.cells #[.bool false, .bool false] 162)) (by go_simp) ?_
        obtain ⟨nb, hnb⟩ : ∃ nb, nb = W3.heap.size := ⟨_, rfl⟩
        obtain ⟨W4, hW4⟩ : ∃ W4, W4 = W3.alloc (.cells #[.bool false, .bool false] 162) := ⟨_, rfl⟩
        have BA := Lib.hid (show Below W3.heap.size W3 W4 by rw [hW4]; exact (Below.refl W3.heap.size W3).alloc (Nat.le_refl _) _)
        have Z4 := Lib.hid (show W4.heap[nb]? = some (.cells #[.bool false, .bool false] 162 (0, 0)) by rw [hW4, hnb]; exact heap_alloc_new _ _)
        rw [← hW4, ← hnb]
        clear hW4
        refine ⟨Og.keep_sf (fun h => Ev.kp_below BA.out _ _ h), ?_⟩
        have OM4 := Lib.hid (OM3.out.kept (row := none) ⟨BA.out.os, BA.out.tape, BA.out.output, BA.out.size, fun j hj _ => BA.out.block j hj⟩ (by simp))
        refine Og.s_one 3 { dst := some 9, op := Go.Op.lookup 164 (Go.Operand.tmp 6) (Go.Operand.tmp 8) true, type := 163, pos := "kinds.go:34", after := #[{ on := 0, ground := Go.Ground.data }, { on := 2, ground := Go.Ground.data }], guard := none } (by kernel_rfl) (by kernel_rfl) (by kernel_rfl) ?_
        refine Og.run_to (v := .tuple #[.agg #[.bool (hm e.k), .bool (bs e.k)], .bool (kd e.k)]) (w' := W4) (look_to OM4.out HOK.out.k (.tmp 6) (.tmp 8) rfl rfl rfl) ⟨Og.keep_sf (fun h => h), ?_⟩
        refine Og.s_take 4 { dst := some 5, op := Go.Op.move (Go.Operand.tmp 9), type := 163, pos := "kinds.go:34", after := #[{ on := 3, ground := Go.Ground.data }], guard := none } (.tuple #[.agg #[.bool (hm e.k), .bool (bs e.k)], .bool (kd e.k)]) _ (by kernel_rfl) (by kernel_rfl) (by kernel_rfl) (by kernel_rfl) (by kernel_rfl) (fun _ _ _ h => nomatch h.1) (fun h => absurd h (by decide)) (fun x' hx => ?_) (by simp only [Act.put, List.setIfInBounds_toArray, List.set_cons_zero, List.set_cons_succ]; rfl) ?_
        · go_simp; try (with_reducible rfl)
        refine Og.s_take 5 { dst := some 10, op := Go.Op.extract (Go.Operand.tmp 5) 0, type := 162, pos := "kinds.go:34", after := #[{ on := 4, ground := Go.Ground.data }], guard := none } (.agg #[.bool (hm e.k), .bool (bs e.k)]) _ (by kernel_rfl) (by kernel_rfl) (by kernel_rfl) (by kernel_rfl) (by kernel_rfl) (fun _ _ _ h => nomatch h.1) (fun h => absurd h (by decide)) (fun x' hx => ?_) (by simp only [Act.put, List.setIfInBounds_toArray, List.set_cons_zero, List.set_cons_succ]; rfl) ?_
        · go_simp; try (with_reducible rfl)
        refine Og.s_take 6 { dst := some 11, op := Go.Op.extract (Go.Operand.tmp 5) 1, type := 4, pos := "kinds.go:34", after := #[{ on := 4, ground := Go.Ground.data }, { on := 8, ground := Go.Ground.gcOnly Go.Departure.lateStores }], guard := none } (.bool (kd e.k)) _ (by kernel_rfl) (by kernel_rfl) (by kernel_rfl) (by kernel_rfl) (by kernel_rfl) (fun _ _ _ h => nomatch h.1) (fun h => absurd h (by decide)) (fun x' hx => ?_) (by simp only [Act.put, List.setIfInBounds_toArray, List.set_cons_zero, List.set_cons_succ]; rfl) ?_
        · go_simp; try (with_reducible rfl)
        refine Og.s_one 8 { dst := none, op := Go.Op.store 162 (Go.Operand.tmp 3) (Go.Operand.tmp 10), type := 0, pos := "kinds.go:34", after := #[{ on := 7, ground := Go.Ground.data }, { on := 5, ground := Go.Ground.data }, { on := 0, ground := Go.Ground.chain }, { on := 0, ground := Go.Ground.phase }, { on := 1, ground := Go.Ground.phase }, { on := 2, ground := Go.Ground.phase }, { on := 3, ground := Go.Ground.phase }, { on := 4, ground := Go.Ground.phase }, { on := 5, ground := Go.Ground.phase }, { on := 6, ground := Go.Ground.textOnly Go.Departure.lateStores }, { on := 7, ground := Go.Ground.phase }], guard := none } (by kernel_rfl) (by kernel_rfl) (by kernel_rfl) ?_
        refine Og.skip_to (w' := W4.setRow nb #[.bool (hm e.k), .bool (bs e.k)]) ?_ ⟨Og.keep_last (o := { dst := none, op := Go.Op.store 162 (Go.Operand.tmp 3) (Go.Operand.tmp 10), type := 0, pos := "kinds.go:34", after := #[{ on := 7, ground := Go.Ground.data }, { on := 5, ground := Go.Ground.data }, { on := 0, ground := Go.Ground.chain }, { on := 0, ground := Go.Ground.phase }, { on := 1, ground := Go.Ground.phase }, { on := 2, ground := Go.Ground.phase }, { on := 3, ground := Go.Ground.phase }, { on := 4, ground := Go.Ground.phase }, { on := 5, ground := Go.Ground.phase }, { on := 6, ground := Go.Ground.textOnly Go.Departure.lateStores }, { on := 7, ground := Go.Ground.phase }], guard := none }) (by kernel_rfl) (by kernel_rfl), ?_⟩
        · exact Og.row_to 162 (.tmp 3) (.tmp 10) rfl nb #[.bool (hm e.k), .bool (bs e.k)] rfl rfl 162 _ Z4.out (by kernel_rfl) rfl (by kernel_rfl)
        obtain ⟨W5, hW5⟩ : ∃ W5, W5 = W4.setRow nb #[.bool (hm e.k), .bool (bs e.k)] := ⟨_, rfl⟩
        have hsW5 := Ev.set1 (cs := #[.bool (hm e.k), .bool (bs e.k)]) Z4.out rfl
        rw [← hW5] at hsW5 ⊢
        have S5 := Lib.hid hsW5
        clear hW5 hsW5
        refine Og.s_take 9 { dst := some 4, op := Go.Op.assign (Go.Operand.tmp 11), type := 4, pos := "kinds.go:34", after := #[{ on := 6, ground := Go.Ground.data }, { on := 8, ground := Go.Ground.chain }, { on := 0, ground := Go.Ground.phase }, { on := 1, ground := Go.Ground.phase }, { on := 2, ground := Go.Ground.phase }, { on := 3, ground := Go.Ground.phase }, { on := 4, ground := Go.Ground.phase }, { on := 5, ground := Go.Ground.phase }, { on := 6, ground := Go.Ground.phase }, { on := 7, ground := Go.Ground.phase }, { on := 8, ground := Go.Ground.phase }], guard := none } (.bool (kd e.k)) _ (by kernel_rfl) (by kernel_rfl) (by kernel_rfl) (by kernel_rfl) (by kernel_rfl) (fun _ _ _ h => nomatch h.1) (fun h => absurd h (by decide)) (fun x' hx => ?_) (by simp only [Act.put, List.setIfInBounds_toArray, List.set_cons_zero, List.set_cons_succ]; rfl) ?_
        · go_simp; try (with_reducible rfl)
        refine Og.s_done (by kernel_rfl) ?_ _
        refine ⟨rfl, (nb, b), ?_, BQ.out.trans (B3.out.mono BQ.out.size |>.trans ((BA.out.mono B3.out.size |>.mono BQ.out.size).trans (S5.out.below.mono (by have := B3.out.size; have := BQ.out.size; omega)))), S5.out.row⟩
        simp only [Act.put, List.setIfInBounds_toArray, List.set_cons_zero, List.set_cons_succ]
    · refine Og.run_to (v := .pointer (some ⟨wq.heap.size, 0, none⟩)) (w' := wq.alloc (.cells #[.bool false, .bool false] 162)) (by go_simp) ?_
      obtain ⟨nb, hnb⟩ : ∃ nb, nb = wq.heap.size := ⟨_, rfl⟩
      obtain ⟨W4, hW4⟩ : ∃ W4, W4 = wq.alloc (.cells #[.bool false, .bool false] 162) := ⟨_, rfl⟩
      have BA := Lib.hid (show Below wq.heap.size wq W4 by rw [hW4]; exact (Below.refl wq.heap.size wq).alloc (Nat.le_refl _) _)
      have Z4 := Lib.hid (show W4.heap[nb]? = some (.cells #[.bool false, .bool false] 162 (0, 0)) by rw [hW4, hnb]; exact heap_alloc_new _ _)
      rw [← hW4, ← hnb]
      clear hW4
      refine ⟨Og.keep_sf (fun h => Ev.kp_below BA.out _ _ h), ?_⟩
      refine Og.s_one 0 { dst := some 6, op := Go.Op.call { callee := Go.Callee.value (Go.Operand.func 104), args := #[], argTypes := #[] }, type := 164, pos := "kinds.go:34", after := #[], guard := none } (by kernel_rfl) (by kernel_rfl) (by kernel_rfl) ?_
      refine Og.call_to (w1 := W4) (f := 104) (args := #[]) (by go_simp) ?_
      refine (wants_any W4).mono ?_
      rintro e' W5 ⟨b, rfl, hb0, hom, hb3⟩
      have OM5 := Lib.hid hom
      have B5 := Lib.hid hb3
      clear hom hb3
      refine ⟨_, rfl, Og.keep_sf (fun h => Ev.kp_below B5.out _ _ h), ?_⟩
      have Z5 := Lib.hid ((B5.out.block _ (Array.getElem?_eq_some_iff.1 Z4.out).1).trans Z4.out)
      refine Og.s_one 3 { dst := some 9, op := Go.Op.lookup 164 (Go.Operand.tmp 6) (Go.Operand.tmp 8) true, type := 163, pos := "kinds.go:34", after := #[{ on := 0, ground := Go.Ground.data }, { on := 2, ground := Go.Ground.data }], guard := none } (by kernel_rfl) (by kernel_rfl) (by kernel_rfl) ?_
      refine Og.run_to (v := .tuple #[.agg #[.bool (hm e.k), .bool (bs e.k)], .bool (kd e.k)]) (w' := W5) (look_to OM5.out HOK.out.k (.tmp 6) (.tmp 8) rfl rfl rfl) ⟨Og.keep_sf (fun h => h), ?_⟩
      refine Og.s_take 4 { dst := some 5, op := Go.Op.move (Go.Operand.tmp 9), type := 163, pos := "kinds.go:34", after := #[{ on := 3, ground := Go.Ground.data }], guard := none } (.tuple #[.agg #[.bool (hm e.k), .bool (bs e.k)], .bool (kd e.k)]) _ (by kernel_rfl) (by kernel_rfl) (by kernel_rfl) (by kernel_rfl) (by kernel_rfl) (fun _ _ _ h => nomatch h.1) (fun h => absurd h (by decide)) (fun x' hx => ?_) (by simp only [Act.put, List.setIfInBounds_toArray, List.set_cons_zero, List.set_cons_succ]; rfl) ?_
      · go_simp; try (with_reducible rfl)
      refine Og.s_take 5 { dst := some 10, op := Go.Op.extract (Go.Operand.tmp 5) 0, type := 162, pos := "kinds.go:34", after := #[{ on := 4, ground := Go.Ground.data }], guard := none } (.agg #[.bool (hm e.k), .bool (bs e.k)]) _ (by kernel_rfl) (by kernel_rfl) (by kernel_rfl) (by kernel_rfl) (by kernel_rfl) (fun _ _ _ h => nomatch h.1) (fun h => absurd h (by decide)) (fun x' hx => ?_) (by simp only [Act.put, List.setIfInBounds_toArray, List.set_cons_zero, List.set_cons_succ]; rfl) ?_
      · go_simp; try (with_reducible rfl)
      refine Og.s_take 6 { dst := some 11, op := Go.Op.extract (Go.Operand.tmp 5) 1, type := 4, pos := "kinds.go:34", after := #[{ on := 4, ground := Go.Ground.data }, { on := 8, ground := Go.Ground.gcOnly Go.Departure.lateStores }], guard := none } (.bool (kd e.k)) _ (by kernel_rfl) (by kernel_rfl) (by kernel_rfl) (by kernel_rfl) (by kernel_rfl) (fun _ _ _ h => nomatch h.1) (fun h => absurd h (by decide)) (fun x' hx => ?_) (by simp only [Act.put, List.setIfInBounds_toArray, List.set_cons_zero, List.set_cons_succ]; rfl) ?_
      · go_simp; try (with_reducible rfl)
      refine Og.s_one 8 { dst := none, op := Go.Op.store 162 (Go.Operand.tmp 3) (Go.Operand.tmp 10), type := 0, pos := "kinds.go:34", after := #[{ on := 7, ground := Go.Ground.data }, { on := 5, ground := Go.Ground.data }, { on := 0, ground := Go.Ground.chain }, { on := 0, ground := Go.Ground.phase }, { on := 1, ground := Go.Ground.phase }, { on := 2, ground := Go.Ground.phase }, { on := 3, ground := Go.Ground.phase }, { on := 4, ground := Go.Ground.phase }, { on := 5, ground := Go.Ground.phase }, { on := 6, ground := Go.Ground.textOnly Go.Departure.lateStores }, { on := 7, ground := Go.Ground.phase }], guard := none } (by kernel_rfl) (by kernel_rfl) (by kernel_rfl) ?_
      refine Og.skip_to (w' := W5.setRow nb #[.bool (hm e.k), .bool (bs e.k)]) ?_ ⟨Og.keep_last (o := { dst := none, op := Go.Op.store 162 (Go.Operand.tmp 3) (Go.Operand.tmp 10), type := 0, pos := "kinds.go:34", after := #[{ on := 7, ground := Go.Ground.data }, { on := 5, ground := Go.Ground.data }, { on := 0, ground := Go.Ground.chain }, { on := 0, ground := Go.Ground.phase }, { on := 1, ground := Go.Ground.phase }, { on := 2, ground := Go.Ground.phase }, { on := 3, ground := Go.Ground.phase }, { on := 4, ground := Go.Ground.phase }, { on := 5, ground := Go.Ground.phase }, { on := 6, ground := Go.Ground.textOnly Go.Departure.lateStores }, { on := 7, ground := Go.Ground.phase }], guard := none }) (by kernel_rfl) (by kernel_rfl), ?_⟩
      · exact Og.row_to 162 (.tmp 3) (.tmp 10) rfl nb #[.bool (hm e.k), .bool (bs e.k)] rfl rfl 162 _ Z5.out (by kernel_rfl) rfl (by kernel_rfl)
      obtain ⟨W6, hW6⟩ : ∃ W6, W6 = W5.setRow nb #[.bool (hm e.k), .bool (bs e.k)] := ⟨_, rfl⟩
      have hsW6 := Ev.set1 (cs := #[.bool (hm e.k), .bool (bs e.k)]) Z5.out rfl
      rw [← hW6] at hsW6 ⊢
      have S6 := Lib.hid hsW6
      clear hW6 hsW6
      refine Og.s_take 9 { dst := some 4, op := Go.Op.assign (Go.Operand.tmp 11), type := 4, pos := "kinds.go:34", after := #[{ on := 6, ground := Go.Ground.data }, { on := 8, ground := Go.Ground.chain }, { on := 0, ground := Go.Ground.phase }, { on := 1, ground := Go.Ground.phase }, { on := 2, ground := Go.Ground.phase }, { on := 3, ground := Go.Ground.phase }, { on := 4, ground := Go.Ground.phase }, { on := 5, ground := Go.Ground.phase }, { on := 6, ground := Go.Ground.phase }, { on := 7, ground := Go.Ground.phase }, { on := 8, ground := Go.Ground.phase }], guard := none } (.bool (kd e.k)) _ (by kernel_rfl) (by kernel_rfl) (by kernel_rfl) (by kernel_rfl) (by kernel_rfl) (fun _ _ _ h => nomatch h.1) (fun h => absurd h (by decide)) (fun x' hx => ?_) (by simp only [Act.put, List.setIfInBounds_toArray, List.set_cons_zero, List.set_cons_succ]; rfl) ?_
      · go_simp; try (with_reducible rfl)
      refine Og.s_done (by kernel_rfl) ?_ _
      refine ⟨rfl, (nb, b), ?_, BQ.out.trans ((BA.out.mono BQ.out.size).trans ((B5.out.mono BA.out.size |>.mono BQ.out.size).trans (S6.out.below.mono (by have := BQ.out.size; omega)))), S6.out.row⟩
      simp only [Act.put, List.setIfInBounds_toArray, List.set_cons_zero, List.set_cons_succ]
  rintro ⟨nb, b⟩ W ⟨hbw, hnb⟩
  have BW := Lib.hid hbw
  have NW := Lib.hid hnb
  clear hbw hnb
  simp only [Act.put, List.setIfInBounds_toArray, List.set_cons_zero, List.set_cons_succ]
  have RW0 := Lib.hid ((BW.out.block _ (Array.getElem?_eq_some_iff.1 R0.out).1).trans R0.out)
  have HBY := Lib.hid (show ∀ i c, (bys e.b)[i]? = some c → W.cell? ⟨mb, 4 + i, none⟩ = some c from fun i c hi => cells_at RW0.out (i := 4 + i) (by unfold cells; rw [Nat.add_comm]; exact hi))
  have hbl : (bys e.b).length = 16 := by unfold bys; rw [List.length_map]; exact HOK.out.b
  have c1 := cells_at RW0.out (cell1 e)
  have c2 := cells_at RW0.out (cell2 e)
  have BE := Lib.hid (B0.out.trans (BW.out.mono B0.out.size))
  have hm0 : may e = (kd e.k && ((bs e.k || zb e.b) && (if hm e.k then ca e.f && e.t == 4 else e.f == 4 && ca e.t))) := rfl
  obtain ⟨K, hK⟩ : ∃ K, kd e.k = K := ⟨_, rfl⟩
  obtain ⟨H, hH⟩ : ∃ H, hm e.k = H := ⟨_, rfl⟩
  obtain ⟨Y, hY⟩ : ∃ Y, bs e.k = Y := ⟨_, rfl⟩
  rw [hK, hH, hY]
  rw [hH, hY] at NW
  rw [hK, hH, hY] at hm0
  have n0 : W.cell? ⟨nb, 0, none⟩ = some (.bool H) := by rw [cell_of_row _ _ _ _ _ _ NW.out]; rfl
  have n1 : W.cell? ⟨nb, 1, none⟩ = some (.bool Y) := by rw [cell_of_row _ _ _ _ _ _ NW.out]; rfl
  clear hK hH hY NW
  have HME := Lib.hid hm0
  clear hm0
  cases K
  · go_wp2_with fail
    go_ret
    exact ⟨by rw [HME.out]; rfl, BE.out⟩
  · obtain ⟨Z, hZ⟩ : ∃ Z, zb e.b = Z := ⟨_, rfl⟩
    have HM2 := HME.out
    rw [hZ] at HM2
    have HM3 := Lib.hid HM2
    have HZ := Lib.hid hZ
    clear HM2
    clear hZ
    cases Y <;> cases Z
    · have HCA := Lib.hid (rfl : (0 : Nat) = 0)
      go_wp2_with (first
        | ((with_reducible show wpList _ _ _ (Oper.mk (some 20) _ _ _ _ _ :: _) _ _); refine wpList_val_g rfl (v := .agg (bys e.b).toArray) (Og.load_run 25 (.tmp 19) rfl ⟨mb, 4, none⟩ rfl (run_loadVar_at W mb 4 25 (bys e.b) _ HBY.out Try.underlying25 rfl (by rw [hbl]; kernel_rfl))) ?_)
        | ((with_reducible show wpList _ _ _ (Oper.mk (some 22) _ _ _ _ _ :: _) _ _); refine wpList_val_g rfl (neq_bytes (.tmp 20) (.tmp 21) rfl HOK.out.b rfl rfl W) ?_; rw [HZ.out])
        | (go_at_call 105; (with_reducible refine (isCache_any e.f W).mono ?_); rintro e2 W2 ⟨rfl, hw⟩; subst hw; rw [HCA.out])
        | (go_at_call 105; (with_reducible refine (isCache_any e.t W).mono ?_); rintro e2 W2 ⟨rfl, hw⟩; subst hw))
      go_ret
      exact ⟨by rw [HM3.out]; rfl, BE.out⟩
    all_goals
      cases H
      · have HCA := Lib.hid (rfl : (0 : Nat) = 0)
        by_cases h4 : e.f = 4
        · have HM4 := HM3.out
          rw [h4] at HM4
          have HM5 := Lib.hid HM4
          clear HM4
          rw [h4] at c1
          go_wp2_with (first
        | ((with_reducible show wpList _ _ _ (Oper.mk (some 20) _ _ _ _ _ :: _) _ _); refine wpList_val_g rfl (v := .agg (bys e.b).toArray) (Og.load_run 25 (.tmp 19) rfl ⟨mb, 4, none⟩ rfl (run_loadVar_at W mb 4 25 (bys e.b) _ HBY.out Try.underlying25 rfl (by rw [hbl]; kernel_rfl))) ?_)
        | ((with_reducible show wpList _ _ _ (Oper.mk (some 22) _ _ _ _ _ :: _) _ _); refine wpList_val_g rfl (neq_bytes (.tmp 20) (.tmp 21) rfl HOK.out.b rfl rfl W) ?_; rw [HZ.out])
        | (go_at_call 105; (with_reducible refine (isCache_any e.f W).mono ?_); rintro e2 W2 ⟨rfl, hw⟩; subst hw; rw [HCA.out])
        | (go_at_call 105; (with_reducible refine (isCache_any e.t W).mono ?_); rintro e2 W2 ⟨rfl, hw⟩; subst hw))
          go_ret
          exact ⟨by rw [HM5.out]; simp, BE.out⟩
        · have h4b : (e.f == 4) = false := by simpa using h4
          go_wp2_with (first
        | ((with_reducible show wpList _ _ _ (Oper.mk (some 20) _ _ _ _ _ :: _) _ _); refine wpList_val_g rfl (v := .agg (bys e.b).toArray) (Og.load_run 25 (.tmp 19) rfl ⟨mb, 4, none⟩ rfl (run_loadVar_at W mb 4 25 (bys e.b) _ HBY.out Try.underlying25 rfl (by rw [hbl]; kernel_rfl))) ?_)
        | ((with_reducible show wpList _ _ _ (Oper.mk (some 22) _ _ _ _ _ :: _) _ _); refine wpList_val_g rfl (neq_bytes (.tmp 20) (.tmp 21) rfl HOK.out.b rfl rfl W) ?_; rw [HZ.out])
        | (go_at_call 105; (with_reducible refine (isCache_any e.f W).mono ?_); rintro e2 W2 ⟨rfl, hw⟩; subst hw; rw [HCA.out])
        | (go_at_call 105; (with_reducible refine (isCache_any e.t W).mono ?_); rintro e2 W2 ⟨rfl, hw⟩; subst hw))
          go_ret
          exact ⟨by rw [HM3.out, h4b]; rfl, BE.out⟩
      · obtain ⟨V, hV⟩ : ∃ V, ca e.f = V := ⟨_, rfl⟩
        have HM4 := HM3.out
        rw [hV] at HM4
        have HM5 := Lib.hid HM4
        have HCA := Lib.hid hV
        clear HM4 hV
        cases V
        · go_wp2_with (first
        | ((with_reducible show wpList _ _ _ (Oper.mk (some 20) _ _ _ _ _ :: _) _ _); refine wpList_val_g rfl (v := .agg (bys e.b).toArray) (Og.load_run 25 (.tmp 19) rfl ⟨mb, 4, none⟩ rfl (run_loadVar_at W mb 4 25 (bys e.b) _ HBY.out Try.underlying25 rfl (by rw [hbl]; kernel_rfl))) ?_)
        | ((with_reducible show wpList _ _ _ (Oper.mk (some 22) _ _ _ _ _ :: _) _ _); refine wpList_val_g rfl (neq_bytes (.tmp 20) (.tmp 21) rfl HOK.out.b rfl rfl W) ?_; rw [HZ.out])
        | (go_at_call 105; (with_reducible refine (isCache_any e.f W).mono ?_); rintro e2 W2 ⟨rfl, hw⟩; subst hw; rw [HCA.out])
        | (go_at_call 105; (with_reducible refine (isCache_any e.t W).mono ?_); rintro e2 W2 ⟨rfl, hw⟩; subst hw))
          go_ret
          exact ⟨by rw [HM5.out]; rfl, BE.out⟩
        · go_wp2_with (first
        | ((with_reducible show wpList _ _ _ (Oper.mk (some 20) _ _ _ _ _ :: _) _ _); refine wpList_val_g rfl (v := .agg (bys e.b).toArray) (Og.load_run 25 (.tmp 19) rfl ⟨mb, 4, none⟩ rfl (run_loadVar_at W mb 4 25 (bys e.b) _ HBY.out Try.underlying25 rfl (by rw [hbl]; kernel_rfl))) ?_)
        | ((with_reducible show wpList _ _ _ (Oper.mk (some 22) _ _ _ _ _ :: _) _ _); refine wpList_val_g rfl (neq_bytes (.tmp 20) (.tmp 21) rfl HOK.out.b rfl rfl W) ?_; rw [HZ.out])
        | (go_at_call 105; (with_reducible refine (isCache_any e.f W).mono ?_); rintro e2 W2 ⟨rfl, hw⟩; subst hw; rw [HCA.out])
        | (go_at_call 105; (with_reducible refine (isCache_any e.t W).mono ?_); rintro e2 W2 ⟨rfl, hw⟩; subst hw))
          go_ret
          exact ⟨by rw [HM5.out]; first | rfl | simp, BE.out⟩
def chk (e : E) : Int := if may e then 0 else 2
theorem check_any (e : E) (hok : Ok e) (w : World) : Calls Try.prog 85 #[.agg (cells e).toArray] w fun r w' => r = .returned (.int .i64 (chk e)) ∧ Below w.heap.size w w' := by
  obtain ⟨mb, hmb⟩ : ∃ mb, mb = w.heap.size := ⟨_, rfl⟩
  obtain ⟨B, hB⟩ : ∃ B, B = w.alloc (.cells (cells e).toArray 67) := ⟨_, rfl⟩
  have HB := Lib.hid hB; have HMB := Lib.hid hmb
  have B0 := Lib.hid (show Below w.heap.size w B by rw [hB]; exact (Below.refl w.heap.size w).alloc (Nat.le_refl _) _)
  have R0 := Lib.hid (show B.heap[mb]? = some (.cells (cells e).toArray 67 (0, 0)) by rw [hB, hmb]; exact heap_alloc_new _ _)
  have HM := Lib.hid (mayBe_any e hok B)
  have HOK := Lib.hid hok
  have HC := Lib.hid (show chk e = if may e then 0 else 2 from rfl)
  clear hB hmb hok
  obtain ⟨m, hm⟩ : ∃ m, may e = m := ⟨_, rfl⟩
  have HM' := HM.out; have HC' := HC.out
  rw [hm] at HM' HC'
  have HM2 := Lib.hid HM'; have HC2 := Lib.hid HC'
  clear HM' HC' HM HC hm
  cases m <;>
  · go_enter Try.func85, Try.ntmps85
    go_wp2_with (first
      | ((with_reducible show wpList _ _ _ (Oper.mk (some 3) _ _ _ _ _ :: _) _ _); rw [← HB.out, ← HMB.out]; refine wpList_load_row rfl 67 (.tmp 1) rfl mb rfl 67 _ (0, 0) _ R0.out Try.underlying67 rfl (by rw [HOK.out.size]; exact size_msg) ?_)
      | (go_at_call 96; (with_reducible refine HM2.out.mono ?_); rintro e2 W2 ⟨rfl, hb⟩; have B2 := Lib.hid hb; clear hb))
    go_ret
    exact ⟨by rw [HC2.out]; rfl, B0.out.trans (B2.out.mono B0.out.size)⟩
end Nt
end Go.Proofs.Ytfajkgbpeapcbaa
end
