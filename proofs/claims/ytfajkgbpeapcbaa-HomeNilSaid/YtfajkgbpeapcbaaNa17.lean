import Derived.Test.YtfajkgbpeapcbaaNa12
set_option linter.unusedVariables false
set_option linter.unusedSimpArgs false

section
namespace Go.Proofs.Ytfajkgbpeapcbaa
open Go.RowKit
namespace Hm
open Nt
set_option maxRecDepth 100000
section
variable {tp ep mp g : Nat} {S Q : Nat → Prop}
theorem msg_bytes {w : World} {mb : Nat} {m : E} (h : w.heap[mb]? = some (.cells (cells m).toArray 67 (0, 0))) : ∀ i v, (m.b.map (Value.int .u8))[i]? = some v → w.cell? ⟨mb, 4 + i, none⟩ = some v := by
  intro i v hv
  rw [cell_of_row _ _ _ _ _ _ h]
  show (cells m).toArray[4 + i]? = some v
  rw [List.getElem?_toArray]
  unfold cells
  rw [show 4 + i = i + 1 + 1 + 1 + 1 by omega]
  simpa using hv
set_option maxHeartbeats 8000000 in
theorem keep_any (T : Tg) (m : E) (hm : Ok m) (hby : Im.Byt m.b) (w : World) (h : Ta w tp ep mp g S Q T) :
    Calls Try.prog 107 #[.pointer (some ⟨tp, 0, none⟩), .agg (cells m).toArray] w fun r w' => r = .returned (.tuple #[]) ∧ TT w w' tp ep mp g S Q (keepP T m) := by
  obtain ⟨n, sent, ⟨o, s, b, a, k, wt, td, q⟩, bs⟩ := T
  obtain ⟨sa, sc, qa, qc, h⟩ := h
  obtain ⟨mb, B, hmb, hB, hb0, hr0⟩ := msg_box w m
  have HB := Lib.hid hB; have HMB := Lib.hid hmb; have B0 := Lib.hid hb0; have R0 := Lib.hid hr0
  have OW := Lib.hid (show ∀ j, own tp ep g S Q j → j < mb from fun j hj => by rw [HMB.out]; exact Tw.own_lt h j hj)
  have HME := Lib.hid (show mb ≠ ep from by have := h.lt.2.1; omega)
  have T0 := Lib.hid (Tw.start (h.kp B0.out))
  clear hB hmb hb0 hr0
  obtain ⟨T', hT⟩ : ∃ T', keepP ⟨n, sent, ⟨o, s, b, a, k, wt, td, q⟩, bs⟩ m = T' := ⟨_, rfl⟩
  rw [hT]
  have HT := Lib.hid hT
  clear h hT
  have HOK := Lib.hid hm; have HBY := Lib.hid hby
  have HNL := Lib.hid (show n * 16 < bs.length from T0.out.tk.nl)
  clear hm hby
  go_enter Try.func107, Try.ntmps107
  go_wp2_with fail
  rw [← HB.out, ← HMB.out]
  obtain ⟨wq, hwq⟩ : ∃ wq, wq = { B with drawn := B.drawn + 1 } := ⟨_, rfl⟩
  have BQ := Lib.hid (show Below B.heap.size B wq by rw [hwq]; exact ⟨rfl, rfl, rfl, Nat.le_refl _, fun _ _ => rfl⟩)
  have HWQ := Lib.hid hwq
  clear hwq
  have TQ := Lib.hid (T0.out.kp BQ.out)
  have RQ := Lib.hid ((BQ.out.block _ (Array.getElem?_eq_some_iff.1 R0.out).1).trans R0.out)
  have HFA := Lib.hid (show (fun x : World => x.cell? ⟨tp, 3, none⟩ = some (.pointer (some ⟨mp, 0, none⟩)) ∧ x.cell? ⟨tp, 0, none⟩ = some (.int .u32 (n : Int)) ∧ x.heap[mb]? = some (.cells (cells m).toArray 67 (0, 0))) wq from ⟨TQ.out.tk.t3, TQ.out.tk.t0, RQ.out⟩)
  refine Og.region_S (S := SL [3, 8, 10] (fun x : World => x.cell? ⟨tp, 3, none⟩ = some (.pointer (some ⟨mp, 0, none⟩)) ∧ x.cell? ⟨tp, 0, none⟩ = some (.int .u32 (n : Int)) ∧ x.heap[mb]? = some (.cells (cells m).toArray 67 (0, 0)))) (by kernel_rfl) ?_
  rw [← HWQ.out]
  refine Og.s_take 0 { dst := some 4, op := Go.Op.move (Go.Operand.tmp 0), type := 146, pos := "taking.go:174", after := #[], guard := none } (.pointer (some ⟨tp, 0, none⟩)) _ (by kernel_rfl) (by kernel_rfl) (by kernel_rfl) (by kernel_rfl) (by kernel_rfl) (fun _ _ _ h => h) (fun h => absurd h (by decide)) (fun x' hx => ?_) (by simp only [Act.put, List.setIfInBounds_toArray, List.set_cons_zero, List.set_cons_succ]; rfl) ?_
  · go_simp; try (with_reducible rfl)
  refine Og.s_take 1 { dst := some 5, op := Go.Op.nilCheck (Go.Operand.tmp 4), type := 0, pos := "taking.go:174", after := #[{ on := 0, ground := Go.Ground.data }], guard := none } (.pointer (some ⟨tp, 0, none⟩)) _ (by kernel_rfl) (by kernel_rfl) (by kernel_rfl) (by kernel_rfl) (by kernel_rfl) (fun _ _ _ h => h) (fun h => absurd h (by decide)) (fun x' hx => ?_) (by simp only [Act.put, List.setIfInBounds_toArray, List.set_cons_zero, List.set_cons_succ]; rfl) ?_
  · go_simp; try (with_reducible rfl)
  refine Og.s_take 2 { dst := some 6, op := Go.Op.fieldAddr 125 (Go.Operand.tmp 5) 2, type := 0, pos := "taking.go:174", after := #[{ on := 1, ground := Go.Ground.data }], guard := none } (.pointer (some ⟨tp, 3, none⟩)) _ (by kernel_rfl) (by kernel_rfl) (by kernel_rfl) (by kernel_rfl) (by kernel_rfl) (fun _ _ _ h => h) (fun h => absurd h (by decide)) (fun x' hx => ?_) (by simp only [Act.put, List.setIfInBounds_toArray, List.set_cons_zero, List.set_cons_succ]; rfl) ?_
  · go_simp; try (with_reducible rfl)
  refine Og.s_take 3 { dst := some 7, op := Go.Op.load 89 (Go.Operand.tmp 6), type := 89, pos := "taking.go:174", after := #[{ on := 2, ground := Go.Ground.data }], guard := none } (.pointer (some ⟨mp, 0, none⟩)) _ (by kernel_rfl) (by kernel_rfl) (by kernel_rfl) (by kernel_rfl) (by kernel_rfl) (fun _ _ _ h => h) (fun _ => HFA.out) (fun x' hx => ?_) (by simp only [Act.put, List.setIfInBounds_toArray, List.set_cons_zero, List.set_cons_succ]; rfl) ?_
  · have hx1 := (hx (by decide)).1; go_simp; try (with_reducible rfl)
  refine Og.s_take 4 { dst := some 8, op := Go.Op.move (Go.Operand.tmp 0), type := 146, pos := "taking.go:174", after := #[], guard := none } (.pointer (some ⟨tp, 0, none⟩)) _ (by kernel_rfl) (by kernel_rfl) (by kernel_rfl) (by kernel_rfl) (by kernel_rfl) (fun _ _ _ h => h) (fun h => absurd h (by decide)) (fun x' hx => ?_) (by simp only [Act.put, List.setIfInBounds_toArray, List.set_cons_zero, List.set_cons_succ]; rfl) ?_
  · go_simp; try (with_reducible rfl)
  refine Og.s_take 5 { dst := some 9, op := Go.Op.nilCheck (Go.Operand.tmp 8), type := 0, pos := "taking.go:174", after := #[{ on := 4, ground := Go.Ground.data }], guard := none } (.pointer (some ⟨tp, 0, none⟩)) _ (by kernel_rfl) (by kernel_rfl) (by kernel_rfl) (by kernel_rfl) (by kernel_rfl) (fun _ _ _ h => h) (fun h => absurd h (by decide)) (fun x' hx => ?_) (by simp only [Act.put, List.setIfInBounds_toArray, List.set_cons_zero, List.set_cons_succ]; rfl) ?_
  · go_simp; try (with_reducible rfl)
  refine Og.s_take 6 { dst := some 10, op := Go.Op.fieldAddr 125 (Go.Operand.tmp 9) 0, type := 0, pos := "taking.go:174", after := #[{ on := 5, ground := Go.Ground.data }], guard := none } (.pointer (some ⟨tp, 0, none⟩)) _ (by kernel_rfl) (by kernel_rfl) (by kernel_rfl) (by kernel_rfl) (by kernel_rfl) (fun _ _ _ h => h) (fun h => absurd h (by decide)) (fun x' hx => ?_) (by simp only [Act.put, List.setIfInBounds_toArray, List.set_cons_zero, List.set_cons_succ]; rfl) ?_
  · go_simp; try (with_reducible rfl)
  refine Og.s_take 7 { dst := some 11, op := Go.Op.fieldAddr 121 (Go.Operand.tmp 10) 0, type := 0, pos := "taking.go:174", after := #[{ on := 6, ground := Go.Ground.data }], guard := none } (.pointer (some ⟨tp, 0, none⟩)) _ (by kernel_rfl) (by kernel_rfl) (by kernel_rfl) (by kernel_rfl) (by kernel_rfl) (fun _ _ _ h => h) (fun h => absurd h (by decide)) (fun x' hx => ?_) (by simp only [Act.put, List.setIfInBounds_toArray, List.set_cons_zero, List.set_cons_succ]; rfl) ?_
  · go_simp; try (with_reducible rfl)
  refine Og.s_take 8 { dst := some 12, op := Go.Op.load 23 (Go.Operand.tmp 11), type := 23, pos := "taking.go:174", after := #[{ on := 7, ground := Go.Ground.data }], guard := none } (.int .u32 (n : Int)) _ (by kernel_rfl) (by kernel_rfl) (by kernel_rfl) (by kernel_rfl) (by kernel_rfl) (fun _ _ _ h => h) (fun _ => HFA.out) (fun x' hx => ?_) (by simp only [Act.put, List.setIfInBounds_toArray, List.set_cons_zero, List.set_cons_succ]; rfl) ?_
  · have hx1 := (hx (by decide)).2.1; go_simp; try (with_reducible rfl)
  refine Og.s_take 9 { dst := some 13, op := Go.Op.fieldAddr 67 (Go.Operand.tmp 3) 4, type := 0, pos := "taking.go:174", after := #[], guard := none } (.pointer (some ⟨mb, 4, none⟩)) _ (by kernel_rfl) (by kernel_rfl) (by kernel_rfl) (by kernel_rfl) (by kernel_rfl) (fun _ _ _ h => h) (fun h => absurd h (by decide)) (fun x' hx => ?_) (by simp only [Act.put, List.setIfInBounds_toArray, List.set_cons_zero, List.set_cons_succ]; rfl) ?_
  · go_simp; try (with_reducible rfl)
  refine Og.s_take 10 { dst := some 14, op := Go.Op.load 25 (Go.Operand.tmp 13), type := 25, pos := "taking.go:174", after := #[{ on := 9, ground := Go.Ground.data }], guard := none } (.agg (m.b.map (Value.int .u8)).toArray) _ (by kernel_rfl) (by kernel_rfl) (by kernel_rfl) (by kernel_rfl) (by kernel_rfl) (fun _ _ _ h => h) (fun _ => HFA.out) (fun x' hx => ?_) (by simp only [Act.put, List.setIfInBounds_toArray, List.set_cons_zero, List.set_cons_succ]; rfl) ?_
  · exact Og.load_run 25 (.tmp 13) rfl ⟨mb, 4, none⟩ rfl (run_loadVar_at x' mb 4 25 (m.b.map (Value.int .u8)) _ (msg_bytes (hx (by decide)).2.2) Try.underlying25 rfl (by rw [List.length_map, HOK.out.b]; exact size45))
  refine Og.s_one 11 { dst := some 15, op := Go.Op.call { callee := Go.Callee.value (Go.Operand.func 115), args := #[Go.Operand.tmp 7, Go.Operand.tmp 12, Go.Operand.tmp 14], argTypes := #[89, 23, 25] }, type := 47, pos := "taking.go:174", after := #[{ on := 3, ground := Go.Ground.data }, { on := 8, ground := Go.Ground.data }, { on := 10, ground := Go.Ground.data }], guard := none } (by kernel_rfl) (by kernel_rfl) (by kernel_rfl) ?_
  refine Og.call_to (w1 := wq) (f := 115) (args := #[.pointer (some ⟨mp, 0, none⟩), .int .u32 (n : Int), .agg (m.b.map (Value.int .u8)).toArray]) (by go_simp) ?_
  refine (setline_goes mp g bs m.b n wq TQ.out.tk.im HNL.out HOK.out.b HBY.out).mono ?_
  rintro r W2 ⟨rfl, hi2, hg2⟩
  refine ⟨_, rfl, keep_end (o := { dst := some 15, op := Go.Op.call { callee := Go.Callee.value (Go.Operand.func 115), args := #[Go.Operand.tmp 7, Go.Operand.tmp 12, Go.Operand.tmp 14], argTypes := #[89, 23, 25] }, type := 47, pos := "taking.go:174", after := #[{ on := 3, ground := Go.Ground.data }, { on := 8, ground := Go.Ground.data }, { on := 10, ground := Go.Ground.data }], guard := none }) (by kernel_rfl) (by kernel_rfl), ?_⟩
  have T2 := Lib.hid (TQ.out.img hi2 hg2 (Im.length_sets _ _ _ _))
  clear hi2 hg2
  refine Og.s_done (by kernel_rfl) ?_ _
  try simp only [Act.put, List.setIfInBounds_toArray, List.set_cons_zero, List.set_cons_succ]
  go_wp2_with fail
  go_end0
  refine ⟨rfl, TT.before B0.out ?_⟩
  rw [← HT.out]
  exact T2.out.tt
end
end Hm
end Go.Proofs.Ytfajkgbpeapcbaa
end
