import Derived.Test.YtfajkgbpeapcbaaNa29
import Derived.Test.YtfajkgbpeapcbaaNa18
set_option linter.unusedVariables false
set_option linter.unusedSimpArgs false

section
namespace Go.Proofs.Ytfajkgbpeapcbaa
open Go.RowKit
namespace Hm
open Nt
set_option maxRecDepth 100000
section
variable {tp ep mp g : Nat} {S Q : Nat → Prop}
theorem ent_one (e : En) (qa : Option Addr) (qc : Nat) : ∀ u ∈ (Value.agg (ecells e qa qc)).cells.toList, u.oneCell' = true := by
  intro u hu
  simp only [Value.cells, ecells, List.mem_cons, List.not_mem_nil, or_false] at hu
  rcases hu with rfl | rfl | rfl | rfl | rfl | rfl | rfl | rfl | rfl | rfl | rfl <;> rfl
set_option maxHeartbeats 8000000 in
theorem done_any (T : Tg) (m : E) (hm : Ok m) (hiv : Iv T.e) (hsl : T.sent.length + 5 * T.e.q.length ≤ 3900) (hok : doneOk T m = true) (w : World) (h : Ta w tp ep mp g S Q T) :
    Calls Try.prog 99 #[.pointer (some ⟨tp, 0, none⟩), .agg (cells m).toArray] w fun r w' => r = .returned (.tuple #[]) ∧ TT w w' tp ep mp g S Q (doneP T m) := by
  obtain ⟨n, sent, ⟨o, s, b, a, k, wt, td, q⟩, bs⟩ := T
  obtain ⟨sa, sc, qa, qc, h⟩ := h
  obtain ⟨mb, B, hmb, hB, hb0, hr0⟩ := msg_box w m
  have HB := Lib.hid hB; have HMB := Lib.hid hmb; have B0 := Lib.hid hb0; have R0 := Lib.hid hr0
  have OW := Lib.hid (show ∀ j, own tp ep g S Q j → j < mb from fun j hj => by rw [HMB.out]; exact Tw.own_lt h j hj)
  have HME := Lib.hid (show mb ≠ ep from by have := h.lt.2.1; omega)
  have T0 := Lib.hid (Tw.start (h.kp B0.out))
  clear hB hmb hb0 hr0
  obtain ⟨T', hT⟩ : ∃ T', doneP ⟨n, sent, ⟨o, s, b, a, k, wt, td, q⟩, bs⟩ m = T' := ⟨_, rfl⟩
  rw [hT]
  have HT := Lib.hid hT
  clear h hT
  have HOK := Lib.hid hm
  have HIV := Lib.hid (show Iv (clearP ⟨n, sent, ⟨o, s, b, a, k, wt, td, q⟩, bs⟩).e from ⟨hiv.o1, hiv.o2, by show (0 : Int) ≤ 0; omega, by show (0 : Int) ≤ 3; omega, by show (0 : Int) ≤ 0; omega, by show (0 : Int) ≤ 10; omega, fun _ => rfl, by show Ev.i64B 0; unfold Ev.i64B; omega, hiv.q⟩)
  have HSL := Lib.hid hsl
  unfold doneOk at hok
  obtain ⟨ht, ha⟩ : td = true ∧ a = m.f := by simpa using hok
  have HTD := Lib.hid ht
  have hab : (a == m.f) = true := by simp [ha]
  clear hm hiv hsl hok ht ha
  go_enter Try.func99, Try.ntmps99
  go_wp2_with fail
  rw [← HB.out, ← HMB.out]
  obtain ⟨wq, hwq⟩ : ∃ wq, wq = { B with drawn := B.drawn + 1 } := ⟨_, rfl⟩
  have BQ := Lib.hid (show Below B.heap.size B wq by rw [hwq]; exact ⟨rfl, rfl, rfl, Nat.le_refl _, fun _ _ => rfl⟩)
  have HWQ := Lib.hid hwq
  clear hwq
  have TQ := Lib.hid (T0.out.kp BQ.out)
  have RQ := Lib.hid ((BQ.out.block _ (Array.getElem?_eq_some_iff.1 R0.out).1).trans R0.out)
  have HFA := Lib.hid (show (fun x : World => x.cell? ⟨tp, 2, none⟩ = some (.pointer (some ⟨ep, 0, none⟩)) ∧ x.cell? ⟨ep, 9, none⟩ = some (.bool true) ∧ x.cell? ⟨ep, 6, none⟩ = some (.int .i64 a) ∧ x.cell? ⟨mb, 1, none⟩ = some (.int .i64 m.f)) wq from ⟨TQ.out.tk.t2, (show _ = some (Value.bool true) from HTD.out ▸ TQ.out.tk.e9), TQ.out.tk.e6, (msg_cell RQ.out).2.1⟩)
  refine Og.region_S (S := SL [3, 6, 11, 14, 16] (fun x : World => x.cell? ⟨tp, 2, none⟩ = some (.pointer (some ⟨ep, 0, none⟩)) ∧ x.cell? ⟨ep, 9, none⟩ = some (.bool true) ∧ x.cell? ⟨ep, 6, none⟩ = some (.int .i64 a) ∧ x.cell? ⟨mb, 1, none⟩ = some (.int .i64 m.f))) (by kernel_rfl) ?_
  rw [← HWQ.out]
  refine Og.s_take 0 { dst := some 4, op := Go.Op.move (Go.Operand.tmp 0), type := 146, pos := "taking.go:123", after := #[], guard := none } (.pointer (some ⟨tp, 0, none⟩)) _ (by kernel_rfl) (by kernel_rfl) (by kernel_rfl) (by kernel_rfl) (by kernel_rfl) (fun _ _ _ h => h) (fun h => absurd h (by decide)) (fun x' hx => ?_) (by simp only [Act.put, List.setIfInBounds_toArray, List.set_cons_zero, List.set_cons_succ]; rfl) ?_
  · go_simp; try (with_reducible rfl)
  refine Og.s_take 1 { dst := some 5, op := Go.Op.nilCheck (Go.Operand.tmp 4), type := 0, pos := "taking.go:123", after := #[{ on := 0, ground := Go.Ground.data }], guard := none } (.pointer (some ⟨tp, 0, none⟩)) _ (by kernel_rfl) (by kernel_rfl) (by kernel_rfl) (by kernel_rfl) (by kernel_rfl) (fun _ _ _ h => h) (fun h => absurd h (by decide)) (fun x' hx => ?_) (by simp only [Act.put, List.setIfInBounds_toArray, List.set_cons_zero, List.set_cons_succ]; rfl) ?_
  · go_simp; try (with_reducible rfl)
  refine Og.s_take 2 { dst := some 6, op := Go.Op.fieldAddr 125 (Go.Operand.tmp 5) 1, type := 0, pos := "taking.go:123", after := #[{ on := 1, ground := Go.Ground.data }], guard := none } (.pointer (some ⟨tp, 2, none⟩)) _ (by kernel_rfl) (by kernel_rfl) (by kernel_rfl) (by kernel_rfl) (by kernel_rfl) (fun _ _ _ h => h) (fun h => absurd h (by decide)) (fun x' hx => ?_) (by simp only [Act.put, List.setIfInBounds_toArray, List.set_cons_zero, List.set_cons_succ]; rfl) ?_
  · go_simp; try (with_reducible rfl)
  refine Og.s_take 3 { dst := some 7, op := Go.Op.load 122 (Go.Operand.tmp 6), type := 122, pos := "taking.go:123", after := #[{ on := 2, ground := Go.Ground.data }], guard := none } (.pointer (some ⟨ep, 0, none⟩)) _ (by kernel_rfl) (by kernel_rfl) (by kernel_rfl) (by kernel_rfl) (by kernel_rfl) (fun _ _ _ h => h) (fun _ => HFA.out) (fun x' hx => ?_) (by simp only [Act.put, List.setIfInBounds_toArray, List.set_cons_zero, List.set_cons_succ]; rfl) ?_
  · have hx1 := (hx (by decide)).1; go_simp; try (with_reducible rfl)
  refine Og.s_take 4 { dst := some 8, op := Go.Op.nilCheck (Go.Operand.tmp 7), type := 0, pos := "taking.go:123", after := #[{ on := 3, ground := Go.Ground.data }], guard := none } (.pointer (some ⟨ep, 0, none⟩)) _ (by kernel_rfl) (by kernel_rfl) (by kernel_rfl) (by kernel_rfl) (by kernel_rfl) (fun _ _ _ h => h) (fun h => absurd h (by decide)) (fun x' hx => ?_) (by simp only [Act.put, List.setIfInBounds_toArray, List.set_cons_zero, List.set_cons_succ]; rfl) ?_
  · go_simp; try (with_reducible rfl)
  refine Og.s_take 5 { dst := some 9, op := Go.Op.fieldAddr 84 (Go.Operand.tmp 8) 6, type := 0, pos := "taking.go:123", after := #[{ on := 4, ground := Go.Ground.data }], guard := none } (.pointer (some ⟨ep, 9, none⟩)) _ (by kernel_rfl) (by kernel_rfl) (by kernel_rfl) (by kernel_rfl) (by kernel_rfl) (fun _ _ _ h => h) (fun h => absurd h (by decide)) (fun x' hx => ?_) (by simp only [Act.put, List.setIfInBounds_toArray, List.set_cons_zero, List.set_cons_succ]; rfl) ?_
  · go_simp; try (with_reducible rfl)
  refine Og.s_take 6 { dst := some 10, op := Go.Op.load 4 (Go.Operand.tmp 9), type := 4, pos := "taking.go:123", after := #[{ on := 5, ground := Go.Ground.data }], guard := none } (.bool true) _ (by kernel_rfl) (by kernel_rfl) (by kernel_rfl) (by kernel_rfl) (by kernel_rfl) (fun _ _ _ h => h) (fun _ => HFA.out) (fun x' hx => ?_) (by simp only [Act.put, List.setIfInBounds_toArray, List.set_cons_zero, List.set_cons_succ]; rfl) ?_
  · have hx1 := (hx (by decide)).2.1; go_simp; try (with_reducible rfl)
  refine Og.s_take 7 { dst := some 11, op := Go.Op.move (Go.Operand.tmp 10), type := 4, pos := "taking.go:123", after := #[{ on := 6, ground := Go.Ground.data }], guard := none } (.bool true) _ (by kernel_rfl) (by kernel_rfl) (by kernel_rfl) (by kernel_rfl) (by kernel_rfl) (fun _ _ _ h => h) (fun h => absurd h (by decide)) (fun x' hx => ?_) (by simp only [Act.put, List.setIfInBounds_toArray, List.set_cons_zero, List.set_cons_succ]; rfl) ?_
  · go_simp; try (with_reducible rfl)
  refine s_take_g 8 { dst := some 12, op := Go.Op.move (Go.Operand.tmp 0), type := 146, pos := "taking.go:123", after := #[{ on := 7, ground := Go.Ground.guard }], guard := some (7, true) } (.pointer (some ⟨tp, 0, none⟩)) _ (by kernel_rfl) (by kernel_rfl) (by kernel_rfl) (by kernel_rfl) (by kernel_rfl) (fun _ _ _ h => h) (fun h => absurd h (by decide)) (fun x' hx => ?_) (by simp only [Act.put, List.setIfInBounds_toArray, List.set_cons_zero, List.set_cons_succ]; rfl) ?_
  · go_simp; try (with_reducible rfl)
  refine s_take_g 9 { dst := some 13, op := Go.Op.nilCheck (Go.Operand.tmp 12), type := 0, pos := "taking.go:123", after := #[{ on := 8, ground := Go.Ground.data }, { on := 7, ground := Go.Ground.guard }], guard := some (7, true) } (.pointer (some ⟨tp, 0, none⟩)) _ (by kernel_rfl) (by kernel_rfl) (by kernel_rfl) (by kernel_rfl) (by kernel_rfl) (fun _ _ _ h => h) (fun h => absurd h (by decide)) (fun x' hx => ?_) (by simp only [Act.put, List.setIfInBounds_toArray, List.set_cons_zero, List.set_cons_succ]; rfl) ?_
  · go_simp; try (with_reducible rfl)
  refine s_take_g 10 { dst := some 14, op := Go.Op.fieldAddr 125 (Go.Operand.tmp 13) 1, type := 0, pos := "taking.go:123", after := #[{ on := 9, ground := Go.Ground.data }, { on := 7, ground := Go.Ground.guard }], guard := some (7, true) } (.pointer (some ⟨tp, 2, none⟩)) _ (by kernel_rfl) (by kernel_rfl) (by kernel_rfl) (by kernel_rfl) (by kernel_rfl) (fun _ _ _ h => h) (fun h => absurd h (by decide)) (fun x' hx => ?_) (by simp only [Act.put, List.setIfInBounds_toArray, List.set_cons_zero, List.set_cons_succ]; rfl) ?_
  · go_simp; try (with_reducible rfl)
  refine s_take_g 11 { dst := some 15, op := Go.Op.load 122 (Go.Operand.tmp 14), type := 122, pos := "taking.go:123", after := #[{ on := 10, ground := Go.Ground.data }, { on := 7, ground := Go.Ground.guard }], guard := some (7, true) } (.pointer (some ⟨ep, 0, none⟩)) _ (by kernel_rfl) (by kernel_rfl) (by kernel_rfl) (by kernel_rfl) (by kernel_rfl) (fun _ _ _ h => h) (fun _ => HFA.out) (fun x' hx => ?_) (by simp only [Act.put, List.setIfInBounds_toArray, List.set_cons_zero, List.set_cons_succ]; rfl) ?_
  · have hx1 := (hx (by decide)).1; go_simp; try (with_reducible rfl)
  refine s_take_g 12 { dst := some 16, op := Go.Op.nilCheck (Go.Operand.tmp 15), type := 0, pos := "taking.go:123", after := #[{ on := 11, ground := Go.Ground.data }, { on := 7, ground := Go.Ground.guard }], guard := some (7, true) } (.pointer (some ⟨ep, 0, none⟩)) _ (by kernel_rfl) (by kernel_rfl) (by kernel_rfl) (by kernel_rfl) (by kernel_rfl) (fun _ _ _ h => h) (fun h => absurd h (by decide)) (fun x' hx => ?_) (by simp only [Act.put, List.setIfInBounds_toArray, List.set_cons_zero, List.set_cons_succ]; rfl) ?_
  · go_simp; try (with_reducible rfl)
  refine s_take_g 13 { dst := some 17, op := Go.Op.fieldAddr 84 (Go.Operand.tmp 16) 3, type := 0, pos := "taking.go:123", after := #[{ on := 12, ground := Go.Ground.data }, { on := 7, ground := Go.Ground.guard }], guard := some (7, true) } (.pointer (some ⟨ep, 6, none⟩)) _ (by kernel_rfl) (by kernel_rfl) (by kernel_rfl) (by kernel_rfl) (by kernel_rfl) (fun _ _ _ h => h) (fun h => absurd h (by decide)) (fun x' hx => ?_) (by simp only [Act.put, List.setIfInBounds_toArray, List.set_cons_zero, List.set_cons_succ]; rfl) ?_
  · go_simp; try (with_reducible rfl)
  refine s_take_g 14 { dst := some 18, op := Go.Op.load 3 (Go.Operand.tmp 17), type := 3, pos := "taking.go:123", after := #[{ on := 13, ground := Go.Ground.data }, { on := 7, ground := Go.Ground.guard }], guard := some (7, true) } (.int .i64 a) _ (by kernel_rfl) (by kernel_rfl) (by kernel_rfl) (by kernel_rfl) (by kernel_rfl) (fun _ _ _ h => h) (fun _ => HFA.out) (fun x' hx => ?_) (by simp only [Act.put, List.setIfInBounds_toArray, List.set_cons_zero, List.set_cons_succ]; rfl) ?_
  · have hx1 := (hx (by decide)).2.2.1; go_simp; try (with_reducible rfl)
  refine s_take_g 15 { dst := some 19, op := Go.Op.fieldAddr 67 (Go.Operand.tmp 3) 1, type := 0, pos := "taking.go:123", after := #[{ on := 7, ground := Go.Ground.guard }], guard := some (7, true) } (.pointer (some ⟨mb, 1, none⟩)) _ (by kernel_rfl) (by kernel_rfl) (by kernel_rfl) (by kernel_rfl) (by kernel_rfl) (fun _ _ _ h => h) (fun h => absurd h (by decide)) (fun x' hx => ?_) (by simp only [Act.put, List.setIfInBounds_toArray, List.set_cons_zero, List.set_cons_succ]; rfl) ?_
  · go_simp; try (with_reducible rfl)
  refine s_take_g 16 { dst := some 20, op := Go.Op.load 3 (Go.Operand.tmp 19), type := 3, pos := "taking.go:123", after := #[{ on := 15, ground := Go.Ground.data }, { on := 7, ground := Go.Ground.guard }], guard := some (7, true) } (.int .i64 m.f) _ (by kernel_rfl) (by kernel_rfl) (by kernel_rfl) (by kernel_rfl) (by kernel_rfl) (fun _ _ _ h => h) (fun _ => HFA.out) (fun x' hx => ?_) (by simp only [Act.put, List.setIfInBounds_toArray, List.set_cons_zero, List.set_cons_succ]; rfl) ?_
  · have hx1 := (hx (by decide)).2.2.2; go_simp; try (with_reducible rfl)
  refine s_take_g 17 { dst := some 21, op := Go.Op.binOp Go.BinOp.eql 3 (Go.Operand.tmp 18) (Go.Operand.tmp 20) 3, type := 4, pos := "taking.go:123", after := #[{ on := 14, ground := Go.Ground.data }, { on := 16, ground := Go.Ground.data }, { on := 7, ground := Go.Ground.guard }], guard := some (7, true) } (.bool true) _ (by kernel_rfl) (by kernel_rfl) (by kernel_rfl) (by kernel_rfl) (by kernel_rfl) (fun _ _ _ h => h) (fun h => absurd h (by decide)) (fun x' hx => ?_) (by simp only [Act.put, List.setIfInBounds_toArray, List.set_cons_zero, List.set_cons_succ]; rfl) ?_
  · go_simp; try (with_reducible rfl)
  refine Og.s_take 18 { dst := some 22, op := Go.Op.pick (Go.Operand.tmp 11) (Go.Operand.tmp 21) (Go.Operand.const (Go.Value.bool false)), type := 4, pos := "taking.go:123", after := #[{ on := 7, ground := Go.Ground.data }, { on := 17, ground := Go.Ground.data }], guard := none } (.bool true) _ (by kernel_rfl) (by kernel_rfl) (by kernel_rfl) (by kernel_rfl) (by kernel_rfl) (fun _ _ _ h => h) (fun h => absurd h (by decide)) (fun x' hx => ?_) (by simp only [Act.put, List.setIfInBounds_toArray, List.set_cons_zero, List.set_cons_succ]; rfl) ?_
  · go_simp; try (with_reducible rfl)
  refine Og.s_one 19 { dst := some 23, op := Go.Op.call { callee := Go.Callee.value (Go.Operand.func 106), args := #[Go.Operand.tmp 22], argTypes := #[4] }, type := 0, pos := "taking.go:123", after := #[{ on := 18, ground := Go.Ground.data }, { on := 7, ground := Go.Ground.chain }], guard := none } (by kernel_rfl) (by kernel_rfl) (by kernel_rfl) ?_
  refine Og.call_to (w1 := wq) (f := 106) (args := #[.bool true]) (by go_simp) ?_
  refine (must_yes wq).mono ?_
  rintro x W1 ⟨rfl, hw⟩
  subst hw
  refine ⟨_, rfl, keep_sl HFA.out, ?_⟩
  refine Og.s_done (by kernel_rfl) ?_ _
  try simp only [Act.put, List.setIfInBounds_toArray, List.set_cons_zero, List.set_cons_succ]
  obtain ⟨wp, hwp⟩ : ∃ wp, wp = wq := ⟨_, rfl⟩
  have TP := Lib.hid (show Tw B wp _ _ _ _ _ _ _ _ _ _ _ _ _ from by rw [hwp]; exact TQ.out)
  rw [← hwp]
  clear hwp HWQ BQ hab
  go_wp2_with fail
  obtain ⟨wq, hwq⟩ : ∃ wq, wq = { wp with drawn := wp.drawn + 1 } := ⟨_, rfl⟩
  have BQ := Lib.hid (show Below wp.heap.size wp wq by rw [hwq]; exact ⟨rfl, rfl, rfl, Nat.le_refl _, fun _ _ => rfl⟩)
  have HWQ := Lib.hid hwq
  clear hwq
  have TQ := Lib.hid (TP.out.kp BQ.out)
  have HFA := Lib.hid (show (fun x : World => x.cell? ⟨tp, 2, none⟩ = some (.pointer (some ⟨ep, 0, none⟩)) ∧ x.cell? ⟨ep, 0, none⟩ = some (.int .i64 o) ∧ x.cell? ⟨ep, 10, none⟩ = some (.slice qa q.length qc) ∧ x.heap[ep]? = some (.cells (ecells ⟨o, s, b, a, k, wt, td, q⟩ qa qc) 84 (0, 0))) wq from ⟨TQ.out.tk.t2, TQ.out.tk.e0, TQ.out.tk.e10, TQ.out.tk.eb⟩)
  refine Og.region_S (S := SL [3, 7, 10, 14, 17, 21, 24] (fun x : World => x.cell? ⟨tp, 2, none⟩ = some (.pointer (some ⟨ep, 0, none⟩)) ∧ x.cell? ⟨ep, 0, none⟩ = some (.int .i64 o) ∧ x.cell? ⟨ep, 10, none⟩ = some (.slice qa q.length qc) ∧ x.heap[ep]? = some (.cells (ecells ⟨o, s, b, a, k, wt, td, q⟩ qa qc) 84 (0, 0)))) (by kernel_rfl) ?_
  rw [← HWQ.out]
  refine Og.s_take 0 { dst := some 24, op := Go.Op.move (Go.Operand.tmp 0), type := 146, pos := "taking.go:124", after := #[], guard := none } (.pointer (some ⟨tp, 0, none⟩)) _ (by kernel_rfl) (by kernel_rfl) (by kernel_rfl) (by kernel_rfl) (by kernel_rfl) (fun _ _ _ h => h) (fun h => absurd h (by decide)) (fun x' hx => ?_) (by simp only [Act.put, List.setIfInBounds_toArray, List.set_cons_zero, List.set_cons_succ]; rfl) ?_
  · go_simp; try (with_reducible rfl)
  refine Og.s_take 1 { dst := some 25, op := Go.Op.nilCheck (Go.Operand.tmp 24), type := 0, pos := "taking.go:124", after := #[{ on := 0, ground := Go.Ground.data }], guard := none } (.pointer (some ⟨tp, 0, none⟩)) _ (by kernel_rfl) (by kernel_rfl) (by kernel_rfl) (by kernel_rfl) (by kernel_rfl) (fun _ _ _ h => h) (fun h => absurd h (by decide)) (fun x' hx => ?_) (by simp only [Act.put, List.setIfInBounds_toArray, List.set_cons_zero, List.set_cons_succ]; rfl) ?_
  · go_simp; try (with_reducible rfl)
  refine Og.s_take 2 { dst := some 26, op := Go.Op.fieldAddr 125 (Go.Operand.tmp 25) 1, type := 0, pos := "taking.go:124", after := #[{ on := 1, ground := Go.Ground.data }], guard := none } (.pointer (some ⟨tp, 2, none⟩)) _ (by kernel_rfl) (by kernel_rfl) (by kernel_rfl) (by kernel_rfl) (by kernel_rfl) (fun _ _ _ h => h) (fun h => absurd h (by decide)) (fun x' hx => ?_) (by simp only [Act.put, List.setIfInBounds_toArray, List.set_cons_zero, List.set_cons_succ]; rfl) ?_
  · go_simp; try (with_reducible rfl)
  refine Og.s_take 3 { dst := some 27, op := Go.Op.load 122 (Go.Operand.tmp 26), type := 122, pos := "taking.go:124", after := #[{ on := 2, ground := Go.Ground.data }], guard := none } (.pointer (some ⟨ep, 0, none⟩)) _ (by kernel_rfl) (by kernel_rfl) (by kernel_rfl) (by kernel_rfl) (by kernel_rfl) (fun _ _ _ h => h) (fun _ => HFA.out) (fun x' hx => ?_) (by simp only [Act.put, List.setIfInBounds_toArray, List.set_cons_zero, List.set_cons_succ]; rfl) ?_
  · have hx1 := (hx (by decide)).1; go_simp; try (with_reducible rfl)
  refine Og.s_take 4 { dst := some 28, op := Go.Op.move (Go.Operand.tmp 0), type := 146, pos := "taking.go:124", after := #[], guard := none } (.pointer (some ⟨tp, 0, none⟩)) _ (by kernel_rfl) (by kernel_rfl) (by kernel_rfl) (by kernel_rfl) (by kernel_rfl) (fun _ _ _ h => h) (fun h => absurd h (by decide)) (fun x' hx => ?_) (by simp only [Act.put, List.setIfInBounds_toArray, List.set_cons_zero, List.set_cons_succ]; rfl) ?_
  · go_simp; try (with_reducible rfl)
  refine Og.s_take 5 { dst := some 29, op := Go.Op.nilCheck (Go.Operand.tmp 28), type := 0, pos := "taking.go:124", after := #[{ on := 4, ground := Go.Ground.data }], guard := none } (.pointer (some ⟨tp, 0, none⟩)) _ (by kernel_rfl) (by kernel_rfl) (by kernel_rfl) (by kernel_rfl) (by kernel_rfl) (fun _ _ _ h => h) (fun h => absurd h (by decide)) (fun x' hx => ?_) (by simp only [Act.put, List.setIfInBounds_toArray, List.set_cons_zero, List.set_cons_succ]; rfl) ?_
  · go_simp; try (with_reducible rfl)
  refine Og.s_take 6 { dst := some 30, op := Go.Op.fieldAddr 125 (Go.Operand.tmp 29) 1, type := 0, pos := "taking.go:124", after := #[{ on := 5, ground := Go.Ground.data }], guard := none } (.pointer (some ⟨tp, 2, none⟩)) _ (by kernel_rfl) (by kernel_rfl) (by kernel_rfl) (by kernel_rfl) (by kernel_rfl) (fun _ _ _ h => h) (fun h => absurd h (by decide)) (fun x' hx => ?_) (by simp only [Act.put, List.setIfInBounds_toArray, List.set_cons_zero, List.set_cons_succ]; rfl) ?_
  · go_simp; try (with_reducible rfl)
  refine Og.s_take 7 { dst := some 31, op := Go.Op.load 122 (Go.Operand.tmp 30), type := 122, pos := "taking.go:124", after := #[{ on := 6, ground := Go.Ground.data }], guard := none } (.pointer (some ⟨ep, 0, none⟩)) _ (by kernel_rfl) (by kernel_rfl) (by kernel_rfl) (by kernel_rfl) (by kernel_rfl) (fun _ _ _ h => h) (fun _ => HFA.out) (fun x' hx => ?_) (by simp only [Act.put, List.setIfInBounds_toArray, List.set_cons_zero, List.set_cons_succ]; rfl) ?_
  · have hx1 := (hx (by decide)).1; go_simp; try (with_reducible rfl)
  refine Og.s_take 8 { dst := some 32, op := Go.Op.nilCheck (Go.Operand.tmp 31), type := 0, pos := "taking.go:124", after := #[{ on := 7, ground := Go.Ground.data }], guard := none } (.pointer (some ⟨ep, 0, none⟩)) _ (by kernel_rfl) (by kernel_rfl) (by kernel_rfl) (by kernel_rfl) (by kernel_rfl) (fun _ _ _ h => h) (fun h => absurd h (by decide)) (fun x' hx => ?_) (by simp only [Act.put, List.setIfInBounds_toArray, List.set_cons_zero, List.set_cons_succ]; rfl) ?_
  · go_simp; try (with_reducible rfl)
  refine Og.s_take 9 { dst := some 33, op := Go.Op.fieldAddr 84 (Go.Operand.tmp 32) 0, type := 0, pos := "taking.go:124", after := #[{ on := 8, ground := Go.Ground.data }], guard := none } (.pointer (some ⟨ep, 0, none⟩)) _ (by kernel_rfl) (by kernel_rfl) (by kernel_rfl) (by kernel_rfl) (by kernel_rfl) (fun _ _ _ h => h) (fun h => absurd h (by decide)) (fun x' hx => ?_) (by simp only [Act.put, List.setIfInBounds_toArray, List.set_cons_zero, List.set_cons_succ]; rfl) ?_
  · go_simp; try (with_reducible rfl)
  refine Og.s_take 10 { dst := some 34, op := Go.Op.load 3 (Go.Operand.tmp 33), type := 3, pos := "taking.go:124", after := #[{ on := 9, ground := Go.Ground.data }], guard := none } (.int .i64 o) _ (by kernel_rfl) (by kernel_rfl) (by kernel_rfl) (by kernel_rfl) (by kernel_rfl) (fun _ _ _ h => h) (fun _ => HFA.out) (fun x' hx => ?_) (by simp only [Act.put, List.setIfInBounds_toArray, List.set_cons_zero, List.set_cons_succ]; rfl) ?_
  · have hx1 := (hx (by decide)).2.1; go_simp; try (with_reducible rfl)
  refine Og.s_take 11 { dst := some 35, op := Go.Op.move (Go.Operand.tmp 0), type := 146, pos := "taking.go:124", after := #[], guard := none } (.pointer (some ⟨tp, 0, none⟩)) _ (by kernel_rfl) (by kernel_rfl) (by kernel_rfl) (by kernel_rfl) (by kernel_rfl) (fun _ _ _ h => h) (fun h => absurd h (by decide)) (fun x' hx => ?_) (by simp only [Act.put, List.setIfInBounds_toArray, List.set_cons_zero, List.set_cons_succ]; rfl) ?_
  · go_simp; try (with_reducible rfl)
  refine Og.s_take 12 { dst := some 36, op := Go.Op.nilCheck (Go.Operand.tmp 35), type := 0, pos := "taking.go:124", after := #[{ on := 11, ground := Go.Ground.data }], guard := none } (.pointer (some ⟨tp, 0, none⟩)) _ (by kernel_rfl) (by kernel_rfl) (by kernel_rfl) (by kernel_rfl) (by kernel_rfl) (fun _ _ _ h => h) (fun h => absurd h (by decide)) (fun x' hx => ?_) (by simp only [Act.put, List.setIfInBounds_toArray, List.set_cons_zero, List.set_cons_succ]; rfl) ?_
  · go_simp; try (with_reducible rfl)
  refine Og.s_take 13 { dst := some 37, op := Go.Op.fieldAddr 125 (Go.Operand.tmp 36) 1, type := 0, pos := "taking.go:124", after := #[{ on := 12, ground := Go.Ground.data }], guard := none } (.pointer (some ⟨tp, 2, none⟩)) _ (by kernel_rfl) (by kernel_rfl) (by kernel_rfl) (by kernel_rfl) (by kernel_rfl) (fun _ _ _ h => h) (fun h => absurd h (by decide)) (fun x' hx => ?_) (by simp only [Act.put, List.setIfInBounds_toArray, List.set_cons_zero, List.set_cons_succ]; rfl) ?_
  · go_simp; try (with_reducible rfl)
  refine Og.s_take 14 { dst := some 38, op := Go.Op.load 122 (Go.Operand.tmp 37), type := 122, pos := "taking.go:124", after := #[{ on := 13, ground := Go.Ground.data }], guard := none } (.pointer (some ⟨ep, 0, none⟩)) _ (by kernel_rfl) (by kernel_rfl) (by kernel_rfl) (by kernel_rfl) (by kernel_rfl) (fun _ _ _ h => h) (fun _ => HFA.out) (fun x' hx => ?_) (by simp only [Act.put, List.setIfInBounds_toArray, List.set_cons_zero, List.set_cons_succ]; rfl) ?_
  · have hx1 := (hx (by decide)).1; go_simp; try (with_reducible rfl)
  refine Og.s_take 15 { dst := some 39, op := Go.Op.nilCheck (Go.Operand.tmp 38), type := 0, pos := "taking.go:124", after := #[{ on := 14, ground := Go.Ground.data }], guard := none } (.pointer (some ⟨ep, 0, none⟩)) _ (by kernel_rfl) (by kernel_rfl) (by kernel_rfl) (by kernel_rfl) (by kernel_rfl) (fun _ _ _ h => h) (fun h => absurd h (by decide)) (fun x' hx => ?_) (by simp only [Act.put, List.setIfInBounds_toArray, List.set_cons_zero, List.set_cons_succ]; rfl) ?_
  · go_simp; try (with_reducible rfl)
  refine Og.s_take 16 { dst := some 40, op := Go.Op.fieldAddr 84 (Go.Operand.tmp 39) 1, type := 0, pos := "taking.go:124", after := #[{ on := 15, ground := Go.Ground.data }], guard := none } (.pointer (some ⟨ep, 1, none⟩)) _ (by kernel_rfl) (by kernel_rfl) (by kernel_rfl) (by kernel_rfl) (by kernel_rfl) (fun _ _ _ h => h) (fun h => absurd h (by decide)) (fun x' hx => ?_) (by simp only [Act.put, List.setIfInBounds_toArray, List.set_cons_zero, List.set_cons_succ]; rfl) ?_
  · go_simp; try (with_reducible rfl)
  refine Og.s_take 17 { dst := some 41, op := Go.Op.load 82 (Go.Operand.tmp 40), type := 82, pos := "taking.go:124", after := #[{ on := 16, ground := Go.Ground.data }], guard := none } (.agg #[.bool (s 0), .bool (s 1), .bool (s 2), .bool (s 3)]) _ (by kernel_rfl) (by kernel_rfl) (by kernel_rfl) (by kernel_rfl) (by kernel_rfl) (fun _ _ _ h => h) (fun _ => HFA.out) (fun x' hx => ?_) (by simp only [Act.put, List.setIfInBounds_toArray, List.set_cons_zero, List.set_cons_succ]; rfl) ?_
  · exact Og.load_run 82 (.tmp 40) rfl ⟨ep, 1, none⟩ rfl (run_loadVar_at x' ep 1 82 [.bool (s 0), .bool (s 1), .bool (s 2), .bool (s 3)] _ (sh_cells (hx (by decide)).2.2.2) Try.underlying82 rfl (by kernel_rfl))
  refine Og.s_take 18 { dst := some 42, op := Go.Op.move (Go.Operand.tmp 0), type := 146, pos := "taking.go:124", after := #[], guard := none } (.pointer (some ⟨tp, 0, none⟩)) _ (by kernel_rfl) (by kernel_rfl) (by kernel_rfl) (by kernel_rfl) (by kernel_rfl) (fun _ _ _ h => h) (fun h => absurd h (by decide)) (fun x' hx => ?_) (by simp only [Act.put, List.setIfInBounds_toArray, List.set_cons_zero, List.set_cons_succ]; rfl) ?_
  · go_simp; try (with_reducible rfl)
  refine Og.s_take 19 { dst := some 43, op := Go.Op.nilCheck (Go.Operand.tmp 42), type := 0, pos := "taking.go:124", after := #[{ on := 18, ground := Go.Ground.data }], guard := none } (.pointer (some ⟨tp, 0, none⟩)) _ (by kernel_rfl) (by kernel_rfl) (by kernel_rfl) (by kernel_rfl) (by kernel_rfl) (fun _ _ _ h => h) (fun h => absurd h (by decide)) (fun x' hx => ?_) (by simp only [Act.put, List.setIfInBounds_toArray, List.set_cons_zero, List.set_cons_succ]; rfl) ?_
  · go_simp; try (with_reducible rfl)
  refine Og.s_take 20 { dst := some 44, op := Go.Op.fieldAddr 125 (Go.Operand.tmp 43) 1, type := 0, pos := "taking.go:124", after := #[{ on := 19, ground := Go.Ground.data }], guard := none } (.pointer (some ⟨tp, 2, none⟩)) _ (by kernel_rfl) (by kernel_rfl) (by kernel_rfl) (by kernel_rfl) (by kernel_rfl) (fun _ _ _ h => h) (fun h => absurd h (by decide)) (fun x' hx => ?_) (by simp only [Act.put, List.setIfInBounds_toArray, List.set_cons_zero, List.set_cons_succ]; rfl) ?_
  · go_simp; try (with_reducible rfl)
  refine Og.s_take 21 { dst := some 45, op := Go.Op.load 122 (Go.Operand.tmp 44), type := 122, pos := "taking.go:124", after := #[{ on := 20, ground := Go.Ground.data }], guard := none } (.pointer (some ⟨ep, 0, none⟩)) _ (by kernel_rfl) (by kernel_rfl) (by kernel_rfl) (by kernel_rfl) (by kernel_rfl) (fun _ _ _ h => h) (fun _ => HFA.out) (fun x' hx => ?_) (by simp only [Act.put, List.setIfInBounds_toArray, List.set_cons_zero, List.set_cons_succ]; rfl) ?_
  · have hx1 := (hx (by decide)).1; go_simp; try (with_reducible rfl)
  refine Og.s_take 22 { dst := some 46, op := Go.Op.nilCheck (Go.Operand.tmp 45), type := 0, pos := "taking.go:124", after := #[{ on := 21, ground := Go.Ground.data }], guard := none } (.pointer (some ⟨ep, 0, none⟩)) _ (by kernel_rfl) (by kernel_rfl) (by kernel_rfl) (by kernel_rfl) (by kernel_rfl) (fun _ _ _ h => h) (fun h => absurd h (by decide)) (fun x' hx => ?_) (by simp only [Act.put, List.setIfInBounds_toArray, List.set_cons_zero, List.set_cons_succ]; rfl) ?_
  · go_simp; try (with_reducible rfl)
  refine Og.s_take 23 { dst := some 47, op := Go.Op.fieldAddr 84 (Go.Operand.tmp 46) 7, type := 0, pos := "taking.go:124", after := #[{ on := 22, ground := Go.Ground.data }], guard := none } (.pointer (some ⟨ep, 10, none⟩)) _ (by kernel_rfl) (by kernel_rfl) (by kernel_rfl) (by kernel_rfl) (by kernel_rfl) (fun _ _ _ h => h) (fun h => absurd h (by decide)) (fun x' hx => ?_) (by simp only [Act.put, List.setIfInBounds_toArray, List.set_cons_zero, List.set_cons_succ]; rfl) ?_
  · go_simp; try (with_reducible rfl)
  refine Og.s_take 24 { dst := some 48, op := Go.Op.load 56 (Go.Operand.tmp 47), type := 56, pos := "taking.go:124", after := #[{ on := 23, ground := Go.Ground.data }], guard := none } (.slice qa q.length qc) _ (by kernel_rfl) (by kernel_rfl) (by kernel_rfl) (by kernel_rfl) (by kernel_rfl) (fun _ _ _ h => h) (fun _ => HFA.out) (fun x' hx => ?_) (by simp only [Act.put, List.setIfInBounds_toArray, List.set_cons_zero, List.set_cons_succ]; rfl) ?_
  · have hx1 := (hx (by decide)).2.2.1; go_simp; try (with_reducible rfl)
  refine Og.s_take 25 { dst := some 49, op := Go.Op.build 84 #[(0, Go.Operand.tmp 34), (1, Go.Operand.tmp 41), (7, Go.Operand.tmp 48)], type := 84, pos := "taking.go:124", after := #[{ on := 10, ground := Go.Ground.data }, { on := 17, ground := Go.Ground.data }, { on := 24, ground := Go.Ground.data }], guard := none } (.agg (ecells ⟨o, s, false, 0, 0, 0, false, q⟩ qa qc)) _ (by kernel_rfl) (by kernel_rfl) (by kernel_rfl) (by kernel_rfl) (by kernel_rfl) (fun _ _ _ h => h) (fun h => absurd h (by decide)) (fun x' hx => ?_) (by simp only [Act.put, List.setIfInBounds_toArray, List.set_cons_zero, List.set_cons_succ]; rfl) ?_
  · go_simp; rfl
  refine Og.s_take 26 { dst := some 50, op := Go.Op.nilCheck (Go.Operand.tmp 27), type := 0, pos := "taking.go:124", after := #[{ on := 3, ground := Go.Ground.data }, { on := 0, ground := Go.Ground.phase }, { on := 1, ground := Go.Ground.phase }, { on := 2, ground := Go.Ground.phase }, { on := 3, ground := Go.Ground.phase }, { on := 4, ground := Go.Ground.phase }, { on := 5, ground := Go.Ground.phase }, { on := 6, ground := Go.Ground.phase }, { on := 7, ground := Go.Ground.phase }, { on := 8, ground := Go.Ground.phase }, { on := 9, ground := Go.Ground.phase }, { on := 10, ground := Go.Ground.phase }, { on := 11, ground := Go.Ground.phase }, { on := 12, ground := Go.Ground.phase }, { on := 13, ground := Go.Ground.phase }, { on := 14, ground := Go.Ground.phase }, { on := 15, ground := Go.Ground.phase }, { on := 16, ground := Go.Ground.phase }, { on := 17, ground := Go.Ground.phase }, { on := 18, ground := Go.Ground.phase }, { on := 19, ground := Go.Ground.phase }, { on := 20, ground := Go.Ground.phase }, { on := 21, ground := Go.Ground.phase }, { on := 22, ground := Go.Ground.phase }, { on := 23, ground := Go.Ground.phase }, { on := 24, ground := Go.Ground.phase }, { on := 25, ground := Go.Ground.phase }], guard := none } (.pointer (some ⟨ep, 0, none⟩)) _ (by kernel_rfl) (by kernel_rfl) (by kernel_rfl) (by kernel_rfl) (by kernel_rfl) (fun _ _ _ h => h) (fun h => absurd h (by decide)) (fun x' hx => ?_) (by simp only [Act.put, List.setIfInBounds_toArray, List.set_cons_zero, List.set_cons_succ]; rfl) ?_
  · go_simp; try (with_reducible rfl)
  obtain ⟨W5, hW5⟩ : ∃ W5, W5 = wq.setRow ep (ecells (⟨o, s, false, 0, 0, 0, false, q⟩) qa qc) := ⟨_, rfl⟩
  have TW5 := Lib.hid (TQ.out.row (⟨o, s, false, 0, 0, 0, false, q⟩) rfl)
  rw [← hW5] at TW5
  have HW5 := Lib.hid hW5
  clear hW5
  refine Og.s_one 27 { dst := none, op := Go.Op.store 84 (Go.Operand.tmp 50) (Go.Operand.tmp 49), type := 0, pos := "taking.go:124", after := #[{ on := 26, ground := Go.Ground.data }, { on := 25, ground := Go.Ground.data }, { on := 0, ground := Go.Ground.phase }, { on := 1, ground := Go.Ground.phase }, { on := 2, ground := Go.Ground.phase }, { on := 3, ground := Go.Ground.phase }, { on := 4, ground := Go.Ground.phase }, { on := 5, ground := Go.Ground.phase }, { on := 6, ground := Go.Ground.phase }, { on := 7, ground := Go.Ground.phase }, { on := 8, ground := Go.Ground.phase }, { on := 9, ground := Go.Ground.phase }, { on := 10, ground := Go.Ground.phase }, { on := 11, ground := Go.Ground.phase }, { on := 12, ground := Go.Ground.phase }, { on := 13, ground := Go.Ground.phase }, { on := 14, ground := Go.Ground.phase }, { on := 15, ground := Go.Ground.phase }, { on := 16, ground := Go.Ground.phase }, { on := 17, ground := Go.Ground.phase }, { on := 18, ground := Go.Ground.phase }, { on := 19, ground := Go.Ground.phase }, { on := 20, ground := Go.Ground.phase }, { on := 21, ground := Go.Ground.phase }, { on := 22, ground := Go.Ground.phase }, { on := 23, ground := Go.Ground.phase }, { on := 24, ground := Go.Ground.phase }, { on := 25, ground := Go.Ground.phase }], guard := none } (by kernel_rfl) (by kernel_rfl) (by kernel_rfl) ?_
  refine Og.skip_to (w' := W5) (by rw [HW5.out]; exact put_to 84 (Go.Operand.tmp 50) (Go.Operand.tmp 49) rfl ep (0) (.agg (ecells ⟨o, s, false, 0, 0, 0, false, q⟩ qa qc)) rfl rfl 84 _ TQ.out.tk.eb (by kernel_rfl) (Nat.le_of_ble_eq_true rfl) ((ent_one _ _ _)) _ rfl) ⟨keep_end (o := { dst := none, op := Go.Op.store 84 (Go.Operand.tmp 50) (Go.Operand.tmp 49), type := 0, pos := "taking.go:124", after := #[{ on := 26, ground := Go.Ground.data }, { on := 25, ground := Go.Ground.data }, { on := 0, ground := Go.Ground.phase }, { on := 1, ground := Go.Ground.phase }, { on := 2, ground := Go.Ground.phase }, { on := 3, ground := Go.Ground.phase }, { on := 4, ground := Go.Ground.phase }, { on := 5, ground := Go.Ground.phase }, { on := 6, ground := Go.Ground.phase }, { on := 7, ground := Go.Ground.phase }, { on := 8, ground := Go.Ground.phase }, { on := 9, ground := Go.Ground.phase }, { on := 10, ground := Go.Ground.phase }, { on := 11, ground := Go.Ground.phase }, { on := 12, ground := Go.Ground.phase }, { on := 13, ground := Go.Ground.phase }, { on := 14, ground := Go.Ground.phase }, { on := 15, ground := Go.Ground.phase }, { on := 16, ground := Go.Ground.phase }, { on := 17, ground := Go.Ground.phase }, { on := 18, ground := Go.Ground.phase }, { on := 19, ground := Go.Ground.phase }, { on := 20, ground := Go.Ground.phase }, { on := 21, ground := Go.Ground.phase }, { on := 22, ground := Go.Ground.phase }, { on := 23, ground := Go.Ground.phase }, { on := 24, ground := Go.Ground.phase }, { on := 25, ground := Go.Ground.phase }], guard := none }) (by kernel_rfl) (by kernel_rfl), ?_⟩
  refine Og.s_done (by kernel_rfl) ?_ _
  try simp only [Act.put, List.setIfInBounds_toArray, List.set_cons_zero, List.set_cons_succ]
  have KG := Lib.hid (goOn_any (clearP ⟨n, sent, ⟨o, s, b, a, k, wt, td, q⟩, bs⟩) HIV.out (show (clearP ⟨n, sent, ⟨o, s, b, a, k, wt, td, q⟩, bs⟩).sent.length + 5 * (clearP ⟨n, sent, ⟨o, s, b, a, k, wt, td, q⟩, bs⟩).e.q.length ≤ 3900 from HSL.out) W5 TW5.out.ta)
  go_wp2_with (go_at_call 87; (with_reducible refine KG.out.mono ?_); rintro x W4 ⟨rfl, ht⟩)
  go_end0
  refine ⟨rfl, TT.before B0.out ?_⟩
  rw [← HT.out]
  exact TW5.out.call ht
end
end Hm
end Go.Proofs.Ytfajkgbpeapcbaa
end
