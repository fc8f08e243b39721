import Derived.Test.YtfajkgbpeapcbaaNa19
import Derived.Test.YtfajkgbpeapcbaaNa17
set_option linter.unusedVariables false
set_option linter.unusedSimpArgs false

section
namespace Go.Proofs.Ytfajkgbpeapcbaa
open Go.RowKit
namespace Hm
open Nt
set_option maxRecDepth 100000
section
variable {tp ep mp g : Nat} {S Q : Nat → Prop}
set_option maxHeartbeats 8000000 in
theorem put_any (T : Tg) (m : E) (hm : Ok m) (hby : Im.Byt m.b) (hsl : T.sent.length ≤ 4000) (w : World) (h : Ta w tp ep mp g S Q T) :
    Calls Try.prog 113 #[.pointer (some ⟨tp, 0, none⟩), .agg (cells m).toArray] w fun r w' => r = .returned (.tuple #[]) ∧ TT w w' tp ep mp g S Q (putP T m) := by
  obtain ⟨n, sent, ⟨o, s, b, a, k, wt, td, q⟩, bs⟩ := T
  obtain ⟨sa, sc, qa, qc, h⟩ := h
  obtain ⟨mb, B, hmb, hB, hb0, hr0⟩ := msg_box w m
  have HB := Lib.hid hB; have HMB := Lib.hid hmb; have B0 := Lib.hid hb0; have R0 := Lib.hid hr0
  have OW := Lib.hid (show ∀ j, own tp ep g S Q j → j < mb from fun j hj => by rw [HMB.out]; exact Tw.own_lt h j hj)
  have HME := Lib.hid (show mb ≠ ep from by have := h.lt.2.1; omega)
  have T0 := Lib.hid (Tw.start (h.kp B0.out))
  clear hB hmb hb0 hr0
  obtain ⟨T', hT⟩ : ∃ T', putP ⟨n, sent, ⟨o, s, b, a, k, wt, td, q⟩, bs⟩ m = T' := ⟨_, rfl⟩
  rw [hT]
  have HT := Lib.hid hT
  clear h hT
  have HOK := Lib.hid hm; have HBY := Lib.hid hby
  clear hm hby
  simp only at hsl
  go_enter Try.func113, Try.ntmps113
  go_wp2_with fail
  rw [← HB.out, ← HMB.out]
  obtain ⟨wq, hwq⟩ : ∃ wq, wq = { B with drawn := B.drawn + 1 } := ⟨_, rfl⟩
  have BQ := Lib.hid (show Below B.heap.size B wq by rw [hwq]; exact ⟨rfl, rfl, rfl, Nat.le_refl _, fun _ _ => rfl⟩)
  have HWQ := Lib.hid hwq
  clear hwq
  have TQ := Lib.hid (T0.out.kp BQ.out)
  have RQ := Lib.hid ((BQ.out.block _ (Array.getElem?_eq_some_iff.1 R0.out).1).trans R0.out)
  have HFA := Lib.hid (show (fun x : World => x.cell? ⟨tp, 2, none⟩ = some (.pointer (some ⟨ep, 0, none⟩)) ∧ x.cell? ⟨ep, 0, none⟩ = some (.int .i64 o) ∧ x.cell? ⟨mb, 1, none⟩ = some (.int .i64 m.f)) wq from ⟨TQ.out.tk.t2, TQ.out.tk.e0, (msg_cell RQ.out).2.1⟩)
  refine Og.region_S (S := SL [3, 6, 8] (fun x : World => x.cell? ⟨tp, 2, none⟩ = some (.pointer (some ⟨ep, 0, none⟩)) ∧ x.cell? ⟨ep, 0, none⟩ = some (.int .i64 o) ∧ x.cell? ⟨mb, 1, none⟩ = some (.int .i64 m.f))) (by kernel_rfl) ?_
  rw [← HWQ.out]
  refine Og.s_take 0 { dst := some 4, op := Go.Op.move (Go.Operand.tmp 0), type := 146, pos := "taking.go:93", after := #[], guard := none } (.pointer (some ⟨tp, 0, none⟩)) _ (by kernel_rfl) (by kernel_rfl) (by kernel_rfl) (by kernel_rfl) (by kernel_rfl) (fun _ _ _ h => h) (fun h => absurd h (by decide)) (fun x' hx => ?_) (by simp only [Act.put, List.setIfInBounds_toArray, List.set_cons_zero, List.set_cons_succ]; rfl) ?_
  · go_simp; try (with_reducible rfl)
  refine Og.s_take 1 { dst := some 5, op := Go.Op.nilCheck (Go.Operand.tmp 4), type := 0, pos := "taking.go:93", after := #[{ on := 0, ground := Go.Ground.data }], guard := none } (.pointer (some ⟨tp, 0, none⟩)) _ (by kernel_rfl) (by kernel_rfl) (by kernel_rfl) (by kernel_rfl) (by kernel_rfl) (fun _ _ _ h => h) (fun h => absurd h (by decide)) (fun x' hx => ?_) (by simp only [Act.put, List.setIfInBounds_toArray, List.set_cons_zero, List.set_cons_succ]; rfl) ?_
  · go_simp; try (with_reducible rfl)
  refine Og.s_take 2 { dst := some 6, op := Go.Op.fieldAddr 125 (Go.Operand.tmp 5) 1, type := 0, pos := "taking.go:93", after := #[{ on := 1, ground := Go.Ground.data }], guard := none } (.pointer (some ⟨tp, 2, none⟩)) _ (by kernel_rfl) (by kernel_rfl) (by kernel_rfl) (by kernel_rfl) (by kernel_rfl) (fun _ _ _ h => h) (fun h => absurd h (by decide)) (fun x' hx => ?_) (by simp only [Act.put, List.setIfInBounds_toArray, List.set_cons_zero, List.set_cons_succ]; rfl) ?_
  · go_simp; try (with_reducible rfl)
  refine Og.s_take 3 { dst := some 7, op := Go.Op.load 122 (Go.Operand.tmp 6), type := 122, pos := "taking.go:93", after := #[{ on := 2, ground := Go.Ground.data }], guard := none } (.pointer (some ⟨ep, 0, none⟩)) _ (by kernel_rfl) (by kernel_rfl) (by kernel_rfl) (by kernel_rfl) (by kernel_rfl) (fun _ _ _ h => h) (fun _ => HFA.out) (fun x' hx => ?_) (by simp only [Act.put, List.setIfInBounds_toArray, List.set_cons_zero, List.set_cons_succ]; rfl) ?_
  · have hx1 := (hx (by decide)).1; go_simp; try (with_reducible rfl)
  refine Og.s_take 4 { dst := some 8, op := Go.Op.nilCheck (Go.Operand.tmp 7), type := 0, pos := "taking.go:93", after := #[{ on := 3, ground := Go.Ground.data }], guard := none } (.pointer (some ⟨ep, 0, none⟩)) _ (by kernel_rfl) (by kernel_rfl) (by kernel_rfl) (by kernel_rfl) (by kernel_rfl) (fun _ _ _ h => h) (fun h => absurd h (by decide)) (fun x' hx => ?_) (by simp only [Act.put, List.setIfInBounds_toArray, List.set_cons_zero, List.set_cons_succ]; rfl) ?_
  · go_simp; try (with_reducible rfl)
  refine Og.s_take 5 { dst := some 9, op := Go.Op.fieldAddr 84 (Go.Operand.tmp 8) 0, type := 0, pos := "taking.go:93", after := #[{ on := 4, ground := Go.Ground.data }], guard := none } (.pointer (some ⟨ep, 0, none⟩)) _ (by kernel_rfl) (by kernel_rfl) (by kernel_rfl) (by kernel_rfl) (by kernel_rfl) (fun _ _ _ h => h) (fun h => absurd h (by decide)) (fun x' hx => ?_) (by simp only [Act.put, List.setIfInBounds_toArray, List.set_cons_zero, List.set_cons_succ]; rfl) ?_
  · go_simp; try (with_reducible rfl)
  refine Og.s_take 6 { dst := some 10, op := Go.Op.load 3 (Go.Operand.tmp 9), type := 3, pos := "taking.go:93", after := #[{ on := 5, ground := Go.Ground.data }], guard := none } (.int .i64 o) _ (by kernel_rfl) (by kernel_rfl) (by kernel_rfl) (by kernel_rfl) (by kernel_rfl) (fun _ _ _ h => h) (fun _ => HFA.out) (fun x' hx => ?_) (by simp only [Act.put, List.setIfInBounds_toArray, List.set_cons_zero, List.set_cons_succ]; rfl) ?_
  · have hx1 := (hx (by decide)).2.1; go_simp; try (with_reducible rfl)
  refine Og.s_take 7 { dst := some 11, op := Go.Op.fieldAddr 67 (Go.Operand.tmp 3) 1, type := 0, pos := "taking.go:93", after := #[], guard := none } (.pointer (some ⟨mb, 1, none⟩)) _ (by kernel_rfl) (by kernel_rfl) (by kernel_rfl) (by kernel_rfl) (by kernel_rfl) (fun _ _ _ h => h) (fun h => absurd h (by decide)) (fun x' hx => ?_) (by simp only [Act.put, List.setIfInBounds_toArray, List.set_cons_zero, List.set_cons_succ]; rfl) ?_
  · go_simp; try (with_reducible rfl)
  refine Og.s_take 8 { dst := some 12, op := Go.Op.load 3 (Go.Operand.tmp 11), type := 3, pos := "taking.go:93", after := #[{ on := 7, ground := Go.Ground.data }], guard := none } (.int .i64 m.f) _ (by kernel_rfl) (by kernel_rfl) (by kernel_rfl) (by kernel_rfl) (by kernel_rfl) (fun _ _ _ h => h) (fun _ => HFA.out) (fun x' hx => ?_) (by simp only [Act.put, List.setIfInBounds_toArray, List.set_cons_zero, List.set_cons_succ]; rfl) ?_
  · have hx1 := (hx (by decide)).2.2; go_simp; try (with_reducible rfl)
  refine Og.s_take 9 { dst := some 13, op := Go.Op.binOp Go.BinOp.eql 3 (Go.Operand.tmp 10) (Go.Operand.tmp 12) 3, type := 4, pos := "taking.go:93", after := #[{ on := 6, ground := Go.Ground.data }, { on := 8, ground := Go.Ground.data }], guard := none } (.bool (o == m.f)) _ (by kernel_rfl) (by kernel_rfl) (by kernel_rfl) (by kernel_rfl) (by kernel_rfl) (fun _ _ _ h => h) (fun h => absurd h (by decide)) (fun x' hx => ?_) (by simp only [Act.put, List.setIfInBounds_toArray, List.set_cons_zero, List.set_cons_succ]; rfl) ?_
  · go_simp; try (with_reducible rfl)
  refine Og.s_done (by kernel_rfl) ?_ _
  try simp only [Act.put, List.setIfInBounds_toArray, List.set_cons_zero, List.set_cons_succ]
  have RQ0 := Lib.hid (TQ.out.other R0.out OW.out)
  by_cases heq : o = m.f
  · have HE := Lib.hid (show T' = sendP (noOwn (keepP ⟨n, sent, ⟨o, s, b, a, k, wt, td, q⟩, bs⟩ m)) 7 m.f z16 from by rw [← HT.out]; unfold putP; rw [if_pos heq])
    have hb : (o == m.f) = true := by simp [heq]
    clear heq
    go_wp2_with (first
      | ((with_reducible show wpList _ _ _ (Oper.mk (some 15) _ _ _ _ _ :: _) _ _); refine wpList_load_row rfl 67 (.tmp 3) rfl mb rfl 67 _ (0, 0) _ RQ0.out Try.underlying67 rfl (by rw [HOK.out.size]; exact size_msg) ?_)
      | (go_at_call 107; (with_reducible refine (keep_any _ m HOK.out HBY.out _ TQ.out.ta).mono ?_); rintro r W3 ⟨rfl, ht⟩; refine Stop.out ?_))
    refine ⟨?_⟩
    obtain ⟨S3, Q3, sa3, sc3, qa3, qc3, t3⟩ := TQ.out.call ht
    have T3 := Lib.hid t3
    have c2 := T3.out.tk.t2
    clear ht t3
    go_wp2_with (first
      | ((with_reducible show wpList _ _ _ (Oper.mk none (Op.store _ _ _) _ _ _ _ :: _) _ _); refine wpList_put rfl 3 (.tmp 22) (.const (.int .i64 (-1))) rfl ep 0 (.int .i64 (-1)) rfl rfl 84 _ T3.out.tk.eb (by kernel_rfl) (Nat.le_of_ble_eq_true rfl) (one_int _ _) (ecells (⟨-1, s, b, a, k, wt, td, q⟩) qa3 qc3) rfl ?_))
    have T4 := Lib.hid (T3.out.row ⟨-1, s, b, a, k, wt, td, q⟩ rfl)
    obtain ⟨W4, hW4⟩ : ∃ W4, W4 = W3.setRow ep (ecells ⟨-1, s, b, a, k, wt, td, q⟩ qa3 qc3) := ⟨_, rfl⟩
    rw [← hW4] at T4 ⊢
    clear hW4
    obtain ⟨wq, hwq⟩ : ∃ wq, wq = { W4 with drawn := W4.drawn + 1 } := ⟨_, rfl⟩
    have BQ := Lib.hid (show Below W4.heap.size W4 wq by rw [hwq]; exact ⟨rfl, rfl, rfl, Nat.le_refl _, fun _ _ => rfl⟩)
    have HWQ := Lib.hid hwq
    clear hwq
    have TQ := Lib.hid (T4.out.kp BQ.out)
    have RQ := Lib.hid ((BQ.out.block _ (Array.getElem?_eq_some_iff.1 (T4.out.other R0.out OW.out)).1).trans (T4.out.other R0.out OW.out))
    have HFA := Lib.hid (show (fun x : World => x.cell? ⟨mb, 1, none⟩ = some (.int .i64 m.f)) wq from (msg_cell RQ.out).2.1)
    refine Og.region_S (S := SL [4] (fun x : World => x.cell? ⟨mb, 1, none⟩ = some (.int .i64 m.f))) (by kernel_rfl) ?_
    rw [← HWQ.out]
    refine Og.s_take 0 { dst := some 23, op := Go.Op.move (Go.Operand.tmp 0), type := 146, pos := "taking.go:97", after := #[], guard := none } (.pointer (some ⟨tp, 0, none⟩)) _ (by kernel_rfl) (by kernel_rfl) (by kernel_rfl) (by kernel_rfl) (by kernel_rfl) (fun _ _ _ h => h) (fun h => absurd h (by decide)) (fun x' hx => ?_) (by simp only [Act.put, List.setIfInBounds_toArray, List.set_cons_zero, List.set_cons_succ]; rfl) ?_
    · go_simp; try (with_reducible rfl)
    refine Og.s_take 1 { dst := some 24, op := Go.Op.nilCheck (Go.Operand.tmp 23), type := 0, pos := "taking.go:97", after := #[{ on := 0, ground := Go.Ground.data }], guard := none } (.pointer (some ⟨tp, 0, none⟩)) _ (by kernel_rfl) (by kernel_rfl) (by kernel_rfl) (by kernel_rfl) (by kernel_rfl) (fun _ _ _ h => h) (fun h => absurd h (by decide)) (fun x' hx => ?_) (by simp only [Act.put, List.setIfInBounds_toArray, List.set_cons_zero, List.set_cons_succ]; rfl) ?_
    · go_simp; try (with_reducible rfl)
    refine Og.s_take 2 { dst := some 25, op := Go.Op.fieldAddr 125 (Go.Operand.tmp 24) 0, type := 0, pos := "taking.go:97", after := #[{ on := 1, ground := Go.Ground.data }], guard := none } (.pointer (some ⟨tp, 0, none⟩)) _ (by kernel_rfl) (by kernel_rfl) (by kernel_rfl) (by kernel_rfl) (by kernel_rfl) (fun _ _ _ h => h) (fun h => absurd h (by decide)) (fun x' hx => ?_) (by simp only [Act.put, List.setIfInBounds_toArray, List.set_cons_zero, List.set_cons_succ]; rfl) ?_
    · go_simp; try (with_reducible rfl)
    refine Og.s_take 3 { dst := some 26, op := Go.Op.fieldAddr 67 (Go.Operand.tmp 3) 1, type := 0, pos := "taking.go:97", after := #[], guard := none } (.pointer (some ⟨mb, 1, none⟩)) _ (by kernel_rfl) (by kernel_rfl) (by kernel_rfl) (by kernel_rfl) (by kernel_rfl) (fun _ _ _ h => h) (fun h => absurd h (by decide)) (fun x' hx => ?_) (by simp only [Act.put, List.setIfInBounds_toArray, List.set_cons_zero, List.set_cons_succ]; rfl) ?_
    · go_simp; try (with_reducible rfl)
    refine Og.s_take 4 { dst := some 27, op := Go.Op.load 3 (Go.Operand.tmp 26), type := 3, pos := "taking.go:97", after := #[{ on := 3, ground := Go.Ground.data }], guard := none } (.int .i64 m.f) _ (by kernel_rfl) (by kernel_rfl) (by kernel_rfl) (by kernel_rfl) (by kernel_rfl) (fun _ _ _ h => h) (fun _ => HFA.out) (fun x' hx => ?_) (by simp only [Act.put, List.setIfInBounds_toArray, List.set_cons_zero, List.set_cons_succ]; rfl) ?_
    · have hx1 := (hx (by decide)); go_simp; try (with_reducible rfl)
    refine Og.s_take 5 { dst := some 28, op := Go.Op.build 25 #[], type := 25, pos := "taking.go:97", after := #[], guard := none } (.agg #[.int .u8 0, .int .u8 0, .int .u8 0, .int .u8 0, .int .u8 0, .int .u8 0, .int .u8 0, .int .u8 0, .int .u8 0, .int .u8 0, .int .u8 0, .int .u8 0, .int .u8 0, .int .u8 0, .int .u8 0, .int .u8 0]) _ (by kernel_rfl) (by kernel_rfl) (by kernel_rfl) (by kernel_rfl) (by kernel_rfl) (fun _ _ _ h => h) (fun h => absurd h (by decide)) (fun x' hx => ?_) (by simp only [Act.put, List.setIfInBounds_toArray, List.set_cons_zero, List.set_cons_succ]; rfl) ?_
    · go_simp; try (with_reducible rfl)
    refine Og.s_one 6 { dst := some 29, op := Go.Op.call { callee := Go.Callee.value (Go.Operand.func 116), args := #[Go.Operand.tmp 25, Go.Operand.const (Go.Value.int Go.IntKind.i64 7), Go.Operand.tmp 27, Go.Operand.tmp 28], argTypes := #[121, 65, 3, 25] }, type := 0, pos := "taking.go:97", after := #[{ on := 2, ground := Go.Ground.data }, { on := 4, ground := Go.Ground.data }, { on := 5, ground := Go.Ground.data }], guard := none } (by kernel_rfl) (by kernel_rfl) (by kernel_rfl) ?_
    refine Og.call_to (w1 := wq) (f := 116) (args := #[.pointer (some ⟨tp, 0, none⟩), .int .i64 7, .int .i64 m.f, .agg #[.int .u8 0, .int .u8 0, .int .u8 0, .int .u8 0, .int .u8 0, .int .u8 0, .int .u8 0, .int .u8 0, .int .u8 0, .int .u8 0, .int .u8 0, .int .u8 0, .int .u8 0, .int .u8 0, .int .u8 0, .int .u8 0]]) (by go_simp) ?_
    refine (send0_any _ 7 m.f (by unfold Ev.i64B; decide) HOK.out.f hsl wq TQ.out.ta).mono ?_
    rintro r W5 ⟨rfl, ht⟩
    refine ⟨_, rfl, keep_end (o := { dst := some 29, op := Go.Op.call { callee := Go.Callee.value (Go.Operand.func 116), args := #[Go.Operand.tmp 25, Go.Operand.const (Go.Value.int Go.IntKind.i64 7), Go.Operand.tmp 27, Go.Operand.tmp 28], argTypes := #[121, 65, 3, 25] }, type := 0, pos := "taking.go:97", after := #[{ on := 2, ground := Go.Ground.data }, { on := 4, ground := Go.Ground.data }, { on := 5, ground := Go.Ground.data }], guard := none }) (by kernel_rfl) (by kernel_rfl), ?_⟩
    refine Og.s_done (by kernel_rfl) ?_ _
    try simp only [Act.put, List.setIfInBounds_toArray, List.set_cons_zero, List.set_cons_succ]
    go_wp2_with fail
    go_end0
    refine ⟨rfl, TT.before B0.out ?_⟩
    rw [HE.out]
    exact TQ.out.call ht
  · have HE := Lib.hid (show T' = sendP ⟨n, sent, ⟨o, s, b, a, k, wt, td, q⟩, bs⟩ 7 m.f z16 from by rw [← HT.out]; unfold putP; rw [if_neg heq])
    have hb : (o == m.f) = false := by simp [heq]
    clear heq
    go_wp2_with fail
    obtain ⟨wp, hwp⟩ : ∃ wp, wp = wq := ⟨_, rfl⟩
    have TP := Lib.hid (show Tw B wp _ _ _ _ _ _ _ _ _ _ _ _ _ from by rw [hwp]; exact TQ.out)
    rw [← hwp]
    clear hwp HWQ BQ
    obtain ⟨wq, hwq⟩ : ∃ wq, wq = { wp with drawn := wp.drawn + 1 } := ⟨_, rfl⟩
    have BQ := Lib.hid (show Below wp.heap.size wp wq by rw [hwq]; exact ⟨rfl, rfl, rfl, Nat.le_refl _, fun _ _ => rfl⟩)
    have HWQ := Lib.hid hwq
    clear hwq
    have TQ := Lib.hid (TP.out.kp BQ.out)
    have RQ := Lib.hid ((BQ.out.block _ (Array.getElem?_eq_some_iff.1 (TP.out.other R0.out OW.out)).1).trans (TP.out.other R0.out OW.out))
    have HFA := Lib.hid (show (fun x : World => x.cell? ⟨mb, 1, none⟩ = some (.int .i64 m.f)) wq from (msg_cell RQ.out).2.1)
    refine Og.region_S (S := SL [4] (fun x : World => x.cell? ⟨mb, 1, none⟩ = some (.int .i64 m.f))) (by kernel_rfl) ?_
    rw [← HWQ.out]
    refine Og.s_take 0 { dst := some 23, op := Go.Op.move (Go.Operand.tmp 0), type := 146, pos := "taking.go:97", after := #[], guard := none } (.pointer (some ⟨tp, 0, none⟩)) _ (by kernel_rfl) (by kernel_rfl) (by kernel_rfl) (by kernel_rfl) (by kernel_rfl) (fun _ _ _ h => h) (fun h => absurd h (by decide)) (fun x' hx => ?_) (by simp only [Act.put, List.setIfInBounds_toArray, List.set_cons_zero, List.set_cons_succ]; rfl) ?_
    · go_simp; try (with_reducible rfl)
    refine Og.s_take 1 { dst := some 24, op := Go.Op.nilCheck (Go.Operand.tmp 23), type := 0, pos := "taking.go:97", after := #[{ on := 0, ground := Go.Ground.data }], guard := none } (.pointer (some ⟨tp, 0, none⟩)) _ (by kernel_rfl) (by kernel_rfl) (by kernel_rfl) (by kernel_rfl) (by kernel_rfl) (fun _ _ _ h => h) (fun h => absurd h (by decide)) (fun x' hx => ?_) (by simp only [Act.put, List.setIfInBounds_toArray, List.set_cons_zero, List.set_cons_succ]; rfl) ?_
    · go_simp; try (with_reducible rfl)
    refine Og.s_take 2 { dst := some 25, op := Go.Op.fieldAddr 125 (Go.Operand.tmp 24) 0, type := 0, pos := "taking.go:97", after := #[{ on := 1, ground := Go.Ground.data }], guard := none } (.pointer (some ⟨tp, 0, none⟩)) _ (by kernel_rfl) (by kernel_rfl) (by kernel_rfl) (by kernel_rfl) (by kernel_rfl) (fun _ _ _ h => h) (fun h => absurd h (by decide)) (fun x' hx => ?_) (by simp only [Act.put, List.setIfInBounds_toArray, List.set_cons_zero, List.set_cons_succ]; rfl) ?_
    · go_simp; try (with_reducible rfl)
    refine Og.s_take 3 { dst := some 26, op := Go.Op.fieldAddr 67 (Go.Operand.tmp 3) 1, type := 0, pos := "taking.go:97", after := #[], guard := none } (.pointer (some ⟨mb, 1, none⟩)) _ (by kernel_rfl) (by kernel_rfl) (by kernel_rfl) (by kernel_rfl) (by kernel_rfl) (fun _ _ _ h => h) (fun h => absurd h (by decide)) (fun x' hx => ?_) (by simp only [Act.put, List.setIfInBounds_toArray, List.set_cons_zero, List.set_cons_succ]; rfl) ?_
    · go_simp; try (with_reducible rfl)
    refine Og.s_take 4 { dst := some 27, op := Go.Op.load 3 (Go.Operand.tmp 26), type := 3, pos := "taking.go:97", after := #[{ on := 3, ground := Go.Ground.data }], guard := none } (.int .i64 m.f) _ (by kernel_rfl) (by kernel_rfl) (by kernel_rfl) (by kernel_rfl) (by kernel_rfl) (fun _ _ _ h => h) (fun _ => HFA.out) (fun x' hx => ?_) (by simp only [Act.put, List.setIfInBounds_toArray, List.set_cons_zero, List.set_cons_succ]; rfl) ?_
    · have hx1 := (hx (by decide)); go_simp; try (with_reducible rfl)
    refine Og.s_take 5 { dst := some 28, op := Go.Op.build 25 #[], type := 25, pos := "taking.go:97", after := #[], guard := none } (.agg #[.int .u8 0, .int .u8 0, .int .u8 0, .int .u8 0, .int .u8 0, .int .u8 0, .int .u8 0, .int .u8 0, .int .u8 0, .int .u8 0, .int .u8 0, .int .u8 0, .int .u8 0, .int .u8 0, .int .u8 0, .int .u8 0]) _ (by kernel_rfl) (by kernel_rfl) (by kernel_rfl) (by kernel_rfl) (by kernel_rfl) (fun _ _ _ h => h) (fun h => absurd h (by decide)) (fun x' hx => ?_) (by simp only [Act.put, List.setIfInBounds_toArray, List.set_cons_zero, List.set_cons_succ]; rfl) ?_
    · go_simp; try (with_reducible rfl)
    refine Og.s_one 6 { dst := some 29, op := Go.Op.call { callee := Go.Callee.value (Go.Operand.func 116), args := #[Go.Operand.tmp 25, Go.Operand.const (Go.Value.int Go.IntKind.i64 7), Go.Operand.tmp 27, Go.Operand.tmp 28], argTypes := #[121, 65, 3, 25] }, type := 0, pos := "taking.go:97", after := #[{ on := 2, ground := Go.Ground.data }, { on := 4, ground := Go.Ground.data }, { on := 5, ground := Go.Ground.data }], guard := none } (by kernel_rfl) (by kernel_rfl) (by kernel_rfl) ?_
    refine Og.call_to (w1 := wq) (f := 116) (args := #[.pointer (some ⟨tp, 0, none⟩), .int .i64 7, .int .i64 m.f, .agg #[.int .u8 0, .int .u8 0, .int .u8 0, .int .u8 0, .int .u8 0, .int .u8 0, .int .u8 0, .int .u8 0, .int .u8 0, .int .u8 0, .int .u8 0, .int .u8 0, .int .u8 0, .int .u8 0, .int .u8 0, .int .u8 0]]) (by go_simp) ?_
    refine (send0_any _ 7 m.f (by unfold Ev.i64B; decide) HOK.out.f hsl wq TQ.out.ta).mono ?_
    rintro r W5 ⟨rfl, ht⟩
    refine ⟨_, rfl, keep_end (o := { dst := some 29, op := Go.Op.call { callee := Go.Callee.value (Go.Operand.func 116), args := #[Go.Operand.tmp 25, Go.Operand.const (Go.Value.int Go.IntKind.i64 7), Go.Operand.tmp 27, Go.Operand.tmp 28], argTypes := #[121, 65, 3, 25] }, type := 0, pos := "taking.go:97", after := #[{ on := 2, ground := Go.Ground.data }, { on := 4, ground := Go.Ground.data }, { on := 5, ground := Go.Ground.data }], guard := none }) (by kernel_rfl) (by kernel_rfl), ?_⟩
    refine Og.s_done (by kernel_rfl) ?_ _
    try simp only [Act.put, List.setIfInBounds_toArray, List.set_cons_zero, List.set_cons_succ]
    go_wp2_with fail
    go_end0
    refine ⟨rfl, TT.before B0.out ?_⟩
    rw [HE.out]
    exact TQ.out.call ht
end
end Hm
end Go.Proofs.Ytfajkgbpeapcbaa
end
