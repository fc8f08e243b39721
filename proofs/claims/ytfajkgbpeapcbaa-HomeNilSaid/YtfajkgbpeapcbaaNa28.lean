import Derived.Test.YtfajkgbpeapcbaaNa24
import Derived.Test.YtfajkgbpeapcbaaNa18
import Derived.Test.YtfajkgbpeapcbaaNa13
set_option linter.unusedVariables false
set_option linter.unusedSimpArgs false

section
namespace Go.Proofs.Ytfajkgbpeapcbaa
open Go.RowKit
namespace Hm
open Nt
set_option maxRecDepth 100000
section
variable {tp ep mp g : Nat} {S Q : Nat → Prop}
theorem sh_cell {w : World} {ep : Nat} {o : Int} {s : Nat → Bool} {b : Bool} {a k wt : Int} {td : Bool} {q : List E} {qa : Option Addr} {qc : Nat} (h : w.heap[ep]? = some (.cells (ecells ⟨o, s, b, a, k, wt, td, q⟩ qa qc) 84 (0, 0))) {r : Nat} (hr : r < 4) : w.cell? ⟨ep, 1 + r, none⟩ = some (.bool (s r)) := by
  rw [cell_of_row _ _ _ _ _ _ h]
  match r, hr with
  | 0, _ => rfl
  | 1, _ => rfl
  | 2, _ => rfl
  | 3, _ => rfl
set_option maxHeartbeats 8000000 in
theorem ack_any (T : Tg) (m : E) (hm : Ok m) (hf1 : 0 ≤ m.f) (hf2 : m.f ≤ 3) (ha1 : 0 ≤ T.e.a) (ha2 : T.e.a ≤ 3) (hw2 : T.e.wt ≤ 10) (hsl : T.sent.length ≤ 3990) (hok : ackOk T m = true) (w : World) (h : Ta w tp ep mp g S Q T) :
    Calls Try.prog 98 #[.pointer (some ⟨tp, 0, none⟩), .agg (cells m).toArray] w fun r w' => r = .returned (.tuple #[]) ∧ TT w w' tp ep mp g S Q (ackP T m) := by
  obtain ⟨n, sent, ⟨o, s, b, a, k, wt, td, q⟩, bs⟩ := T
  obtain ⟨sa, sc, qa, qc, h⟩ := h
  obtain ⟨mb, B, hmb, hB, hb0, hr0⟩ := msg_box w m
  have HB := Lib.hid hB; have HMB := Lib.hid hmb; have B0 := Lib.hid hb0; have R0 := Lib.hid hr0
  have OW := Lib.hid (show ∀ j, own tp ep g S Q j → j < mb from fun j hj => by rw [HMB.out]; exact Tw.own_lt h j hj)
  have HME := Lib.hid (show mb ≠ ep from by have := h.lt.2.1; omega)
  have T0 := Lib.hid (Tw.start (h.kp B0.out))
  clear hB hmb hb0 hr0
  obtain ⟨T', hT⟩ : ∃ T', ackP ⟨n, sent, ⟨o, s, b, a, k, wt, td, q⟩, bs⟩ m = T' := ⟨_, rfl⟩
  rw [hT]
  have HT := Lib.hid hT
  clear h hT
  have HOK := Lib.hid hm
  clear hm
  simp only at hsl ha1 ha2 hw2
  obtain ⟨r, hr⟩ : ∃ r : Nat, m.f = (r : Int) := ⟨m.f.toNat, by omega⟩
  have HRF := Lib.hid hr
  have HR4 := Lib.hid (show r < 4 by omega)
  have HTN := Lib.hid (show m.f.toNat = r by rw [hr]; rfl)
  unfold ackOk at hok
  simp only [HTN.out] at hok
  obtain ⟨⟨⟨hw, ho⟩, hs⟩, han⟩ : ((0 < wt ∧ o = -1) ∧ s r = true) ∧ ¬ a = m.f := by simpa using hok
  have HSV := Lib.hid hs
  have hob : (o == -1) = true := by simp [ho]
  have hab : (a != (r : Int)) = true := by rw [← hr]; simp [han]
  have HSL := Lib.hid (show sent.length ≤ 4000 by omega)
  have HAB := Lib.hid (show Ev.i64B a by unfold Ev.i64B; omega)
  clear ho hr hok hf1 hf2 ha1 ha2 hsl hs han
  go_enter Try.func98, Try.ntmps98
  go_wp2_with fail
  rw [← HB.out, ← HMB.out]
  obtain ⟨wq, hwq⟩ : ∃ wq, wq = { B with drawn := B.drawn + 1 } := ⟨_, rfl⟩
  have BQ := Lib.hid (show Below B.heap.size B wq by rw [hwq]; exact ⟨rfl, rfl, rfl, Nat.le_refl _, fun _ _ => rfl⟩)
  have HWQ := Lib.hid hwq
  clear hwq
  have TQ := Lib.hid (T0.out.kp BQ.out)
  have RQ := Lib.hid ((BQ.out.block _ (Array.getElem?_eq_some_iff.1 R0.out).1).trans R0.out)
  have HFA := Lib.hid (show (fun x : World => x.cell? ⟨tp, 2, none⟩ = some (.pointer (some ⟨ep, 0, none⟩)) ∧ x.cell? ⟨ep, 8, none⟩ = some (.int .i64 wt) ∧ x.cell? ⟨ep, 0, none⟩ = some (.int .i64 o) ∧ x.cell? ⟨mb, 1, none⟩ = some (.int .i64 (r : Int)) ∧ x.cell? ⟨ep, 1 + r, none⟩ = some (.bool true) ∧ x.cell? ⟨ep, 6, none⟩ = some (.int .i64 a)) wq from ⟨TQ.out.tk.t2, TQ.out.tk.e8, TQ.out.tk.e0, (show _ = some (Value.int .i64 (r : Int)) from HRF.out ▸ (msg_cell RQ.out).2.1), (show _ = some (Value.bool true) from HSV.out ▸ sh_cell TQ.out.tk.eb HR4.out), TQ.out.tk.e6⟩)
  refine Og.region_S (S := SL [3, 6, 12, 15, 22, 24, 28, 34, 37, 39] (fun x : World => x.cell? ⟨tp, 2, none⟩ = some (.pointer (some ⟨ep, 0, none⟩)) ∧ x.cell? ⟨ep, 8, none⟩ = some (.int .i64 wt) ∧ x.cell? ⟨ep, 0, none⟩ = some (.int .i64 o) ∧ x.cell? ⟨mb, 1, none⟩ = some (.int .i64 (r : Int)) ∧ x.cell? ⟨ep, 1 + r, none⟩ = some (.bool true) ∧ x.cell? ⟨ep, 6, none⟩ = some (.int .i64 a))) (by kernel_rfl) ?_
  rw [← HWQ.out]
  refine Og.s_take 0 { dst := some 4, op := Go.Op.move (Go.Operand.tmp 0), type := 146, pos := "taking.go:115", after := #[], guard := none } (.pointer (some ⟨tp, 0, none⟩)) _ (by kernel_rfl) (by kernel_rfl) (by kernel_rfl) (by kernel_rfl) (by kernel_rfl) (fun _ _ _ h => h) (fun h => absurd h (by decide)) (fun x' hx => ?_) (by simp only [Act.put, List.setIfInBounds_toArray, List.set_cons_zero, List.set_cons_succ]; rfl) ?_
  · go_simp; try (with_reducible rfl)
  refine Og.s_take 1 { dst := some 5, op := Go.Op.nilCheck (Go.Operand.tmp 4), type := 0, pos := "taking.go:115", after := #[{ on := 0, ground := Go.Ground.data }], guard := none } (.pointer (some ⟨tp, 0, none⟩)) _ (by kernel_rfl) (by kernel_rfl) (by kernel_rfl) (by kernel_rfl) (by kernel_rfl) (fun _ _ _ h => h) (fun h => absurd h (by decide)) (fun x' hx => ?_) (by simp only [Act.put, List.setIfInBounds_toArray, List.set_cons_zero, List.set_cons_succ]; rfl) ?_
  · go_simp; try (with_reducible rfl)
  refine Og.s_take 2 { dst := some 6, op := Go.Op.fieldAddr 125 (Go.Operand.tmp 5) 1, type := 0, pos := "taking.go:115", after := #[{ on := 1, ground := Go.Ground.data }], guard := none } (.pointer (some ⟨tp, 2, none⟩)) _ (by kernel_rfl) (by kernel_rfl) (by kernel_rfl) (by kernel_rfl) (by kernel_rfl) (fun _ _ _ h => h) (fun h => absurd h (by decide)) (fun x' hx => ?_) (by simp only [Act.put, List.setIfInBounds_toArray, List.set_cons_zero, List.set_cons_succ]; rfl) ?_
  · go_simp; try (with_reducible rfl)
  refine Og.s_take 3 { dst := some 7, op := Go.Op.load 122 (Go.Operand.tmp 6), type := 122, pos := "taking.go:115", after := #[{ on := 2, ground := Go.Ground.data }], guard := none } (.pointer (some ⟨ep, 0, none⟩)) _ (by kernel_rfl) (by kernel_rfl) (by kernel_rfl) (by kernel_rfl) (by kernel_rfl) (fun _ _ _ h => h) (fun _ => HFA.out) (fun x' hx => ?_) (by simp only [Act.put, List.setIfInBounds_toArray, List.set_cons_zero, List.set_cons_succ]; rfl) ?_
  · have hx1 := (hx (by decide)).1; go_simp; try (with_reducible rfl)
  refine Og.s_take 4 { dst := some 8, op := Go.Op.nilCheck (Go.Operand.tmp 7), type := 0, pos := "taking.go:115", after := #[{ on := 3, ground := Go.Ground.data }], guard := none } (.pointer (some ⟨ep, 0, none⟩)) _ (by kernel_rfl) (by kernel_rfl) (by kernel_rfl) (by kernel_rfl) (by kernel_rfl) (fun _ _ _ h => h) (fun h => absurd h (by decide)) (fun x' hx => ?_) (by simp only [Act.put, List.setIfInBounds_toArray, List.set_cons_zero, List.set_cons_succ]; rfl) ?_
  · go_simp; try (with_reducible rfl)
  refine Og.s_take 5 { dst := some 9, op := Go.Op.fieldAddr 84 (Go.Operand.tmp 8) 5, type := 0, pos := "taking.go:115", after := #[{ on := 4, ground := Go.Ground.data }], guard := none } (.pointer (some ⟨ep, 8, none⟩)) _ (by kernel_rfl) (by kernel_rfl) (by kernel_rfl) (by kernel_rfl) (by kernel_rfl) (fun _ _ _ h => h) (fun h => absurd h (by decide)) (fun x' hx => ?_) (by simp only [Act.put, List.setIfInBounds_toArray, List.set_cons_zero, List.set_cons_succ]; rfl) ?_
  · go_simp; try (with_reducible rfl)
  refine Og.s_take 6 { dst := some 10, op := Go.Op.load 3 (Go.Operand.tmp 9), type := 3, pos := "taking.go:115", after := #[{ on := 5, ground := Go.Ground.data }], guard := none } (.int .i64 wt) _ (by kernel_rfl) (by kernel_rfl) (by kernel_rfl) (by kernel_rfl) (by kernel_rfl) (fun _ _ _ h => h) (fun _ => HFA.out) (fun x' hx => ?_) (by simp only [Act.put, List.setIfInBounds_toArray, List.set_cons_zero, List.set_cons_succ]; rfl) ?_
  · have hx1 := (hx (by decide)).2.1; go_simp; try (with_reducible rfl)
  refine Og.s_take 7 { dst := some 11, op := Go.Op.binOp Go.BinOp.gtr 3 (Go.Operand.tmp 10) (Go.Operand.const (Go.Value.int Go.IntKind.i64 0)) 3, type := 4, pos := "taking.go:115", after := #[{ on := 6, ground := Go.Ground.data }], guard := none } (.bool true) _ (by kernel_rfl) (by kernel_rfl) (by kernel_rfl) (by kernel_rfl) (by kernel_rfl) (fun _ _ _ h => h) (fun h => absurd h (by decide)) (fun x' hx => ?_) (by simp only [Act.put, List.setIfInBounds_toArray, List.set_cons_zero, List.set_cons_succ]; rfl) ?_
  · go_simp; try (with_reducible rfl)
  refine Og.s_take 8 { dst := some 12, op := Go.Op.move (Go.Operand.tmp 11), type := 4, pos := "taking.go:115", after := #[{ on := 7, ground := Go.Ground.data }], guard := none } (.bool true) _ (by kernel_rfl) (by kernel_rfl) (by kernel_rfl) (by kernel_rfl) (by kernel_rfl) (fun _ _ _ h => h) (fun h => absurd h (by decide)) (fun x' hx => ?_) (by simp only [Act.put, List.setIfInBounds_toArray, List.set_cons_zero, List.set_cons_succ]; rfl) ?_
  · go_simp; try (with_reducible rfl)
  refine s_take_g 9 { dst := some 13, op := Go.Op.move (Go.Operand.tmp 0), type := 146, pos := "taking.go:115", after := #[{ on := 8, ground := Go.Ground.guard }], guard := some (8, true) } (.pointer (some ⟨tp, 0, none⟩)) _ (by kernel_rfl) (by kernel_rfl) (by kernel_rfl) (by kernel_rfl) (by kernel_rfl) (fun _ _ _ h => h) (fun h => absurd h (by decide)) (fun x' hx => ?_) (by simp only [Act.put, List.setIfInBounds_toArray, List.set_cons_zero, List.set_cons_succ]; rfl) ?_
  · go_simp; try (with_reducible rfl)
  refine s_take_g 10 { dst := some 14, op := Go.Op.nilCheck (Go.Operand.tmp 13), type := 0, pos := "taking.go:115", after := #[{ on := 9, ground := Go.Ground.data }, { on := 8, ground := Go.Ground.guard }], guard := some (8, true) } (.pointer (some ⟨tp, 0, none⟩)) _ (by kernel_rfl) (by kernel_rfl) (by kernel_rfl) (by kernel_rfl) (by kernel_rfl) (fun _ _ _ h => h) (fun h => absurd h (by decide)) (fun x' hx => ?_) (by simp only [Act.put, List.setIfInBounds_toArray, List.set_cons_zero, List.set_cons_succ]; rfl) ?_
  · go_simp; try (with_reducible rfl)
  refine s_take_g 11 { dst := some 15, op := Go.Op.fieldAddr 125 (Go.Operand.tmp 14) 1, type := 0, pos := "taking.go:115", after := #[{ on := 10, ground := Go.Ground.data }, { on := 8, ground := Go.Ground.guard }], guard := some (8, true) } (.pointer (some ⟨tp, 2, none⟩)) _ (by kernel_rfl) (by kernel_rfl) (by kernel_rfl) (by kernel_rfl) (by kernel_rfl) (fun _ _ _ h => h) (fun h => absurd h (by decide)) (fun x' hx => ?_) (by simp only [Act.put, List.setIfInBounds_toArray, List.set_cons_zero, List.set_cons_succ]; rfl) ?_
  · go_simp; try (with_reducible rfl)
  refine s_take_g 12 { dst := some 16, op := Go.Op.load 122 (Go.Operand.tmp 15), type := 122, pos := "taking.go:115", after := #[{ on := 11, ground := Go.Ground.data }, { on := 8, ground := Go.Ground.guard }], guard := some (8, true) } (.pointer (some ⟨ep, 0, none⟩)) _ (by kernel_rfl) (by kernel_rfl) (by kernel_rfl) (by kernel_rfl) (by kernel_rfl) (fun _ _ _ h => h) (fun _ => HFA.out) (fun x' hx => ?_) (by simp only [Act.put, List.setIfInBounds_toArray, List.set_cons_zero, List.set_cons_succ]; rfl) ?_
  · have hx1 := (hx (by decide)).1; go_simp; try (with_reducible rfl)
  refine s_take_g 13 { dst := some 17, op := Go.Op.nilCheck (Go.Operand.tmp 16), type := 0, pos := "taking.go:115", after := #[{ on := 12, ground := Go.Ground.data }, { on := 8, ground := Go.Ground.guard }], guard := some (8, true) } (.pointer (some ⟨ep, 0, none⟩)) _ (by kernel_rfl) (by kernel_rfl) (by kernel_rfl) (by kernel_rfl) (by kernel_rfl) (fun _ _ _ h => h) (fun h => absurd h (by decide)) (fun x' hx => ?_) (by simp only [Act.put, List.setIfInBounds_toArray, List.set_cons_zero, List.set_cons_succ]; rfl) ?_
  · go_simp; try (with_reducible rfl)
  refine s_take_g 14 { dst := some 18, op := Go.Op.fieldAddr 84 (Go.Operand.tmp 17) 0, type := 0, pos := "taking.go:115", after := #[{ on := 13, ground := Go.Ground.data }, { on := 8, ground := Go.Ground.guard }], guard := some (8, true) } (.pointer (some ⟨ep, 0, none⟩)) _ (by kernel_rfl) (by kernel_rfl) (by kernel_rfl) (by kernel_rfl) (by kernel_rfl) (fun _ _ _ h => h) (fun h => absurd h (by decide)) (fun x' hx => ?_) (by simp only [Act.put, List.setIfInBounds_toArray, List.set_cons_zero, List.set_cons_succ]; rfl) ?_
  · go_simp; try (with_reducible rfl)
  refine s_take_g 15 { dst := some 19, op := Go.Op.load 3 (Go.Operand.tmp 18), type := 3, pos := "taking.go:115", after := #[{ on := 14, ground := Go.Ground.data }, { on := 8, ground := Go.Ground.guard }], guard := some (8, true) } (.int .i64 o) _ (by kernel_rfl) (by kernel_rfl) (by kernel_rfl) (by kernel_rfl) (by kernel_rfl) (fun _ _ _ h => h) (fun _ => HFA.out) (fun x' hx => ?_) (by simp only [Act.put, List.setIfInBounds_toArray, List.set_cons_zero, List.set_cons_succ]; rfl) ?_
  · have hx1 := (hx (by decide)).2.2.1; go_simp; try (with_reducible rfl)
  refine s_take_g 16 { dst := some 20, op := Go.Op.binOp Go.BinOp.eql 3 (Go.Operand.tmp 19) (Go.Operand.const (Go.Value.int Go.IntKind.i64 (-1))) 3, type := 4, pos := "taking.go:115", after := #[{ on := 15, ground := Go.Ground.data }, { on := 8, ground := Go.Ground.guard }], guard := some (8, true) } (.bool true) _ (by kernel_rfl) (by kernel_rfl) (by kernel_rfl) (by kernel_rfl) (by kernel_rfl) (fun _ _ _ h => h) (fun h => absurd h (by decide)) (fun x' hx => ?_) (by simp only [Act.put, List.setIfInBounds_toArray, List.set_cons_zero, List.set_cons_succ]; rfl) ?_
  · go_simp; try (with_reducible rfl)
  refine Og.s_take 17 { dst := some 21, op := Go.Op.pick (Go.Operand.tmp 12) (Go.Operand.tmp 20) (Go.Operand.const (Go.Value.bool false)), type := 4, pos := "taking.go:115", after := #[{ on := 8, ground := Go.Ground.data }, { on := 16, ground := Go.Ground.data }], guard := none } (.bool true) _ (by kernel_rfl) (by kernel_rfl) (by kernel_rfl) (by kernel_rfl) (by kernel_rfl) (fun _ _ _ h => h) (fun h => absurd h (by decide)) (fun x' hx => ?_) (by simp only [Act.put, List.setIfInBounds_toArray, List.set_cons_zero, List.set_cons_succ]; rfl) ?_
  · go_simp; try (with_reducible rfl)
  refine Og.s_take 18 { dst := some 22, op := Go.Op.move (Go.Operand.tmp 21), type := 4, pos := "taking.go:115", after := #[{ on := 17, ground := Go.Ground.data }, { on := 8, ground := Go.Ground.chain }], guard := none } (.bool true) _ (by kernel_rfl) (by kernel_rfl) (by kernel_rfl) (by kernel_rfl) (by kernel_rfl) (fun _ _ _ h => h) (fun h => absurd h (by decide)) (fun x' hx => ?_) (by simp only [Act.put, List.setIfInBounds_toArray, List.set_cons_zero, List.set_cons_succ]; rfl) ?_
  · go_simp; try (with_reducible rfl)
  refine s_take_g 19 { dst := some 23, op := Go.Op.move (Go.Operand.tmp 0), type := 146, pos := "taking.go:115", after := #[{ on := 18, ground := Go.Ground.guard }], guard := some (18, true) } (.pointer (some ⟨tp, 0, none⟩)) _ (by kernel_rfl) (by kernel_rfl) (by kernel_rfl) (by kernel_rfl) (by kernel_rfl) (fun _ _ _ h => h) (fun h => absurd h (by decide)) (fun x' hx => ?_) (by simp only [Act.put, List.setIfInBounds_toArray, List.set_cons_zero, List.set_cons_succ]; rfl) ?_
  · go_simp; try (with_reducible rfl)
  refine s_take_g 20 { dst := some 24, op := Go.Op.nilCheck (Go.Operand.tmp 23), type := 0, pos := "taking.go:115", after := #[{ on := 19, ground := Go.Ground.data }, { on := 18, ground := Go.Ground.guard }], guard := some (18, true) } (.pointer (some ⟨tp, 0, none⟩)) _ (by kernel_rfl) (by kernel_rfl) (by kernel_rfl) (by kernel_rfl) (by kernel_rfl) (fun _ _ _ h => h) (fun h => absurd h (by decide)) (fun x' hx => ?_) (by simp only [Act.put, List.setIfInBounds_toArray, List.set_cons_zero, List.set_cons_succ]; rfl) ?_
  · go_simp; try (with_reducible rfl)
  refine s_take_g 21 { dst := some 25, op := Go.Op.fieldAddr 125 (Go.Operand.tmp 24) 1, type := 0, pos := "taking.go:115", after := #[{ on := 20, ground := Go.Ground.data }, { on := 18, ground := Go.Ground.guard }], guard := some (18, true) } (.pointer (some ⟨tp, 2, none⟩)) _ (by kernel_rfl) (by kernel_rfl) (by kernel_rfl) (by kernel_rfl) (by kernel_rfl) (fun _ _ _ h => h) (fun h => absurd h (by decide)) (fun x' hx => ?_) (by simp only [Act.put, List.setIfInBounds_toArray, List.set_cons_zero, List.set_cons_succ]; rfl) ?_
  · go_simp; try (with_reducible rfl)
  refine s_take_g 22 { dst := some 26, op := Go.Op.load 122 (Go.Operand.tmp 25), type := 122, pos := "taking.go:115", after := #[{ on := 21, ground := Go.Ground.data }, { on := 18, ground := Go.Ground.guard }], guard := some (18, true) } (.pointer (some ⟨ep, 0, none⟩)) _ (by kernel_rfl) (by kernel_rfl) (by kernel_rfl) (by kernel_rfl) (by kernel_rfl) (fun _ _ _ h => h) (fun _ => HFA.out) (fun x' hx => ?_) (by simp only [Act.put, List.setIfInBounds_toArray, List.set_cons_zero, List.set_cons_succ]; rfl) ?_
  · have hx1 := (hx (by decide)).1; go_simp; try (with_reducible rfl)
  refine s_take_g 23 { dst := some 27, op := Go.Op.fieldAddr 67 (Go.Operand.tmp 3) 1, type := 0, pos := "taking.go:115", after := #[{ on := 18, ground := Go.Ground.guard }], guard := some (18, true) } (.pointer (some ⟨mb, 1, none⟩)) _ (by kernel_rfl) (by kernel_rfl) (by kernel_rfl) (by kernel_rfl) (by kernel_rfl) (fun _ _ _ h => h) (fun h => absurd h (by decide)) (fun x' hx => ?_) (by simp only [Act.put, List.setIfInBounds_toArray, List.set_cons_zero, List.set_cons_succ]; rfl) ?_
  · go_simp; try (with_reducible rfl)
  refine s_take_g 24 { dst := some 28, op := Go.Op.load 3 (Go.Operand.tmp 27), type := 3, pos := "taking.go:115", after := #[{ on := 23, ground := Go.Ground.data }, { on := 18, ground := Go.Ground.guard }], guard := some (18, true) } (.int .i64 (r : Int)) _ (by kernel_rfl) (by kernel_rfl) (by kernel_rfl) (by kernel_rfl) (by kernel_rfl) (fun _ _ _ h => h) (fun _ => HFA.out) (fun x' hx => ?_) (by simp only [Act.put, List.setIfInBounds_toArray, List.set_cons_zero, List.set_cons_succ]; rfl) ?_
  · have hx1 := (hx (by decide)).2.2.2.1; go_simp; try (with_reducible rfl)
  refine s_take_g 25 { dst := some 29, op := Go.Op.nilCheck (Go.Operand.tmp 26), type := 0, pos := "taking.go:115", after := #[{ on := 22, ground := Go.Ground.data }, { on := 18, ground := Go.Ground.guard }], guard := some (18, true) } (.pointer (some ⟨ep, 0, none⟩)) _ (by kernel_rfl) (by kernel_rfl) (by kernel_rfl) (by kernel_rfl) (by kernel_rfl) (fun _ _ _ h => h) (fun h => absurd h (by decide)) (fun x' hx => ?_) (by simp only [Act.put, List.setIfInBounds_toArray, List.set_cons_zero, List.set_cons_succ]; rfl) ?_
  · go_simp; try (with_reducible rfl)
  refine s_take_g 26 { dst := some 30, op := Go.Op.fieldAddr 84 (Go.Operand.tmp 29) 1, type := 0, pos := "taking.go:115", after := #[{ on := 25, ground := Go.Ground.data }, { on := 18, ground := Go.Ground.guard }], guard := some (18, true) } (.pointer (some ⟨ep, 1, none⟩)) _ (by kernel_rfl) (by kernel_rfl) (by kernel_rfl) (by kernel_rfl) (by kernel_rfl) (fun _ _ _ h => h) (fun h => absurd h (by decide)) (fun x' hx => ?_) (by simp only [Act.put, List.setIfInBounds_toArray, List.set_cons_zero, List.set_cons_succ]; rfl) ?_
  · go_simp; try (with_reducible rfl)
  refine s_take_g 27 { dst := some 31, op := Go.Op.indexAddr 82 (Go.Operand.tmp 30) (Go.Operand.tmp 28), type := 0, pos := "taking.go:115", after := #[{ on := 26, ground := Go.Ground.data }, { on := 24, ground := Go.Ground.data }, { on := 18, ground := Go.Ground.guard }], guard := some (18, true) } (.pointer (some ⟨ep, 1 + r, none⟩)) _ (by kernel_rfl) (by kernel_rfl) (by kernel_rfl) (by kernel_rfl) (by kernel_rfl) (fun _ _ _ h => h) (fun h => absurd h (by decide)) (fun x' hx => ?_) (by simp only [Act.put, List.setIfInBounds_toArray, List.set_cons_zero, List.set_cons_succ]; rfl) ?_
  · have hr9 : ¬ (4 : Int) ≤ (r : Int) := by (have := HR4.out); omega
    go_simp
  refine s_take_g 28 { dst := some 32, op := Go.Op.load 4 (Go.Operand.tmp 31), type := 4, pos := "taking.go:115", after := #[{ on := 27, ground := Go.Ground.data }, { on := 18, ground := Go.Ground.guard }], guard := some (18, true) } (.bool true) _ (by kernel_rfl) (by kernel_rfl) (by kernel_rfl) (by kernel_rfl) (by kernel_rfl) (fun _ _ _ h => h) (fun _ => HFA.out) (fun x' hx => ?_) (by simp only [Act.put, List.setIfInBounds_toArray, List.set_cons_zero, List.set_cons_succ]; rfl) ?_
  · have hx1 := (hx (by decide)).2.2.2.2.1; go_simp; try (with_reducible rfl)
  refine Og.s_take 29 { dst := some 33, op := Go.Op.pick (Go.Operand.tmp 22) (Go.Operand.tmp 32) (Go.Operand.const (Go.Value.bool false)), type := 4, pos := "taking.go:115", after := #[{ on := 18, ground := Go.Ground.data }, { on := 28, ground := Go.Ground.data }], guard := none } (.bool true) _ (by kernel_rfl) (by kernel_rfl) (by kernel_rfl) (by kernel_rfl) (by kernel_rfl) (fun _ _ _ h => h) (fun h => absurd h (by decide)) (fun x' hx => ?_) (by simp only [Act.put, List.setIfInBounds_toArray, List.set_cons_zero, List.set_cons_succ]; rfl) ?_
  · go_simp; try (with_reducible rfl)
  refine Og.s_take 30 { dst := some 34, op := Go.Op.move (Go.Operand.tmp 33), type := 4, pos := "taking.go:115", after := #[{ on := 29, ground := Go.Ground.data }, { on := 18, ground := Go.Ground.chain }], guard := none } (.bool true) _ (by kernel_rfl) (by kernel_rfl) (by kernel_rfl) (by kernel_rfl) (by kernel_rfl) (fun _ _ _ h => h) (fun h => absurd h (by decide)) (fun x' hx => ?_) (by simp only [Act.put, List.setIfInBounds_toArray, List.set_cons_zero, List.set_cons_succ]; rfl) ?_
  · go_simp; try (with_reducible rfl)
  refine s_take_g 31 { dst := some 35, op := Go.Op.move (Go.Operand.tmp 0), type := 146, pos := "taking.go:115", after := #[{ on := 30, ground := Go.Ground.guard }], guard := some (30, true) } (.pointer (some ⟨tp, 0, none⟩)) _ (by kernel_rfl) (by kernel_rfl) (by kernel_rfl) (by kernel_rfl) (by kernel_rfl) (fun _ _ _ h => h) (fun h => absurd h (by decide)) (fun x' hx => ?_) (by simp only [Act.put, List.setIfInBounds_toArray, List.set_cons_zero, List.set_cons_succ]; rfl) ?_
  · go_simp; try (with_reducible rfl)
  refine s_take_g 32 { dst := some 36, op := Go.Op.nilCheck (Go.Operand.tmp 35), type := 0, pos := "taking.go:115", after := #[{ on := 31, ground := Go.Ground.data }, { on := 30, ground := Go.Ground.guard }], guard := some (30, true) } (.pointer (some ⟨tp, 0, none⟩)) _ (by kernel_rfl) (by kernel_rfl) (by kernel_rfl) (by kernel_rfl) (by kernel_rfl) (fun _ _ _ h => h) (fun h => absurd h (by decide)) (fun x' hx => ?_) (by simp only [Act.put, List.setIfInBounds_toArray, List.set_cons_zero, List.set_cons_succ]; rfl) ?_
  · go_simp; try (with_reducible rfl)
  refine s_take_g 33 { dst := some 37, op := Go.Op.fieldAddr 125 (Go.Operand.tmp 36) 1, type := 0, pos := "taking.go:115", after := #[{ on := 32, ground := Go.Ground.data }, { on := 30, ground := Go.Ground.guard }], guard := some (30, true) } (.pointer (some ⟨tp, 2, none⟩)) _ (by kernel_rfl) (by kernel_rfl) (by kernel_rfl) (by kernel_rfl) (by kernel_rfl) (fun _ _ _ h => h) (fun h => absurd h (by decide)) (fun x' hx => ?_) (by simp only [Act.put, List.setIfInBounds_toArray, List.set_cons_zero, List.set_cons_succ]; rfl) ?_
  · go_simp; try (with_reducible rfl)
  refine s_take_g 34 { dst := some 38, op := Go.Op.load 122 (Go.Operand.tmp 37), type := 122, pos := "taking.go:115", after := #[{ on := 33, ground := Go.Ground.data }, { on := 30, ground := Go.Ground.guard }], guard := some (30, true) } (.pointer (some ⟨ep, 0, none⟩)) _ (by kernel_rfl) (by kernel_rfl) (by kernel_rfl) (by kernel_rfl) (by kernel_rfl) (fun _ _ _ h => h) (fun _ => HFA.out) (fun x' hx => ?_) (by simp only [Act.put, List.setIfInBounds_toArray, List.set_cons_zero, List.set_cons_succ]; rfl) ?_
  · have hx1 := (hx (by decide)).1; go_simp; try (with_reducible rfl)
  refine s_take_g 35 { dst := some 39, op := Go.Op.nilCheck (Go.Operand.tmp 38), type := 0, pos := "taking.go:115", after := #[{ on := 34, ground := Go.Ground.data }, { on := 30, ground := Go.Ground.guard }], guard := some (30, true) } (.pointer (some ⟨ep, 0, none⟩)) _ (by kernel_rfl) (by kernel_rfl) (by kernel_rfl) (by kernel_rfl) (by kernel_rfl) (fun _ _ _ h => h) (fun h => absurd h (by decide)) (fun x' hx => ?_) (by simp only [Act.put, List.setIfInBounds_toArray, List.set_cons_zero, List.set_cons_succ]; rfl) ?_
  · go_simp; try (with_reducible rfl)
  refine s_take_g 36 { dst := some 40, op := Go.Op.fieldAddr 84 (Go.Operand.tmp 39) 3, type := 0, pos := "taking.go:115", after := #[{ on := 35, ground := Go.Ground.data }, { on := 30, ground := Go.Ground.guard }], guard := some (30, true) } (.pointer (some ⟨ep, 6, none⟩)) _ (by kernel_rfl) (by kernel_rfl) (by kernel_rfl) (by kernel_rfl) (by kernel_rfl) (fun _ _ _ h => h) (fun h => absurd h (by decide)) (fun x' hx => ?_) (by simp only [Act.put, List.setIfInBounds_toArray, List.set_cons_zero, List.set_cons_succ]; rfl) ?_
  · go_simp; try (with_reducible rfl)
  refine s_take_g 37 { dst := some 41, op := Go.Op.load 3 (Go.Operand.tmp 40), type := 3, pos := "taking.go:115", after := #[{ on := 36, ground := Go.Ground.data }, { on := 30, ground := Go.Ground.guard }], guard := some (30, true) } (.int .i64 a) _ (by kernel_rfl) (by kernel_rfl) (by kernel_rfl) (by kernel_rfl) (by kernel_rfl) (fun _ _ _ h => h) (fun _ => HFA.out) (fun x' hx => ?_) (by simp only [Act.put, List.setIfInBounds_toArray, List.set_cons_zero, List.set_cons_succ]; rfl) ?_
  · have hx1 := (hx (by decide)).2.2.2.2.2; go_simp; try (with_reducible rfl)
  refine s_take_g 38 { dst := some 42, op := Go.Op.fieldAddr 67 (Go.Operand.tmp 3) 1, type := 0, pos := "taking.go:115", after := #[{ on := 30, ground := Go.Ground.guard }], guard := some (30, true) } (.pointer (some ⟨mb, 1, none⟩)) _ (by kernel_rfl) (by kernel_rfl) (by kernel_rfl) (by kernel_rfl) (by kernel_rfl) (fun _ _ _ h => h) (fun h => absurd h (by decide)) (fun x' hx => ?_) (by simp only [Act.put, List.setIfInBounds_toArray, List.set_cons_zero, List.set_cons_succ]; rfl) ?_
  · go_simp; try (with_reducible rfl)
  refine s_take_g 39 { dst := some 43, op := Go.Op.load 3 (Go.Operand.tmp 42), type := 3, pos := "taking.go:115", after := #[{ on := 38, ground := Go.Ground.data }, { on := 30, ground := Go.Ground.guard }], guard := some (30, true) } (.int .i64 (r : Int)) _ (by kernel_rfl) (by kernel_rfl) (by kernel_rfl) (by kernel_rfl) (by kernel_rfl) (fun _ _ _ h => h) (fun _ => HFA.out) (fun x' hx => ?_) (by simp only [Act.put, List.setIfInBounds_toArray, List.set_cons_zero, List.set_cons_succ]; rfl) ?_
  · have hx1 := (hx (by decide)).2.2.2.1; go_simp; try (with_reducible rfl)
  refine s_take_g 40 { dst := some 44, op := Go.Op.binOp Go.BinOp.neq 3 (Go.Operand.tmp 41) (Go.Operand.tmp 43) 3, type := 4, pos := "taking.go:115", after := #[{ on := 37, ground := Go.Ground.data }, { on := 39, ground := Go.Ground.data }, { on := 30, ground := Go.Ground.guard }], guard := some (30, true) } (.bool true) _ (by kernel_rfl) (by kernel_rfl) (by kernel_rfl) (by kernel_rfl) (by kernel_rfl) (fun _ _ _ h => h) (fun h => absurd h (by decide)) (fun x' hx => ?_) (by simp only [Act.put, List.setIfInBounds_toArray, List.set_cons_zero, List.set_cons_succ]; rfl) ?_
  · go_simp; try (with_reducible rfl)
  refine Og.s_take 41 { dst := some 45, op := Go.Op.pick (Go.Operand.tmp 34) (Go.Operand.tmp 44) (Go.Operand.const (Go.Value.bool false)), type := 4, pos := "taking.go:115", after := #[{ on := 30, ground := Go.Ground.data }, { on := 40, ground := Go.Ground.data }], guard := none } (.bool true) _ (by kernel_rfl) (by kernel_rfl) (by kernel_rfl) (by kernel_rfl) (by kernel_rfl) (fun _ _ _ h => h) (fun h => absurd h (by decide)) (fun x' hx => ?_) (by simp only [Act.put, List.setIfInBounds_toArray, List.set_cons_zero, List.set_cons_succ]; rfl) ?_
  · go_simp; try (with_reducible rfl)
  refine Og.s_one 42 { dst := some 46, op := Go.Op.call { callee := Go.Callee.value (Go.Operand.func 106), args := #[Go.Operand.tmp 45], argTypes := #[4] }, type := 0, pos := "taking.go:115", after := #[{ on := 41, ground := Go.Ground.data }, { on := 30, ground := Go.Ground.chain }], guard := none } (by kernel_rfl) (by kernel_rfl) (by kernel_rfl) ?_
  refine Og.call_to (w1 := wq) (f := 106) (args := #[.bool true]) (by go_simp) ?_
  refine (must_yes wq).mono ?_
  rintro x W1 ⟨rfl, hw⟩
  subst hw
  refine ⟨_, rfl, keep_sl HFA.out, ?_⟩
  refine Og.s_done (by kernel_rfl) ?_ _
  try simp only [Act.put, List.setIfInBounds_toArray, List.set_cons_zero, List.set_cons_succ]
  obtain ⟨wp, hwp⟩ : ∃ wp, wp = wq := ⟨_, rfl⟩
  have TP := Lib.hid (show Tw B wp _ _ _ _ _ _ _ _ _ _ _ _ _ from by rw [hwp]; exact TQ.out)
  rw [← hwp]
  clear hwp HWQ BQ hob hab
  go_wp2_with fail
  obtain ⟨wq, hwq⟩ : ∃ wq, wq = { wp with drawn := wp.drawn + 1 } := ⟨_, rfl⟩
  have BQ := Lib.hid (show Below wp.heap.size wp wq by rw [hwq]; exact ⟨rfl, rfl, rfl, Nat.le_refl _, fun _ _ => rfl⟩)
  have HWQ := Lib.hid hwq
  clear hwq
  have TQ := Lib.hid (TP.out.kp BQ.out)
  have RQ := Lib.hid ((BQ.out.block _ (Array.getElem?_eq_some_iff.1 (TP.out.other R0.out OW.out)).1).trans (TP.out.other R0.out OW.out))
  have HFA := Lib.hid (show (fun x : World => x.cell? ⟨tp, 2, none⟩ = some (.pointer (some ⟨ep, 0, none⟩)) ∧ x.cell? ⟨mb, 1, none⟩ = some (.int .i64 (r : Int))) wq from ⟨TQ.out.tk.t2, (show _ = some (Value.int .i64 (r : Int)) from HRF.out ▸ (msg_cell RQ.out).2.1)⟩)
  refine Og.region_S (S := SL [3, 5] (fun x : World => x.cell? ⟨tp, 2, none⟩ = some (.pointer (some ⟨ep, 0, none⟩)) ∧ x.cell? ⟨mb, 1, none⟩ = some (.int .i64 (r : Int)))) (by kernel_rfl) ?_
  rw [← HWQ.out]
  refine Og.s_take 0 { dst := some 47, op := Go.Op.move (Go.Operand.tmp 0), type := 146, pos := "taking.go:116", after := #[], guard := none } (.pointer (some ⟨tp, 0, none⟩)) _ (by kernel_rfl) (by kernel_rfl) (by kernel_rfl) (by kernel_rfl) (by kernel_rfl) (fun _ _ _ h => h) (fun h => absurd h (by decide)) (fun x' hx => ?_) (by simp only [Act.put, List.setIfInBounds_toArray, List.set_cons_zero, List.set_cons_succ]; rfl) ?_
  · go_simp; try (with_reducible rfl)
  refine Og.s_take 1 { dst := some 48, op := Go.Op.nilCheck (Go.Operand.tmp 47), type := 0, pos := "taking.go:116", after := #[{ on := 0, ground := Go.Ground.data }], guard := none } (.pointer (some ⟨tp, 0, none⟩)) _ (by kernel_rfl) (by kernel_rfl) (by kernel_rfl) (by kernel_rfl) (by kernel_rfl) (fun _ _ _ h => h) (fun h => absurd h (by decide)) (fun x' hx => ?_) (by simp only [Act.put, List.setIfInBounds_toArray, List.set_cons_zero, List.set_cons_succ]; rfl) ?_
  · go_simp; try (with_reducible rfl)
  refine Og.s_take 2 { dst := some 49, op := Go.Op.fieldAddr 125 (Go.Operand.tmp 48) 1, type := 0, pos := "taking.go:116", after := #[{ on := 1, ground := Go.Ground.data }], guard := none } (.pointer (some ⟨tp, 2, none⟩)) _ (by kernel_rfl) (by kernel_rfl) (by kernel_rfl) (by kernel_rfl) (by kernel_rfl) (fun _ _ _ h => h) (fun h => absurd h (by decide)) (fun x' hx => ?_) (by simp only [Act.put, List.setIfInBounds_toArray, List.set_cons_zero, List.set_cons_succ]; rfl) ?_
  · go_simp; try (with_reducible rfl)
  refine Og.s_take 3 { dst := some 50, op := Go.Op.load 122 (Go.Operand.tmp 49), type := 122, pos := "taking.go:116", after := #[{ on := 2, ground := Go.Ground.data }], guard := none } (.pointer (some ⟨ep, 0, none⟩)) _ (by kernel_rfl) (by kernel_rfl) (by kernel_rfl) (by kernel_rfl) (by kernel_rfl) (fun _ _ _ h => h) (fun _ => HFA.out) (fun x' hx => ?_) (by simp only [Act.put, List.setIfInBounds_toArray, List.set_cons_zero, List.set_cons_succ]; rfl) ?_
  · have hx1 := (hx (by decide)).1; go_simp; try (with_reducible rfl)
  refine Og.s_take 4 { dst := some 51, op := Go.Op.fieldAddr 67 (Go.Operand.tmp 3) 1, type := 0, pos := "taking.go:116", after := #[], guard := none } (.pointer (some ⟨mb, 1, none⟩)) _ (by kernel_rfl) (by kernel_rfl) (by kernel_rfl) (by kernel_rfl) (by kernel_rfl) (fun _ _ _ h => h) (fun h => absurd h (by decide)) (fun x' hx => ?_) (by simp only [Act.put, List.setIfInBounds_toArray, List.set_cons_zero, List.set_cons_succ]; rfl) ?_
  · go_simp; try (with_reducible rfl)
  refine Og.s_take 5 { dst := some 52, op := Go.Op.load 3 (Go.Operand.tmp 51), type := 3, pos := "taking.go:116", after := #[{ on := 4, ground := Go.Ground.data }], guard := none } (.int .i64 (r : Int)) _ (by kernel_rfl) (by kernel_rfl) (by kernel_rfl) (by kernel_rfl) (by kernel_rfl) (fun _ _ _ h => h) (fun _ => HFA.out) (fun x' hx => ?_) (by simp only [Act.put, List.setIfInBounds_toArray, List.set_cons_zero, List.set_cons_succ]; rfl) ?_
  · have hx1 := (hx (by decide)).2; go_simp; try (with_reducible rfl)
  refine Og.s_take 6 { dst := some 53, op := Go.Op.nilCheck (Go.Operand.tmp 50), type := 0, pos := "taking.go:116", after := #[{ on := 3, ground := Go.Ground.data }], guard := none } (.pointer (some ⟨ep, 0, none⟩)) _ (by kernel_rfl) (by kernel_rfl) (by kernel_rfl) (by kernel_rfl) (by kernel_rfl) (fun _ _ _ h => h) (fun h => absurd h (by decide)) (fun x' hx => ?_) (by simp only [Act.put, List.setIfInBounds_toArray, List.set_cons_zero, List.set_cons_succ]; rfl) ?_
  · go_simp; try (with_reducible rfl)
  refine Og.s_take 7 { dst := some 54, op := Go.Op.fieldAddr 84 (Go.Operand.tmp 53) 1, type := 0, pos := "taking.go:116", after := #[{ on := 6, ground := Go.Ground.data }], guard := none } (.pointer (some ⟨ep, 1, none⟩)) _ (by kernel_rfl) (by kernel_rfl) (by kernel_rfl) (by kernel_rfl) (by kernel_rfl) (fun _ _ _ h => h) (fun h => absurd h (by decide)) (fun x' hx => ?_) (by simp only [Act.put, List.setIfInBounds_toArray, List.set_cons_zero, List.set_cons_succ]; rfl) ?_
  · go_simp; try (with_reducible rfl)
  refine Og.s_take 8 { dst := some 55, op := Go.Op.indexAddr 82 (Go.Operand.tmp 54) (Go.Operand.tmp 52), type := 0, pos := "taking.go:116", after := #[{ on := 7, ground := Go.Ground.data }, { on := 5, ground := Go.Ground.data }, { on := 0, ground := Go.Ground.phase }, { on := 1, ground := Go.Ground.phase }, { on := 2, ground := Go.Ground.phase }, { on := 3, ground := Go.Ground.phase }, { on := 4, ground := Go.Ground.phase }, { on := 5, ground := Go.Ground.phase }], guard := none } (.pointer (some ⟨ep, 1 + r, none⟩)) _ (by kernel_rfl) (by kernel_rfl) (by kernel_rfl) (by kernel_rfl) (by kernel_rfl) (fun _ _ _ h => h) (fun h => absurd h (by decide)) (fun x' hx => ?_) (by simp only [Act.put, List.setIfInBounds_toArray, List.set_cons_zero, List.set_cons_succ]; rfl) ?_
  · have hr9 : ¬ (4 : Int) ≤ (r : Int) := by (have := HR4.out); omega
    go_simp
  obtain ⟨W5, hW5⟩ : ∃ W5, W5 = wq.setRow ep (ecells (⟨o, setB s r false, b, a, k, wt, td, q⟩) qa qc) := ⟨_, rfl⟩
  have TW5 := Lib.hid (TQ.out.row (⟨o, setB s r false, b, a, k, wt, td, q⟩) rfl)
  rw [← hW5] at TW5
  have HW5 := Lib.hid hW5
  clear hW5
  have RW5 := Lib.hid (show W5.heap[mb]? = some (.cells (cells m).toArray 67 (0, 0)) by rw [HW5.out, setRow_other _ _ _ _ HME.out]; exact RQ.out)
  refine Og.s_one 9 { dst := none, op := Go.Op.store 4 (Go.Operand.tmp 55) (Go.Operand.const (Go.Value.bool false)), type := 0, pos := "taking.go:116", after := #[{ on := 8, ground := Go.Ground.data }, { on := 0, ground := Go.Ground.phase }, { on := 1, ground := Go.Ground.phase }, { on := 2, ground := Go.Ground.phase }, { on := 3, ground := Go.Ground.phase }, { on := 4, ground := Go.Ground.phase }, { on := 5, ground := Go.Ground.phase }], guard := none } (by kernel_rfl) (by kernel_rfl) (by kernel_rfl) ?_
  refine Og.skip_to (w' := W5) (by rw [HW5.out]; exact put_to 4 (Go.Operand.tmp 55) (Go.Operand.const (Go.Value.bool false)) rfl ep (1 + r) (.bool false) rfl rfl 84 _ TQ.out.tk.eb (by kernel_rfl) (sh_le _ _ _ HR4.out _) (one_bool _) _ (sh_put _ _ _ _ _ _ _ _ _ _ HR4.out _)) ⟨keep_end (o := { dst := none, op := Go.Op.store 4 (Go.Operand.tmp 55) (Go.Operand.const (Go.Value.bool false)), type := 0, pos := "taking.go:116", after := #[{ on := 8, ground := Go.Ground.data }, { on := 0, ground := Go.Ground.phase }, { on := 1, ground := Go.Ground.phase }, { on := 2, ground := Go.Ground.phase }, { on := 3, ground := Go.Ground.phase }, { on := 4, ground := Go.Ground.phase }, { on := 5, ground := Go.Ground.phase }], guard := none }) (by kernel_rfl) (by kernel_rfl), ?_⟩
  refine Og.s_done (by kernel_rfl) ?_ _
  try simp only [Act.put, List.setIfInBounds_toArray, List.set_cons_zero, List.set_cons_succ]
  have c2 := TW5.out.tk.t2
  have c8 : W5.cell? ⟨ep, 8, none⟩ = some (.int .i64 wt) := TW5.out.tk.e8
  go_wp2_with (first
    | ((with_reducible show wpList _ _ _ (Oper.mk none (Op.store _ _ _) _ _ _ _ :: _) _ _); refine wpList_put rfl 3 (.tmp 65) (.tmp 63) rfl ep 8 (.int .i64 (wt - 1)) rfl rfl 84 _ TW5.out.tk.eb (by kernel_rfl) (Nat.le_of_ble_eq_true rfl) (one_int _ _) (ecells (⟨o, setB s r false, b, a, k, wt - 1, td, q⟩) qa qc) rfl ?_)
    | (go_at_call 110; (with_reducible refine (gid_any _ HAB.out HSL.out _ (TW5.out.row ⟨o, setB s r false, b, a, k, wt - 1, td, q⟩ rfl).ta).mono ?_); rintro x W4 ⟨rfl, ht⟩))
  go_end0
  refine ⟨rfl, TT.before B0.out ?_⟩
  rw [← HT.out]
  unfold ackP
  rw [HTN.out]
  exact (TW5.out.row ⟨o, setB s r false, b, a, k, wt - 1, td, q⟩ rfl).call ht
end
end Hm
end Go.Proofs.Ytfajkgbpeapcbaa
end
