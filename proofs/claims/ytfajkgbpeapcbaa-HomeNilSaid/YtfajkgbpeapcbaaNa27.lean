import Derived.Test.YtfajkgbpeapcbaaNa24
import Derived.Test.YtfajkgbpeapcbaaNa17
import Derived.Test.YtfajkgbpeapcbaaNa18
set_option linter.unusedVariables false
set_option linter.unusedSimpArgs false

section
namespace Go.Proofs.Ytfajkgbpeapcbaa
open Go.RowKit
namespace Hm
open Nt
set_option maxRecDepth 100000
section
variable {tp ep mp g : Nat} {S Q : Nat → Prop}
set_option maxHeartbeats 8000000 in
theorem back_any (T : Tg) (m : E) (hm : Ok m) (hby : Im.Byt m.b) (hf1 : 0 ≤ m.f) (hf2 : m.f ≤ 3) (ha1 : 0 ≤ T.e.a) (ha2 : T.e.a ≤ 3) (hsl : T.sent.length ≤ 3990) (hok : backOk T m = true) (w : World) (h : Ta w tp ep mp g S Q T) :
    Calls Try.prog 97 #[.pointer (some ⟨tp, 0, none⟩), .agg (cells m).toArray] w fun r w' => r = .returned (.tuple #[]) ∧ TT w w' tp ep mp g S Q (backP T m) := by
  obtain ⟨n, sent, ⟨o, s, b, a, k, wt, td, q⟩, bs⟩ := T
  obtain ⟨sa, sc, qa, qc, h⟩ := h
  obtain ⟨mb, B, hmb, hB, hb0, hr0⟩ := msg_box w m
  have HB := Lib.hid hB; have HMB := Lib.hid hmb; have B0 := Lib.hid hb0; have R0 := Lib.hid hr0
  have OW := Lib.hid (show ∀ j, own tp ep g S Q j → j < mb from fun j hj => by rw [HMB.out]; exact Tw.own_lt h j hj)
  have HME := Lib.hid (show mb ≠ ep from by have := h.lt.2.1; omega)
  have T0 := Lib.hid (Tw.start (h.kp B0.out))
  clear hB hmb hb0 hr0
  obtain ⟨T', hT⟩ : ∃ T', backP ⟨n, sent, ⟨o, s, b, a, k, wt, td, q⟩, bs⟩ m = T' := ⟨_, rfl⟩
  rw [hT]
  have HT := Lib.hid hT
  clear h hT
  have HOK := Lib.hid hm; have HBY := Lib.hid hby
  clear hm hby
  simp only at hsl ha1 ha2
  obtain ⟨hw, ho⟩ : 0 < wt ∧ o = m.f := by
    unfold backOk at hok
    simpa using hok
  have hob : (o == m.f) = true := by simp [ho]
  have HO := Lib.hid ho
  obtain ⟨r, hr⟩ : ∃ r : Nat, m.f = (r : Int) := ⟨m.f.toNat, by omega⟩
  obtain ⟨ra, hra⟩ : ∃ ra : Nat, a = (ra : Int) := ⟨a.toNat, by omega⟩
  have HRF := Lib.hid hr; have HRA := Lib.hid hra
  have HR4 := Lib.hid (show r < 4 by omega); have HA4 := Lib.hid (show ra < 4 by omega)
  have HSL := Lib.hid (show sent.length ≤ 4000 by omega)
  have HAB := Lib.hid (show Ev.i64B a by unfold Ev.i64B; omega)
  clear ho hr hra hok hf1 hf2 ha1 ha2 hsl
  go_enter Try.func97, Try.ntmps97
  go_wp2_with fail
  rw [← HB.out, ← HMB.out]
  obtain ⟨wq, hwq⟩ : ∃ wq, wq = { B with drawn := B.drawn + 1 } := ⟨_, rfl⟩
  have BQ := Lib.hid (show Below B.heap.size B wq by rw [hwq]; exact ⟨rfl, rfl, rfl, Nat.le_refl _, fun _ _ => rfl⟩)
  have HWQ := Lib.hid hwq
  clear hwq
  have TQ := Lib.hid (T0.out.kp BQ.out)
  have RQ := Lib.hid ((BQ.out.block _ (Array.getElem?_eq_some_iff.1 R0.out).1).trans R0.out)
  have HFA := Lib.hid (show (fun x : World => x.cell? ⟨tp, 2, none⟩ = some (.pointer (some ⟨ep, 0, none⟩)) ∧ x.cell? ⟨ep, 8, none⟩ = some (.int .i64 wt) ∧ x.cell? ⟨ep, 0, none⟩ = some (.int .i64 o) ∧ x.cell? ⟨mb, 1, none⟩ = some (.int .i64 m.f)) wq from ⟨TQ.out.tk.t2, TQ.out.tk.e8, TQ.out.tk.e0, (msg_cell RQ.out).2.1⟩)
  refine Og.region_S (S := SL [3, 6, 12, 15, 17] (fun x : World => x.cell? ⟨tp, 2, none⟩ = some (.pointer (some ⟨ep, 0, none⟩)) ∧ x.cell? ⟨ep, 8, none⟩ = some (.int .i64 wt) ∧ x.cell? ⟨ep, 0, none⟩ = some (.int .i64 o) ∧ x.cell? ⟨mb, 1, none⟩ = some (.int .i64 m.f))) (by kernel_rfl) ?_
  rw [← HWQ.out]
  refine Og.s_take 0 { dst := some 4, op := Go.Op.move (Go.Operand.tmp 0), type := 146, pos := "taking.go:102", after := #[], guard := none } (.pointer (some ⟨tp, 0, none⟩)) _ (by kernel_rfl) (by kernel_rfl) (by kernel_rfl) (by kernel_rfl) (by kernel_rfl) (fun _ _ _ h => h) (fun h => absurd h (by decide)) (fun x' hx => ?_) (by simp only [Act.put, List.setIfInBounds_toArray, List.set_cons_zero, List.set_cons_succ]; rfl) ?_
  · go_simp; try (with_reducible rfl)
  refine Og.s_take 1 { dst := some 5, op := Go.Op.nilCheck (Go.Operand.tmp 4), type := 0, pos := "taking.go:102", after := #[{ on := 0, ground := Go.Ground.data }], guard := none } (.pointer (some ⟨tp, 0, none⟩)) _ (by kernel_rfl) (by kernel_rfl) (by kernel_rfl) (by kernel_rfl) (by kernel_rfl) (fun _ _ _ h => h) (fun h => absurd h (by decide)) (fun x' hx => ?_) (by simp only [Act.put, List.setIfInBounds_toArray, List.set_cons_zero, List.set_cons_succ]; rfl) ?_
  · go_simp; try (with_reducible rfl)
  refine Og.s_take 2 { dst := some 6, op := Go.Op.fieldAddr 125 (Go.Operand.tmp 5) 1, type := 0, pos := "taking.go:102", after := #[{ on := 1, ground := Go.Ground.data }], guard := none } (.pointer (some ⟨tp, 2, none⟩)) _ (by kernel_rfl) (by kernel_rfl) (by kernel_rfl) (by kernel_rfl) (by kernel_rfl) (fun _ _ _ h => h) (fun h => absurd h (by decide)) (fun x' hx => ?_) (by simp only [Act.put, List.setIfInBounds_toArray, List.set_cons_zero, List.set_cons_succ]; rfl) ?_
  · go_simp; try (with_reducible rfl)
  refine Og.s_take 3 { dst := some 7, op := Go.Op.load 122 (Go.Operand.tmp 6), type := 122, pos := "taking.go:102", after := #[{ on := 2, ground := Go.Ground.data }], guard := none } (.pointer (some ⟨ep, 0, none⟩)) _ (by kernel_rfl) (by kernel_rfl) (by kernel_rfl) (by kernel_rfl) (by kernel_rfl) (fun _ _ _ h => h) (fun _ => HFA.out) (fun x' hx => ?_) (by simp only [Act.put, List.setIfInBounds_toArray, List.set_cons_zero, List.set_cons_succ]; rfl) ?_
  · have hx1 := (hx (by decide)).1; go_simp; try (with_reducible rfl)
  refine Og.s_take 4 { dst := some 8, op := Go.Op.nilCheck (Go.Operand.tmp 7), type := 0, pos := "taking.go:102", after := #[{ on := 3, ground := Go.Ground.data }], guard := none } (.pointer (some ⟨ep, 0, none⟩)) _ (by kernel_rfl) (by kernel_rfl) (by kernel_rfl) (by kernel_rfl) (by kernel_rfl) (fun _ _ _ h => h) (fun h => absurd h (by decide)) (fun x' hx => ?_) (by simp only [Act.put, List.setIfInBounds_toArray, List.set_cons_zero, List.set_cons_succ]; rfl) ?_
  · go_simp; try (with_reducible rfl)
  refine Og.s_take 5 { dst := some 9, op := Go.Op.fieldAddr 84 (Go.Operand.tmp 8) 5, type := 0, pos := "taking.go:102", after := #[{ on := 4, ground := Go.Ground.data }], guard := none } (.pointer (some ⟨ep, 8, none⟩)) _ (by kernel_rfl) (by kernel_rfl) (by kernel_rfl) (by kernel_rfl) (by kernel_rfl) (fun _ _ _ h => h) (fun h => absurd h (by decide)) (fun x' hx => ?_) (by simp only [Act.put, List.setIfInBounds_toArray, List.set_cons_zero, List.set_cons_succ]; rfl) ?_
  · go_simp; try (with_reducible rfl)
  refine Og.s_take 6 { dst := some 10, op := Go.Op.load 3 (Go.Operand.tmp 9), type := 3, pos := "taking.go:102", after := #[{ on := 5, ground := Go.Ground.data }], guard := none } (.int .i64 wt) _ (by kernel_rfl) (by kernel_rfl) (by kernel_rfl) (by kernel_rfl) (by kernel_rfl) (fun _ _ _ h => h) (fun _ => HFA.out) (fun x' hx => ?_) (by simp only [Act.put, List.setIfInBounds_toArray, List.set_cons_zero, List.set_cons_succ]; rfl) ?_
  · have hx1 := (hx (by decide)).2.1; go_simp; try (with_reducible rfl)
  refine Og.s_take 7 { dst := some 11, op := Go.Op.binOp Go.BinOp.gtr 3 (Go.Operand.tmp 10) (Go.Operand.const (Go.Value.int Go.IntKind.i64 0)) 3, type := 4, pos := "taking.go:102", after := #[{ on := 6, ground := Go.Ground.data }], guard := none } (.bool true) _ (by kernel_rfl) (by kernel_rfl) (by kernel_rfl) (by kernel_rfl) (by kernel_rfl) (fun _ _ _ h => h) (fun h => absurd h (by decide)) (fun x' hx => ?_) (by simp only [Act.put, List.setIfInBounds_toArray, List.set_cons_zero, List.set_cons_succ]; rfl) ?_
  · go_simp; try (with_reducible rfl)
  refine Og.s_take 8 { dst := some 12, op := Go.Op.move (Go.Operand.tmp 11), type := 4, pos := "taking.go:102", after := #[{ on := 7, ground := Go.Ground.data }], guard := none } (.bool true) _ (by kernel_rfl) (by kernel_rfl) (by kernel_rfl) (by kernel_rfl) (by kernel_rfl) (fun _ _ _ h => h) (fun h => absurd h (by decide)) (fun x' hx => ?_) (by simp only [Act.put, List.setIfInBounds_toArray, List.set_cons_zero, List.set_cons_succ]; rfl) ?_
  · go_simp; try (with_reducible rfl)
  refine s_take_g 9 { dst := some 13, op := Go.Op.move (Go.Operand.tmp 0), type := 146, pos := "taking.go:102", after := #[{ on := 8, ground := Go.Ground.guard }], guard := some (8, true) } (.pointer (some ⟨tp, 0, none⟩)) _ (by kernel_rfl) (by kernel_rfl) (by kernel_rfl) (by kernel_rfl) (by kernel_rfl) (fun _ _ _ h => h) (fun h => absurd h (by decide)) (fun x' hx => ?_) (by simp only [Act.put, List.setIfInBounds_toArray, List.set_cons_zero, List.set_cons_succ]; rfl) ?_
  · go_simp; try (with_reducible rfl)
  refine s_take_g 10 { dst := some 14, op := Go.Op.nilCheck (Go.Operand.tmp 13), type := 0, pos := "taking.go:102", after := #[{ on := 9, ground := Go.Ground.data }, { on := 8, ground := Go.Ground.guard }], guard := some (8, true) } (.pointer (some ⟨tp, 0, none⟩)) _ (by kernel_rfl) (by kernel_rfl) (by kernel_rfl) (by kernel_rfl) (by kernel_rfl) (fun _ _ _ h => h) (fun h => absurd h (by decide)) (fun x' hx => ?_) (by simp only [Act.put, List.setIfInBounds_toArray, List.set_cons_zero, List.set_cons_succ]; rfl) ?_
  · go_simp; try (with_reducible rfl)
  refine s_take_g 11 { dst := some 15, op := Go.Op.fieldAddr 125 (Go.Operand.tmp 14) 1, type := 0, pos := "taking.go:102", after := #[{ on := 10, ground := Go.Ground.data }, { on := 8, ground := Go.Ground.guard }], guard := some (8, true) } (.pointer (some ⟨tp, 2, none⟩)) _ (by kernel_rfl) (by kernel_rfl) (by kernel_rfl) (by kernel_rfl) (by kernel_rfl) (fun _ _ _ h => h) (fun h => absurd h (by decide)) (fun x' hx => ?_) (by simp only [Act.put, List.setIfInBounds_toArray, List.set_cons_zero, List.set_cons_succ]; rfl) ?_
  · go_simp; try (with_reducible rfl)
  refine s_take_g 12 { dst := some 16, op := Go.Op.load 122 (Go.Operand.tmp 15), type := 122, pos := "taking.go:102", after := #[{ on := 11, ground := Go.Ground.data }, { on := 8, ground := Go.Ground.guard }], guard := some (8, true) } (.pointer (some ⟨ep, 0, none⟩)) _ (by kernel_rfl) (by kernel_rfl) (by kernel_rfl) (by kernel_rfl) (by kernel_rfl) (fun _ _ _ h => h) (fun _ => HFA.out) (fun x' hx => ?_) (by simp only [Act.put, List.setIfInBounds_toArray, List.set_cons_zero, List.set_cons_succ]; rfl) ?_
  · have hx1 := (hx (by decide)).1; go_simp; try (with_reducible rfl)
  refine s_take_g 13 { dst := some 17, op := Go.Op.nilCheck (Go.Operand.tmp 16), type := 0, pos := "taking.go:102", after := #[{ on := 12, ground := Go.Ground.data }, { on := 8, ground := Go.Ground.guard }], guard := some (8, true) } (.pointer (some ⟨ep, 0, none⟩)) _ (by kernel_rfl) (by kernel_rfl) (by kernel_rfl) (by kernel_rfl) (by kernel_rfl) (fun _ _ _ h => h) (fun h => absurd h (by decide)) (fun x' hx => ?_) (by simp only [Act.put, List.setIfInBounds_toArray, List.set_cons_zero, List.set_cons_succ]; rfl) ?_
  · go_simp; try (with_reducible rfl)
  refine s_take_g 14 { dst := some 18, op := Go.Op.fieldAddr 84 (Go.Operand.tmp 17) 0, type := 0, pos := "taking.go:102", after := #[{ on := 13, ground := Go.Ground.data }, { on := 8, ground := Go.Ground.guard }], guard := some (8, true) } (.pointer (some ⟨ep, 0, none⟩)) _ (by kernel_rfl) (by kernel_rfl) (by kernel_rfl) (by kernel_rfl) (by kernel_rfl) (fun _ _ _ h => h) (fun h => absurd h (by decide)) (fun x' hx => ?_) (by simp only [Act.put, List.setIfInBounds_toArray, List.set_cons_zero, List.set_cons_succ]; rfl) ?_
  · go_simp; try (with_reducible rfl)
  refine s_take_g 15 { dst := some 19, op := Go.Op.load 3 (Go.Operand.tmp 18), type := 3, pos := "taking.go:102", after := #[{ on := 14, ground := Go.Ground.data }, { on := 8, ground := Go.Ground.guard }], guard := some (8, true) } (.int .i64 o) _ (by kernel_rfl) (by kernel_rfl) (by kernel_rfl) (by kernel_rfl) (by kernel_rfl) (fun _ _ _ h => h) (fun _ => HFA.out) (fun x' hx => ?_) (by simp only [Act.put, List.setIfInBounds_toArray, List.set_cons_zero, List.set_cons_succ]; rfl) ?_
  · have hx1 := (hx (by decide)).2.2.1; go_simp; try (with_reducible rfl)
  refine s_take_g 16 { dst := some 20, op := Go.Op.fieldAddr 67 (Go.Operand.tmp 3) 1, type := 0, pos := "taking.go:102", after := #[{ on := 8, ground := Go.Ground.guard }], guard := some (8, true) } (.pointer (some ⟨mb, 1, none⟩)) _ (by kernel_rfl) (by kernel_rfl) (by kernel_rfl) (by kernel_rfl) (by kernel_rfl) (fun _ _ _ h => h) (fun h => absurd h (by decide)) (fun x' hx => ?_) (by simp only [Act.put, List.setIfInBounds_toArray, List.set_cons_zero, List.set_cons_succ]; rfl) ?_
  · go_simp; try (with_reducible rfl)
  refine s_take_g 17 { dst := some 21, op := Go.Op.load 3 (Go.Operand.tmp 20), type := 3, pos := "taking.go:102", after := #[{ on := 16, ground := Go.Ground.data }, { on := 8, ground := Go.Ground.guard }], guard := some (8, true) } (.int .i64 m.f) _ (by kernel_rfl) (by kernel_rfl) (by kernel_rfl) (by kernel_rfl) (by kernel_rfl) (fun _ _ _ h => h) (fun _ => HFA.out) (fun x' hx => ?_) (by simp only [Act.put, List.setIfInBounds_toArray, List.set_cons_zero, List.set_cons_succ]; rfl) ?_
  · have hx1 := (hx (by decide)).2.2.2; go_simp; try (with_reducible rfl)
  refine s_take_g 18 { dst := some 22, op := Go.Op.binOp Go.BinOp.eql 3 (Go.Operand.tmp 19) (Go.Operand.tmp 21) 3, type := 4, pos := "taking.go:102", after := #[{ on := 15, ground := Go.Ground.data }, { on := 17, ground := Go.Ground.data }, { on := 8, ground := Go.Ground.guard }], guard := some (8, true) } (.bool true) _ (by kernel_rfl) (by kernel_rfl) (by kernel_rfl) (by kernel_rfl) (by kernel_rfl) (fun _ _ _ h => h) (fun h => absurd h (by decide)) (fun x' hx => ?_) (by simp only [Act.put, List.setIfInBounds_toArray, List.set_cons_zero, List.set_cons_succ]; rfl) ?_
  · go_simp; try (with_reducible rfl)
  refine Og.s_take 19 { dst := some 23, op := Go.Op.pick (Go.Operand.tmp 12) (Go.Operand.tmp 22) (Go.Operand.const (Go.Value.bool false)), type := 4, pos := "taking.go:102", after := #[{ on := 8, ground := Go.Ground.data }, { on := 18, ground := Go.Ground.data }], guard := none } (.bool true) _ (by kernel_rfl) (by kernel_rfl) (by kernel_rfl) (by kernel_rfl) (by kernel_rfl) (fun _ _ _ h => h) (fun h => absurd h (by decide)) (fun x' hx => ?_) (by simp only [Act.put, List.setIfInBounds_toArray, List.set_cons_zero, List.set_cons_succ]; rfl) ?_
  · go_simp; try (with_reducible rfl)
  refine Og.s_one 20 { dst := some 24, op := Go.Op.call { callee := Go.Callee.value (Go.Operand.func 106), args := #[Go.Operand.tmp 23], argTypes := #[4] }, type := 0, pos := "taking.go:102", after := #[{ on := 19, ground := Go.Ground.data }, { on := 8, ground := Go.Ground.chain }], guard := none } (by kernel_rfl) (by kernel_rfl) (by kernel_rfl) ?_
  refine Og.call_to (w1 := wq) (f := 106) (args := #[.bool true]) (by go_simp) ?_
  refine (must_yes wq).mono ?_
  rintro x W1 ⟨rfl, hw⟩
  subst hw
  refine ⟨_, rfl, keep_sl HFA.out, ?_⟩
  refine Og.s_done (by kernel_rfl) ?_ _
  try simp only [Act.put, List.setIfInBounds_toArray, List.set_cons_zero, List.set_cons_succ]
  have RQ0 := Lib.hid (TQ.out.other R0.out OW.out)
  clear hob hw
  go_wp2_with (first
    | ((with_reducible show wpList _ _ _ (Oper.mk (some 26) _ _ _ _ _ :: _) _ _); refine wpList_load_row rfl 67 (.tmp 3) rfl mb rfl 67 _ (0, 0) _ RQ0.out Try.underlying67 rfl (by rw [HOK.out.size]; exact size_msg) ?_)
    | (go_at_call 107; (with_reducible refine (keep_any _ m HOK.out HBY.out _ TQ.out.ta).mono ?_); rintro x W3 ⟨rfl, ht⟩; refine Stop.out ?_))
  refine ⟨?_⟩
  obtain ⟨T1, hT1⟩ : ∃ T1, keepP ⟨n, sent, ⟨o, s, b, a, k, wt, td, q⟩, bs⟩ m = T1 := ⟨_, rfl⟩
  have HE1 := Lib.hid (show T1.e = ⟨o, s, b, a, k, wt, td, q⟩ by rw [← hT1]; simp only [keepP])
  have HS1 := Lib.hid (show T1.sent = sent by rw [← hT1]; simp only [keepP])
  have HX := Lib.hid hT1
  rw [hT1] at ht
  obtain ⟨S3, Q3, sa3, sc3, qa3, qc3, t3⟩ := TQ.out.call ht
  obtain ⟨n1, sent1, e1, bs1⟩ := T1
  obtain rfl : e1 = ⟨o, s, b, a, k, wt, td, q⟩ := HE1.out
  obtain rfl : sent1 = sent := HS1.out
  have T3 := Lib.hid t3
  have c2 := T3.out.tk.t2
  have c7 : W3.cell? ⟨ep, 7, none⟩ = some (.int .i64 k) := T3.out.tk.e7
  clear ht t3 hT1
  have HG := Lib.hid (show T' = (if k = 2 then giveP ⟨n1, sent1, ⟨o, s, b, a, k, wt, td, q⟩, bs1⟩ 10 else tellP ⟨n1, sent1, ⟨-1, setB (setB s m.f.toNat true) a.toNat true, b, a, k, wt, td, q⟩, bs1⟩ 8) from by rw [← HT.out]; unfold backP; rw [HX.out]; rfl)
  by_cases hk : k = 2
  · have HG2 := Lib.hid (HG.out.trans (if_pos hk))
    have hkb : (k == 2) = true := by simp [hk]
    clear hk
    go_wp2_with (go_at_call 108; (with_reducible refine (give_any _ 10 (by unfold Ev.i64B; decide) HAB.out HSL.out _ T3.out.ta).mono ?_); rintro x W4 ⟨rfl, ht⟩)
    first | go_end0 | refine bodyPost_ret (results_none rfl _ _ _) rfl ?_
    refine ⟨rfl, TT.before B0.out ?_⟩
    rw [HG2.out]
    exact T3.out.call ht
  · have HG2 := Lib.hid (HG.out.trans (if_neg hk))
    have hkb : (k == 2) = false := by simp [hk]
    clear hk
    go_wp2_with (first
      | ((with_reducible show wpList _ _ _ (Oper.mk none (Op.store _ _ _) _ _ _ _ :: _) _ _); refine wpList_put rfl 3 (.tmp 43) (.const (.int .i64 (-1))) rfl ep 0 (.int .i64 (-1)) rfl rfl 84 _ T3.out.tk.eb (by kernel_rfl) (Nat.le_of_ble_eq_true rfl) (one_int _ _) (ecells (⟨-1, s, b, a, k, wt, td, q⟩) qa3 qc3) rfl ?_))
    have T4 := Lib.hid (T3.out.row ⟨-1, s, b, a, k, wt, td, q⟩ rfl)
    obtain ⟨W4, hW4⟩ : ∃ W4, W4 = W3.setRow ep (ecells ⟨-1, s, b, a, k, wt, td, q⟩ qa3 qc3) := ⟨_, rfl⟩
    rw [← hW4] at T4 ⊢
    clear hW4 hkb c2 c7
    obtain ⟨wq, hwq⟩ : ∃ wq, wq = { W4 with drawn := W4.drawn + 1 } := ⟨_, rfl⟩
    have BQ := Lib.hid (show Below W4.heap.size W4 wq by rw [hwq]; exact ⟨rfl, rfl, rfl, Nat.le_refl _, fun _ _ => rfl⟩)
    have HWQ := Lib.hid hwq
    clear hwq
    have TQ := Lib.hid (T4.out.kp BQ.out)
    have RQ := Lib.hid ((BQ.out.block _ (Array.getElem?_eq_some_iff.1 (T4.out.other R0.out OW.out)).1).trans (T4.out.other R0.out OW.out))
    have HFA := Lib.hid (show (fun x : World => x.cell? ⟨tp, 2, none⟩ = some (.pointer (some ⟨ep, 0, none⟩)) ∧ x.cell? ⟨mb, 1, none⟩ = some (.int .i64 (r : Int)) ∧ x.cell? ⟨ep, 6, none⟩ = some (.int .i64 (ra : Int))) wq from ⟨TQ.out.tk.t2, (show _ = some (Value.int .i64 (r : Int)) from HRF.out ▸ (msg_cell RQ.out).2.1), (show _ = some (Value.int .i64 (ra : Int)) from HRA.out ▸ TQ.out.tk.e6)⟩)
    refine Og.region_S (S := SL [3, 5, 9, 13, 16] (fun x : World => x.cell? ⟨tp, 2, none⟩ = some (.pointer (some ⟨ep, 0, none⟩)) ∧ x.cell? ⟨mb, 1, none⟩ = some (.int .i64 (r : Int)) ∧ x.cell? ⟨ep, 6, none⟩ = some (.int .i64 (ra : Int)))) (by kernel_rfl) ?_
    rw [← HWQ.out]
    refine Og.s_take 0 { dst := some 44, op := Go.Op.move (Go.Operand.tmp 0), type := 146, pos := "taking.go:109", after := #[], guard := none } (.pointer (some ⟨tp, 0, none⟩)) _ (by kernel_rfl) (by kernel_rfl) (by kernel_rfl) (by kernel_rfl) (by kernel_rfl) (fun _ _ _ h => h) (fun h => absurd h (by decide)) (fun x' hx => ?_) (by simp only [Act.put, List.setIfInBounds_toArray, List.set_cons_zero, List.set_cons_succ]; rfl) ?_
    · go_simp; try (with_reducible rfl)
    refine Og.s_take 1 { dst := some 45, op := Go.Op.nilCheck (Go.Operand.tmp 44), type := 0, pos := "taking.go:109", after := #[{ on := 0, ground := Go.Ground.data }], guard := none } (.pointer (some ⟨tp, 0, none⟩)) _ (by kernel_rfl) (by kernel_rfl) (by kernel_rfl) (by kernel_rfl) (by kernel_rfl) (fun _ _ _ h => h) (fun h => absurd h (by decide)) (fun x' hx => ?_) (by simp only [Act.put, List.setIfInBounds_toArray, List.set_cons_zero, List.set_cons_succ]; rfl) ?_
    · go_simp; try (with_reducible rfl)
    refine Og.s_take 2 { dst := some 46, op := Go.Op.fieldAddr 125 (Go.Operand.tmp 45) 1, type := 0, pos := "taking.go:109", after := #[{ on := 1, ground := Go.Ground.data }], guard := none } (.pointer (some ⟨tp, 2, none⟩)) _ (by kernel_rfl) (by kernel_rfl) (by kernel_rfl) (by kernel_rfl) (by kernel_rfl) (fun _ _ _ h => h) (fun h => absurd h (by decide)) (fun x' hx => ?_) (by simp only [Act.put, List.setIfInBounds_toArray, List.set_cons_zero, List.set_cons_succ]; rfl) ?_
    · go_simp; try (with_reducible rfl)
    refine Og.s_take 3 { dst := some 47, op := Go.Op.load 122 (Go.Operand.tmp 46), type := 122, pos := "taking.go:109", after := #[{ on := 2, ground := Go.Ground.data }], guard := none } (.pointer (some ⟨ep, 0, none⟩)) _ (by kernel_rfl) (by kernel_rfl) (by kernel_rfl) (by kernel_rfl) (by kernel_rfl) (fun _ _ _ h => h) (fun _ => HFA.out) (fun x' hx => ?_) (by simp only [Act.put, List.setIfInBounds_toArray, List.set_cons_zero, List.set_cons_succ]; rfl) ?_
    · have hx1 := (hx (by decide)).1; go_simp; try (with_reducible rfl)
    refine Og.s_take 4 { dst := some 48, op := Go.Op.fieldAddr 67 (Go.Operand.tmp 3) 1, type := 0, pos := "taking.go:109", after := #[], guard := none } (.pointer (some ⟨mb, 1, none⟩)) _ (by kernel_rfl) (by kernel_rfl) (by kernel_rfl) (by kernel_rfl) (by kernel_rfl) (fun _ _ _ h => h) (fun h => absurd h (by decide)) (fun x' hx => ?_) (by simp only [Act.put, List.setIfInBounds_toArray, List.set_cons_zero, List.set_cons_succ]; rfl) ?_
    · go_simp; try (with_reducible rfl)
    refine Og.s_take 5 { dst := some 49, op := Go.Op.load 3 (Go.Operand.tmp 48), type := 3, pos := "taking.go:109", after := #[{ on := 4, ground := Go.Ground.data }], guard := none } (.int .i64 (r : Int)) _ (by kernel_rfl) (by kernel_rfl) (by kernel_rfl) (by kernel_rfl) (by kernel_rfl) (fun _ _ _ h => h) (fun _ => HFA.out) (fun x' hx => ?_) (by simp only [Act.put, List.setIfInBounds_toArray, List.set_cons_zero, List.set_cons_succ]; rfl) ?_
    · have hx1 := (hx (by decide)).2.1; go_simp; try (with_reducible rfl)
    refine Og.s_take 6 { dst := some 50, op := Go.Op.move (Go.Operand.tmp 0), type := 146, pos := "taking.go:109", after := #[], guard := none } (.pointer (some ⟨tp, 0, none⟩)) _ (by kernel_rfl) (by kernel_rfl) (by kernel_rfl) (by kernel_rfl) (by kernel_rfl) (fun _ _ _ h => h) (fun h => absurd h (by decide)) (fun x' hx => ?_) (by simp only [Act.put, List.setIfInBounds_toArray, List.set_cons_zero, List.set_cons_succ]; rfl) ?_
    · go_simp; try (with_reducible rfl)
    refine Og.s_take 7 { dst := some 51, op := Go.Op.nilCheck (Go.Operand.tmp 50), type := 0, pos := "taking.go:109", after := #[{ on := 6, ground := Go.Ground.data }], guard := none } (.pointer (some ⟨tp, 0, none⟩)) _ (by kernel_rfl) (by kernel_rfl) (by kernel_rfl) (by kernel_rfl) (by kernel_rfl) (fun _ _ _ h => h) (fun h => absurd h (by decide)) (fun x' hx => ?_) (by simp only [Act.put, List.setIfInBounds_toArray, List.set_cons_zero, List.set_cons_succ]; rfl) ?_
    · go_simp; try (with_reducible rfl)
    refine Og.s_take 8 { dst := some 52, op := Go.Op.fieldAddr 125 (Go.Operand.tmp 51) 1, type := 0, pos := "taking.go:109", after := #[{ on := 7, ground := Go.Ground.data }], guard := none } (.pointer (some ⟨tp, 2, none⟩)) _ (by kernel_rfl) (by kernel_rfl) (by kernel_rfl) (by kernel_rfl) (by kernel_rfl) (fun _ _ _ h => h) (fun h => absurd h (by decide)) (fun x' hx => ?_) (by simp only [Act.put, List.setIfInBounds_toArray, List.set_cons_zero, List.set_cons_succ]; rfl) ?_
    · go_simp; try (with_reducible rfl)
    refine Og.s_take 9 { dst := some 53, op := Go.Op.load 122 (Go.Operand.tmp 52), type := 122, pos := "taking.go:109", after := #[{ on := 8, ground := Go.Ground.data }], guard := none } (.pointer (some ⟨ep, 0, none⟩)) _ (by kernel_rfl) (by kernel_rfl) (by kernel_rfl) (by kernel_rfl) (by kernel_rfl) (fun _ _ _ h => h) (fun _ => HFA.out) (fun x' hx => ?_) (by simp only [Act.put, List.setIfInBounds_toArray, List.set_cons_zero, List.set_cons_succ]; rfl) ?_
    · have hx1 := (hx (by decide)).1; go_simp; try (with_reducible rfl)
    refine Og.s_take 10 { dst := some 54, op := Go.Op.move (Go.Operand.tmp 0), type := 146, pos := "taking.go:109", after := #[], guard := none } (.pointer (some ⟨tp, 0, none⟩)) _ (by kernel_rfl) (by kernel_rfl) (by kernel_rfl) (by kernel_rfl) (by kernel_rfl) (fun _ _ _ h => h) (fun h => absurd h (by decide)) (fun x' hx => ?_) (by simp only [Act.put, List.setIfInBounds_toArray, List.set_cons_zero, List.set_cons_succ]; rfl) ?_
    · go_simp; try (with_reducible rfl)
    refine Og.s_take 11 { dst := some 55, op := Go.Op.nilCheck (Go.Operand.tmp 54), type := 0, pos := "taking.go:109", after := #[{ on := 10, ground := Go.Ground.data }], guard := none } (.pointer (some ⟨tp, 0, none⟩)) _ (by kernel_rfl) (by kernel_rfl) (by kernel_rfl) (by kernel_rfl) (by kernel_rfl) (fun _ _ _ h => h) (fun h => absurd h (by decide)) (fun x' hx => ?_) (by simp only [Act.put, List.setIfInBounds_toArray, List.set_cons_zero, List.set_cons_succ]; rfl) ?_
    · go_simp; try (with_reducible rfl)
    refine Og.s_take 12 { dst := some 56, op := Go.Op.fieldAddr 125 (Go.Operand.tmp 55) 1, type := 0, pos := "taking.go:109", after := #[{ on := 11, ground := Go.Ground.data }], guard := none } (.pointer (some ⟨tp, 2, none⟩)) _ (by kernel_rfl) (by kernel_rfl) (by kernel_rfl) (by kernel_rfl) (by kernel_rfl) (fun _ _ _ h => h) (fun h => absurd h (by decide)) (fun x' hx => ?_) (by simp only [Act.put, List.setIfInBounds_toArray, List.set_cons_zero, List.set_cons_succ]; rfl) ?_
    · go_simp; try (with_reducible rfl)
    refine Og.s_take 13 { dst := some 57, op := Go.Op.load 122 (Go.Operand.tmp 56), type := 122, pos := "taking.go:109", after := #[{ on := 12, ground := Go.Ground.data }], guard := none } (.pointer (some ⟨ep, 0, none⟩)) _ (by kernel_rfl) (by kernel_rfl) (by kernel_rfl) (by kernel_rfl) (by kernel_rfl) (fun _ _ _ h => h) (fun _ => HFA.out) (fun x' hx => ?_) (by simp only [Act.put, List.setIfInBounds_toArray, List.set_cons_zero, List.set_cons_succ]; rfl) ?_
    · have hx1 := (hx (by decide)).1; go_simp; try (with_reducible rfl)
    refine Og.s_take 14 { dst := some 58, op := Go.Op.nilCheck (Go.Operand.tmp 57), type := 0, pos := "taking.go:109", after := #[{ on := 13, ground := Go.Ground.data }], guard := none } (.pointer (some ⟨ep, 0, none⟩)) _ (by kernel_rfl) (by kernel_rfl) (by kernel_rfl) (by kernel_rfl) (by kernel_rfl) (fun _ _ _ h => h) (fun h => absurd h (by decide)) (fun x' hx => ?_) (by simp only [Act.put, List.setIfInBounds_toArray, List.set_cons_zero, List.set_cons_succ]; rfl) ?_
    · go_simp; try (with_reducible rfl)
    refine Og.s_take 15 { dst := some 59, op := Go.Op.fieldAddr 84 (Go.Operand.tmp 58) 3, type := 0, pos := "taking.go:109", after := #[{ on := 14, ground := Go.Ground.data }], guard := none } (.pointer (some ⟨ep, 6, none⟩)) _ (by kernel_rfl) (by kernel_rfl) (by kernel_rfl) (by kernel_rfl) (by kernel_rfl) (fun _ _ _ h => h) (fun h => absurd h (by decide)) (fun x' hx => ?_) (by simp only [Act.put, List.setIfInBounds_toArray, List.set_cons_zero, List.set_cons_succ]; rfl) ?_
    · go_simp; try (with_reducible rfl)
    refine Og.s_take 16 { dst := some 60, op := Go.Op.load 3 (Go.Operand.tmp 59), type := 3, pos := "taking.go:109", after := #[{ on := 15, ground := Go.Ground.data }], guard := none } (.int .i64 (ra : Int)) _ (by kernel_rfl) (by kernel_rfl) (by kernel_rfl) (by kernel_rfl) (by kernel_rfl) (fun _ _ _ h => h) (fun _ => HFA.out) (fun x' hx => ?_) (by simp only [Act.put, List.setIfInBounds_toArray, List.set_cons_zero, List.set_cons_succ]; rfl) ?_
    · have hx1 := (hx (by decide)).2.2; go_simp; try (with_reducible rfl)
    refine Og.s_take 17 { dst := some 61, op := Go.Op.nilCheck (Go.Operand.tmp 47), type := 0, pos := "taking.go:109", after := #[{ on := 3, ground := Go.Ground.data }], guard := none } (.pointer (some ⟨ep, 0, none⟩)) _ (by kernel_rfl) (by kernel_rfl) (by kernel_rfl) (by kernel_rfl) (by kernel_rfl) (fun _ _ _ h => h) (fun h => absurd h (by decide)) (fun x' hx => ?_) (by simp only [Act.put, List.setIfInBounds_toArray, List.set_cons_zero, List.set_cons_succ]; rfl) ?_
    · go_simp; try (with_reducible rfl)
    refine Og.s_take 18 { dst := some 62, op := Go.Op.fieldAddr 84 (Go.Operand.tmp 61) 1, type := 0, pos := "taking.go:109", after := #[{ on := 17, ground := Go.Ground.data }], guard := none } (.pointer (some ⟨ep, 1, none⟩)) _ (by kernel_rfl) (by kernel_rfl) (by kernel_rfl) (by kernel_rfl) (by kernel_rfl) (fun _ _ _ h => h) (fun h => absurd h (by decide)) (fun x' hx => ?_) (by simp only [Act.put, List.setIfInBounds_toArray, List.set_cons_zero, List.set_cons_succ]; rfl) ?_
    · go_simp; try (with_reducible rfl)
    refine Og.s_take 19 { dst := some 63, op := Go.Op.indexAddr 82 (Go.Operand.tmp 62) (Go.Operand.tmp 49), type := 0, pos := "taking.go:109", after := #[{ on := 18, ground := Go.Ground.data }, { on := 5, ground := Go.Ground.data }, { on := 0, ground := Go.Ground.phase }, { on := 1, ground := Go.Ground.phase }, { on := 2, ground := Go.Ground.phase }, { on := 3, ground := Go.Ground.phase }, { on := 4, ground := Go.Ground.phase }, { on := 5, ground := Go.Ground.phase }, { on := 6, ground := Go.Ground.textOnly Go.Departure.lateStores }, { on := 7, ground := Go.Ground.textOnly Go.Departure.lateStoresUnsure }, { on := 8, ground := Go.Ground.textOnly Go.Departure.lateStoresUnsure }, { on := 9, ground := Go.Ground.phase }, { on := 10, ground := Go.Ground.textOnly Go.Departure.lateStores }, { on := 11, ground := Go.Ground.textOnly Go.Departure.lateStoresUnsure }, { on := 12, ground := Go.Ground.textOnly Go.Departure.lateStoresUnsure }, { on := 13, ground := Go.Ground.phase }, { on := 14, ground := Go.Ground.textOnly Go.Departure.lateStoresUnsure }, { on := 15, ground := Go.Ground.textOnly Go.Departure.lateStoresUnsure }, { on := 16, ground := Go.Ground.phase }], guard := none } (.pointer (some ⟨ep, 1 + r, none⟩)) _ (by kernel_rfl) (by kernel_rfl) (by kernel_rfl) (by kernel_rfl) (by kernel_rfl) (fun _ _ _ h => h) (fun h => absurd h (by decide)) (fun x' hx => ?_) (by simp only [Act.put, List.setIfInBounds_toArray, List.set_cons_zero, List.set_cons_succ]; rfl) ?_
    · have hr9 : ¬ (4 : Int) ≤ (r : Int) := by (have := HR4.out); omega
      go_simp
    refine Og.s_take 21 { dst := some 64, op := Go.Op.nilCheck (Go.Operand.tmp 53), type := 0, pos := "taking.go:109", after := #[{ on := 9, ground := Go.Ground.data }], guard := none } (.pointer (some ⟨ep, 0, none⟩)) _ (by kernel_rfl) (by kernel_rfl) (by kernel_rfl) (by kernel_rfl) (by kernel_rfl) (fun _ _ _ h => h) (fun h => absurd h (by decide)) (fun x' hx => ?_) (by simp only [Act.put, List.setIfInBounds_toArray, List.set_cons_zero, List.set_cons_succ]; rfl) ?_
    · go_simp; try (with_reducible rfl)
    refine Og.s_take 22 { dst := some 65, op := Go.Op.fieldAddr 84 (Go.Operand.tmp 64) 1, type := 0, pos := "taking.go:109", after := #[{ on := 21, ground := Go.Ground.data }], guard := none } (.pointer (some ⟨ep, 1, none⟩)) _ (by kernel_rfl) (by kernel_rfl) (by kernel_rfl) (by kernel_rfl) (by kernel_rfl) (fun _ _ _ h => h) (fun h => absurd h (by decide)) (fun x' hx => ?_) (by simp only [Act.put, List.setIfInBounds_toArray, List.set_cons_zero, List.set_cons_succ]; rfl) ?_
    · go_simp; try (with_reducible rfl)
    obtain ⟨W5, hW5⟩ : ∃ W5, W5 = wq.setRow ep (ecells (⟨-1, setB s r true, b, a, k, wt, td, q⟩) qa3 qc3) := ⟨_, rfl⟩
    have TW5 := Lib.hid (TQ.out.row (⟨-1, setB s r true, b, a, k, wt, td, q⟩) rfl)
    rw [← hW5] at TW5
    have HW5 := Lib.hid hW5
    clear hW5
    have RW5 := Lib.hid (show W5.heap[mb]? = some (.cells (cells m).toArray 67 (0, 0)) by rw [HW5.out, setRow_other _ _ _ _ HME.out]; exact RQ.out)
    have FW5 := Lib.hid (show (fun x : World => x.cell? ⟨tp, 2, none⟩ = some (.pointer (some ⟨ep, 0, none⟩)) ∧ x.cell? ⟨mb, 1, none⟩ = some (.int .i64 (r : Int)) ∧ x.cell? ⟨ep, 6, none⟩ = some (.int .i64 (ra : Int))) W5 from ⟨TW5.out.tk.t2, (show _ = some (Value.int .i64 (r : Int)) from HRF.out ▸ (msg_cell RW5.out).2.1), (show _ = some (Value.int .i64 (ra : Int)) from HRA.out ▸ TW5.out.tk.e6)⟩)
    refine Og.s_one 20 { dst := none, op := Go.Op.store 4 (Go.Operand.tmp 63) (Go.Operand.const (Go.Value.bool true)), type := 0, pos := "taking.go:109", after := #[{ on := 19, ground := Go.Ground.data }, { on := 0, ground := Go.Ground.phase }, { on := 1, ground := Go.Ground.phase }, { on := 2, ground := Go.Ground.phase }, { on := 3, ground := Go.Ground.phase }, { on := 4, ground := Go.Ground.phase }, { on := 5, ground := Go.Ground.phase }, { on := 6, ground := Go.Ground.textOnly Go.Departure.lateStores }, { on := 7, ground := Go.Ground.textOnly Go.Departure.lateStoresUnsure }, { on := 8, ground := Go.Ground.textOnly Go.Departure.lateStoresUnsure }, { on := 9, ground := Go.Ground.phase }, { on := 10, ground := Go.Ground.textOnly Go.Departure.lateStores }, { on := 11, ground := Go.Ground.textOnly Go.Departure.lateStoresUnsure }, { on := 12, ground := Go.Ground.textOnly Go.Departure.lateStoresUnsure }, { on := 13, ground := Go.Ground.phase }, { on := 14, ground := Go.Ground.textOnly Go.Departure.lateStoresUnsure }, { on := 15, ground := Go.Ground.textOnly Go.Departure.lateStoresUnsure }, { on := 16, ground := Go.Ground.phase }], guard := none } (by kernel_rfl) (by kernel_rfl) (by kernel_rfl) ?_
    refine Og.skip_to (w' := W5) (by rw [HW5.out]; exact put_to 4 (Go.Operand.tmp 63) (Go.Operand.const (Go.Value.bool true)) rfl ep (1 + r) (.bool true) rfl rfl 84 _ TQ.out.tk.eb (by kernel_rfl) (sh_le _ _ _ HR4.out _) (one_bool _) _ (sh_put _ _ _ _ _ _ _ _ _ _ HR4.out _)) ⟨keep_sl FW5.out, ?_⟩
    refine Og.s_take 23 { dst := some 66, op := Go.Op.indexAddr 82 (Go.Operand.tmp 65) (Go.Operand.tmp 60), type := 0, pos := "taking.go:109", after := #[{ on := 22, ground := Go.Ground.data }, { on := 16, ground := Go.Ground.data }, { on := 0, ground := Go.Ground.phase }, { on := 1, ground := Go.Ground.phase }, { on := 2, ground := Go.Ground.phase }, { on := 3, ground := Go.Ground.phase }, { on := 4, ground := Go.Ground.phase }, { on := 5, ground := Go.Ground.phase }, { on := 6, ground := Go.Ground.phase }, { on := 7, ground := Go.Ground.phase }, { on := 8, ground := Go.Ground.phase }, { on := 9, ground := Go.Ground.phase }, { on := 10, ground := Go.Ground.phase }, { on := 11, ground := Go.Ground.phase }, { on := 12, ground := Go.Ground.phase }, { on := 13, ground := Go.Ground.phase }, { on := 14, ground := Go.Ground.phase }, { on := 15, ground := Go.Ground.phase }, { on := 16, ground := Go.Ground.phase }, { on := 17, ground := Go.Ground.phase }, { on := 18, ground := Go.Ground.phase }, { on := 19, ground := Go.Ground.phase }, { on := 20, ground := Go.Ground.phase }], guard := none } (.pointer (some ⟨ep, 1 + ra, none⟩)) _ (by kernel_rfl) (by kernel_rfl) (by kernel_rfl) (by kernel_rfl) (by kernel_rfl) (fun _ _ _ h => h) (fun h => absurd h (by decide)) (fun x' hx => ?_) (by simp only [Act.put, List.setIfInBounds_toArray, List.set_cons_zero, List.set_cons_succ]; rfl) ?_
    · have hr9 : ¬ (4 : Int) ≤ (ra : Int) := by (have := HA4.out); omega
      go_simp
    obtain ⟨W6, hW6⟩ : ∃ W6, W6 = W5.setRow ep (ecells (⟨-1, setB (setB s r true) ra true, b, a, k, wt, td, q⟩) qa3 qc3) := ⟨_, rfl⟩
    have TW6 := Lib.hid (TW5.out.row (⟨-1, setB (setB s r true) ra true, b, a, k, wt, td, q⟩) rfl)
    rw [← hW6] at TW6
    have HW6 := Lib.hid hW6
    clear hW6
    have RW6 := Lib.hid (show W6.heap[mb]? = some (.cells (cells m).toArray 67 (0, 0)) by rw [HW6.out, setRow_other _ _ _ _ HME.out]; exact RW5.out)
    have FW6 := Lib.hid (show (fun x : World => x.cell? ⟨tp, 2, none⟩ = some (.pointer (some ⟨ep, 0, none⟩)) ∧ x.cell? ⟨mb, 1, none⟩ = some (.int .i64 (r : Int)) ∧ x.cell? ⟨ep, 6, none⟩ = some (.int .i64 (ra : Int))) W6 from ⟨TW6.out.tk.t2, (show _ = some (Value.int .i64 (r : Int)) from HRF.out ▸ (msg_cell RW6.out).2.1), (show _ = some (Value.int .i64 (ra : Int)) from HRA.out ▸ TW6.out.tk.e6)⟩)
    refine Og.s_one 24 { dst := none, op := Go.Op.store 4 (Go.Operand.tmp 66) (Go.Operand.const (Go.Value.bool true)), type := 0, pos := "taking.go:109", after := #[{ on := 23, ground := Go.Ground.data }, { on := 20, ground := Go.Ground.chain }, { on := 0, ground := Go.Ground.phase }, { on := 1, ground := Go.Ground.phase }, { on := 2, ground := Go.Ground.phase }, { on := 3, ground := Go.Ground.phase }, { on := 4, ground := Go.Ground.phase }, { on := 5, ground := Go.Ground.phase }, { on := 6, ground := Go.Ground.phase }, { on := 7, ground := Go.Ground.phase }, { on := 8, ground := Go.Ground.phase }, { on := 9, ground := Go.Ground.phase }, { on := 10, ground := Go.Ground.phase }, { on := 11, ground := Go.Ground.phase }, { on := 12, ground := Go.Ground.phase }, { on := 13, ground := Go.Ground.phase }, { on := 14, ground := Go.Ground.phase }, { on := 15, ground := Go.Ground.phase }, { on := 16, ground := Go.Ground.phase }, { on := 17, ground := Go.Ground.phase }, { on := 18, ground := Go.Ground.phase }, { on := 19, ground := Go.Ground.phase }, { on := 20, ground := Go.Ground.phase }], guard := none } (by kernel_rfl) (by kernel_rfl) (by kernel_rfl) ?_
    refine Og.skip_to (w' := W6) (by rw [HW6.out]; exact put_to 4 (Go.Operand.tmp 66) (Go.Operand.const (Go.Value.bool true)) rfl ep (1 + ra) (.bool true) rfl rfl 84 _ TW5.out.tk.eb (by kernel_rfl) (sh_le _ _ _ HA4.out _) (one_bool _) _ (sh_put _ _ _ _ _ _ _ _ _ _ HA4.out _)) ⟨keep_sl FW6.out, ?_⟩
    refine Og.s_done (by kernel_rfl) ?_ _
    try simp only [Act.put, List.setIfInBounds_toArray, List.set_cons_zero, List.set_cons_succ]
    go_wp2_with (go_at_call 109; (with_reducible refine (tell_any _ 8 (by unfold Ev.i64B; decide) HAB.out HSL.out _ TW6.out.ta).mono ?_); rintro x W7 ⟨rfl, ht⟩)
    go_end0
    refine ⟨rfl, TT.before B0.out ?_⟩
    rw [HG2.out, show m.f.toNat = r by rw [HRF.out]; rfl, show a.toNat = ra by rw [HRA.out]; rfl]
    exact TW6.out.call ht
end
end Hm
end Go.Proofs.Ytfajkgbpeapcbaa
end
