import Derived.Test.YtfajkgbpeapcbaaNa30
import Derived.Test.YtfajkgbpeapcbaaNa27
import Derived.Test.YtfajkgbpeapcbaaNa28
import Derived.Test.YtfajkgbpeapcbaaNa18
set_option linter.unusedVariables false
set_option linter.unusedSimpArgs false

section
namespace Go.Proofs.Ytfajkgbpeapcbaa
open Go.RowKit
namespace Hm
open Nt
set_option maxRecDepth 100000
section
variable {tp ep mp g : Nat} {S Q : Nat → Prop}
theorem look_to {o : Oper} {ρ : Operand → Value} {w : World} {v : Value} {b : Nat} {k : Int} {hit : Bool} (hr : (Instr.lookup 148 (.map (some b)) (.int .i64 k) true).run Try.prog w = .ok (.tuple #[v, .bool hit]) w)
    (ho : o.op = .lookup 148 (.tmp 8) (.tmp 10) true) (hm : ρ (.tmp 8) = .map (some b)) (hx : ρ (.tmp 10) = .int .i64 k) : (execOp ρ o).run Try.prog w = .ok (.value (.tuple #[v, .bool hit])) w := by
  simp [execOp, ho, hm, hx, hr, Result.andThen]
set_option maxHeartbeats 8000000 in
theorem take_yes (T : Tg) (m : E) (hm : Ok m) (hby : Im.Byt m.b) (hf1 : 0 ≤ m.f) (hf2 : m.f ≤ 3) (hiv : Iv T.e) (hsl : T.sent.length + 5 * T.e.q.length ≤ 3800) (hrq : m.k ≠ 11 → m.k ≠ 12 → m.k ≠ 13 → Rq m) (hok : takeOk T m = true) (w : World) (h : Ta w tp ep mp g S Q T) :
    Calls Try.prog 62 #[.pointer (some ⟨tp, 0, none⟩), .agg (cells m).toArray] w fun r w' => r = .returned (.tuple #[]) ∧ TT w w' tp ep mp g S Q (takeP T m) := by
  obtain ⟨n, sent, ⟨o, s, b, a, k, wt, td, q⟩, bs⟩ := T
  obtain ⟨sa, sc, qa, qc, h⟩ := h
  obtain ⟨mb, B, hmb, hB, hb0, hr0⟩ := msg_box w m
  have HB := Lib.hid hB; have HMB := Lib.hid hmb; have B0 := Lib.hid hb0; have R0 := Lib.hid hr0
  have OW := Lib.hid (show ∀ j, own tp ep g S Q j → j < mb from fun j hj => by rw [HMB.out]; exact Tw.own_lt h j hj)
  have HME := Lib.hid (show mb ≠ ep from by have := h.lt.2.1; omega)
  have T0 := Lib.hid (Tw.start (h.kp B0.out))
  clear hB hmb hb0 hr0
  obtain ⟨T', hT⟩ : ∃ T', takeP ⟨n, sent, ⟨o, s, b, a, k, wt, td, q⟩, bs⟩ m = T' := ⟨_, rfl⟩
  rw [hT]
  have HT := Lib.hid hT
  clear h hT
  have HOK := Lib.hid hm; have HBY := Lib.hid hby; have HF := Lib.hid (show 0 ≤ m.f ∧ m.f ≤ 3 from ⟨hf1, hf2⟩)
  have HIV := Lib.hid (show Iv ⟨o, s, b, a, k, wt, td, q⟩ from hiv)
  have HSL := Lib.hid (show sent.length + 5 * q.length ≤ 3800 from hsl)
  have HKB := Lib.hid (show Ev.i64B m.k from hm.k)
  have HTO := Lib.hid hok
  have HRQ := Lib.hid hrq
  clear hm hby hf1 hf2 hiv hsl hok hrq
  by_cases hk : m.k = 11
  · have HK := Lib.hid hk
    have HHIT := Lib.hid (show (decide (m.k = 11) || decide (m.k = 12) || decide (m.k = 13)) = true by rw [hk]; rfl)
    have HOKK := Lib.hid (show backOk ⟨n, sent, ⟨o, s, b, a, k, wt, td, q⟩, bs⟩ m = true by have h9 := HTO.out; unfold takeOk at h9; rw [if_pos HK.out] at h9; exact h9)
    have HP := Lib.hid (show T' = backP ⟨n, sent, ⟨o, s, b, a, k, wt, td, q⟩, bs⟩ m by rw [← HT.out]; unfold takeP; rw [if_pos HK.out])
    clear hk
    go_enter Try.func62, Try.ntmps62
    go_wp2_with fail
    rw [← HB.out, ← HMB.out]
    obtain ⟨wq, hwq⟩ : ∃ wq, wq = { B with drawn := B.drawn + 1 } := ⟨_, rfl⟩
    have BQ := Lib.hid (show Below B.heap.size B wq by rw [hwq]; exact ⟨rfl, rfl, rfl, Nat.le_refl _, fun _ _ => rfl⟩)
    have HWQ := Lib.hid hwq
    clear hwq
    have TQ := Lib.hid (T0.out.kp BQ.out)
    have RQ := Lib.hid ((BQ.out.block _ (Array.getElem?_eq_some_iff.1 R0.out).1).trans R0.out)
    have HFA := Lib.hid (show (fun x : World => x.cell? ⟨mb, 0, none⟩ = some (.int .i64 m.k)) wq from (msg_cell RQ.out).1)
    refine Og.region_S (S := SL [3] (fun x : World => x.cell? ⟨mb, 0, none⟩ = some (.int .i64 m.k))) (by kernel_rfl) ?_
    rw [← HWQ.out]
    refine Og.s_take 0 { dst := some 7, op := Go.Op.move (Go.Operand.tmp 0), type := 146, pos := "taking.go:46", after := #[], guard := none } (.pointer (some ⟨tp, 0, none⟩)) _ (by kernel_rfl) (by kernel_rfl) (by kernel_rfl) (by kernel_rfl) (by kernel_rfl) (fun _ _ _ h => h) (fun h => absurd h (by decide)) (fun x' hx => ?_) (by simp only [Act.put, List.setIfInBounds_toArray, List.set_cons_zero, List.set_cons_succ]; rfl) ?_
    · go_simp; try (with_reducible rfl)
    refine Og.s_take 2 { dst := some 9, op := Go.Op.fieldAddr 67 (Go.Operand.tmp 3) 0, type := 0, pos := "taking.go:46", after := #[], guard := none } (.pointer (some ⟨mb, 0, none⟩)) _ (by kernel_rfl) (by kernel_rfl) (by kernel_rfl) (by kernel_rfl) (by kernel_rfl) (fun _ _ _ h => h) (fun h => absurd h (by decide)) (fun x' hx => ?_) (by simp only [Act.put, List.setIfInBounds_toArray, List.set_cons_zero, List.set_cons_succ]; rfl) ?_
    · go_simp; try (with_reducible rfl)
    refine Og.s_take 3 { dst := some 10, op := Go.Op.load 65 (Go.Operand.tmp 9), type := 65, pos := "taking.go:46", after := #[{ on := 2, ground := Go.Ground.data }], guard := none } (.int .i64 m.k) _ (by kernel_rfl) (by kernel_rfl) (by kernel_rfl) (by kernel_rfl) (by kernel_rfl) (fun _ _ _ h => h) (fun _ => HFA.out) (fun x' hx => ?_) (by simp only [Act.put, List.setIfInBounds_toArray, List.set_cons_zero, List.set_cons_succ]; rfl) ?_
    · have hx1 := (hx (by decide)); go_simp; try (with_reducible rfl)
    refine Og.s_one 1 { dst := some 8, op := Go.Op.call { callee := Go.Callee.value (Go.Operand.func 86), args := #[Go.Operand.tmp 7], argTypes := #[146] }, type := 148, pos := "taking.go:46", after := #[{ on := 0, ground := Go.Ground.data }], guard := none } (by kernel_rfl) (by kernel_rfl) (by kernel_rfl) ?_
    refine Og.call_to (w1 := wq) (f := 86) (args := #[.pointer (some ⟨tp, 0, none⟩)]) (by go_simp) ?_
    refine (answers_any wq).mono ?_
    rintro x W2 ⟨ab, rfl, hab, hom, hb⟩
    have T2 := Lib.hid (TQ.out.kp hb); have R2 := Lib.hid ((hb.block _ (Array.getElem?_eq_some_iff.1 RQ.out).1).trans RQ.out); have OM := Lib.hid hom
    refine ⟨_, rfl, keep_sl (show (fun x : World => x.cell? ⟨mb, 0, none⟩ = some (.int .i64 m.k)) W2 from (msg_cell R2.out).1), ?_⟩
    have BT := Lib.hid hb
    clear hab hom hb
    obtain ⟨v, hlk, hv13, hv12, hv11, hv0⟩ := look_fun OM.out HKB.out
    rw [HHIT.out] at hlk
    have HLK := Lib.hid hlk
    clear hlk
    refine Og.s_one 4 { dst := some 11, op := Go.Op.lookup 148 (Go.Operand.tmp 8) (Go.Operand.tmp 10) true, type := 147, pos := "taking.go:46", after := #[{ on := 1, ground := Go.Ground.data }, { on := 3, ground := Go.Ground.data }], guard := none } (by kernel_rfl) (by kernel_rfl) (by kernel_rfl) ?_
    refine Og.run_to (v := .tuple #[v, .bool true]) (w' := W2) (look_to HLK.out rfl rfl rfl) ⟨keep_sl (show (fun x : World => x.cell? ⟨mb, 0, none⟩ = some (.int .i64 m.k)) W2 from (msg_cell R2.out).1), ?_⟩
    refine Og.s_take 5 { dst := some 6, op := Go.Op.move (Go.Operand.tmp 11), type := 147, pos := "taking.go:46", after := #[{ on := 4, ground := Go.Ground.data }], guard := none } (.tuple #[v, .bool true]) _ (by kernel_rfl) (by kernel_rfl) (by kernel_rfl) (by kernel_rfl) (by kernel_rfl) (fun _ _ _ h => h) (fun h => absurd h (by decide)) (fun x' hx => ?_) (by simp only [Act.put, List.setIfInBounds_toArray, List.set_cons_zero, List.set_cons_succ]; rfl) ?_
    · go_simp; try (with_reducible rfl)
    refine Og.s_take 6 { dst := some 12, op := Go.Op.extract (Go.Operand.tmp 6) 0, type := 127, pos := "taking.go:46", after := #[{ on := 5, ground := Go.Ground.data }], guard := none } (v) _ (by kernel_rfl) (by kernel_rfl) (by kernel_rfl) (by kernel_rfl) (by kernel_rfl) (fun _ _ _ h => h) (fun h => absurd h (by decide)) (fun x' hx => ?_) (by simp only [Act.put, List.setIfInBounds_toArray, List.set_cons_zero, List.set_cons_succ]; rfl) ?_
    · go_simp; try (with_reducible rfl)
    refine Og.s_take 7 { dst := some 13, op := Go.Op.extract (Go.Operand.tmp 6) 1, type := 4, pos := "taking.go:46", after := #[{ on := 5, ground := Go.Ground.data }, { on := 8, ground := Go.Ground.gcOnly Go.Departure.lateStores }], guard := none } (.bool true) _ (by kernel_rfl) (by kernel_rfl) (by kernel_rfl) (by kernel_rfl) (by kernel_rfl) (fun _ _ _ h => h) (fun h => absurd h (by decide)) (fun x' hx => ?_) (by simp only [Act.put, List.setIfInBounds_toArray, List.set_cons_zero, List.set_cons_succ]; rfl) ?_
    · go_simp; try (with_reducible rfl)
    refine Og.s_take 8 { dst := some 4, op := Go.Op.assign (Go.Operand.tmp 12), type := 127, pos := "taking.go:46", after := #[{ on := 6, ground := Go.Ground.data }, { on := 1, ground := Go.Ground.chain }, { on := 0, ground := Go.Ground.phase }, { on := 1, ground := Go.Ground.phase }, { on := 2, ground := Go.Ground.phase }, { on := 3, ground := Go.Ground.phase }, { on := 4, ground := Go.Ground.phase }, { on := 5, ground := Go.Ground.phase }, { on := 6, ground := Go.Ground.phase }, { on := 7, ground := Go.Ground.textOnly Go.Departure.lateStores }], guard := none } (v) _ (by kernel_rfl) (by kernel_rfl) (by kernel_rfl) (by kernel_rfl) (by kernel_rfl) (fun _ _ _ h => h) (fun h => absurd h (by decide)) (fun x' hx => ?_) (by simp only [Act.put, List.setIfInBounds_toArray, List.set_cons_zero, List.set_cons_succ]; rfl) ?_
    · go_simp; try (with_reducible rfl)
    refine Og.s_take 9 { dst := some 5, op := Go.Op.assign (Go.Operand.tmp 13), type := 4, pos := "taking.go:46", after := #[{ on := 7, ground := Go.Ground.data }, { on := 8, ground := Go.Ground.chain }, { on := 0, ground := Go.Ground.phase }, { on := 1, ground := Go.Ground.phase }, { on := 2, ground := Go.Ground.phase }, { on := 3, ground := Go.Ground.phase }, { on := 4, ground := Go.Ground.phase }, { on := 5, ground := Go.Ground.phase }, { on := 6, ground := Go.Ground.phase }, { on := 7, ground := Go.Ground.phase }, { on := 8, ground := Go.Ground.phase }], guard := none } (.bool true) _ (by kernel_rfl) (by kernel_rfl) (by kernel_rfl) (by kernel_rfl) (by kernel_rfl) (fun _ _ _ h => h) (fun h => absurd h (by decide)) (fun x' hx => ?_) (by simp only [Act.put, List.setIfInBounds_toArray, List.set_cons_zero, List.set_cons_succ]; rfl) ?_
    · go_simp; try (with_reducible rfl)
    refine Og.s_done (by kernel_rfl) ?_ _
    try simp only [Act.put, List.setIfInBounds_toArray, List.set_cons_zero, List.set_cons_succ]
    have HV := Lib.hid (show v = .func (.func 97) #[.pointer (some ⟨tp, 0, none⟩)] #[] from hv11 (by rw [HK.out]; decide) (by rw [HK.out]; decide) HK.out)
    clear hv13 hv12 hv11 hv0
    obtain rfl := HV.out
    have RP := Lib.hid (T2.out.other R0.out OW.out)
    have KC := Lib.hid (back_any ⟨n, sent, ⟨o, s, b, a, k, wt, td, q⟩, bs⟩ m HOK.out HBY.out HF.out.1 HF.out.2 HIV.out.a1 HIV.out.a2 (show sent.length ≤ 3990 by have := HSL.out; omega) HOKK.out W2 T2.out.ta)
    go_wp2_with (first
      | ((with_reducible show wpList _ _ _ (Oper.mk (some 16) _ _ _ _ _ :: _) _ _); refine wpList_load_row rfl 67 (.tmp 3) rfl mb rfl 67 _ (0, 0) _ RP.out Try.underlying67 rfl (by rw [HOK.out.size]; exact size_msg) ?_)
      | ((with_reducible refine KC.out.mono ?_); rintro x W3 ⟨rfl, ht⟩))
    first | go_end0 | refine bodyPost_ret (results_none rfl _ _ _) rfl ?_
    refine ⟨rfl, TT.before B0.out ?_⟩
    rw [HP.out]
    exact T2.out.call ht
  have H11 := Lib.hid hk
  clear hk
  by_cases hk : m.k = 12
  · have HK := Lib.hid hk
    have HHIT := Lib.hid (show (decide (m.k = 11) || decide (m.k = 12) || decide (m.k = 13)) = true by rw [hk]; rfl)
    have HOKK := Lib.hid (show ackOk ⟨n, sent, ⟨o, s, b, a, k, wt, td, q⟩, bs⟩ m = true by have h9 := HTO.out; unfold takeOk at h9; rw [if_neg (by rw [HK.out]; decide), if_pos HK.out] at h9; exact h9)
    have HP := Lib.hid (show T' = ackP ⟨n, sent, ⟨o, s, b, a, k, wt, td, q⟩, bs⟩ m by rw [← HT.out]; unfold takeP; rw [if_neg (by rw [HK.out]; decide), if_pos HK.out])
    clear hk
    go_enter Try.func62, Try.ntmps62
    go_wp2_with fail
    rw [← HB.out, ← HMB.out]
    obtain ⟨wq, hwq⟩ : ∃ wq, wq = { B with drawn := B.drawn + 1 } := ⟨_, rfl⟩
    have BQ := Lib.hid (show Below B.heap.size B wq by rw [hwq]; exact ⟨rfl, rfl, rfl, Nat.le_refl _, fun _ _ => rfl⟩)
    have HWQ := Lib.hid hwq
    clear hwq
    have TQ := Lib.hid (T0.out.kp BQ.out)
    have RQ := Lib.hid ((BQ.out.block _ (Array.getElem?_eq_some_iff.1 R0.out).1).trans R0.out)
    have HFA := Lib.hid (show (fun x : World => x.cell? ⟨mb, 0, none⟩ = some (.int .i64 m.k)) wq from (msg_cell RQ.out).1)
    refine Og.region_S (S := SL [3] (fun x : World => x.cell? ⟨mb, 0, none⟩ = some (.int .i64 m.k))) (by kernel_rfl) ?_
    rw [← HWQ.out]
    refine Og.s_take 0 { dst := some 7, op := Go.Op.move (Go.Operand.tmp 0), type := 146, pos := "taking.go:46", after := #[], guard := none } (.pointer (some ⟨tp, 0, none⟩)) _ (by kernel_rfl) (by kernel_rfl) (by kernel_rfl) (by kernel_rfl) (by kernel_rfl) (fun _ _ _ h => h) (fun h => absurd h (by decide)) (fun x' hx => ?_) (by simp only [Act.put, List.setIfInBounds_toArray, List.set_cons_zero, List.set_cons_succ]; rfl) ?_
    · go_simp; try (with_reducible rfl)
    refine Og.s_take 2 { dst := some 9, op := Go.Op.fieldAddr 67 (Go.Operand.tmp 3) 0, type := 0, pos := "taking.go:46", after := #[], guard := none } (.pointer (some ⟨mb, 0, none⟩)) _ (by kernel_rfl) (by kernel_rfl) (by kernel_rfl) (by kernel_rfl) (by kernel_rfl) (fun _ _ _ h => h) (fun h => absurd h (by decide)) (fun x' hx => ?_) (by simp only [Act.put, List.setIfInBounds_toArray, List.set_cons_zero, List.set_cons_succ]; rfl) ?_
    · go_simp; try (with_reducible rfl)
    refine Og.s_take 3 { dst := some 10, op := Go.Op.load 65 (Go.Operand.tmp 9), type := 65, pos := "taking.go:46", after := #[{ on := 2, ground := Go.Ground.data }], guard := none } (.int .i64 m.k) _ (by kernel_rfl) (by kernel_rfl) (by kernel_rfl) (by kernel_rfl) (by kernel_rfl) (fun _ _ _ h => h) (fun _ => HFA.out) (fun x' hx => ?_) (by simp only [Act.put, List.setIfInBounds_toArray, List.set_cons_zero, List.set_cons_succ]; rfl) ?_
    · have hx1 := (hx (by decide)); go_simp; try (with_reducible rfl)
    refine Og.s_one 1 { dst := some 8, op := Go.Op.call { callee := Go.Callee.value (Go.Operand.func 86), args := #[Go.Operand.tmp 7], argTypes := #[146] }, type := 148, pos := "taking.go:46", after := #[{ on := 0, ground := Go.Ground.data }], guard := none } (by kernel_rfl) (by kernel_rfl) (by kernel_rfl) ?_
    refine Og.call_to (w1 := wq) (f := 86) (args := #[.pointer (some ⟨tp, 0, none⟩)]) (by go_simp) ?_
    refine (answers_any wq).mono ?_
    rintro x W2 ⟨ab, rfl, hab, hom, hb⟩
    have T2 := Lib.hid (TQ.out.kp hb); have R2 := Lib.hid ((hb.block _ (Array.getElem?_eq_some_iff.1 RQ.out).1).trans RQ.out); have OM := Lib.hid hom
    refine ⟨_, rfl, keep_sl (show (fun x : World => x.cell? ⟨mb, 0, none⟩ = some (.int .i64 m.k)) W2 from (msg_cell R2.out).1), ?_⟩
    have BT := Lib.hid hb
    clear hab hom hb
    obtain ⟨v, hlk, hv13, hv12, hv11, hv0⟩ := look_fun OM.out HKB.out
    rw [HHIT.out] at hlk
    have HLK := Lib.hid hlk
    clear hlk
    refine Og.s_one 4 { dst := some 11, op := Go.Op.lookup 148 (Go.Operand.tmp 8) (Go.Operand.tmp 10) true, type := 147, pos := "taking.go:46", after := #[{ on := 1, ground := Go.Ground.data }, { on := 3, ground := Go.Ground.data }], guard := none } (by kernel_rfl) (by kernel_rfl) (by kernel_rfl) ?_
    refine Og.run_to (v := .tuple #[v, .bool true]) (w' := W2) (look_to HLK.out rfl rfl rfl) ⟨keep_sl (show (fun x : World => x.cell? ⟨mb, 0, none⟩ = some (.int .i64 m.k)) W2 from (msg_cell R2.out).1), ?_⟩
    refine Og.s_take 5 { dst := some 6, op := Go.Op.move (Go.Operand.tmp 11), type := 147, pos := "taking.go:46", after := #[{ on := 4, ground := Go.Ground.data }], guard := none } (.tuple #[v, .bool true]) _ (by kernel_rfl) (by kernel_rfl) (by kernel_rfl) (by kernel_rfl) (by kernel_rfl) (fun _ _ _ h => h) (fun h => absurd h (by decide)) (fun x' hx => ?_) (by simp only [Act.put, List.setIfInBounds_toArray, List.set_cons_zero, List.set_cons_succ]; rfl) ?_
    · go_simp; try (with_reducible rfl)
    refine Og.s_take 6 { dst := some 12, op := Go.Op.extract (Go.Operand.tmp 6) 0, type := 127, pos := "taking.go:46", after := #[{ on := 5, ground := Go.Ground.data }], guard := none } (v) _ (by kernel_rfl) (by kernel_rfl) (by kernel_rfl) (by kernel_rfl) (by kernel_rfl) (fun _ _ _ h => h) (fun h => absurd h (by decide)) (fun x' hx => ?_) (by simp only [Act.put, List.setIfInBounds_toArray, List.set_cons_zero, List.set_cons_succ]; rfl) ?_
    · go_simp; try (with_reducible rfl)
    refine Og.s_take 7 { dst := some 13, op := Go.Op.extract (Go.Operand.tmp 6) 1, type := 4, pos := "taking.go:46", after := #[{ on := 5, ground := Go.Ground.data }, { on := 8, ground := Go.Ground.gcOnly Go.Departure.lateStores }], guard := none } (.bool true) _ (by kernel_rfl) (by kernel_rfl) (by kernel_rfl) (by kernel_rfl) (by kernel_rfl) (fun _ _ _ h => h) (fun h => absurd h (by decide)) (fun x' hx => ?_) (by simp only [Act.put, List.setIfInBounds_toArray, List.set_cons_zero, List.set_cons_succ]; rfl) ?_
    · go_simp; try (with_reducible rfl)
    refine Og.s_take 8 { dst := some 4, op := Go.Op.assign (Go.Operand.tmp 12), type := 127, pos := "taking.go:46", after := #[{ on := 6, ground := Go.Ground.data }, { on := 1, ground := Go.Ground.chain }, { on := 0, ground := Go.Ground.phase }, { on := 1, ground := Go.Ground.phase }, { on := 2, ground := Go.Ground.phase }, { on := 3, ground := Go.Ground.phase }, { on := 4, ground := Go.Ground.phase }, { on := 5, ground := Go.Ground.phase }, { on := 6, ground := Go.Ground.phase }, { on := 7, ground := Go.Ground.textOnly Go.Departure.lateStores }], guard := none } (v) _ (by kernel_rfl) (by kernel_rfl) (by kernel_rfl) (by kernel_rfl) (by kernel_rfl) (fun _ _ _ h => h) (fun h => absurd h (by decide)) (fun x' hx => ?_) (by simp only [Act.put, List.setIfInBounds_toArray, List.set_cons_zero, List.set_cons_succ]; rfl) ?_
    · go_simp; try (with_reducible rfl)
    refine Og.s_take 9 { dst := some 5, op := Go.Op.assign (Go.Operand.tmp 13), type := 4, pos := "taking.go:46", after := #[{ on := 7, ground := Go.Ground.data }, { on := 8, ground := Go.Ground.chain }, { on := 0, ground := Go.Ground.phase }, { on := 1, ground := Go.Ground.phase }, { on := 2, ground := Go.Ground.phase }, { on := 3, ground := Go.Ground.phase }, { on := 4, ground := Go.Ground.phase }, { on := 5, ground := Go.Ground.phase }, { on := 6, ground := Go.Ground.phase }, { on := 7, ground := Go.Ground.phase }, { on := 8, ground := Go.Ground.phase }], guard := none } (.bool true) _ (by kernel_rfl) (by kernel_rfl) (by kernel_rfl) (by kernel_rfl) (by kernel_rfl) (fun _ _ _ h => h) (fun h => absurd h (by decide)) (fun x' hx => ?_) (by simp only [Act.put, List.setIfInBounds_toArray, List.set_cons_zero, List.set_cons_succ]; rfl) ?_
    · go_simp; try (with_reducible rfl)
    refine Og.s_done (by kernel_rfl) ?_ _
    try simp only [Act.put, List.setIfInBounds_toArray, List.set_cons_zero, List.set_cons_succ]
    have HV := Lib.hid (show v = .func (.func 98) #[.pointer (some ⟨tp, 0, none⟩)] #[] from hv12 (by rw [HK.out]; decide) HK.out)
    clear hv13 hv12 hv11 hv0
    obtain rfl := HV.out
    have RP := Lib.hid (T2.out.other R0.out OW.out)
    have KC := Lib.hid (ack_any ⟨n, sent, ⟨o, s, b, a, k, wt, td, q⟩, bs⟩ m HOK.out HF.out.1 HF.out.2 HIV.out.a1 HIV.out.a2 HIV.out.w2 (show sent.length ≤ 3990 by have := HSL.out; omega) HOKK.out W2 T2.out.ta)
    go_wp2_with (first
      | ((with_reducible show wpList _ _ _ (Oper.mk (some 16) _ _ _ _ _ :: _) _ _); refine wpList_load_row rfl 67 (.tmp 3) rfl mb rfl 67 _ (0, 0) _ RP.out Try.underlying67 rfl (by rw [HOK.out.size]; exact size_msg) ?_)
      | ((with_reducible refine KC.out.mono ?_); rintro x W3 ⟨rfl, ht⟩))
    first | go_end0 | refine bodyPost_ret (results_none rfl _ _ _) rfl ?_
    refine ⟨rfl, TT.before B0.out ?_⟩
    rw [HP.out]
    exact T2.out.call ht
  have H12 := Lib.hid hk
  clear hk
  by_cases hk : m.k = 13
  · have HK := Lib.hid hk
    have HHIT := Lib.hid (show (decide (m.k = 11) || decide (m.k = 12) || decide (m.k = 13)) = true by rw [hk]; rfl)
    have HOKK := Lib.hid (show doneOk ⟨n, sent, ⟨o, s, b, a, k, wt, td, q⟩, bs⟩ m = true by have h9 := HTO.out; unfold takeOk at h9; rw [if_neg (by rw [HK.out]; decide), if_neg (by rw [HK.out]; decide), if_pos HK.out] at h9; exact h9)
    have HP := Lib.hid (show T' = doneP ⟨n, sent, ⟨o, s, b, a, k, wt, td, q⟩, bs⟩ m by rw [← HT.out]; unfold takeP; rw [if_neg (by rw [HK.out]; decide), if_neg (by rw [HK.out]; decide), if_pos HK.out])
    clear hk
    go_enter Try.func62, Try.ntmps62
    go_wp2_with fail
    rw [← HB.out, ← HMB.out]
    obtain ⟨wq, hwq⟩ : ∃ wq, wq = { B with drawn := B.drawn + 1 } := ⟨_, rfl⟩
    have BQ := Lib.hid (show Below B.heap.size B wq by rw [hwq]; exact ⟨rfl, rfl, rfl, Nat.le_refl _, fun _ _ => rfl⟩)
    have HWQ := Lib.hid hwq
    clear hwq
    have TQ := Lib.hid (T0.out.kp BQ.out)
    have RQ := Lib.hid ((BQ.out.block _ (Array.getElem?_eq_some_iff.1 R0.out).1).trans R0.out)
    have HFA := Lib.hid (show (fun x : World => x.cell? ⟨mb, 0, none⟩ = some (.int .i64 m.k)) wq from (msg_cell RQ.out).1)
    refine Og.region_S (S := SL [3] (fun x : World => x.cell? ⟨mb, 0, none⟩ = some (.int .i64 m.k))) (by kernel_rfl) ?_
    rw [← HWQ.out]
    refine Og.s_take 0 { dst := some 7, op := Go.Op.move (Go.Operand.tmp 0), type := 146, pos := "taking.go:46", after := #[], guard := none } (.pointer (some ⟨tp, 0, none⟩)) _ (by kernel_rfl) (by kernel_rfl) (by kernel_rfl) (by kernel_rfl) (by kernel_rfl) (fun _ _ _ h => h) (fun h => absurd h (by decide)) (fun x' hx => ?_) (by simp only [Act.put, List.setIfInBounds_toArray, List.set_cons_zero, List.set_cons_succ]; rfl) ?_
    · go_simp; try (with_reducible rfl)
    refine Og.s_take 2 { dst := some 9, op := Go.Op.fieldAddr 67 (Go.Operand.tmp 3) 0, type := 0, pos := "taking.go:46", after := #[], guard := none } (.pointer (some ⟨mb, 0, none⟩)) _ (by kernel_rfl) (by kernel_rfl) (by kernel_rfl) (by kernel_rfl) (by kernel_rfl) (fun _ _ _ h => h) (fun h => absurd h (by decide)) (fun x' hx => ?_) (by simp only [Act.put, List.setIfInBounds_toArray, List.set_cons_zero, List.set_cons_succ]; rfl) ?_
    · go_simp; try (with_reducible rfl)
    refine Og.s_take 3 { dst := some 10, op := Go.Op.load 65 (Go.Operand.tmp 9), type := 65, pos := "taking.go:46", after := #[{ on := 2, ground := Go.Ground.data }], guard := none } (.int .i64 m.k) _ (by kernel_rfl) (by kernel_rfl) (by kernel_rfl) (by kernel_rfl) (by kernel_rfl) (fun _ _ _ h => h) (fun _ => HFA.out) (fun x' hx => ?_) (by simp only [Act.put, List.setIfInBounds_toArray, List.set_cons_zero, List.set_cons_succ]; rfl) ?_
    · have hx1 := (hx (by decide)); go_simp; try (with_reducible rfl)
    refine Og.s_one 1 { dst := some 8, op := Go.Op.call { callee := Go.Callee.value (Go.Operand.func 86), args := #[Go.Operand.tmp 7], argTypes := #[146] }, type := 148, pos := "taking.go:46", after := #[{ on := 0, ground := Go.Ground.data }], guard := none } (by kernel_rfl) (by kernel_rfl) (by kernel_rfl) ?_
    refine Og.call_to (w1 := wq) (f := 86) (args := #[.pointer (some ⟨tp, 0, none⟩)]) (by go_simp) ?_
    refine (answers_any wq).mono ?_
    rintro x W2 ⟨ab, rfl, hab, hom, hb⟩
    have T2 := Lib.hid (TQ.out.kp hb); have R2 := Lib.hid ((hb.block _ (Array.getElem?_eq_some_iff.1 RQ.out).1).trans RQ.out); have OM := Lib.hid hom
    refine ⟨_, rfl, keep_sl (show (fun x : World => x.cell? ⟨mb, 0, none⟩ = some (.int .i64 m.k)) W2 from (msg_cell R2.out).1), ?_⟩
    have BT := Lib.hid hb
    clear hab hom hb
    obtain ⟨v, hlk, hv13, hv12, hv11, hv0⟩ := look_fun OM.out HKB.out
    rw [HHIT.out] at hlk
    have HLK := Lib.hid hlk
    clear hlk
    refine Og.s_one 4 { dst := some 11, op := Go.Op.lookup 148 (Go.Operand.tmp 8) (Go.Operand.tmp 10) true, type := 147, pos := "taking.go:46", after := #[{ on := 1, ground := Go.Ground.data }, { on := 3, ground := Go.Ground.data }], guard := none } (by kernel_rfl) (by kernel_rfl) (by kernel_rfl) ?_
    refine Og.run_to (v := .tuple #[v, .bool true]) (w' := W2) (look_to HLK.out rfl rfl rfl) ⟨keep_sl (show (fun x : World => x.cell? ⟨mb, 0, none⟩ = some (.int .i64 m.k)) W2 from (msg_cell R2.out).1), ?_⟩
    refine Og.s_take 5 { dst := some 6, op := Go.Op.move (Go.Operand.tmp 11), type := 147, pos := "taking.go:46", after := #[{ on := 4, ground := Go.Ground.data }], guard := none } (.tuple #[v, .bool true]) _ (by kernel_rfl) (by kernel_rfl) (by kernel_rfl) (by kernel_rfl) (by kernel_rfl) (fun _ _ _ h => h) (fun h => absurd h (by decide)) (fun x' hx => ?_) (by simp only [Act.put, List.setIfInBounds_toArray, List.set_cons_zero, List.set_cons_succ]; rfl) ?_
    · go_simp; try (with_reducible rfl)
    refine Og.s_take 6 { dst := some 12, op := Go.Op.extract (Go.Operand.tmp 6) 0, type := 127, pos := "taking.go:46", after := #[{ on := 5, ground := Go.Ground.data }], guard := none } (v) _ (by kernel_rfl) (by kernel_rfl) (by kernel_rfl) (by kernel_rfl) (by kernel_rfl) (fun _ _ _ h => h) (fun h => absurd h (by decide)) (fun x' hx => ?_) (by simp only [Act.put, List.setIfInBounds_toArray, List.set_cons_zero, List.set_cons_succ]; rfl) ?_
    · go_simp; try (with_reducible rfl)
    refine Og.s_take 7 { dst := some 13, op := Go.Op.extract (Go.Operand.tmp 6) 1, type := 4, pos := "taking.go:46", after := #[{ on := 5, ground := Go.Ground.data }, { on := 8, ground := Go.Ground.gcOnly Go.Departure.lateStores }], guard := none } (.bool true) _ (by kernel_rfl) (by kernel_rfl) (by kernel_rfl) (by kernel_rfl) (by kernel_rfl) (fun _ _ _ h => h) (fun h => absurd h (by decide)) (fun x' hx => ?_) (by simp only [Act.put, List.setIfInBounds_toArray, List.set_cons_zero, List.set_cons_succ]; rfl) ?_
    · go_simp; try (with_reducible rfl)
    refine Og.s_take 8 { dst := some 4, op := Go.Op.assign (Go.Operand.tmp 12), type := 127, pos := "taking.go:46", after := #[{ on := 6, ground := Go.Ground.data }, { on := 1, ground := Go.Ground.chain }, { on := 0, ground := Go.Ground.phase }, { on := 1, ground := Go.Ground.phase }, { on := 2, ground := Go.Ground.phase }, { on := 3, ground := Go.Ground.phase }, { on := 4, ground := Go.Ground.phase }, { on := 5, ground := Go.Ground.phase }, { on := 6, ground := Go.Ground.phase }, { on := 7, ground := Go.Ground.textOnly Go.Departure.lateStores }], guard := none } (v) _ (by kernel_rfl) (by kernel_rfl) (by kernel_rfl) (by kernel_rfl) (by kernel_rfl) (fun _ _ _ h => h) (fun h => absurd h (by decide)) (fun x' hx => ?_) (by simp only [Act.put, List.setIfInBounds_toArray, List.set_cons_zero, List.set_cons_succ]; rfl) ?_
    · go_simp; try (with_reducible rfl)
    refine Og.s_take 9 { dst := some 5, op := Go.Op.assign (Go.Operand.tmp 13), type := 4, pos := "taking.go:46", after := #[{ on := 7, ground := Go.Ground.data }, { on := 8, ground := Go.Ground.chain }, { on := 0, ground := Go.Ground.phase }, { on := 1, ground := Go.Ground.phase }, { on := 2, ground := Go.Ground.phase }, { on := 3, ground := Go.Ground.phase }, { on := 4, ground := Go.Ground.phase }, { on := 5, ground := Go.Ground.phase }, { on := 6, ground := Go.Ground.phase }, { on := 7, ground := Go.Ground.phase }, { on := 8, ground := Go.Ground.phase }], guard := none } (.bool true) _ (by kernel_rfl) (by kernel_rfl) (by kernel_rfl) (by kernel_rfl) (by kernel_rfl) (fun _ _ _ h => h) (fun h => absurd h (by decide)) (fun x' hx => ?_) (by simp only [Act.put, List.setIfInBounds_toArray, List.set_cons_zero, List.set_cons_succ]; rfl) ?_
    · go_simp; try (with_reducible rfl)
    refine Og.s_done (by kernel_rfl) ?_ _
    try simp only [Act.put, List.setIfInBounds_toArray, List.set_cons_zero, List.set_cons_succ]
    have HV := Lib.hid (show v = .func (.func 99) #[.pointer (some ⟨tp, 0, none⟩)] #[] from hv13 HK.out)
    clear hv13 hv12 hv11 hv0
    obtain rfl := HV.out
    have RP := Lib.hid (T2.out.other R0.out OW.out)
    have KC := Lib.hid (done_any ⟨n, sent, ⟨o, s, b, a, k, wt, td, q⟩, bs⟩ m HOK.out HIV.out (show sent.length + 5 * q.length ≤ 3900 by have := HSL.out; omega) HOKK.out W2 T2.out.ta)
    go_wp2_with (first
      | ((with_reducible show wpList _ _ _ (Oper.mk (some 16) _ _ _ _ _ :: _) _ _); refine wpList_load_row rfl 67 (.tmp 3) rfl mb rfl 67 _ (0, 0) _ RP.out Try.underlying67 rfl (by rw [HOK.out.size]; exact size_msg) ?_)
      | ((with_reducible refine KC.out.mono ?_); rintro x W3 ⟨rfl, ht⟩))
    first | go_end0 | refine bodyPost_ret (results_none rfl _ _ _) rfl ?_
    refine ⟨rfl, TT.before B0.out ?_⟩
    rw [HP.out]
    exact T2.out.call ht
  have HM := Lib.hid (HRQ.out H11.out H12.out hk)
  have HHIT := Lib.hid (show (decide (m.k = 11) || decide (m.k = 12) || decide (m.k = 13)) = false by simp [H11.out, H12.out, hk])
  have HP := Lib.hid (show T' = goP (q.length + 1) (pushP ⟨n, sent, ⟨o, s, b, a, k, wt, td, q⟩, bs⟩ m) by rw [← HT.out]; unfold takeP; rw [if_neg H11.out, if_neg H12.out, if_neg hk])
  clear hk
  go_enter Try.func62, Try.ntmps62
  go_wp2_with fail
  rw [← HB.out, ← HMB.out]
  obtain ⟨wq, hwq⟩ : ∃ wq, wq = { B with drawn := B.drawn + 1 } := ⟨_, rfl⟩
  have BQ := Lib.hid (show Below B.heap.size B wq by rw [hwq]; exact ⟨rfl, rfl, rfl, Nat.le_refl _, fun _ _ => rfl⟩)
  have HWQ := Lib.hid hwq
  clear hwq
  have TQ := Lib.hid (T0.out.kp BQ.out)
  have RQ := Lib.hid ((BQ.out.block _ (Array.getElem?_eq_some_iff.1 R0.out).1).trans R0.out)
  have HFA := Lib.hid (show (fun x : World => x.cell? ⟨mb, 0, none⟩ = some (.int .i64 m.k)) wq from (msg_cell RQ.out).1)
  refine Og.region_S (S := SL [3] (fun x : World => x.cell? ⟨mb, 0, none⟩ = some (.int .i64 m.k))) (by kernel_rfl) ?_
  rw [← HWQ.out]
  refine Og.s_take 0 { dst := some 7, op := Go.Op.move (Go.Operand.tmp 0), type := 146, pos := "taking.go:46", after := #[], guard := none } (.pointer (some ⟨tp, 0, none⟩)) _ (by kernel_rfl) (by kernel_rfl) (by kernel_rfl) (by kernel_rfl) (by kernel_rfl) (fun _ _ _ h => h) (fun h => absurd h (by decide)) (fun x' hx => ?_) (by simp only [Act.put, List.setIfInBounds_toArray, List.set_cons_zero, List.set_cons_succ]; rfl) ?_
  · go_simp; try (with_reducible rfl)
  refine Og.s_take 2 { dst := some 9, op := Go.Op.fieldAddr 67 (Go.Operand.tmp 3) 0, type := 0, pos := "taking.go:46", after := #[], guard := none } (.pointer (some ⟨mb, 0, none⟩)) _ (by kernel_rfl) (by kernel_rfl) (by kernel_rfl) (by kernel_rfl) (by kernel_rfl) (fun _ _ _ h => h) (fun h => absurd h (by decide)) (fun x' hx => ?_) (by simp only [Act.put, List.setIfInBounds_toArray, List.set_cons_zero, List.set_cons_succ]; rfl) ?_
  · go_simp; try (with_reducible rfl)
  refine Og.s_take 3 { dst := some 10, op := Go.Op.load 65 (Go.Operand.tmp 9), type := 65, pos := "taking.go:46", after := #[{ on := 2, ground := Go.Ground.data }], guard := none } (.int .i64 m.k) _ (by kernel_rfl) (by kernel_rfl) (by kernel_rfl) (by kernel_rfl) (by kernel_rfl) (fun _ _ _ h => h) (fun _ => HFA.out) (fun x' hx => ?_) (by simp only [Act.put, List.setIfInBounds_toArray, List.set_cons_zero, List.set_cons_succ]; rfl) ?_
  · have hx1 := (hx (by decide)); go_simp; try (with_reducible rfl)
  refine Og.s_one 1 { dst := some 8, op := Go.Op.call { callee := Go.Callee.value (Go.Operand.func 86), args := #[Go.Operand.tmp 7], argTypes := #[146] }, type := 148, pos := "taking.go:46", after := #[{ on := 0, ground := Go.Ground.data }], guard := none } (by kernel_rfl) (by kernel_rfl) (by kernel_rfl) ?_
  refine Og.call_to (w1 := wq) (f := 86) (args := #[.pointer (some ⟨tp, 0, none⟩)]) (by go_simp) ?_
  refine (answers_any wq).mono ?_
  rintro x W2 ⟨ab, rfl, hab, hom, hb⟩
  have T2 := Lib.hid (TQ.out.kp hb); have R2 := Lib.hid ((hb.block _ (Array.getElem?_eq_some_iff.1 RQ.out).1).trans RQ.out); have OM := Lib.hid hom
  refine ⟨_, rfl, keep_sl (show (fun x : World => x.cell? ⟨mb, 0, none⟩ = some (.int .i64 m.k)) W2 from (msg_cell R2.out).1), ?_⟩
  have BT := Lib.hid hb
  clear hab hom hb
  obtain ⟨v, hlk, hv13, hv12, hv11, hv0⟩ := look_fun OM.out HKB.out
  rw [HHIT.out] at hlk
  have HLK := Lib.hid hlk
  clear hlk
  refine Og.s_one 4 { dst := some 11, op := Go.Op.lookup 148 (Go.Operand.tmp 8) (Go.Operand.tmp 10) true, type := 147, pos := "taking.go:46", after := #[{ on := 1, ground := Go.Ground.data }, { on := 3, ground := Go.Ground.data }], guard := none } (by kernel_rfl) (by kernel_rfl) (by kernel_rfl) ?_
  refine Og.run_to (v := .tuple #[v, .bool false]) (w' := W2) (look_to HLK.out rfl rfl rfl) ⟨keep_sl (show (fun x : World => x.cell? ⟨mb, 0, none⟩ = some (.int .i64 m.k)) W2 from (msg_cell R2.out).1), ?_⟩
  refine Og.s_take 5 { dst := some 6, op := Go.Op.move (Go.Operand.tmp 11), type := 147, pos := "taking.go:46", after := #[{ on := 4, ground := Go.Ground.data }], guard := none } (.tuple #[v, .bool false]) _ (by kernel_rfl) (by kernel_rfl) (by kernel_rfl) (by kernel_rfl) (by kernel_rfl) (fun _ _ _ h => h) (fun h => absurd h (by decide)) (fun x' hx => ?_) (by simp only [Act.put, List.setIfInBounds_toArray, List.set_cons_zero, List.set_cons_succ]; rfl) ?_
  · go_simp; try (with_reducible rfl)
  refine Og.s_take 6 { dst := some 12, op := Go.Op.extract (Go.Operand.tmp 6) 0, type := 127, pos := "taking.go:46", after := #[{ on := 5, ground := Go.Ground.data }], guard := none } (v) _ (by kernel_rfl) (by kernel_rfl) (by kernel_rfl) (by kernel_rfl) (by kernel_rfl) (fun _ _ _ h => h) (fun h => absurd h (by decide)) (fun x' hx => ?_) (by simp only [Act.put, List.setIfInBounds_toArray, List.set_cons_zero, List.set_cons_succ]; rfl) ?_
  · go_simp; try (with_reducible rfl)
  refine Og.s_take 7 { dst := some 13, op := Go.Op.extract (Go.Operand.tmp 6) 1, type := 4, pos := "taking.go:46", after := #[{ on := 5, ground := Go.Ground.data }, { on := 8, ground := Go.Ground.gcOnly Go.Departure.lateStores }], guard := none } (.bool false) _ (by kernel_rfl) (by kernel_rfl) (by kernel_rfl) (by kernel_rfl) (by kernel_rfl) (fun _ _ _ h => h) (fun h => absurd h (by decide)) (fun x' hx => ?_) (by simp only [Act.put, List.setIfInBounds_toArray, List.set_cons_zero, List.set_cons_succ]; rfl) ?_
  · go_simp; try (with_reducible rfl)
  refine Og.s_take 8 { dst := some 4, op := Go.Op.assign (Go.Operand.tmp 12), type := 127, pos := "taking.go:46", after := #[{ on := 6, ground := Go.Ground.data }, { on := 1, ground := Go.Ground.chain }, { on := 0, ground := Go.Ground.phase }, { on := 1, ground := Go.Ground.phase }, { on := 2, ground := Go.Ground.phase }, { on := 3, ground := Go.Ground.phase }, { on := 4, ground := Go.Ground.phase }, { on := 5, ground := Go.Ground.phase }, { on := 6, ground := Go.Ground.phase }, { on := 7, ground := Go.Ground.textOnly Go.Departure.lateStores }], guard := none } (v) _ (by kernel_rfl) (by kernel_rfl) (by kernel_rfl) (by kernel_rfl) (by kernel_rfl) (fun _ _ _ h => h) (fun h => absurd h (by decide)) (fun x' hx => ?_) (by simp only [Act.put, List.setIfInBounds_toArray, List.set_cons_zero, List.set_cons_succ]; rfl) ?_
  · go_simp; try (with_reducible rfl)
  refine Og.s_take 9 { dst := some 5, op := Go.Op.assign (Go.Operand.tmp 13), type := 4, pos := "taking.go:46", after := #[{ on := 7, ground := Go.Ground.data }, { on := 8, ground := Go.Ground.chain }, { on := 0, ground := Go.Ground.phase }, { on := 1, ground := Go.Ground.phase }, { on := 2, ground := Go.Ground.phase }, { on := 3, ground := Go.Ground.phase }, { on := 4, ground := Go.Ground.phase }, { on := 5, ground := Go.Ground.phase }, { on := 6, ground := Go.Ground.phase }, { on := 7, ground := Go.Ground.phase }, { on := 8, ground := Go.Ground.phase }], guard := none } (.bool false) _ (by kernel_rfl) (by kernel_rfl) (by kernel_rfl) (by kernel_rfl) (by kernel_rfl) (fun _ _ _ h => h) (fun h => absurd h (by decide)) (fun x' hx => ?_) (by simp only [Act.put, List.setIfInBounds_toArray, List.set_cons_zero, List.set_cons_succ]; rfl) ?_
  · go_simp; try (with_reducible rfl)
  refine Og.s_done (by kernel_rfl) ?_ _
  try simp only [Act.put, List.setIfInBounds_toArray, List.set_cons_zero, List.set_cons_succ]
  clear hv13 hv12 hv11 hv0
  obtain ⟨wp, hwp⟩ : ∃ wp, wp = W2 := ⟨_, rfl⟩
  have TP := Lib.hid (show Tw B wp _ _ _ _ _ _ _ _ _ _ _ _ _ from by rw [hwp]; exact T2.out)
  rw [← hwp]
  clear hwp HWQ BQ T2 R2 OM BT HLK
  go_wp2_with fail
  obtain ⟨wq, hwq⟩ : ∃ wq, wq = { wp with drawn := wp.drawn + 1 } := ⟨_, rfl⟩
  have BQ := Lib.hid (show Below wp.heap.size wp wq by rw [hwq]; exact ⟨rfl, rfl, rfl, Nat.le_refl _, fun _ _ => rfl⟩)
  have HWQ := Lib.hid hwq
  clear hwq
  have TQ := Lib.hid (TP.out.kp BQ.out)
  have RQ := Lib.hid ((BQ.out.block _ (Array.getElem?_eq_some_iff.1 (TP.out.other R0.out OW.out)).1).trans (TP.out.other R0.out OW.out))
  have HFA := Lib.hid (show (fun x : World => x.cell? ⟨tp, 2, none⟩ = some (.pointer (some ⟨ep, 0, none⟩)) ∧ x.cell? ⟨ep, 10, none⟩ = some (.slice qa q.length qc) ∧ x.heap[mb]? = some (.cells (cells m).toArray 67 (0, 0))) wq from ⟨TQ.out.tk.t2, TQ.out.tk.e10, RQ.out⟩)
  refine Og.region_S (S := SL [3, 7, 10, 11] (fun x : World => x.cell? ⟨tp, 2, none⟩ = some (.pointer (some ⟨ep, 0, none⟩)) ∧ x.cell? ⟨ep, 10, none⟩ = some (.slice qa q.length qc) ∧ x.heap[mb]? = some (.cells (cells m).toArray 67 (0, 0)))) (by kernel_rfl) ?_
  rw [← HWQ.out]
  refine Og.s_take 0 { dst := some 18, op := Go.Op.move (Go.Operand.tmp 0), type := 146, pos := "taking.go:50", after := #[], guard := none } (.pointer (some ⟨tp, 0, none⟩)) _ (by kernel_rfl) (by kernel_rfl) (by kernel_rfl) (by kernel_rfl) (by kernel_rfl) (fun _ _ _ h => h) (fun h => absurd h (by decide)) (fun x' hx => ?_) (by simp only [Act.put, List.setIfInBounds_toArray, List.set_cons_zero, List.set_cons_succ]; rfl) ?_
  · go_simp; try (with_reducible rfl)
  refine Og.s_take 1 { dst := some 19, op := Go.Op.nilCheck (Go.Operand.tmp 18), type := 0, pos := "taking.go:50", after := #[{ on := 0, ground := Go.Ground.data }], guard := none } (.pointer (some ⟨tp, 0, none⟩)) _ (by kernel_rfl) (by kernel_rfl) (by kernel_rfl) (by kernel_rfl) (by kernel_rfl) (fun _ _ _ h => h) (fun h => absurd h (by decide)) (fun x' hx => ?_) (by simp only [Act.put, List.setIfInBounds_toArray, List.set_cons_zero, List.set_cons_succ]; rfl) ?_
  · go_simp; try (with_reducible rfl)
  refine Og.s_take 2 { dst := some 20, op := Go.Op.fieldAddr 125 (Go.Operand.tmp 19) 1, type := 0, pos := "taking.go:50", after := #[{ on := 1, ground := Go.Ground.data }], guard := none } (.pointer (some ⟨tp, 2, none⟩)) _ (by kernel_rfl) (by kernel_rfl) (by kernel_rfl) (by kernel_rfl) (by kernel_rfl) (fun _ _ _ h => h) (fun h => absurd h (by decide)) (fun x' hx => ?_) (by simp only [Act.put, List.setIfInBounds_toArray, List.set_cons_zero, List.set_cons_succ]; rfl) ?_
  · go_simp; try (with_reducible rfl)
  refine Og.s_take 3 { dst := some 21, op := Go.Op.load 122 (Go.Operand.tmp 20), type := 122, pos := "taking.go:50", after := #[{ on := 2, ground := Go.Ground.data }], guard := none } (.pointer (some ⟨ep, 0, none⟩)) _ (by kernel_rfl) (by kernel_rfl) (by kernel_rfl) (by kernel_rfl) (by kernel_rfl) (fun _ _ _ h => h) (fun _ => HFA.out) (fun x' hx => ?_) (by simp only [Act.put, List.setIfInBounds_toArray, List.set_cons_zero, List.set_cons_succ]; rfl) ?_
  · have hx1 := (hx (by decide)).1; go_simp; try (with_reducible rfl)
  refine Og.s_take 4 { dst := some 22, op := Go.Op.move (Go.Operand.tmp 0), type := 146, pos := "taking.go:50", after := #[], guard := none } (.pointer (some ⟨tp, 0, none⟩)) _ (by kernel_rfl) (by kernel_rfl) (by kernel_rfl) (by kernel_rfl) (by kernel_rfl) (fun _ _ _ h => h) (fun h => absurd h (by decide)) (fun x' hx => ?_) (by simp only [Act.put, List.setIfInBounds_toArray, List.set_cons_zero, List.set_cons_succ]; rfl) ?_
  · go_simp; try (with_reducible rfl)
  refine Og.s_take 5 { dst := some 23, op := Go.Op.nilCheck (Go.Operand.tmp 22), type := 0, pos := "taking.go:50", after := #[{ on := 4, ground := Go.Ground.data }], guard := none } (.pointer (some ⟨tp, 0, none⟩)) _ (by kernel_rfl) (by kernel_rfl) (by kernel_rfl) (by kernel_rfl) (by kernel_rfl) (fun _ _ _ h => h) (fun h => absurd h (by decide)) (fun x' hx => ?_) (by simp only [Act.put, List.setIfInBounds_toArray, List.set_cons_zero, List.set_cons_succ]; rfl) ?_
  · go_simp; try (with_reducible rfl)
  refine Og.s_take 6 { dst := some 24, op := Go.Op.fieldAddr 125 (Go.Operand.tmp 23) 1, type := 0, pos := "taking.go:50", after := #[{ on := 5, ground := Go.Ground.data }], guard := none } (.pointer (some ⟨tp, 2, none⟩)) _ (by kernel_rfl) (by kernel_rfl) (by kernel_rfl) (by kernel_rfl) (by kernel_rfl) (fun _ _ _ h => h) (fun h => absurd h (by decide)) (fun x' hx => ?_) (by simp only [Act.put, List.setIfInBounds_toArray, List.set_cons_zero, List.set_cons_succ]; rfl) ?_
  · go_simp; try (with_reducible rfl)
  refine Og.s_take 7 { dst := some 25, op := Go.Op.load 122 (Go.Operand.tmp 24), type := 122, pos := "taking.go:50", after := #[{ on := 6, ground := Go.Ground.data }], guard := none } (.pointer (some ⟨ep, 0, none⟩)) _ (by kernel_rfl) (by kernel_rfl) (by kernel_rfl) (by kernel_rfl) (by kernel_rfl) (fun _ _ _ h => h) (fun _ => HFA.out) (fun x' hx => ?_) (by simp only [Act.put, List.setIfInBounds_toArray, List.set_cons_zero, List.set_cons_succ]; rfl) ?_
  · have hx1 := (hx (by decide)).1; go_simp; try (with_reducible rfl)
  refine Og.s_take 8 { dst := some 26, op := Go.Op.nilCheck (Go.Operand.tmp 25), type := 0, pos := "taking.go:50", after := #[{ on := 7, ground := Go.Ground.data }], guard := none } (.pointer (some ⟨ep, 0, none⟩)) _ (by kernel_rfl) (by kernel_rfl) (by kernel_rfl) (by kernel_rfl) (by kernel_rfl) (fun _ _ _ h => h) (fun h => absurd h (by decide)) (fun x' hx => ?_) (by simp only [Act.put, List.setIfInBounds_toArray, List.set_cons_zero, List.set_cons_succ]; rfl) ?_
  · go_simp; try (with_reducible rfl)
  refine Og.s_take 9 { dst := some 27, op := Go.Op.fieldAddr 84 (Go.Operand.tmp 26) 7, type := 0, pos := "taking.go:50", after := #[{ on := 8, ground := Go.Ground.data }], guard := none } (.pointer (some ⟨ep, 10, none⟩)) _ (by kernel_rfl) (by kernel_rfl) (by kernel_rfl) (by kernel_rfl) (by kernel_rfl) (fun _ _ _ h => h) (fun h => absurd h (by decide)) (fun x' hx => ?_) (by simp only [Act.put, List.setIfInBounds_toArray, List.set_cons_zero, List.set_cons_succ]; rfl) ?_
  · go_simp; try (with_reducible rfl)
  refine Og.s_take 10 { dst := some 28, op := Go.Op.load 56 (Go.Operand.tmp 27), type := 56, pos := "taking.go:50", after := #[{ on := 9, ground := Go.Ground.data }], guard := none } (.slice qa q.length qc) _ (by kernel_rfl) (by kernel_rfl) (by kernel_rfl) (by kernel_rfl) (by kernel_rfl) (fun _ _ _ h => h) (fun _ => HFA.out) (fun x' hx => ?_) (by simp only [Act.put, List.setIfInBounds_toArray, List.set_cons_zero, List.set_cons_succ]; rfl) ?_
  · have hx1 := (hx (by decide)).2.1; go_simp; try (with_reducible rfl)
  refine Og.s_take 11 { dst := some 29, op := Go.Op.load 67 (Go.Operand.tmp 3), type := 67, pos := "taking.go:50", after := #[], guard := none } (.agg (cells m).toArray) _ (by kernel_rfl) (by kernel_rfl) (by kernel_rfl) (by kernel_rfl) (by kernel_rfl) (fun _ _ _ h => h) (fun _ => HFA.out) (fun x' hx => ?_) (by simp only [Act.put, List.setIfInBounds_toArray, List.set_cons_zero, List.set_cons_succ]; rfl) ?_
  · exact Og.load_run 67 (.tmp 3) rfl ⟨mb, 0, none⟩ rfl (run_loadVar_row x' mb 67 67 _ (0, 0) _ (hx (by decide)).2.2 Try.underlying67 rfl (by rw [HOK.out.size]; exact size_msg))
  refine Og.s_one 12 { dst := some 30, op := Go.Op.buildSlice 56 1 #[(0, Go.Operand.tmp 29)], type := 56, pos := "taking.go:50", after := #[{ on := 11, ground := Go.Ground.data }], guard := none } (by kernel_rfl) (by kernel_rfl) (by kernel_rfl) ?_
  refine Og.run_to (v := .slice (some ⟨wq.heap.size, 0, none⟩) 1 1) (w' := wq.alloc (.cells (cells m).toArray 67)) (build_to HOK.out (.tmp 29) rfl rfl) ?_
  obtain ⟨nb, hnb⟩ : ∃ nb, nb = wq.heap.size := ⟨_, rfl⟩
  obtain ⟨W4, hW4⟩ : ∃ W4, W4 = wq.alloc (.cells (cells m).toArray 67) := ⟨_, rfl⟩
  have BA := Lib.hid (show Below wq.heap.size wq W4 by rw [hW4]; exact (Below.refl wq.heap.size wq).alloc (Nat.le_refl _) _)
  have Z4 := Lib.hid (show W4.heap[nb]? = some (.cells (cells m).toArray 67 (0, 0)) by rw [hW4, hnb]; exact heap_alloc_new _ _)
  rw [← hW4, ← hnb]
  clear hW4
  have T4 := Lib.hid (TQ.out.kp BA.out)
  have R4 := Lib.hid ((BA.out.block _ (Array.getElem?_eq_some_iff.1 RQ.out).1).trans RQ.out)
  have F4 := Lib.hid (show (fun x : World => x.cell? ⟨tp, 2, none⟩ = some (.pointer (some ⟨ep, 0, none⟩)) ∧ x.cell? ⟨ep, 10, none⟩ = some (.slice qa q.length qc) ∧ x.heap[mb]? = some (.cells (cells m).toArray 67 (0, 0))) W4 from ⟨T4.out.tk.t2, T4.out.tk.e10, R4.out⟩)
  refine ⟨keep_sl F4.out, ?_⟩
  obtain ⟨a', c', W5, hr5, ho5, hf5⟩ := qappend T4.out.tk.qo T4.out.tk.qok (ls_one HOK.out Z4.out) (show q.length + 1 ≤ 4096 by have := HSL.out; omega)
  obtain ⟨l', hl'⟩ : ∃ l' : List E, l' = q ++ [m] := ⟨_, rfl⟩
  rw [show (⟨n, sent, ⟨o, s, b, a, k, wt, td, q⟩, bs⟩ : Tg).e.q ++ [m] = l' from hl'.symm] at hr5 ho5
  obtain ⟨hbx, htw⟩ := T4.out.rowq ⟨o, s, b, a, k, wt, td, l'⟩ ho5 hf5 (fun y hy => by
    rw [hl'] at hy
    rcases List.mem_append.1 hy with hy | hy
    · exact T4.out.tk.qok y hy
    · obtain rfl : y = m := by simpa using hy
      exact HOK.out) (fun y hy => by
    rw [hl'] at hy
    rcases List.mem_append.1 hy with hy | hy
    · exact T4.out.tk.qby y hy
    · obtain rfl : y = m := by simpa using hy
      exact HBY.out)
  have HL' := Lib.hid hl'
  have R5 := Lib.hid ((hf5.block mb (Array.getElem?_eq_some_iff.1 R4.out).1 (fun h => by
    have h2 := T4.out.own_sub mb (.inr (.inr (.inr (.inr h))))
    rcases h2 with h2 | h2
    · exact Nat.lt_irrefl _ (OW.out _ h2)
    · have := (Array.getElem?_eq_some_iff.1 R0.out).1; omega)).trans R4.out)
  have C5 := Lib.hid (show W5.cell? ⟨tp, 2, none⟩ = some (.pointer (some ⟨ep, 0, none⟩)) by
    rw [cell_of_row _ _ _ _ _ _ ((hf5.block tp T4.out.tk.lt.1 (fun h => (T4.out.tk.qt tp h).1 rfl)).trans T4.out.tk.tb)]; rfl)
  have HBX := Lib.hid hbx; have TP5 := Lib.hid htw; have HR5 := Lib.hid hr5
  have F5 := Lib.hid (show (fun x : World => x.cell? ⟨tp, 2, none⟩ = some (.pointer (some ⟨ep, 0, none⟩)) ∧ x.cell? ⟨ep, 10, none⟩ = some (.slice qa q.length qc) ∧ x.heap[mb]? = some (.cells (cells m).toArray 67 (0, 0))) W5 from ⟨C5.out, by rw [cell_of_row _ _ _ _ _ _ HBX.out]; rfl, R5.out⟩)
  clear ho5 hf5 hbx htw hr5 hl'
  refine Og.s_one 13 { dst := some 31, op := Go.Op.call { callee := Go.Callee.builtin Go.Builtin.append, args := #[Go.Operand.tmp 28, Go.Operand.tmp 30], argTypes := #[56, 56] }, type := 56, pos := "taking.go:50", after := #[{ on := 10, ground := Go.Ground.data }, { on := 12, ground := Go.Ground.data }], guard := none } (by kernel_rfl) (by kernel_rfl) (by kernel_rfl) ?_
  refine Og.run_to (v := .slice a' l'.length c') (w' := W5) (Og.append_to (.tmp 28) (.tmp 30) 56 rfl rfl rfl HR5.out) ⟨keep_sl F5.out, ?_⟩
  refine Og.s_take 14 { dst := some 32, op := Go.Op.nilCheck (Go.Operand.tmp 21), type := 0, pos := "taking.go:50", after := #[{ on := 3, ground := Go.Ground.data }, { on := 0, ground := Go.Ground.phase }, { on := 1, ground := Go.Ground.phase }, { on := 2, ground := Go.Ground.phase }, { on := 3, ground := Go.Ground.phase }, { on := 4, ground := Go.Ground.phase }, { on := 5, ground := Go.Ground.phase }, { on := 6, ground := Go.Ground.phase }, { on := 7, ground := Go.Ground.phase }, { on := 8, ground := Go.Ground.phase }, { on := 9, ground := Go.Ground.phase }, { on := 10, ground := Go.Ground.phase }, { on := 11, ground := Go.Ground.phase }, { on := 12, ground := Go.Ground.phase }, { on := 13, ground := Go.Ground.phase }], guard := none } (.pointer (some ⟨ep, 0, none⟩)) _ (by kernel_rfl) (by kernel_rfl) (by kernel_rfl) (by kernel_rfl) (by kernel_rfl) (fun _ _ _ h => h) (fun h => absurd h (by decide)) (fun x' hx => ?_) (by simp only [Act.put, List.setIfInBounds_toArray, List.set_cons_zero, List.set_cons_succ]; rfl) ?_
  · go_simp; try (with_reducible rfl)
  refine Og.s_take 15 { dst := some 33, op := Go.Op.fieldAddr 84 (Go.Operand.tmp 32) 7, type := 0, pos := "taking.go:50", after := #[{ on := 14, ground := Go.Ground.data }, { on := 0, ground := Go.Ground.phase }, { on := 1, ground := Go.Ground.phase }, { on := 2, ground := Go.Ground.phase }, { on := 3, ground := Go.Ground.phase }, { on := 4, ground := Go.Ground.phase }, { on := 5, ground := Go.Ground.phase }, { on := 6, ground := Go.Ground.phase }, { on := 7, ground := Go.Ground.phase }, { on := 8, ground := Go.Ground.phase }, { on := 9, ground := Go.Ground.phase }, { on := 10, ground := Go.Ground.phase }, { on := 11, ground := Go.Ground.phase }, { on := 12, ground := Go.Ground.phase }, { on := 13, ground := Go.Ground.phase }], guard := none } (.pointer (some ⟨ep, 10, none⟩)) _ (by kernel_rfl) (by kernel_rfl) (by kernel_rfl) (by kernel_rfl) (by kernel_rfl) (fun _ _ _ h => h) (fun h => absurd h (by decide)) (fun x' hx => ?_) (by simp only [Act.put, List.setIfInBounds_toArray, List.set_cons_zero, List.set_cons_succ]; rfl) ?_
  · go_simp; try (with_reducible rfl)
  refine Og.s_one 16 { dst := none, op := Go.Op.store 56 (Go.Operand.tmp 33) (Go.Operand.tmp 31), type := 0, pos := "taking.go:50", after := #[{ on := 15, ground := Go.Ground.data }, { on := 13, ground := Go.Ground.data }, { on := 13, ground := Go.Ground.chain }, { on := 0, ground := Go.Ground.phase }, { on := 1, ground := Go.Ground.phase }, { on := 2, ground := Go.Ground.phase }, { on := 3, ground := Go.Ground.phase }, { on := 4, ground := Go.Ground.phase }, { on := 5, ground := Go.Ground.phase }, { on := 6, ground := Go.Ground.phase }, { on := 7, ground := Go.Ground.phase }, { on := 8, ground := Go.Ground.phase }, { on := 9, ground := Go.Ground.phase }, { on := 10, ground := Go.Ground.phase }, { on := 11, ground := Go.Ground.phase }, { on := 12, ground := Go.Ground.phase }, { on := 13, ground := Go.Ground.phase }], guard := none } (by kernel_rfl) (by kernel_rfl) (by kernel_rfl) ?_
  refine Og.skip_to (w' := W5.setRow ep (ecells ⟨o, s, b, a, k, wt, td, l'⟩ a' c')) (put_to 56 (.tmp 33) (.tmp 31) rfl ep 10 (.slice a' l'.length c') rfl rfl 84 _ HBX.out (by kernel_rfl) (Nat.le_of_ble_eq_true rfl) (one_slice _ _ _) _ rfl) ⟨keep_end (o := { dst := none, op := Go.Op.store 56 (Go.Operand.tmp 33) (Go.Operand.tmp 31), type := 0, pos := "taking.go:50", after := #[{ on := 15, ground := Go.Ground.data }, { on := 13, ground := Go.Ground.data }, { on := 13, ground := Go.Ground.chain }, { on := 0, ground := Go.Ground.phase }, { on := 1, ground := Go.Ground.phase }, { on := 2, ground := Go.Ground.phase }, { on := 3, ground := Go.Ground.phase }, { on := 4, ground := Go.Ground.phase }, { on := 5, ground := Go.Ground.phase }, { on := 6, ground := Go.Ground.phase }, { on := 7, ground := Go.Ground.phase }, { on := 8, ground := Go.Ground.phase }, { on := 9, ground := Go.Ground.phase }, { on := 10, ground := Go.Ground.phase }, { on := 11, ground := Go.Ground.phase }, { on := 12, ground := Go.Ground.phase }, { on := 13, ground := Go.Ground.phase }], guard := none }) (by kernel_rfl) (by kernel_rfl), ?_⟩
  refine Og.s_done (by kernel_rfl) ?_ _
  try simp only [Act.put, List.setIfInBounds_toArray, List.set_cons_zero, List.set_cons_succ]
  have HIV2 := Lib.hid (show Iv ⟨o, s, b, a, k, wt, td, l'⟩ from ⟨HIV.out.o1, HIV.out.o2, HIV.out.a1, HIV.out.a2, HIV.out.w1, HIV.out.w2, HIV.out.w0, HIV.out.k, fun x hx => by
    have hx : x ∈ l' := hx
    rw [HL'.out] at hx
    rcases List.mem_append.1 hx with hx | hx
    · exact HIV.out.q x hx
    · obtain rfl : x = m := by simpa using hx
      exact HM.out⟩)
  have HSL2 := Lib.hid (show sent.length + 5 * l'.length ≤ 3900 by rw [HL'.out, List.length_append, List.length_singleton]; have := HSL.out; omega)
  have KG := Lib.hid (goOn_any ⟨n, sent, ⟨o, s, b, a, k, wt, td, l'⟩, bs⟩ HIV2.out HSL2.out _ TP5.out.ta)
  go_wp2_with (go_at_call 87; (with_reducible refine KG.out.mono ?_); rintro x W7 ⟨rfl, ht⟩)
  go_end0
  refine ⟨rfl, TT.before B0.out ?_⟩
  have e : T' = goP l'.length ⟨n, sent, ⟨o, s, b, a, k, wt, td, l'⟩, bs⟩ := by
    rw [HP.out, HL'.out, List.length_append, List.length_singleton]; rfl
  rw [e]
  exact TP5.out.call ht
end
end Hm
end Go.Proofs.Ytfajkgbpeapcbaa
end
