import Derived.Test.YtfajkgbpeapcbaaNa20
set_option linter.unusedVariables false
set_option linter.unusedSimpArgs false

section
namespace Go.Proofs.Ytfajkgbpeapcbaa
open Go.RowKit
namespace Hm
open Nt
set_option maxRecDepth 100000
section
variable {tp ep mp g : Nat} {S Q : Nat → Prop}
set_option maxHeartbeats 8000000 in
theorem give_any (T : Tg) (kk : Int) (hk : Ev.i64B kk) (ha : Ev.i64B T.e.a) (hsl : T.sent.length ≤ 4000) (w : World) (h : Ta w tp ep mp g S Q T) :
    Calls Try.prog 108 #[.pointer (some ⟨tp, 0, none⟩), .int .i64 kk] w fun r w' => r = .returned (.tuple #[]) ∧ TT w w' tp ep mp g S Q (giveP T kk) := by
  obtain ⟨n, sent, ⟨o, s, b, a, k, wt, td, q⟩, bs⟩ := T
  obtain ⟨sa, sc, qa, qc, h⟩ := h
  have T0 := Lib.hid (Tw.start h)
  obtain ⟨T', hT⟩ : ∃ T', giveP ⟨n, sent, ⟨o, s, b, a, k, wt, td, q⟩, bs⟩ kk = T' := ⟨_, rfl⟩
  rw [hT]
  have HT := Lib.hid hT
  clear h hT
  go_enter Try.func108, Try.ntmps108
  go_wp2_with fail
  obtain ⟨wq, hwq⟩ : ∃ wq, wq = { w with drawn := w.drawn + 1 } := ⟨_, rfl⟩
  have BQ := Lib.hid (show Below w.heap.size w wq by rw [hwq]; exact ⟨rfl, rfl, rfl, Nat.le_refl _, fun _ _ => rfl⟩)
  have HWQ := Lib.hid hwq
  clear hwq
  have TQ := Lib.hid (T0.out.kp BQ.out)
  have HFA := Lib.hid (show (fun x : World => x.cell? ⟨tp, 2, none⟩ = some (.pointer (some ⟨ep, 0, none⟩)) ∧ x.cell? ⟨ep, 6, none⟩ = some (.int .i64 a)) wq from ⟨TQ.out.tk.t2, TQ.out.tk.e6⟩)
  refine Og.region_S (S := SL [3, 7, 11, 14] (fun x : World => x.cell? ⟨tp, 2, none⟩ = some (.pointer (some ⟨ep, 0, none⟩)) ∧ x.cell? ⟨ep, 6, none⟩ = some (.int .i64 a))) (by kernel_rfl) ?_
  rw [← HWQ.out]
  refine Og.s_take 0 { dst := some 4, op := Go.Op.move (Go.Operand.tmp 0), type := 146, pos := "taking.go:162", after := #[], guard := none } (.pointer (some ⟨tp, 0, none⟩)) _ (by kernel_rfl) (by kernel_rfl) (by kernel_rfl) (by kernel_rfl) (by kernel_rfl) (fun _ _ _ h => h) (fun h => absurd h (by decide)) (fun x' hx => ?_) (by simp only [Act.put, List.setIfInBounds_toArray, List.set_cons_zero, List.set_cons_succ]; rfl) ?_
  · go_simp; try (with_reducible rfl)
  refine Og.s_take 1 { dst := some 5, op := Go.Op.nilCheck (Go.Operand.tmp 4), type := 0, pos := "taking.go:162", after := #[{ on := 0, ground := Go.Ground.data }], guard := none } (.pointer (some ⟨tp, 0, none⟩)) _ (by kernel_rfl) (by kernel_rfl) (by kernel_rfl) (by kernel_rfl) (by kernel_rfl) (fun _ _ _ h => h) (fun h => absurd h (by decide)) (fun x' hx => ?_) (by simp only [Act.put, List.setIfInBounds_toArray, List.set_cons_zero, List.set_cons_succ]; rfl) ?_
  · go_simp; try (with_reducible rfl)
  refine Og.s_take 2 { dst := some 6, op := Go.Op.fieldAddr 125 (Go.Operand.tmp 5) 1, type := 0, pos := "taking.go:162", after := #[{ on := 1, ground := Go.Ground.data }], guard := none } (.pointer (some ⟨tp, 2, none⟩)) _ (by kernel_rfl) (by kernel_rfl) (by kernel_rfl) (by kernel_rfl) (by kernel_rfl) (fun _ _ _ h => h) (fun h => absurd h (by decide)) (fun x' hx => ?_) (by simp only [Act.put, List.setIfInBounds_toArray, List.set_cons_zero, List.set_cons_succ]; rfl) ?_
  · go_simp; try (with_reducible rfl)
  refine Og.s_take 3 { dst := some 7, op := Go.Op.load 122 (Go.Operand.tmp 6), type := 122, pos := "taking.go:162", after := #[{ on := 2, ground := Go.Ground.data }], guard := none } (.pointer (some ⟨ep, 0, none⟩)) _ (by kernel_rfl) (by kernel_rfl) (by kernel_rfl) (by kernel_rfl) (by kernel_rfl) (fun _ _ _ h => h) (fun _ => HFA.out) (fun x' hx => ?_) (by simp only [Act.put, List.setIfInBounds_toArray, List.set_cons_zero, List.set_cons_succ]; rfl) ?_
  · have hx1 := (hx (by decide)).1; go_simp; try (with_reducible rfl)
  refine Og.s_take 4 { dst := some 8, op := Go.Op.move (Go.Operand.tmp 0), type := 146, pos := "taking.go:162", after := #[], guard := none } (.pointer (some ⟨tp, 0, none⟩)) _ (by kernel_rfl) (by kernel_rfl) (by kernel_rfl) (by kernel_rfl) (by kernel_rfl) (fun _ _ _ h => h) (fun h => absurd h (by decide)) (fun x' hx => ?_) (by simp only [Act.put, List.setIfInBounds_toArray, List.set_cons_zero, List.set_cons_succ]; rfl) ?_
  · go_simp; try (with_reducible rfl)
  refine Og.s_take 5 { dst := some 9, op := Go.Op.nilCheck (Go.Operand.tmp 8), type := 0, pos := "taking.go:162", after := #[{ on := 4, ground := Go.Ground.data }], guard := none } (.pointer (some ⟨tp, 0, none⟩)) _ (by kernel_rfl) (by kernel_rfl) (by kernel_rfl) (by kernel_rfl) (by kernel_rfl) (fun _ _ _ h => h) (fun h => absurd h (by decide)) (fun x' hx => ?_) (by simp only [Act.put, List.setIfInBounds_toArray, List.set_cons_zero, List.set_cons_succ]; rfl) ?_
  · go_simp; try (with_reducible rfl)
  refine Og.s_take 6 { dst := some 10, op := Go.Op.fieldAddr 125 (Go.Operand.tmp 9) 1, type := 0, pos := "taking.go:162", after := #[{ on := 5, ground := Go.Ground.data }], guard := none } (.pointer (some ⟨tp, 2, none⟩)) _ (by kernel_rfl) (by kernel_rfl) (by kernel_rfl) (by kernel_rfl) (by kernel_rfl) (fun _ _ _ h => h) (fun h => absurd h (by decide)) (fun x' hx => ?_) (by simp only [Act.put, List.setIfInBounds_toArray, List.set_cons_zero, List.set_cons_succ]; rfl) ?_
  · go_simp; try (with_reducible rfl)
  refine Og.s_take 7 { dst := some 11, op := Go.Op.load 122 (Go.Operand.tmp 10), type := 122, pos := "taking.go:162", after := #[{ on := 6, ground := Go.Ground.data }], guard := none } (.pointer (some ⟨ep, 0, none⟩)) _ (by kernel_rfl) (by kernel_rfl) (by kernel_rfl) (by kernel_rfl) (by kernel_rfl) (fun _ _ _ h => h) (fun _ => HFA.out) (fun x' hx => ?_) (by simp only [Act.put, List.setIfInBounds_toArray, List.set_cons_zero, List.set_cons_succ]; rfl) ?_
  · have hx1 := (hx (by decide)).1; go_simp; try (with_reducible rfl)
  refine Og.s_take 8 { dst := some 12, op := Go.Op.move (Go.Operand.tmp 0), type := 146, pos := "taking.go:162", after := #[], guard := none } (.pointer (some ⟨tp, 0, none⟩)) _ (by kernel_rfl) (by kernel_rfl) (by kernel_rfl) (by kernel_rfl) (by kernel_rfl) (fun _ _ _ h => h) (fun h => absurd h (by decide)) (fun x' hx => ?_) (by simp only [Act.put, List.setIfInBounds_toArray, List.set_cons_zero, List.set_cons_succ]; rfl) ?_
  · go_simp; try (with_reducible rfl)
  refine Og.s_take 9 { dst := some 13, op := Go.Op.nilCheck (Go.Operand.tmp 12), type := 0, pos := "taking.go:162", after := #[{ on := 8, ground := Go.Ground.data }], guard := none } (.pointer (some ⟨tp, 0, none⟩)) _ (by kernel_rfl) (by kernel_rfl) (by kernel_rfl) (by kernel_rfl) (by kernel_rfl) (fun _ _ _ h => h) (fun h => absurd h (by decide)) (fun x' hx => ?_) (by simp only [Act.put, List.setIfInBounds_toArray, List.set_cons_zero, List.set_cons_succ]; rfl) ?_
  · go_simp; try (with_reducible rfl)
  refine Og.s_take 10 { dst := some 14, op := Go.Op.fieldAddr 125 (Go.Operand.tmp 13) 1, type := 0, pos := "taking.go:162", after := #[{ on := 9, ground := Go.Ground.data }], guard := none } (.pointer (some ⟨tp, 2, none⟩)) _ (by kernel_rfl) (by kernel_rfl) (by kernel_rfl) (by kernel_rfl) (by kernel_rfl) (fun _ _ _ h => h) (fun h => absurd h (by decide)) (fun x' hx => ?_) (by simp only [Act.put, List.setIfInBounds_toArray, List.set_cons_zero, List.set_cons_succ]; rfl) ?_
  · go_simp; try (with_reducible rfl)
  refine Og.s_take 11 { dst := some 15, op := Go.Op.load 122 (Go.Operand.tmp 14), type := 122, pos := "taking.go:162", after := #[{ on := 10, ground := Go.Ground.data }], guard := none } (.pointer (some ⟨ep, 0, none⟩)) _ (by kernel_rfl) (by kernel_rfl) (by kernel_rfl) (by kernel_rfl) (by kernel_rfl) (fun _ _ _ h => h) (fun _ => HFA.out) (fun x' hx => ?_) (by simp only [Act.put, List.setIfInBounds_toArray, List.set_cons_zero, List.set_cons_succ]; rfl) ?_
  · have hx1 := (hx (by decide)).1; go_simp; try (with_reducible rfl)
  refine Og.s_take 12 { dst := some 16, op := Go.Op.nilCheck (Go.Operand.tmp 15), type := 0, pos := "taking.go:162", after := #[{ on := 11, ground := Go.Ground.data }], guard := none } (.pointer (some ⟨ep, 0, none⟩)) _ (by kernel_rfl) (by kernel_rfl) (by kernel_rfl) (by kernel_rfl) (by kernel_rfl) (fun _ _ _ h => h) (fun h => absurd h (by decide)) (fun x' hx => ?_) (by simp only [Act.put, List.setIfInBounds_toArray, List.set_cons_zero, List.set_cons_succ]; rfl) ?_
  · go_simp; try (with_reducible rfl)
  refine Og.s_take 13 { dst := some 17, op := Go.Op.fieldAddr 84 (Go.Operand.tmp 16) 3, type := 0, pos := "taking.go:162", after := #[{ on := 12, ground := Go.Ground.data }], guard := none } (.pointer (some ⟨ep, 6, none⟩)) _ (by kernel_rfl) (by kernel_rfl) (by kernel_rfl) (by kernel_rfl) (by kernel_rfl) (fun _ _ _ h => h) (fun h => absurd h (by decide)) (fun x' hx => ?_) (by simp only [Act.put, List.setIfInBounds_toArray, List.set_cons_zero, List.set_cons_succ]; rfl) ?_
  · go_simp; try (with_reducible rfl)
  refine Og.s_take 14 { dst := some 18, op := Go.Op.load 3 (Go.Operand.tmp 17), type := 3, pos := "taking.go:162", after := #[{ on := 13, ground := Go.Ground.data }], guard := none } (.int .i64 a) _ (by kernel_rfl) (by kernel_rfl) (by kernel_rfl) (by kernel_rfl) (by kernel_rfl) (fun _ _ _ h => h) (fun _ => HFA.out) (fun x' hx => ?_) (by simp only [Act.put, List.setIfInBounds_toArray, List.set_cons_zero, List.set_cons_succ]; rfl) ?_
  · have hx1 := (hx (by decide)).2; go_simp; try (with_reducible rfl)
  refine Og.s_take 15 { dst := some 19, op := Go.Op.build 82 #[], type := 82, pos := "taking.go:162", after := #[], guard := none } (.agg #[.bool false, .bool false, .bool false, .bool false]) _ (by kernel_rfl) (by kernel_rfl) (by kernel_rfl) (by kernel_rfl) (by kernel_rfl) (fun _ _ _ h => h) (fun h => absurd h (by decide)) (fun x' hx => ?_) (by simp only [Act.put, List.setIfInBounds_toArray, List.set_cons_zero, List.set_cons_succ]; rfl) ?_
  · go_simp; try (with_reducible rfl)
  refine Og.s_take 16 { dst := some 20, op := Go.Op.nilCheck (Go.Operand.tmp 7), type := 0, pos := "taking.go:162", after := #[{ on := 3, ground := Go.Ground.data }, { on := 0, ground := Go.Ground.phase }, { on := 1, ground := Go.Ground.phase }, { on := 2, ground := Go.Ground.phase }, { on := 3, ground := Go.Ground.phase }, { on := 4, ground := Go.Ground.textOnly Go.Departure.lateStores }, { on := 5, ground := Go.Ground.textOnly Go.Departure.lateStoresUnsure }, { on := 6, ground := Go.Ground.textOnly Go.Departure.lateStoresUnsure }, { on := 7, ground := Go.Ground.phase }, { on := 8, ground := Go.Ground.phase }, { on := 9, ground := Go.Ground.phase }, { on := 10, ground := Go.Ground.phase }, { on := 11, ground := Go.Ground.phase }, { on := 12, ground := Go.Ground.phase }, { on := 13, ground := Go.Ground.phase }, { on := 14, ground := Go.Ground.phase }, { on := 15, ground := Go.Ground.textOnly Go.Departure.lateStoresUnsure }], guard := none } (.pointer (some ⟨ep, 0, none⟩)) _ (by kernel_rfl) (by kernel_rfl) (by kernel_rfl) (by kernel_rfl) (by kernel_rfl) (fun _ _ _ h => h) (fun h => absurd h (by decide)) (fun x' hx => ?_) (by simp only [Act.put, List.setIfInBounds_toArray, List.set_cons_zero, List.set_cons_succ]; rfl) ?_
  · go_simp; try (with_reducible rfl)
  refine Og.s_take 17 { dst := some 21, op := Go.Op.fieldAddr 84 (Go.Operand.tmp 20) 0, type := 0, pos := "taking.go:162", after := #[{ on := 16, ground := Go.Ground.data }, { on := 0, ground := Go.Ground.phase }, { on := 1, ground := Go.Ground.phase }, { on := 2, ground := Go.Ground.phase }, { on := 3, ground := Go.Ground.phase }, { on := 4, ground := Go.Ground.textOnly Go.Departure.lateStores }, { on := 5, ground := Go.Ground.textOnly Go.Departure.lateStoresUnsure }, { on := 6, ground := Go.Ground.textOnly Go.Departure.lateStoresUnsure }, { on := 7, ground := Go.Ground.phase }, { on := 8, ground := Go.Ground.phase }, { on := 9, ground := Go.Ground.phase }, { on := 10, ground := Go.Ground.phase }, { on := 11, ground := Go.Ground.phase }, { on := 12, ground := Go.Ground.phase }, { on := 13, ground := Go.Ground.phase }, { on := 14, ground := Go.Ground.phase }, { on := 15, ground := Go.Ground.textOnly Go.Departure.lateStoresUnsure }], guard := none } (.pointer (some ⟨ep, 0, none⟩)) _ (by kernel_rfl) (by kernel_rfl) (by kernel_rfl) (by kernel_rfl) (by kernel_rfl) (fun _ _ _ h => h) (fun h => absurd h (by decide)) (fun x' hx => ?_) (by simp only [Act.put, List.setIfInBounds_toArray, List.set_cons_zero, List.set_cons_succ]; rfl) ?_
  · go_simp; try (with_reducible rfl)
  obtain ⟨W1, hW1⟩ : ∃ W1, W1 = wq.setRow ep (ecells (⟨a, s, b, a, k, wt, td, q⟩) qa qc) := ⟨_, rfl⟩
  have TW1 := Lib.hid (TQ.out.row (⟨a, s, b, a, k, wt, td, q⟩) rfl)
  rw [← hW1] at TW1
  have HW1 := Lib.hid hW1
  clear hW1
  have FW1 := Lib.hid (show (fun x : World => x.cell? ⟨tp, 2, none⟩ = some (.pointer (some ⟨ep, 0, none⟩)) ∧ x.cell? ⟨ep, 6, none⟩ = some (.int .i64 a)) W1 from ⟨TW1.out.tk.t2, TW1.out.tk.e6⟩)
  refine Og.s_one 18 { dst := none, op := Go.Op.store 3 (Go.Operand.tmp 21) (Go.Operand.tmp 18), type := 0, pos := "taking.go:162", after := #[{ on := 17, ground := Go.Ground.data }, { on := 14, ground := Go.Ground.data }, { on := 0, ground := Go.Ground.phase }, { on := 1, ground := Go.Ground.phase }, { on := 2, ground := Go.Ground.phase }, { on := 3, ground := Go.Ground.phase }, { on := 4, ground := Go.Ground.textOnly Go.Departure.lateStores }, { on := 5, ground := Go.Ground.textOnly Go.Departure.lateStoresUnsure }, { on := 6, ground := Go.Ground.textOnly Go.Departure.lateStoresUnsure }, { on := 7, ground := Go.Ground.phase }, { on := 8, ground := Go.Ground.phase }, { on := 9, ground := Go.Ground.phase }, { on := 10, ground := Go.Ground.phase }, { on := 11, ground := Go.Ground.phase }, { on := 12, ground := Go.Ground.phase }, { on := 13, ground := Go.Ground.phase }, { on := 14, ground := Go.Ground.phase }, { on := 15, ground := Go.Ground.textOnly Go.Departure.lateStoresUnsure }], guard := none } (by kernel_rfl) (by kernel_rfl) (by kernel_rfl) ?_
  refine Og.skip_to (w' := W1) (by rw [HW1.out]; exact put_to 3 (Go.Operand.tmp 21) (Go.Operand.tmp 18) rfl ep (0) (.int .i64 a) rfl rfl 84 _ TQ.out.tk.eb (by kernel_rfl) (Nat.le_of_ble_eq_true rfl) (one_int _ _) _ rfl) ⟨keep_sl FW1.out, ?_⟩
  refine Og.s_take 19 { dst := some 22, op := Go.Op.nilCheck (Go.Operand.tmp 11), type := 0, pos := "taking.go:162", after := #[{ on := 7, ground := Go.Ground.data }, { on := 0, ground := Go.Ground.phase }, { on := 1, ground := Go.Ground.phase }, { on := 2, ground := Go.Ground.phase }, { on := 3, ground := Go.Ground.phase }, { on := 4, ground := Go.Ground.phase }, { on := 5, ground := Go.Ground.phase }, { on := 6, ground := Go.Ground.phase }, { on := 7, ground := Go.Ground.phase }, { on := 8, ground := Go.Ground.phase }, { on := 9, ground := Go.Ground.phase }, { on := 10, ground := Go.Ground.phase }, { on := 11, ground := Go.Ground.phase }, { on := 12, ground := Go.Ground.phase }, { on := 13, ground := Go.Ground.phase }, { on := 14, ground := Go.Ground.phase }, { on := 15, ground := Go.Ground.phase }, { on := 16, ground := Go.Ground.phase }, { on := 17, ground := Go.Ground.phase }, { on := 18, ground := Go.Ground.phase }], guard := none } (.pointer (some ⟨ep, 0, none⟩)) _ (by kernel_rfl) (by kernel_rfl) (by kernel_rfl) (by kernel_rfl) (by kernel_rfl) (fun _ _ _ h => h) (fun h => absurd h (by decide)) (fun x' hx => ?_) (by simp only [Act.put, List.setIfInBounds_toArray, List.set_cons_zero, List.set_cons_succ]; rfl) ?_
  · go_simp; try (with_reducible rfl)
  refine Og.s_take 20 { dst := some 23, op := Go.Op.fieldAddr 84 (Go.Operand.tmp 22) 1, type := 0, pos := "taking.go:162", after := #[{ on := 19, ground := Go.Ground.data }, { on := 0, ground := Go.Ground.phase }, { on := 1, ground := Go.Ground.phase }, { on := 2, ground := Go.Ground.phase }, { on := 3, ground := Go.Ground.phase }, { on := 4, ground := Go.Ground.phase }, { on := 5, ground := Go.Ground.phase }, { on := 6, ground := Go.Ground.phase }, { on := 7, ground := Go.Ground.phase }, { on := 8, ground := Go.Ground.phase }, { on := 9, ground := Go.Ground.phase }, { on := 10, ground := Go.Ground.phase }, { on := 11, ground := Go.Ground.phase }, { on := 12, ground := Go.Ground.phase }, { on := 13, ground := Go.Ground.phase }, { on := 14, ground := Go.Ground.phase }, { on := 15, ground := Go.Ground.phase }, { on := 16, ground := Go.Ground.phase }, { on := 17, ground := Go.Ground.phase }, { on := 18, ground := Go.Ground.phase }], guard := none } (.pointer (some ⟨ep, 1, none⟩)) _ (by kernel_rfl) (by kernel_rfl) (by kernel_rfl) (by kernel_rfl) (by kernel_rfl) (fun _ _ _ h => h) (fun h => absurd h (by decide)) (fun x' hx => ?_) (by simp only [Act.put, List.setIfInBounds_toArray, List.set_cons_zero, List.set_cons_succ]; rfl) ?_
  · go_simp; try (with_reducible rfl)
  obtain ⟨W2, hW2⟩ : ∃ W2, W2 = W1.setRow ep (ecells (⟨a, nobody, b, a, k, wt, td, q⟩) qa qc) := ⟨_, rfl⟩
  have TW2 := Lib.hid (TW1.out.row (⟨a, nobody, b, a, k, wt, td, q⟩) rfl)
  rw [← hW2] at TW2
  have HW2 := Lib.hid hW2
  clear hW2
  have FW2 := Lib.hid (show (fun x : World => x.cell? ⟨tp, 2, none⟩ = some (.pointer (some ⟨ep, 0, none⟩)) ∧ x.cell? ⟨ep, 6, none⟩ = some (.int .i64 a)) W2 from ⟨TW2.out.tk.t2, TW2.out.tk.e6⟩)
  refine Og.s_one 21 { dst := none, op := Go.Op.store 82 (Go.Operand.tmp 23) (Go.Operand.tmp 19), type := 0, pos := "taking.go:162", after := #[{ on := 20, ground := Go.Ground.data }, { on := 15, ground := Go.Ground.data }, { on := 18, ground := Go.Ground.chain }, { on := 0, ground := Go.Ground.phase }, { on := 1, ground := Go.Ground.phase }, { on := 2, ground := Go.Ground.phase }, { on := 3, ground := Go.Ground.phase }, { on := 4, ground := Go.Ground.phase }, { on := 5, ground := Go.Ground.phase }, { on := 6, ground := Go.Ground.phase }, { on := 7, ground := Go.Ground.phase }, { on := 8, ground := Go.Ground.phase }, { on := 9, ground := Go.Ground.phase }, { on := 10, ground := Go.Ground.phase }, { on := 11, ground := Go.Ground.phase }, { on := 12, ground := Go.Ground.phase }, { on := 13, ground := Go.Ground.phase }, { on := 14, ground := Go.Ground.phase }, { on := 15, ground := Go.Ground.phase }, { on := 16, ground := Go.Ground.phase }, { on := 17, ground := Go.Ground.phase }, { on := 18, ground := Go.Ground.phase }], guard := none } (by kernel_rfl) (by kernel_rfl) (by kernel_rfl) ?_
  refine Og.skip_to (w' := W2) (by rw [HW2.out]; exact put_to 82 (Go.Operand.tmp 23) (Go.Operand.tmp 19) rfl ep (1) (.agg #[.bool false, .bool false, .bool false, .bool false]) rfl rfl 84 _ TW1.out.tk.eb (by kernel_rfl) (Nat.le_of_ble_eq_true rfl) (one_bools _ _ _ _) _ rfl) ⟨keep_sl FW2.out, ?_⟩
  refine Og.s_done (by kernel_rfl) ?_ _
  try simp only [Act.put, List.setIfInBounds_toArray, List.set_cons_zero, List.set_cons_succ]
  go_wp2_with (first
    | (go_at_call 109; (with_reducible refine (tell_any _ kk hk ha hsl _ TW2.out.ta).mono ?_); rintro r W3 ⟨rfl, ht⟩))
  go_end0
  refine ⟨rfl, ?_⟩
  rw [← HT.out]
  exact TW2.out.call ht
end
end Hm
end Go.Proofs.Ytfajkgbpeapcbaa
end
