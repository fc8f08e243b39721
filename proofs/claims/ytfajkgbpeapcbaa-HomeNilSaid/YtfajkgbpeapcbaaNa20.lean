import Derived.Test.YtfajkgbpeapcbaaNa16
import Derived.Test.YtfajkgbpeapcbaaNa17
set_option linter.unusedVariables false
set_option linter.unusedSimpArgs false

section
namespace Go.Proofs.Ytfajkgbpeapcbaa
open Go.RowKit
namespace Hm
open Nt
set_option maxRecDepth 100000
section
variable {tp ep mp g : Nat} {S Q : Nat → Prop}
set_option maxHeartbeats 8000000 in
theorem tell_any (T : Tg) (kk : Int) (hk : Ev.i64B kk) (ha : Ev.i64B T.e.a) (hsl : T.sent.length ≤ 4000) (w : World) (h : Ta w tp ep mp g S Q T) :
    Calls Try.prog 109 #[.pointer (some ⟨tp, 0, none⟩), .int .i64 kk] w fun r w' => r = .returned (.tuple #[]) ∧ TT w w' tp ep mp g S Q (tellP T kk) := by
  obtain ⟨n, sent, ⟨o, s, b, a, k, wt, td, q⟩, bs⟩ := T
  obtain ⟨sa, sc, qa, qc, h⟩ := h
  have T0 := Lib.hid (Tw.start h)
  obtain ⟨T', hT⟩ : ∃ T', tellP ⟨n, sent, ⟨o, s, b, a, k, wt, td, q⟩, bs⟩ kk = T' := ⟨_, rfl⟩
  rw [hT]
  have HT := Lib.hid hT
  clear h hT
  simp only at ha hsl
  have HNL := Lib.hid (show n * 16 < bs.length from T0.out.tk.nl)
  have HWL := Lib.hid (show (Im.win bs (n * 16) 16).length = 16 from Im.length_win (by have h1 := HNL.out; have h2 := T0.out.tk.im.bd; simp only at h2; omega))
  have SZA := Lib.hid (show (#[.int .u8 0, .int .u8 0, .int .u8 0, .int .u8 0, .int .u8 0, .int .u8 0, .int .u8 0, .int .u8 0, .int .u8 0, .int .u8 0, .int .u8 0, .int .u8 0, .int .u8 0, .int .u8 0, .int .u8 0, .int .u8 0] : Array Value).size = (Im.vals (Im.win bs (n * 16) 16)).toArray.size by rw [show (Im.vals (Im.win bs (n * 16) 16)).toArray.size = 16 from by rw [List.size_toArray, len_vals, HWL.out]]; rfl)
  have SZL := Lib.hid (show (Try.prog.info? 25).map (·.size) = some (Im.vals (Im.win bs (n * 16) 16)).toArray.size by rw [size45, List.size_toArray, len_vals, HWL.out])
  go_enter Try.func109, Try.ntmps109
  go_wp2_with fail
  refine region_post (fun A nb _ _ => (((((((((((((((A.put (some 7) (.pointer (some ⟨tp, 0, none⟩))).put (some 8) (.pointer (some ⟨tp, 0, none⟩))).put (some 9) (.pointer (some ⟨tp, 3, none⟩))).put (some 10) (.pointer (some ⟨mp, 0, none⟩))).put (some 11) (.pointer (some ⟨tp, 0, none⟩))).put (some 12) (.pointer (some ⟨tp, 0, none⟩))).put (some 13) (.pointer (some ⟨tp, 0, none⟩))).put (some 14) (.pointer (some ⟨tp, 0, none⟩))).put (some 15) (.int .u32 (n : Int))).put (some 16) (.tuple #[.agg (Im.vals (Im.win bs (n * 16) 16)).toArray, .int .i64 0])).put (some 6) (.tuple #[.agg (Im.vals (Im.win bs (n * 16) 16)).toArray, .int .i64 0])).put (some 17) (.agg (Im.vals (Im.win bs (n * 16) 16)).toArray)).put (some 18) (.int .i64 0)).put (some 4) (.pointer (some ⟨nb, 0, none⟩))).put (some 5) (.int .i64 0))) (fun w' nb _ _ => Tw w w' tp ep mp g S Q S Q sa sc qa qc ⟨n, sent, ⟨o, s, b, a, k, wt, td, q⟩, bs⟩ ∧ w'.heap[nb]? = some (.cells (Im.vals (Im.win bs (n * 16) 16)).toArray 25 (0, 0)) ∧ w.heap.size ≤ nb) ?_ ?_
  · obtain ⟨wq, hwq⟩ : ∃ wq, wq = { w with drawn := w.drawn + 1 } := ⟨_, rfl⟩
    have BQ := Lib.hid (show Below w.heap.size w wq by rw [hwq]; exact ⟨rfl, rfl, rfl, Nat.le_refl _, fun _ _ => rfl⟩)
    have HWQ := Lib.hid hwq
    clear hwq
    have TQ := Lib.hid (T0.out.kp BQ.out)
    have HFA := Lib.hid (show (fun x : World => x.cell? ⟨tp, 3, none⟩ = some (.pointer (some ⟨mp, 0, none⟩)) ∧ x.cell? ⟨tp, 0, none⟩ = some (.int .u32 (n : Int))) wq from ⟨TQ.out.tk.t3, TQ.out.tk.t0⟩)
    have HIMwq := Lib.hid TQ.out.tk.im
    have SZwq := Lib.hid BQ.out.size
    refine Og.region_S (S := SL [3, 8] (fun x : World => x.cell? ⟨tp, 3, none⟩ = some (.pointer (some ⟨mp, 0, none⟩)) ∧ x.cell? ⟨tp, 0, none⟩ = some (.int .u32 (n : Int)))) (by kernel_rfl) ?_
    rw [← HWQ.out]
    refine Og.s_take 0 { dst := some 7, op := Go.Op.move (Go.Operand.tmp 0), type := 146, pos := "taking.go:168", after := #[], guard := none } (.pointer (some ⟨tp, 0, none⟩)) _ (by kernel_rfl) (by kernel_rfl) (by kernel_rfl) (by kernel_rfl) (by kernel_rfl) (fun _ _ _ h => nomatch h.1) (fun h => absurd h (by decide)) (fun x' hx => ?_) (by simp only [Act.put, List.setIfInBounds_toArray, List.set_cons_zero, List.set_cons_succ]; rfl) ?_
    · go_simp; try (with_reducible rfl)
    refine Og.s_take 1 { dst := some 8, op := Go.Op.nilCheck (Go.Operand.tmp 7), type := 0, pos := "taking.go:168", after := #[{ on := 0, ground := Go.Ground.data }], guard := none } (.pointer (some ⟨tp, 0, none⟩)) _ (by kernel_rfl) (by kernel_rfl) (by kernel_rfl) (by kernel_rfl) (by kernel_rfl) (fun _ _ _ h => nomatch h.1) (fun h => absurd h (by decide)) (fun x' hx => ?_) (by simp only [Act.put, List.setIfInBounds_toArray, List.set_cons_zero, List.set_cons_succ]; rfl) ?_
    · go_simp; try (with_reducible rfl)
    refine Og.s_take 2 { dst := some 9, op := Go.Op.fieldAddr 125 (Go.Operand.tmp 8) 2, type := 0, pos := "taking.go:168", after := #[{ on := 1, ground := Go.Ground.data }], guard := none } (.pointer (some ⟨tp, 3, none⟩)) _ (by kernel_rfl) (by kernel_rfl) (by kernel_rfl) (by kernel_rfl) (by kernel_rfl) (fun _ _ _ h => nomatch h.1) (fun h => absurd h (by decide)) (fun x' hx => ?_) (by simp only [Act.put, List.setIfInBounds_toArray, List.set_cons_zero, List.set_cons_succ]; rfl) ?_
    · go_simp; try (with_reducible rfl)
    refine Og.s_take 3 { dst := some 10, op := Go.Op.load 89 (Go.Operand.tmp 9), type := 89, pos := "taking.go:168", after := #[{ on := 2, ground := Go.Ground.data }], guard := none } (.pointer (some ⟨mp, 0, none⟩)) _ (by kernel_rfl) (by kernel_rfl) (by kernel_rfl) (by kernel_rfl) (by kernel_rfl) (fun _ _ _ h => nomatch h.1) (fun _ => HFA.out) (fun x' hx => ?_) (by simp only [Act.put, List.setIfInBounds_toArray, List.set_cons_zero, List.set_cons_succ]; rfl) ?_
    · have hx1 := (hx (by decide)).1; go_simp; try (with_reducible rfl)
    refine Og.s_take 4 { dst := some 11, op := Go.Op.move (Go.Operand.tmp 0), type := 146, pos := "taking.go:168", after := #[], guard := none } (.pointer (some ⟨tp, 0, none⟩)) _ (by kernel_rfl) (by kernel_rfl) (by kernel_rfl) (by kernel_rfl) (by kernel_rfl) (fun _ _ _ h => nomatch h.1) (fun h => absurd h (by decide)) (fun x' hx => ?_) (by simp only [Act.put, List.setIfInBounds_toArray, List.set_cons_zero, List.set_cons_succ]; rfl) ?_
    · go_simp; try (with_reducible rfl)
    refine Og.s_take 5 { dst := some 12, op := Go.Op.nilCheck (Go.Operand.tmp 11), type := 0, pos := "taking.go:168", after := #[{ on := 4, ground := Go.Ground.data }], guard := none } (.pointer (some ⟨tp, 0, none⟩)) _ (by kernel_rfl) (by kernel_rfl) (by kernel_rfl) (by kernel_rfl) (by kernel_rfl) (fun _ _ _ h => nomatch h.1) (fun h => absurd h (by decide)) (fun x' hx => ?_) (by simp only [Act.put, List.setIfInBounds_toArray, List.set_cons_zero, List.set_cons_succ]; rfl) ?_
    · go_simp; try (with_reducible rfl)
    refine Og.s_take 6 { dst := some 13, op := Go.Op.fieldAddr 125 (Go.Operand.tmp 12) 0, type := 0, pos := "taking.go:168", after := #[{ on := 5, ground := Go.Ground.data }], guard := none } (.pointer (some ⟨tp, 0, none⟩)) _ (by kernel_rfl) (by kernel_rfl) (by kernel_rfl) (by kernel_rfl) (by kernel_rfl) (fun _ _ _ h => nomatch h.1) (fun h => absurd h (by decide)) (fun x' hx => ?_) (by simp only [Act.put, List.setIfInBounds_toArray, List.set_cons_zero, List.set_cons_succ]; rfl) ?_
    · go_simp; try (with_reducible rfl)
    refine Og.s_take 7 { dst := some 14, op := Go.Op.fieldAddr 121 (Go.Operand.tmp 13) 0, type := 0, pos := "taking.go:168", after := #[{ on := 6, ground := Go.Ground.data }], guard := none } (.pointer (some ⟨tp, 0, none⟩)) _ (by kernel_rfl) (by kernel_rfl) (by kernel_rfl) (by kernel_rfl) (by kernel_rfl) (fun _ _ _ h => nomatch h.1) (fun h => absurd h (by decide)) (fun x' hx => ?_) (by simp only [Act.put, List.setIfInBounds_toArray, List.set_cons_zero, List.set_cons_succ]; rfl) ?_
    · go_simp; try (with_reducible rfl)
    refine Og.s_take 8 { dst := some 15, op := Go.Op.load 23 (Go.Operand.tmp 14), type := 23, pos := "taking.go:168", after := #[{ on := 7, ground := Go.Ground.data }], guard := none } (.int .u32 (n : Int)) _ (by kernel_rfl) (by kernel_rfl) (by kernel_rfl) (by kernel_rfl) (by kernel_rfl) (fun _ _ _ h => nomatch h.1) (fun _ => HFA.out) (fun x' hx => ?_) (by simp only [Act.put, List.setIfInBounds_toArray, List.set_cons_zero, List.set_cons_succ]; rfl) ?_
    · have hx1 := (hx (by decide)).2; go_simp; try (with_reducible rfl)
    refine Og.s_two 9 13 { dst := some 16, op := Go.Op.call { callee := Go.Callee.value (Go.Operand.func 93), args := #[Go.Operand.tmp 10, Go.Operand.tmp 15], argTypes := #[89, 23] }, type := 153, pos := "taking.go:168", after := #[{ on := 3, ground := Go.Ground.data }, { on := 8, ground := Go.Ground.data }], guard := none } { dst := some 4, op := Go.Op.alloc 25, type := 0, pos := "taking.go:168", after := #[], guard := none } (by kernel_rfl) (by kernel_rfl) (by kernel_rfl) (by kernel_rfl) (by kernel_rfl) ?_ ?_
    · refine Og.call_to (w1 := wq) (f := 93) (args := #[.pointer (some ⟨mp, 0, none⟩), .int .u32 (n : Int)]) (by go_simp) ?_
      refine (line_goes mp g bs n wq HIMwq.out HNL.out).mono ?_
      rintro r W2 ⟨rfl, hb2⟩
      have B2 := Lib.hid hb2
      clear hb2
      have SZW2 := Lib.hid (show w.heap.size ≤ W2.heap.size from Nat.le_trans BQ.out.size B2.out.size)
      have T2 := Lib.hid (TQ.out.kp B2.out)
      have F2 := Lib.hid (show (fun x : World => x.cell? ⟨tp, 3, none⟩ = some (.pointer (some ⟨mp, 0, none⟩)) ∧ x.cell? ⟨tp, 0, none⟩ = some (.int .u32 (n : Int))) W2 from ⟨T2.out.tk.t3, T2.out.tk.t0⟩)
      refine ⟨_, rfl, keep_sl F2.out, ?_⟩
      refine Og.s_take 10 { dst := some 6, op := Go.Op.move (Go.Operand.tmp 16), type := 153, pos := "taking.go:168", after := #[{ on := 9, ground := Go.Ground.data }], guard := none } (.tuple #[.agg (Im.vals (Im.win bs (n * 16) 16)).toArray, .int .i64 0]) _ (by kernel_rfl) (by kernel_rfl) (by kernel_rfl) (by kernel_rfl) (by kernel_rfl) (fun _ _ _ h => nomatch h.1) (fun h => absurd h (by decide)) (fun x' hx => ?_) (by simp only [Act.put, List.setIfInBounds_toArray, List.set_cons_zero, List.set_cons_succ]; rfl) ?_
      · go_simp; try (with_reducible rfl)
      refine Og.s_take 11 { dst := some 17, op := Go.Op.extract (Go.Operand.tmp 6) 0, type := 25, pos := "taking.go:168", after := #[{ on := 10, ground := Go.Ground.data }], guard := none } (.agg (Im.vals (Im.win bs (n * 16) 16)).toArray) _ (by kernel_rfl) (by kernel_rfl) (by kernel_rfl) (by kernel_rfl) (by kernel_rfl) (fun _ _ _ h => nomatch h.1) (fun h => absurd h (by decide)) (fun x' hx => ?_) (by simp only [Act.put, List.setIfInBounds_toArray, List.set_cons_zero, List.set_cons_succ]; rfl) ?_
      · go_simp; try (with_reducible rfl)
      refine Og.s_take 12 { dst := some 18, op := Go.Op.extract (Go.Operand.tmp 6) 1, type := 47, pos := "taking.go:168", after := #[{ on := 10, ground := Go.Ground.data }, { on := 14, ground := Go.Ground.gcOnly Go.Departure.lateStores }], guard := none } (.int .i64 0) _ (by kernel_rfl) (by kernel_rfl) (by kernel_rfl) (by kernel_rfl) (by kernel_rfl) (fun _ _ _ h => nomatch h.1) (fun h => absurd h (by decide)) (fun x' hx => ?_) (by simp only [Act.put, List.setIfInBounds_toArray, List.set_cons_zero, List.set_cons_succ]; rfl) ?_
      · go_simp; try (with_reducible rfl)
      refine Og.s_one 13 { dst := some 4, op := Go.Op.alloc 25, type := 0, pos := "taking.go:168", after := #[], guard := none } (by kernel_rfl) (by kernel_rfl) (by kernel_rfl) ?_
      refine Og.run_to (v := .pointer (some ⟨W2.heap.size, 0, none⟩)) (w' := W2.alloc (.cells #[.int .u8 0, .int .u8 0, .int .u8 0, .int .u8 0, .int .u8 0, .int .u8 0, .int .u8 0, .int .u8 0, .int .u8 0, .int .u8 0, .int .u8 0, .int .u8 0, .int .u8 0, .int .u8 0, .int .u8 0, .int .u8 0] 25)) (by go_simp) ?_
      obtain ⟨nb, hnb⟩ : ∃ nb, nb = W2.heap.size := ⟨_, rfl⟩
      obtain ⟨W3, hW3⟩ : ∃ W3, W3 = W2.alloc (.cells #[.int .u8 0, .int .u8 0, .int .u8 0, .int .u8 0, .int .u8 0, .int .u8 0, .int .u8 0, .int .u8 0, .int .u8 0, .int .u8 0, .int .u8 0, .int .u8 0, .int .u8 0, .int .u8 0, .int .u8 0, .int .u8 0] 25) := ⟨_, rfl⟩
      have B3 := Lib.hid (show Below W2.heap.size W2 W3 by rw [hW3]; exact (Below.refl W2.heap.size W2).alloc (Nat.le_refl _) _)
      have Z3 := Lib.hid (show W3.heap[nb]? = some (.cells #[.int .u8 0, .int .u8 0, .int .u8 0, .int .u8 0, .int .u8 0, .int .u8 0, .int .u8 0, .int .u8 0, .int .u8 0, .int .u8 0, .int .u8 0, .int .u8 0, .int .u8 0, .int .u8 0, .int .u8 0, .int .u8 0] 25 (0, 0)) by rw [hW3, hnb]; exact heap_alloc_new _ _)
      have HNB := Lib.hid (show w.heap.size ≤ nb by rw [hnb]; exact SZW2.out)
      rw [← hW3, ← hnb]
      clear hW3 hnb
      have T3 := Lib.hid (T2.out.kp B3.out)
      have F3 := Lib.hid (show (fun x : World => x.cell? ⟨tp, 3, none⟩ = some (.pointer (some ⟨mp, 0, none⟩)) ∧ x.cell? ⟨tp, 0, none⟩ = some (.int .u32 (n : Int))) W3 from ⟨T3.out.tk.t3, T3.out.tk.t0⟩)
      refine ⟨keep_sl F3.out, ?_⟩
      refine Og.s_one 14 { dst := none, op := Go.Op.store 25 (Go.Operand.tmp 4) (Go.Operand.tmp 17), type := 0, pos := "taking.go:168", after := #[{ on := 13, ground := Go.Ground.data }, { on := 11, ground := Go.Ground.data }, { on := 9, ground := Go.Ground.chain }, { on := 0, ground := Go.Ground.phase }, { on := 1, ground := Go.Ground.phase }, { on := 2, ground := Go.Ground.phase }, { on := 3, ground := Go.Ground.phase }, { on := 4, ground := Go.Ground.phase }, { on := 5, ground := Go.Ground.phase }, { on := 6, ground := Go.Ground.phase }, { on := 7, ground := Go.Ground.phase }, { on := 8, ground := Go.Ground.phase }, { on := 9, ground := Go.Ground.phase }, { on := 10, ground := Go.Ground.phase }, { on := 11, ground := Go.Ground.phase }, { on := 12, ground := Go.Ground.textOnly Go.Departure.lateStores }, { on := 13, ground := Go.Ground.phase }], guard := none } (by kernel_rfl) (by kernel_rfl) (by kernel_rfl) ?_
      refine Og.skip_to (w' := W3.setRow nb (Im.vals (Im.win bs (n * 16) 16)).toArray) (Og.row_to 25 (.tmp 4) (.tmp 17) rfl nb (Im.vals (Im.win bs (n * 16) 16)).toArray rfl rfl 25 _ Z3.out SZL.out SZA.out (one_vals _)) ⟨keep_end (o := { dst := none, op := Go.Op.store 25 (Go.Operand.tmp 4) (Go.Operand.tmp 17), type := 0, pos := "taking.go:168", after := #[{ on := 13, ground := Go.Ground.data }, { on := 11, ground := Go.Ground.data }, { on := 9, ground := Go.Ground.chain }, { on := 0, ground := Go.Ground.phase }, { on := 1, ground := Go.Ground.phase }, { on := 2, ground := Go.Ground.phase }, { on := 3, ground := Go.Ground.phase }, { on := 4, ground := Go.Ground.phase }, { on := 5, ground := Go.Ground.phase }, { on := 6, ground := Go.Ground.phase }, { on := 7, ground := Go.Ground.phase }, { on := 8, ground := Go.Ground.phase }, { on := 9, ground := Go.Ground.phase }, { on := 10, ground := Go.Ground.phase }, { on := 11, ground := Go.Ground.phase }, { on := 12, ground := Go.Ground.textOnly Go.Departure.lateStores }, { on := 13, ground := Go.Ground.phase }], guard := none }) (by kernel_rfl) (by kernel_rfl), ?_⟩
      refine Og.s_take 15 { dst := some 5, op := Go.Op.assign (Go.Operand.tmp 18), type := 47, pos := "taking.go:168", after := #[{ on := 12, ground := Go.Ground.data }, { on := 14, ground := Go.Ground.chain }, { on := 0, ground := Go.Ground.phase }, { on := 1, ground := Go.Ground.phase }, { on := 2, ground := Go.Ground.phase }, { on := 3, ground := Go.Ground.phase }, { on := 4, ground := Go.Ground.phase }, { on := 5, ground := Go.Ground.phase }, { on := 6, ground := Go.Ground.phase }, { on := 7, ground := Go.Ground.phase }, { on := 8, ground := Go.Ground.phase }, { on := 9, ground := Go.Ground.phase }, { on := 10, ground := Go.Ground.phase }, { on := 11, ground := Go.Ground.phase }, { on := 12, ground := Go.Ground.phase }, { on := 13, ground := Go.Ground.phase }, { on := 14, ground := Go.Ground.phase }], guard := none } (.int .i64 0) _ (by kernel_rfl) (by kernel_rfl) (by kernel_rfl) (by kernel_rfl) (by kernel_rfl) (fun _ _ _ h => nomatch h.1) (fun h => absurd h (by decide)) (fun x' hx => ?_) (by simp only [Act.put, List.setIfInBounds_toArray, List.set_cons_zero, List.set_cons_succ]; rfl) ?_
      · go_simp; try (with_reducible rfl)
      refine Og.s_done (by kernel_rfl) ?_ _
      refine ⟨rfl, nb, none, 0, ?_, (T3.out.newrow T0.out.tk HNB.out _), setRow_heap _ _ _ _ _ _ Z3.out, HNB.out⟩
      simp only [Act.put, List.setIfInBounds_toArray, List.set_cons_zero, List.set_cons_succ]
    · refine Og.run_to (v := .pointer (some ⟨wq.heap.size, 0, none⟩)) (w' := wq.alloc (.cells #[.int .u8 0, .int .u8 0, .int .u8 0, .int .u8 0, .int .u8 0, .int .u8 0, .int .u8 0, .int .u8 0, .int .u8 0, .int .u8 0, .int .u8 0, .int .u8 0, .int .u8 0, .int .u8 0, .int .u8 0, .int .u8 0] 25)) (by go_simp) ?_
      obtain ⟨nb, hnb⟩ : ∃ nb, nb = wq.heap.size := ⟨_, rfl⟩
      obtain ⟨W2, hW2⟩ : ∃ W2, W2 = wq.alloc (.cells #[.int .u8 0, .int .u8 0, .int .u8 0, .int .u8 0, .int .u8 0, .int .u8 0, .int .u8 0, .int .u8 0, .int .u8 0, .int .u8 0, .int .u8 0, .int .u8 0, .int .u8 0, .int .u8 0, .int .u8 0, .int .u8 0] 25) := ⟨_, rfl⟩
      have B2 := Lib.hid (show Below wq.heap.size wq W2 by rw [hW2]; exact (Below.refl wq.heap.size wq).alloc (Nat.le_refl _) _)
      have Z2 := Lib.hid (show W2.heap[nb]? = some (.cells #[.int .u8 0, .int .u8 0, .int .u8 0, .int .u8 0, .int .u8 0, .int .u8 0, .int .u8 0, .int .u8 0, .int .u8 0, .int .u8 0, .int .u8 0, .int .u8 0, .int .u8 0, .int .u8 0, .int .u8 0, .int .u8 0] 25 (0, 0)) by rw [hW2, hnb]; exact heap_alloc_new _ _)
      have HNB := Lib.hid (show w.heap.size ≤ nb by rw [hnb]; exact SZwq.out)
      rw [← hW2, ← hnb]
      clear hW2 hnb
      have SZW2 := Lib.hid (show w.heap.size ≤ W2.heap.size from Nat.le_trans BQ.out.size B2.out.size)
      have T2 := Lib.hid (TQ.out.kp B2.out)
      have HIMW2 := Lib.hid T2.out.tk.im
      have F2 := Lib.hid (show (fun x : World => x.cell? ⟨tp, 3, none⟩ = some (.pointer (some ⟨mp, 0, none⟩)) ∧ x.cell? ⟨tp, 0, none⟩ = some (.int .u32 (n : Int))) W2 from ⟨T2.out.tk.t3, T2.out.tk.t0⟩)
      refine ⟨keep_sl F2.out, ?_⟩
      refine Og.s_one 9 { dst := some 16, op := Go.Op.call { callee := Go.Callee.value (Go.Operand.func 93), args := #[Go.Operand.tmp 10, Go.Operand.tmp 15], argTypes := #[89, 23] }, type := 153, pos := "taking.go:168", after := #[{ on := 3, ground := Go.Ground.data }, { on := 8, ground := Go.Ground.data }], guard := none } (by kernel_rfl) (by kernel_rfl) (by kernel_rfl) ?_
      refine Og.call_to (w1 := W2) (f := 93) (args := #[.pointer (some ⟨mp, 0, none⟩), .int .u32 (n : Int)]) (by go_simp) ?_
      refine (line_goes mp g bs n W2 HIMW2.out HNL.out).mono ?_
      rintro r W3 ⟨rfl, hb2⟩
      have B3 := Lib.hid hb2
      clear hb2
      have T3 := Lib.hid (T2.out.kp B3.out)
      have Z3 := Lib.hid ((B3.out.block _ (Array.getElem?_eq_some_iff.1 Z2.out).1).trans Z2.out)
      have F3 := Lib.hid (show (fun x : World => x.cell? ⟨tp, 3, none⟩ = some (.pointer (some ⟨mp, 0, none⟩)) ∧ x.cell? ⟨tp, 0, none⟩ = some (.int .u32 (n : Int))) W3 from ⟨T3.out.tk.t3, T3.out.tk.t0⟩)
      refine ⟨_, rfl, keep_sl F3.out, ?_⟩
      refine Og.s_take 10 { dst := some 6, op := Go.Op.move (Go.Operand.tmp 16), type := 153, pos := "taking.go:168", after := #[{ on := 9, ground := Go.Ground.data }], guard := none } (.tuple #[.agg (Im.vals (Im.win bs (n * 16) 16)).toArray, .int .i64 0]) _ (by kernel_rfl) (by kernel_rfl) (by kernel_rfl) (by kernel_rfl) (by kernel_rfl) (fun _ _ _ h => nomatch h.1) (fun h => absurd h (by decide)) (fun x' hx => ?_) (by simp only [Act.put, List.setIfInBounds_toArray, List.set_cons_zero, List.set_cons_succ]; rfl) ?_
      · go_simp; try (with_reducible rfl)
      refine Og.s_take 11 { dst := some 17, op := Go.Op.extract (Go.Operand.tmp 6) 0, type := 25, pos := "taking.go:168", after := #[{ on := 10, ground := Go.Ground.data }], guard := none } (.agg (Im.vals (Im.win bs (n * 16) 16)).toArray) _ (by kernel_rfl) (by kernel_rfl) (by kernel_rfl) (by kernel_rfl) (by kernel_rfl) (fun _ _ _ h => nomatch h.1) (fun h => absurd h (by decide)) (fun x' hx => ?_) (by simp only [Act.put, List.setIfInBounds_toArray, List.set_cons_zero, List.set_cons_succ]; rfl) ?_
      · go_simp; try (with_reducible rfl)
      refine Og.s_take 12 { dst := some 18, op := Go.Op.extract (Go.Operand.tmp 6) 1, type := 47, pos := "taking.go:168", after := #[{ on := 10, ground := Go.Ground.data }, { on := 14, ground := Go.Ground.gcOnly Go.Departure.lateStores }], guard := none } (.int .i64 0) _ (by kernel_rfl) (by kernel_rfl) (by kernel_rfl) (by kernel_rfl) (by kernel_rfl) (fun _ _ _ h => nomatch h.1) (fun h => absurd h (by decide)) (fun x' hx => ?_) (by simp only [Act.put, List.setIfInBounds_toArray, List.set_cons_zero, List.set_cons_succ]; rfl) ?_
      · go_simp; try (with_reducible rfl)
      refine Og.s_one 14 { dst := none, op := Go.Op.store 25 (Go.Operand.tmp 4) (Go.Operand.tmp 17), type := 0, pos := "taking.go:168", after := #[{ on := 13, ground := Go.Ground.data }, { on := 11, ground := Go.Ground.data }, { on := 9, ground := Go.Ground.chain }, { on := 0, ground := Go.Ground.phase }, { on := 1, ground := Go.Ground.phase }, { on := 2, ground := Go.Ground.phase }, { on := 3, ground := Go.Ground.phase }, { on := 4, ground := Go.Ground.phase }, { on := 5, ground := Go.Ground.phase }, { on := 6, ground := Go.Ground.phase }, { on := 7, ground := Go.Ground.phase }, { on := 8, ground := Go.Ground.phase }, { on := 9, ground := Go.Ground.phase }, { on := 10, ground := Go.Ground.phase }, { on := 11, ground := Go.Ground.phase }, { on := 12, ground := Go.Ground.textOnly Go.Departure.lateStores }, { on := 13, ground := Go.Ground.phase }], guard := none } (by kernel_rfl) (by kernel_rfl) (by kernel_rfl) ?_
      refine Og.skip_to (w' := W3.setRow nb (Im.vals (Im.win bs (n * 16) 16)).toArray) (Og.row_to 25 (.tmp 4) (.tmp 17) rfl nb (Im.vals (Im.win bs (n * 16) 16)).toArray rfl rfl 25 _ Z3.out SZL.out SZA.out (one_vals _)) ⟨keep_end (o := { dst := none, op := Go.Op.store 25 (Go.Operand.tmp 4) (Go.Operand.tmp 17), type := 0, pos := "taking.go:168", after := #[{ on := 13, ground := Go.Ground.data }, { on := 11, ground := Go.Ground.data }, { on := 9, ground := Go.Ground.chain }, { on := 0, ground := Go.Ground.phase }, { on := 1, ground := Go.Ground.phase }, { on := 2, ground := Go.Ground.phase }, { on := 3, ground := Go.Ground.phase }, { on := 4, ground := Go.Ground.phase }, { on := 5, ground := Go.Ground.phase }, { on := 6, ground := Go.Ground.phase }, { on := 7, ground := Go.Ground.phase }, { on := 8, ground := Go.Ground.phase }, { on := 9, ground := Go.Ground.phase }, { on := 10, ground := Go.Ground.phase }, { on := 11, ground := Go.Ground.phase }, { on := 12, ground := Go.Ground.textOnly Go.Departure.lateStores }, { on := 13, ground := Go.Ground.phase }], guard := none }) (by kernel_rfl) (by kernel_rfl), ?_⟩
      refine Og.s_take 15 { dst := some 5, op := Go.Op.assign (Go.Operand.tmp 18), type := 47, pos := "taking.go:168", after := #[{ on := 12, ground := Go.Ground.data }, { on := 14, ground := Go.Ground.chain }, { on := 0, ground := Go.Ground.phase }, { on := 1, ground := Go.Ground.phase }, { on := 2, ground := Go.Ground.phase }, { on := 3, ground := Go.Ground.phase }, { on := 4, ground := Go.Ground.phase }, { on := 5, ground := Go.Ground.phase }, { on := 6, ground := Go.Ground.phase }, { on := 7, ground := Go.Ground.phase }, { on := 8, ground := Go.Ground.phase }, { on := 9, ground := Go.Ground.phase }, { on := 10, ground := Go.Ground.phase }, { on := 11, ground := Go.Ground.phase }, { on := 12, ground := Go.Ground.phase }, { on := 13, ground := Go.Ground.phase }, { on := 14, ground := Go.Ground.phase }], guard := none } (.int .i64 0) _ (by kernel_rfl) (by kernel_rfl) (by kernel_rfl) (by kernel_rfl) (by kernel_rfl) (fun _ _ _ h => nomatch h.1) (fun h => absurd h (by decide)) (fun x' hx => ?_) (by simp only [Act.put, List.setIfInBounds_toArray, List.set_cons_zero, List.set_cons_succ]; rfl) ?_
      · go_simp; try (with_reducible rfl)
      refine Og.s_done (by kernel_rfl) ?_ _
      refine ⟨rfl, nb, none, 0, ?_, (T3.out.newrow T0.out.tk HNB.out _), setRow_heap _ _ _ _ _ _ Z3.out, HNB.out⟩
      simp only [Act.put, List.setIfInBounds_toArray, List.set_cons_zero, List.set_cons_succ]
  rintro nb _ _ W4 ⟨ht4, hz4, hnb4⟩
  have T4 := Lib.hid ht4; have Z4 := Lib.hid hz4; have HNB := Lib.hid hnb4
  clear ht4 hz4 hnb4
  simp only [Act.put, List.setIfInBounds_toArray, List.set_cons_zero, List.set_cons_succ]
  go_wp2_with fail
  obtain ⟨wq, hwq⟩ : ∃ wq, wq = { W4 with drawn := W4.drawn + 1 } := ⟨_, rfl⟩
  have BQ := Lib.hid (show Below W4.heap.size W4 wq by rw [hwq]; exact ⟨rfl, rfl, rfl, Nat.le_refl _, fun _ _ => rfl⟩)
  have HWQ := Lib.hid hwq
  clear hwq
  have TQ := Lib.hid (T4.out.kp BQ.out)
  have HFA := Lib.hid (show (fun x : World => x.cell? ⟨tp, 2, none⟩ = some (.pointer (some ⟨ep, 0, none⟩)) ∧ x.cell? ⟨ep, 6, none⟩ = some (.int .i64 a) ∧ x.heap[nb]? = some (.cells (Im.vals (Im.win bs (n * 16) 16)).toArray 25 (0, 0))) wq from ⟨TQ.out.tk.t2, TQ.out.tk.e6, ((BQ.out.block _ (Array.getElem?_eq_some_iff.1 Z4.out).1).trans Z4.out)⟩)
  refine Og.region_S (S := SL [7, 10, 11] (fun x : World => x.cell? ⟨tp, 2, none⟩ = some (.pointer (some ⟨ep, 0, none⟩)) ∧ x.cell? ⟨ep, 6, none⟩ = some (.int .i64 a) ∧ x.heap[nb]? = some (.cells (Im.vals (Im.win bs (n * 16) 16)).toArray 25 (0, 0)))) (by kernel_rfl) ?_
  rw [← HWQ.out]
  refine Og.s_take 0 { dst := some 19, op := Go.Op.move (Go.Operand.tmp 0), type := 146, pos := "taking.go:169", after := #[], guard := none } (.pointer (some ⟨tp, 0, none⟩)) _ (by kernel_rfl) (by kernel_rfl) (by kernel_rfl) (by kernel_rfl) (by kernel_rfl) (fun _ _ _ h => h) (fun h => absurd h (by decide)) (fun x' hx => ?_) (by simp only [Act.put, List.setIfInBounds_toArray, List.set_cons_zero, List.set_cons_succ]; rfl) ?_
  · go_simp; try (with_reducible rfl)
  refine Og.s_take 1 { dst := some 20, op := Go.Op.nilCheck (Go.Operand.tmp 19), type := 0, pos := "taking.go:169", after := #[{ on := 0, ground := Go.Ground.data }], guard := none } (.pointer (some ⟨tp, 0, none⟩)) _ (by kernel_rfl) (by kernel_rfl) (by kernel_rfl) (by kernel_rfl) (by kernel_rfl) (fun _ _ _ h => h) (fun h => absurd h (by decide)) (fun x' hx => ?_) (by simp only [Act.put, List.setIfInBounds_toArray, List.set_cons_zero, List.set_cons_succ]; rfl) ?_
  · go_simp; try (with_reducible rfl)
  refine Og.s_take 2 { dst := some 21, op := Go.Op.fieldAddr 125 (Go.Operand.tmp 20) 0, type := 0, pos := "taking.go:169", after := #[{ on := 1, ground := Go.Ground.data }], guard := none } (.pointer (some ⟨tp, 0, none⟩)) _ (by kernel_rfl) (by kernel_rfl) (by kernel_rfl) (by kernel_rfl) (by kernel_rfl) (fun _ _ _ h => h) (fun h => absurd h (by decide)) (fun x' hx => ?_) (by simp only [Act.put, List.setIfInBounds_toArray, List.set_cons_zero, List.set_cons_succ]; rfl) ?_
  · go_simp; try (with_reducible rfl)
  refine Og.s_take 3 { dst := some 22, op := Go.Op.move (Go.Operand.tmp 1), type := 65, pos := "taking.go:169", after := #[], guard := none } (.int .i64 kk) _ (by kernel_rfl) (by kernel_rfl) (by kernel_rfl) (by kernel_rfl) (by kernel_rfl) (fun _ _ _ h => h) (fun h => absurd h (by decide)) (fun x' hx => ?_) (by simp only [Act.put, List.setIfInBounds_toArray, List.set_cons_zero, List.set_cons_succ]; rfl) ?_
  · go_simp; try (with_reducible rfl)
  refine Og.s_take 4 { dst := some 23, op := Go.Op.move (Go.Operand.tmp 0), type := 146, pos := "taking.go:169", after := #[], guard := none } (.pointer (some ⟨tp, 0, none⟩)) _ (by kernel_rfl) (by kernel_rfl) (by kernel_rfl) (by kernel_rfl) (by kernel_rfl) (fun _ _ _ h => h) (fun h => absurd h (by decide)) (fun x' hx => ?_) (by simp only [Act.put, List.setIfInBounds_toArray, List.set_cons_zero, List.set_cons_succ]; rfl) ?_
  · go_simp; try (with_reducible rfl)
  refine Og.s_take 5 { dst := some 24, op := Go.Op.nilCheck (Go.Operand.tmp 23), type := 0, pos := "taking.go:169", after := #[{ on := 4, ground := Go.Ground.data }], guard := none } (.pointer (some ⟨tp, 0, none⟩)) _ (by kernel_rfl) (by kernel_rfl) (by kernel_rfl) (by kernel_rfl) (by kernel_rfl) (fun _ _ _ h => h) (fun h => absurd h (by decide)) (fun x' hx => ?_) (by simp only [Act.put, List.setIfInBounds_toArray, List.set_cons_zero, List.set_cons_succ]; rfl) ?_
  · go_simp; try (with_reducible rfl)
  refine Og.s_take 6 { dst := some 25, op := Go.Op.fieldAddr 125 (Go.Operand.tmp 24) 1, type := 0, pos := "taking.go:169", after := #[{ on := 5, ground := Go.Ground.data }], guard := none } (.pointer (some ⟨tp, 2, none⟩)) _ (by kernel_rfl) (by kernel_rfl) (by kernel_rfl) (by kernel_rfl) (by kernel_rfl) (fun _ _ _ h => h) (fun h => absurd h (by decide)) (fun x' hx => ?_) (by simp only [Act.put, List.setIfInBounds_toArray, List.set_cons_zero, List.set_cons_succ]; rfl) ?_
  · go_simp; try (with_reducible rfl)
  refine Og.s_take 7 { dst := some 26, op := Go.Op.load 122 (Go.Operand.tmp 25), type := 122, pos := "taking.go:169", after := #[{ on := 6, ground := Go.Ground.data }], guard := none } (.pointer (some ⟨ep, 0, none⟩)) _ (by kernel_rfl) (by kernel_rfl) (by kernel_rfl) (by kernel_rfl) (by kernel_rfl) (fun _ _ _ h => h) (fun _ => HFA.out) (fun x' hx => ?_) (by simp only [Act.put, List.setIfInBounds_toArray, List.set_cons_zero, List.set_cons_succ]; rfl) ?_
  · have hx1 := (hx (by decide)).1; go_simp; try (with_reducible rfl)
  refine Og.s_take 8 { dst := some 27, op := Go.Op.nilCheck (Go.Operand.tmp 26), type := 0, pos := "taking.go:169", after := #[{ on := 7, ground := Go.Ground.data }], guard := none } (.pointer (some ⟨ep, 0, none⟩)) _ (by kernel_rfl) (by kernel_rfl) (by kernel_rfl) (by kernel_rfl) (by kernel_rfl) (fun _ _ _ h => h) (fun h => absurd h (by decide)) (fun x' hx => ?_) (by simp only [Act.put, List.setIfInBounds_toArray, List.set_cons_zero, List.set_cons_succ]; rfl) ?_
  · go_simp; try (with_reducible rfl)
  refine Og.s_take 9 { dst := some 28, op := Go.Op.fieldAddr 84 (Go.Operand.tmp 27) 3, type := 0, pos := "taking.go:169", after := #[{ on := 8, ground := Go.Ground.data }], guard := none } (.pointer (some ⟨ep, 6, none⟩)) _ (by kernel_rfl) (by kernel_rfl) (by kernel_rfl) (by kernel_rfl) (by kernel_rfl) (fun _ _ _ h => h) (fun h => absurd h (by decide)) (fun x' hx => ?_) (by simp only [Act.put, List.setIfInBounds_toArray, List.set_cons_zero, List.set_cons_succ]; rfl) ?_
  · go_simp; try (with_reducible rfl)
  refine Og.s_take 10 { dst := some 29, op := Go.Op.load 3 (Go.Operand.tmp 28), type := 3, pos := "taking.go:169", after := #[{ on := 9, ground := Go.Ground.data }], guard := none } (.int .i64 a) _ (by kernel_rfl) (by kernel_rfl) (by kernel_rfl) (by kernel_rfl) (by kernel_rfl) (fun _ _ _ h => h) (fun _ => HFA.out) (fun x' hx => ?_) (by simp only [Act.put, List.setIfInBounds_toArray, List.set_cons_zero, List.set_cons_succ]; rfl) ?_
  · have hx1 := (hx (by decide)).2.1; go_simp; try (with_reducible rfl)
  refine Og.s_take 11 { dst := some 30, op := Go.Op.load 25 (Go.Operand.tmp 4), type := 25, pos := "taking.go:169", after := #[], guard := none } (.agg (Im.vals (Im.win bs (n * 16) 16)).toArray) _ (by kernel_rfl) (by kernel_rfl) (by kernel_rfl) (by kernel_rfl) (by kernel_rfl) (fun _ _ _ h => h) (fun _ => HFA.out) (fun x' hx => ?_) (by simp only [Act.put, List.setIfInBounds_toArray, List.set_cons_zero, List.set_cons_succ]; rfl) ?_
  · exact Og.load_run 25 (.tmp 4) rfl ⟨nb, 0, none⟩ rfl (run_loadVar_row x' nb 25 25 _ (0, 0) _ (hx (by decide)).2.2 Try.underlying25 rfl SZL.out)
  refine Og.s_one 12 { dst := some 31, op := Go.Op.call { callee := Go.Callee.value (Go.Operand.func 116), args := #[Go.Operand.tmp 21, Go.Operand.tmp 22, Go.Operand.tmp 29, Go.Operand.tmp 30], argTypes := #[121, 65, 3, 25] }, type := 0, pos := "taking.go:169", after := #[{ on := 2, ground := Go.Ground.data }, { on := 3, ground := Go.Ground.data }, { on := 10, ground := Go.Ground.data }, { on := 11, ground := Go.Ground.data }], guard := none } (by kernel_rfl) (by kernel_rfl) (by kernel_rfl) ?_
  refine Og.call_to (w1 := wq) (f := 116) (args := #[.pointer (some ⟨tp, 0, none⟩), .int .i64 kk, .int .i64 a, .agg (Im.vals (Im.win bs (n * 16) 16)).toArray]) (by go_simp) ?_
  refine (send_any ⟨n, sent, ⟨o, s, b, a, k, wt, td, q⟩, bs⟩ kk a (Im.win bs (n * 16) 16) hk ha HWL.out hsl wq TQ.out.ta).mono ?_
  rintro r W5 ⟨rfl, ht⟩
  obtain ⟨S5, Q5, sa5, sc5, qa5, qc5, k5⟩ := ht
  have Z5 := Lib.hid (k5.other ((BQ.out.block _ (Array.getElem?_eq_some_iff.1 Z4.out).1).trans Z4.out) (fun j hj => Nat.lt_of_lt_of_le (Tw.own_lt T0.out.tk j hj) HNB.out))
  have K5 := Lib.hid k5
  clear k5
  refine ⟨_, rfl, keep_sl (show (fun x : World => x.cell? ⟨tp, 2, none⟩ = some (.pointer (some ⟨ep, 0, none⟩)) ∧ x.cell? ⟨ep, 6, none⟩ = some (.int .i64 a) ∧ x.heap[nb]? = some (.cells (Im.vals (Im.win bs (n * 16) 16)).toArray 25 (0, 0))) W5 from ⟨K5.out.tk.t2, K5.out.tk.e6, Z5.out⟩), ?_⟩
  refine Og.s_done (by kernel_rfl) ?_ _
  try simp only [Act.put, List.setIfInBounds_toArray, List.set_cons_zero, List.set_cons_succ]
  have T5 := Lib.hid (TQ.out.behind K5.out)
  go_wp2_with fail
  obtain ⟨wq, hwq⟩ : ∃ wq, wq = { W5 with drawn := W5.drawn + 1 } := ⟨_, rfl⟩
  have BQ := Lib.hid (show Below W5.heap.size W5 wq by rw [hwq]; exact ⟨rfl, rfl, rfl, Nat.le_refl _, fun _ _ => rfl⟩)
  have HWQ := Lib.hid hwq
  clear hwq
  have TQ := Lib.hid (T5.out.kp BQ.out)
  have HFA := Lib.hid (show (fun x : World => x.cell? ⟨tp, 2, none⟩ = some (.pointer (some ⟨ep, 0, none⟩))) wq from TQ.out.tk.t2)
  refine Og.region_S (S := SL [3, 7] (fun x : World => x.cell? ⟨tp, 2, none⟩ = some (.pointer (some ⟨ep, 0, none⟩)))) (by kernel_rfl) ?_
  rw [← HWQ.out]
  refine Og.s_take 0 { dst := some 32, op := Go.Op.move (Go.Operand.tmp 0), type := 146, pos := "taking.go:170", after := #[], guard := none } (.pointer (some ⟨tp, 0, none⟩)) _ (by kernel_rfl) (by kernel_rfl) (by kernel_rfl) (by kernel_rfl) (by kernel_rfl) (fun _ _ _ h => h) (fun h => absurd h (by decide)) (fun x' hx => ?_) (by simp only [Act.put, List.setIfInBounds_toArray, List.set_cons_zero, List.set_cons_succ]; rfl) ?_
  · go_simp; try (with_reducible rfl)
  refine Og.s_take 1 { dst := some 33, op := Go.Op.nilCheck (Go.Operand.tmp 32), type := 0, pos := "taking.go:170", after := #[{ on := 0, ground := Go.Ground.data }], guard := none } (.pointer (some ⟨tp, 0, none⟩)) _ (by kernel_rfl) (by kernel_rfl) (by kernel_rfl) (by kernel_rfl) (by kernel_rfl) (fun _ _ _ h => h) (fun h => absurd h (by decide)) (fun x' hx => ?_) (by simp only [Act.put, List.setIfInBounds_toArray, List.set_cons_zero, List.set_cons_succ]; rfl) ?_
  · go_simp; try (with_reducible rfl)
  refine Og.s_take 2 { dst := some 34, op := Go.Op.fieldAddr 125 (Go.Operand.tmp 33) 1, type := 0, pos := "taking.go:170", after := #[{ on := 1, ground := Go.Ground.data }], guard := none } (.pointer (some ⟨tp, 2, none⟩)) _ (by kernel_rfl) (by kernel_rfl) (by kernel_rfl) (by kernel_rfl) (by kernel_rfl) (fun _ _ _ h => h) (fun h => absurd h (by decide)) (fun x' hx => ?_) (by simp only [Act.put, List.setIfInBounds_toArray, List.set_cons_zero, List.set_cons_succ]; rfl) ?_
  · go_simp; try (with_reducible rfl)
  refine Og.s_take 3 { dst := some 35, op := Go.Op.load 122 (Go.Operand.tmp 34), type := 122, pos := "taking.go:170", after := #[{ on := 2, ground := Go.Ground.data }], guard := none } (.pointer (some ⟨ep, 0, none⟩)) _ (by kernel_rfl) (by kernel_rfl) (by kernel_rfl) (by kernel_rfl) (by kernel_rfl) (fun _ _ _ h => h) (fun _ => HFA.out) (fun x' hx => ?_) (by simp only [Act.put, List.setIfInBounds_toArray, List.set_cons_zero, List.set_cons_succ]; rfl) ?_
  · have hx1 := (hx (by decide)); go_simp; try (with_reducible rfl)
  refine Og.s_take 4 { dst := some 36, op := Go.Op.move (Go.Operand.tmp 0), type := 146, pos := "taking.go:170", after := #[], guard := none } (.pointer (some ⟨tp, 0, none⟩)) _ (by kernel_rfl) (by kernel_rfl) (by kernel_rfl) (by kernel_rfl) (by kernel_rfl) (fun _ _ _ h => h) (fun h => absurd h (by decide)) (fun x' hx => ?_) (by simp only [Act.put, List.setIfInBounds_toArray, List.set_cons_zero, List.set_cons_succ]; rfl) ?_
  · go_simp; try (with_reducible rfl)
  refine Og.s_take 5 { dst := some 37, op := Go.Op.nilCheck (Go.Operand.tmp 36), type := 0, pos := "taking.go:170", after := #[{ on := 4, ground := Go.Ground.data }], guard := none } (.pointer (some ⟨tp, 0, none⟩)) _ (by kernel_rfl) (by kernel_rfl) (by kernel_rfl) (by kernel_rfl) (by kernel_rfl) (fun _ _ _ h => h) (fun h => absurd h (by decide)) (fun x' hx => ?_) (by simp only [Act.put, List.setIfInBounds_toArray, List.set_cons_zero, List.set_cons_succ]; rfl) ?_
  · go_simp; try (with_reducible rfl)
  refine Og.s_take 6 { dst := some 38, op := Go.Op.fieldAddr 125 (Go.Operand.tmp 37) 1, type := 0, pos := "taking.go:170", after := #[{ on := 5, ground := Go.Ground.data }], guard := none } (.pointer (some ⟨tp, 2, none⟩)) _ (by kernel_rfl) (by kernel_rfl) (by kernel_rfl) (by kernel_rfl) (by kernel_rfl) (fun _ _ _ h => h) (fun h => absurd h (by decide)) (fun x' hx => ?_) (by simp only [Act.put, List.setIfInBounds_toArray, List.set_cons_zero, List.set_cons_succ]; rfl) ?_
  · go_simp; try (with_reducible rfl)
  refine Og.s_take 7 { dst := some 39, op := Go.Op.load 122 (Go.Operand.tmp 38), type := 122, pos := "taking.go:170", after := #[{ on := 6, ground := Go.Ground.data }], guard := none } (.pointer (some ⟨ep, 0, none⟩)) _ (by kernel_rfl) (by kernel_rfl) (by kernel_rfl) (by kernel_rfl) (by kernel_rfl) (fun _ _ _ h => h) (fun _ => HFA.out) (fun x' hx => ?_) (by simp only [Act.put, List.setIfInBounds_toArray, List.set_cons_zero, List.set_cons_succ]; rfl) ?_
  · have hx1 := (hx (by decide)); go_simp; try (with_reducible rfl)
  refine Og.s_take 8 { dst := some 40, op := Go.Op.nilCheck (Go.Operand.tmp 35), type := 0, pos := "taking.go:170", after := #[{ on := 3, ground := Go.Ground.data }, { on := 0, ground := Go.Ground.phase }, { on := 1, ground := Go.Ground.phase }, { on := 2, ground := Go.Ground.phase }, { on := 3, ground := Go.Ground.phase }, { on := 4, ground := Go.Ground.textOnly Go.Departure.lateStores }, { on := 5, ground := Go.Ground.textOnly Go.Departure.lateStoresUnsure }, { on := 6, ground := Go.Ground.textOnly Go.Departure.lateStoresUnsure }, { on := 7, ground := Go.Ground.phase }], guard := none } (.pointer (some ⟨ep, 0, none⟩)) _ (by kernel_rfl) (by kernel_rfl) (by kernel_rfl) (by kernel_rfl) (by kernel_rfl) (fun _ _ _ h => h) (fun h => absurd h (by decide)) (fun x' hx => ?_) (by simp only [Act.put, List.setIfInBounds_toArray, List.set_cons_zero, List.set_cons_succ]; rfl) ?_
  · go_simp; try (with_reducible rfl)
  refine Og.s_take 9 { dst := some 41, op := Go.Op.fieldAddr 84 (Go.Operand.tmp 40) 5, type := 0, pos := "taking.go:170", after := #[{ on := 8, ground := Go.Ground.data }, { on := 0, ground := Go.Ground.phase }, { on := 1, ground := Go.Ground.phase }, { on := 2, ground := Go.Ground.phase }, { on := 3, ground := Go.Ground.phase }, { on := 4, ground := Go.Ground.textOnly Go.Departure.lateStores }, { on := 5, ground := Go.Ground.textOnly Go.Departure.lateStoresUnsure }, { on := 6, ground := Go.Ground.textOnly Go.Departure.lateStoresUnsure }, { on := 7, ground := Go.Ground.phase }], guard := none } (.pointer (some ⟨ep, 8, none⟩)) _ (by kernel_rfl) (by kernel_rfl) (by kernel_rfl) (by kernel_rfl) (by kernel_rfl) (fun _ _ _ h => h) (fun h => absurd h (by decide)) (fun x' hx => ?_) (by simp only [Act.put, List.setIfInBounds_toArray, List.set_cons_zero, List.set_cons_succ]; rfl) ?_
  · go_simp; try (with_reducible rfl)
  obtain ⟨W6, hW6⟩ : ∃ W6, W6 = wq.setRow ep (ecells (⟨o, s, b, a, k, 0, td, q⟩) qa5 qc5) := ⟨_, rfl⟩
  have TW6 := Lib.hid (TQ.out.row (⟨o, s, b, a, k, 0, td, q⟩) rfl)
  rw [← hW6] at TW6
  have HW6 := Lib.hid hW6
  clear hW6
  have FW6 := Lib.hid (show (fun x : World => x.cell? ⟨tp, 2, none⟩ = some (.pointer (some ⟨ep, 0, none⟩))) W6 from TW6.out.tk.t2)
  refine Og.s_one 10 { dst := none, op := Go.Op.store 3 (Go.Operand.tmp 41) (Go.Operand.const (Go.Value.int Go.IntKind.i64 0)), type := 0, pos := "taking.go:170", after := #[{ on := 9, ground := Go.Ground.data }, { on := 0, ground := Go.Ground.phase }, { on := 1, ground := Go.Ground.phase }, { on := 2, ground := Go.Ground.phase }, { on := 3, ground := Go.Ground.phase }, { on := 4, ground := Go.Ground.textOnly Go.Departure.lateStores }, { on := 5, ground := Go.Ground.textOnly Go.Departure.lateStoresUnsure }, { on := 6, ground := Go.Ground.textOnly Go.Departure.lateStoresUnsure }, { on := 7, ground := Go.Ground.phase }], guard := none } (by kernel_rfl) (by kernel_rfl) (by kernel_rfl) ?_
  refine Og.skip_to (w' := W6) (by rw [HW6.out]; exact put_to 3 (Go.Operand.tmp 41) (Go.Operand.const (Go.Value.int Go.IntKind.i64 0)) rfl ep (8) (.int .i64 0) rfl rfl 84 _ TQ.out.tk.eb (by kernel_rfl) (Nat.le_of_ble_eq_true rfl) (one_int _ _) _ rfl) ⟨keep_sl FW6.out, ?_⟩
  refine Og.s_take 11 { dst := some 42, op := Go.Op.nilCheck (Go.Operand.tmp 39), type := 0, pos := "taking.go:170", after := #[{ on := 7, ground := Go.Ground.data }, { on := 0, ground := Go.Ground.phase }, { on := 1, ground := Go.Ground.phase }, { on := 2, ground := Go.Ground.phase }, { on := 3, ground := Go.Ground.phase }, { on := 4, ground := Go.Ground.phase }, { on := 5, ground := Go.Ground.phase }, { on := 6, ground := Go.Ground.phase }, { on := 7, ground := Go.Ground.phase }, { on := 8, ground := Go.Ground.phase }, { on := 9, ground := Go.Ground.phase }, { on := 10, ground := Go.Ground.phase }], guard := none } (.pointer (some ⟨ep, 0, none⟩)) _ (by kernel_rfl) (by kernel_rfl) (by kernel_rfl) (by kernel_rfl) (by kernel_rfl) (fun _ _ _ h => h) (fun h => absurd h (by decide)) (fun x' hx => ?_) (by simp only [Act.put, List.setIfInBounds_toArray, List.set_cons_zero, List.set_cons_succ]; rfl) ?_
  · go_simp; try (with_reducible rfl)
  refine Og.s_take 12 { dst := some 43, op := Go.Op.fieldAddr 84 (Go.Operand.tmp 42) 6, type := 0, pos := "taking.go:170", after := #[{ on := 11, ground := Go.Ground.data }, { on := 0, ground := Go.Ground.phase }, { on := 1, ground := Go.Ground.phase }, { on := 2, ground := Go.Ground.phase }, { on := 3, ground := Go.Ground.phase }, { on := 4, ground := Go.Ground.phase }, { on := 5, ground := Go.Ground.phase }, { on := 6, ground := Go.Ground.phase }, { on := 7, ground := Go.Ground.phase }, { on := 8, ground := Go.Ground.phase }, { on := 9, ground := Go.Ground.phase }, { on := 10, ground := Go.Ground.phase }], guard := none } (.pointer (some ⟨ep, 9, none⟩)) _ (by kernel_rfl) (by kernel_rfl) (by kernel_rfl) (by kernel_rfl) (by kernel_rfl) (fun _ _ _ h => h) (fun h => absurd h (by decide)) (fun x' hx => ?_) (by simp only [Act.put, List.setIfInBounds_toArray, List.set_cons_zero, List.set_cons_succ]; rfl) ?_
  · go_simp; try (with_reducible rfl)
  obtain ⟨W7, hW7⟩ : ∃ W7, W7 = W6.setRow ep (ecells (⟨o, s, b, a, k, 0, true, q⟩) qa5 qc5) := ⟨_, rfl⟩
  have TW7 := Lib.hid (TW6.out.row (⟨o, s, b, a, k, 0, true, q⟩) rfl)
  rw [← hW7] at TW7
  have HW7 := Lib.hid hW7
  clear hW7
  have FW7 := Lib.hid (show (fun x : World => x.cell? ⟨tp, 2, none⟩ = some (.pointer (some ⟨ep, 0, none⟩))) W7 from TW7.out.tk.t2)
  refine Og.s_one 13 { dst := none, op := Go.Op.store 4 (Go.Operand.tmp 43) (Go.Operand.const (Go.Value.bool true)), type := 0, pos := "taking.go:170", after := #[{ on := 12, ground := Go.Ground.data }, { on := 10, ground := Go.Ground.chain }, { on := 0, ground := Go.Ground.phase }, { on := 1, ground := Go.Ground.phase }, { on := 2, ground := Go.Ground.phase }, { on := 3, ground := Go.Ground.phase }, { on := 4, ground := Go.Ground.phase }, { on := 5, ground := Go.Ground.phase }, { on := 6, ground := Go.Ground.phase }, { on := 7, ground := Go.Ground.phase }, { on := 8, ground := Go.Ground.phase }, { on := 9, ground := Go.Ground.phase }, { on := 10, ground := Go.Ground.phase }], guard := none } (by kernel_rfl) (by kernel_rfl) (by kernel_rfl) ?_
  refine Og.skip_to (w' := W7) (by rw [HW7.out]; exact put_to 4 (Go.Operand.tmp 43) (Go.Operand.const (Go.Value.bool true)) rfl ep (9) (.bool true) rfl rfl 84 _ TW6.out.tk.eb (by kernel_rfl) (Nat.le_of_ble_eq_true rfl) (one_bool _) _ rfl) ⟨keep_sl FW7.out, ?_⟩
  refine Og.s_done (by kernel_rfl) ?_ _
  try simp only [Act.put, List.setIfInBounds_toArray, List.set_cons_zero, List.set_cons_succ]
  go_wp2_with fail
  go_end0
  refine ⟨rfl, ?_⟩
  rw [← HT.out]
  exact TW7.out.tt
end
end Hm
end Go.Proofs.Ytfajkgbpeapcbaa
end
