/-
  The contracts of Ready and Copy.
-/
import Derived.Test.YtnfpcklpmfemiaaNtCut
namespace Go.Proofs.Ytnfpcklpmfemiaa
open Go.RowKit
set_option linter.unusedVariables false
set_option linter.unusedSimpArgs false
namespace Nt
set_option maxRecDepth 100000 in
set_option maxHeartbeats 8000000 in
theorem ready_any (w : World) {F p most l} (h : Net w F p most l) : Calls Try.prog 33 #[.pointer (some ⟨p, 0, none⟩)] w fun e w' => Told w w' e l := by
  have KN := Lib.hid (isNone_any w h)
  obtain ⟨a, c, hn⟩ := h
  have N0 := Lib.hid hn
  clear hn
  go_enter Try.func33, Try.ntmps33
  go_wp2_with (go_at_call 64; (with_reducible refine KN.out.mono ?_); rintro e2 W1 ⟨rfl, hw⟩; subst hw)
  obtain ⟨wq, hwq⟩ : ∃ wq, wq = { w with drawn := w.drawn + 1 } := ⟨_, rfl⟩
  have BQ := Lib.hid (show Below w.heap.size w wq by rw [hwq]; exact ⟨rfl, rfl, rfl, Nat.le_refl _, fun _ _ => rfl⟩)
  have HWQ := Lib.hid hwq
  clear hwq
  have NQ := Lib.hid (N0.out.kp BQ.out)
  have HFA := Lib.hid (show (fun x : World => x.cell? ⟨p, 1, none⟩ = some (.slice a l.length c)) wq from NQ.out.c1)
  refine Og.region_S (S := Og.SF 6 (fun x : World => x.cell? ⟨p, 1, none⟩ = some (.slice a l.length c))) (by kernel_rfl) ?_
  rw [← HWQ.out]
  refine Og.s_take 0 { dst := some 5, op := Go.Op.move (Go.Operand.tmp 0), type := 62, pos := "net.go:51", after := #[], guard := none } (.pointer (some ⟨p, 0, none⟩)) _ (by kernel_rfl) (by kernel_rfl) (by kernel_rfl) (by kernel_rfl) (by kernel_rfl) (fun _ _ _ h => h) (fun _ => HFA.out) (fun x' hx => ?_) (by simp only [Act.put, List.setIfInBounds_toArray, List.set_cons_zero, List.set_cons_succ]; rfl) ?_
  · go_simp; try (with_reducible rfl)
  refine Og.s_take 2 { dst := some 7, op := Go.Op.move (Go.Operand.tmp 0), type := 62, pos := "net.go:51", after := #[], guard := none } (.pointer (some ⟨p, 0, none⟩)) _ (by kernel_rfl) (by kernel_rfl) (by kernel_rfl) (by kernel_rfl) (by kernel_rfl) (fun _ _ _ h => h) (fun _ => HFA.out) (fun x' hx => ?_) (by simp only [Act.put, List.setIfInBounds_toArray, List.set_cons_zero, List.set_cons_succ]; rfl) ?_
  · go_simp; try (with_reducible rfl)
  refine Og.s_take 3 { dst := some 8, op := Go.Op.nilCheck (Go.Operand.tmp 7), type := 0, pos := "net.go:51", after := #[{ on := 2, ground := Go.Ground.data }], guard := none } (.pointer (some ⟨p, 0, none⟩)) _ (by kernel_rfl) (by kernel_rfl) (by kernel_rfl) (by kernel_rfl) (by kernel_rfl) (fun _ _ _ h => h) (fun _ => HFA.out) (fun x' hx => ?_) (by simp only [Act.put, List.setIfInBounds_toArray, List.set_cons_zero, List.set_cons_succ]; rfl) ?_
  · go_simp; try (with_reducible rfl)
  refine Og.s_take 4 { dst := some 9, op := Go.Op.fieldAddr 110 (Go.Operand.tmp 8) 1, type := 0, pos := "net.go:51", after := #[{ on := 3, ground := Go.Ground.data }], guard := none } (.pointer (some ⟨p, 1, none⟩)) _ (by kernel_rfl) (by kernel_rfl) (by kernel_rfl) (by kernel_rfl) (by kernel_rfl) (fun _ _ _ h => h) (fun _ => HFA.out) (fun x' hx => ?_) (by simp only [Act.put, List.setIfInBounds_toArray, List.set_cons_zero, List.set_cons_succ]; rfl) ?_
  · go_simp; try (with_reducible rfl)
  refine Og.s_take 5 { dst := some 10, op := Go.Op.load 68 (Go.Operand.tmp 9), type := 68, pos := "net.go:51", after := #[{ on := 4, ground := Go.Ground.data }], guard := none } (.slice a l.length c) _ (by kernel_rfl) (by kernel_rfl) (by kernel_rfl) (by kernel_rfl) (by kernel_rfl) (fun _ _ _ h => h) (fun _ => HFA.out) (fun x' hx => ?_) (by simp only [Act.put, List.setIfInBounds_toArray, List.set_cons_zero, List.set_cons_succ]; rfl) ?_
  · have hx1 := hx (by decide); go_simp; try (with_reducible rfl)
  refine Og.s_one 1 { dst := some 6, op := Go.Op.call { callee := Go.Callee.value (Go.Operand.func 63), args := #[Go.Operand.tmp 5, Go.Operand.const (Go.Value.int Go.IntKind.i64 0)], argTypes := #[62, 3] }, type := 68, pos := "net.go:51", after := #[{ on := 0, ground := Go.Ground.data }], guard := none } (by kernel_rfl) (by kernel_rfl) (by kernel_rfl) ?_
  refine Og.call_to (w1 := wq) (f := 63) (args := #[.pointer (some ⟨p, 0, none⟩), .int .i64 0]) (by go_simp) ?_
  refine (ahead_any wq NQ.out (k := 0) (Nat.zero_le _)).mono ?_
  rintro e' W3 ⟨rfl, hw3⟩
  subst hw3
  refine ⟨_, rfl, Og.keep_sf (fun h => h), ?_⟩
  obtain ⟨a', c', W5, hr5, ho5, hf5⟩ := append_any (w := wq) (F := fun _ => False) (a := a) (c := 0) (l := []) (.inl ⟨rfl, rfl⟩) (fun _ h => nomatch h) NQ.out.ls (by have := NQ.out.len; have := NQ.out.max; simp only [List.length_nil]; omega)
  simp only [List.nil_append, List.length_nil] at hr5 ho5
  have HR5 := Lib.hid hr5; have HO5 := Lib.hid ho5; have HF5 := Lib.hid (fr_below hf5)
  clear hr5 ho5 hf5
  refine Og.s_one 6 { dst := some 11, op := Go.Op.call { callee := Go.Callee.builtin Go.Builtin.append, args := #[Go.Operand.tmp 6, Go.Operand.tmp 10], argTypes := #[68, 68] }, type := 68, pos := "net.go:51", after := #[{ on := 1, ground := Go.Ground.data }, { on := 5, ground := Go.Ground.data }, { on := 1, ground := Go.Ground.chain }], guard := none } (by kernel_rfl) (by kernel_rfl) (by kernel_rfl) ?_
  refine Og.run_to (v := .slice a' l.length c') (w' := W5) (Og.append_to (.tmp 6) (.tmp 10) 68 rfl rfl rfl HR5.out) ⟨Og.keep_sf (fun h => Ev.kp_below HF5.out _ _ h), ?_⟩
  refine Og.s_take 7 { dst := some 2, op := Go.Op.assign (Go.Operand.tmp 11), type := 68, pos := "net.go:51", after := #[{ on := 6, ground := Go.Ground.data }, { on := 6, ground := Go.Ground.chain }, { on := 0, ground := Go.Ground.phase }, { on := 1, ground := Go.Ground.phase }, { on := 2, ground := Go.Ground.phase }, { on := 3, ground := Go.Ground.phase }, { on := 4, ground := Go.Ground.phase }, { on := 5, ground := Go.Ground.phase }, { on := 6, ground := Go.Ground.phase }], guard := none } ((.slice a' l.length c')) _ (by kernel_rfl) (by kernel_rfl) (by kernel_rfl) (by kernel_rfl) (by kernel_rfl) (fun _ _ _ h => h) (fun h => absurd h (by decide)) (fun x' hx => ?_) (by simp only [Act.put, List.setIfInBounds_toArray, List.set_cons_zero, List.set_cons_succ]; rfl) ?_
  · go_simp; try (with_reducible rfl)
  refine Og.s_done (by kernel_rfl) ?_ _
  try simp only [Act.put, List.setIfInBounds_toArray, List.set_cons_zero, List.set_cons_succ]
  go_wp2_with fail
  go_ret
  refine ⟨a', c', rfl, HO5.out.mono (fun k hk => ?_), N0.out.ok, BQ.out.trans (HF5.out.mono BQ.out.size)⟩
  rcases hk with hk | hk
  · exact hk.elim
  · rw [hk]; exact BQ.out.size
set_option maxRecDepth 100000 in
set_option maxHeartbeats 8000000 in
theorem copy_any (w : World) {F p most l} (h : Net w F p most l) : Calls Try.prog 35 #[.pointer (some ⟨p, 0, none⟩)] w fun e w' => ∃ q, e = .returned (.pointer (some ⟨q, 0, none⟩)) ∧ Below w.heap.size w w' ∧ ∃ G, Net w' G q most l ∧ ∀ k, G k → w.heap.size ≤ k := by
  have KN := Lib.hid (isNone_any w h)
  have N0 := Lib.hid h
  clear h
  go_enter Try.func35, Try.ntmps35
  go_wp2_with (go_at_call 64; (with_reducible refine KN.out.mono ?_); rintro e2 W1 ⟨rfl, hw⟩; subst hw)
  obtain ⟨wq, hwq⟩ : ∃ wq, wq = { w with drawn := w.drawn + 1 } := ⟨_, rfl⟩
  have BQ := Lib.hid (show Below w.heap.size w wq by rw [hwq]; exact ⟨rfl, rfl, rfl, Nat.le_refl _, fun _ _ => rfl⟩)
  have HWQ := Lib.hid hwq
  clear hwq
  have NQ := Lib.hid (N0.out.kp BQ.out)
  have CQ := Lib.hid (show wq.cell? ⟨p, 0, none⟩ = some (.int .i64 (most : Int)) from by obtain ⟨a, c, h⟩ := NQ.out; exact h.c0)
  have HFA := Lib.hid (show (fun x : World => x.cell? ⟨p, 0, none⟩ = some (.int .i64 (most : Int))) wq from CQ.out)
  refine Og.region_S (S := Og.SF 5 (fun x : World => x.cell? ⟨p, 0, none⟩ = some (.int .i64 (most : Int)))) (by kernel_rfl) ?_
  rw [← HWQ.out]
  refine Og.s_take 0 { dst := some 5, op := Go.Op.move (Go.Operand.tmp 0), type := 62, pos := "net.go:87", after := #[], guard := none } (.pointer (some ⟨p, 0, none⟩)) _ (by kernel_rfl) (by kernel_rfl) (by kernel_rfl) (by kernel_rfl) (by kernel_rfl) (fun _ _ _ h => h) (fun _ => HFA.out) (fun x' hx => ?_) (by simp only [Act.put, List.setIfInBounds_toArray, List.set_cons_zero, List.set_cons_succ]; rfl) ?_
  · go_simp; try (with_reducible rfl)
  refine Og.s_take 1 { dst := some 6, op := Go.Op.nilCheck (Go.Operand.tmp 5), type := 0, pos := "net.go:87", after := #[{ on := 0, ground := Go.Ground.data }], guard := none } (.pointer (some ⟨p, 0, none⟩)) _ (by kernel_rfl) (by kernel_rfl) (by kernel_rfl) (by kernel_rfl) (by kernel_rfl) (fun _ _ _ h => h) (fun _ => HFA.out) (fun x' hx => ?_) (by simp only [Act.put, List.setIfInBounds_toArray, List.set_cons_zero, List.set_cons_succ]; rfl) ?_
  · go_simp; try (with_reducible rfl)
  refine Og.s_take 2 { dst := some 7, op := Go.Op.fieldAddr 110 (Go.Operand.tmp 6) 0, type := 0, pos := "net.go:87", after := #[{ on := 1, ground := Go.Ground.data }], guard := none } (.pointer (some ⟨p, 0, none⟩)) _ (by kernel_rfl) (by kernel_rfl) (by kernel_rfl) (by kernel_rfl) (by kernel_rfl) (fun _ _ _ h => h) (fun _ => HFA.out) (fun x' hx => ?_) (by simp only [Act.put, List.setIfInBounds_toArray, List.set_cons_zero, List.set_cons_succ]; rfl) ?_
  · go_simp; try (with_reducible rfl)
  refine Og.s_take 3 { dst := some 8, op := Go.Op.load 3 (Go.Operand.tmp 7), type := 3, pos := "net.go:87", after := #[{ on := 2, ground := Go.Ground.data }], guard := none } (.int .i64 (most : Int)) _ (by kernel_rfl) (by kernel_rfl) (by kernel_rfl) (by kernel_rfl) (by kernel_rfl) (fun _ _ _ h => h) (fun _ => HFA.out) (fun x' hx => ?_) (by simp only [Act.put, List.setIfInBounds_toArray, List.set_cons_zero, List.set_cons_succ]; rfl) ?_
  · have hx1 := hx (by decide); go_simp; try (with_reducible rfl)
  refine Og.s_take 4 { dst := some 9, op := Go.Op.move (Go.Operand.tmp 0), type := 62, pos := "net.go:87", after := #[], guard := none } (.pointer (some ⟨p, 0, none⟩)) _ (by kernel_rfl) (by kernel_rfl) (by kernel_rfl) (by kernel_rfl) (by kernel_rfl) (fun _ _ _ h => h) (fun _ => HFA.out) (fun x' hx => ?_) (by simp only [Act.put, List.setIfInBounds_toArray, List.set_cons_zero, List.set_cons_succ]; rfl) ?_
  · go_simp; try (with_reducible rfl)
  refine Og.s_one 5 { dst := some 10, op := Go.Op.call { callee := Go.Callee.value (Go.Operand.func 33), args := #[Go.Operand.tmp 9], argTypes := #[62] }, type := 68, pos := "net.go:87", after := #[{ on := 4, ground := Go.Ground.data }], guard := none } (by kernel_rfl) (by kernel_rfl) (by kernel_rfl) ?_
  refine Og.call_to (w1 := wq) (f := 33) (args := #[.pointer (some ⟨p, 0, none⟩)]) (by go_simp) ?_
  refine (ready_any wq NQ.out).mono ?_
  rintro e' W3 ⟨a', c', rfl, ho3, hok3, hb3⟩
  have B3 := Lib.hid hb3; have O3 := Lib.hid ho3; have K3 := Lib.hid hok3
  clear hb3 ho3 hok3
  refine ⟨_, rfl, Og.keep_sf (fun h => Ev.kp_below B3.out _ _ h), ?_⟩
  refine Og.s_take 6 { dst := some 11, op := Go.Op.build 110 #[(0, Go.Operand.tmp 8), (1, Go.Operand.tmp 10)], type := 110, pos := "net.go:87", after := #[{ on := 3, ground := Go.Ground.data }, { on := 5, ground := Go.Ground.data }], guard := none } ((.agg #[.int .i64 (most : Int), .slice a' l.length c'])) _ (by kernel_rfl) (by kernel_rfl) (by kernel_rfl) (by kernel_rfl) (by kernel_rfl) (fun _ _ _ h => h) (fun h => absurd h (by decide)) (fun x' hx => ?_) (by simp only [Act.put, List.setIfInBounds_toArray, List.set_cons_zero, List.set_cons_succ]; rfl) ?_
  · go_simp; try (with_reducible rfl)
  refine Og.s_one 7 { dst := some 12, op := Go.Op.box 110 (Go.Operand.tmp 11), type := 62, pos := "net.go:87", after := #[{ on := 6, ground := Go.Ground.data }], guard := none } (by kernel_rfl) (by kernel_rfl) (by kernel_rfl) ?_
  refine Og.run_to (v := .pointer (some ⟨W3.heap.size, 0, none⟩)) (w' := W3.alloc (.cells #[.int .i64 (most : Int), .slice a' l.length c'] 110)) (by go_simp) ?_
  obtain ⟨nb, hnb⟩ : ∃ nb, nb = W3.heap.size := ⟨_, rfl⟩
  obtain ⟨W4, hW4⟩ : ∃ W4, W4 = W3.alloc (.cells #[.int .i64 (most : Int), .slice a' l.length c'] 110) := ⟨_, rfl⟩
  have BA := Lib.hid (show Below W3.heap.size W3 W4 by rw [hW4]; exact (Below.refl W3.heap.size W3).alloc (Nat.le_refl _) _)
  have Z4 := Lib.hid (show W4.heap[nb]? = some (.cells #[.int .i64 (most : Int), .slice a' l.length c'] 110 (0, 0)) by rw [hW4, hnb]; exact heap_alloc_new _ _)
  have HNB := Lib.hid hnb
  rw [← hW4, ← hnb]
  clear hW4 hnb
  refine ⟨Og.keep_sf (fun h => Ev.kp_below BA.out _ _ h), ?_⟩
  refine Og.s_take 8 { dst := some 2, op := Go.Op.assign (Go.Operand.tmp 12), type := 62, pos := "net.go:87", after := #[{ on := 7, ground := Go.Ground.data }, { on := 5, ground := Go.Ground.chain }, { on := 0, ground := Go.Ground.phase }, { on := 1, ground := Go.Ground.phase }, { on := 2, ground := Go.Ground.phase }, { on := 3, ground := Go.Ground.phase }, { on := 4, ground := Go.Ground.phase }, { on := 5, ground := Go.Ground.phase }, { on := 6, ground := Go.Ground.phase }, { on := 7, ground := Go.Ground.phase }], guard := none } (.pointer (some ⟨nb, 0, none⟩)) _ (by kernel_rfl) (by kernel_rfl) (by kernel_rfl) (by kernel_rfl) (by kernel_rfl) (fun _ _ _ h => h) (fun h => absurd h (by decide)) (fun x' hx => ?_) (by simp only [Act.put, List.setIfInBounds_toArray, List.set_cons_zero, List.set_cons_succ]; rfl) ?_
  · go_simp; try (with_reducible rfl)
  refine Og.s_done (by kernel_rfl) ?_ _
  try simp only [Act.put, List.setIfInBounds_toArray, List.set_cons_zero, List.set_cons_succ]
  go_wp2_with fail
  go_ret
  have hs := BQ.out.size
  have hs3 := B3.out.size
  refine ⟨nb, rfl, (BQ.out.trans (B3.out.mono BQ.out.size)).trans (BA.out.mono (by omega)), fun k => w.heap.size ≤ k ∧ k < W4.heap.size, ⟨a', c', Z4.out, ((O3.out.mono (fun k hk => Nat.le_trans hs hk)).kp BA.out).lt, ⟨by rw [HNB.out]; omega, (Array.getElem?_eq_some_iff.1 Z4.out).1⟩, fun k hk => hk.2, K3.out, ?_, ?_, ?_⟩, fun k hk => hk.1⟩
  · obtain ⟨a, c, h⟩ := N0.out; exact h.pos
  · obtain ⟨a, c, h⟩ := N0.out; exact h.max
  · obtain ⟨a, c, h⟩ := N0.out; exact h.len
end Nt
end Go.Proofs.Ytnfpcklpmfemiaa
