import Derived.Test.YtfajkgbpeapcbaaNa35
import Derived.Test.YtfajkgbpeapcbaaNa36
set_option linter.unusedVariables false
set_option linter.unusedSimpArgs false

section
namespace Go.Proofs.Ytfajkgbpeapcbaa
open Go.RowKit
namespace Hm
open Nt
set_option maxRecDepth 100000
section
variable {p : Nat} {d : Dt} {N : Nat} {H : Ho}
theorem MapE.put2 {w : World} {mb N : Nat} {ep : Nat → Option Nat} (h : MapE w mb N ep) {n e : Nat} (hn : n ≤ 4294967295) (hN : N < maxLen) :
    ∃ w', (∀ (o : Oper) (ρ : Operand → Value) (x y z : Operand), o.op = .mapUpdate 90 x y z → ρ x = .map (some mb) → ρ y = .int .u32 (n : Int) → ρ z = .pointer (some ⟨e, 0, none⟩) → (execOp ρ o).run Try.prog w = .ok .skip w') ∧ MapE w' mb (N + 1) (upd ep n (some e)) ∧ w.grownBy w' (some mb) := by
  obtain ⟨D, h1, h2⟩ := h
  obtain ⟨w', hrun, r1, r2⟩ := h1.update law_u32 Try.underlying90 hN (Go.Maps.keyOf_int_mk (P := Try.prog) Try.underlying23 (wf_u32 hn)) (entElem_mk e)
  refine ⟨w', fun o ρ x y z ho hx hy hz => by simp [execOp, ho, hx, hy, hz, hrun, Result.andThen], ⟨_, r1, fun i hi => ?_⟩, r2⟩
  have hm := own_isMap h1
  by_cases hin : i = n
  · subst hin
    rw [Maps.has_put_same hm (isKeyU _), Maps.atKey_put_same hm (isKeyU _), upd_same]
    exact ⟨rfl, rfl⟩
  · have hne : Lit.int .u32 (i : Int) ≠ Lit.int .u32 (n : Int) := fun e => hin (by injection e with _ e; omega)
    rw [Maps.has_put_other hne, Maps.atKey_put_other hne, upd_other _ _ hin]
    exact h2 i hi
theorem tc_one (n : Nat) (sa : Option Addr) (sl sc ep mp : Nat) : (tcells n sa sl sc ep mp).all (·.oneCell') = true := by kernel_rfl
theorem row_below {w W : World} (h : Below w.heap.size w W) {k : Nat} (hk : w.heap.size ≤ k) (cs : Array Value) : Below w.heap.size w (W.setRow k cs) := below_setRow' h hk _
theorem ent_row {w W : World} {n e tp : Nat} (h : EntAt w W d n e) {cs cs' : Array Value} (ht : W.heap[tp]? = some (.cells cs 125 (0, 0))) : EntAt w (W.setRow tp cs') d n e := by
  rcases h with h | ⟨h1, h2, h3⟩
  · exact .inl h
  · exact .inr ⟨h1, h2, (setRow_other _ _ _ _ (types_ne h3 ht (by decide))).trans h3⟩
set_option maxHeartbeats 16000000 in
theorem Take_ok (w : World) (h : Hd w p d N H) (m : E) (hm : Ok m) (hby : Im.Byt m.b) (hr : refE H.bs.length m = 0) (hN : N < 600) (hok : takeOk (startT H m.n.toNat) m = true) : Calls Try.prog 26 #[.pointer (some ⟨p, 0, none⟩), .agg (cells m).toArray] w fun r w' => ∃ d' sa sc S, r = .returned (.tuple #[.slice sa (takeS H m).length sc, .int .i64 0]) ∧ Hd w' p d' (N + 1) (takeH H m) ∧ Fr (hown p d) w w' ∧ (∀ k, hown p d' k → hown p d k ∨ w.heap.size ≤ k) ∧ Nt.Own w' S sa sc (takeS H m) ∧ (∀ k, S k → w.heap.size ≤ k ∧ ¬ hown p d' k) ∧ (∀ x ∈ takeS H m, Ok x) := by
  have HBY := Lib.hid hby
  have HNB := Lib.hid hN
  obtain ⟨hm1, hm2, hm3⟩ := ref_ok hr
  obtain ⟨hkd, hf1, hf2⟩ := to_home hm1 hm2
  have HRQ := Lib.hid (rq_of hm hby hm1 hm2)
  have HF := Lib.hid (show 0 ≤ m.f ∧ m.f ≤ 3 from ⟨hf1, hf2⟩)
  obtain ⟨n, hn⟩ : ∃ n : Nat, m.n = (n : Int) := ⟨m.n.toNat, by have := hm.n; unfold Ev.u32B at this; omega⟩
  have HN := Lib.hid hn
  have HTN := Lib.hid (show m.n.toNat = n by rw [hn]; rfl)
  have HNU := Lib.hid (show n ≤ 4294967295 by have := hm.n; unfold Ev.u32B at this; omega)
  have HNL := Lib.hid (show n * 16 < H.bs.length by rw [← HTN.out]; exact hm3)
  have HLQ := Lib.hid (show ([] : List E).length + 5 * (H.ent n).q.length ≤ 3800 by have := h.len n; simp only [List.length_nil]; omega)
  have HIV := Lib.hid (h.iv n)
  rw [HTN.out] at hok
  have HKO := Lib.hid hok
  have HTK := Lib.hid (took_iv (T := startT H n) HIV.out hok HF.out.1 HF.out.2 HRQ.out)
  have HQ0 := Lib.hid (h.len n)
  clear hok
  obtain ⟨T', hT'⟩ : ∃ T', takeP (startT H n) m = T' := ⟨_, rfl⟩
  have e1 : takeH H m = ⟨T'.bs, upd H.ent n T'.e⟩ := by unfold takeH; rw [HTN.out, hT']
  have e2 : takeS H m = T'.sent := by unfold takeS; rw [HTN.out, hT']
  rw [e1, e2]
  rw [hT'] at HTK
  have HTT := Lib.hid hT'
  clear e1 e2 hT'
  obtain ⟨mb, B0w, hmb, hB0, hb0, hr0⟩ := msg_box w m
  obtain ⟨B1w, hB1⟩ : ∃ x, x = B0w.alloc (.cells #[.slice none 0 0] 56) := ⟨_, rfl⟩
  obtain ⟨B, hB⟩ : ∃ x, x = B1w.alloc (.cells #[.int .i64 0] 47) := ⟨_, rfl⟩
  obtain ⟨rb, hrb⟩ : ∃ x, x = B0w.heap.size := ⟨_, rfl⟩
  obtain ⟨eb, heb⟩ : ∃ x, x = B1w.heap.size := ⟨_, rfl⟩
  have hs0 : B0w.heap.size = w.heap.size + 1 := by rw [hB0]; simp
  have hs1 : B1w.heap.size = B0w.heap.size + 1 := by rw [hB1]; simp
  have hs2 : B.heap.size = B1w.heap.size + 1 := by rw [hB]; simp
  have b01 : Below B0w.heap.size B0w B1w := by rw [hB1]; exact (Below.refl _ _).alloc (Nat.le_refl _) _
  have b12 : Below B1w.heap.size B1w B := by rw [hB]; exact (Below.refl _ _).alloc (Nat.le_refl _) _
  have b1 := b01.trans (b12.mono b01.size)
  have B0 := Lib.hid (show Below w.heap.size w B from hb0.trans (b1.mono hb0.size))
  have R0 := Lib.hid ((b1.block _ (Array.getElem?_eq_some_iff.1 hr0).1).trans hr0)
  have RB := Lib.hid (show B.heap[rb]? = some (.cells #[.slice none 0 0] 56 (0, 0)) by rw [b12.block rb (by omega), hB1, hrb]; exact heap_alloc_new _ _)
  have EB := Lib.hid (show B.heap[eb]? = some (.cells #[.int .i64 0] 47 (0, 0)) by rw [hB, heb]; exact heap_alloc_new _ _)
  have HMB := Lib.hid (show mb = w.heap.size from hmb); have HRB := Lib.hid (show rb = w.heap.size + 1 by omega); have HEB := Lib.hid (show eb = w.heap.size + 1 + 1 by omega)
  have HB := Lib.hid (show B = ((w.alloc (.cells (cells m).toArray 67)).alloc (.cells #[.slice none 0 0] 56)).alloc (.cells #[.int .i64 0] 47) by rw [hB, hB1, hB0])
  have HBS := Lib.hid (show B.heap.size = w.heap.size + 3 by omega)
  have HNE := Lib.hid (show eb ≠ rb by omega)
  have H0 := Lib.hid (h.kp B0.out)
  have HW := Lib.hid h
  have HOK := Lib.hid hm
  have hmf : ∀ (fn : Fn) (first cap : Array Value) (w : World), (Instr.makeFunc fn first cap).run Try.prog w = .ok (.func fn first cap) w := fun _ _ _ _ => rfl
  clear hB hB1 hB0 hrb heb hs0 hs1 hs2 b01 b12 b1 hmb hb0 hr0 h hm
  have KR := Lib.hid (refusal_any B H0.out m HOK.out)
  rw [hr] at KR
  have SZ0 := Lib.hid (show w.heap.size ≤ B.heap.size from B0.out.size)
  clear hr hN hby hm1 hm2 hm3 hkd hf1 hf2 hn
  go_enter_defers Try.func26, Try.ntmps26
  go_wp2_with (first
    | ((with_reducible show wpList _ _ _ (Oper.mk (some 9) _ _ _ _ _ :: _) _ _); rw [← HB.out, ← HEB.out, ← HRB.out, ← HMB.out]; refine wpList_load_row rfl 67 (.tmp 3) rfl mb rfl 67 _ (0, 0) _ R0.out Try.underlying67 rfl (by rw [HOK.out.size]; exact size_msg) ?_)
    | (go_at_call 59; (with_reducible refine KR.out.mono ?_); rintro e1 w1 ⟨rfl, hb⟩; have B1 := Lib.hid hb; have RB1 := Lib.hid ((hb.block _ (Array.getElem?_eq_some_iff.1 RB.out).1).trans RB.out); have EB1 := Lib.hid ((hb.block _ (Array.getElem?_eq_some_iff.1 EB.out).1).trans EB.out); have R1 := Lib.hid ((hb.block _ (Array.getElem?_eq_some_iff.1 R0.out).1).trans R0.out); have H1 := Lib.hid (H0.out.kp hb); clear hb))
  have SZ1 := Lib.hid (show w.heap.size ≤ w1.heap.size from Nat.le_trans B0.out.size B1.out.size)
  have BW1 := Lib.hid (B0.out.trans (B1.out.mono B0.out.size))
  refine region_post (fun A tp _ e => (((((((((((((A.put (some 14) (.pointer (some ⟨mb, 3, none⟩))).put (some 15) (.int .u32 (n : Int))).put (some 16) (.agg #[.int .u32 (n : Int), .slice none 0 0])).put (some 17) (.pointer (some ⟨p, 0, none⟩))).put (some 18) (.pointer (some ⟨mb, 3, none⟩))).put (some 19) (.int .u32 (n : Int))).put (some 20) (.pointer (some ⟨e, 0, none⟩))).put (some 21) (.pointer (some ⟨p, 0, none⟩))).put (some 22) (.pointer (some ⟨p, 0, none⟩))).put (some 23) (.pointer (some ⟨p, 0, none⟩))).put (some 24) (.pointer (some ⟨d.mp, 0, none⟩))).put (some 25) (.agg (tcells n none 0 0 e d.mp))).put (some 7) (.pointer (some ⟨tp, 0, none⟩)))) (fun w' tp _ e => Below w1.heap.size w1 w' ∧ w'.heap[tp]? = some (.cells (tcells n none 0 0 e d.mp) 125 (0, 0)) ∧ w1.heap.size ≤ tp ∧ EntAt w w' d n e) ?_ ?_
  · obtain ⟨wq, hwq⟩ : ∃ wq, wq = { w1 with drawn := w1.drawn + 1 } := ⟨_, rfl⟩
    have BQ := Lib.hid (show Below w1.heap.size w1 wq by rw [hwq]; exact ⟨rfl, rfl, rfl, Nat.le_refl _, fun _ _ => rfl⟩)
    have HWQ := Lib.hid hwq
    clear hwq
    have HQ := Lib.hid (H1.out.kp BQ.out)
    have RQ := Lib.hid ((BQ.out.block _ (Array.getElem?_eq_some_iff.1 R1.out).1).trans R1.out)
    have MQ := Lib.hid (show wq.cell? ⟨mb, 3, none⟩ = some (.int .u32 (n : Int)) from by rw [← HN.out]; exact (msg_cell RQ.out).2.2.2)
    have HFA := Lib.hid (show (fun x : World => x.cell? ⟨mb, 3, none⟩ = some (.int .u32 (n : Int)) ∧ x.cell? ⟨p, 0, none⟩ = some (.pointer (some ⟨d.mp, 0, none⟩))) wq from ⟨MQ.out, HQ.out.c0⟩)
    refine Og.region_S (S := SL [1, 5, 10] (fun x : World => x.cell? ⟨mb, 3, none⟩ = some (.int .u32 (n : Int)) ∧ x.cell? ⟨p, 0, none⟩ = some (.pointer (some ⟨d.mp, 0, none⟩)))) (by kernel_rfl) ?_
    rw [← HWQ.out]
    refine Og.s_take 0 { dst := some 14, op := Go.Op.fieldAddr 67 (Go.Operand.tmp 3) 3, type := 0, pos := "home.go:29", after := #[], guard := none } (.pointer (some ⟨mb, 3, none⟩)) _ (by kernel_rfl) (by kernel_rfl) (by kernel_rfl) (by kernel_rfl) (by kernel_rfl) (fun _ _ _ h => nomatch h.1) (fun h => absurd h (by decide)) (fun x' hx => ?_) (by simp only [Act.put, List.setIfInBounds_toArray, List.set_cons_zero, List.set_cons_succ]; rfl) ?_
    · go_simp; try (with_reducible rfl)
    refine Og.s_take 1 { dst := some 15, op := Go.Op.load 23 (Go.Operand.tmp 14), type := 23, pos := "home.go:29", after := #[{ on := 0, ground := Go.Ground.data }], guard := none } (.int .u32 (n : Int)) _ (by kernel_rfl) (by kernel_rfl) (by kernel_rfl) (by kernel_rfl) (by kernel_rfl) (fun _ _ _ h => nomatch h.1) (fun _ => HFA.out) (fun x' hx => ?_) (by simp only [Act.put, List.setIfInBounds_toArray, List.set_cons_zero, List.set_cons_succ]; rfl) ?_
    · have hx1 := (hx (by decide)).1; go_simp; try (with_reducible rfl)
    refine Og.s_take 2 { dst := some 16, op := Go.Op.build 121 #[(0, Go.Operand.tmp 15)], type := 121, pos := "home.go:29", after := #[{ on := 1, ground := Go.Ground.data }], guard := none } (.agg #[.int .u32 (n : Int), .slice none 0 0]) _ (by kernel_rfl) (by kernel_rfl) (by kernel_rfl) (by kernel_rfl) (by kernel_rfl) (fun _ _ _ h => nomatch h.1) (fun h => absurd h (by decide)) (fun x' hx => ?_) (by simp only [Act.put, List.setIfInBounds_toArray, List.set_cons_zero, List.set_cons_succ]; rfl) ?_
    · go_simp; try rfl
    refine Og.s_take 3 { dst := some 17, op := Go.Op.move (Go.Operand.tmp 0), type := 57, pos := "home.go:29", after := #[], guard := none } (.pointer (some ⟨p, 0, none⟩)) _ (by kernel_rfl) (by kernel_rfl) (by kernel_rfl) (by kernel_rfl) (by kernel_rfl) (fun _ _ _ h => nomatch h.1) (fun h => absurd h (by decide)) (fun x' hx => ?_) (by simp only [Act.put, List.setIfInBounds_toArray, List.set_cons_zero, List.set_cons_succ]; rfl) ?_
    · go_simp; try (with_reducible rfl)
    refine Og.s_take 4 { dst := some 18, op := Go.Op.fieldAddr 67 (Go.Operand.tmp 3) 3, type := 0, pos := "home.go:29", after := #[], guard := none } (.pointer (some ⟨mb, 3, none⟩)) _ (by kernel_rfl) (by kernel_rfl) (by kernel_rfl) (by kernel_rfl) (by kernel_rfl) (fun _ _ _ h => nomatch h.1) (fun h => absurd h (by decide)) (fun x' hx => ?_) (by simp only [Act.put, List.setIfInBounds_toArray, List.set_cons_zero, List.set_cons_succ]; rfl) ?_
    · go_simp; try (with_reducible rfl)
    refine Og.s_take 5 { dst := some 19, op := Go.Op.load 23 (Go.Operand.tmp 18), type := 23, pos := "home.go:29", after := #[{ on := 4, ground := Go.Ground.data }], guard := none } (.int .u32 (n : Int)) _ (by kernel_rfl) (by kernel_rfl) (by kernel_rfl) (by kernel_rfl) (by kernel_rfl) (fun _ _ _ h => nomatch h.1) (fun _ => HFA.out) (fun x' hx => ?_) (by simp only [Act.put, List.setIfInBounds_toArray, List.set_cons_zero, List.set_cons_succ]; rfl) ?_
    · have hx1 := (hx (by decide)).1; go_simp; try (with_reducible rfl)
    refine Og.s_take 7 { dst := some 21, op := Go.Op.move (Go.Operand.tmp 0), type := 57, pos := "home.go:29", after := #[], guard := none } (.pointer (some ⟨p, 0, none⟩)) _ (by kernel_rfl) (by kernel_rfl) (by kernel_rfl) (by kernel_rfl) (by kernel_rfl) (fun _ _ _ h => nomatch h.1) (fun h => absurd h (by decide)) (fun x' hx => ?_) (by simp only [Act.put, List.setIfInBounds_toArray, List.set_cons_zero, List.set_cons_succ]; rfl) ?_
    · go_simp; try (with_reducible rfl)
    refine Og.s_take 8 { dst := some 22, op := Go.Op.nilCheck (Go.Operand.tmp 21), type := 0, pos := "home.go:29", after := #[{ on := 7, ground := Go.Ground.data }], guard := none } (.pointer (some ⟨p, 0, none⟩)) _ (by kernel_rfl) (by kernel_rfl) (by kernel_rfl) (by kernel_rfl) (by kernel_rfl) (fun _ _ _ h => nomatch h.1) (fun h => absurd h (by decide)) (fun x' hx => ?_) (by simp only [Act.put, List.setIfInBounds_toArray, List.set_cons_zero, List.set_cons_succ]; rfl) ?_
    · go_simp; try (with_reducible rfl)
    refine Og.s_take 9 { dst := some 23, op := Go.Op.fieldAddr 92 (Go.Operand.tmp 22) 0, type := 0, pos := "home.go:29", after := #[{ on := 8, ground := Go.Ground.data }], guard := none } (.pointer (some ⟨p, 0, none⟩)) _ (by kernel_rfl) (by kernel_rfl) (by kernel_rfl) (by kernel_rfl) (by kernel_rfl) (fun _ _ _ h => nomatch h.1) (fun h => absurd h (by decide)) (fun x' hx => ?_) (by simp only [Act.put, List.setIfInBounds_toArray, List.set_cons_zero, List.set_cons_succ]; rfl) ?_
    · go_simp; try (with_reducible rfl)
    refine Og.s_take 10 { dst := some 24, op := Go.Op.load 89 (Go.Operand.tmp 23), type := 89, pos := "home.go:29", after := #[{ on := 9, ground := Go.Ground.data }], guard := none } (.pointer (some ⟨d.mp, 0, none⟩)) _ (by kernel_rfl) (by kernel_rfl) (by kernel_rfl) (by kernel_rfl) (by kernel_rfl) (fun _ _ _ h => nomatch h.1) (fun _ => HFA.out) (fun x' hx => ?_) (by simp only [Act.put, List.setIfInBounds_toArray, List.set_cons_zero, List.set_cons_succ]; rfl) ?_
    · have hx1 := (hx (by decide)).2; go_simp; try (with_reducible rfl)
    refine Og.s_two 6 12 { dst := some 20, op := Go.Op.call { callee := Go.Callee.value (Go.Operand.func 60), args := #[Go.Operand.tmp 17, Go.Operand.tmp 19], argTypes := #[57, 23] }, type := 122, pos := "home.go:29", after := #[{ on := 3, ground := Go.Ground.data }, { on := 5, ground := Go.Ground.data }], guard := none } { dst := some 7, op := Go.Op.alloc 125, type := 0, pos := "home.go:29", after := #[], guard := none } (by kernel_rfl) (by kernel_rfl) (by kernel_rfl) (by kernel_rfl) (by kernel_rfl) ?_ ?_
    · refine Og.call_to (w1 := wq) (f := 60) (args := #[.pointer (some ⟨p, 0, none⟩), .int .u32 (n : Int)]) (by go_simp) ?_
      refine (entry_any wq HQ.out HNU.out).mono ?_
      rintro x W2 ⟨e, rfl, he, hb⟩
      have BW2 := Lib.hid hb; have EW2 := Lib.hid (he.mono (Nat.le_trans SZ1.out BQ.out.size) (Below.refl _ _))
      clear he hb
      have HW2 := Lib.hid (HQ.out.kp BW2.out)
      have RW2 := Lib.hid ((BW2.out.block _ (Array.getElem?_eq_some_iff.1 RQ.out).1).trans RQ.out)
      have MW2 := Lib.hid (show W2.cell? ⟨mb, 3, none⟩ = some (.int .u32 (n : Int)) from by rw [← HN.out]; exact (msg_cell RW2.out).2.2.2)
      refine ⟨_, rfl, keep_sl (show (fun x : World => x.cell? ⟨mb, 3, none⟩ = some (.int .u32 (n : Int)) ∧ x.cell? ⟨p, 0, none⟩ = some (.pointer (some ⟨d.mp, 0, none⟩))) W2 from ⟨MW2.out, HW2.out.c0⟩), ?_⟩
      refine Og.s_take 11 { dst := some 25, op := Go.Op.build 125 #[(0, Go.Operand.tmp 16), (1, Go.Operand.tmp 20), (2, Go.Operand.tmp 24)], type := 125, pos := "home.go:29", after := #[{ on := 2, ground := Go.Ground.data }, { on := 6, ground := Go.Ground.data }, { on := 10, ground := Go.Ground.data }], guard := none } (.agg (tcells n none 0 0 e d.mp)) _ (by kernel_rfl) (by kernel_rfl) (by kernel_rfl) (by kernel_rfl) (by kernel_rfl) (fun _ _ _ h => nomatch h.1) (fun h => absurd h (by decide)) (fun x' hx => ?_) (by simp only [Act.put, List.setIfInBounds_toArray, List.set_cons_zero, List.set_cons_succ]; rfl) ?_
      · go_simp; try rfl
      refine Og.s_one 12 { dst := some 7, op := Go.Op.alloc 125, type := 0, pos := "home.go:29", after := #[], guard := none } (by kernel_rfl) (by kernel_rfl) (by kernel_rfl) ?_
      refine Og.run_to (v := .pointer (some ⟨W2.heap.size, 0, none⟩)) (w' := W2.alloc (.cells #[.int .u32 0, .slice none 0 0, .pointer none, .pointer none] 125)) (by go_simp) ?_
      obtain ⟨tp, htp⟩ : ∃ tp, tp = W2.heap.size := ⟨_, rfl⟩
      obtain ⟨W3, hW3⟩ : ∃ W3, W3 = W2.alloc (.cells #[.int .u32 0, .slice none 0 0, .pointer none, .pointer none] 125) := ⟨_, rfl⟩
      have BW3 := Lib.hid (show Below W2.heap.size W2 W3 by rw [hW3]; exact (Below.refl _ _).alloc (Nat.le_refl _) _)
      have ZW3 := Lib.hid (show W3.heap[tp]? = some (.cells #[.int .u32 0, .slice none 0 0, .pointer none, .pointer none] 125 (0, 0)) by rw [hW3, htp]; exact heap_alloc_new _ _)
      have HTP := Lib.hid (show w1.heap.size ≤ tp by rw [htp]; exact (Nat.le_trans BQ.out.size BW2.out.size))
      rw [← hW3, ← htp]
      clear hW3 htp
      have HW3 := Lib.hid (HW2.out.kp BW3.out)
      have RW3 := Lib.hid ((BW3.out.block _ (Array.getElem?_eq_some_iff.1 RW2.out).1).trans RW2.out)
      have MW3 := Lib.hid (show W3.cell? ⟨mb, 3, none⟩ = some (.int .u32 (n : Int)) from by rw [← HN.out]; exact (msg_cell RW3.out).2.2.2)
      refine ⟨keep_sl (show (fun x : World => x.cell? ⟨mb, 3, none⟩ = some (.int .u32 (n : Int)) ∧ x.cell? ⟨p, 0, none⟩ = some (.pointer (some ⟨d.mp, 0, none⟩))) W3 from ⟨MW3.out, HW3.out.c0⟩), ?_⟩
      have EW3 := Lib.hid (EW2.out.mono (Nat.le_refl _) BW3.out)
      have BL := Lib.hid ((BQ.out.trans (BW2.out.mono BQ.out.size)).trans (BW3.out.mono (Nat.le_trans BQ.out.size BW2.out.size)))
      refine Og.s_one 13 { dst := none, op := Go.Op.store 125 (Go.Operand.tmp 7) (Go.Operand.tmp 25), type := 0, pos := "home.go:29", after := #[{ on := 12, ground := Go.Ground.data }, { on := 11, ground := Go.Ground.data }, { on := 6, ground := Go.Ground.chain }, { on := 0, ground := Go.Ground.phase }, { on := 1, ground := Go.Ground.phase }, { on := 2, ground := Go.Ground.phase }, { on := 3, ground := Go.Ground.phase }, { on := 4, ground := Go.Ground.phase }, { on := 5, ground := Go.Ground.phase }, { on := 6, ground := Go.Ground.phase }, { on := 7, ground := Go.Ground.phase }, { on := 8, ground := Go.Ground.phase }, { on := 9, ground := Go.Ground.phase }, { on := 10, ground := Go.Ground.phase }, { on := 11, ground := Go.Ground.phase }, { on := 12, ground := Go.Ground.phase }], guard := none } (by kernel_rfl) (by kernel_rfl) (by kernel_rfl) ?_
      refine Og.skip_to (w' := W3.setRow tp (tcells n none 0 0 e d.mp)) (Og.row_to 125 (.tmp 7) (.tmp 25) rfl tp (tcells n none 0 0 e d.mp) rfl rfl 125 _ ZW3.out (by kernel_rfl) rfl (tc_one _ _ _ _ _ _)) ⟨keep_end (o := { dst := none, op := Go.Op.store 125 (Go.Operand.tmp 7) (Go.Operand.tmp 25), type := 0, pos := "home.go:29", after := #[{ on := 12, ground := Go.Ground.data }, { on := 11, ground := Go.Ground.data }, { on := 6, ground := Go.Ground.chain }, { on := 0, ground := Go.Ground.phase }, { on := 1, ground := Go.Ground.phase }, { on := 2, ground := Go.Ground.phase }, { on := 3, ground := Go.Ground.phase }, { on := 4, ground := Go.Ground.phase }, { on := 5, ground := Go.Ground.phase }, { on := 6, ground := Go.Ground.phase }, { on := 7, ground := Go.Ground.phase }, { on := 8, ground := Go.Ground.phase }, { on := 9, ground := Go.Ground.phase }, { on := 10, ground := Go.Ground.phase }, { on := 11, ground := Go.Ground.phase }, { on := 12, ground := Go.Ground.phase }], guard := none }) (by kernel_rfl) (by kernel_rfl), ?_⟩
      refine Og.s_done (by kernel_rfl) ?_ _
      refine ⟨rfl, tp, none, e, ?_, row_below BL.out HTP.out _, setRow_heap _ _ _ _ _ _ ZW3.out, HTP.out, ent_row EW3.out ZW3.out⟩
      simp only [Act.put, List.setIfInBounds_toArray, List.set_cons_zero, List.set_cons_succ]
    · refine Og.run_to (v := .pointer (some ⟨wq.heap.size, 0, none⟩)) (w' := wq.alloc (.cells #[.int .u32 0, .slice none 0 0, .pointer none, .pointer none] 125)) (by go_simp) ?_
      obtain ⟨tp, htp⟩ : ∃ tp, tp = wq.heap.size := ⟨_, rfl⟩
      obtain ⟨W2, hW2⟩ : ∃ W2, W2 = wq.alloc (.cells #[.int .u32 0, .slice none 0 0, .pointer none, .pointer none] 125) := ⟨_, rfl⟩
      have BW2 := Lib.hid (show Below wq.heap.size wq W2 by rw [hW2]; exact (Below.refl _ _).alloc (Nat.le_refl _) _)
      have ZW2 := Lib.hid (show W2.heap[tp]? = some (.cells #[.int .u32 0, .slice none 0 0, .pointer none, .pointer none] 125 (0, 0)) by rw [hW2, htp]; exact heap_alloc_new _ _)
      have HTP := Lib.hid (show w1.heap.size ≤ tp by rw [htp]; exact BQ.out.size)
      rw [← hW2, ← htp]
      clear hW2 htp
      have HW2 := Lib.hid (HQ.out.kp BW2.out)
      have RW2 := Lib.hid ((BW2.out.block _ (Array.getElem?_eq_some_iff.1 RQ.out).1).trans RQ.out)
      have MW2 := Lib.hid (show W2.cell? ⟨mb, 3, none⟩ = some (.int .u32 (n : Int)) from by rw [← HN.out]; exact (msg_cell RW2.out).2.2.2)
      refine ⟨keep_sl (show (fun x : World => x.cell? ⟨mb, 3, none⟩ = some (.int .u32 (n : Int)) ∧ x.cell? ⟨p, 0, none⟩ = some (.pointer (some ⟨d.mp, 0, none⟩))) W2 from ⟨MW2.out, HW2.out.c0⟩), ?_⟩
      refine Og.s_one 6 { dst := some 20, op := Go.Op.call { callee := Go.Callee.value (Go.Operand.func 60), args := #[Go.Operand.tmp 17, Go.Operand.tmp 19], argTypes := #[57, 23] }, type := 122, pos := "home.go:29", after := #[{ on := 3, ground := Go.Ground.data }, { on := 5, ground := Go.Ground.data }], guard := none } (by kernel_rfl) (by kernel_rfl) (by kernel_rfl) ?_
      refine Og.call_to (w1 := W2) (f := 60) (args := #[.pointer (some ⟨p, 0, none⟩), .int .u32 (n : Int)]) (by go_simp) ?_
      refine (entry_any W2 HW2.out HNU.out).mono ?_
      rintro x W3 ⟨e, rfl, he, hb⟩
      have BW3 := Lib.hid hb; have EW3 := Lib.hid (he.mono (Nat.le_trans SZ1.out (Nat.le_trans BQ.out.size BW2.out.size)) (Below.refl _ _))
      clear he hb
      have HW3 := Lib.hid (HW2.out.kp BW3.out)
      have RW3 := Lib.hid ((BW3.out.block _ (Array.getElem?_eq_some_iff.1 RW2.out).1).trans RW2.out)
      have MW3 := Lib.hid (show W3.cell? ⟨mb, 3, none⟩ = some (.int .u32 (n : Int)) from by rw [← HN.out]; exact (msg_cell RW3.out).2.2.2)
      refine ⟨_, rfl, keep_sl (show (fun x : World => x.cell? ⟨mb, 3, none⟩ = some (.int .u32 (n : Int)) ∧ x.cell? ⟨p, 0, none⟩ = some (.pointer (some ⟨d.mp, 0, none⟩))) W3 from ⟨MW3.out, HW3.out.c0⟩), ?_⟩
      refine Og.s_take 11 { dst := some 25, op := Go.Op.build 125 #[(0, Go.Operand.tmp 16), (1, Go.Operand.tmp 20), (2, Go.Operand.tmp 24)], type := 125, pos := "home.go:29", after := #[{ on := 2, ground := Go.Ground.data }, { on := 6, ground := Go.Ground.data }, { on := 10, ground := Go.Ground.data }], guard := none } (.agg (tcells n none 0 0 e d.mp)) _ (by kernel_rfl) (by kernel_rfl) (by kernel_rfl) (by kernel_rfl) (by kernel_rfl) (fun _ _ _ h => nomatch h.1) (fun h => absurd h (by decide)) (fun x' hx => ?_) (by simp only [Act.put, List.setIfInBounds_toArray, List.set_cons_zero, List.set_cons_succ]; rfl) ?_
      · go_simp; try rfl
      have ZW3 := Lib.hid ((BW3.out.block _ (Array.getElem?_eq_some_iff.1 ZW2.out).1).trans ZW2.out)
      have BL := Lib.hid ((BQ.out.trans (BW2.out.mono BQ.out.size)).trans (BW3.out.mono (Nat.le_trans BQ.out.size BW2.out.size)))
      refine Og.s_one 13 { dst := none, op := Go.Op.store 125 (Go.Operand.tmp 7) (Go.Operand.tmp 25), type := 0, pos := "home.go:29", after := #[{ on := 12, ground := Go.Ground.data }, { on := 11, ground := Go.Ground.data }, { on := 6, ground := Go.Ground.chain }, { on := 0, ground := Go.Ground.phase }, { on := 1, ground := Go.Ground.phase }, { on := 2, ground := Go.Ground.phase }, { on := 3, ground := Go.Ground.phase }, { on := 4, ground := Go.Ground.phase }, { on := 5, ground := Go.Ground.phase }, { on := 6, ground := Go.Ground.phase }, { on := 7, ground := Go.Ground.phase }, { on := 8, ground := Go.Ground.phase }, { on := 9, ground := Go.Ground.phase }, { on := 10, ground := Go.Ground.phase }, { on := 11, ground := Go.Ground.phase }, { on := 12, ground := Go.Ground.phase }], guard := none } (by kernel_rfl) (by kernel_rfl) (by kernel_rfl) ?_
      refine Og.skip_to (w' := W3.setRow tp (tcells n none 0 0 e d.mp)) (Og.row_to 125 (.tmp 7) (.tmp 25) rfl tp (tcells n none 0 0 e d.mp) rfl rfl 125 _ ZW3.out (by kernel_rfl) rfl (tc_one _ _ _ _ _ _)) ⟨keep_end (o := { dst := none, op := Go.Op.store 125 (Go.Operand.tmp 7) (Go.Operand.tmp 25), type := 0, pos := "home.go:29", after := #[{ on := 12, ground := Go.Ground.data }, { on := 11, ground := Go.Ground.data }, { on := 6, ground := Go.Ground.chain }, { on := 0, ground := Go.Ground.phase }, { on := 1, ground := Go.Ground.phase }, { on := 2, ground := Go.Ground.phase }, { on := 3, ground := Go.Ground.phase }, { on := 4, ground := Go.Ground.phase }, { on := 5, ground := Go.Ground.phase }, { on := 6, ground := Go.Ground.phase }, { on := 7, ground := Go.Ground.phase }, { on := 8, ground := Go.Ground.phase }, { on := 9, ground := Go.Ground.phase }, { on := 10, ground := Go.Ground.phase }, { on := 11, ground := Go.Ground.phase }, { on := 12, ground := Go.Ground.phase }], guard := none }) (by kernel_rfl) (by kernel_rfl), ?_⟩
      refine Og.s_done (by kernel_rfl) ?_ _
      refine ⟨rfl, tp, none, e, ?_, row_below BL.out HTP.out _, setRow_heap _ _ _ _ _ _ ZW3.out, HTP.out, ent_row EW3.out ZW3.out⟩
      simp only [Act.put, List.setIfInBounds_toArray, List.set_cons_zero, List.set_cons_succ]
  rintro tp _ e W4 ⟨hb4, hz4, htp4, he4⟩
  have B4 := Lib.hid hb4; have Z4 := Lib.hid hz4; have HTP := Lib.hid htp4; have E4 := Lib.hid he4
  clear hb4 hz4 htp4 he4
  simp only [Act.put, List.setIfInBounds_toArray, List.set_cons_zero, List.set_cons_succ]
  have BW4 := Lib.hid (BW1.out.trans (B4.out.mono SZ1.out))
  have HTPW := Lib.hid (show w.heap.size ≤ tp from Nat.le_trans SZ1.out HTP.out)
  have TA4 := Lib.hid (HW.out.taking HNL.out BW4.out E4.out HTPW.out Z4.out)
  have R4 := Lib.hid ((B4.out.block _ (Array.getElem?_eq_some_iff.1 R1.out).1).trans R1.out)
  have RB4 := Lib.hid ((B4.out.block _ (Array.getElem?_eq_some_iff.1 RB1.out).1).trans RB1.out)
  have EB4 := Lib.hid ((B4.out.block _ (Array.getElem?_eq_some_iff.1 EB1.out).1).trans EB1.out)
  have KC0 := take_yes (startT H n) m HOK.out HBY.out HF.out.1 HF.out.2 HIV.out HLQ.out HRQ.out HKO.out W4 TA4.out
  rw [HTT.out] at KC0
  have KC := Lib.hid KC0
  clear KC0
  go_wp2_with (first
    | ((with_reducible show wpList _ _ _ (Oper.mk (some 27) _ _ _ _ _ :: _) _ _); refine wpList_load_row rfl 67 (.tmp 3) rfl mb rfl 67 _ (0, 0) _ R4.out Try.underlying67 rfl (by rw [HOK.out.size]; exact size_msg) ?_)
    | (go_at_call 62; (with_reducible refine KC.out.mono ?_); rintro x W5 ⟨rfl, ht5⟩; refine Stop.out ?_))
  refine ⟨?_⟩
  obtain ⟨S', Q', sa, sc, qa', qc', t5⟩ := ht5
  have T5 := Lib.hid t5
  clear t5
  have BX5 := Lib.hid (HW.out.side BW4.out E4.out HTPW.out ⟨_, Z4.out⟩ T5.out (HW.out.kp BW4.out).box (by decide) (by decide) (by decide) (.inr rfl))
  have R5 := Lib.hid (HW.out.side BW4.out E4.out HTPW.out ⟨_, Z4.out⟩ T5.out R4.out (by decide) (by decide) (by decide) (.inl (by have := HMB.out; omega)))
  have RB5 := Lib.hid (HW.out.side BW4.out E4.out HTPW.out ⟨_, Z4.out⟩ T5.out RB4.out (by decide) (by decide) (by decide) (.inl (by have := HRB.out; omega)))
  have EB5 := Lib.hid (HW.out.side BW4.out E4.out HTPW.out ⟨_, Z4.out⟩ T5.out EB4.out (by decide) (by decide) (by decide) (.inl (by have := HEB.out; omega)))
  have MM5 := Lib.hid (HW.out.midmap BW4.out E4.out HTPW.out T5.out)
  go_wp2_with fail
  refine region_post (fun A _ _ _ => ((((((((A.put (some 29) (.pointer (some ⟨p, 0, none⟩))).put (some 30) (.pointer (some ⟨p, 0, none⟩))).put (some 31) (.pointer (some ⟨p, 1, none⟩))).put (some 32) (.map (some d.mb))).put (some 33) (.pointer (some ⟨mb, 3, none⟩))).put (some 34) (.int .u32 (n : Int))).put (some 35) (.pointer (some ⟨tp, 2, none⟩))).put (some 36) (.pointer (some ⟨e, 0, none⟩)))) (fun w' _ _ _ => ∃ wq, Below W5.heap.size W5 wq ∧ MapE w' d.mb (N + 1) (upd d.ep n (some e)) ∧ wq.grownBy w' (some d.mb)) ?_ ?_
  · obtain ⟨wq, hwq⟩ : ∃ wq, wq = { W5 with drawn := W5.drawn + 1 } := ⟨_, rfl⟩
    have BQ := Lib.hid (show Below W5.heap.size W5 wq by rw [hwq]; exact ⟨rfl, rfl, rfl, Nat.le_refl _, fun _ _ => rfl⟩)
    have HWQ := Lib.hid hwq
    clear hwq
    have TQ := Lib.hid (T5.out.kp BQ.out)
    have P1Q := Lib.hid (show wq.cell? ⟨p, 1, none⟩ = some (.map (some d.mb)) by rw [cell_of_row _ _ _ _ _ _ ((BQ.out.block _ (Array.getElem?_eq_some_iff.1 BX5.out).1).trans BX5.out)]; rfl)
    have M3Q := Lib.hid (show wq.cell? ⟨mb, 3, none⟩ = some (.int .u32 (n : Int)) from by rw [← HN.out]; exact (msg_cell ((BQ.out.block _ (Array.getElem?_eq_some_iff.1 R5.out).1).trans R5.out)).2.2.2)
    have T2Q := Lib.hid TQ.out.tk.t2
    have MMQ := Lib.hid (MM5.out.1.at_ (BQ.out.block _ MM5.out.1.lt))
    have HFA := Lib.hid (show (fun x : World => x.cell? ⟨p, 1, none⟩ = some (.map (some d.mb)) ∧ x.cell? ⟨mb, 3, none⟩ = some (.int .u32 (n : Int)) ∧ x.cell? ⟨tp, 2, none⟩ = some (.pointer (some ⟨e, 0, none⟩))) wq from ⟨P1Q.out, M3Q.out, T2Q.out⟩)
    refine Og.region_S (S := SL [3, 5, 7] (fun x : World => x.cell? ⟨p, 1, none⟩ = some (.map (some d.mb)) ∧ x.cell? ⟨mb, 3, none⟩ = some (.int .u32 (n : Int)) ∧ x.cell? ⟨tp, 2, none⟩ = some (.pointer (some ⟨e, 0, none⟩)))) (by kernel_rfl) ?_
    rw [← HWQ.out]
    refine Og.s_take 0 { dst := some 29, op := Go.Op.move (Go.Operand.tmp 0), type := 57, pos := "home.go:36", after := #[], guard := none } (.pointer (some ⟨p, 0, none⟩)) _ (by kernel_rfl) (by kernel_rfl) (by kernel_rfl) (by kernel_rfl) (by kernel_rfl) (fun _ _ _ h => nomatch h.1) (fun h => absurd h (by decide)) (fun x' hx => ?_) (by simp only [Act.put, List.setIfInBounds_toArray, List.set_cons_zero, List.set_cons_succ]; rfl) ?_
    · go_simp; try (with_reducible rfl)
    refine Og.s_take 1 { dst := some 30, op := Go.Op.nilCheck (Go.Operand.tmp 29), type := 0, pos := "home.go:36", after := #[{ on := 0, ground := Go.Ground.data }], guard := none } (.pointer (some ⟨p, 0, none⟩)) _ (by kernel_rfl) (by kernel_rfl) (by kernel_rfl) (by kernel_rfl) (by kernel_rfl) (fun _ _ _ h => nomatch h.1) (fun h => absurd h (by decide)) (fun x' hx => ?_) (by simp only [Act.put, List.setIfInBounds_toArray, List.set_cons_zero, List.set_cons_succ]; rfl) ?_
    · go_simp; try (with_reducible rfl)
    refine Og.s_take 2 { dst := some 31, op := Go.Op.fieldAddr 92 (Go.Operand.tmp 30) 1, type := 0, pos := "home.go:36", after := #[{ on := 1, ground := Go.Ground.data }], guard := none } (.pointer (some ⟨p, 1, none⟩)) _ (by kernel_rfl) (by kernel_rfl) (by kernel_rfl) (by kernel_rfl) (by kernel_rfl) (fun _ _ _ h => nomatch h.1) (fun h => absurd h (by decide)) (fun x' hx => ?_) (by simp only [Act.put, List.setIfInBounds_toArray, List.set_cons_zero, List.set_cons_succ]; rfl) ?_
    · go_simp; try (with_reducible rfl)
    refine Og.s_take 3 { dst := some 32, op := Go.Op.load 90 (Go.Operand.tmp 31), type := 90, pos := "home.go:36", after := #[{ on := 2, ground := Go.Ground.data }], guard := none } (.map (some d.mb)) _ (by kernel_rfl) (by kernel_rfl) (by kernel_rfl) (by kernel_rfl) (by kernel_rfl) (fun _ _ _ h => nomatch h.1) (fun _ => HFA.out) (fun x' hx => ?_) (by simp only [Act.put, List.setIfInBounds_toArray, List.set_cons_zero, List.set_cons_succ]; rfl) ?_
    · have hx1 := (hx (by decide)).1; go_simp; try (with_reducible rfl)
    refine Og.s_take 4 { dst := some 33, op := Go.Op.fieldAddr 67 (Go.Operand.tmp 3) 3, type := 0, pos := "home.go:36", after := #[], guard := none } (.pointer (some ⟨mb, 3, none⟩)) _ (by kernel_rfl) (by kernel_rfl) (by kernel_rfl) (by kernel_rfl) (by kernel_rfl) (fun _ _ _ h => nomatch h.1) (fun h => absurd h (by decide)) (fun x' hx => ?_) (by simp only [Act.put, List.setIfInBounds_toArray, List.set_cons_zero, List.set_cons_succ]; rfl) ?_
    · go_simp; try (with_reducible rfl)
    refine Og.s_take 5 { dst := some 34, op := Go.Op.load 23 (Go.Operand.tmp 33), type := 23, pos := "home.go:36", after := #[{ on := 4, ground := Go.Ground.data }], guard := none } (.int .u32 (n : Int)) _ (by kernel_rfl) (by kernel_rfl) (by kernel_rfl) (by kernel_rfl) (by kernel_rfl) (fun _ _ _ h => nomatch h.1) (fun _ => HFA.out) (fun x' hx => ?_) (by simp only [Act.put, List.setIfInBounds_toArray, List.set_cons_zero, List.set_cons_succ]; rfl) ?_
    · have hx1 := (hx (by decide)).2.1; go_simp; try (with_reducible rfl)
    refine Og.s_take 6 { dst := some 35, op := Go.Op.fieldAddr 125 (Go.Operand.tmp 7) 1, type := 0, pos := "home.go:36", after := #[], guard := none } (.pointer (some ⟨tp, 2, none⟩)) _ (by kernel_rfl) (by kernel_rfl) (by kernel_rfl) (by kernel_rfl) (by kernel_rfl) (fun _ _ _ h => nomatch h.1) (fun h => absurd h (by decide)) (fun x' hx => ?_) (by simp only [Act.put, List.setIfInBounds_toArray, List.set_cons_zero, List.set_cons_succ]; rfl) ?_
    · go_simp; try (with_reducible rfl)
    refine Og.s_take 7 { dst := some 36, op := Go.Op.load 122 (Go.Operand.tmp 35), type := 122, pos := "home.go:36", after := #[{ on := 6, ground := Go.Ground.data }], guard := none } (.pointer (some ⟨e, 0, none⟩)) _ (by kernel_rfl) (by kernel_rfl) (by kernel_rfl) (by kernel_rfl) (by kernel_rfl) (fun _ _ _ h => nomatch h.1) (fun _ => HFA.out) (fun x' hx => ?_) (by simp only [Act.put, List.setIfInBounds_toArray, List.set_cons_zero, List.set_cons_succ]; rfl) ?_
    · have hx1 := (hx (by decide)).2.2; go_simp; try (with_reducible rfl)
    refine Og.s_one 8 { dst := none, op := Go.Op.mapUpdate 90 (Go.Operand.tmp 32) (Go.Operand.tmp 34) (Go.Operand.tmp 36), type := 0, pos := "home.go:36", after := #[{ on := 3, ground := Go.Ground.data }, { on := 5, ground := Go.Ground.data }, { on := 7, ground := Go.Ground.data }, { on := 0, ground := Go.Ground.phase }, { on := 1, ground := Go.Ground.phase }, { on := 2, ground := Go.Ground.phase }, { on := 3, ground := Go.Ground.phase }, { on := 4, ground := Go.Ground.phase }, { on := 5, ground := Go.Ground.phase }, { on := 6, ground := Go.Ground.phase }, { on := 7, ground := Go.Ground.phase }], guard := none } (by kernel_rfl) (by kernel_rfl) (by kernel_rfl) ?_
    obtain ⟨W6, hru, hma6, hgr6⟩ := MMQ.out.put2 (n := n) (e := e) HNU.out (show N < maxLen by have := HNB.out; unfold maxLen; omega)
    refine Og.skip_to (w' := W6) (hru _ _ (.tmp 32) (.tmp 34) (.tmp 36) rfl rfl rfl rfl) ⟨keep_end (o := { dst := none, op := Go.Op.mapUpdate 90 (Go.Operand.tmp 32) (Go.Operand.tmp 34) (Go.Operand.tmp 36), type := 0, pos := "home.go:36", after := #[{ on := 3, ground := Go.Ground.data }, { on := 5, ground := Go.Ground.data }, { on := 7, ground := Go.Ground.data }, { on := 0, ground := Go.Ground.phase }, { on := 1, ground := Go.Ground.phase }, { on := 2, ground := Go.Ground.phase }, { on := 3, ground := Go.Ground.phase }, { on := 4, ground := Go.Ground.phase }, { on := 5, ground := Go.Ground.phase }, { on := 6, ground := Go.Ground.phase }, { on := 7, ground := Go.Ground.phase }], guard := none }) (by kernel_rfl) (by kernel_rfl), ?_⟩
    refine Og.s_done (by kernel_rfl) ?_ _
    refine ⟨rfl, 0, none, 0, ?_, wq, BQ.out, hma6, hgr6⟩
    simp only [Act.put, List.setIfInBounds_toArray, List.set_cons_zero, List.set_cons_succ]
  rintro _ _ _ W6 ⟨wq, hbq, hma6, hgr6⟩
  have BQ := Lib.hid hbq; have MA6 := Lib.hid hma6; have G6 := Lib.hid hgr6
  clear hbq hma6 hgr6
  have TQ := Lib.hid (T5.out.kp BQ.out)
  have MMQ := Lib.hid (MM5.out.1.at_ (BQ.out.block _ MM5.out.1.lt))
  simp only [Act.put, List.setIfInBounds_toArray, List.set_cons_zero, List.set_cons_succ]
  have HMO := Lib.hid (show (∃ es clock, wq.heap[d.mb]? = some (.map es clock)) from MMQ.out.obj)
  have K6 := Lib.hid (show ∀ k, k < wq.heap.size → k ≠ d.mb → W6.heap[k]? = wq.heap[k]? from fun k h1 h2 => G6.out.block k h1 (fun e => h2 (by injection e)))
  have NEM := Lib.hid (show ∀ k cs t, wq.heap[k]? = some (.cells cs t (0, 0)) → k ≠ d.mb from fun k cs t hk e9 => by
    obtain ⟨es, clock, ho⟩ := HMO.out
    exact cells_map hk (e9 ▸ ho))
  have hrbq := (BQ.out.block _ (Array.getElem?_eq_some_iff.1 RB5.out).1).trans RB5.out
  have hebq := (BQ.out.block _ (Array.getElem?_eq_some_iff.1 EB5.out).1).trans EB5.out
  have RB6 := Lib.hid ((K6.out rb (Array.getElem?_eq_some_iff.1 hrbq).1 (NEM.out rb _ _ hrbq)).trans hrbq)
  have EB6 := Lib.hid ((K6.out eb (Array.getElem?_eq_some_iff.1 hebq).1 (NEM.out eb _ _ hebq)).trans hebq)
  have c1 : W6.cell? ⟨tp, 1, none⟩ = some (.slice sa T'.sent.length sc) := by
    have ht9 := TQ.out.tk.tb
    rw [cell_of_row _ _ _ _ _ _ ((K6.out tp (Array.getElem?_eq_some_iff.1 ht9).1 (NEM.out tp _ _ ht9)).trans ht9)]; rfl
  have TK6 := Lib.hid (HW.out.took BW4.out E4.out HTPW.out TQ.out MA6.out G6.out HTK.out.1 (Nat.le_trans HTK.out.2 (Nat.succ_le_succ HQ0.out)))
  have OKS := Lib.hid TQ.out.tk.sok
  clear hrbq hebq
  go_wp2_with (first
    | ((with_reducible show wpList _ _ _ (Oper.mk none (Op.store 56 _ _) _ _ _ _ :: _) _ _); refine wpList_put rfl 56 (.tmp 4) (.tmp 39) rfl rb 0 (.slice sa T'.sent.length sc) rfl rfl 56 _ RB6.out (by kernel_rfl) (Nat.le_of_ble_eq_true rfl) (one_slice _ _ _) #[.slice sa T'.sent.length sc] rfl ?_)
    | ((with_reducible show wpList _ _ _ (Oper.mk none (Op.store 47 _ _) _ _ _ _ :: _) _ _); refine wpList_put rfl 47 (.tmp 5) (.const (.int .i64 0)) rfl eb 0 (.int .i64 0) rfl rfl 47 _ ((setRow_other _ _ _ _ HNE.out).trans EB6.out) (by kernel_rfl) (Nat.le_of_ble_eq_true rfl) (one_int _ _) #[.int .i64 0] rfl ?_))
  have H2 := two_of (.slice sa T'.sent.length sc) (.int .i64 0) RB6.out EB6.out
  obtain ⟨W7, hW7⟩ : ∃ W7, W7 = (W6.setRow rb #[.slice sa T'.sent.length sc]).setRow eb #[.int .i64 0] := ⟨_, rfl⟩
  rw [← hW7] at H2 ⊢
  clear hW7
  refine leaves_cons (f := 61) (args := #[.pointer (some ⟨rb, 0, none⟩), .pointer (some ⟨eb, 0, none⟩)]) (by simp) (by simp [go_sem]) ?_
  refine (catch_idle _ _ _).mono ?_
  rintro e9 u9 w9 ⟨rfl, rfl, rfl⟩
  obtain ⟨d', hd, hfr, hdn, hso, hsn, heo⟩ := TK6.out
  have h1 := HRB.out; have h2 := HEB.out
  have hl1 := (Array.getElem?_eq_some_iff.1 RB4.out).1
  have hl2 := (Array.getElem?_eq_some_iff.1 EB4.out).1
  obtain ⟨ce, hce⟩ := EntAt.row HW.out BW4.out E4.out
  have hre := types_ne RB4.out hce (by decide)
  have hee := types_ne EB4.out hce (by decide)
  have hrn : ¬ hown p d rb := fun h => by have := HW.out.own_lt rb h; omega
  have hen : ¬ hown p d eb := fun h => by have := HW.out.own_lt eb h; omega
  have hbn : ∀ k, hown p d' k → k ≠ rb ∧ k ≠ eb := fun k hk => by
    rcases hdn k hk with h3 | h3 | h3
    · exact ⟨fun e9 => hrn (e9 ▸ h3), fun e9 => hen (e9 ▸ h3)⟩
    · exact ⟨by omega, by omega⟩
    · exact ⟨fun e9 => hre (e9.symm.trans h3), fun e9 => hee (e9.symm.trans h3)⟩
  have hsz := BW4.out.size
  refine ⟨_, res_two rfl rfl H2.r H2.e, d', sa, sc, S', rfl, hd.kept (by rw [H2.s]; exact Nat.le_refl _) (fun k hk => H2.k k (hbn k hk).1 (hbn k hk).2), ⟨H2.o.1.trans hfr.os, H2.o.2.1.trans hfr.tape, H2.o.2.2.trans hfr.output, by rw [H2.s]; exact hfr.size, fun k hk hn9 => (H2.k k (by omega) (by omega)).trans (hfr.block k hk hn9)⟩, fun k hk => ?_, hso.kept (fun k hk _ => H2.k k (by have := (hsn k hk).1; omega) (by have := (hsn k hk).1; omega)), fun k hk => ⟨by have := (hsn k hk).1; omega, (hsn k hk).2⟩, OKS.out⟩
  rcases hdn k hk with h3 | h3 | h3
  · exact .inl h3
  · exact .inr (by omega)
  · rw [h3]; exact heo
end
end Hm
end Go.Proofs.Ytfajkgbpeapcbaa
end
