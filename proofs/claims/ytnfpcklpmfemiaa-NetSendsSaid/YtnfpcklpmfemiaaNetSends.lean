/-
  NetSends: for every input the statement's function returns true, with no condition; each argument reads behind the call as before. By contracts of the program's and the document's functions.
-/
import Derived.Test.YtnfpcklpmfemiaaNtLaw
namespace Go.Proofs.Ytnfpcklpmfemiaa.netSends
open Go.ChangeShapes Go.WideShapes Go.ChangeAt Go.RowKit
set_option linter.unusedVariables false
set_option linter.unusedSimpArgs false

set_option maxRecDepth 100000 in
set_option maxHeartbeats 8000000 in
theorem walk_bad (w : World) (a0 : Int) (a1 : Option Addr) (n1 c1 : Nat) (h : a0 < 1 ∨ 1024 < a0 ∨ (1 ≤ a0 ∧ a0 ≤ 1024 ∧ 100 < n1)) :
    Calls Try.prog 8 #[.int .i64 a0, .slice a1 n1 c1] w fun e w' => e = .returned (.bool true) ∧ Below w.heap.size w w' := by
  rcases h with h1 | h1 | ⟨h1, h2, h3⟩
  · go_enter Try.func8, Try.ntmps8
    go_wp2_with (go_at_call 28; (with_reducible refine (Nt.works_any _).mono ?_); rintro e W9 ⟨rfl, hb⟩; have B9 := Lib.hid hb; clear hb)
    go_ret
    exact ⟨rfl, B9.out⟩
  · have h2 : ¬ a0 < 1 := by omega
    go_enter Try.func8, Try.ntmps8
    go_wp2_with (go_at_call 28; (with_reducible refine (Nt.works_any _).mono ?_); rintro e W9 ⟨rfl, hb⟩; have B9 := Lib.hid hb; clear hb)
    go_ret
    exact ⟨rfl, B9.out⟩
  · have h4 : ¬ a0 < 1 := by omega
    have h5 : ¬ 1024 < a0 := by omega
    have h6 : (100 : Int) < (n1 : Int) := by omega
    clear h1 h2 h3
    go_enter Try.func8, Try.ntmps8
    go_wp2_with (go_at_call 28; (with_reducible refine (Nt.works_any _).mono ?_); rintro e W9 ⟨rfl, hb⟩; have B9 := Lib.hid hb; clear hb)
    go_ret
    exact ⟨rfl, B9.out⟩
set_option maxRecDepth 100000 in
set_option maxHeartbeats 8000000 in
theorem walk_good (w : World) (most : Nat) (h0 : 1 ≤ most) (h9 : most ≤ 1024) (a1 : Option Addr) (c1 : Nat) (xs : List Nt.E) (b1 : Nt.LsIn w a1 c1 xs) (hx : xs.length ≤ 100) :
    Calls Try.prog 8 #[.int .i64 (most : Int), .slice a1 xs.length c1] w fun e w' => e = .returned (.bool true) ∧ Below w.heap.size w w' := by
  have NW := Lib.hid (Nt.new_yes most h0 h9 w)
  have h1 : ¬ (most : Int) < 1 := by omega
  have h2 : ¬ 1024 < (most : Int) := by omega
  have h3 : ¬ (100 : Int) < (xs.length : Int) := by omega
  have HIN := Lib.hid b1
  clear b1
  go_enter Try.func8, Try.ntmps8
  go_wp2_with (first
    | (go_at_call 29; (with_reducible refine NW.out.mono ?_); rintro e W1 ⟨p, rfl, hb1, F, hca, hf⟩
       have B1 := Lib.hid hb1; have CA := Lib.hid hca; have HF := Lib.hid hf
       clear hb1 hca hf))
  obtain ⟨wb, hwb⟩ : ∃ wb, wb = W1.heap.size := ⟨_, rfl⟩
  obtain ⟨W2, hW2⟩ : ∃ W2, W2 = W1.alloc (.cells #[.int .i64 (most : Int), .slice none 0 0] 76) := ⟨_, rfl⟩
  rw [← hW2, ← hwb]
  have PL0 := Lib.hid (show Nt.Pl w W2 F p most wb (Nt.sendsL most (xs.take 0)) none 0 (Nt.sendsL most (xs.take 0)) from by
    rw [hwb]; exact Nt.Pl.fresh CA.out B1.out HF.out hW2)
  clear hW2 hwb CA B1 HF
  go_loopw [8, 9, 10] (fun i _ _ wr => ∃ k : Nat, k ≤ xs.length ∧ i = .int .i64 (k : Int) ∧ ∃ F a c, Nt.Pl w wr F p most wb (Nt.sendsL most (xs.take k)) a c (Nt.sendsL most (xs.take k))) (fun i _ _ _ => xs.length - (intOf i).toNat)
  case atStart => exact ⟨0, Nat.zero_le _, rfl, F, none, 0, PL0.out⟩
  case round =>
    obtain ⟨k, hk, rfl, F, a, c, hpl⟩ := hrel
    obtain ⟨l, hl⟩ : ∃ l, Nt.sendsL most (xs.take k) = l := ⟨_, rfl⟩
    rw [hl] at hpl
    have PL := Lib.hid hpl; have HL := Lib.hid hl
    have hll : l.length ≤ 1024 := hpl.net.len
    have hlm : l.length ≤ most := by obtain ⟨a, c, h⟩ := hpl.net; exact h.len
    clear hpl hl
    by_cases hlt : k < xs.length
    · obtain ⟨m, hm⟩ : ∃ m, xs[k]? = some m := ⟨_, List.getElem?_eq_getElem hlt⟩
      have HOK := Lib.hid (HIN.out.ok_ hm)
      have HPS := Lib.hid (show Nt.sendsL most (xs.take (k + 1)) = Nt.sendL most l m by rw [Nt.sendsL_succ most hm, HL.out])
      obtain ⟨ga, o, ea, hc⟩ := HIN.out.at_ hm
      have HC := Lib.hid hc
      have hki : (k : Int) < (xs.length : Int) := by omega
      clear hm hc
      rw [ea]; clear ea
      go_wp2_with fail
      refine Og.region_to (fun A (i : Nat × Option Addr × Nat) => (((((((((((A.put (some 37) (.agg #[.int .i64 (most : Int), .slice a l.length c])).put (some 38) (.slice (some ⟨ga, o, none⟩) xs.length c1)).put (some 39) (.int .i64 (k : Int))).put (some 40) (.pointer (some ⟨ga, o + k * 20, none⟩))).put (some 41) (.agg (Nt.cells m).toArray)).put (some 42) (.tuple #[.agg #[.int .i64 (most : Int), .slice i.2.1 (Nt.sendL most l m).length i.2.2], .int .i64 (Nt.sendE most l m)])).put (some 36) (.tuple #[.agg #[.int .i64 (most : Int), .slice i.2.1 (Nt.sendL most l m).length i.2.2], .int .i64 (Nt.sendE most l m)])).put (some 43) (.agg #[.int .i64 (most : Int), .slice i.2.1 (Nt.sendL most l m).length i.2.2])).put (some 44) (.int .i64 (Nt.sendE most l m))).put (some 9) (.pointer (some ⟨i.1, 0, none⟩))).put (some 10) (.int .i64 (Nt.sendE most l m)))) (fun w' (i : Nat × Option Addr × Nat) => Nt.Pl w w' F p most wb l a c l ∧ w'.heap[i.1]? = some (.cells #[.int .i64 (most : Int), .slice i.2.1 (Nt.sendL most l m).length i.2.2] 76 (0, 0)) ∧ Nt.Own w' (fun k => w.heap.size ≤ k ∧ ¬ F k) i.2.1 i.2.2 (Nt.sendL most l m) ∧ wb ≠ i.1) ?_ ?_
      · obtain ⟨wq, hwq⟩ : ∃ wq, wq = { wr with drawn := wr.drawn + 1 } := ⟨_, rfl⟩
        have BQ := Lib.hid (show Below wr.heap.size wr wq by rw [hwq]; exact ⟨rfl, rfl, rfl, Nat.le_refl _, fun _ _ => rfl⟩)
        have HWQ := Lib.hid hwq
        clear hwq
        have PQ := Lib.hid (PL.out.kp BQ.out)
        have HCQ := Lib.hid (fun i c hi => Ev.kp_below PQ.out.bel _ _ (HC.out i c hi))
        have HFA := Lib.hid (show (fun x : World => x.heap[wb]? = some (.cells #[.int .i64 (most : Int), .slice a l.length c] 76 (0, 0)) ∧ ∀ i c, (Nt.cells m)[i]? = some c → x.cell? ⟨ga, o + k * 20 + i, none⟩ = some c) wq from ⟨PQ.out.want, HCQ.out⟩)
        refine Og.region_S (S := Og.SF 5 (fun x : World => x.heap[wb]? = some (.cells #[.int .i64 (most : Int), .slice a l.length c] 76 (0, 0)) ∧ ∀ i c, (Nt.cells m)[i]? = some c → x.cell? ⟨ga, o + k * 20 + i, none⟩ = some c)) (by kernel_rfl) ?_
        rw [← HWQ.out]
        refine Og.s_take 0 { dst := some 37, op := Go.Op.load 76 (Go.Operand.tmp 7), type := 76, pos := "near.go:17", after := #[], guard := none } (.agg #[.int .i64 (most : Int), .slice a l.length c]) _ (by kernel_rfl) (by kernel_rfl) (by kernel_rfl) (by kernel_rfl) (by kernel_rfl) (fun _ _ _ h => nomatch h.1) (fun _ => HFA.out) (fun x' hx => ?_) (by simp only [Act.put, List.setIfInBounds_toArray, List.set_cons_zero, List.set_cons_succ]; rfl) ?_
        · exact Og.load_run 76 (.tmp 7) rfl ⟨wb, 0, none⟩ rfl (run_loadVar_row x' wb 76 76 #[.int .i64 (most : Int), .slice a l.length c] (0, 0) _ (hx (by decide)).1 Try.underlying76 rfl (by kernel_rfl))
        refine Og.s_take 1 { dst := some 38, op := Go.Op.move (Go.Operand.tmp 1), type := 68, pos := "near.go:17", after := #[], guard := none } (.slice (some ⟨ga, o, none⟩) xs.length c1) _ (by kernel_rfl) (by kernel_rfl) (by kernel_rfl) (by kernel_rfl) (by kernel_rfl) (fun _ _ _ h => nomatch h.1) (fun _ => HFA.out) (fun x' hx => ?_) (by simp only [Act.put, List.setIfInBounds_toArray, List.set_cons_zero, List.set_cons_succ]; rfl) ?_
        · go_simp; try (with_reducible rfl)
        refine Og.s_take 2 { dst := some 39, op := Go.Op.move (Go.Operand.tmp 8), type := 3, pos := "near.go:17", after := #[], guard := none } (.int .i64 (k : Int)) _ (by kernel_rfl) (by kernel_rfl) (by kernel_rfl) (by kernel_rfl) (by kernel_rfl) (fun _ _ _ h => nomatch h.1) (fun _ => HFA.out) (fun x' hx => ?_) (by simp only [Act.put, List.setIfInBounds_toArray, List.set_cons_zero, List.set_cons_succ]; rfl) ?_
        · go_simp; try (with_reducible rfl)
        refine Og.s_take 3 { dst := some 40, op := Go.Op.indexAddr 68 (Go.Operand.tmp 38) (Go.Operand.tmp 39), type := 0, pos := "near.go:17", after := #[{ on := 1, ground := Go.Ground.data }, { on := 2, ground := Go.Ground.data }], guard := none } (.pointer (some ⟨ga, o + k * 20, none⟩)) _ (by kernel_rfl) (by kernel_rfl) (by kernel_rfl) (by kernel_rfl) (by kernel_rfl) (fun _ _ _ h => nomatch h.1) (fun _ => HFA.out) (fun x' hx => ?_) (by simp only [Act.put, List.setIfInBounds_toArray, List.set_cons_zero, List.set_cons_succ]; rfl) ?_
        · go_simp; try (with_reducible rfl)
        refine Og.s_take 4 { dst := some 41, op := Go.Op.load 57 (Go.Operand.tmp 40), type := 57, pos := "near.go:17", after := #[{ on := 3, ground := Go.Ground.data }], guard := none } (.agg (Nt.cells m).toArray) _ (by kernel_rfl) (by kernel_rfl) (by kernel_rfl) (by kernel_rfl) (by kernel_rfl) (fun _ _ _ h => nomatch h.1) (fun _ => HFA.out) (fun x' hx => ?_) (by simp only [Act.put, List.setIfInBounds_toArray, List.set_cons_zero, List.set_cons_succ]; rfl) ?_
        · exact Og.load_run 57 (.tmp 40) rfl ⟨ga, o + k * 20, none⟩ rfl (run_loadVar_at x' ga (o + k * 20) 57 (Nt.cells m) _ (hx (by decide)).2 Try.underlying57 rfl (by rw [HOK.out.len]; exact Nt.size_msg))
        refine Og.s_two 5 9 { dst := some 42, op := Go.Op.call { callee := Go.Callee.value (Go.Operand.func 40), args := #[Go.Operand.tmp 37, Go.Operand.tmp 41], argTypes := #[76, 57] }, type := 85, pos := "near.go:17", after := #[{ on := 0, ground := Go.Ground.data }, { on := 4, ground := Go.Ground.data }], guard := none } { dst := some 9, op := Go.Op.alloc 76, type := 0, pos := "near.go:17", after := #[], guard := none } (by kernel_rfl) (by kernel_rfl) (by kernel_rfl) (by kernel_rfl) (by kernel_rfl) ?_ ?_
        · refine Og.call_to (w1 := wq) (f := 40) (args := #[.agg #[.int .i64 (most : Int), .slice a l.length c], .agg (Nt.cells m).toArray]) (by go_simp) ?_
          refine (Nt.rsend_any most a c l m HOK.out wq PQ.out.ls hll hlm h9).mono ?_
          rintro e' W3 ⟨a3, c3, rfl, hb3, ho3⟩
          have P3 := Lib.hid (PQ.out.kp hb3)
          have O3 := Lib.hid (PQ.out.told hb3 ho3)
          have BC := Lib.hid hb3
          clear hb3 ho3
          refine ⟨_, rfl, Og.keep_sf (fun h => ⟨(BC.out.block _ (Array.getElem?_eq_some_iff.1 h.1).1).trans h.1, fun i c hi => Ev.kp_below BC.out _ _ (h.2 i c hi)⟩), ?_⟩
          refine Og.s_take 6 { dst := some 36, op := Go.Op.move (Go.Operand.tmp 42), type := 85, pos := "near.go:17", after := #[{ on := 5, ground := Go.Ground.data }], guard := none } (.tuple #[.agg #[.int .i64 (most : Int), .slice a3 (Nt.sendL most l m).length c3], .int .i64 (Nt.sendE most l m)]) _ (by kernel_rfl) (by kernel_rfl) (by kernel_rfl) (by kernel_rfl) (by kernel_rfl) (fun _ _ _ h => nomatch h.1) (fun h => absurd h (by decide)) (fun x' hx => ?_) (by simp only [Act.put, List.setIfInBounds_toArray, List.set_cons_zero, List.set_cons_succ]; rfl) ?_
          · go_simp; try (with_reducible rfl)
          refine Og.s_take 7 { dst := some 43, op := Go.Op.extract (Go.Operand.tmp 36) 0, type := 76, pos := "near.go:17", after := #[{ on := 6, ground := Go.Ground.data }], guard := none } (.agg #[.int .i64 (most : Int), .slice a3 (Nt.sendL most l m).length c3]) _ (by kernel_rfl) (by kernel_rfl) (by kernel_rfl) (by kernel_rfl) (by kernel_rfl) (fun _ _ _ h => nomatch h.1) (fun h => absurd h (by decide)) (fun x' hx => ?_) (by simp only [Act.put, List.setIfInBounds_toArray, List.set_cons_zero, List.set_cons_succ]; rfl) ?_
          · go_simp; try (with_reducible rfl)
          refine Og.s_take 8 { dst := some 44, op := Go.Op.extract (Go.Operand.tmp 36) 1, type := 3, pos := "near.go:17", after := #[{ on := 6, ground := Go.Ground.data }, { on := 10, ground := Go.Ground.gcOnly Go.Departure.lateStores }], guard := none } (.int .i64 (Nt.sendE most l m)) _ (by kernel_rfl) (by kernel_rfl) (by kernel_rfl) (by kernel_rfl) (by kernel_rfl) (fun _ _ _ h => nomatch h.1) (fun h => absurd h (by decide)) (fun x' hx => ?_) (by simp only [Act.put, List.setIfInBounds_toArray, List.set_cons_zero, List.set_cons_succ]; rfl) ?_
          · go_simp; try (with_reducible rfl)
          refine Og.s_one 9 { dst := some 9, op := Go.Op.alloc 76, type := 0, pos := "near.go:17", after := #[], guard := none } (by kernel_rfl) (by kernel_rfl) (by kernel_rfl) ?_
          have hlw := P3.out.wlt
          have hlF := Lib.hid P3.out.net.lt
          have hwz := P3.out.bel.size
          refine Og.run_to (v := .pointer (some ⟨W3.heap.size, 0, none⟩)) (w' := W3.alloc (.cells #[.int .i64 0, .slice none 0 0] 76)) (by go_simp) ?_
          obtain ⟨nb, hnb⟩ : ∃ nb, nb = W3.heap.size := ⟨_, rfl⟩
          obtain ⟨W4, hW4⟩ : ∃ W4, W4 = W3.alloc (.cells #[.int .i64 0, .slice none 0 0] 76) := ⟨_, rfl⟩
          have BA := Lib.hid (show Below W3.heap.size W3 W4 by rw [hW4]; exact (Below.refl W3.heap.size W3).alloc (Nat.le_refl _) _)
          have Z4 := Lib.hid (show W4.heap[nb]? = some (.cells #[.int .i64 0, .slice none 0 0] 76 (0, 0)) by rw [hW4, hnb]; exact heap_alloc_new _ _)
          rw [← hW4, ← hnb]
          clear hW4
          refine ⟨Og.keep_sf (fun h => ⟨(BA.out.block _ (Array.getElem?_eq_some_iff.1 h.1).1).trans h.1, fun i c hi => Ev.kp_below BA.out _ _ (h.2 i c hi)⟩), ?_⟩
          have hwn : wb ≠ nb := by omega
          have P4 := Lib.hid (P3.out.kp BA.out)
          have O4 := Lib.hid (O3.out.kp BA.out)
          refine Og.s_one 10 { dst := none, op := Go.Op.store 76 (Go.Operand.tmp 9) (Go.Operand.tmp 43), type := 0, pos := "near.go:17", after := #[{ on := 9, ground := Go.Ground.data }, { on := 7, ground := Go.Ground.data }, { on := 5, ground := Go.Ground.chain }, { on := 0, ground := Go.Ground.phase }, { on := 1, ground := Go.Ground.phase }, { on := 2, ground := Go.Ground.phase }, { on := 3, ground := Go.Ground.phase }, { on := 4, ground := Go.Ground.phase }, { on := 5, ground := Go.Ground.phase }, { on := 6, ground := Go.Ground.phase }, { on := 7, ground := Go.Ground.phase }, { on := 8, ground := Go.Ground.textOnly Go.Departure.lateStores }, { on := 9, ground := Go.Ground.phase }], guard := none } (by kernel_rfl) (by kernel_rfl) (by kernel_rfl) ?_
          refine Og.skip_to (w' := W4.setRow nb #[.int .i64 (most : Int), .slice a3 (Nt.sendL most l m).length c3]) ?_ ⟨Og.keep_last (o := { dst := none, op := Go.Op.store 76 (Go.Operand.tmp 9) (Go.Operand.tmp 43), type := 0, pos := "near.go:17", after := #[{ on := 9, ground := Go.Ground.data }, { on := 7, ground := Go.Ground.data }, { on := 5, ground := Go.Ground.chain }, { on := 0, ground := Go.Ground.phase }, { on := 1, ground := Go.Ground.phase }, { on := 2, ground := Go.Ground.phase }, { on := 3, ground := Go.Ground.phase }, { on := 4, ground := Go.Ground.phase }, { on := 5, ground := Go.Ground.phase }, { on := 6, ground := Go.Ground.phase }, { on := 7, ground := Go.Ground.phase }, { on := 8, ground := Go.Ground.textOnly Go.Departure.lateStores }, { on := 9, ground := Go.Ground.phase }], guard := none }) (by kernel_rfl) (by kernel_rfl), ?_⟩
          · exact Og.row_to 76 (.tmp 9) (.tmp 43) rfl nb #[.int .i64 (most : Int), .slice a3 (Nt.sendL most l m).length c3] rfl rfl 76 _ Z4.out (by kernel_rfl) rfl (by kernel_rfl)
          obtain ⟨W5, hW5⟩ : ∃ W5, W5 = W4.setRow nb #[.int .i64 (most : Int), .slice a3 (Nt.sendL most l m).length c3] := ⟨_, rfl⟩
          have hsW5 := Ev.set1 (cs := #[.int .i64 (most : Int), .slice a3 (Nt.sendL most l m).length c3]) Z4.out rfl
          rw [← hW5] at hsW5 ⊢
          have S5 := Lib.hid hsW5
          clear hW5 hsW5
          have P5 := Lib.hid (P4.out.other Z4.out S5.out (by omega) (fun h => by have := hlF.out _ h; omega) (Ne.symm hwn) (by decide))
          have O5 := Lib.hid (Nt.own_other O4.out Z4.out S5.out (by decide))
          refine Og.s_take 11 { dst := some 10, op := Go.Op.assign (Go.Operand.tmp 44), type := 3, pos := "near.go:17", after := #[{ on := 8, ground := Go.Ground.data }, { on := 10, ground := Go.Ground.chain }, { on := 0, ground := Go.Ground.phase }, { on := 1, ground := Go.Ground.phase }, { on := 2, ground := Go.Ground.phase }, { on := 3, ground := Go.Ground.phase }, { on := 4, ground := Go.Ground.phase }, { on := 5, ground := Go.Ground.phase }, { on := 6, ground := Go.Ground.phase }, { on := 7, ground := Go.Ground.phase }, { on := 8, ground := Go.Ground.phase }, { on := 9, ground := Go.Ground.phase }, { on := 10, ground := Go.Ground.phase }], guard := none } (.int .i64 (Nt.sendE most l m)) _ (by kernel_rfl) (by kernel_rfl) (by kernel_rfl) (by kernel_rfl) (by kernel_rfl) (fun _ _ _ h => nomatch h.1) (fun h => absurd h (by decide)) (fun x' hx => ?_) (by simp only [Act.put, List.setIfInBounds_toArray, List.set_cons_zero, List.set_cons_succ]; rfl) ?_
          · go_simp; try (with_reducible rfl)
          refine Og.s_done (by kernel_rfl) ?_ _
          refine ⟨rfl, (nb, a3, c3), ?_, P5.out, S5.out.row, O5.out, hwn⟩
          simp only [Act.put, List.setIfInBounds_toArray, List.set_cons_zero, List.set_cons_succ]
        · have hlw := PQ.out.wlt
          have hlF := Lib.hid PQ.out.net.lt
          have hwz := PQ.out.bel.size
          refine Og.run_to (v := .pointer (some ⟨wq.heap.size, 0, none⟩)) (w' := wq.alloc (.cells #[.int .i64 0, .slice none 0 0] 76)) (by go_simp) ?_
          obtain ⟨nb, hnb⟩ : ∃ nb, nb = wq.heap.size := ⟨_, rfl⟩
          obtain ⟨W4, hW4⟩ : ∃ W4, W4 = wq.alloc (.cells #[.int .i64 0, .slice none 0 0] 76) := ⟨_, rfl⟩
          have BA := Lib.hid (show Below wq.heap.size wq W4 by rw [hW4]; exact (Below.refl wq.heap.size wq).alloc (Nat.le_refl _) _)
          have Z4 := Lib.hid (show W4.heap[nb]? = some (.cells #[.int .i64 0, .slice none 0 0] 76 (0, 0)) by rw [hW4, hnb]; exact heap_alloc_new _ _)
          rw [← hW4, ← hnb]
          clear hW4
          refine ⟨Og.keep_sf (fun h => ⟨(BA.out.block _ (Array.getElem?_eq_some_iff.1 h.1).1).trans h.1, fun i c hi => Ev.kp_below BA.out _ _ (h.2 i c hi)⟩), ?_⟩
          have hwn : wb ≠ nb := by omega
          have PA := Lib.hid (PQ.out.kp BA.out)
          refine Og.s_one 5 { dst := some 42, op := Go.Op.call { callee := Go.Callee.value (Go.Operand.func 40), args := #[Go.Operand.tmp 37, Go.Operand.tmp 41], argTypes := #[76, 57] }, type := 85, pos := "near.go:17", after := #[{ on := 0, ground := Go.Ground.data }, { on := 4, ground := Go.Ground.data }], guard := none } (by kernel_rfl) (by kernel_rfl) (by kernel_rfl) ?_
          refine Og.call_to (w1 := W4) (f := 40) (args := #[.agg #[.int .i64 (most : Int), .slice a l.length c], .agg (Nt.cells m).toArray]) (by go_simp) ?_
          refine (Nt.rsend_any most a c l m HOK.out W4 PA.out.ls hll hlm h9).mono ?_
          rintro e' W6 ⟨a3, c3, rfl, hb3, ho3⟩
          have P3 := Lib.hid (PA.out.kp hb3)
          have O4 := Lib.hid (PA.out.told hb3 ho3)
          have BC := Lib.hid hb3
          clear hb3 ho3
          refine ⟨_, rfl, Og.keep_sf (fun h => ⟨(BC.out.block _ (Array.getElem?_eq_some_iff.1 h.1).1).trans h.1, fun i c hi => Ev.kp_below BC.out _ _ (h.2 i c hi)⟩), ?_⟩
          have P4 := P3
          have Z6 := Lib.hid ((BC.out.block nb (Array.getElem?_eq_some_iff.1 Z4.out).1).trans Z4.out)
          refine Og.s_take 6 { dst := some 36, op := Go.Op.move (Go.Operand.tmp 42), type := 85, pos := "near.go:17", after := #[{ on := 5, ground := Go.Ground.data }], guard := none } (.tuple #[.agg #[.int .i64 (most : Int), .slice a3 (Nt.sendL most l m).length c3], .int .i64 (Nt.sendE most l m)]) _ (by kernel_rfl) (by kernel_rfl) (by kernel_rfl) (by kernel_rfl) (by kernel_rfl) (fun _ _ _ h => nomatch h.1) (fun h => absurd h (by decide)) (fun x' hx => ?_) (by simp only [Act.put, List.setIfInBounds_toArray, List.set_cons_zero, List.set_cons_succ]; rfl) ?_
          · go_simp; try (with_reducible rfl)
          refine Og.s_take 7 { dst := some 43, op := Go.Op.extract (Go.Operand.tmp 36) 0, type := 76, pos := "near.go:17", after := #[{ on := 6, ground := Go.Ground.data }], guard := none } (.agg #[.int .i64 (most : Int), .slice a3 (Nt.sendL most l m).length c3]) _ (by kernel_rfl) (by kernel_rfl) (by kernel_rfl) (by kernel_rfl) (by kernel_rfl) (fun _ _ _ h => nomatch h.1) (fun h => absurd h (by decide)) (fun x' hx => ?_) (by simp only [Act.put, List.setIfInBounds_toArray, List.set_cons_zero, List.set_cons_succ]; rfl) ?_
          · go_simp; try (with_reducible rfl)
          refine Og.s_take 8 { dst := some 44, op := Go.Op.extract (Go.Operand.tmp 36) 1, type := 3, pos := "near.go:17", after := #[{ on := 6, ground := Go.Ground.data }, { on := 10, ground := Go.Ground.gcOnly Go.Departure.lateStores }], guard := none } (.int .i64 (Nt.sendE most l m)) _ (by kernel_rfl) (by kernel_rfl) (by kernel_rfl) (by kernel_rfl) (by kernel_rfl) (fun _ _ _ h => nomatch h.1) (fun h => absurd h (by decide)) (fun x' hx => ?_) (by simp only [Act.put, List.setIfInBounds_toArray, List.set_cons_zero, List.set_cons_succ]; rfl) ?_
          · go_simp; try (with_reducible rfl)
          refine Og.s_one 10 { dst := none, op := Go.Op.store 76 (Go.Operand.tmp 9) (Go.Operand.tmp 43), type := 0, pos := "near.go:17", after := #[{ on := 9, ground := Go.Ground.data }, { on := 7, ground := Go.Ground.data }, { on := 5, ground := Go.Ground.chain }, { on := 0, ground := Go.Ground.phase }, { on := 1, ground := Go.Ground.phase }, { on := 2, ground := Go.Ground.phase }, { on := 3, ground := Go.Ground.phase }, { on := 4, ground := Go.Ground.phase }, { on := 5, ground := Go.Ground.phase }, { on := 6, ground := Go.Ground.phase }, { on := 7, ground := Go.Ground.phase }, { on := 8, ground := Go.Ground.textOnly Go.Departure.lateStores }, { on := 9, ground := Go.Ground.phase }], guard := none } (by kernel_rfl) (by kernel_rfl) (by kernel_rfl) ?_
          refine Og.skip_to (w' := W6.setRow nb #[.int .i64 (most : Int), .slice a3 (Nt.sendL most l m).length c3]) ?_ ⟨Og.keep_last (o := { dst := none, op := Go.Op.store 76 (Go.Operand.tmp 9) (Go.Operand.tmp 43), type := 0, pos := "near.go:17", after := #[{ on := 9, ground := Go.Ground.data }, { on := 7, ground := Go.Ground.data }, { on := 5, ground := Go.Ground.chain }, { on := 0, ground := Go.Ground.phase }, { on := 1, ground := Go.Ground.phase }, { on := 2, ground := Go.Ground.phase }, { on := 3, ground := Go.Ground.phase }, { on := 4, ground := Go.Ground.phase }, { on := 5, ground := Go.Ground.phase }, { on := 6, ground := Go.Ground.phase }, { on := 7, ground := Go.Ground.phase }, { on := 8, ground := Go.Ground.textOnly Go.Departure.lateStores }, { on := 9, ground := Go.Ground.phase }], guard := none }) (by kernel_rfl) (by kernel_rfl), ?_⟩
          · exact Og.row_to 76 (.tmp 9) (.tmp 43) rfl nb #[.int .i64 (most : Int), .slice a3 (Nt.sendL most l m).length c3] rfl rfl 76 _ Z6.out (by kernel_rfl) rfl (by kernel_rfl)
          obtain ⟨W5, hW5⟩ : ∃ W5, W5 = W6.setRow nb #[.int .i64 (most : Int), .slice a3 (Nt.sendL most l m).length c3] := ⟨_, rfl⟩
          have hsW5 := Ev.set1 (cs := #[.int .i64 (most : Int), .slice a3 (Nt.sendL most l m).length c3]) Z6.out rfl
          rw [← hW5] at hsW5 ⊢
          have S5 := Lib.hid hsW5
          clear hW5 hsW5
          have P5 := Lib.hid (P4.out.other Z6.out S5.out (by omega) (fun h => by have := hlF.out _ h; omega) (Ne.symm hwn) (by decide))
          have O5 := Lib.hid (Nt.own_other O4.out Z6.out S5.out (by decide))
          refine Og.s_take 11 { dst := some 10, op := Go.Op.assign (Go.Operand.tmp 44), type := 3, pos := "near.go:17", after := #[{ on := 8, ground := Go.Ground.data }, { on := 10, ground := Go.Ground.chain }, { on := 0, ground := Go.Ground.phase }, { on := 1, ground := Go.Ground.phase }, { on := 2, ground := Go.Ground.phase }, { on := 3, ground := Go.Ground.phase }, { on := 4, ground := Go.Ground.phase }, { on := 5, ground := Go.Ground.phase }, { on := 6, ground := Go.Ground.phase }, { on := 7, ground := Go.Ground.phase }, { on := 8, ground := Go.Ground.phase }, { on := 9, ground := Go.Ground.phase }, { on := 10, ground := Go.Ground.phase }], guard := none } (.int .i64 (Nt.sendE most l m)) _ (by kernel_rfl) (by kernel_rfl) (by kernel_rfl) (by kernel_rfl) (by kernel_rfl) (fun _ _ _ h => nomatch h.1) (fun h => absurd h (by decide)) (fun x' hx => ?_) (by simp only [Act.put, List.setIfInBounds_toArray, List.set_cons_zero, List.set_cons_succ]; rfl) ?_
          · go_simp; try (with_reducible rfl)
          refine Og.s_done (by kernel_rfl) ?_ _
          refine ⟨rfl, (nb, a3, c3), ?_, P5.out, S5.out.row, O5.out, hwn⟩
          simp only [Act.put, List.setIfInBounds_toArray, List.set_cons_zero, List.set_cons_succ]
      rintro ⟨nb, a3, c3⟩ w0 hfacts
      have P0 := Lib.hid hfacts.1
      have N0 := Lib.hid hfacts.2.1
      have O0 := Lib.hid hfacts.2.2.1
      have hwn := hfacts.2.2.2
      simp only [Act.put, List.setIfInBounds_toArray, List.set_cons_zero, List.set_cons_succ]
      clear hfacts
      go_wp2_with (first
        | ((with_reducible show wpList _ _ _ (Oper.mk (some 45) _ _ _ _ _ :: _) _ _); refine wpList_load_row rfl 76 (.tmp 9) rfl nb rfl 76 _ (0, 0) _ N0.out Try.underlying76 rfl (by kernel_rfl) ?_)
        | ((with_reducible show wpList _ _ _ (Oper.mk none (Op.store 76 _ _) _ _ _ _ :: _) _ _); refine wpList_store_own rfl 76 (.tmp 7) (.tmp 45) rfl wb #[.int .i64 (most : Int), .slice a3 (Nt.sendL most l m).length c3] rfl rfl 76 _ P0.out.want (by kernel_rfl) rfl (by kernel_rfl) ?_
           intro W6 HW6
           have P6 := Lib.hid (P0.out.list O0.out (Nt.sendL_ok P0.out.ok HOK.out) HW6)
           have HC6 := Lib.hid (fun i c hi => Ev.kp_below P6.out.bel _ _ (HC.out i c hi))
           have KC := Lib.hid (Nt.send_any m HOK.out W6 P6.out.net)
           clear HW6)
        | ((with_reducible show wpList _ _ _ (Oper.mk (some 50) _ _ _ _ _ :: _) _ _); refine wpList_load_at rfl 57 (.tmp 49) rfl ga (o + k * 20) rfl (Nt.cells m) _ HC6.out Try.underlying57 rfl (by rw [HOK.out.len]; exact Nt.size_msg) ?_)
        | (go_at_call 25; (with_reducible refine (Nt.num_any _ _).mono ?_); rintro e' W8 ⟨rfl, hw8⟩; subst hw8)
        | (go_at_call 31; (with_reducible refine KC.out.mono ?_); rintro e' W7 ⟨rfl, ht7⟩
           obtain ⟨F7, h7, hfr7, hk7⟩ := P6.out.turn ht7
           have P7 := Lib.hid h7
           have hne : (Nt.sendE most l m != Nt.sendE most l m) = false := by simp
           clear ht7 h7 hfr7 hk7))
      go_roundw
      case rel => exact ⟨k + 1, by omega, by go_num, F7, a3, c3, by rw [HPS.out]; exact P7.out⟩
      case measure => simp [intOf]; omega
    · have hki : ¬ (k : Int) < (xs.length : Int) := by omega
      have KI := Lib.hid (Nt.is_any most a c l wr PL.out.ls hll PL.out.net)
      go_wp2_with (first
        | (go_at_call 25; (with_reducible refine (Nt.num_any _ _).mono ?_); rintro e' W8 ⟨rfl, hw8⟩; subst hw8)
        | ((with_reducible show wpList _ _ _ (Oper.mk (some 60) _ _ _ _ _ :: _) _ _); refine Ev.load_row_g 76 (.tmp 7) rfl rfl wb rfl 76 _ (0, 0) _ PL.out.want Try.underlying76 rfl (by kernel_rfl) ?_)
        | (go_at_call 38; (with_reducible refine KI.out.mono ?_); rintro e' W8 ⟨rfl, hb⟩; have B8 := Lib.hid (PL.out.bel.trans (hb.mono PL.out.bel.size)); clear hb)
        | (go_at_call 28; (with_reducible refine (Nt.works_any _).mono ?_); rintro e' W9 ⟨rfl, hb⟩; have B9 := Lib.hid (B8.out.trans (hb.mono B8.out.size)); clear hb))
      go_ret
      exact ⟨rfl, B9.out⟩
/-! THE WALK: the Go text returns true; of memory nothing that stood there has turned. -/
set_option maxRecDepth 100000 in
set_option maxHeartbeats 400000 in
theorem walk (w : World) (a0 : Int) (w0 : (Lit.int .i64 a0).wf = true) (a1 : Option Addr) (n1 c1 : Nat) (x1 : List Nt.E) (l1 : x1.length = n1) (b1 : Nt.LsIn w a1 c1 x1) :
    Calls Try.prog 8 #[.int .i64 a0, .slice a1 n1 c1] w fun e w' => e = .returned (.bool true) ∧ Below w.heap.size w w' := by
  by_cases h : (1 ≤ a0 ∧ a0 ≤ 1024) ∧ n1 ≤ 100
  · obtain ⟨⟨h1, h2⟩, h3⟩ := h
    obtain ⟨k, rfl, h4, h5⟩ := Nt.may_nat h1 h2
    subst l1
    exact walk_good w k h4 h5 a1 c1 x1 b1 h3
  · exact walk_bad w a0 a1 n1 c1 (by omega)

/-! THE ROW -/
set_option maxRecDepth 100000 in
theorem lifted (os : Os) (started : os.Started) (H : Type) (enc : TypeId × Value → H) :
    ReturnsInHanded {} Try.checked os 8 .any (Rows.netSendsSpec.pre6 enc Try.prog Try.f8 Rows.netSendsRow.domain false) (Rows.netSendsSpec.post enc Try.prog Try.f8 false true false false) := by
  refine returnsInHanded_of_change (C := Try.checked) own started (by kernel_rfl) Try.func8
    (ChangeSpec.witness6 (enc := enc) (C := Try.checked) false ⟨#[], #[.int .i64 0, .slice none 0 0], []⟩ 8 (by kernel_rfl) (by kernel_rfl) (by kernel_rfl) (by kernel_rfl)) ?_
  intro W base args ds gs before hval0 hW hcnd _
  have hval : ∀ (j : Nat) t v, Try.f8.params[j]? = some t → args[j]? = some v → Value.okWide Try.prog W .any base t v := hval0
  have hW' := hW
  obtain ⟨p, q, hA0, hV, rfl, hfz, hnd⟩ := hW
  have hA : DataW.TrodAll enc Try.prog W 0 (fun _ => true) true Try.f8.params.toList args.toList ds p := hA0
  rw [Try.params8] at hA hval
  obtain ⟨v0, vs0, d0, ds0, p0, q0, hargs, rfl, rfl, h0, r0⟩ := trodAll_cons hA
  obtain ⟨v1, vs1, d1, ds1, p1, q1, rfl, rfl, rfl, h1, r1⟩ := trodAll_cons r0
  obtain ⟨rfl, rfl, rfl⟩ := trodAll_nil r1
  obtain rfl : args = #[v0, v1] := by cases args; simp_all
  obtain ⟨rfl, rfl⟩ := trodVars_none hV
  clear hA0 hval0
  simp only [List.append_nil] at hW'
  have hlt : ∀ x ∈ p0 ++ (p1), x.block < W.heap.size := fun x hx => by simpa using hW'.lt x (by simpa using hx)
  have h0k := h0
  obtain ⟨a0, rfl, rfl, rfl, w0⟩ := open_int Try.underlying3 (hval 0 3 v0 rfl rfl) h0
  obtain ⟨a1, n1, c1, rfl⟩ := okWide_slice Try.underlying68 (hval 1 68 v1 rfl rfl)
  obtain ⟨x1, l1, b1⟩ := open_msgs h1
  refine (walk W a0 w0 a1 n1 c1 x1 l1 b1).mono fun e W' ⟨he, hb⟩ => ?_
  subst he
  have harg0 : DataW.Trod enc Try.prog W' 0 (fun b => decide (b < W.heap.size)) true 3 _ _ _ := Below.trod laidOut (by kernel_rfl) (of_decide_eq_true (by kernel_rfl)) h0k hb (fun x hx => by cases hx)
  have harg1 : DataW.Trod enc Try.prog W' 0 (fun b => decide (b < W.heap.size)) true 68 _ _ _ := Below.trod laidOut (by kernel_rfl) (of_decide_eq_true (by kernel_rfl)) h1 hb (fun x hx => hlt x (by simp [hx]))
  exact ⟨_, rfl, _, _, _, [], _, [], hW', trodAll_mk1 (shut_bool Try.underlying4 _), (trodAll_cons_mk harg0 (trodAll_cons_mk harg1 trodAll_mk0)), rfl, hb.frame _, fun h => by cases h⟩

theorem over : Rows.netSendsRow.holds Try.pinned (OpenSpec.ofChange Rows.netSendsSpec) :=
  OpenClaim.holds_of_wide 8 Try.f8 rfl rfl rfl rfl rfl rfl rfl ⟨rfl, rfl, rfl, rfl, rfl⟩ rfl rfl rfl rfl rfl (by kernel_rfl) Try.func8 (by kernel_rfl)
    (of_decide_eq_true (by kernel_rfl)) (by unfold Func.isWrapper; first | (rw [if_pos (by decide +kernel)]; kernel_rfl) | (rw [if_neg (by decide +kernel)]; exact ⟨rfl, rfl⟩))
    (fun os started H enc _ => lifted os started H enc)

/-- THE STATEMENT -/
theorem proved : Rows.NetSendsSaid :=
  over
end Go.Proofs.Ytnfpcklpmfemiaa.netSends
