/-
  LinesPuts: for every input the statement's function returns true, with no condition; each argument reads behind the call as before. By contracts of the program's and the document's functions.
-/
import Derived.Test.YtifniogldinbdaaLnLaw
namespace Go.Proofs.Ytifniogldinbdaa.linesPuts
open Go.ChangeShapes Go.WideShapes Go.ChangeAt Go.RowKit
set_option linter.unusedVariables false
set_option linter.unusedSimpArgs false

set_option maxRecDepth 100000 in
set_option maxHeartbeats 4000000 in
theorem walk_bad (w : World) (a0 a1 : Int) (hs : Ev.i64B a0) (hw : Ev.i64B a1) (hm : Ln.mayB a0 a1 = false) (a2 : Option Addr) (n2 c2 : Nat) :
    Calls Try.prog 7 #[.int .i64 a0, .int .i64 a1, .slice a2 n2 c2] w fun e w' => e = .returned (.bool true) ∧ Below w.heap.size w w' := by
  have RG := Lib.hid (hm ▸ right_any a0 a1 hs hw w)
  clear hs hw
  go_enter Try.func7, Try.ntmps7
  go_wp2_with (first
    | (go_at_call 20; (with_reducible refine RG.out.mono ?_); rintro e W1 ⟨rfl, hw⟩; subst hw)
    | (go_at_call 21; (with_reducible refine (works_any _).mono ?_); rintro e W2 ⟨rfl, hb⟩; have B2 := Lib.hid hb; clear hb))
  go_ret
  exact ⟨rfl, B2.out⟩
set_option maxRecDepth 100000 in
set_option maxHeartbeats 4000000 in
theorem walk_long (w : World) (a0 a1 : Int) (hs : Ev.i64B a0) (hw : Ev.i64B a1) (hm : Ln.mayB a0 a1 = true) (a2 : Option Addr) (n2 c2 : Nat) (hn : (100 : Int) < (n2 : Int)) :
    Calls Try.prog 7 #[.int .i64 a0, .int .i64 a1, .slice a2 n2 c2] w fun e w' => e = .returned (.bool true) ∧ Below w.heap.size w w' := by
  have RG := Lib.hid (hm ▸ right_any a0 a1 hs hw w)
  clear hs hw
  go_enter Try.func7, Try.ntmps7
  go_wp2_with (first
    | (go_at_call 20; (with_reducible refine RG.out.mono ?_); rintro e W1 ⟨rfl, hw⟩; subst hw)
    | (go_at_call 21; (with_reducible refine (works_any _).mono ?_); rintro e W2 ⟨rfl, hb⟩; have B2 := Lib.hid hb; clear hb))
  go_ret
  exact ⟨rfl, B2.out⟩
set_option maxRecDepth 100000 in
set_option maxHeartbeats 8000000 in
theorem walk_good (w : World) (s ways : Nat) (hm : Ln.mayB s ways = true) (h0 : 0 < s) (h1 : s ≤ 64) (h2 : 0 < ways) (h3 : ways ≤ 8) (a2 : Option Addr) (c2 : Nat) (x2 : List Ln.E) (b2 : Ln.LsIn w a2 c2 x2) (hx : x2.length ≤ 100) :
    Calls Try.prog 7 #[.int .i64 (s : Int), .int .i64 (ways : Int), .slice a2 x2.length c2] w fun e w' => e = .returned (.bool true) ∧ Below w.heap.size w w' := by
  have RG := Lib.hid (hm ▸ right_any s ways (by unfold Ev.i64B; omega) (by unfold Ev.i64B; omega) w)
  have NW := Lib.hid (new_yes s ways hm w)
  have hn : ¬ (100 : Int) < (x2.length : Int) := by omega
  have HIN := Lib.hid b2
  have HRL := Lib.hid (fun k hk => Ln.putsL_rl (s := s) (ways := ways) h0 h1 h2 h3 b2.ok k hk)
  clear b2 hm
  go_enter Try.func7, Try.ntmps7
  go_wp2_with (first
    | (go_at_call 20; (with_reducible refine RG.out.mono ?_); rintro e W1 ⟨rfl, hw⟩; subst hw)
    | (go_at_call 10; (with_reducible refine NW.out.mono ?_); rintro e W1 ⟨p, rfl, hb1, F, hca, hf⟩
       have B1 := Lib.hid hb1; have CA := Lib.hid hca; have HF := Lib.hid hf
       clear hb1 hca hf))
  obtain ⟨wb, hwb⟩ : ∃ wb, wb = W1.heap.size := ⟨_, rfl⟩
  obtain ⟨W2, hW2⟩ : ∃ W2, W2 = W1.alloc (.cells #[.int .i64 (s : Int), .int .i64 (ways : Int), .slice none 0 0] 46) := ⟨_, rfl⟩
  rw [← hW2, ← hwb]
  have PL0 := Lib.hid (show Ln.Pl w W2 F p s ways wb (Ln.rows (Ln.putsL s ways (x2.take 0)) s) none 0 (Ln.putsL s ways (x2.take 0)) from by
    rw [hwb]; exact Ln.Pl.fresh0 CA.out B1.out HF.out hW2)
  clear hW2 hwb CA B1 HF
  go_loopw [10, 11, 12] (fun i _ _ wr => ∃ k : Nat, k ≤ x2.length ∧ i = .int .i64 (k : Int) ∧ ∃ F a c, Ln.Pl w wr F p s ways wb (Ln.rows (Ln.putsL s ways (x2.take k)) s) a c (Ln.putsL s ways (x2.take k))) (fun i _ _ _ => x2.length - (intOf i).toNat)
  case atStart => exact ⟨0, Nat.zero_le _, rfl, F, none, 0, PL0.out⟩
  case round =>
    obtain ⟨k, hk, rfl, F, a, c, hpl⟩ := hrel
    obtain ⟨l, hl⟩ : ∃ l, Ln.putsL s ways (x2.take k) = l := ⟨_, rfl⟩
    obtain ⟨hrl, hll⟩ := HRL.out k hk
    rw [hl] at hpl hrl hll
    have PL := Lib.hid hpl; have HL := Lib.hid hl; have RL := Lib.hid hrl
    have hll2 : l.length ≤ 100 := by omega
    clear hpl hl hrl
    by_cases hlt : k < x2.length
    · obtain ⟨m, hm⟩ : ∃ m, x2[k]? = some m := ⟨_, List.getElem?_eq_getElem hlt⟩
      have HOK := Lib.hid (HIN.out.ok_ hm)
      have HPS := Lib.hid (show Ln.putsL s ways (x2.take (k + 1)) = Ln.putRL s ways l m by rw [Ln.putsL_succ s ways hm, HL.out])
      obtain ⟨ga, o, ea, hc⟩ := HIN.out.at_ hm
      have HC := Lib.hid hc
      have hki : (k : Int) < (x2.length : Int) := by omega
      clear hm hc
      rw [ea]; clear ea
      go_wp2_with fail
      refine Og.region_post (fun A nb a3 c3 => (((((((((((A.put (some 39) (.agg #[.int .i64 (s : Int), .int .i64 (ways : Int), .slice a l.length c])).put (some 40) (.slice (some ⟨ga, o, none⟩) x2.length c2)).put (some 41) (.int .i64 (k : Int))).put (some 42) (.pointer (some ⟨ga, o + k * 18, none⟩))).put (some 43) (.agg (Ln.cells m).toArray)).put (some 44) (.tuple #[.agg #[.int .i64 (s : Int), .int .i64 (ways : Int), .slice a3 (Ln.putRL s ways l m).length c3], .int .i64 (Ln.putRE s ways l m)])).put (some 38) (.tuple #[.agg #[.int .i64 (s : Int), .int .i64 (ways : Int), .slice a3 (Ln.putRL s ways l m).length c3], .int .i64 (Ln.putRE s ways l m)])).put (some 45) (.agg #[.int .i64 (s : Int), .int .i64 (ways : Int), .slice a3 (Ln.putRL s ways l m).length c3])).put (some 46) (.int .i64 (Ln.putRE s ways l m))).put (some 11) (.pointer (some ⟨nb, 0, none⟩))).put (some 12) (.int .i64 (Ln.putRE s ways l m)))) (fun w' nb a3 c3 => Ln.Pl w w' F p s ways wb (Ln.rows l s) a c l ∧ w'.heap[nb]? = some (.cells #[.int .i64 (s : Int), .int .i64 (ways : Int), .slice a3 (Ln.putRL s ways l m).length c3] 46 (0, 0)) ∧ (w'.ownsRow w.heap.size 30 18 (.slice a3 (Ln.putRL s ways l m).length c3) (Ln.putRL s ways l m).length (Ln.flat (Ln.putRL s ways l m)) ∧ (∀ k, (Value.slice a3 (Ln.putRL s ways l m).length c3).ownBlock = some k → ¬ F k)) ∧ wb ≠ nb) ?_ ?_
      · obtain ⟨wq, hwq⟩ : ∃ wq, wq = { wr with drawn := wr.drawn + 1 } := ⟨_, rfl⟩
        have BQ := Lib.hid (show Below wr.heap.size wr wq by rw [hwq]; exact ⟨rfl, rfl, rfl, Nat.le_refl _, fun _ _ => rfl⟩)
        have HWQ := Lib.hid hwq
        clear hwq
        have PQ := Lib.hid (PL.out.kp BQ.out)
        have HCQ := Lib.hid (fun i c hi => Ev.kp_below PQ.out.bel _ _ (HC.out i c hi))
        have HFA := Lib.hid (show (fun x : World => x.heap[wb]? = some (.cells #[.int .i64 (s : Int), .int .i64 (ways : Int), .slice a l.length c] 46 (0, 0)) ∧ ∀ i c, (Ln.cells m)[i]? = some c → x.cell? ⟨ga, o + k * 18 + i, none⟩ = some c) wq from ⟨PQ.out.want, HCQ.out⟩)
        refine Og.region_S (S := Og.SF 5 (fun x : World => x.heap[wb]? = some (.cells #[.int .i64 (s : Int), .int .i64 (ways : Int), .slice a l.length c] 46 (0, 0)) ∧ ∀ i c, (Ln.cells m)[i]? = some c → x.cell? ⟨ga, o + k * 18 + i, none⟩ = some c)) (by kernel_rfl) ?_
        rw [← HWQ.out]
        refine Og.s_take 0 { dst := some 39, op := Go.Op.load 46 (Go.Operand.tmp 9), type := 46, pos := "near.go:17", after := #[], guard := none } (.agg #[.int .i64 (s : Int), .int .i64 (ways : Int), .slice a l.length c]) _ (by kernel_rfl) (by kernel_rfl) (by kernel_rfl) (by kernel_rfl) (by kernel_rfl) (fun _ _ _ h => nomatch h.1) (fun _ => HFA.out) (fun x' hx => ?_) (by simp only [Act.put, List.setIfInBounds_toArray, List.set_cons_zero, List.set_cons_succ]; rfl) ?_
        · exact Og.load_run 46 (.tmp 9) rfl ⟨wb, 0, none⟩ rfl (run_loadVar_row x' wb 46 46 #[.int .i64 (s : Int), .int .i64 (ways : Int), .slice a l.length c] (0, 0) _ (hx (by decide)).1 Try.underlying46 rfl (by kernel_rfl))
        refine Og.s_take 1 { dst := some 40, op := Go.Op.move (Go.Operand.tmp 2), type := 38, pos := "near.go:17", after := #[], guard := none } (.slice (some ⟨ga, o, none⟩) x2.length c2) _ (by kernel_rfl) (by kernel_rfl) (by kernel_rfl) (by kernel_rfl) (by kernel_rfl) (fun _ _ _ h => nomatch h.1) (fun _ => HFA.out) (fun x' hx => ?_) (by simp only [Act.put, List.setIfInBounds_toArray, List.set_cons_zero, List.set_cons_succ]; rfl) ?_
        · go_simp; try (with_reducible rfl)
        refine Og.s_take 2 { dst := some 41, op := Go.Op.move (Go.Operand.tmp 10), type := 3, pos := "near.go:17", after := #[], guard := none } (.int .i64 (k : Int)) _ (by kernel_rfl) (by kernel_rfl) (by kernel_rfl) (by kernel_rfl) (by kernel_rfl) (fun _ _ _ h => nomatch h.1) (fun _ => HFA.out) (fun x' hx => ?_) (by simp only [Act.put, List.setIfInBounds_toArray, List.set_cons_zero, List.set_cons_succ]; rfl) ?_
        · go_simp; try (with_reducible rfl)
        refine Og.s_take 3 { dst := some 42, op := Go.Op.indexAddr 38 (Go.Operand.tmp 40) (Go.Operand.tmp 41), type := 0, pos := "near.go:17", after := #[{ on := 1, ground := Go.Ground.data }, { on := 2, ground := Go.Ground.data }], guard := none } (.pointer (some ⟨ga, o + k * 18, none⟩)) _ (by kernel_rfl) (by kernel_rfl) (by kernel_rfl) (by kernel_rfl) (by kernel_rfl) (fun _ _ _ h => nomatch h.1) (fun _ => HFA.out) (fun x' hx => ?_) (by simp only [Act.put, List.setIfInBounds_toArray, List.set_cons_zero, List.set_cons_succ]; rfl) ?_
        · go_simp; try (with_reducible rfl)
        refine Og.s_take 4 { dst := some 43, op := Go.Op.load 30 (Go.Operand.tmp 42), type := 30, pos := "near.go:17", after := #[{ on := 3, ground := Go.Ground.data }], guard := none } (.agg (Ln.cells m).toArray) _ (by kernel_rfl) (by kernel_rfl) (by kernel_rfl) (by kernel_rfl) (by kernel_rfl) (fun _ _ _ h => nomatch h.1) (fun _ => HFA.out) (fun x' hx => ?_) (by simp only [Act.put, List.setIfInBounds_toArray, List.set_cons_zero, List.set_cons_succ]; rfl) ?_
        · exact Og.load_run 30 (.tmp 42) rfl ⟨ga, o + k * 18, none⟩ rfl (run_loadVar_at x' ga (o + k * 18) 30 (Ln.cells m) _ (hx (by decide)).2 Try.underlying30 rfl (by rw [HOK.out.len]; exact Ln.size_line))
        refine Og.s_two 5 9 { dst := some 44, op := Go.Op.call { callee := Go.Callee.value (Go.Operand.func 28), args := #[Go.Operand.tmp 39, Go.Operand.tmp 43], argTypes := #[46, 30] }, type := 61, pos := "near.go:17", after := #[{ on := 0, ground := Go.Ground.data }, { on := 4, ground := Go.Ground.data }], guard := none } { dst := some 11, op := Go.Op.alloc 46, type := 0, pos := "near.go:17", after := #[], guard := none } (by kernel_rfl) (by kernel_rfl) (by kernel_rfl) (by kernel_rfl) (by kernel_rfl) ?_ ?_
        · refine Og.call_to (w1 := wq) (f := 28) (args := #[.agg #[.int .i64 (s : Int), .int .i64 (ways : Int), .slice a l.length c], .agg (Ln.cells m).toArray]) (by go_simp) ?_
          refine (rput_any s ways a c l m HOK.out wq (PQ.out.rin RL.out (by omega))).mono ?_
          rintro e' W3 ⟨⟨a3, c3, rfl, ho3⟩, hb3⟩
          have P3 := Lib.hid (PQ.out.kp hb3)
          have O3 := Lib.hid (show W3.ownsRow w.heap.size 30 18 (.slice a3 (Ln.putRL s ways l m).length c3) (Ln.putRL s ways l m).length (Ln.flat (Ln.putRL s ways l m)) ∧ (∀ k, (Value.slice a3 (Ln.putRL s ways l m).length c3).ownBlock = some k → ¬ F k) from by
            rcases ho3 with ⟨e1, e2, e3⟩ | h3
            · rw [e1, e2, e3]; exact ⟨P3.out.own, P3.out.nf⟩
            · exact PQ.out.fresh h3)
          refine ⟨_, rfl, Og.keep_sf (fun h => ⟨P3.out.want, fun i c hi => Ev.kp_below hb3 _ _ (h.2 i c hi)⟩), ?_⟩
          clear hb3 ho3
          refine Og.s_take 6 { dst := some 38, op := Go.Op.move (Go.Operand.tmp 44), type := 61, pos := "near.go:17", after := #[{ on := 5, ground := Go.Ground.data }], guard := none } (.tuple #[.agg #[.int .i64 (s : Int), .int .i64 (ways : Int), .slice a3 (Ln.putRL s ways l m).length c3], .int .i64 (Ln.putRE s ways l m)]) _ (by kernel_rfl) (by kernel_rfl) (by kernel_rfl) (by kernel_rfl) (by kernel_rfl) (fun _ _ _ h => nomatch h.1) (fun h => absurd h (by decide)) (fun x' hx => ?_) (by simp only [Act.put, List.setIfInBounds_toArray, List.set_cons_zero, List.set_cons_succ]; rfl) ?_
          · go_simp; try (with_reducible rfl)
          refine Og.s_take 7 { dst := some 45, op := Go.Op.extract (Go.Operand.tmp 38) 0, type := 46, pos := "near.go:17", after := #[{ on := 6, ground := Go.Ground.data }], guard := none } (.agg #[.int .i64 (s : Int), .int .i64 (ways : Int), .slice a3 (Ln.putRL s ways l m).length c3]) _ (by kernel_rfl) (by kernel_rfl) (by kernel_rfl) (by kernel_rfl) (by kernel_rfl) (fun _ _ _ h => nomatch h.1) (fun h => absurd h (by decide)) (fun x' hx => ?_) (by simp only [Act.put, List.setIfInBounds_toArray, List.set_cons_zero, List.set_cons_succ]; rfl) ?_
          · go_simp; try (with_reducible rfl)
          refine Og.s_take 8 { dst := some 46, op := Go.Op.extract (Go.Operand.tmp 38) 1, type := 3, pos := "near.go:17", after := #[{ on := 6, ground := Go.Ground.data }, { on := 10, ground := Go.Ground.gcOnly Go.Departure.lateStores }], guard := none } (.int .i64 (Ln.putRE s ways l m)) _ (by kernel_rfl) (by kernel_rfl) (by kernel_rfl) (by kernel_rfl) (by kernel_rfl) (fun _ _ _ h => nomatch h.1) (fun h => absurd h (by decide)) (fun x' hx => ?_) (by simp only [Act.put, List.setIfInBounds_toArray, List.set_cons_zero, List.set_cons_succ]; rfl) ?_
          · go_simp; try (with_reducible rfl)
          refine Og.s_one 9 { dst := some 11, op := Go.Op.alloc 46, type := 0, pos := "near.go:17", after := #[], guard := none } (by kernel_rfl) (by kernel_rfl) (by kernel_rfl) ?_
          refine Og.run_to (v := .pointer (some ⟨W3.heap.size, 0, none⟩)) (w' := W3.alloc (.cells #[.int .i64 0, .int .i64 0, .slice none 0 0] 46)) (by go_simp) ?_
          obtain ⟨nb, hnb⟩ : ∃ nb, nb = W3.heap.size := ⟨_, rfl⟩
          obtain ⟨W4, hW4⟩ : ∃ W4, W4 = W3.alloc (.cells #[.int .i64 0, .int .i64 0, .slice none 0 0] 46) := ⟨_, rfl⟩
          have BA := Lib.hid (show Below W3.heap.size W3 W4 by rw [hW4]; exact (Below.refl W3.heap.size W3).alloc (Nat.le_refl _) _)
          have Z4 := Lib.hid (show W4.heap[nb]? = some (.cells #[.int .i64 0, .int .i64 0, .slice none 0 0] 46 (0, 0)) by rw [hW4, hnb]; exact heap_alloc_new _ _)
          rw [← hW4, ← hnb]
          refine ⟨Og.keep_sf (fun h => ⟨(BA.out.block _ (Array.getElem?_eq_some_iff.1 h.1).1).trans h.1, fun i c hi => Ev.kp_below BA.out _ _ (h.2 i c hi)⟩), ?_⟩
          have P4 := Lib.hid (P3.out.kp BA.out)
          have hwn : wb ≠ nb := by have := P3.out.wlt; omega
          refine Og.s_one 10 { dst := none, op := Go.Op.store 46 (Go.Operand.tmp 11) (Go.Operand.tmp 45), type := 0, pos := "near.go:17", after := #[{ on := 9, ground := Go.Ground.data }, { on := 7, ground := Go.Ground.data }, { on := 5, ground := Go.Ground.chain }, { on := 0, ground := Go.Ground.phase }, { on := 1, ground := Go.Ground.phase }, { on := 2, ground := Go.Ground.phase }, { on := 3, ground := Go.Ground.phase }, { on := 4, ground := Go.Ground.phase }, { on := 5, ground := Go.Ground.phase }, { on := 6, ground := Go.Ground.phase }, { on := 7, ground := Go.Ground.phase }, { on := 8, ground := Go.Ground.textOnly Go.Departure.lateStores }, { on := 9, ground := Go.Ground.phase }], guard := none } (by kernel_rfl) (by kernel_rfl) (by kernel_rfl) ?_
          refine Og.skip_to (w' := W4.setRow nb #[.int .i64 (s : Int), .int .i64 (ways : Int), .slice a3 (Ln.putRL s ways l m).length c3]) ?_ ⟨Og.keep_last (o := { dst := none, op := Go.Op.store 46 (Go.Operand.tmp 11) (Go.Operand.tmp 45), type := 0, pos := "near.go:17", after := #[{ on := 9, ground := Go.Ground.data }, { on := 7, ground := Go.Ground.data }, { on := 5, ground := Go.Ground.chain }, { on := 0, ground := Go.Ground.phase }, { on := 1, ground := Go.Ground.phase }, { on := 2, ground := Go.Ground.phase }, { on := 3, ground := Go.Ground.phase }, { on := 4, ground := Go.Ground.phase }, { on := 5, ground := Go.Ground.phase }, { on := 6, ground := Go.Ground.phase }, { on := 7, ground := Go.Ground.phase }, { on := 8, ground := Go.Ground.textOnly Go.Departure.lateStores }, { on := 9, ground := Go.Ground.phase }], guard := none }) (by kernel_rfl) (by kernel_rfl), ?_⟩
          · exact Og.row_to 46 (.tmp 11) (.tmp 45) rfl nb #[.int .i64 (s : Int), .int .i64 (ways : Int), .slice a3 (Ln.putRL s ways l m).length c3] rfl rfl 46 _ Z4.out (by kernel_rfl) rfl (by kernel_rfl)
          obtain ⟨w10, hw10⟩ : ∃ w10, w10 = W4.setRow nb #[.int .i64 (s : Int), .int .i64 (ways : Int), .slice a3 (Ln.putRL s ways l m).length c3] := ⟨_, rfl⟩
          have hs10 := Ev.set1 (cs := #[.int .i64 (s : Int), .int .i64 (ways : Int), .slice a3 (Ln.putRL s ways l m).length c3]) Z4.out rfl
          rw [← hw10] at hs10 ⊢
          have P10 := Lib.hid (P4.out.other hs10 (by have := P3.out.bel.size; omega) (fun h => by have := P3.out.cache.lt _ h; omega) (Ne.symm hwn) (fun h => by have := (P3.out.own.lt _ h).2; omega))
          have O4 := Ln.row_kept (Ln.row_kept O3.out.1 (fun j hj => BA.out.block j (O3.out.1.lt j hj).2)) (fun j hj => hs10.block j (by have := (O3.out.1.lt j hj).2; omega))
          have hr10 := hs10.row
          refine Og.s_take 11 { dst := some 12, op := Go.Op.assign (Go.Operand.tmp 46), type := 3, pos := "near.go:17", after := #[{ on := 8, ground := Go.Ground.data }, { on := 10, ground := Go.Ground.chain }, { on := 0, ground := Go.Ground.phase }, { on := 1, ground := Go.Ground.phase }, { on := 2, ground := Go.Ground.phase }, { on := 3, ground := Go.Ground.phase }, { on := 4, ground := Go.Ground.phase }, { on := 5, ground := Go.Ground.phase }, { on := 6, ground := Go.Ground.phase }, { on := 7, ground := Go.Ground.phase }, { on := 8, ground := Go.Ground.phase }, { on := 9, ground := Go.Ground.phase }, { on := 10, ground := Go.Ground.phase }], guard := none } (.int .i64 (Ln.putRE s ways l m)) _ (by kernel_rfl) (by kernel_rfl) (by kernel_rfl) (by kernel_rfl) (by kernel_rfl) (fun _ _ _ h => nomatch h.1) (fun h => absurd h (by decide)) (fun x' hx => ?_) (by simp only [Act.put, List.setIfInBounds_toArray, List.set_cons_zero, List.set_cons_succ]; rfl) ?_
          · go_simp; try (with_reducible rfl)
          refine Og.s_done (by kernel_rfl) ?_ _
          refine ⟨rfl, nb, a3, c3, ?_, P10.out, hr10, ⟨O4, O3.out.2⟩, hwn⟩
          simp only [Act.put, List.setIfInBounds_toArray, List.set_cons_zero, List.set_cons_succ]
        · refine Og.run_to (v := .pointer (some ⟨wq.heap.size, 0, none⟩)) (w' := wq.alloc (.cells #[.int .i64 0, .int .i64 0, .slice none 0 0] 46)) (by go_simp) ?_
          obtain ⟨nb, hnb⟩ : ∃ nb, nb = wq.heap.size := ⟨_, rfl⟩
          obtain ⟨W4, hW4⟩ : ∃ W4, W4 = wq.alloc (.cells #[.int .i64 0, .int .i64 0, .slice none 0 0] 46) := ⟨_, rfl⟩
          have BA := Lib.hid (show Below wq.heap.size wq W4 by rw [hW4]; exact (Below.refl wq.heap.size wq).alloc (Nat.le_refl _) _)
          have Z4 := Lib.hid (show W4.heap[nb]? = some (.cells #[.int .i64 0, .int .i64 0, .slice none 0 0] 46 (0, 0)) by rw [hW4, hnb]; exact heap_alloc_new _ _)
          rw [← hW4, ← hnb]
          refine ⟨Og.keep_sf (fun h => ⟨(BA.out.block _ (Array.getElem?_eq_some_iff.1 h.1).1).trans h.1, fun i c hi => Ev.kp_below BA.out _ _ (h.2 i c hi)⟩), ?_⟩
          have PA := Lib.hid (PQ.out.kp BA.out)
          have hwn : wb ≠ nb := by have := PQ.out.wlt; omega
          have hnl : nb < W4.heap.size := (Array.getElem?_eq_some_iff.1 Z4.out).1
          refine Og.s_one 5 { dst := some 44, op := Go.Op.call { callee := Go.Callee.value (Go.Operand.func 28), args := #[Go.Operand.tmp 39, Go.Operand.tmp 43], argTypes := #[46, 30] }, type := 61, pos := "near.go:17", after := #[{ on := 0, ground := Go.Ground.data }, { on := 4, ground := Go.Ground.data }], guard := none } (by kernel_rfl) (by kernel_rfl) (by kernel_rfl) ?_
          refine Og.call_to (w1 := W4) (f := 28) (args := #[.agg #[.int .i64 (s : Int), .int .i64 (ways : Int), .slice a l.length c], .agg (Ln.cells m).toArray]) (by go_simp) ?_
          refine (rput_any s ways a c l m HOK.out W4 (PA.out.rin RL.out (by omega))).mono ?_
          rintro e' W5 ⟨⟨a3, c3, rfl, ho3⟩, hb3⟩
          have P3 := Lib.hid (PA.out.kp hb3)
          have O3 := Lib.hid (show (W5.ownsRow w.heap.size 30 18 (.slice a3 (Ln.putRL s ways l m).length c3) (Ln.putRL s ways l m).length (Ln.flat (Ln.putRL s ways l m)) ∧ (∀ k, (Value.slice a3 (Ln.putRL s ways l m).length c3).ownBlock = some k → ¬ F k)) ∧ ∀ k, (Value.slice a3 (Ln.putRL s ways l m).length c3).ownBlock = some k → k ≠ nb from by
            rcases ho3 with ⟨e1, e2, e3⟩ | h3
            · rw [e1, e2, e3]; exact ⟨⟨P3.out.own, P3.out.nf⟩, fun k hk => by have := (PQ.out.own.lt k hk).2; omega⟩
            · exact ⟨PA.out.fresh h3, fun k hk => by have := (h3.lt k hk).1; omega⟩)
          have Z5 := Lib.hid ((hb3.block nb hnl).trans Z4.out)
          refine ⟨_, rfl, Og.keep_sf (fun h => ⟨P3.out.want, fun i c hi => Ev.kp_below hb3 _ _ (h.2 i c hi)⟩), ?_⟩
          clear hb3 ho3
          refine Og.s_take 6 { dst := some 38, op := Go.Op.move (Go.Operand.tmp 44), type := 61, pos := "near.go:17", after := #[{ on := 5, ground := Go.Ground.data }], guard := none } (.tuple #[.agg #[.int .i64 (s : Int), .int .i64 (ways : Int), .slice a3 (Ln.putRL s ways l m).length c3], .int .i64 (Ln.putRE s ways l m)]) _ (by kernel_rfl) (by kernel_rfl) (by kernel_rfl) (by kernel_rfl) (by kernel_rfl) (fun _ _ _ h => nomatch h.1) (fun h => absurd h (by decide)) (fun x' hx => ?_) (by simp only [Act.put, List.setIfInBounds_toArray, List.set_cons_zero, List.set_cons_succ]; rfl) ?_
          · go_simp; try (with_reducible rfl)
          refine Og.s_take 7 { dst := some 45, op := Go.Op.extract (Go.Operand.tmp 38) 0, type := 46, pos := "near.go:17", after := #[{ on := 6, ground := Go.Ground.data }], guard := none } (.agg #[.int .i64 (s : Int), .int .i64 (ways : Int), .slice a3 (Ln.putRL s ways l m).length c3]) _ (by kernel_rfl) (by kernel_rfl) (by kernel_rfl) (by kernel_rfl) (by kernel_rfl) (fun _ _ _ h => nomatch h.1) (fun h => absurd h (by decide)) (fun x' hx => ?_) (by simp only [Act.put, List.setIfInBounds_toArray, List.set_cons_zero, List.set_cons_succ]; rfl) ?_
          · go_simp; try (with_reducible rfl)
          refine Og.s_take 8 { dst := some 46, op := Go.Op.extract (Go.Operand.tmp 38) 1, type := 3, pos := "near.go:17", after := #[{ on := 6, ground := Go.Ground.data }, { on := 10, ground := Go.Ground.gcOnly Go.Departure.lateStores }], guard := none } (.int .i64 (Ln.putRE s ways l m)) _ (by kernel_rfl) (by kernel_rfl) (by kernel_rfl) (by kernel_rfl) (by kernel_rfl) (fun _ _ _ h => nomatch h.1) (fun h => absurd h (by decide)) (fun x' hx => ?_) (by simp only [Act.put, List.setIfInBounds_toArray, List.set_cons_zero, List.set_cons_succ]; rfl) ?_
          · go_simp; try (with_reducible rfl)
          refine Og.s_one 10 { dst := none, op := Go.Op.store 46 (Go.Operand.tmp 11) (Go.Operand.tmp 45), type := 0, pos := "near.go:17", after := #[{ on := 9, ground := Go.Ground.data }, { on := 7, ground := Go.Ground.data }, { on := 5, ground := Go.Ground.chain }, { on := 0, ground := Go.Ground.phase }, { on := 1, ground := Go.Ground.phase }, { on := 2, ground := Go.Ground.phase }, { on := 3, ground := Go.Ground.phase }, { on := 4, ground := Go.Ground.phase }, { on := 5, ground := Go.Ground.phase }, { on := 6, ground := Go.Ground.phase }, { on := 7, ground := Go.Ground.phase }, { on := 8, ground := Go.Ground.textOnly Go.Departure.lateStores }, { on := 9, ground := Go.Ground.phase }], guard := none } (by kernel_rfl) (by kernel_rfl) (by kernel_rfl) ?_
          refine Og.skip_to (w' := W5.setRow nb #[.int .i64 (s : Int), .int .i64 (ways : Int), .slice a3 (Ln.putRL s ways l m).length c3]) ?_ ⟨Og.keep_last (o := { dst := none, op := Go.Op.store 46 (Go.Operand.tmp 11) (Go.Operand.tmp 45), type := 0, pos := "near.go:17", after := #[{ on := 9, ground := Go.Ground.data }, { on := 7, ground := Go.Ground.data }, { on := 5, ground := Go.Ground.chain }, { on := 0, ground := Go.Ground.phase }, { on := 1, ground := Go.Ground.phase }, { on := 2, ground := Go.Ground.phase }, { on := 3, ground := Go.Ground.phase }, { on := 4, ground := Go.Ground.phase }, { on := 5, ground := Go.Ground.phase }, { on := 6, ground := Go.Ground.phase }, { on := 7, ground := Go.Ground.phase }, { on := 8, ground := Go.Ground.textOnly Go.Departure.lateStores }, { on := 9, ground := Go.Ground.phase }], guard := none }) (by kernel_rfl) (by kernel_rfl), ?_⟩
          · exact Og.row_to 46 (.tmp 11) (.tmp 45) rfl nb #[.int .i64 (s : Int), .int .i64 (ways : Int), .slice a3 (Ln.putRL s ways l m).length c3] rfl rfl 46 _ Z5.out (by kernel_rfl) rfl (by kernel_rfl)
          obtain ⟨w10, hw10⟩ : ∃ w10, w10 = W5.setRow nb #[.int .i64 (s : Int), .int .i64 (ways : Int), .slice a3 (Ln.putRL s ways l m).length c3] := ⟨_, rfl⟩
          have hs10 := Ev.set1 (cs := #[.int .i64 (s : Int), .int .i64 (ways : Int), .slice a3 (Ln.putRL s ways l m).length c3]) Z5.out rfl
          rw [← hw10] at hs10 ⊢
          have P10 := Lib.hid (P3.out.other hs10 (by have := PQ.out.bel.size; omega) (fun h => by have := PQ.out.cache.lt _ h; omega) (Ne.symm hwn) (fun h => by have := (PQ.out.own.lt _ h).2; omega))
          have O4 := Ln.row_kept O3.out.1.1 (fun j hj => hs10.block j (O3.out.2 j hj))
          have hr10 := hs10.row
          refine Og.s_take 11 { dst := some 12, op := Go.Op.assign (Go.Operand.tmp 46), type := 3, pos := "near.go:17", after := #[{ on := 8, ground := Go.Ground.data }, { on := 10, ground := Go.Ground.chain }, { on := 0, ground := Go.Ground.phase }, { on := 1, ground := Go.Ground.phase }, { on := 2, ground := Go.Ground.phase }, { on := 3, ground := Go.Ground.phase }, { on := 4, ground := Go.Ground.phase }, { on := 5, ground := Go.Ground.phase }, { on := 6, ground := Go.Ground.phase }, { on := 7, ground := Go.Ground.phase }, { on := 8, ground := Go.Ground.phase }, { on := 9, ground := Go.Ground.phase }, { on := 10, ground := Go.Ground.phase }], guard := none } (.int .i64 (Ln.putRE s ways l m)) _ (by kernel_rfl) (by kernel_rfl) (by kernel_rfl) (by kernel_rfl) (by kernel_rfl) (fun _ _ _ h => nomatch h.1) (fun h => absurd h (by decide)) (fun x' hx => ?_) (by simp only [Act.put, List.setIfInBounds_toArray, List.set_cons_zero, List.set_cons_succ]; rfl) ?_
          · go_simp; try (with_reducible rfl)
          refine Og.s_done (by kernel_rfl) ?_ _
          refine ⟨rfl, nb, a3, c3, ?_, P10.out, hr10, ⟨O4, O3.out.1.2⟩, hwn⟩
          simp only [Act.put, List.setIfInBounds_toArray, List.set_cons_zero, List.set_cons_succ]
      intro nb a3 c3 w0 hfacts
      have P0 := Lib.hid hfacts.1
      have N0 := Lib.hid hfacts.2.1
      have O0 := Lib.hid hfacts.2.2.1.1
      have F0 := Lib.hid hfacts.2.2.1.2
      have hwn := hfacts.2.2.2
      simp only [Act.put, List.setIfInBounds_toArray, List.set_cons_zero, List.set_cons_succ]
      clear hfacts
      have PW := P0.out.want
      go_wp2_with (first
        | ((with_reducible show wpList _ _ _ (Oper.mk (some 47) _ _ _ _ _ :: _) _ _); refine wpList_load_row rfl 46 (.tmp 11) rfl nb rfl 46 _ (0, 0) _ N0.out Try.underlying46 rfl (by kernel_rfl) ?_)
        | ((with_reducible show wpList _ _ _ (Oper.mk none (Op.store 46 _ _) _ _ _ _ :: _) _ _); refine wpList_store_own rfl 46 (.tmp 9) (.tmp 47) rfl wb #[.int .i64 (s : Int), .int .i64 (ways : Int), .slice a3 (Ln.putRL s ways l m).length c3] rfl rfl 46 _ P0.out.want (by kernel_rfl) rfl (by kernel_rfl) ?_
           intro W6 HW6
           have P6 := Lib.hid (P0.out.list O0.out F0.out HW6)
           have HC6 := Lib.hid (fun i c hi => Ev.kp_below P6.out.bel _ _ (HC.out i c hi))
           have KC := Lib.hid (Ln.put_rows HOK.out P6.out.cache RL.out)
           clear HW6)
        | ((with_reducible show wpList _ _ _ (Oper.mk (some 52) _ _ _ _ _ :: _) _ _); refine wpList_load_at rfl 30 (.tmp 51) rfl ga (o + k * 18) rfl (Ln.cells m) _ HC6.out Try.underlying30 rfl (by rw [HOK.out.len]; exact Ln.size_line) ?_)
        | (go_at_call 13; (with_reducible refine (num_any _ _).mono ?_); rintro e' W8 ⟨rfl, hw8⟩; subst hw8)
        | (go_at_call 14; (with_reducible refine KC.out.mono ?_); rintro e' W7 ⟨rfl, ht7⟩
           obtain ⟨F7, h7, hfr7, hk7⟩ := P6.out.turn ht7
           have P7 := Lib.hid h7
           have hne : (Ln.putRE s ways l m != Ln.putRE s ways l m) = false := by simp
           clear ht7 h7 hfr7 hk7))
      go_roundw
      case rel => exact ⟨k + 1, by omega, by go_num, F7, a3, c3, by rw [HPS.out]; exact P7.out⟩
      case measure => simp [intOf]; omega
    · have hki : ¬ (k : Int) < (x2.length : Int) := by omega
      have KI := Lib.hid (is_any s ways a c l wr (PL.out.rin RL.out (by omega)) RL.out PL.out.cache)
      go_wp2_with (first
        | (go_at_call 13; (with_reducible refine (num_any _ _).mono ?_); rintro e' W8 ⟨rfl, hw8⟩; subst hw8)
        | ((with_reducible show wpList _ _ _ (Oper.mk (some 62) _ _ _ _ _ :: _) _ _); refine Ev.load_row_g 46 (.tmp 9) rfl rfl wb rfl 46 _ (0, 0) _ PL.out.want Try.underlying46 rfl (by kernel_rfl) ?_)
        | (go_at_call 23; (with_reducible refine KI.out.mono ?_); rintro e' W8 ⟨rfl, hb⟩; have B8 := Lib.hid (PL.out.bel.trans (hb.mono PL.out.bel.size)); clear hb)
        | (go_at_call 21; (with_reducible refine (works_any _).mono ?_); rintro e' W9 ⟨rfl, hb⟩; have B9 := Lib.hid (B8.out.trans (hb.mono B8.out.size)); clear hb))
      go_ret
      exact ⟨rfl, B9.out⟩
/-! THE WALK: the Go text returns true; of memory nothing that stood there has turned. -/
set_option maxRecDepth 100000 in
set_option maxHeartbeats 8000000 in
theorem walk (w : World) (a0 : Int) (w0 : (Lit.int .i64 a0).wf = true) (a1 : Int) (w1 : (Lit.int .i64 a1).wf = true) (a2 : Option Addr) (n2 c2 : Nat) (x2 : List Ln.E) (l2 : x2.length = n2) (b2 : Ln.LsIn w a2 c2 x2) :
    Calls Try.prog 7 #[.int .i64 a0, .int .i64 a1, .slice a2 n2 c2] w fun e w' => e = .returned (.bool true) ∧ Below w.heap.size w w' := by
  cases hm : Ln.mayB a0 a1
  · exact walk_bad w a0 a1 (i64_of_wf w0) (i64_of_wf w1) hm a2 n2 c2
  · by_cases hn : (100 : Int) < (n2 : Int)
    · exact walk_long w a0 a1 (i64_of_wf w0) (i64_of_wf w1) hm a2 n2 c2 hn
    · obtain ⟨s, ways, rfl, rfl, h0, h1, h2, h3⟩ := Ln.may_nat hm
      subst l2
      exact walk_good w s ways hm h0 h1 h2 h3 a2 c2 x2 b2 (by omega)

/-! THE ROW -/
set_option maxRecDepth 100000 in
theorem lifted (os : Os) (started : os.Started) (H : Type) (enc : TypeId × Value → H) :
    ReturnsInHanded {} Try.checked os 7 .any (Rows.linesPutsSpec.pre6 enc Try.prog Try.f7 Rows.linesPutsRow.domain false) (Rows.linesPutsSpec.post enc Try.prog Try.f7 false true false false) := by
  refine returnsInHanded_of_change (C := Try.checked) own started (by kernel_rfl) Try.func7
    (ChangeSpec.witness6 (enc := enc) (C := Try.checked) false ⟨#[], #[.int .i64 0, .int .i64 0, .slice none 0 0], []⟩ 8 (by kernel_rfl) (by kernel_rfl) (by kernel_rfl) (by kernel_rfl)) ?_
  intro W base args ds gs before hval0 hW hcnd _
  have hval : ∀ (j : Nat) t v, Try.f7.params[j]? = some t → args[j]? = some v → Value.okWide Try.prog W .any base t v := hval0
  have hW' := hW
  obtain ⟨p, q, hA0, hV, rfl, hfz, hnd⟩ := hW
  have hA : DataW.TrodAll enc Try.prog W 0 (fun _ => true) true Try.f7.params.toList args.toList ds p := hA0
  rw [Try.params7] at hA hval
  obtain ⟨v0, vs0, d0, ds0, p0, q0, hargs, rfl, rfl, h0, r0⟩ := trodAll_cons hA
  obtain ⟨v1, vs1, d1, ds1, p1, q1, rfl, rfl, rfl, h1, r1⟩ := trodAll_cons r0
  obtain ⟨v2, vs2, d2, ds2, p2, q2, rfl, rfl, rfl, h2, r2⟩ := trodAll_cons r1
  obtain ⟨rfl, rfl, rfl⟩ := trodAll_nil r2
  obtain rfl : args = #[v0, v1, v2] := by cases args; simp_all
  obtain ⟨rfl, rfl⟩ := trodVars_none hV
  clear hA0 hval0
  simp only [List.append_nil] at hW'
  have hlt : ∀ x ∈ p0 ++ (p1 ++ (p2)), x.block < W.heap.size := fun x hx => by simpa using hW'.lt x (by simpa using hx)
  have h0k := h0
  obtain ⟨a0, rfl, rfl, rfl, w0⟩ := open_int Try.underlying3 (hval 0 3 v0 rfl rfl) h0
  have h1k := h1
  obtain ⟨a1, rfl, rfl, rfl, w1⟩ := open_int Try.underlying3 (hval 1 3 v1 rfl rfl) h1
  obtain ⟨a2, n2, c2, rfl⟩ := okWide_slice Try.underlying38 (hval 2 38 v2 rfl rfl)
  obtain ⟨x2, l2, b2⟩ := open_lines h2
  refine (walk W a0 w0 a1 w1 a2 n2 c2 x2 l2 b2).mono fun e W' ⟨he, hb⟩ => ?_
  subst he
  have harg0 : DataW.Trod enc Try.prog W' 0 (fun b => decide (b < W.heap.size)) true 3 _ _ _ := Below.trod laidOut (by kernel_rfl) (of_decide_eq_true (by kernel_rfl)) h0k hb (fun x hx => by cases hx)
  have harg1 : DataW.Trod enc Try.prog W' 0 (fun b => decide (b < W.heap.size)) true 3 _ _ _ := Below.trod laidOut (by kernel_rfl) (of_decide_eq_true (by kernel_rfl)) h1k hb (fun x hx => by cases hx)
  have harg2 : DataW.Trod enc Try.prog W' 0 (fun b => decide (b < W.heap.size)) true 38 _ _ _ := Below.trod laidOut (by kernel_rfl) (of_decide_eq_true (by kernel_rfl)) h2 hb (fun x hx => hlt x (by simp [hx]))
  exact ⟨_, rfl, _, _, _, [], _, [], hW', trodAll_mk1 (shut_bool Try.underlying4 _), (trodAll_cons_mk harg0 (trodAll_cons_mk harg1 (trodAll_cons_mk harg2 trodAll_mk0))), rfl, hb.frame _, fun h => by cases h⟩

theorem over : Rows.linesPutsRow.holds Try.pinned (OpenSpec.ofChange Rows.linesPutsSpec) :=
  OpenClaim.holds_of_wide 7 Try.f7 rfl rfl rfl rfl rfl rfl rfl ⟨rfl, rfl, rfl, rfl, rfl⟩ rfl rfl rfl rfl rfl (by kernel_rfl) Try.func7 (by kernel_rfl)
    (of_decide_eq_true (by kernel_rfl)) (by unfold Func.isWrapper; first | (rw [if_pos (by decide +kernel)]; kernel_rfl) | (rw [if_neg (by decide +kernel)]; exact ⟨rfl, rfl⟩))
    (fun os started H enc _ => lifted os started H enc)

/-- THE STATEMENT -/
theorem proved : Rows.LinesPutsSaid :=
  over
end Go.Proofs.Ytifniogldinbdaa.linesPuts
