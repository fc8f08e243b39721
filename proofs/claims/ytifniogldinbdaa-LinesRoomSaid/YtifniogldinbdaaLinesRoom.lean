/-
  LinesRoom: for every input the statement's function returns true, with no condition; each argument reads behind the call as before. By contracts of the program's and the document's functions.
-/
import Derived.Test.YtifniogldinbdaaLnRm
namespace Go.Proofs.Ytifniogldinbdaa.linesRoom
open Go.ChangeShapes Go.WideShapes Go.ChangeAt Go.RowKit
set_option linter.unusedVariables false
set_option linter.unusedSimpArgs false

set_option maxRecDepth 100000 in
set_option maxHeartbeats 4000000 in
theorem walk_bad (w : World) (a0 a1 : Int) (hs : Ev.i64B a0) (hw : Ev.i64B a1) (hm : Ln.mayB a0 a1 = false) (a2 : Option Addr) (n2 c2 : Nat) (y : Ln.Act) (pick : Int) :
    Calls Try.prog 9 #[.int .i64 a0, .int .i64 a1, .slice a2 n2 c2, .agg (Ln.acells y).toArray, .int .i64 pick] w fun e w' => e = .returned (.bool true) ∧ Below w.heap.size w w' := by
  obtain ⟨xb, hxb⟩ : ∃ xb, xb = w.heap.size := ⟨_, rfl⟩
  obtain ⟨W0, hW0⟩ : ∃ W0, W0 = w.alloc (.cells (Ln.acells y).toArray 56) := ⟨_, rfl⟩
  have HXB := Lib.hid hxb; have HW0 := Lib.hid hW0
  have B0 := Lib.hid (show Below w.heap.size w W0 by rw [hW0]; exact (Below.refl w.heap.size w).alloc (Nat.le_refl _) _)
  have X0 := Lib.hid (show W0.heap[xb]? = some (.cells (Ln.acells y).toArray 56 (0, 0)) by rw [hW0, hxb]; exact heap_alloc_new _ _)
  have xs0 : W0.cell? ⟨xb, 2, none⟩ = some (.int .i64 y.e.s) := by rw [cell_of_row _ _ _ _ _ _ X0.out]; rfl
  have RG := Lib.hid (hm ▸ right_any a0 a1 hs hw W0)
  clear hs hw hW0 hxb
  go_enter Try.func9, Try.ntmps9
  go_wp2_with (first
    | (go_at_call 20; rw [← HW0.out, ← HXB.out]; (with_reducible refine RG.out.mono ?_); rintro e W1 ⟨rfl, hw⟩; subst hw)
    | (go_at_call 21; (with_reducible refine (works_any _).mono ?_); rintro e W2 ⟨rfl, hb⟩; have B2 := Lib.hid (B0.out.trans (hb.mono B0.out.size)); clear hb))
  go_ret
  exact ⟨rfl, B2.out⟩
set_option maxRecDepth 100000 in
set_option maxHeartbeats 4000000 in
theorem walk_long (w : World) (a0 a1 : Int) (hs : Ev.i64B a0) (hw : Ev.i64B a1) (hm : Ln.mayB a0 a1 = true) (a2 : Option Addr) (n2 c2 : Nat) (y : Ln.Act) (pick : Int) (hn : (100 : Int) < (n2 : Int)) :
    Calls Try.prog 9 #[.int .i64 a0, .int .i64 a1, .slice a2 n2 c2, .agg (Ln.acells y).toArray, .int .i64 pick] w fun e w' => e = .returned (.bool true) ∧ Below w.heap.size w w' := by
  obtain ⟨xb, hxb⟩ : ∃ xb, xb = w.heap.size := ⟨_, rfl⟩
  obtain ⟨W0, hW0⟩ : ∃ W0, W0 = w.alloc (.cells (Ln.acells y).toArray 56) := ⟨_, rfl⟩
  have HXB := Lib.hid hxb; have HW0 := Lib.hid hW0
  have B0 := Lib.hid (show Below w.heap.size w W0 by rw [hW0]; exact (Below.refl w.heap.size w).alloc (Nat.le_refl _) _)
  have X0 := Lib.hid (show W0.heap[xb]? = some (.cells (Ln.acells y).toArray 56 (0, 0)) by rw [hW0, hxb]; exact heap_alloc_new _ _)
  have xs0 : W0.cell? ⟨xb, 2, none⟩ = some (.int .i64 y.e.s) := by rw [cell_of_row _ _ _ _ _ _ X0.out]; rfl
  have RG := Lib.hid (hm ▸ right_any a0 a1 hs hw W0)
  clear hs hw hW0 hxb
  go_enter Try.func9, Try.ntmps9
  go_wp2_with (first
    | (go_at_call 20; rw [← HW0.out, ← HXB.out]; (with_reducible refine RG.out.mono ?_); rintro e W1 ⟨rfl, hw⟩; subst hw)
    | (go_at_call 21; (with_reducible refine (works_any _).mono ?_); rintro e W2 ⟨rfl, hb⟩; have B2 := Lib.hid (B0.out.trans (hb.mono B0.out.size)); clear hb))
  go_ret
  exact ⟨rfl, B2.out⟩
set_option maxRecDepth 100000 in
set_option maxHeartbeats 4000000 in
theorem walk_low (w : World) (a0 a1 : Int) (hs : Ev.i64B a0) (hw : Ev.i64B a1) (hm : Ln.mayB a0 a1 = true) (a2 : Option Addr) (n2 c2 : Nat) (y : Ln.Act) (pick : Int) (hn : ¬ (100 : Int) < (n2 : Int)) (h1 : y.e.s < 1) :
    Calls Try.prog 9 #[.int .i64 a0, .int .i64 a1, .slice a2 n2 c2, .agg (Ln.acells y).toArray, .int .i64 pick] w fun e w' => e = .returned (.bool true) ∧ Below w.heap.size w w' := by
  obtain ⟨xb, hxb⟩ : ∃ xb, xb = w.heap.size := ⟨_, rfl⟩
  obtain ⟨W0, hW0⟩ : ∃ W0, W0 = w.alloc (.cells (Ln.acells y).toArray 56) := ⟨_, rfl⟩
  have HXB := Lib.hid hxb; have HW0 := Lib.hid hW0
  have B0 := Lib.hid (show Below w.heap.size w W0 by rw [hW0]; exact (Below.refl w.heap.size w).alloc (Nat.le_refl _) _)
  have X0 := Lib.hid (show W0.heap[xb]? = some (.cells (Ln.acells y).toArray 56 (0, 0)) by rw [hW0, hxb]; exact heap_alloc_new _ _)
  have xs0 : W0.cell? ⟨xb, 2, none⟩ = some (.int .i64 y.e.s) := by rw [cell_of_row _ _ _ _ _ _ X0.out]; rfl
  have RG := Lib.hid (hm ▸ right_any a0 a1 hs hw W0)
  clear hs hw hW0 hxb
  go_enter Try.func9, Try.ntmps9
  go_wp2_with (first
    | (go_at_call 20; rw [← HW0.out, ← HXB.out]; (with_reducible refine RG.out.mono ?_); rintro e W1 ⟨rfl, hw⟩; subst hw)
    | (go_at_call 21; (with_reducible refine (works_any _).mono ?_); rintro e W2 ⟨rfl, hb⟩; have B2 := Lib.hid (B0.out.trans (hb.mono B0.out.size)); clear hb))
  go_ret
  exact ⟨rfl, B2.out⟩
set_option maxRecDepth 100000 in
set_option maxHeartbeats 4000000 in
theorem walk_high (w : World) (a0 a1 : Int) (hs : Ev.i64B a0) (hw : Ev.i64B a1) (hm : Ln.mayB a0 a1 = true) (a2 : Option Addr) (n2 c2 : Nat) (y : Ln.Act) (pick : Int) (hn : ¬ (100 : Int) < (n2 : Int)) (h1 : ¬ y.e.s < 1) (h3 : 3 < y.e.s) :
    Calls Try.prog 9 #[.int .i64 a0, .int .i64 a1, .slice a2 n2 c2, .agg (Ln.acells y).toArray, .int .i64 pick] w fun e w' => e = .returned (.bool true) ∧ Below w.heap.size w w' := by
  obtain ⟨xb, hxb⟩ : ∃ xb, xb = w.heap.size := ⟨_, rfl⟩
  obtain ⟨W0, hW0⟩ : ∃ W0, W0 = w.alloc (.cells (Ln.acells y).toArray 56) := ⟨_, rfl⟩
  have HXB := Lib.hid hxb; have HW0 := Lib.hid hW0
  have B0 := Lib.hid (show Below w.heap.size w W0 by rw [hW0]; exact (Below.refl w.heap.size w).alloc (Nat.le_refl _) _)
  have X0 := Lib.hid (show W0.heap[xb]? = some (.cells (Ln.acells y).toArray 56 (0, 0)) by rw [hW0, hxb]; exact heap_alloc_new _ _)
  have xs0 : W0.cell? ⟨xb, 2, none⟩ = some (.int .i64 y.e.s) := by rw [cell_of_row _ _ _ _ _ _ X0.out]; rfl
  have RG := Lib.hid (hm ▸ right_any a0 a1 hs hw W0)
  clear hs hw hW0 hxb
  go_enter Try.func9, Try.ntmps9
  go_wp2_with (first
    | (go_at_call 20; rw [← HW0.out, ← HXB.out]; (with_reducible refine RG.out.mono ?_); rintro e W1 ⟨rfl, hw⟩; subst hw)
    | (go_at_call 21; (with_reducible refine (works_any _).mono ?_); rintro e W2 ⟨rfl, hb⟩; have B2 := Lib.hid (B0.out.trans (hb.mono B0.out.size)); clear hb))
  go_ret
  exact ⟨rfl, B2.out⟩
set_option maxRecDepth 100000 in
set_option maxHeartbeats 16000000 in
theorem walk_good (w : World) (s ways : Nat) (hm : Ln.mayB s ways = true) (h0 : 0 < s) (h1 : s ≤ 64) (h2 : 0 < ways) (h3 : ways ≤ 8) (a2 : Option Addr) (c2 : Nat) (x2 : List Ln.Act) (b2 : Ln.AsIn w a2 c2 x2) (hx : x2.length ≤ 100) (y : Ln.Act) (hy : Ln.AOk y) (hst : 1 ≤ y.e.s ∧ y.e.s ≤ 3) (pick : Int) (hp : Ev.i64B pick) :
    Calls Try.prog 9 #[.int .i64 (s : Int), .int .i64 (ways : Int), .slice a2 x2.length c2, .agg (Ln.acells y).toArray, .int .i64 pick] w fun e w' => e = .returned (.bool true) ∧ Below w.heap.size w w' := by
  obtain ⟨xb, hxb⟩ : ∃ xb, xb = w.heap.size := ⟨_, rfl⟩
  obtain ⟨W0, hW0⟩ : ∃ W0, W0 = w.alloc (.cells (Ln.acells y).toArray 56) := ⟨_, rfl⟩
  have HXB := Lib.hid hxb; have HW0 := Lib.hid hW0
  have B0 := Lib.hid (show Below w.heap.size w W0 by rw [hW0]; exact (Below.refl w.heap.size w).alloc (Nat.le_refl _) _)
  have X0 := Lib.hid (show W0.heap[xb]? = some (.cells (Ln.acells y).toArray 56 (0, 0)) by rw [hW0, hxb]; exact heap_alloc_new _ _)
  have xs0 : W0.cell? ⟨xb, 2, none⟩ = some (.int .i64 y.e.s) := by rw [cell_of_row _ _ _ _ _ _ X0.out]; rfl
  have RG := Lib.hid (hm ▸ right_any s ways (by unfold Ev.i64B; omega) (by unfold Ev.i64B; omega) W0)
  have NW := Lib.hid (new_yes s ways hm W0)
  have HIN := Lib.hid (show Ln.AsIn W0 a2 c2 x2 from ⟨b2.rows.kp (Ev.kp_below B0.out), b2.ok, b2.le, b2.max⟩)
  have HRL := Lib.hid (fun k hk => Ln.playL_rl (s := s) (ways := ways) h0 h1 h2 h3 b2.ok k hk)
  have hng : ¬ (100 : Int) < (x2.length : Int) := by omega
  have hs1 : ¬ y.e.s < 1 := by omega
  have hs3 : ¬ 3 < y.e.s := by omega
  have HH := Lib.hid ((Ln.held_iff y.e.s).2 hst)
  have HY := Lib.hid hy.e; have HP := Lib.hid hp
  clear b2 hm hW0 hxb hy hp hst
  go_enter Try.func9, Try.ntmps9
  go_wp2_with (first
    | (go_at_call 20; rw [← HW0.out, ← HXB.out]; (with_reducible refine RG.out.mono ?_); rintro e W1 ⟨rfl, hw⟩; subst hw)
    | (go_at_call 10; (with_reducible refine NW.out.mono ?_); rintro e W1 ⟨p, rfl, hb1, F, hca, hf⟩
       have C1 := Lib.hid (show Ln.Cl W0 W1 F p s ways (Ln.playL s ways (x2.take 0)) from by
         have hr : List.replicate s ([] : List Ln.E) = Ln.rows [] s := by
           apply List.ext_getElem?
           intro j
           unfold Ln.rows
           rw [List.getElem?_map, List.getElem?_replicate]
           by_cases hj : j < s
           · rw [if_pos hj, List.getElem?_range hj]; rfl
           · rw [if_neg hj, List.getElem?_eq_none (by simp; omega)]; rfl
         rw [hr] at hca
         exact ⟨hca, hb1, hf⟩)
       clear hb1 hca hf))
  clear xs0
  go_loopw [13] (fun i wr => ∃ k : Nat, k ≤ x2.length ∧ i = .int .i64 (k : Int) ∧ ∃ F, Ln.Cl W0 wr F p s ways (Ln.playL s ways (x2.take k))) (fun i _ => x2.length - (intOf i).toNat)
  case atStart => exact ⟨0, Nat.zero_le _, rfl, F, C1.out⟩
  case round =>
    obtain ⟨k, hk, rfl, F, hcl⟩ := hrel
    obtain ⟨l, hl⟩ : ∃ l, Ln.playL s ways (x2.take k) = l := ⟨_, rfl⟩
    obtain ⟨hrl, hll⟩ := HRL.out k hk
    rw [hl] at hcl hrl hll
    have CL := Lib.hid hcl; have HL := Lib.hid hl; have RL := Lib.hid hrl
    have hll2 : l.length ≤ 100 := by omega
    clear hcl hl hrl
    by_cases hlt : k < x2.length
    · obtain ⟨x, hx⟩ : ∃ x, x2[k]? = some x := ⟨_, List.getElem?_eq_getElem hlt⟩
      have HAO := Lib.hid (HIN.out.ok x (List.mem_of_getElem? hx))
      have HPS := Lib.hid (show Ln.playL s ways (x2.take (k + 1)) = Ln.stepL s ways l x by rw [Ln.playL_succ s ways hx, HL.out])
      obtain ⟨ga, o, ea, hc⟩ := HIN.out.at_ hx
      have HC := Lib.hid (fun i c hi => Ev.kp_below CL.out.bel _ _ (hc i c hi))
      have x0 : wr.cell? ⟨ga, o + k * 19, none⟩ = some (.int .i64 x.k) := HC.out 0 _ rfl
      have x1 : wr.cell? ⟨ga, o + k * 19 + 1, none⟩ = some (.int .u32 x.e.n) := HC.out 1 _ rfl
      have HCE := Lib.hid (show ∀ i c, (Ln.cells x.e)[i]? = some c → wr.cell? ⟨ga, o + k * 19 + 1 + i, none⟩ = some c from fun i c hi => by
        have := HC.out (i + 1) c (by unfold Ln.acells; rw [List.getElem?_cons_succ]; exact hi)
        rw [show o + k * 19 + 1 + i = o + k * 19 + (i + 1) by omega]; exact this)
      have hki : (k : Int) < (x2.length : Int) := by omega
      clear hx hc
      rw [ea]; clear ea
      by_cases hk0 : x.k = 0
      · have HST := Lib.hid (show Ln.playL s ways (x2.take (k + 1)) = Ln.putRL s ways l x.e by rw [HPS.out]; unfold Ln.stepL; rw [if_pos hk0])
        have hkb : (x.k != 0) = false := by rw [hk0]; rfl
        have KC := Lib.hid (Ln.put_rows HAO.out.e CL.out.cache RL.out)
        go_wp2_with (first
          | ((with_reducible show wpList _ _ _ (Oper.mk (some 77) _ _ _ _ _ :: _) _ _); refine wpList_load_at rfl 30 (.tmp 76) rfl ga (o + k * 19 + 1) rfl (Ln.cells x.e) _ HCE.out Try.underlying30 rfl (by rw [HAO.out.e.len]; exact Ln.size_line) ?_)
          | (go_at_call 14; (with_reducible refine KC.out.mono ?_); rintro e' W7 ⟨rfl, ht7⟩
             obtain ⟨F7, h7, hfr7, hk7⟩ := CL.out.turn ht7
             have C7 := Lib.hid h7
             clear ht7 h7 hfr7 hk7))
        go_roundw
        case rel => exact ⟨k + 1, by omega, by go_num, F7, by rw [HST.out]; exact C7.out⟩
        case measure => simp [intOf]; omega
      · have HST := Lib.hid (show Ln.playL s ways (x2.take (k + 1)) = Ln.dropL l x.e.n by rw [HPS.out]; unfold Ln.stepL; rw [if_neg hk0])
        have hkb : (x.k != 0) = true := by simpa using hk0
        have KC := Lib.hid (Ln.drop_rows HAO.out.e.n CL.out.cache RL.out)
        go_wp2_with (go_at_call 15; (with_reducible refine KC.out.mono ?_); rintro e' W7 ⟨rfl, ht7⟩
                     obtain ⟨F7, h7, hfr7, hk7⟩ := CL.out.turn ht7
                     have C7 := Lib.hid h7
                     clear ht7 h7 hfr7 hk7)
        go_roundw
        case rel => exact ⟨k + 1, by omega, by go_num, F7, by rw [HST.out]; exact C7.out⟩
        case measure => simp [intOf]; omega
    · have hki : ¬ (k : Int) < (x2.length : Int) := by omega
      have X1 := Lib.hid ((CL.out.bel.block xb (Array.getElem?_eq_some_iff.1 X0.out).1).trans X0.out)
      obtain ⟨wl, hwl⟩ : ∃ wl, (Ln.rows l s).flatten = wl := ⟨_, rfl⟩
      have KA := Lib.hid (hwl ▸ gather_any wr CL.out.cache)
      have HWL := Lib.hid (fun m (h : m ∈ wl) => Ln.flat_mem (l := l) (s := s) (hwl ▸ h))
      have hwll : wl.length ≤ 100 := by rw [← hwl, Ln.flat_rows_len l s h0]; omega
      clear hwl
      unfold Ln.Told at KA
      go_wp2_with (first
        | (go_at_call 17; (with_reducible refine KA.out.mono ?_); rintro e' W2 ⟨wa, wc, rfl, ho2, hok2, hb2⟩
           have C2 := Lib.hid (CL.out.kp hb2)
           have X2 := Lib.hid ((hb2.block xb (Array.getElem?_eq_some_iff.1 X1.out).1).trans X1.out)
           have LX2 := Lib.hid (Ln.line_of_act X2.out)
           have OW2 := Lib.hid ho2; have OKW := Lib.hid hok2
           have KP := Lib.hid (Ln.put_rows HY.out C2.out.cache RL.out)
           clear ho2 hok2 hb2)
        | ((with_reducible show wpList _ _ _ (Oper.mk (some 83) _ _ _ _ _ :: _) _ _); refine wpList_load_at rfl 30 (.tmp 82) rfl xb 1 rfl (Ln.cells y.e) _ LX2.out Try.underlying30 rfl (by rw [HY.out.len]; exact Ln.size_line) ?_)
        | (go_at_call 14; (with_reducible refine KP.out.mono ?_); rintro e' W3 ⟨rfl, ht3⟩
           obtain ⟨F3, h3, hfr3, hk3⟩ := C2.out.turn ht3
           have C3 := Lib.hid h3
           have FR3 := Lib.hid hfr3; have FK3 := Lib.hid hk3; have FF2 := Lib.hid C2.out.lo
           clear ht3 h3 hfr3 hk3)
        | ((with_reducible show wpList _ _ _ (Oper.mk (some 85) _ _ _ _ _ :: _) _ _); refine Ln.wpList_val (v := .agg (Ln.cells Ln.E0).toArray) rfl (by kernel_rfl) ?_)
        | ((with_reducible show wpList _ _ _ (Oper.mk none (Op.store 30 _ _) _ _ _ _ :: _) _ _); refine wpList_store_own rfl 30 (.tmp 16) (.tmp 85) rfl W3.heap.size (Ln.cells Ln.E0).toArray rfl rfl 30 _ (heap_alloc_new W3 _) (by rw [Ln.E0_ok.size]; exact Ln.size_line) (by rw [Ln.E0_ok.size]; rfl) (Ln.cells_all Ln.E0) ?_
           intro W4 HW4
           have B34 := Lib.hid (show Below W3.heap.size W3 W4 from ((Below.refl W3.heap.size W3).alloc (Nat.le_refl _) _).trans HW4.below)
           have G4 := Lib.hid HW4.row
           clear HW4
           refine Ln.Stop.out ?_))
      refine ⟨?_⟩
      obtain ⟨gb, hgb⟩ : ∃ gb, gb = W3.heap.size := ⟨_, rfl⟩
      rw [← hgb] at G4 ⊢
      have nfw : ∀ k, (Value.slice wa wl.length wc).ownBlock = some k → k < W2.heap.size ∧ ¬ F k ∧ W0.heap.size ≤ k := fun k hk => by
        have q1 := OW2.out.lt k hk
        have q2 := CL.out.bel.size
        exact ⟨q1.2, fun hF => by have := CL.out.cache.lt k hF; omega, by omega⟩
      have RM := Lib.hid (show Ln.Rm W0 W4 F3 p s ways (Ln.putRL s ways l y.e) wa wc wl gb Ln.E0 from by
        refine ⟨C3.out.kp B34.out, Ln.own_mono (Ln.row_kept OW2.out (fun k hk => (B34.out.block k (Nat.lt_of_lt_of_le (nfw k hk).1 FR3.out.size)).trans (FR3.out.block k (nfw k hk).1 (nfw k hk).2.1))) CL.out.bel.size, fun k hk => ⟨fun hF => ?_, ?_⟩, G4.out, fun hF => ?_, ?_⟩
        · rcases FK3.out k hF with h4 | h4
          · exact (nfw k hk).2.1 h4
          · have := (nfw k hk).1; omega
        · have := (nfw k hk).1; have := FR3.out.size; omega
        · have := C3.out.cache.lt gb hF; omega
        · rw [hgb]; exact C3.out.bel.size)
      clear hgb nfw OW2 FR3 FK3 FF2 B34 G4 C3 C2 KA KP X2 LX2 X1 CL
      rcases Ln.putRE_two (s := s) (ways := ways) (l := l) HH.out with hpe | hpe
      · rw [hpe]
        have FS1 := Lib.hid (Ln.put_self HH.out hpe)
        have FS2 := Lib.hid (fun m (hm : m ∈ wl) (h1 : m.n ≠ y.e.n) (h2 : m ≠ Ln.E0) => show Ln.fd (Ln.putRL s ways l y.e) m.n = some m from (Ln.put_other h1).trans (Ln.fd_mem RL.out.nd (HWL.out m hm)))
        have RL1 := Lib.hid (RL.out.put HY.out).1
        obtain ⟨l1, hl1⟩ : ∃ l1, Ln.putRL s ways l y.e = l1 := ⟨_, rfl⟩
        rw [hl1] at FS1 RL1 RM
        have FS2 := Lib.hid (fun m hm h1 h2 => hl1 ▸ FS2.out m hm h1 h2)
        obtain ⟨mg, hmg⟩ : ∃ mg, mg = Ln.E0 := ⟨_, rfl⟩
        have OMG := Lib.hid (show Ln.Ok mg by rw [hmg]; exact Ln.E0_ok)
        rw [← hmg] at RM
        have FS2 := Lib.hid (fun m hm h1 (h2 : m ≠ mg) => FS2.out m hm h1 (hmg ▸ h2))
        clear hmg
        have XZ := Lib.hid ((RM.out.cl.bel.block xb (Array.getElem?_eq_some_iff.1 X0.out).1).trans X0.out)
        have xn : W4.cell? ⟨xb, 1, none⟩ = some (.int .u32 y.e.n) := by rw [cell_of_row _ _ _ _ _ _ XZ.out]; rfl
        have KF := Lib.hid (Ln.find_rows HY.out.n RM.out.cl.cache RL1.out)
        rw [FS1.out] at KF
        simp only [Option.getD_some, Option.isSome_some] at KF
        go_wp2_with (first
          | (go_at_call 13; (with_reducible refine (num_any _ _).mono ?_); rintro e' W8 ⟨rfl, hw8⟩; subst hw8)
          | (go_at_call 11; (with_reducible refine KF.out.mono ?_); rintro e' WA ⟨rfl, hba⟩
             have RA := Lib.hid (RM.out.kp hba)
             clear hba)
          | ((with_reducible show wpList _ _ _ (Oper.mk none (Op.store 30 _ _) _ _ _ _ :: _) _ _); refine wpList_store_own rfl 30 (.tmp 19) (.tmp 132) rfl WA.heap.size (Ln.cells y.e).toArray rfl rfl 30 #[.int .u32 0, .int .i64 0, .int .u8 0, .int .u8 0, .int .u8 0, .int .u8 0, .int .u8 0, .int .u8 0, .int .u8 0, .int .u8 0, .int .u8 0, .int .u8 0, .int .u8 0, .int .u8 0, .int .u8 0, .int .u8 0, .int .u8 0, .int .u8 0] (heap_alloc_new WA _) (by rw [HY.out.size]; exact Ln.size_line) (by rw [HY.out.size]; rfl) (Ln.cells_all y.e) ?_
             intro WB HWB
             have RB := Lib.hid (RA.out.kp (show Below WA.heap.size WA WB from ((Below.refl WA.heap.size WA).alloc (Nat.le_refl _) _).trans HWB.below))
             have YB := Lib.hid HWB.row
             clear HWB
             refine Ln.Stop.out ?_))
        refine ⟨?_⟩
        obtain ⟨fb, hfb⟩ : ∃ fb, fb = WA.heap.size := ⟨_, rfl⟩
        rw [← hfb] at YB ⊢
        clear hfb KF RM RA xn
        have XB := Lib.hid ((RB.out.cl.bel.block xb (Array.getElem?_eq_some_iff.1 X0.out).1).trans X0.out)
        have LXB := Lib.hid (Ln.line_of_act XB.out)
        go_wp2_with (first
          | (go_at_call 13; (with_reducible refine (num_any _ _).mono ?_); rintro e' W8 ⟨rfl, hw8⟩; subst hw8)
          | ((with_reducible show wpList _ _ _ (Oper.mk (some 141) _ _ _ _ _ :: _) _ _); refine Ev.load_row_g 30 (.tmp 19) rfl rfl fb rfl 30 (Ln.cells y.e).toArray (0, 0) _ YB.out Try.underlying30 rfl (by rw [HY.out.size]; exact Ln.size_line) ?_)
          | ((with_reducible show wpList _ _ _ (Oper.mk (some 143) _ _ _ _ _ :: _) _ _); refine Ln.wpList_val_g rfl (Og.load_run 30 (.tmp 142) rfl ⟨xb, 1, none⟩ rfl (run_loadVar_at _ xb 1 30 (Ln.cells y.e) _ LXB.out Try.underlying30 rfl (by rw [HY.out.len]; exact Ln.size_line))) ?_)
          | ((with_reducible show wpList _ _ _ (Oper.mk (some 144) _ _ _ _ _ :: _) _ _); refine Ln.wpList_val_g rfl (Ln.neq_op (a := y.e) (b := y.e) (.tmp 141) (.tmp 143) rfl HY.out HY.out rfl rfl false (by rw [Ln.eqL_self HY.out]; rfl) _) ?_))
        go_loopw [21, 22, 23] (fun i _ _ wr => ∃ k : Nat, k ≤ wl.length ∧ i = .int .i64 (k : Int) ∧ Below WB.heap.size WB wr) (fun i _ _ _ => wl.length - (intOf i).toNat)
        case atStart => exact ⟨0, Nat.zero_le _, rfl, Below.refl _ _⟩
        case round =>
          obtain ⟨j, hj, rfl, hbl⟩ := hrel
          have BL := Lib.hid hbl; clear hbl
          have R2 := Lib.hid (RB.out.kp BL.out)
          by_cases hlj : j < wl.length
          · obtain ⟨m, hmj⟩ : ∃ m, wl[j]? = some m := ⟨_, List.getElem?_eq_getElem hlj⟩
            have hmm := List.mem_of_getElem? hmj
            obtain ⟨wa', wc', e1, hls⟩ := Ln.own_in R2.out.own OKW.out
            obtain ⟨rfl, rfl⟩ : wa = wa' ∧ wc = wc' := by injection e1 with e1 _ e3; exact ⟨e1, e3⟩
            obtain ⟨gz, oz, eaz, hce⟩ := hls.at_ hmj
            have OM := Lib.hid (OKW.out m hmm)
            have HCM := Lib.hid hce
            have hji : (j : Int) < (wl.length : Int) := by omega
            obtain ⟨m1, z1, t1, f1, f2, f3, f4, f5⟩ := Ln.fd_cases RL1.out.ok m.n
            have F1 := Lib.hid f1; have F2 := Lib.hid f2; have O1 := Lib.hid f4
            have FSM := Lib.hid (show m.n ≠ y.e.n → m ≠ mg → m1 = m ∧ z1 = true from fun q1 q2 => by
              have := FS2.out m hmm q1 q2
              rw [this] at f1 f2
              exact ⟨f1.symm, f2.symm⟩)
            have KFM := Lib.hid (Ln.find_rows OM.out.n R2.out.cl.cache RL1.out)
            rw [F1.out, F2.out] at KFM
            have xm : wr.cell? ⟨gz, oz + j * 18, none⟩ = some (.int .u32 m.n) := by have := hce 0 _ (Ln.cell0 m); rw [Nat.add_zero] at this; exact this
            clear f1 f2 f3 f4 f5 hce hls e1 hmm hmj
            subst eaz
            go_wp2_with (first
              | (go_at_call 11; (with_reducible refine KFM.out.mono ?_); rintro e' WC ⟨rfl, hbc⟩; have BC := Lib.hid hbc; clear hbc)
              | ((with_reducible show wpList _ _ _ (Oper.mk none (Op.store 30 _ _) _ _ _ _ :: _) _ _); refine wpList_store_own rfl 30 (.tmp 22) (.tmp 164) rfl WC.heap.size (Ln.cells m1).toArray rfl rfl 30 #[.int .u32 0, .int .i64 0, .int .u8 0, .int .u8 0, .int .u8 0, .int .u8 0, .int .u8 0, .int .u8 0, .int .u8 0, .int .u8 0, .int .u8 0, .int .u8 0, .int .u8 0, .int .u8 0, .int .u8 0, .int .u8 0, .int .u8 0, .int .u8 0] (heap_alloc_new WC _) (by rw [O1.out.size]; exact Ln.size_line) (by rw [O1.out.size]; rfl) (Ln.cells_all m1) ?_
                 intro WD HWD
                 have BD := Lib.hid (show Below wr.heap.size wr WD from BC.out.trans ((((Below.refl WC.heap.size WC).alloc (Nat.le_refl _) _).trans HWD.below).mono BC.out.size))
                 have YD := Lib.hid HWD.row
                 clear HWD
                 refine Ln.Stop.out ?_))
            refine ⟨?_⟩
            obtain ⟨yb, hyb⟩ : ∃ yb, yb = WC.heap.size := ⟨_, rfl⟩
            rw [← hyb] at YD ⊢
            clear hyb xm KFM BC
            have RD := Lib.hid (R2.out.kp BD.out)
            have BLD := Lib.hid (BL.out.trans (BD.out.mono BL.out.size))
            have XD := Lib.hid ((RD.out.cl.bel.block xb (Array.getElem?_eq_some_iff.1 X0.out).1).trans X0.out)
            have xyn : WD.cell? ⟨xb, 1, none⟩ = some (.int .u32 y.e.n) := by rw [cell_of_row _ _ _ _ _ _ XD.out]; rfl
            have HCD := Lib.hid (fun i c hi => Ev.kp_below BD.out _ _ (HCM.out i c hi))
            have xmD : WD.cell? ⟨gz, oz + j * 18, none⟩ = some (.int .u32 m.n) := by have := HCD.out 0 _ (Ln.cell0 m); rw [Nat.add_zero] at this; exact this
            clear BD BL R2 HCM
            go_wp2_with fail
            by_cases hn1 : m.n = y.e.n
            ·
              refine Og.region3 (by kernel_rfl) (fun t => ([(166, 0), (167, 1), (168, 2), (169, 3), (170, 4), (171, 5), (172, 6), (173, 7), (174, 8), (175, 9), (176, 10), (177, 11), (178, 12), (179, 13), (180, 14), (181, 15), (182, 16), (183, 17), (184, 18), (185, 19), (186, 20), (187, 21), (188, 22), (189, 23), (190, 24), (191, 25), (192, 26), (193, 27), (194, 28)] : List (Nat × Nat)).lookup t) [.is (.slice (some ⟨gz, oz, none⟩) wl.length wc), .is (.int .i64 (j : Int)), .is (.pointer (some ⟨gz, oz + j * 18, none⟩)), .is (.pointer (some ⟨gz, oz + j * 18, none⟩)), .is (.int .u32 m.n), .is (.pointer (some ⟨xb, 1, none⟩)), .is (.pointer (some ⟨xb, 1, none⟩)), .is (.int .u32 y.e.n), .is (.bool false), .is (.bool false), .is (undef), .is (undef), .is (undef), .is (undef), .is (undef), .is (undef), .is (.bool false), .is (.bool false), .is (undef), .is (undef), .is (undef), .is (undef), .is (undef), .is (undef), .is (undef), .is (undef), .is (undef), .is (undef), .is (.bool false)] [true, true, true, true, true, true, true, true, true, true, false, false, false, false, false, false, true, true, false, false, false, false, false, false, false, false, false, false, true] (by kernel_rfl) ?_ ?_
              · refine ⟨?_, ?_, ?_, ?_, ?_, ?_, ?_, ?_, ?_, ?_, ?_, ?_, ?_, ?_, ?_, ?_, ?_, ?_, ?_, ?_, ?_, ?_, ?_, ?_, ?_, ?_, ?_, ?_, ?_, trivial⟩
                · refine ⟨rfl, fun ρ w1 hr hd => ?_⟩
                  obtain ⟨d0, _⟩ := hd
                  have d0 : ρ (.tmp 14) = .slice (some ⟨gz, oz, none⟩) wl.length wc := d0
                  refine (if_pos (by rfl)).mpr ?_
                  refine Og.gives_is (.slice (some ⟨gz, oz, none⟩) wl.length wc) ?_ (And.intro (Below.refl _ _) rfl)
                  go_simp
                · refine ⟨rfl, fun ρ w1 hr hd => ?_⟩
                  obtain ⟨d0, _⟩ := hd
                  have d0 : ρ (.tmp 21) = .int .i64 (j : Int) := d0
                  refine (if_pos (by rfl)).mpr ?_
                  refine Og.gives_is (.int .i64 (j : Int)) ?_ (And.intro (Below.refl _ _) rfl)
                  go_simp
                · refine ⟨rfl, fun ρ w1 hr hd => ?_⟩
                  obtain ⟨d0, d1, _⟩ := hd
                  have d0 : ρ (.tmp 166) = .slice (some ⟨gz, oz, none⟩) wl.length wc := d0
                  have d1 : ρ (.tmp 167) = .int .i64 (j : Int) := d1
                  refine (if_pos (by rfl)).mpr ?_
                  refine Og.gives_is (.pointer (some ⟨gz, oz + j * 18, none⟩)) ?_ (And.intro (Below.refl _ _) rfl)
                  go_simp
                · refine ⟨rfl, fun ρ w1 hr hd => ?_⟩
                  obtain ⟨d0, _⟩ := hd
                  have d0 : ρ (.tmp 168) = .pointer (some ⟨gz, oz + j * 18, none⟩) := d0
                  refine (if_pos (by rfl)).mpr ?_
                  refine Og.gives_is (.pointer (some ⟨gz, oz + j * 18, none⟩)) ?_ (And.intro (Below.refl _ _) rfl)
                  go_simp
                · refine ⟨rfl, fun ρ w1 hr hd => ?_⟩
                  obtain ⟨d0, _⟩ := hd
                  have d0 : ρ (.tmp 169) = .pointer (some ⟨gz, oz + j * 18, none⟩) := d0
                  refine (if_pos (by rfl)).mpr ?_
                  have hc : w1.cell? ⟨gz, oz + j * 18, none⟩ = some (.int .u32 m.n) := Ev.kp_below hr _ _ xmD
                  refine Og.gives_is (.int .u32 m.n) ?_ (And.intro (Below.refl _ _) rfl)
                  go_simp
                · refine ⟨rfl, fun ρ w1 hr hd => ?_⟩
                  obtain ⟨d0, _⟩ := hd
                  have d0 : ρ (.tmp 8) = .pointer (some ⟨xb, 0, none⟩) := d0
                  refine (if_pos (by rfl)).mpr ?_
                  refine Og.gives_is (.pointer (some ⟨xb, 1, none⟩)) ?_ (And.intro (Below.refl _ _) rfl)
                  go_simp
                · refine ⟨rfl, fun ρ w1 hr hd => ?_⟩
                  obtain ⟨d0, _⟩ := hd
                  have d0 : ρ (.tmp 171) = .pointer (some ⟨xb, 1, none⟩) := d0
                  refine (if_pos (by rfl)).mpr ?_
                  refine Og.gives_is (.pointer (some ⟨xb, 1, none⟩)) ?_ (And.intro (Below.refl _ _) rfl)
                  go_simp
                · refine ⟨rfl, fun ρ w1 hr hd => ?_⟩
                  obtain ⟨d0, _⟩ := hd
                  have d0 : ρ (.tmp 172) = .pointer (some ⟨xb, 1, none⟩) := d0
                  refine (if_pos (by rfl)).mpr ?_
                  have hc : w1.cell? ⟨xb, 1, none⟩ = some (.int .u32 y.e.n) := Ev.kp_below hr _ _ xyn
                  refine Og.gives_is (.int .u32 y.e.n) ?_ (And.intro (Below.refl _ _) rfl)
                  go_simp
                · refine ⟨rfl, fun ρ w1 hr hd => ?_⟩
                  obtain ⟨d0, d1, _⟩ := hd
                  have d0 : ρ (.tmp 170) = .int .u32 m.n := d0
                  have d1 : ρ (.tmp 173) = .int .u32 y.e.n := d1
                  refine (if_pos (by rfl)).mpr ?_
                  refine Og.gives_is (.bool false) ?_ (And.intro (Below.refl _ _) rfl)
                  simp only [execOp, d0, d1]; go_simp; try simp [hn1]
                · refine ⟨rfl, fun ρ w1 hr hd => ?_⟩
                  obtain ⟨d0, _⟩ := hd
                  have d0 : ρ (.tmp 174) = .bool false := d0
                  refine (if_pos (by rfl)).mpr ?_
                  refine Og.gives_is (.bool false) ?_ (And.intro (Below.refl _ _) rfl)
                  go_simp
                · refine ⟨fun v w hv => by (have hv' : v = .bool false := hv); subst hv'; exact (if_neg (by exact Bool.false_ne_true)).mpr (fun h => by cases h), fun ρ w1 hr hd => ?_⟩
                  exact (if_neg (by exact Bool.false_ne_true)).mpr (rfl : undef = undef)
                · refine ⟨fun v w hv => by (have hv' : v = .bool false := hv); subst hv'; exact (if_neg (by exact Bool.false_ne_true)).mpr (fun h => by cases h), fun ρ w1 hr hd => ?_⟩
                  exact (if_neg (by exact Bool.false_ne_true)).mpr (rfl : undef = undef)
                · refine ⟨fun v w hv => by (have hv' : v = .bool false := hv); subst hv'; exact (if_neg (by exact Bool.false_ne_true)).mpr (fun h => by cases h), fun ρ w1 hr hd => ?_⟩
                  exact (if_neg (by exact Bool.false_ne_true)).mpr (rfl : undef = undef)
                · refine ⟨fun v w hv => by (have hv' : v = .bool false := hv); subst hv'; exact (if_neg (by exact Bool.false_ne_true)).mpr (fun h => by cases h), fun ρ w1 hr hd => ?_⟩
                  exact (if_neg (by exact Bool.false_ne_true)).mpr (rfl : undef = undef)
                · refine ⟨fun v w hv => by (have hv' : v = .bool false := hv); subst hv'; exact (if_neg (by exact Bool.false_ne_true)).mpr (fun h => by cases h), fun ρ w1 hr hd => ?_⟩
                  exact (if_neg (by exact Bool.false_ne_true)).mpr (rfl : undef = undef)
                · refine ⟨fun v w hv => by (have hv' : v = .bool false := hv); subst hv'; exact (if_neg (by exact Bool.false_ne_true)).mpr (fun h => by cases h), fun ρ w1 hr hd => ?_⟩
                  exact (if_neg (by exact Bool.false_ne_true)).mpr (rfl : undef = undef)
                · refine ⟨rfl, fun ρ w1 hr hd => ?_⟩
                  obtain ⟨d0, d1, d2, _⟩ := hd
                  have d0 : ρ (.tmp 175) = .bool false := d0
                  have d1 : ρ (.tmp 181) = undef := d1
                  have d2 : ρ (.const (Value.bool false)) = (Value.bool false) := d2
                  refine (if_pos (by rfl)).mpr ?_
                  refine Og.gives_is (.bool false) ?_ (And.intro (Below.refl _ _) rfl)
                  go_simp
                · refine ⟨rfl, fun ρ w1 hr hd => ?_⟩
                  obtain ⟨d0, _⟩ := hd
                  have d0 : ρ (.tmp 182) = .bool false := d0
                  refine (if_pos (by rfl)).mpr ?_
                  refine Og.gives_is (.bool false) ?_ (And.intro (Below.refl _ _) rfl)
                  go_simp
                · refine ⟨fun v w hv => by (have hv' : v = .bool false := hv); subst hv'; exact (if_neg (by exact Bool.false_ne_true)).mpr (fun h => by cases h), fun ρ w1 hr hd => ?_⟩
                  exact (if_neg (by exact Bool.false_ne_true)).mpr (rfl : undef = undef)
                · refine ⟨fun v w hv => by (have hv' : v = .bool false := hv); subst hv'; exact (if_neg (by exact Bool.false_ne_true)).mpr (fun h => by cases h), fun ρ w1 hr hd => ?_⟩
                  exact (if_neg (by exact Bool.false_ne_true)).mpr (rfl : undef = undef)
                · refine ⟨fun v w hv => by (have hv' : v = .bool false := hv); subst hv'; exact (if_neg (by exact Bool.false_ne_true)).mpr (fun h => by cases h), fun ρ w1 hr hd => ?_⟩
                  exact (if_neg (by exact Bool.false_ne_true)).mpr (rfl : undef = undef)
                · refine ⟨fun v w hv => by (have hv' : v = .bool false := hv); subst hv'; exact (if_neg (by exact Bool.false_ne_true)).mpr (fun h => by cases h), fun ρ w1 hr hd => ?_⟩
                  exact (if_neg (by exact Bool.false_ne_true)).mpr (rfl : undef = undef)
                · refine ⟨fun v w hv => by (have hv' : v = .bool false := hv); subst hv'; exact (if_neg (by exact Bool.false_ne_true)).mpr (fun h => by cases h), fun ρ w1 hr hd => ?_⟩
                  exact (if_neg (by exact Bool.false_ne_true)).mpr (rfl : undef = undef)
                · refine ⟨fun v w hv => by (have hv' : v = .bool false := hv); subst hv'; exact (if_neg (by exact Bool.false_ne_true)).mpr (fun h => by cases h), fun ρ w1 hr hd => ?_⟩
                  exact (if_neg (by exact Bool.false_ne_true)).mpr (rfl : undef = undef)
                · refine ⟨fun v w hv => by (have hv' : v = .bool false := hv); subst hv'; exact (if_neg (by exact Bool.false_ne_true)).mpr (fun h => by cases h), fun ρ w1 hr hd => ?_⟩
                  exact (if_neg (by exact Bool.false_ne_true)).mpr (rfl : undef = undef)
                · refine ⟨fun v w hv => by (have hv' : v = undef := hv); subst hv'; exact (if_neg (by exact Bool.false_ne_true)).mpr (fun h => by cases h), fun ρ w1 hr hd => ?_⟩
                  exact (if_neg (by exact Bool.false_ne_true)).mpr (rfl : undef = undef)
                · refine ⟨fun v w hv => by (have hv' : v = undef := hv); subst hv'; exact (if_neg (by exact Bool.false_ne_true)).mpr (fun h => by cases h), fun ρ w1 hr hd => ?_⟩
                  exact (if_neg (by exact Bool.false_ne_true)).mpr (rfl : undef = undef)
                · refine ⟨fun v w hv => by (have hv' : v = .bool false := hv); subst hv'; exact (if_neg (by exact Bool.false_ne_true)).mpr (fun h => by cases h), fun ρ w1 hr hd => ?_⟩
                  exact (if_neg (by exact Bool.false_ne_true)).mpr (rfl : undef = undef)
                · refine ⟨rfl, fun ρ w1 hr hd => ?_⟩
                  obtain ⟨d0, d1, d2, _⟩ := hd
                  have d0 : ρ (.tmp 183) = .bool false := d0
                  have d1 : ρ (.tmp 193) = undef := d1
                  have d2 : ρ (.const (Value.bool false)) = (Value.bool false) := d2
                  refine (if_pos (by rfl)).mpr ?_
                  refine Og.gives_is (.bool false) ?_ (And.intro (Below.refl _ _) rfl)
                  go_simp
              · intro vs w1 hbz hall
                have e0 : vs 0 = .slice (some ⟨gz, oz, none⟩) wl.length wc := hall 0 _ 166 rfl rfl
                have e1 : vs 1 = .int .i64 (j : Int) := hall 1 _ 167 rfl rfl
                have e2 : vs 2 = .pointer (some ⟨gz, oz + j * 18, none⟩) := hall 2 _ 168 rfl rfl
                have e3 : vs 3 = .pointer (some ⟨gz, oz + j * 18, none⟩) := hall 3 _ 169 rfl rfl
                have e4 : vs 4 = .int .u32 m.n := hall 4 _ 170 rfl rfl
                have e5 : vs 5 = .pointer (some ⟨xb, 1, none⟩) := hall 5 _ 171 rfl rfl
                have e6 : vs 6 = .pointer (some ⟨xb, 1, none⟩) := hall 6 _ 172 rfl rfl
                have e7 : vs 7 = .int .u32 y.e.n := hall 7 _ 173 rfl rfl
                have e8 : vs 8 = .bool false := hall 8 _ 174 rfl rfl
                have e9 : vs 9 = .bool false := hall 9 _ 175 rfl rfl
                have e10 : vs 10 = undef := hall 10 _ 176 rfl rfl
                have e11 : vs 11 = undef := hall 11 _ 177 rfl rfl
                have e12 : vs 12 = undef := hall 12 _ 178 rfl rfl
                have e13 : vs 13 = undef := hall 13 _ 179 rfl rfl
                have e14 : vs 14 = undef := hall 14 _ 180 rfl rfl
                have e15 : vs 15 = undef := hall 15 _ 181 rfl rfl
                have e16 : vs 16 = .bool false := hall 16 _ 182 rfl rfl
                have e17 : vs 17 = .bool false := hall 17 _ 183 rfl rfl
                have e18 : vs 18 = undef := hall 18 _ 184 rfl rfl
                have e19 : vs 19 = undef := hall 19 _ 185 rfl rfl
                have e20 : vs 20 = undef := hall 20 _ 186 rfl rfl
                have e21 : vs 21 = undef := hall 21 _ 187 rfl rfl
                have e22 : vs 22 = undef := hall 22 _ 188 rfl rfl
                have e23 : vs 23 = undef := hall 23 _ 189 rfl rfl
                have e24 : vs 24 = undef := hall 24 _ 190 rfl rfl
                have e25 : vs 25 = undef := hall 25 _ 191 rfl rfl
                have e26 : vs 26 = undef := hall 26 _ 192 rfl rfl
                have e27 : vs 27 = undef := hall 27 _ 193 rfl rfl
                have e28 : vs 28 = .bool false := hall 28 _ 194 rfl rfl
                have HBZ := Lib.hid hbz
                simp only [Og.putAll, Act.put, List.setIfInBounds_toArray, List.set_cons_zero, List.set_cons_succ, Nat.zero_add, Nat.reduceAdd, e0, e1, e2, e3, e4, e5, e6, e7, e8, e9, e10, e11, e12, e13, e14, e15, e16, e17, e18, e19, e20, e21, e22, e23, e24, e25, e26, e27, e28]
                clear hall hbz
                go_wp2_with fail
                go_roundw
                case rel => exact ⟨j + 1, by omega, by go_num, BLD.out.trans (HBZ.out.mono BLD.out.size)⟩
                case measure => simp [intOf]; omega
            · by_cases hmg2 : m = mg
              · have HMG := Lib.hid hmg2
                clear hmg2
                refine Og.region3 (by kernel_rfl) (fun t => ([(166, 0), (167, 1), (168, 2), (169, 3), (170, 4), (171, 5), (172, 6), (173, 7), (174, 8), (175, 9), (176, 10), (177, 11), (178, 12), (179, 13), (180, 14), (181, 15), (182, 16), (183, 17), (184, 18), (185, 19), (186, 20), (187, 21), (188, 22), (189, 23), (190, 24), (191, 25), (192, 26), (193, 27), (194, 28)] : List (Nat × Nat)).lookup t) [.is (.slice (some ⟨gz, oz, none⟩) wl.length wc), .is (.int .i64 (j : Int)), .is (.pointer (some ⟨gz, oz + j * 18, none⟩)), .is (.pointer (some ⟨gz, oz + j * 18, none⟩)), .is (.int .u32 m.n), .is (.pointer (some ⟨xb, 1, none⟩)), .is (.pointer (some ⟨xb, 1, none⟩)), .is (.int .u32 y.e.n), .is (.bool true), .is (.bool true), .is (.slice (some ⟨gz, oz, none⟩) wl.length wc), .is (.int .i64 (j : Int)), .is (.pointer (some ⟨gz, oz + j * 18, none⟩)), .is (.agg (Ln.cells m).toArray), .is (.agg (Ln.cells mg).toArray), .is (.bool false), .is (.bool false), .is (.bool false), .is (undef), .is (undef), .is (undef), .is (undef), .is (undef), .is (undef), .is (undef), .is (undef), .is (undef), .is (undef), .is (.bool false)] [true, true, true, true, true, true, true, true, true, true, true, true, true, true, true, true, true, true, false, false, false, false, false, false, false, false, false, false, true] (by kernel_rfl) ?_ ?_
                · refine ⟨?_, ?_, ?_, ?_, ?_, ?_, ?_, ?_, ?_, ?_, ?_, ?_, ?_, ?_, ?_, ?_, ?_, ?_, ?_, ?_, ?_, ?_, ?_, ?_, ?_, ?_, ?_, ?_, ?_, trivial⟩
                  · refine ⟨rfl, fun ρ w1 hr hd => ?_⟩
                    obtain ⟨d0, _⟩ := hd
                    have d0 : ρ (.tmp 14) = .slice (some ⟨gz, oz, none⟩) wl.length wc := d0
                    refine (if_pos (by rfl)).mpr ?_
                    refine Og.gives_is (.slice (some ⟨gz, oz, none⟩) wl.length wc) ?_ (And.intro (Below.refl _ _) rfl)
                    go_simp
                  · refine ⟨rfl, fun ρ w1 hr hd => ?_⟩
                    obtain ⟨d0, _⟩ := hd
                    have d0 : ρ (.tmp 21) = .int .i64 (j : Int) := d0
                    refine (if_pos (by rfl)).mpr ?_
                    refine Og.gives_is (.int .i64 (j : Int)) ?_ (And.intro (Below.refl _ _) rfl)
                    go_simp
                  · refine ⟨rfl, fun ρ w1 hr hd => ?_⟩
                    obtain ⟨d0, d1, _⟩ := hd
                    have d0 : ρ (.tmp 166) = .slice (some ⟨gz, oz, none⟩) wl.length wc := d0
                    have d1 : ρ (.tmp 167) = .int .i64 (j : Int) := d1
                    refine (if_pos (by rfl)).mpr ?_
                    refine Og.gives_is (.pointer (some ⟨gz, oz + j * 18, none⟩)) ?_ (And.intro (Below.refl _ _) rfl)
                    go_simp
                  · refine ⟨rfl, fun ρ w1 hr hd => ?_⟩
                    obtain ⟨d0, _⟩ := hd
                    have d0 : ρ (.tmp 168) = .pointer (some ⟨gz, oz + j * 18, none⟩) := d0
                    refine (if_pos (by rfl)).mpr ?_
                    refine Og.gives_is (.pointer (some ⟨gz, oz + j * 18, none⟩)) ?_ (And.intro (Below.refl _ _) rfl)
                    go_simp
                  · refine ⟨rfl, fun ρ w1 hr hd => ?_⟩
                    obtain ⟨d0, _⟩ := hd
                    have d0 : ρ (.tmp 169) = .pointer (some ⟨gz, oz + j * 18, none⟩) := d0
                    refine (if_pos (by rfl)).mpr ?_
                    have hc : w1.cell? ⟨gz, oz + j * 18, none⟩ = some (.int .u32 m.n) := Ev.kp_below hr _ _ xmD
                    refine Og.gives_is (.int .u32 m.n) ?_ (And.intro (Below.refl _ _) rfl)
                    go_simp
                  · refine ⟨rfl, fun ρ w1 hr hd => ?_⟩
                    obtain ⟨d0, _⟩ := hd
                    have d0 : ρ (.tmp 8) = .pointer (some ⟨xb, 0, none⟩) := d0
                    refine (if_pos (by rfl)).mpr ?_
                    refine Og.gives_is (.pointer (some ⟨xb, 1, none⟩)) ?_ (And.intro (Below.refl _ _) rfl)
                    go_simp
                  · refine ⟨rfl, fun ρ w1 hr hd => ?_⟩
                    obtain ⟨d0, _⟩ := hd
                    have d0 : ρ (.tmp 171) = .pointer (some ⟨xb, 1, none⟩) := d0
                    refine (if_pos (by rfl)).mpr ?_
                    refine Og.gives_is (.pointer (some ⟨xb, 1, none⟩)) ?_ (And.intro (Below.refl _ _) rfl)
                    go_simp
                  · refine ⟨rfl, fun ρ w1 hr hd => ?_⟩
                    obtain ⟨d0, _⟩ := hd
                    have d0 : ρ (.tmp 172) = .pointer (some ⟨xb, 1, none⟩) := d0
                    refine (if_pos (by rfl)).mpr ?_
                    have hc : w1.cell? ⟨xb, 1, none⟩ = some (.int .u32 y.e.n) := Ev.kp_below hr _ _ xyn
                    refine Og.gives_is (.int .u32 y.e.n) ?_ (And.intro (Below.refl _ _) rfl)
                    go_simp
                  · refine ⟨rfl, fun ρ w1 hr hd => ?_⟩
                    obtain ⟨d0, d1, _⟩ := hd
                    have d0 : ρ (.tmp 170) = .int .u32 m.n := d0
                    have d1 : ρ (.tmp 173) = .int .u32 y.e.n := d1
                    refine (if_pos (by rfl)).mpr ?_
                    refine Og.gives_is (.bool true) ?_ (And.intro (Below.refl _ _) rfl)
                    simp only [execOp, d0, d1]; go_simp; try simp [hn1]
                  · refine ⟨rfl, fun ρ w1 hr hd => ?_⟩
                    obtain ⟨d0, _⟩ := hd
                    have d0 : ρ (.tmp 174) = .bool true := d0
                    refine (if_pos (by rfl)).mpr ?_
                    refine Og.gives_is (.bool true) ?_ (And.intro (Below.refl _ _) rfl)
                    go_simp
                  · refine ⟨fun v w hv => by (have hv' : v = .bool true := hv); subst hv'; exact (if_pos rfl).mpr rfl, fun ρ w1 hr hd => ?_⟩
                    obtain ⟨d0, _⟩ := hd
                    have d0 : ρ (.tmp 14) = .slice (some ⟨gz, oz, none⟩) wl.length wc := d0
                    refine (if_pos (by rfl)).mpr ?_
                    refine Og.gives_is (.slice (some ⟨gz, oz, none⟩) wl.length wc) ?_ (And.intro (Below.refl _ _) rfl)
                    go_simp
                  · refine ⟨fun v w hv => by (have hv' : v = .bool true := hv); subst hv'; exact (if_pos rfl).mpr rfl, fun ρ w1 hr hd => ?_⟩
                    obtain ⟨d0, _⟩ := hd
                    have d0 : ρ (.tmp 21) = .int .i64 (j : Int) := d0
                    refine (if_pos (by rfl)).mpr ?_
                    refine Og.gives_is (.int .i64 (j : Int)) ?_ (And.intro (Below.refl _ _) rfl)
                    go_simp
                  · refine ⟨fun v w hv => by (have hv' : v = .bool true := hv); subst hv'; exact (if_pos rfl).mpr rfl, fun ρ w1 hr hd => ?_⟩
                    obtain ⟨d0, d1, _⟩ := hd
                    have d0 : ρ (.tmp 176) = .slice (some ⟨gz, oz, none⟩) wl.length wc := d0
                    have d1 : ρ (.tmp 177) = .int .i64 (j : Int) := d1
                    refine (if_pos (by rfl)).mpr ?_
                    refine Og.gives_is (.pointer (some ⟨gz, oz + j * 18, none⟩)) ?_ (And.intro (Below.refl _ _) rfl)
                    go_simp
                  · refine ⟨fun v w hv => by (have hv' : v = .bool true := hv); subst hv'; exact (if_pos rfl).mpr rfl, fun ρ w1 hr hd => ?_⟩
                    obtain ⟨d0, _⟩ := hd
                    have d0 : ρ (.tmp 178) = .pointer (some ⟨gz, oz + j * 18, none⟩) := d0
                    refine (if_pos (by rfl)).mpr ?_
                    refine Og.gives_is (.agg (Ln.cells m).toArray) ?_ (And.intro (Below.refl _ _) rfl)
                    exact Og.load_run 30 (.tmp 178) rfl ⟨gz, oz + j * 18, none⟩ d0 (run_loadVar_at w1 gz (oz + j * 18) 30 (Ln.cells m) _ (fun i c hi => Ev.kp_below hr _ _ (HCD.out i c hi)) Try.underlying30 rfl (by rw [OM.out.len]; exact Ln.size_line))
                  · refine ⟨fun v w hv => by (have hv' : v = .bool true := hv); subst hv'; exact (if_pos rfl).mpr rfl, fun ρ w1 hr hd => ?_⟩
                    obtain ⟨d0, _⟩ := hd
                    have d0 : ρ (.tmp 16) = .pointer (some ⟨gb, 0, none⟩) := d0
                    refine (if_pos (by rfl)).mpr ?_
                    refine Og.gives_is (.agg (Ln.cells mg).toArray) ?_ (And.intro (Below.refl _ _) rfl)
                    exact Og.load_run 30 (.tmp 16) rfl ⟨gb, 0, none⟩ d0 (run_loadVar_row w1 gb 30 30 _ (0, 0) _ ((hr.block gb (Array.getElem?_eq_some_iff.1 RD.out.row).1).trans RD.out.row) Try.underlying30 rfl (by rw [OMG.out.size]; exact Ln.size_line))
                  · refine ⟨fun v w hv => by (have hv' : v = .bool true := hv); subst hv'; exact (if_pos rfl).mpr rfl, fun ρ w1 hr hd => ?_⟩
                    obtain ⟨d0, d1, _⟩ := hd
                    have d0 : ρ (.tmp 179) = .agg (Ln.cells m).toArray := d0
                    have d1 : ρ (.tmp 180) = .agg (Ln.cells mg).toArray := d1
                    refine (if_pos (by rfl)).mpr ?_
                    refine Og.gives_is (.bool false) ?_ (And.intro (Below.refl _ _) rfl)
                    exact Ln.neq_op (a := m) (b := mg) (.tmp 179) (.tmp 180) rfl OM.out OMG.out d0 d1 false (by rw [HMG.out, Ln.eqL_self OMG.out]; rfl) w1
                  · refine ⟨rfl, fun ρ w1 hr hd => ?_⟩
                    obtain ⟨d0, d1, d2, _⟩ := hd
                    have d0 : ρ (.tmp 175) = .bool true := d0
                    have d1 : ρ (.tmp 181) = .bool false := d1
                    have d2 : ρ (.const (Value.bool false)) = (Value.bool false) := d2
                    refine (if_pos (by rfl)).mpr ?_
                    refine Og.gives_is (.bool false) ?_ (And.intro (Below.refl _ _) rfl)
                    go_simp
                  · refine ⟨rfl, fun ρ w1 hr hd => ?_⟩
                    obtain ⟨d0, _⟩ := hd
                    have d0 : ρ (.tmp 182) = .bool false := d0
                    refine (if_pos (by rfl)).mpr ?_
                    refine Og.gives_is (.bool false) ?_ (And.intro (Below.refl _ _) rfl)
                    go_simp
                  · refine ⟨fun v w hv => by (have hv' : v = .bool false := hv); subst hv'; exact (if_neg (by exact Bool.false_ne_true)).mpr (fun h => by cases h), fun ρ w1 hr hd => ?_⟩
                    exact (if_neg (by exact Bool.false_ne_true)).mpr (rfl : undef = undef)
                  · refine ⟨fun v w hv => by (have hv' : v = .bool false := hv); subst hv'; exact (if_neg (by exact Bool.false_ne_true)).mpr (fun h => by cases h), fun ρ w1 hr hd => ?_⟩
                    exact (if_neg (by exact Bool.false_ne_true)).mpr (rfl : undef = undef)
                  · refine ⟨fun v w hv => by (have hv' : v = .bool false := hv); subst hv'; exact (if_neg (by exact Bool.false_ne_true)).mpr (fun h => by cases h), fun ρ w1 hr hd => ?_⟩
                    exact (if_neg (by exact Bool.false_ne_true)).mpr (rfl : undef = undef)
                  · refine ⟨fun v w hv => by (have hv' : v = .bool false := hv); subst hv'; exact (if_neg (by exact Bool.false_ne_true)).mpr (fun h => by cases h), fun ρ w1 hr hd => ?_⟩
                    exact (if_neg (by exact Bool.false_ne_true)).mpr (rfl : undef = undef)
                  · refine ⟨fun v w hv => by (have hv' : v = .bool false := hv); subst hv'; exact (if_neg (by exact Bool.false_ne_true)).mpr (fun h => by cases h), fun ρ w1 hr hd => ?_⟩
                    exact (if_neg (by exact Bool.false_ne_true)).mpr (rfl : undef = undef)
                  · refine ⟨fun v w hv => by (have hv' : v = .bool false := hv); subst hv'; exact (if_neg (by exact Bool.false_ne_true)).mpr (fun h => by cases h), fun ρ w1 hr hd => ?_⟩
                    exact (if_neg (by exact Bool.false_ne_true)).mpr (rfl : undef = undef)
                  · refine ⟨fun v w hv => by (have hv' : v = .bool false := hv); subst hv'; exact (if_neg (by exact Bool.false_ne_true)).mpr (fun h => by cases h), fun ρ w1 hr hd => ?_⟩
                    exact (if_neg (by exact Bool.false_ne_true)).mpr (rfl : undef = undef)
                  · refine ⟨fun v w hv => by (have hv' : v = undef := hv); subst hv'; exact (if_neg (by exact Bool.false_ne_true)).mpr (fun h => by cases h), fun ρ w1 hr hd => ?_⟩
                    exact (if_neg (by exact Bool.false_ne_true)).mpr (rfl : undef = undef)
                  · refine ⟨fun v w hv => by (have hv' : v = undef := hv); subst hv'; exact (if_neg (by exact Bool.false_ne_true)).mpr (fun h => by cases h), fun ρ w1 hr hd => ?_⟩
                    exact (if_neg (by exact Bool.false_ne_true)).mpr (rfl : undef = undef)
                  · refine ⟨fun v w hv => by (have hv' : v = .bool false := hv); subst hv'; exact (if_neg (by exact Bool.false_ne_true)).mpr (fun h => by cases h), fun ρ w1 hr hd => ?_⟩
                    exact (if_neg (by exact Bool.false_ne_true)).mpr (rfl : undef = undef)
                  · refine ⟨rfl, fun ρ w1 hr hd => ?_⟩
                    obtain ⟨d0, d1, d2, _⟩ := hd
                    have d0 : ρ (.tmp 183) = .bool false := d0
                    have d1 : ρ (.tmp 193) = undef := d1
                    have d2 : ρ (.const (Value.bool false)) = (Value.bool false) := d2
                    refine (if_pos (by rfl)).mpr ?_
                    refine Og.gives_is (.bool false) ?_ (And.intro (Below.refl _ _) rfl)
                    go_simp
                · intro vs w1 hbz hall
                  have e0 : vs 0 = .slice (some ⟨gz, oz, none⟩) wl.length wc := hall 0 _ 166 rfl rfl
                  have e1 : vs 1 = .int .i64 (j : Int) := hall 1 _ 167 rfl rfl
                  have e2 : vs 2 = .pointer (some ⟨gz, oz + j * 18, none⟩) := hall 2 _ 168 rfl rfl
                  have e3 : vs 3 = .pointer (some ⟨gz, oz + j * 18, none⟩) := hall 3 _ 169 rfl rfl
                  have e4 : vs 4 = .int .u32 m.n := hall 4 _ 170 rfl rfl
                  have e5 : vs 5 = .pointer (some ⟨xb, 1, none⟩) := hall 5 _ 171 rfl rfl
                  have e6 : vs 6 = .pointer (some ⟨xb, 1, none⟩) := hall 6 _ 172 rfl rfl
                  have e7 : vs 7 = .int .u32 y.e.n := hall 7 _ 173 rfl rfl
                  have e8 : vs 8 = .bool true := hall 8 _ 174 rfl rfl
                  have e9 : vs 9 = .bool true := hall 9 _ 175 rfl rfl
                  have e10 : vs 10 = .slice (some ⟨gz, oz, none⟩) wl.length wc := hall 10 _ 176 rfl rfl
                  have e11 : vs 11 = .int .i64 (j : Int) := hall 11 _ 177 rfl rfl
                  have e12 : vs 12 = .pointer (some ⟨gz, oz + j * 18, none⟩) := hall 12 _ 178 rfl rfl
                  have e13 : vs 13 = .agg (Ln.cells m).toArray := hall 13 _ 179 rfl rfl
                  have e14 : vs 14 = .agg (Ln.cells mg).toArray := hall 14 _ 180 rfl rfl
                  have e15 : vs 15 = .bool false := hall 15 _ 181 rfl rfl
                  have e16 : vs 16 = .bool false := hall 16 _ 182 rfl rfl
                  have e17 : vs 17 = .bool false := hall 17 _ 183 rfl rfl
                  have e18 : vs 18 = undef := hall 18 _ 184 rfl rfl
                  have e19 : vs 19 = undef := hall 19 _ 185 rfl rfl
                  have e20 : vs 20 = undef := hall 20 _ 186 rfl rfl
                  have e21 : vs 21 = undef := hall 21 _ 187 rfl rfl
                  have e22 : vs 22 = undef := hall 22 _ 188 rfl rfl
                  have e23 : vs 23 = undef := hall 23 _ 189 rfl rfl
                  have e24 : vs 24 = undef := hall 24 _ 190 rfl rfl
                  have e25 : vs 25 = undef := hall 25 _ 191 rfl rfl
                  have e26 : vs 26 = undef := hall 26 _ 192 rfl rfl
                  have e27 : vs 27 = undef := hall 27 _ 193 rfl rfl
                  have e28 : vs 28 = .bool false := hall 28 _ 194 rfl rfl
                  have HBZ := Lib.hid hbz
                  simp only [Og.putAll, Act.put, List.setIfInBounds_toArray, List.set_cons_zero, List.set_cons_succ, Nat.zero_add, Nat.reduceAdd, e0, e1, e2, e3, e4, e5, e6, e7, e8, e9, e10, e11, e12, e13, e14, e15, e16, e17, e18, e19, e20, e21, e22, e23, e24, e25, e26, e27, e28]
                  clear hall hbz
                  go_wp2_with fail
                  go_roundw
                  case rel => exact ⟨j + 1, by omega, by go_num, BLD.out.trans (HBZ.out.mono BLD.out.size)⟩
                  case measure => simp [intOf]; omega
              · obtain ⟨hm1, hz1⟩ := FSM.out hn1 hmg2
                subst hz1
                refine Og.region3 (by kernel_rfl) (fun t => ([(166, 0), (167, 1), (168, 2), (169, 3), (170, 4), (171, 5), (172, 6), (173, 7), (174, 8), (175, 9), (176, 10), (177, 11), (178, 12), (179, 13), (180, 14), (181, 15), (182, 16), (183, 17), (184, 18), (185, 19), (186, 20), (187, 21), (188, 22), (189, 23), (190, 24), (191, 25), (192, 26), (193, 27), (194, 28)] : List (Nat × Nat)).lookup t) [.is (.slice (some ⟨gz, oz, none⟩) wl.length wc), .is (.int .i64 (j : Int)), .is (.pointer (some ⟨gz, oz + j * 18, none⟩)), .is (.pointer (some ⟨gz, oz + j * 18, none⟩)), .is (.int .u32 m.n), .is (.pointer (some ⟨xb, 1, none⟩)), .is (.pointer (some ⟨xb, 1, none⟩)), .is (.int .u32 y.e.n), .is (.bool true), .is (.bool true), .is (.slice (some ⟨gz, oz, none⟩) wl.length wc), .is (.int .i64 (j : Int)), .is (.pointer (some ⟨gz, oz + j * 18, none⟩)), .is (.agg (Ln.cells m).toArray), .is (.agg (Ln.cells mg).toArray), .is (.bool true), .is (.bool true), .is (.bool true), .is (.agg (Ln.cells m1).toArray), .is (.slice (some ⟨gz, oz, none⟩) wl.length wc), .is (.int .i64 (j : Int)), .is (.pointer (some ⟨gz, oz + j * 18, none⟩)), .is (.agg (Ln.cells m).toArray), .is (.bool false), .is (.bool false), .is (.bool true), .is (.bool false), .is (.bool false), .is (.bool false)] [true, true, true, true, true, true, true, true, true, true, true, true, true, true, true, true, true, true, true, true, true, true, true, true, true, true, true, true, true] (by kernel_rfl) ?_ ?_
                · refine ⟨?_, ?_, ?_, ?_, ?_, ?_, ?_, ?_, ?_, ?_, ?_, ?_, ?_, ?_, ?_, ?_, ?_, ?_, ?_, ?_, ?_, ?_, ?_, ?_, ?_, ?_, ?_, ?_, ?_, trivial⟩
                  · refine ⟨rfl, fun ρ w1 hr hd => ?_⟩
                    obtain ⟨d0, _⟩ := hd
                    have d0 : ρ (.tmp 14) = .slice (some ⟨gz, oz, none⟩) wl.length wc := d0
                    refine (if_pos (by rfl)).mpr ?_
                    refine Og.gives_is (.slice (some ⟨gz, oz, none⟩) wl.length wc) ?_ (And.intro (Below.refl _ _) rfl)
                    go_simp
                  · refine ⟨rfl, fun ρ w1 hr hd => ?_⟩
                    obtain ⟨d0, _⟩ := hd
                    have d0 : ρ (.tmp 21) = .int .i64 (j : Int) := d0
                    refine (if_pos (by rfl)).mpr ?_
                    refine Og.gives_is (.int .i64 (j : Int)) ?_ (And.intro (Below.refl _ _) rfl)
                    go_simp
                  · refine ⟨rfl, fun ρ w1 hr hd => ?_⟩
                    obtain ⟨d0, d1, _⟩ := hd
                    have d0 : ρ (.tmp 166) = .slice (some ⟨gz, oz, none⟩) wl.length wc := d0
                    have d1 : ρ (.tmp 167) = .int .i64 (j : Int) := d1
                    refine (if_pos (by rfl)).mpr ?_
                    refine Og.gives_is (.pointer (some ⟨gz, oz + j * 18, none⟩)) ?_ (And.intro (Below.refl _ _) rfl)
                    go_simp
                  · refine ⟨rfl, fun ρ w1 hr hd => ?_⟩
                    obtain ⟨d0, _⟩ := hd
                    have d0 : ρ (.tmp 168) = .pointer (some ⟨gz, oz + j * 18, none⟩) := d0
                    refine (if_pos (by rfl)).mpr ?_
                    refine Og.gives_is (.pointer (some ⟨gz, oz + j * 18, none⟩)) ?_ (And.intro (Below.refl _ _) rfl)
                    go_simp
                  · refine ⟨rfl, fun ρ w1 hr hd => ?_⟩
                    obtain ⟨d0, _⟩ := hd
                    have d0 : ρ (.tmp 169) = .pointer (some ⟨gz, oz + j * 18, none⟩) := d0
                    refine (if_pos (by rfl)).mpr ?_
                    have hc : w1.cell? ⟨gz, oz + j * 18, none⟩ = some (.int .u32 m.n) := Ev.kp_below hr _ _ xmD
                    refine Og.gives_is (.int .u32 m.n) ?_ (And.intro (Below.refl _ _) rfl)
                    go_simp
                  · refine ⟨rfl, fun ρ w1 hr hd => ?_⟩
                    obtain ⟨d0, _⟩ := hd
                    have d0 : ρ (.tmp 8) = .pointer (some ⟨xb, 0, none⟩) := d0
                    refine (if_pos (by rfl)).mpr ?_
                    refine Og.gives_is (.pointer (some ⟨xb, 1, none⟩)) ?_ (And.intro (Below.refl _ _) rfl)
                    go_simp
                  · refine ⟨rfl, fun ρ w1 hr hd => ?_⟩
                    obtain ⟨d0, _⟩ := hd
                    have d0 : ρ (.tmp 171) = .pointer (some ⟨xb, 1, none⟩) := d0
                    refine (if_pos (by rfl)).mpr ?_
                    refine Og.gives_is (.pointer (some ⟨xb, 1, none⟩)) ?_ (And.intro (Below.refl _ _) rfl)
                    go_simp
                  · refine ⟨rfl, fun ρ w1 hr hd => ?_⟩
                    obtain ⟨d0, _⟩ := hd
                    have d0 : ρ (.tmp 172) = .pointer (some ⟨xb, 1, none⟩) := d0
                    refine (if_pos (by rfl)).mpr ?_
                    have hc : w1.cell? ⟨xb, 1, none⟩ = some (.int .u32 y.e.n) := Ev.kp_below hr _ _ xyn
                    refine Og.gives_is (.int .u32 y.e.n) ?_ (And.intro (Below.refl _ _) rfl)
                    go_simp
                  · refine ⟨rfl, fun ρ w1 hr hd => ?_⟩
                    obtain ⟨d0, d1, _⟩ := hd
                    have d0 : ρ (.tmp 170) = .int .u32 m.n := d0
                    have d1 : ρ (.tmp 173) = .int .u32 y.e.n := d1
                    refine (if_pos (by rfl)).mpr ?_
                    refine Og.gives_is (.bool true) ?_ (And.intro (Below.refl _ _) rfl)
                    simp only [execOp, d0, d1]; go_simp; try simp [hn1]
                  · refine ⟨rfl, fun ρ w1 hr hd => ?_⟩
                    obtain ⟨d0, _⟩ := hd
                    have d0 : ρ (.tmp 174) = .bool true := d0
                    refine (if_pos (by rfl)).mpr ?_
                    refine Og.gives_is (.bool true) ?_ (And.intro (Below.refl _ _) rfl)
                    go_simp
                  · refine ⟨fun v w hv => by (have hv' : v = .bool true := hv); subst hv'; exact (if_pos rfl).mpr rfl, fun ρ w1 hr hd => ?_⟩
                    obtain ⟨d0, _⟩ := hd
                    have d0 : ρ (.tmp 14) = .slice (some ⟨gz, oz, none⟩) wl.length wc := d0
                    refine (if_pos (by rfl)).mpr ?_
                    refine Og.gives_is (.slice (some ⟨gz, oz, none⟩) wl.length wc) ?_ (And.intro (Below.refl _ _) rfl)
                    go_simp
                  · refine ⟨fun v w hv => by (have hv' : v = .bool true := hv); subst hv'; exact (if_pos rfl).mpr rfl, fun ρ w1 hr hd => ?_⟩
                    obtain ⟨d0, _⟩ := hd
                    have d0 : ρ (.tmp 21) = .int .i64 (j : Int) := d0
                    refine (if_pos (by rfl)).mpr ?_
                    refine Og.gives_is (.int .i64 (j : Int)) ?_ (And.intro (Below.refl _ _) rfl)
                    go_simp
                  · refine ⟨fun v w hv => by (have hv' : v = .bool true := hv); subst hv'; exact (if_pos rfl).mpr rfl, fun ρ w1 hr hd => ?_⟩
                    obtain ⟨d0, d1, _⟩ := hd
                    have d0 : ρ (.tmp 176) = .slice (some ⟨gz, oz, none⟩) wl.length wc := d0
                    have d1 : ρ (.tmp 177) = .int .i64 (j : Int) := d1
                    refine (if_pos (by rfl)).mpr ?_
                    refine Og.gives_is (.pointer (some ⟨gz, oz + j * 18, none⟩)) ?_ (And.intro (Below.refl _ _) rfl)
                    go_simp
                  · refine ⟨fun v w hv => by (have hv' : v = .bool true := hv); subst hv'; exact (if_pos rfl).mpr rfl, fun ρ w1 hr hd => ?_⟩
                    obtain ⟨d0, _⟩ := hd
                    have d0 : ρ (.tmp 178) = .pointer (some ⟨gz, oz + j * 18, none⟩) := d0
                    refine (if_pos (by rfl)).mpr ?_
                    refine Og.gives_is (.agg (Ln.cells m).toArray) ?_ (And.intro (Below.refl _ _) rfl)
                    exact Og.load_run 30 (.tmp 178) rfl ⟨gz, oz + j * 18, none⟩ d0 (run_loadVar_at w1 gz (oz + j * 18) 30 (Ln.cells m) _ (fun i c hi => Ev.kp_below hr _ _ (HCD.out i c hi)) Try.underlying30 rfl (by rw [OM.out.len]; exact Ln.size_line))
                  · refine ⟨fun v w hv => by (have hv' : v = .bool true := hv); subst hv'; exact (if_pos rfl).mpr rfl, fun ρ w1 hr hd => ?_⟩
                    obtain ⟨d0, _⟩ := hd
                    have d0 : ρ (.tmp 16) = .pointer (some ⟨gb, 0, none⟩) := d0
                    refine (if_pos (by rfl)).mpr ?_
                    refine Og.gives_is (.agg (Ln.cells mg).toArray) ?_ (And.intro (Below.refl _ _) rfl)
                    exact Og.load_run 30 (.tmp 16) rfl ⟨gb, 0, none⟩ d0 (run_loadVar_row w1 gb 30 30 _ (0, 0) _ ((hr.block gb (Array.getElem?_eq_some_iff.1 RD.out.row).1).trans RD.out.row) Try.underlying30 rfl (by rw [OMG.out.size]; exact Ln.size_line))
                  · refine ⟨fun v w hv => by (have hv' : v = .bool true := hv); subst hv'; exact (if_pos rfl).mpr rfl, fun ρ w1 hr hd => ?_⟩
                    obtain ⟨d0, d1, _⟩ := hd
                    have d0 : ρ (.tmp 179) = .agg (Ln.cells m).toArray := d0
                    have d1 : ρ (.tmp 180) = .agg (Ln.cells mg).toArray := d1
                    refine (if_pos (by rfl)).mpr ?_
                    refine Og.gives_is (.bool true) ?_ (And.intro (Below.refl _ _) rfl)
                    exact Ln.neq_op (a := m) (b := mg) (.tmp 179) (.tmp 180) rfl OM.out OMG.out d0 d1 true (by rw [Bool.eq_false_iff.2 (fun h => hmg2 ((Ln.eqL_iff OM.out OMG.out).1 h))]; rfl) w1
                  · refine ⟨rfl, fun ρ w1 hr hd => ?_⟩
                    obtain ⟨d0, d1, d2, _⟩ := hd
                    have d0 : ρ (.tmp 175) = .bool true := d0
                    have d1 : ρ (.tmp 181) = .bool true := d1
                    have d2 : ρ (.const (Value.bool false)) = (Value.bool false) := d2
                    refine (if_pos (by rfl)).mpr ?_
                    refine Og.gives_is (.bool true) ?_ (And.intro (Below.refl _ _) rfl)
                    go_simp
                  · refine ⟨rfl, fun ρ w1 hr hd => ?_⟩
                    obtain ⟨d0, _⟩ := hd
                    have d0 : ρ (.tmp 182) = .bool true := d0
                    refine (if_pos (by rfl)).mpr ?_
                    refine Og.gives_is (.bool true) ?_ (And.intro (Below.refl _ _) rfl)
                    go_simp
                  · refine ⟨fun v w hv => by (have hv' : v = .bool true := hv); subst hv'; exact (if_pos rfl).mpr rfl, fun ρ w1 hr hd => ?_⟩
                    obtain ⟨d0, _⟩ := hd
                    have d0 : ρ (.tmp 22) = .pointer (some ⟨yb, 0, none⟩) := d0
                    refine (if_pos (by rfl)).mpr ?_
                    refine Og.gives_is (.agg (Ln.cells m1).toArray) ?_ (And.intro (Below.refl _ _) rfl)
                    exact Og.load_run 30 (.tmp 22) rfl ⟨yb, 0, none⟩ d0 (run_loadVar_row w1 yb 30 30 _ (0, 0) _ ((hr.block yb (Array.getElem?_eq_some_iff.1 YD.out).1).trans YD.out) Try.underlying30 rfl (by rw [O1.out.size]; exact Ln.size_line))
                  · refine ⟨fun v w hv => by (have hv' : v = .bool true := hv); subst hv'; exact (if_pos rfl).mpr rfl, fun ρ w1 hr hd => ?_⟩
                    obtain ⟨d0, _⟩ := hd
                    have d0 : ρ (.tmp 14) = .slice (some ⟨gz, oz, none⟩) wl.length wc := d0
                    refine (if_pos (by rfl)).mpr ?_
                    refine Og.gives_is (.slice (some ⟨gz, oz, none⟩) wl.length wc) ?_ (And.intro (Below.refl _ _) rfl)
                    go_simp
                  · refine ⟨fun v w hv => by (have hv' : v = .bool true := hv); subst hv'; exact (if_pos rfl).mpr rfl, fun ρ w1 hr hd => ?_⟩
                    obtain ⟨d0, _⟩ := hd
                    have d0 : ρ (.tmp 21) = .int .i64 (j : Int) := d0
                    refine (if_pos (by rfl)).mpr ?_
                    refine Og.gives_is (.int .i64 (j : Int)) ?_ (And.intro (Below.refl _ _) rfl)
                    go_simp
                  · refine ⟨fun v w hv => by (have hv' : v = .bool true := hv); subst hv'; exact (if_pos rfl).mpr rfl, fun ρ w1 hr hd => ?_⟩
                    obtain ⟨d0, d1, _⟩ := hd
                    have d0 : ρ (.tmp 185) = .slice (some ⟨gz, oz, none⟩) wl.length wc := d0
                    have d1 : ρ (.tmp 186) = .int .i64 (j : Int) := d1
                    refine (if_pos (by rfl)).mpr ?_
                    refine Og.gives_is (.pointer (some ⟨gz, oz + j * 18, none⟩)) ?_ (And.intro (Below.refl _ _) rfl)
                    go_simp
                  · refine ⟨fun v w hv => by (have hv' : v = .bool true := hv); subst hv'; exact (if_pos rfl).mpr rfl, fun ρ w1 hr hd => ?_⟩
                    obtain ⟨d0, _⟩ := hd
                    have d0 : ρ (.tmp 187) = .pointer (some ⟨gz, oz + j * 18, none⟩) := d0
                    refine (if_pos (by rfl)).mpr ?_
                    refine Og.gives_is (.agg (Ln.cells m).toArray) ?_ (And.intro (Below.refl _ _) rfl)
                    exact Og.load_run 30 (.tmp 187) rfl ⟨gz, oz + j * 18, none⟩ d0 (run_loadVar_at w1 gz (oz + j * 18) 30 (Ln.cells m) _ (fun i c hi => Ev.kp_below hr _ _ (HCD.out i c hi)) Try.underlying30 rfl (by rw [OM.out.len]; exact Ln.size_line))
                  · refine ⟨fun v w hv => by (have hv' : v = .bool true := hv); subst hv'; exact (if_pos rfl).mpr rfl, fun ρ w1 hr hd => ?_⟩
                    obtain ⟨d0, d1, _⟩ := hd
                    have d0 : ρ (.tmp 184) = .agg (Ln.cells m1).toArray := d0
                    have d1 : ρ (.tmp 188) = .agg (Ln.cells m).toArray := d1
                    refine (if_pos (by rfl)).mpr ?_
                    refine Og.gives_is (.bool false) ?_ (And.intro (Below.refl _ _) rfl)
                    exact Ln.neq_op (a := m1) (b := m) (.tmp 184) (.tmp 188) rfl O1.out OM.out d0 d1 false (by rw [hm1, Ln.eqL_self OM.out]; rfl) w1
                  · refine ⟨fun v w hv => by (have hv' : v = .bool true := hv); subst hv'; exact (if_pos rfl).mpr rfl, fun ρ w1 hr hd => ?_⟩
                    obtain ⟨d0, _⟩ := hd
                    have d0 : ρ (.tmp 189) = .bool false := d0
                    refine (if_pos (by rfl)).mpr ?_
                    refine Og.gives_is (.bool false) ?_ (And.intro (Below.refl _ _) rfl)
                    go_simp
                  · refine ⟨fun v w hv => by (have hv' : v = .bool false := hv); subst hv'; exact (if_pos rfl).mpr rfl, fun ρ w1 hr hd => ?_⟩
                    obtain ⟨d0, _⟩ := hd
                    have d0 : ρ (.tmp 23) = .bool true := d0
                    refine (if_pos (by rfl)).mpr ?_
                    refine Og.gives_is (.bool true) ?_ (And.intro (Below.refl _ _) rfl)
                    go_simp
                  · refine ⟨fun v w hv => by (have hv' : v = .bool false := hv); subst hv'; exact (if_pos rfl).mpr rfl, fun ρ w1 hr hd => ?_⟩
                    obtain ⟨d0, _⟩ := hd
                    have d0 : ρ (.tmp 191) = .bool true := d0
                    refine (if_pos (by rfl)).mpr ?_
                    refine Og.gives_is (.bool false) ?_ (And.intro (Below.refl _ _) rfl)
                    simp only [execOp, d0]; go_simp; try simp
                  · refine ⟨fun v w hv => by (have hv' : v = .bool true := hv); subst hv'; exact (if_pos rfl).mpr rfl, fun ρ w1 hr hd => ?_⟩
                    obtain ⟨d0, d1, d2, _⟩ := hd
                    have d0 : ρ (.tmp 190) = .bool false := d0
                    have d1 : ρ (.const (Value.bool true)) = (Value.bool true) := d1
                    have d2 : ρ (.tmp 192) = .bool false := d2
                    refine (if_pos (by rfl)).mpr ?_
                    refine Og.gives_is (.bool false) ?_ (And.intro (Below.refl _ _) rfl)
                    go_simp
                  · refine ⟨rfl, fun ρ w1 hr hd => ?_⟩
                    obtain ⟨d0, d1, d2, _⟩ := hd
                    have d0 : ρ (.tmp 183) = .bool true := d0
                    have d1 : ρ (.tmp 193) = .bool false := d1
                    have d2 : ρ (.const (Value.bool false)) = (Value.bool false) := d2
                    refine (if_pos (by rfl)).mpr ?_
                    refine Og.gives_is (.bool false) ?_ (And.intro (Below.refl _ _) rfl)
                    go_simp
                · intro vs w1 hbz hall
                  have e0 : vs 0 = .slice (some ⟨gz, oz, none⟩) wl.length wc := hall 0 _ 166 rfl rfl
                  have e1 : vs 1 = .int .i64 (j : Int) := hall 1 _ 167 rfl rfl
                  have e2 : vs 2 = .pointer (some ⟨gz, oz + j * 18, none⟩) := hall 2 _ 168 rfl rfl
                  have e3 : vs 3 = .pointer (some ⟨gz, oz + j * 18, none⟩) := hall 3 _ 169 rfl rfl
                  have e4 : vs 4 = .int .u32 m.n := hall 4 _ 170 rfl rfl
                  have e5 : vs 5 = .pointer (some ⟨xb, 1, none⟩) := hall 5 _ 171 rfl rfl
                  have e6 : vs 6 = .pointer (some ⟨xb, 1, none⟩) := hall 6 _ 172 rfl rfl
                  have e7 : vs 7 = .int .u32 y.e.n := hall 7 _ 173 rfl rfl
                  have e8 : vs 8 = .bool true := hall 8 _ 174 rfl rfl
                  have e9 : vs 9 = .bool true := hall 9 _ 175 rfl rfl
                  have e10 : vs 10 = .slice (some ⟨gz, oz, none⟩) wl.length wc := hall 10 _ 176 rfl rfl
                  have e11 : vs 11 = .int .i64 (j : Int) := hall 11 _ 177 rfl rfl
                  have e12 : vs 12 = .pointer (some ⟨gz, oz + j * 18, none⟩) := hall 12 _ 178 rfl rfl
                  have e13 : vs 13 = .agg (Ln.cells m).toArray := hall 13 _ 179 rfl rfl
                  have e14 : vs 14 = .agg (Ln.cells mg).toArray := hall 14 _ 180 rfl rfl
                  have e15 : vs 15 = .bool true := hall 15 _ 181 rfl rfl
                  have e16 : vs 16 = .bool true := hall 16 _ 182 rfl rfl
                  have e17 : vs 17 = .bool true := hall 17 _ 183 rfl rfl
                  have e18 : vs 18 = .agg (Ln.cells m1).toArray := hall 18 _ 184 rfl rfl
                  have e19 : vs 19 = .slice (some ⟨gz, oz, none⟩) wl.length wc := hall 19 _ 185 rfl rfl
                  have e20 : vs 20 = .int .i64 (j : Int) := hall 20 _ 186 rfl rfl
                  have e21 : vs 21 = .pointer (some ⟨gz, oz + j * 18, none⟩) := hall 21 _ 187 rfl rfl
                  have e22 : vs 22 = .agg (Ln.cells m).toArray := hall 22 _ 188 rfl rfl
                  have e23 : vs 23 = .bool false := hall 23 _ 189 rfl rfl
                  have e24 : vs 24 = .bool false := hall 24 _ 190 rfl rfl
                  have e25 : vs 25 = .bool true := hall 25 _ 191 rfl rfl
                  have e26 : vs 26 = .bool false := hall 26 _ 192 rfl rfl
                  have e27 : vs 27 = .bool false := hall 27 _ 193 rfl rfl
                  have e28 : vs 28 = .bool false := hall 28 _ 194 rfl rfl
                  have HBZ := Lib.hid hbz
                  simp only [Og.putAll, Act.put, List.setIfInBounds_toArray, List.set_cons_zero, List.set_cons_succ, Nat.zero_add, Nat.reduceAdd, e0, e1, e2, e3, e4, e5, e6, e7, e8, e9, e10, e11, e12, e13, e14, e15, e16, e17, e18, e19, e20, e21, e22, e23, e24, e25, e26, e27, e28]
                  clear hall hbz
                  go_wp2_with fail
                  go_roundw
                  case rel => exact ⟨j + 1, by omega, by go_num, BLD.out.trans (HBZ.out.mono BLD.out.size)⟩
                  case measure => simp [intOf]; omega
          · have hji : ¬ (j : Int) < (wl.length : Int) := by omega
            have BE := Lib.hid (RB.out.cl.bel.trans (BL.out.mono RB.out.cl.bel.size))
            go_wp2_with (go_at_call 21; (with_reducible refine (works_any _).mono ?_); rintro e' WE ⟨rfl, hb⟩; have B9 := Lib.hid (BE.out.trans (hb.mono BE.out.size)); clear hb)
            go_ret
            exact ⟨rfl, B0.out.trans (B9.out.mono B0.out.size)⟩
      · obtain ⟨mg, v1, v2, v3, v4, v5, v6⟩ := Ln.room RL.out HH.out hpe pick
        rw [hpe]
        rw [v6] at RM
        have OV := Lib.hid (RL.out.ok mg v2)
        have KV := Lib.hid (show Calls Try.prog 12 #[.pointer (some ⟨p, 0, none⟩), .int .u32 y.e.n, .int .i64 pick] W4 fun e w' => e = .returned (.tuple #[.agg (Ln.cells mg).toArray, .bool true]) ∧ Below W4.heap.size W4 w' from by
          have h1 := victim_any y.e.n pick HY.out.n HP.out W4 RM.out.cl.cache
          unfold Ln.optV at h1
          rw [v1] at h1
          exact h1)
        have V2 := Lib.hid v2; have V4 := Lib.hid v4; have V5 := Lib.hid v5
        obtain ⟨r, hr, r1, q2, r3⟩ := Ln.mod_at HY.out.n h0 h1
        obtain ⟨r', hr', r1', q2', r3'⟩ := Ln.mod_at OV.out.n h0 h1
        have hrr : r' = r := by rw [← r1', ← r1]; exact v3
        rw [hrr] at r3'
        have hsz : ¬ (s : Int) = 0 := by omega
        have hyn := HY.out.n
        have hvn := OV.out.n
        unfold Ev.u32B at hyn hvn
        clear v1 v2 v3 v4 v5 v6 hr hr' r1 r1' q2 q2' hrr
        have X4 := Lib.hid ((RM.out.cl.bel.block xb (Array.getElem?_eq_some_iff.1 X0.out).1).trans X0.out)
        have xn4 : W4.cell? ⟨xb, 1, none⟩ = some (.int .u32 y.e.n) := by rw [cell_of_row _ _ _ _ _ _ X4.out]; rfl
        go_wp2_with (first
          | (go_at_call 13; (with_reducible refine (num_any _ _).mono ?_); rintro e' W8 ⟨rfl, hw8⟩; subst hw8)
          | (go_at_call 12; (with_reducible refine KV.out.mono ?_); rintro e' W5 ⟨rfl, hb5⟩
             have R5 := Lib.hid (RM.out.kp hb5)
             clear hb5)
          | ((with_reducible show wpList _ _ _ (Oper.mk none (Op.store 30 _ _) _ _ _ _ :: _) _ _); refine wpList_store_own rfl 30 (.tmp 17) (.tmp 96) rfl W5.heap.size (Ln.cells mg).toArray rfl rfl 30 #[.int .u32 0, .int .i64 0, .int .u8 0, .int .u8 0, .int .u8 0, .int .u8 0, .int .u8 0, .int .u8 0, .int .u8 0, .int .u8 0, .int .u8 0, .int .u8 0, .int .u8 0, .int .u8 0, .int .u8 0, .int .u8 0, .int .u8 0, .int .u8 0] (heap_alloc_new W5 _) (by rw [OV.out.size]; exact Ln.size_line) (by rw [OV.out.size]; rfl) (Ln.cells_all mg) ?_
             intro W6 HW6
             have R6 := Lib.hid (R5.out.kp (show Below W5.heap.size W5 W6 from ((Below.refl W5.heap.size W5).alloc (Nat.le_refl _) _).trans HW6.below))
             have V6 := Lib.hid HW6.row
             clear HW6
             refine Ln.Stop.out ?_))
        refine ⟨?_⟩
        obtain ⟨vb, hvb⟩ : ∃ vb, vb = W5.heap.size := ⟨_, rfl⟩
        rw [← hvb] at V6 ⊢
        have nvb : ¬ F3 vb := fun h => by have := R5.out.cl.cache.lt vb h; omega
        clear hvb xn4 KV R5 RM X4
        go_wp2_with fail
        obtain ⟨wq, hwq⟩ : ∃ wq, wq = { W6 with drawn := W6.drawn + 1 } := ⟨_, rfl⟩
        have BQ := Lib.hid (show Below W6.heap.size W6 wq by rw [hwq]; exact ⟨rfl, rfl, rfl, Nat.le_refl _, fun _ _ => rfl⟩)
        have HWQ := Lib.hid hwq
        clear hwq
        have RQ := Lib.hid (R6.out.kp BQ.out)
        have VQ := Lib.hid ((BQ.out.block vb (Array.getElem?_eq_some_iff.1 V6.out).1).trans V6.out)
        have XQ := Lib.hid ((RQ.out.cl.bel.block xb (Array.getElem?_eq_some_iff.1 X0.out).1).trans X0.out)
        have HFA := Lib.hid (show (fun x : World => x.cell? ⟨vb, 0, none⟩ = some (.int .u32 mg.n) ∧ x.cell? ⟨xb, 1, none⟩ = some (.int .u32 y.e.n)) wq from ⟨by rw [cell_of_row _ _ _ _ _ _ VQ.out]; rfl, by rw [cell_of_row _ _ _ _ _ _ XQ.out]; rfl⟩)
        refine Og.region_S (S := Og.SF 20 (fun x : World => x.cell? ⟨vb, 0, none⟩ = some (.int .u32 mg.n) ∧ x.cell? ⟨xb, 1, none⟩ = some (.int .u32 y.e.n))) (by kernel_rfl) ?_
        rw [← HWQ.out]
        refine Og.s_take 0 { dst := some 98, op := Go.Op.move (Go.Operand.tmp 18), type := 4, pos := "law.go:173", after := #[], guard := none } (.bool true) _ (by kernel_rfl) (by kernel_rfl) (by kernel_rfl) (by kernel_rfl) (by kernel_rfl) (fun _ _ _ h => h) (fun _ => HFA.out) (fun x' hx => ?_) (by simp only [Act.put, List.setIfInBounds_toArray, List.set_cons_zero, List.set_cons_succ]; rfl) ?_
        · go_simp; try (with_reducible rfl)
        refine Og.s_take 1 { dst := some 99, op := Go.Op.unOp Go.UnOp.not 4 (Go.Operand.tmp 98), type := 4, pos := "law.go:173", after := #[{ on := 0, ground := Go.Ground.data }], guard := none } (.bool false) _ (by kernel_rfl) (by kernel_rfl) (by kernel_rfl) (by kernel_rfl) (by kernel_rfl) (fun _ _ _ h => h) (fun _ => HFA.out) (fun x' hx => ?_) (by simp only [Act.put, List.setIfInBounds_toArray, List.set_cons_zero, List.set_cons_succ]; rfl) ?_
        · go_simp; try (with_reducible rfl)
        refine Og.s_take 2 { dst := some 100, op := Go.Op.move (Go.Operand.tmp 99), type := 4, pos := "law.go:173", after := #[{ on := 1, ground := Go.Ground.data }], guard := none } (.bool false) _ (by kernel_rfl) (by kernel_rfl) (by kernel_rfl) (by kernel_rfl) (by kernel_rfl) (fun _ _ _ h => h) (fun _ => HFA.out) (fun x' hx => ?_) (by simp only [Act.put, List.setIfInBounds_toArray, List.set_cons_zero, List.set_cons_succ]; rfl) ?_
        · go_simp; try (with_reducible rfl)
        refine Og.s_take_g 3 { dst := some 101, op := Go.Op.fieldAddr 30 (Go.Operand.tmp 17) 0, type := 0, pos := "law.go:173", after := #[{ on := 2, ground := Go.Ground.guard }], guard := some (2, false) } (.pointer (some ⟨vb, 0, none⟩)) _ (by kernel_rfl) rfl (by kernel_rfl) (by kernel_rfl) (by kernel_rfl) (fun _ _ _ h => h) (fun _ => HFA.out) (fun x' hx => ?_) (by simp only [Act.put, List.setIfInBounds_toArray, List.set_cons_zero, List.set_cons_succ]; rfl) ?_
        · go_simp; try (with_reducible rfl)
        refine Og.s_take_g 4 { dst := some 102, op := Go.Op.load 26 (Go.Operand.tmp 101), type := 26, pos := "law.go:173", after := #[{ on := 3, ground := Go.Ground.data }, { on := 2, ground := Go.Ground.guard }], guard := some (2, false) } (.int .u32 mg.n) _ (by kernel_rfl) rfl (by kernel_rfl) (by kernel_rfl) (by kernel_rfl) (fun _ _ _ h => h) (fun _ => HFA.out) (fun x' hx => ?_) (by simp only [Act.put, List.setIfInBounds_toArray, List.set_cons_zero, List.set_cons_succ]; rfl) ?_
        · have hx1 := (hx (by decide)).1; go_simp; try (with_reducible rfl)
        refine Og.s_take_g 5 { dst := some 103, op := Go.Op.move (Go.Operand.tmp 0), type := 3, pos := "law.go:173", after := #[{ on := 2, ground := Go.Ground.guard }], guard := some (2, false) } (.int .i64 (s : Int)) _ (by kernel_rfl) rfl (by kernel_rfl) (by kernel_rfl) (by kernel_rfl) (fun _ _ _ h => h) (fun _ => HFA.out) (fun x' hx => ?_) (by simp only [Act.put, List.setIfInBounds_toArray, List.set_cons_zero, List.set_cons_succ]; rfl) ?_
        · go_simp; try (with_reducible rfl)
        refine Og.s_take_g 6 { dst := some 104, op := Go.Op.convert 3 26 (Go.Operand.tmp 103), type := 26, pos := "law.go:173", after := #[{ on := 5, ground := Go.Ground.data }, { on := 2, ground := Go.Ground.guard }], guard := some (2, false) } (.int .u32 (s : Int)) _ (by kernel_rfl) rfl (by kernel_rfl) (by kernel_rfl) (by kernel_rfl) (fun _ _ _ h => h) (fun _ => HFA.out) (fun x' hx => ?_) (by simp only [Act.put, List.setIfInBounds_toArray, List.set_cons_zero, List.set_cons_succ]; rfl) ?_
        · go_simp; try (rw [IntKind.wrap_u32]; omega)
        refine Og.s_take_g 7 { dst := some 105, op := Go.Op.binOp Go.BinOp.rem 26 (Go.Operand.tmp 102) (Go.Operand.tmp 104) 26, type := 26, pos := "law.go:173", after := #[{ on := 4, ground := Go.Ground.data }, { on := 6, ground := Go.Ground.data }, { on := 2, ground := Go.Ground.guard }], guard := some (2, false) } (.int .u32 (r : Int)) _ (by kernel_rfl) rfl (by kernel_rfl) (by kernel_rfl) (by kernel_rfl) (fun _ _ _ h => h) (fun _ => HFA.out) (fun x' hx => ?_) (by simp only [Act.put, List.setIfInBounds_toArray, List.set_cons_zero, List.set_cons_succ]; rfl) ?_
        · go_simp; try simp [hsz, r3', Nat.ne_of_gt h0]
        refine Og.s_take_g 8 { dst := some 106, op := Go.Op.fieldAddr 56 (Go.Operand.tmp 8) 1, type := 0, pos := "law.go:173", after := #[{ on := 2, ground := Go.Ground.guard }], guard := some (2, false) } (.pointer (some ⟨xb, 1, none⟩)) _ (by kernel_rfl) rfl (by kernel_rfl) (by kernel_rfl) (by kernel_rfl) (fun _ _ _ h => h) (fun _ => HFA.out) (fun x' hx => ?_) (by simp only [Act.put, List.setIfInBounds_toArray, List.set_cons_zero, List.set_cons_succ]; rfl) ?_
        · go_simp; try (with_reducible rfl)
        refine Og.s_take_g 9 { dst := some 107, op := Go.Op.fieldAddr 30 (Go.Operand.tmp 106) 0, type := 0, pos := "law.go:173", after := #[{ on := 8, ground := Go.Ground.data }, { on := 2, ground := Go.Ground.guard }], guard := some (2, false) } (.pointer (some ⟨xb, 1, none⟩)) _ (by kernel_rfl) rfl (by kernel_rfl) (by kernel_rfl) (by kernel_rfl) (fun _ _ _ h => h) (fun _ => HFA.out) (fun x' hx => ?_) (by simp only [Act.put, List.setIfInBounds_toArray, List.set_cons_zero, List.set_cons_succ]; rfl) ?_
        · go_simp; try (with_reducible rfl)
        refine Og.s_take_g 10 { dst := some 108, op := Go.Op.load 26 (Go.Operand.tmp 107), type := 26, pos := "law.go:173", after := #[{ on := 9, ground := Go.Ground.data }, { on := 2, ground := Go.Ground.guard }], guard := some (2, false) } (.int .u32 y.e.n) _ (by kernel_rfl) rfl (by kernel_rfl) (by kernel_rfl) (by kernel_rfl) (fun _ _ _ h => h) (fun _ => HFA.out) (fun x' hx => ?_) (by simp only [Act.put, List.setIfInBounds_toArray, List.set_cons_zero, List.set_cons_succ]; rfl) ?_
        · have hx1 := (hx (by decide)).2; go_simp; try (with_reducible rfl)
        refine Og.s_take_g 11 { dst := some 109, op := Go.Op.move (Go.Operand.tmp 0), type := 3, pos := "law.go:173", after := #[{ on := 2, ground := Go.Ground.guard }], guard := some (2, false) } (.int .i64 (s : Int)) _ (by kernel_rfl) rfl (by kernel_rfl) (by kernel_rfl) (by kernel_rfl) (fun _ _ _ h => h) (fun _ => HFA.out) (fun x' hx => ?_) (by simp only [Act.put, List.setIfInBounds_toArray, List.set_cons_zero, List.set_cons_succ]; rfl) ?_
        · go_simp; try (with_reducible rfl)
        refine Og.s_take_g 12 { dst := some 110, op := Go.Op.convert 3 26 (Go.Operand.tmp 109), type := 26, pos := "law.go:173", after := #[{ on := 11, ground := Go.Ground.data }, { on := 2, ground := Go.Ground.guard }], guard := some (2, false) } (.int .u32 (s : Int)) _ (by kernel_rfl) rfl (by kernel_rfl) (by kernel_rfl) (by kernel_rfl) (fun _ _ _ h => h) (fun _ => HFA.out) (fun x' hx => ?_) (by simp only [Act.put, List.setIfInBounds_toArray, List.set_cons_zero, List.set_cons_succ]; rfl) ?_
        · go_simp; try (rw [IntKind.wrap_u32]; omega)
        refine Og.s_take_g 13 { dst := some 111, op := Go.Op.binOp Go.BinOp.rem 26 (Go.Operand.tmp 108) (Go.Operand.tmp 110) 26, type := 26, pos := "law.go:173", after := #[{ on := 10, ground := Go.Ground.data }, { on := 12, ground := Go.Ground.data }, { on := 2, ground := Go.Ground.guard }], guard := some (2, false) } (.int .u32 (r : Int)) _ (by kernel_rfl) rfl (by kernel_rfl) (by kernel_rfl) (by kernel_rfl) (fun _ _ _ h => h) (fun _ => HFA.out) (fun x' hx => ?_) (by simp only [Act.put, List.setIfInBounds_toArray, List.set_cons_zero, List.set_cons_succ]; rfl) ?_
        · go_simp; try simp [hsz, r3, Nat.ne_of_gt h0]
        refine Og.s_take_g 14 { dst := some 112, op := Go.Op.binOp Go.BinOp.neq 26 (Go.Operand.tmp 105) (Go.Operand.tmp 111) 26, type := 4, pos := "law.go:173", after := #[{ on := 7, ground := Go.Ground.data }, { on := 13, ground := Go.Ground.data }, { on := 2, ground := Go.Ground.guard }], guard := some (2, false) } (.bool false) _ (by kernel_rfl) rfl (by kernel_rfl) (by kernel_rfl) (by kernel_rfl) (fun _ _ _ h => h) (fun _ => HFA.out) (fun x' hx => ?_) (by simp only [Act.put, List.setIfInBounds_toArray, List.set_cons_zero, List.set_cons_succ]; rfl) ?_
        · go_simp; try simp
        refine Og.s_take 15 { dst := some 113, op := Go.Op.pick (Go.Operand.tmp 100) (Go.Operand.const (Go.Value.bool true)) (Go.Operand.tmp 112), type := 4, pos := "law.go:173", after := #[{ on := 2, ground := Go.Ground.data }, { on := 14, ground := Go.Ground.data }], guard := none } (.bool false) _ (by kernel_rfl) (by kernel_rfl) (by kernel_rfl) (by kernel_rfl) (by kernel_rfl) (fun _ _ _ h => h) (fun _ => HFA.out) (fun x' hx => ?_) (by simp only [Act.put, List.setIfInBounds_toArray, List.set_cons_zero, List.set_cons_succ]; rfl) ?_
        · go_simp; try (with_reducible rfl)
        refine Og.s_take 16 { dst := some 114, op := Go.Op.move (Go.Operand.tmp 113), type := 4, pos := "law.go:173", after := #[{ on := 15, ground := Go.Ground.data }, { on := 2, ground := Go.Ground.chain }], guard := none } (.bool false) _ (by kernel_rfl) (by kernel_rfl) (by kernel_rfl) (by kernel_rfl) (by kernel_rfl) (fun _ _ _ h => h) (fun _ => HFA.out) (fun x' hx => ?_) (by simp only [Act.put, List.setIfInBounds_toArray, List.set_cons_zero, List.set_cons_succ]; rfl) ?_
        · go_simp; try (with_reducible rfl)
        refine Og.s_take_g 17 { dst := some 115, op := Go.Op.move (Go.Operand.tmp 11), type := 22, pos := "law.go:173", after := #[{ on := 16, ground := Go.Ground.guard }], guard := some (16, false) } (.pointer (some ⟨p, 0, none⟩)) _ (by kernel_rfl) rfl (by kernel_rfl) (by kernel_rfl) (by kernel_rfl) (fun _ _ _ h => h) (fun _ => HFA.out) (fun x' hx => ?_) (by simp only [Act.put, List.setIfInBounds_toArray, List.set_cons_zero, List.set_cons_succ]; rfl) ?_
        · go_simp; try (with_reducible rfl)
        refine Og.s_take_g 18 { dst := some 116, op := Go.Op.fieldAddr 30 (Go.Operand.tmp 17) 0, type := 0, pos := "law.go:173", after := #[{ on := 16, ground := Go.Ground.guard }], guard := some (16, false) } (.pointer (some ⟨vb, 0, none⟩)) _ (by kernel_rfl) rfl (by kernel_rfl) (by kernel_rfl) (by kernel_rfl) (fun _ _ _ h => h) (fun _ => HFA.out) (fun x' hx => ?_) (by simp only [Act.put, List.setIfInBounds_toArray, List.set_cons_zero, List.set_cons_succ]; rfl) ?_
        · go_simp; try (with_reducible rfl)
        refine Og.s_take_g 19 { dst := some 117, op := Go.Op.load 26 (Go.Operand.tmp 116), type := 26, pos := "law.go:173", after := #[{ on := 18, ground := Go.Ground.data }, { on := 16, ground := Go.Ground.guard }], guard := some (16, false) } (.int .u32 mg.n) _ (by kernel_rfl) rfl (by kernel_rfl) (by kernel_rfl) (by kernel_rfl) (fun _ _ _ h => h) (fun _ => HFA.out) (fun x' hx => ?_) (by simp only [Act.put, List.setIfInBounds_toArray, List.set_cons_zero, List.set_cons_succ]; rfl) ?_
        · have hx1 := (hx (by decide)).1; go_simp; try (with_reducible rfl)
        refine Og.s_one_g 20 { dst := some 118, op := Go.Op.call { callee := Go.Callee.value (Go.Operand.func 15), args := #[Go.Operand.tmp 115, Go.Operand.tmp 117], argTypes := #[22, 26] }, type := 4, pos := "law.go:173", after := #[{ on := 17, ground := Go.Ground.data }, { on := 19, ground := Go.Ground.data }, { on := 16, ground := Go.Ground.chain }, { on := 16, ground := Go.Ground.guard }], guard := some (16, false) } (by kernel_rfl) rfl (by kernel_rfl) ?_
        refine Og.call_to (w1 := wq) (f := 15) (args := #[.pointer (some ⟨p, 0, none⟩), .int .u32 mg.n]) (by go_simp) ?_
        have KD := Ln.drop_rows OV.out.n RQ.out.cl.cache RL.out
        rw [decide_eq_true V4.out] at KD
        refine KD.mono ?_
        clear KD
        rintro e' W7 ⟨rfl, ht7⟩
        obtain ⟨F7, h7, hfr7, hk7⟩ := RQ.out.turn ht7
        have R7 := Lib.hid h7
        have V7 := Lib.hid ((hfr7.block vb (Array.getElem?_eq_some_iff.1 VQ.out).1 nvb).trans VQ.out)
        have X7 := Lib.hid ((R7.out.cl.bel.block xb (Array.getElem?_eq_some_iff.1 X0.out).1).trans X0.out)
        refine ⟨_, rfl, Og.keep_sf (fun h => ⟨by rw [cell_of_row _ _ _ _ _ _ V7.out]; rfl, by rw [cell_of_row _ _ _ _ _ _ X7.out]; rfl⟩), ?_⟩
        clear ht7 h7 hfr7 hk7
        refine Og.s_take_g 21 { dst := some 119, op := Go.Op.unOp Go.UnOp.not 4 (Go.Operand.tmp 118), type := 4, pos := "law.go:173", after := #[{ on := 20, ground := Go.Ground.data }, { on := 16, ground := Go.Ground.guard }], guard := some (16, false) } (.bool false) _ (by kernel_rfl) rfl (by kernel_rfl) (by kernel_rfl) (by kernel_rfl) (fun _ _ _ h => h) (fun h => absurd h (by decide)) (fun x' hx => ?_) (by simp only [Act.put, List.setIfInBounds_toArray, List.set_cons_zero, List.set_cons_succ]; rfl) ?_
        · go_simp; try (with_reducible rfl)
        refine Og.s_take 22 { dst := some 120, op := Go.Op.pick (Go.Operand.tmp 114) (Go.Operand.const (Go.Value.bool true)) (Go.Operand.tmp 119), type := 4, pos := "law.go:173", after := #[{ on := 16, ground := Go.Ground.data }, { on := 21, ground := Go.Ground.data }], guard := none } (.bool false) _ (by kernel_rfl) (by kernel_rfl) (by kernel_rfl) (by kernel_rfl) (by kernel_rfl) (fun _ _ _ h => h) (fun h => absurd h (by decide)) (fun x' hx => ?_) (by simp only [Act.put, List.setIfInBounds_toArray, List.set_cons_zero, List.set_cons_succ]; rfl) ?_
        · go_simp; try (with_reducible rfl)
        refine Og.s_done (by kernel_rfl) ?_ _
        try simp only [Act.put, List.setIfInBounds_toArray, List.set_cons_zero, List.set_cons_succ]
        clear HFA HWQ BQ VQ XQ RQ R6
        have KP2 := Lib.hid (Ln.put_rows HY.out R7.out.cl.cache (RL.out.drop mg.n))
        clear KP2
        go_wp2_with (first
          | ((with_reducible show wpList _ _ _ (Oper.mk (some 121) _ _ _ _ _ :: _) _ _); refine wpList_load_row rfl 30 (.tmp 17) rfl vb rfl 30 (Ln.cells mg).toArray (0, 0) _ V7.out Try.underlying30 rfl (by rw [OV.out.size]; exact Ln.size_line) ?_)
          | ((with_reducible show wpList _ _ _ (Oper.mk none (Op.store 30 _ _) _ _ _ _ :: _) _ _); refine wpList_store_own rfl 30 (.tmp 16) (.tmp 121) rfl gb (Ln.cells mg).toArray rfl rfl 30 (Ln.cells Ln.E0).toArray R7.out.row (by rw [OV.out.size]; exact Ln.size_line) (by rw [OV.out.size]; rfl) (Ln.cells_all mg) ?_
             intro W8 HW8
             have R8 := Lib.hid (R7.out.gone HW8)
             have X8 := Lib.hid ((R8.out.cl.bel.block xb (Array.getElem?_eq_some_iff.1 X0.out).1).trans X0.out)
             have LX8 := Lib.hid (Ln.line_of_act X8.out)
             have KP2 := Lib.hid (Ln.put_rows HY.out R8.out.cl.cache (RL.out.drop mg.n))
             rw [V5.out] at KP2
             clear HW8)
          | ((with_reducible show wpList _ _ _ (Oper.mk (some 124) _ _ _ _ _ :: _) _ _); refine wpList_load_at rfl 30 (.tmp 123) rfl xb 1 rfl (Ln.cells y.e) _ LX8.out Try.underlying30 rfl (by rw [HY.out.len]; exact Ln.size_line) ?_)
          | (go_at_call 14; (with_reducible refine KP2.out.mono ?_); rintro e' W9 ⟨rfl, ht9⟩
             obtain ⟨F9, h9, hfr9, hk9⟩ := R8.out.turn ht9
             have RM := Lib.hid h9
             clear ht9 h9 hfr9 hk9
             refine Ln.Stop.out ?_))
        refine ⟨?_⟩
        have FS1 := Lib.hid (Ln.put_self HH.out V5.out)
        have FS2 := Lib.hid (fun m (hm : m ∈ wl) (h1 : m.n ≠ y.e.n) (h2 : m ≠ mg) => show Ln.fd (Ln.putRL s ways (Ln.dropL l mg.n) y.e) m.n = some m from (Ln.put_other h1).trans (Ln.drop_stays RL.out.nd (HWL.out m hm) V2.out h2))
        have RL1 := Lib.hid ((RL.out.drop mg.n).put HY.out).1
        obtain ⟨l1, hl1⟩ : ∃ l1, Ln.putRL s ways (Ln.dropL l mg.n) y.e = l1 := ⟨_, rfl⟩
        rw [hl1] at FS1 RL1 RM
        have FS2 := Lib.hid (fun m hm h1 h2 => hl1 ▸ FS2.out m hm h1 h2)
        have OMG := OV
        clear R7 R8 X8 LX8 KP2 V7 V6
        have XZ := Lib.hid ((RM.out.cl.bel.block xb (Array.getElem?_eq_some_iff.1 X0.out).1).trans X0.out)
        have xn : W9.cell? ⟨xb, 1, none⟩ = some (.int .u32 y.e.n) := by rw [cell_of_row _ _ _ _ _ _ XZ.out]; rfl
        have KF := Lib.hid (Ln.find_rows HY.out.n RM.out.cl.cache RL1.out)
        rw [FS1.out] at KF
        simp only [Option.getD_some, Option.isSome_some] at KF
        go_wp2_with (first
          | (go_at_call 13; (with_reducible refine (num_any _ _).mono ?_); rintro e' W8 ⟨rfl, hw8⟩; subst hw8)
          | (go_at_call 11; (with_reducible refine KF.out.mono ?_); rintro e' WA ⟨rfl, hba⟩
             have RA := Lib.hid (RM.out.kp hba)
             clear hba)
          | ((with_reducible show wpList _ _ _ (Oper.mk none (Op.store 30 _ _) _ _ _ _ :: _) _ _); refine wpList_store_own rfl 30 (.tmp 19) (.tmp 132) rfl WA.heap.size (Ln.cells y.e).toArray rfl rfl 30 #[.int .u32 0, .int .i64 0, .int .u8 0, .int .u8 0, .int .u8 0, .int .u8 0, .int .u8 0, .int .u8 0, .int .u8 0, .int .u8 0, .int .u8 0, .int .u8 0, .int .u8 0, .int .u8 0, .int .u8 0, .int .u8 0, .int .u8 0, .int .u8 0] (heap_alloc_new WA _) (by rw [HY.out.size]; exact Ln.size_line) (by rw [HY.out.size]; rfl) (Ln.cells_all y.e) ?_
             intro WB HWB
             have RB := Lib.hid (RA.out.kp (show Below WA.heap.size WA WB from ((Below.refl WA.heap.size WA).alloc (Nat.le_refl _) _).trans HWB.below))
             have YB := Lib.hid HWB.row
             clear HWB
             refine Ln.Stop.out ?_))
        refine ⟨?_⟩
        obtain ⟨fb, hfb⟩ : ∃ fb, fb = WA.heap.size := ⟨_, rfl⟩
        rw [← hfb] at YB ⊢
        clear hfb KF RM RA xn
        have XB := Lib.hid ((RB.out.cl.bel.block xb (Array.getElem?_eq_some_iff.1 X0.out).1).trans X0.out)
        have LXB := Lib.hid (Ln.line_of_act XB.out)
        go_wp2_with (first
          | (go_at_call 13; (with_reducible refine (num_any _ _).mono ?_); rintro e' W8 ⟨rfl, hw8⟩; subst hw8)
          | ((with_reducible show wpList _ _ _ (Oper.mk (some 141) _ _ _ _ _ :: _) _ _); refine Ev.load_row_g 30 (.tmp 19) rfl rfl fb rfl 30 (Ln.cells y.e).toArray (0, 0) _ YB.out Try.underlying30 rfl (by rw [HY.out.size]; exact Ln.size_line) ?_)
          | ((with_reducible show wpList _ _ _ (Oper.mk (some 143) _ _ _ _ _ :: _) _ _); refine Ln.wpList_val_g rfl (Og.load_run 30 (.tmp 142) rfl ⟨xb, 1, none⟩ rfl (run_loadVar_at _ xb 1 30 (Ln.cells y.e) _ LXB.out Try.underlying30 rfl (by rw [HY.out.len]; exact Ln.size_line))) ?_)
          | ((with_reducible show wpList _ _ _ (Oper.mk (some 144) _ _ _ _ _ :: _) _ _); refine Ln.wpList_val_g rfl (Ln.neq_op (a := y.e) (b := y.e) (.tmp 141) (.tmp 143) rfl HY.out HY.out rfl rfl false (by rw [Ln.eqL_self HY.out]; rfl) _) ?_))
        go_loopw [21, 22, 23] (fun i _ _ wr => ∃ k : Nat, k ≤ wl.length ∧ i = .int .i64 (k : Int) ∧ Below WB.heap.size WB wr) (fun i _ _ _ => wl.length - (intOf i).toNat)
        case atStart => exact ⟨0, Nat.zero_le _, rfl, Below.refl _ _⟩
        case round =>
          obtain ⟨j, hj, rfl, hbl⟩ := hrel
          have BL := Lib.hid hbl; clear hbl
          have R2 := Lib.hid (RB.out.kp BL.out)
          by_cases hlj : j < wl.length
          · obtain ⟨m, hmj⟩ : ∃ m, wl[j]? = some m := ⟨_, List.getElem?_eq_getElem hlj⟩
            have hmm := List.mem_of_getElem? hmj
            obtain ⟨wa', wc', e1, hls⟩ := Ln.own_in R2.out.own OKW.out
            obtain ⟨rfl, rfl⟩ : wa = wa' ∧ wc = wc' := by injection e1 with e1 _ e3; exact ⟨e1, e3⟩
            obtain ⟨gz, oz, eaz, hce⟩ := hls.at_ hmj
            have OM := Lib.hid (OKW.out m hmm)
            have HCM := Lib.hid hce
            have hji : (j : Int) < (wl.length : Int) := by omega
            obtain ⟨m1, z1, t1, f1, f2, f3, f4, f5⟩ := Ln.fd_cases RL1.out.ok m.n
            have F1 := Lib.hid f1; have F2 := Lib.hid f2; have O1 := Lib.hid f4
            have FSM := Lib.hid (show m.n ≠ y.e.n → m ≠ mg → m1 = m ∧ z1 = true from fun q1 q2 => by
              have := FS2.out m hmm q1 q2
              rw [this] at f1 f2
              exact ⟨f1.symm, f2.symm⟩)
            have KFM := Lib.hid (Ln.find_rows OM.out.n R2.out.cl.cache RL1.out)
            rw [F1.out, F2.out] at KFM
            have xm : wr.cell? ⟨gz, oz + j * 18, none⟩ = some (.int .u32 m.n) := by have := hce 0 _ (Ln.cell0 m); rw [Nat.add_zero] at this; exact this
            clear f1 f2 f3 f4 f5 hce hls e1 hmm hmj
            subst eaz
            go_wp2_with (first
              | (go_at_call 11; (with_reducible refine KFM.out.mono ?_); rintro e' WC ⟨rfl, hbc⟩; have BC := Lib.hid hbc; clear hbc)
              | ((with_reducible show wpList _ _ _ (Oper.mk none (Op.store 30 _ _) _ _ _ _ :: _) _ _); refine wpList_store_own rfl 30 (.tmp 22) (.tmp 164) rfl WC.heap.size (Ln.cells m1).toArray rfl rfl 30 #[.int .u32 0, .int .i64 0, .int .u8 0, .int .u8 0, .int .u8 0, .int .u8 0, .int .u8 0, .int .u8 0, .int .u8 0, .int .u8 0, .int .u8 0, .int .u8 0, .int .u8 0, .int .u8 0, .int .u8 0, .int .u8 0, .int .u8 0, .int .u8 0] (heap_alloc_new WC _) (by rw [O1.out.size]; exact Ln.size_line) (by rw [O1.out.size]; rfl) (Ln.cells_all m1) ?_
                 intro WD HWD
                 have BD := Lib.hid (show Below wr.heap.size wr WD from BC.out.trans ((((Below.refl WC.heap.size WC).alloc (Nat.le_refl _) _).trans HWD.below).mono BC.out.size))
                 have YD := Lib.hid HWD.row
                 clear HWD
                 refine Ln.Stop.out ?_))
            refine ⟨?_⟩
            obtain ⟨yb, hyb⟩ : ∃ yb, yb = WC.heap.size := ⟨_, rfl⟩
            rw [← hyb] at YD ⊢
            clear hyb xm KFM BC
            have RD := Lib.hid (R2.out.kp BD.out)
            have BLD := Lib.hid (BL.out.trans (BD.out.mono BL.out.size))
            have XD := Lib.hid ((RD.out.cl.bel.block xb (Array.getElem?_eq_some_iff.1 X0.out).1).trans X0.out)
            have xyn : WD.cell? ⟨xb, 1, none⟩ = some (.int .u32 y.e.n) := by rw [cell_of_row _ _ _ _ _ _ XD.out]; rfl
            have HCD := Lib.hid (fun i c hi => Ev.kp_below BD.out _ _ (HCM.out i c hi))
            have xmD : WD.cell? ⟨gz, oz + j * 18, none⟩ = some (.int .u32 m.n) := by have := HCD.out 0 _ (Ln.cell0 m); rw [Nat.add_zero] at this; exact this
            clear BD BL R2 HCM
            go_wp2_with fail
            by_cases hn1 : m.n = y.e.n
            ·
              refine Og.region3 (by kernel_rfl) (fun t => ([(166, 0), (167, 1), (168, 2), (169, 3), (170, 4), (171, 5), (172, 6), (173, 7), (174, 8), (175, 9), (176, 10), (177, 11), (178, 12), (179, 13), (180, 14), (181, 15), (182, 16), (183, 17), (184, 18), (185, 19), (186, 20), (187, 21), (188, 22), (189, 23), (190, 24), (191, 25), (192, 26), (193, 27), (194, 28)] : List (Nat × Nat)).lookup t) [.is (.slice (some ⟨gz, oz, none⟩) wl.length wc), .is (.int .i64 (j : Int)), .is (.pointer (some ⟨gz, oz + j * 18, none⟩)), .is (.pointer (some ⟨gz, oz + j * 18, none⟩)), .is (.int .u32 m.n), .is (.pointer (some ⟨xb, 1, none⟩)), .is (.pointer (some ⟨xb, 1, none⟩)), .is (.int .u32 y.e.n), .is (.bool false), .is (.bool false), .is (undef), .is (undef), .is (undef), .is (undef), .is (undef), .is (undef), .is (.bool false), .is (.bool false), .is (undef), .is (undef), .is (undef), .is (undef), .is (undef), .is (undef), .is (undef), .is (undef), .is (undef), .is (undef), .is (.bool false)] [true, true, true, true, true, true, true, true, true, true, false, false, false, false, false, false, true, true, false, false, false, false, false, false, false, false, false, false, true] (by kernel_rfl) ?_ ?_
              · refine ⟨?_, ?_, ?_, ?_, ?_, ?_, ?_, ?_, ?_, ?_, ?_, ?_, ?_, ?_, ?_, ?_, ?_, ?_, ?_, ?_, ?_, ?_, ?_, ?_, ?_, ?_, ?_, ?_, ?_, trivial⟩
                · refine ⟨rfl, fun ρ w1 hr hd => ?_⟩
                  obtain ⟨d0, _⟩ := hd
                  have d0 : ρ (.tmp 14) = .slice (some ⟨gz, oz, none⟩) wl.length wc := d0
                  refine (if_pos (by rfl)).mpr ?_
                  refine Og.gives_is (.slice (some ⟨gz, oz, none⟩) wl.length wc) ?_ (And.intro (Below.refl _ _) rfl)
                  go_simp
                · refine ⟨rfl, fun ρ w1 hr hd => ?_⟩
                  obtain ⟨d0, _⟩ := hd
                  have d0 : ρ (.tmp 21) = .int .i64 (j : Int) := d0
                  refine (if_pos (by rfl)).mpr ?_
                  refine Og.gives_is (.int .i64 (j : Int)) ?_ (And.intro (Below.refl _ _) rfl)
                  go_simp
                · refine ⟨rfl, fun ρ w1 hr hd => ?_⟩
                  obtain ⟨d0, d1, _⟩ := hd
                  have d0 : ρ (.tmp 166) = .slice (some ⟨gz, oz, none⟩) wl.length wc := d0
                  have d1 : ρ (.tmp 167) = .int .i64 (j : Int) := d1
                  refine (if_pos (by rfl)).mpr ?_
                  refine Og.gives_is (.pointer (some ⟨gz, oz + j * 18, none⟩)) ?_ (And.intro (Below.refl _ _) rfl)
                  go_simp
                · refine ⟨rfl, fun ρ w1 hr hd => ?_⟩
                  obtain ⟨d0, _⟩ := hd
                  have d0 : ρ (.tmp 168) = .pointer (some ⟨gz, oz + j * 18, none⟩) := d0
                  refine (if_pos (by rfl)).mpr ?_
                  refine Og.gives_is (.pointer (some ⟨gz, oz + j * 18, none⟩)) ?_ (And.intro (Below.refl _ _) rfl)
                  go_simp
                · refine ⟨rfl, fun ρ w1 hr hd => ?_⟩
                  obtain ⟨d0, _⟩ := hd
                  have d0 : ρ (.tmp 169) = .pointer (some ⟨gz, oz + j * 18, none⟩) := d0
                  refine (if_pos (by rfl)).mpr ?_
                  have hc : w1.cell? ⟨gz, oz + j * 18, none⟩ = some (.int .u32 m.n) := Ev.kp_below hr _ _ xmD
                  refine Og.gives_is (.int .u32 m.n) ?_ (And.intro (Below.refl _ _) rfl)
                  go_simp
                · refine ⟨rfl, fun ρ w1 hr hd => ?_⟩
                  obtain ⟨d0, _⟩ := hd
                  have d0 : ρ (.tmp 8) = .pointer (some ⟨xb, 0, none⟩) := d0
                  refine (if_pos (by rfl)).mpr ?_
                  refine Og.gives_is (.pointer (some ⟨xb, 1, none⟩)) ?_ (And.intro (Below.refl _ _) rfl)
                  go_simp
                · refine ⟨rfl, fun ρ w1 hr hd => ?_⟩
                  obtain ⟨d0, _⟩ := hd
                  have d0 : ρ (.tmp 171) = .pointer (some ⟨xb, 1, none⟩) := d0
                  refine (if_pos (by rfl)).mpr ?_
                  refine Og.gives_is (.pointer (some ⟨xb, 1, none⟩)) ?_ (And.intro (Below.refl _ _) rfl)
                  go_simp
                · refine ⟨rfl, fun ρ w1 hr hd => ?_⟩
                  obtain ⟨d0, _⟩ := hd
                  have d0 : ρ (.tmp 172) = .pointer (some ⟨xb, 1, none⟩) := d0
                  refine (if_pos (by rfl)).mpr ?_
                  have hc : w1.cell? ⟨xb, 1, none⟩ = some (.int .u32 y.e.n) := Ev.kp_below hr _ _ xyn
                  refine Og.gives_is (.int .u32 y.e.n) ?_ (And.intro (Below.refl _ _) rfl)
                  go_simp
                · refine ⟨rfl, fun ρ w1 hr hd => ?_⟩
                  obtain ⟨d0, d1, _⟩ := hd
                  have d0 : ρ (.tmp 170) = .int .u32 m.n := d0
                  have d1 : ρ (.tmp 173) = .int .u32 y.e.n := d1
                  refine (if_pos (by rfl)).mpr ?_
                  refine Og.gives_is (.bool false) ?_ (And.intro (Below.refl _ _) rfl)
                  simp only [execOp, d0, d1]; go_simp; try simp [hn1]
                · refine ⟨rfl, fun ρ w1 hr hd => ?_⟩
                  obtain ⟨d0, _⟩ := hd
                  have d0 : ρ (.tmp 174) = .bool false := d0
                  refine (if_pos (by rfl)).mpr ?_
                  refine Og.gives_is (.bool false) ?_ (And.intro (Below.refl _ _) rfl)
                  go_simp
                · refine ⟨fun v w hv => by (have hv' : v = .bool false := hv); subst hv'; exact (if_neg (by exact Bool.false_ne_true)).mpr (fun h => by cases h), fun ρ w1 hr hd => ?_⟩
                  exact (if_neg (by exact Bool.false_ne_true)).mpr (rfl : undef = undef)
                · refine ⟨fun v w hv => by (have hv' : v = .bool false := hv); subst hv'; exact (if_neg (by exact Bool.false_ne_true)).mpr (fun h => by cases h), fun ρ w1 hr hd => ?_⟩
                  exact (if_neg (by exact Bool.false_ne_true)).mpr (rfl : undef = undef)
                · refine ⟨fun v w hv => by (have hv' : v = .bool false := hv); subst hv'; exact (if_neg (by exact Bool.false_ne_true)).mpr (fun h => by cases h), fun ρ w1 hr hd => ?_⟩
                  exact (if_neg (by exact Bool.false_ne_true)).mpr (rfl : undef = undef)
                · refine ⟨fun v w hv => by (have hv' : v = .bool false := hv); subst hv'; exact (if_neg (by exact Bool.false_ne_true)).mpr (fun h => by cases h), fun ρ w1 hr hd => ?_⟩
                  exact (if_neg (by exact Bool.false_ne_true)).mpr (rfl : undef = undef)
                · refine ⟨fun v w hv => by (have hv' : v = .bool false := hv); subst hv'; exact (if_neg (by exact Bool.false_ne_true)).mpr (fun h => by cases h), fun ρ w1 hr hd => ?_⟩
                  exact (if_neg (by exact Bool.false_ne_true)).mpr (rfl : undef = undef)
                · refine ⟨fun v w hv => by (have hv' : v = .bool false := hv); subst hv'; exact (if_neg (by exact Bool.false_ne_true)).mpr (fun h => by cases h), fun ρ w1 hr hd => ?_⟩
                  exact (if_neg (by exact Bool.false_ne_true)).mpr (rfl : undef = undef)
                · refine ⟨rfl, fun ρ w1 hr hd => ?_⟩
                  obtain ⟨d0, d1, d2, _⟩ := hd
                  have d0 : ρ (.tmp 175) = .bool false := d0
                  have d1 : ρ (.tmp 181) = undef := d1
                  have d2 : ρ (.const (Value.bool false)) = (Value.bool false) := d2
                  refine (if_pos (by rfl)).mpr ?_
                  refine Og.gives_is (.bool false) ?_ (And.intro (Below.refl _ _) rfl)
                  go_simp
                · refine ⟨rfl, fun ρ w1 hr hd => ?_⟩
                  obtain ⟨d0, _⟩ := hd
                  have d0 : ρ (.tmp 182) = .bool false := d0
                  refine (if_pos (by rfl)).mpr ?_
                  refine Og.gives_is (.bool false) ?_ (And.intro (Below.refl _ _) rfl)
                  go_simp
                · refine ⟨fun v w hv => by (have hv' : v = .bool false := hv); subst hv'; exact (if_neg (by exact Bool.false_ne_true)).mpr (fun h => by cases h), fun ρ w1 hr hd => ?_⟩
                  exact (if_neg (by exact Bool.false_ne_true)).mpr (rfl : undef = undef)
                · refine ⟨fun v w hv => by (have hv' : v = .bool false := hv); subst hv'; exact (if_neg (by exact Bool.false_ne_true)).mpr (fun h => by cases h), fun ρ w1 hr hd => ?_⟩
                  exact (if_neg (by exact Bool.false_ne_true)).mpr (rfl : undef = undef)
                · refine ⟨fun v w hv => by (have hv' : v = .bool false := hv); subst hv'; exact (if_neg (by exact Bool.false_ne_true)).mpr (fun h => by cases h), fun ρ w1 hr hd => ?_⟩
                  exact (if_neg (by exact Bool.false_ne_true)).mpr (rfl : undef = undef)
                · refine ⟨fun v w hv => by (have hv' : v = .bool false := hv); subst hv'; exact (if_neg (by exact Bool.false_ne_true)).mpr (fun h => by cases h), fun ρ w1 hr hd => ?_⟩
                  exact (if_neg (by exact Bool.false_ne_true)).mpr (rfl : undef = undef)
                · refine ⟨fun v w hv => by (have hv' : v = .bool false := hv); subst hv'; exact (if_neg (by exact Bool.false_ne_true)).mpr (fun h => by cases h), fun ρ w1 hr hd => ?_⟩
                  exact (if_neg (by exact Bool.false_ne_true)).mpr (rfl : undef = undef)
                · refine ⟨fun v w hv => by (have hv' : v = .bool false := hv); subst hv'; exact (if_neg (by exact Bool.false_ne_true)).mpr (fun h => by cases h), fun ρ w1 hr hd => ?_⟩
                  exact (if_neg (by exact Bool.false_ne_true)).mpr (rfl : undef = undef)
                · refine ⟨fun v w hv => by (have hv' : v = .bool false := hv); subst hv'; exact (if_neg (by exact Bool.false_ne_true)).mpr (fun h => by cases h), fun ρ w1 hr hd => ?_⟩
                  exact (if_neg (by exact Bool.false_ne_true)).mpr (rfl : undef = undef)
                · refine ⟨fun v w hv => by (have hv' : v = undef := hv); subst hv'; exact (if_neg (by exact Bool.false_ne_true)).mpr (fun h => by cases h), fun ρ w1 hr hd => ?_⟩
                  exact (if_neg (by exact Bool.false_ne_true)).mpr (rfl : undef = undef)
                · refine ⟨fun v w hv => by (have hv' : v = undef := hv); subst hv'; exact (if_neg (by exact Bool.false_ne_true)).mpr (fun h => by cases h), fun ρ w1 hr hd => ?_⟩
                  exact (if_neg (by exact Bool.false_ne_true)).mpr (rfl : undef = undef)
                · refine ⟨fun v w hv => by (have hv' : v = .bool false := hv); subst hv'; exact (if_neg (by exact Bool.false_ne_true)).mpr (fun h => by cases h), fun ρ w1 hr hd => ?_⟩
                  exact (if_neg (by exact Bool.false_ne_true)).mpr (rfl : undef = undef)
                · refine ⟨rfl, fun ρ w1 hr hd => ?_⟩
                  obtain ⟨d0, d1, d2, _⟩ := hd
                  have d0 : ρ (.tmp 183) = .bool false := d0
                  have d1 : ρ (.tmp 193) = undef := d1
                  have d2 : ρ (.const (Value.bool false)) = (Value.bool false) := d2
                  refine (if_pos (by rfl)).mpr ?_
                  refine Og.gives_is (.bool false) ?_ (And.intro (Below.refl _ _) rfl)
                  go_simp
              · intro vs w1 hbz hall
                have e0 : vs 0 = .slice (some ⟨gz, oz, none⟩) wl.length wc := hall 0 _ 166 rfl rfl
                have e1 : vs 1 = .int .i64 (j : Int) := hall 1 _ 167 rfl rfl
                have e2 : vs 2 = .pointer (some ⟨gz, oz + j * 18, none⟩) := hall 2 _ 168 rfl rfl
                have e3 : vs 3 = .pointer (some ⟨gz, oz + j * 18, none⟩) := hall 3 _ 169 rfl rfl
                have e4 : vs 4 = .int .u32 m.n := hall 4 _ 170 rfl rfl
                have e5 : vs 5 = .pointer (some ⟨xb, 1, none⟩) := hall 5 _ 171 rfl rfl
                have e6 : vs 6 = .pointer (some ⟨xb, 1, none⟩) := hall 6 _ 172 rfl rfl
                have e7 : vs 7 = .int .u32 y.e.n := hall 7 _ 173 rfl rfl
                have e8 : vs 8 = .bool false := hall 8 _ 174 rfl rfl
                have e9 : vs 9 = .bool false := hall 9 _ 175 rfl rfl
                have e10 : vs 10 = undef := hall 10 _ 176 rfl rfl
                have e11 : vs 11 = undef := hall 11 _ 177 rfl rfl
                have e12 : vs 12 = undef := hall 12 _ 178 rfl rfl
                have e13 : vs 13 = undef := hall 13 _ 179 rfl rfl
                have e14 : vs 14 = undef := hall 14 _ 180 rfl rfl
                have e15 : vs 15 = undef := hall 15 _ 181 rfl rfl
                have e16 : vs 16 = .bool false := hall 16 _ 182 rfl rfl
                have e17 : vs 17 = .bool false := hall 17 _ 183 rfl rfl
                have e18 : vs 18 = undef := hall 18 _ 184 rfl rfl
                have e19 : vs 19 = undef := hall 19 _ 185 rfl rfl
                have e20 : vs 20 = undef := hall 20 _ 186 rfl rfl
                have e21 : vs 21 = undef := hall 21 _ 187 rfl rfl
                have e22 : vs 22 = undef := hall 22 _ 188 rfl rfl
                have e23 : vs 23 = undef := hall 23 _ 189 rfl rfl
                have e24 : vs 24 = undef := hall 24 _ 190 rfl rfl
                have e25 : vs 25 = undef := hall 25 _ 191 rfl rfl
                have e26 : vs 26 = undef := hall 26 _ 192 rfl rfl
                have e27 : vs 27 = undef := hall 27 _ 193 rfl rfl
                have e28 : vs 28 = .bool false := hall 28 _ 194 rfl rfl
                have HBZ := Lib.hid hbz
                simp only [Og.putAll, Act.put, List.setIfInBounds_toArray, List.set_cons_zero, List.set_cons_succ, Nat.zero_add, Nat.reduceAdd, e0, e1, e2, e3, e4, e5, e6, e7, e8, e9, e10, e11, e12, e13, e14, e15, e16, e17, e18, e19, e20, e21, e22, e23, e24, e25, e26, e27, e28]
                clear hall hbz
                go_wp2_with fail
                go_roundw
                case rel => exact ⟨j + 1, by omega, by go_num, BLD.out.trans (HBZ.out.mono BLD.out.size)⟩
                case measure => simp [intOf]; omega
            · by_cases hmg2 : m = mg
              · have HMG := Lib.hid hmg2
                clear hmg2
                refine Og.region3 (by kernel_rfl) (fun t => ([(166, 0), (167, 1), (168, 2), (169, 3), (170, 4), (171, 5), (172, 6), (173, 7), (174, 8), (175, 9), (176, 10), (177, 11), (178, 12), (179, 13), (180, 14), (181, 15), (182, 16), (183, 17), (184, 18), (185, 19), (186, 20), (187, 21), (188, 22), (189, 23), (190, 24), (191, 25), (192, 26), (193, 27), (194, 28)] : List (Nat × Nat)).lookup t) [.is (.slice (some ⟨gz, oz, none⟩) wl.length wc), .is (.int .i64 (j : Int)), .is (.pointer (some ⟨gz, oz + j * 18, none⟩)), .is (.pointer (some ⟨gz, oz + j * 18, none⟩)), .is (.int .u32 m.n), .is (.pointer (some ⟨xb, 1, none⟩)), .is (.pointer (some ⟨xb, 1, none⟩)), .is (.int .u32 y.e.n), .is (.bool true), .is (.bool true), .is (.slice (some ⟨gz, oz, none⟩) wl.length wc), .is (.int .i64 (j : Int)), .is (.pointer (some ⟨gz, oz + j * 18, none⟩)), .is (.agg (Ln.cells m).toArray), .is (.agg (Ln.cells mg).toArray), .is (.bool false), .is (.bool false), .is (.bool false), .is (undef), .is (undef), .is (undef), .is (undef), .is (undef), .is (undef), .is (undef), .is (undef), .is (undef), .is (undef), .is (.bool false)] [true, true, true, true, true, true, true, true, true, true, true, true, true, true, true, true, true, true, false, false, false, false, false, false, false, false, false, false, true] (by kernel_rfl) ?_ ?_
                · refine ⟨?_, ?_, ?_, ?_, ?_, ?_, ?_, ?_, ?_, ?_, ?_, ?_, ?_, ?_, ?_, ?_, ?_, ?_, ?_, ?_, ?_, ?_, ?_, ?_, ?_, ?_, ?_, ?_, ?_, trivial⟩
                  · refine ⟨rfl, fun ρ w1 hr hd => ?_⟩
                    obtain ⟨d0, _⟩ := hd
                    have d0 : ρ (.tmp 14) = .slice (some ⟨gz, oz, none⟩) wl.length wc := d0
                    refine (if_pos (by rfl)).mpr ?_
                    refine Og.gives_is (.slice (some ⟨gz, oz, none⟩) wl.length wc) ?_ (And.intro (Below.refl _ _) rfl)
                    go_simp
                  · refine ⟨rfl, fun ρ w1 hr hd => ?_⟩
                    obtain ⟨d0, _⟩ := hd
                    have d0 : ρ (.tmp 21) = .int .i64 (j : Int) := d0
                    refine (if_pos (by rfl)).mpr ?_
                    refine Og.gives_is (.int .i64 (j : Int)) ?_ (And.intro (Below.refl _ _) rfl)
                    go_simp
                  · refine ⟨rfl, fun ρ w1 hr hd => ?_⟩
                    obtain ⟨d0, d1, _⟩ := hd
                    have d0 : ρ (.tmp 166) = .slice (some ⟨gz, oz, none⟩) wl.length wc := d0
                    have d1 : ρ (.tmp 167) = .int .i64 (j : Int) := d1
                    refine (if_pos (by rfl)).mpr ?_
                    refine Og.gives_is (.pointer (some ⟨gz, oz + j * 18, none⟩)) ?_ (And.intro (Below.refl _ _) rfl)
                    go_simp
                  · refine ⟨rfl, fun ρ w1 hr hd => ?_⟩
                    obtain ⟨d0, _⟩ := hd
                    have d0 : ρ (.tmp 168) = .pointer (some ⟨gz, oz + j * 18, none⟩) := d0
                    refine (if_pos (by rfl)).mpr ?_
                    refine Og.gives_is (.pointer (some ⟨gz, oz + j * 18, none⟩)) ?_ (And.intro (Below.refl _ _) rfl)
                    go_simp
                  · refine ⟨rfl, fun ρ w1 hr hd => ?_⟩
                    obtain ⟨d0, _⟩ := hd
                    have d0 : ρ (.tmp 169) = .pointer (some ⟨gz, oz + j * 18, none⟩) := d0
                    refine (if_pos (by rfl)).mpr ?_
                    have hc : w1.cell? ⟨gz, oz + j * 18, none⟩ = some (.int .u32 m.n) := Ev.kp_below hr _ _ xmD
                    refine Og.gives_is (.int .u32 m.n) ?_ (And.intro (Below.refl _ _) rfl)
                    go_simp
                  · refine ⟨rfl, fun ρ w1 hr hd => ?_⟩
                    obtain ⟨d0, _⟩ := hd
                    have d0 : ρ (.tmp 8) = .pointer (some ⟨xb, 0, none⟩) := d0
                    refine (if_pos (by rfl)).mpr ?_
                    refine Og.gives_is (.pointer (some ⟨xb, 1, none⟩)) ?_ (And.intro (Below.refl _ _) rfl)
                    go_simp
                  · refine ⟨rfl, fun ρ w1 hr hd => ?_⟩
                    obtain ⟨d0, _⟩ := hd
                    have d0 : ρ (.tmp 171) = .pointer (some ⟨xb, 1, none⟩) := d0
                    refine (if_pos (by rfl)).mpr ?_
                    refine Og.gives_is (.pointer (some ⟨xb, 1, none⟩)) ?_ (And.intro (Below.refl _ _) rfl)
                    go_simp
                  · refine ⟨rfl, fun ρ w1 hr hd => ?_⟩
                    obtain ⟨d0, _⟩ := hd
                    have d0 : ρ (.tmp 172) = .pointer (some ⟨xb, 1, none⟩) := d0
                    refine (if_pos (by rfl)).mpr ?_
                    have hc : w1.cell? ⟨xb, 1, none⟩ = some (.int .u32 y.e.n) := Ev.kp_below hr _ _ xyn
                    refine Og.gives_is (.int .u32 y.e.n) ?_ (And.intro (Below.refl _ _) rfl)
                    go_simp
                  · refine ⟨rfl, fun ρ w1 hr hd => ?_⟩
                    obtain ⟨d0, d1, _⟩ := hd
                    have d0 : ρ (.tmp 170) = .int .u32 m.n := d0
                    have d1 : ρ (.tmp 173) = .int .u32 y.e.n := d1
                    refine (if_pos (by rfl)).mpr ?_
                    refine Og.gives_is (.bool true) ?_ (And.intro (Below.refl _ _) rfl)
                    simp only [execOp, d0, d1]; go_simp; try simp [hn1]
                  · refine ⟨rfl, fun ρ w1 hr hd => ?_⟩
                    obtain ⟨d0, _⟩ := hd
                    have d0 : ρ (.tmp 174) = .bool true := d0
                    refine (if_pos (by rfl)).mpr ?_
                    refine Og.gives_is (.bool true) ?_ (And.intro (Below.refl _ _) rfl)
                    go_simp
                  · refine ⟨fun v w hv => by (have hv' : v = .bool true := hv); subst hv'; exact (if_pos rfl).mpr rfl, fun ρ w1 hr hd => ?_⟩
                    obtain ⟨d0, _⟩ := hd
                    have d0 : ρ (.tmp 14) = .slice (some ⟨gz, oz, none⟩) wl.length wc := d0
                    refine (if_pos (by rfl)).mpr ?_
                    refine Og.gives_is (.slice (some ⟨gz, oz, none⟩) wl.length wc) ?_ (And.intro (Below.refl _ _) rfl)
                    go_simp
                  · refine ⟨fun v w hv => by (have hv' : v = .bool true := hv); subst hv'; exact (if_pos rfl).mpr rfl, fun ρ w1 hr hd => ?_⟩
                    obtain ⟨d0, _⟩ := hd
                    have d0 : ρ (.tmp 21) = .int .i64 (j : Int) := d0
                    refine (if_pos (by rfl)).mpr ?_
                    refine Og.gives_is (.int .i64 (j : Int)) ?_ (And.intro (Below.refl _ _) rfl)
                    go_simp
                  · refine ⟨fun v w hv => by (have hv' : v = .bool true := hv); subst hv'; exact (if_pos rfl).mpr rfl, fun ρ w1 hr hd => ?_⟩
                    obtain ⟨d0, d1, _⟩ := hd
                    have d0 : ρ (.tmp 176) = .slice (some ⟨gz, oz, none⟩) wl.length wc := d0
                    have d1 : ρ (.tmp 177) = .int .i64 (j : Int) := d1
                    refine (if_pos (by rfl)).mpr ?_
                    refine Og.gives_is (.pointer (some ⟨gz, oz + j * 18, none⟩)) ?_ (And.intro (Below.refl _ _) rfl)
                    go_simp
                  · refine ⟨fun v w hv => by (have hv' : v = .bool true := hv); subst hv'; exact (if_pos rfl).mpr rfl, fun ρ w1 hr hd => ?_⟩
                    obtain ⟨d0, _⟩ := hd
                    have d0 : ρ (.tmp 178) = .pointer (some ⟨gz, oz + j * 18, none⟩) := d0
                    refine (if_pos (by rfl)).mpr ?_
                    refine Og.gives_is (.agg (Ln.cells m).toArray) ?_ (And.intro (Below.refl _ _) rfl)
                    exact Og.load_run 30 (.tmp 178) rfl ⟨gz, oz + j * 18, none⟩ d0 (run_loadVar_at w1 gz (oz + j * 18) 30 (Ln.cells m) _ (fun i c hi => Ev.kp_below hr _ _ (HCD.out i c hi)) Try.underlying30 rfl (by rw [OM.out.len]; exact Ln.size_line))
                  · refine ⟨fun v w hv => by (have hv' : v = .bool true := hv); subst hv'; exact (if_pos rfl).mpr rfl, fun ρ w1 hr hd => ?_⟩
                    obtain ⟨d0, _⟩ := hd
                    have d0 : ρ (.tmp 16) = .pointer (some ⟨gb, 0, none⟩) := d0
                    refine (if_pos (by rfl)).mpr ?_
                    refine Og.gives_is (.agg (Ln.cells mg).toArray) ?_ (And.intro (Below.refl _ _) rfl)
                    exact Og.load_run 30 (.tmp 16) rfl ⟨gb, 0, none⟩ d0 (run_loadVar_row w1 gb 30 30 _ (0, 0) _ ((hr.block gb (Array.getElem?_eq_some_iff.1 RD.out.row).1).trans RD.out.row) Try.underlying30 rfl (by rw [OMG.out.size]; exact Ln.size_line))
                  · refine ⟨fun v w hv => by (have hv' : v = .bool true := hv); subst hv'; exact (if_pos rfl).mpr rfl, fun ρ w1 hr hd => ?_⟩
                    obtain ⟨d0, d1, _⟩ := hd
                    have d0 : ρ (.tmp 179) = .agg (Ln.cells m).toArray := d0
                    have d1 : ρ (.tmp 180) = .agg (Ln.cells mg).toArray := d1
                    refine (if_pos (by rfl)).mpr ?_
                    refine Og.gives_is (.bool false) ?_ (And.intro (Below.refl _ _) rfl)
                    exact Ln.neq_op (a := m) (b := mg) (.tmp 179) (.tmp 180) rfl OM.out OMG.out d0 d1 false (by rw [HMG.out, Ln.eqL_self OMG.out]; rfl) w1
                  · refine ⟨rfl, fun ρ w1 hr hd => ?_⟩
                    obtain ⟨d0, d1, d2, _⟩ := hd
                    have d0 : ρ (.tmp 175) = .bool true := d0
                    have d1 : ρ (.tmp 181) = .bool false := d1
                    have d2 : ρ (.const (Value.bool false)) = (Value.bool false) := d2
                    refine (if_pos (by rfl)).mpr ?_
                    refine Og.gives_is (.bool false) ?_ (And.intro (Below.refl _ _) rfl)
                    go_simp
                  · refine ⟨rfl, fun ρ w1 hr hd => ?_⟩
                    obtain ⟨d0, _⟩ := hd
                    have d0 : ρ (.tmp 182) = .bool false := d0
                    refine (if_pos (by rfl)).mpr ?_
                    refine Og.gives_is (.bool false) ?_ (And.intro (Below.refl _ _) rfl)
                    go_simp
                  · refine ⟨fun v w hv => by (have hv' : v = .bool false := hv); subst hv'; exact (if_neg (by exact Bool.false_ne_true)).mpr (fun h => by cases h), fun ρ w1 hr hd => ?_⟩
                    exact (if_neg (by exact Bool.false_ne_true)).mpr (rfl : undef = undef)
                  · refine ⟨fun v w hv => by (have hv' : v = .bool false := hv); subst hv'; exact (if_neg (by exact Bool.false_ne_true)).mpr (fun h => by cases h), fun ρ w1 hr hd => ?_⟩
                    exact (if_neg (by exact Bool.false_ne_true)).mpr (rfl : undef = undef)
                  · refine ⟨fun v w hv => by (have hv' : v = .bool false := hv); subst hv'; exact (if_neg (by exact Bool.false_ne_true)).mpr (fun h => by cases h), fun ρ w1 hr hd => ?_⟩
                    exact (if_neg (by exact Bool.false_ne_true)).mpr (rfl : undef = undef)
                  · refine ⟨fun v w hv => by (have hv' : v = .bool false := hv); subst hv'; exact (if_neg (by exact Bool.false_ne_true)).mpr (fun h => by cases h), fun ρ w1 hr hd => ?_⟩
                    exact (if_neg (by exact Bool.false_ne_true)).mpr (rfl : undef = undef)
                  · refine ⟨fun v w hv => by (have hv' : v = .bool false := hv); subst hv'; exact (if_neg (by exact Bool.false_ne_true)).mpr (fun h => by cases h), fun ρ w1 hr hd => ?_⟩
                    exact (if_neg (by exact Bool.false_ne_true)).mpr (rfl : undef = undef)
                  · refine ⟨fun v w hv => by (have hv' : v = .bool false := hv); subst hv'; exact (if_neg (by exact Bool.false_ne_true)).mpr (fun h => by cases h), fun ρ w1 hr hd => ?_⟩
                    exact (if_neg (by exact Bool.false_ne_true)).mpr (rfl : undef = undef)
                  · refine ⟨fun v w hv => by (have hv' : v = .bool false := hv); subst hv'; exact (if_neg (by exact Bool.false_ne_true)).mpr (fun h => by cases h), fun ρ w1 hr hd => ?_⟩
                    exact (if_neg (by exact Bool.false_ne_true)).mpr (rfl : undef = undef)
                  · refine ⟨fun v w hv => by (have hv' : v = undef := hv); subst hv'; exact (if_neg (by exact Bool.false_ne_true)).mpr (fun h => by cases h), fun ρ w1 hr hd => ?_⟩
                    exact (if_neg (by exact Bool.false_ne_true)).mpr (rfl : undef = undef)
                  · refine ⟨fun v w hv => by (have hv' : v = undef := hv); subst hv'; exact (if_neg (by exact Bool.false_ne_true)).mpr (fun h => by cases h), fun ρ w1 hr hd => ?_⟩
                    exact (if_neg (by exact Bool.false_ne_true)).mpr (rfl : undef = undef)
                  · refine ⟨fun v w hv => by (have hv' : v = .bool false := hv); subst hv'; exact (if_neg (by exact Bool.false_ne_true)).mpr (fun h => by cases h), fun ρ w1 hr hd => ?_⟩
                    exact (if_neg (by exact Bool.false_ne_true)).mpr (rfl : undef = undef)
                  · refine ⟨rfl, fun ρ w1 hr hd => ?_⟩
                    obtain ⟨d0, d1, d2, _⟩ := hd
                    have d0 : ρ (.tmp 183) = .bool false := d0
                    have d1 : ρ (.tmp 193) = undef := d1
                    have d2 : ρ (.const (Value.bool false)) = (Value.bool false) := d2
                    refine (if_pos (by rfl)).mpr ?_
                    refine Og.gives_is (.bool false) ?_ (And.intro (Below.refl _ _) rfl)
                    go_simp
                · intro vs w1 hbz hall
                  have e0 : vs 0 = .slice (some ⟨gz, oz, none⟩) wl.length wc := hall 0 _ 166 rfl rfl
                  have e1 : vs 1 = .int .i64 (j : Int) := hall 1 _ 167 rfl rfl
                  have e2 : vs 2 = .pointer (some ⟨gz, oz + j * 18, none⟩) := hall 2 _ 168 rfl rfl
                  have e3 : vs 3 = .pointer (some ⟨gz, oz + j * 18, none⟩) := hall 3 _ 169 rfl rfl
                  have e4 : vs 4 = .int .u32 m.n := hall 4 _ 170 rfl rfl
                  have e5 : vs 5 = .pointer (some ⟨xb, 1, none⟩) := hall 5 _ 171 rfl rfl
                  have e6 : vs 6 = .pointer (some ⟨xb, 1, none⟩) := hall 6 _ 172 rfl rfl
                  have e7 : vs 7 = .int .u32 y.e.n := hall 7 _ 173 rfl rfl
                  have e8 : vs 8 = .bool true := hall 8 _ 174 rfl rfl
                  have e9 : vs 9 = .bool true := hall 9 _ 175 rfl rfl
                  have e10 : vs 10 = .slice (some ⟨gz, oz, none⟩) wl.length wc := hall 10 _ 176 rfl rfl
                  have e11 : vs 11 = .int .i64 (j : Int) := hall 11 _ 177 rfl rfl
                  have e12 : vs 12 = .pointer (some ⟨gz, oz + j * 18, none⟩) := hall 12 _ 178 rfl rfl
                  have e13 : vs 13 = .agg (Ln.cells m).toArray := hall 13 _ 179 rfl rfl
                  have e14 : vs 14 = .agg (Ln.cells mg).toArray := hall 14 _ 180 rfl rfl
                  have e15 : vs 15 = .bool false := hall 15 _ 181 rfl rfl
                  have e16 : vs 16 = .bool false := hall 16 _ 182 rfl rfl
                  have e17 : vs 17 = .bool false := hall 17 _ 183 rfl rfl
                  have e18 : vs 18 = undef := hall 18 _ 184 rfl rfl
                  have e19 : vs 19 = undef := hall 19 _ 185 rfl rfl
                  have e20 : vs 20 = undef := hall 20 _ 186 rfl rfl
                  have e21 : vs 21 = undef := hall 21 _ 187 rfl rfl
                  have e22 : vs 22 = undef := hall 22 _ 188 rfl rfl
                  have e23 : vs 23 = undef := hall 23 _ 189 rfl rfl
                  have e24 : vs 24 = undef := hall 24 _ 190 rfl rfl
                  have e25 : vs 25 = undef := hall 25 _ 191 rfl rfl
                  have e26 : vs 26 = undef := hall 26 _ 192 rfl rfl
                  have e27 : vs 27 = undef := hall 27 _ 193 rfl rfl
                  have e28 : vs 28 = .bool false := hall 28 _ 194 rfl rfl
                  have HBZ := Lib.hid hbz
                  simp only [Og.putAll, Act.put, List.setIfInBounds_toArray, List.set_cons_zero, List.set_cons_succ, Nat.zero_add, Nat.reduceAdd, e0, e1, e2, e3, e4, e5, e6, e7, e8, e9, e10, e11, e12, e13, e14, e15, e16, e17, e18, e19, e20, e21, e22, e23, e24, e25, e26, e27, e28]
                  clear hall hbz
                  go_wp2_with fail
                  go_roundw
                  case rel => exact ⟨j + 1, by omega, by go_num, BLD.out.trans (HBZ.out.mono BLD.out.size)⟩
                  case measure => simp [intOf]; omega
              · obtain ⟨hm1, hz1⟩ := FSM.out hn1 hmg2
                subst hz1
                refine Og.region3 (by kernel_rfl) (fun t => ([(166, 0), (167, 1), (168, 2), (169, 3), (170, 4), (171, 5), (172, 6), (173, 7), (174, 8), (175, 9), (176, 10), (177, 11), (178, 12), (179, 13), (180, 14), (181, 15), (182, 16), (183, 17), (184, 18), (185, 19), (186, 20), (187, 21), (188, 22), (189, 23), (190, 24), (191, 25), (192, 26), (193, 27), (194, 28)] : List (Nat × Nat)).lookup t) [.is (.slice (some ⟨gz, oz, none⟩) wl.length wc), .is (.int .i64 (j : Int)), .is (.pointer (some ⟨gz, oz + j * 18, none⟩)), .is (.pointer (some ⟨gz, oz + j * 18, none⟩)), .is (.int .u32 m.n), .is (.pointer (some ⟨xb, 1, none⟩)), .is (.pointer (some ⟨xb, 1, none⟩)), .is (.int .u32 y.e.n), .is (.bool true), .is (.bool true), .is (.slice (some ⟨gz, oz, none⟩) wl.length wc), .is (.int .i64 (j : Int)), .is (.pointer (some ⟨gz, oz + j * 18, none⟩)), .is (.agg (Ln.cells m).toArray), .is (.agg (Ln.cells mg).toArray), .is (.bool true), .is (.bool true), .is (.bool true), .is (.agg (Ln.cells m1).toArray), .is (.slice (some ⟨gz, oz, none⟩) wl.length wc), .is (.int .i64 (j : Int)), .is (.pointer (some ⟨gz, oz + j * 18, none⟩)), .is (.agg (Ln.cells m).toArray), .is (.bool false), .is (.bool false), .is (.bool true), .is (.bool false), .is (.bool false), .is (.bool false)] [true, true, true, true, true, true, true, true, true, true, true, true, true, true, true, true, true, true, true, true, true, true, true, true, true, true, true, true, true] (by kernel_rfl) ?_ ?_
                · refine ⟨?_, ?_, ?_, ?_, ?_, ?_, ?_, ?_, ?_, ?_, ?_, ?_, ?_, ?_, ?_, ?_, ?_, ?_, ?_, ?_, ?_, ?_, ?_, ?_, ?_, ?_, ?_, ?_, ?_, trivial⟩
                  · refine ⟨rfl, fun ρ w1 hr hd => ?_⟩
                    obtain ⟨d0, _⟩ := hd
                    have d0 : ρ (.tmp 14) = .slice (some ⟨gz, oz, none⟩) wl.length wc := d0
                    refine (if_pos (by rfl)).mpr ?_
                    refine Og.gives_is (.slice (some ⟨gz, oz, none⟩) wl.length wc) ?_ (And.intro (Below.refl _ _) rfl)
                    go_simp
                  · refine ⟨rfl, fun ρ w1 hr hd => ?_⟩
                    obtain ⟨d0, _⟩ := hd
                    have d0 : ρ (.tmp 21) = .int .i64 (j : Int) := d0
                    refine (if_pos (by rfl)).mpr ?_
                    refine Og.gives_is (.int .i64 (j : Int)) ?_ (And.intro (Below.refl _ _) rfl)
                    go_simp
                  · refine ⟨rfl, fun ρ w1 hr hd => ?_⟩
                    obtain ⟨d0, d1, _⟩ := hd
                    have d0 : ρ (.tmp 166) = .slice (some ⟨gz, oz, none⟩) wl.length wc := d0
                    have d1 : ρ (.tmp 167) = .int .i64 (j : Int) := d1
                    refine (if_pos (by rfl)).mpr ?_
                    refine Og.gives_is (.pointer (some ⟨gz, oz + j * 18, none⟩)) ?_ (And.intro (Below.refl _ _) rfl)
                    go_simp
                  · refine ⟨rfl, fun ρ w1 hr hd => ?_⟩
                    obtain ⟨d0, _⟩ := hd
                    have d0 : ρ (.tmp 168) = .pointer (some ⟨gz, oz + j * 18, none⟩) := d0
                    refine (if_pos (by rfl)).mpr ?_
                    refine Og.gives_is (.pointer (some ⟨gz, oz + j * 18, none⟩)) ?_ (And.intro (Below.refl _ _) rfl)
                    go_simp
                  · refine ⟨rfl, fun ρ w1 hr hd => ?_⟩
                    obtain ⟨d0, _⟩ := hd
                    have d0 : ρ (.tmp 169) = .pointer (some ⟨gz, oz + j * 18, none⟩) := d0
                    refine (if_pos (by rfl)).mpr ?_
                    have hc : w1.cell? ⟨gz, oz + j * 18, none⟩ = some (.int .u32 m.n) := Ev.kp_below hr _ _ xmD
                    refine Og.gives_is (.int .u32 m.n) ?_ (And.intro (Below.refl _ _) rfl)
                    go_simp
                  · refine ⟨rfl, fun ρ w1 hr hd => ?_⟩
                    obtain ⟨d0, _⟩ := hd
                    have d0 : ρ (.tmp 8) = .pointer (some ⟨xb, 0, none⟩) := d0
                    refine (if_pos (by rfl)).mpr ?_
                    refine Og.gives_is (.pointer (some ⟨xb, 1, none⟩)) ?_ (And.intro (Below.refl _ _) rfl)
                    go_simp
                  · refine ⟨rfl, fun ρ w1 hr hd => ?_⟩
                    obtain ⟨d0, _⟩ := hd
                    have d0 : ρ (.tmp 171) = .pointer (some ⟨xb, 1, none⟩) := d0
                    refine (if_pos (by rfl)).mpr ?_
                    refine Og.gives_is (.pointer (some ⟨xb, 1, none⟩)) ?_ (And.intro (Below.refl _ _) rfl)
                    go_simp
                  · refine ⟨rfl, fun ρ w1 hr hd => ?_⟩
                    obtain ⟨d0, _⟩ := hd
                    have d0 : ρ (.tmp 172) = .pointer (some ⟨xb, 1, none⟩) := d0
                    refine (if_pos (by rfl)).mpr ?_
                    have hc : w1.cell? ⟨xb, 1, none⟩ = some (.int .u32 y.e.n) := Ev.kp_below hr _ _ xyn
                    refine Og.gives_is (.int .u32 y.e.n) ?_ (And.intro (Below.refl _ _) rfl)
                    go_simp
                  · refine ⟨rfl, fun ρ w1 hr hd => ?_⟩
                    obtain ⟨d0, d1, _⟩ := hd
                    have d0 : ρ (.tmp 170) = .int .u32 m.n := d0
                    have d1 : ρ (.tmp 173) = .int .u32 y.e.n := d1
                    refine (if_pos (by rfl)).mpr ?_
                    refine Og.gives_is (.bool true) ?_ (And.intro (Below.refl _ _) rfl)
                    simp only [execOp, d0, d1]; go_simp; try simp [hn1]
                  · refine ⟨rfl, fun ρ w1 hr hd => ?_⟩
                    obtain ⟨d0, _⟩ := hd
                    have d0 : ρ (.tmp 174) = .bool true := d0
                    refine (if_pos (by rfl)).mpr ?_
                    refine Og.gives_is (.bool true) ?_ (And.intro (Below.refl _ _) rfl)
                    go_simp
                  · refine ⟨fun v w hv => by (have hv' : v = .bool true := hv); subst hv'; exact (if_pos rfl).mpr rfl, fun ρ w1 hr hd => ?_⟩
                    obtain ⟨d0, _⟩ := hd
                    have d0 : ρ (.tmp 14) = .slice (some ⟨gz, oz, none⟩) wl.length wc := d0
                    refine (if_pos (by rfl)).mpr ?_
                    refine Og.gives_is (.slice (some ⟨gz, oz, none⟩) wl.length wc) ?_ (And.intro (Below.refl _ _) rfl)
                    go_simp
                  · refine ⟨fun v w hv => by (have hv' : v = .bool true := hv); subst hv'; exact (if_pos rfl).mpr rfl, fun ρ w1 hr hd => ?_⟩
                    obtain ⟨d0, _⟩ := hd
                    have d0 : ρ (.tmp 21) = .int .i64 (j : Int) := d0
                    refine (if_pos (by rfl)).mpr ?_
                    refine Og.gives_is (.int .i64 (j : Int)) ?_ (And.intro (Below.refl _ _) rfl)
                    go_simp
                  · refine ⟨fun v w hv => by (have hv' : v = .bool true := hv); subst hv'; exact (if_pos rfl).mpr rfl, fun ρ w1 hr hd => ?_⟩
                    obtain ⟨d0, d1, _⟩ := hd
                    have d0 : ρ (.tmp 176) = .slice (some ⟨gz, oz, none⟩) wl.length wc := d0
                    have d1 : ρ (.tmp 177) = .int .i64 (j : Int) := d1
                    refine (if_pos (by rfl)).mpr ?_
                    refine Og.gives_is (.pointer (some ⟨gz, oz + j * 18, none⟩)) ?_ (And.intro (Below.refl _ _) rfl)
                    go_simp
                  · refine ⟨fun v w hv => by (have hv' : v = .bool true := hv); subst hv'; exact (if_pos rfl).mpr rfl, fun ρ w1 hr hd => ?_⟩
                    obtain ⟨d0, _⟩ := hd
                    have d0 : ρ (.tmp 178) = .pointer (some ⟨gz, oz + j * 18, none⟩) := d0
                    refine (if_pos (by rfl)).mpr ?_
                    refine Og.gives_is (.agg (Ln.cells m).toArray) ?_ (And.intro (Below.refl _ _) rfl)
                    exact Og.load_run 30 (.tmp 178) rfl ⟨gz, oz + j * 18, none⟩ d0 (run_loadVar_at w1 gz (oz + j * 18) 30 (Ln.cells m) _ (fun i c hi => Ev.kp_below hr _ _ (HCD.out i c hi)) Try.underlying30 rfl (by rw [OM.out.len]; exact Ln.size_line))
                  · refine ⟨fun v w hv => by (have hv' : v = .bool true := hv); subst hv'; exact (if_pos rfl).mpr rfl, fun ρ w1 hr hd => ?_⟩
                    obtain ⟨d0, _⟩ := hd
                    have d0 : ρ (.tmp 16) = .pointer (some ⟨gb, 0, none⟩) := d0
                    refine (if_pos (by rfl)).mpr ?_
                    refine Og.gives_is (.agg (Ln.cells mg).toArray) ?_ (And.intro (Below.refl _ _) rfl)
                    exact Og.load_run 30 (.tmp 16) rfl ⟨gb, 0, none⟩ d0 (run_loadVar_row w1 gb 30 30 _ (0, 0) _ ((hr.block gb (Array.getElem?_eq_some_iff.1 RD.out.row).1).trans RD.out.row) Try.underlying30 rfl (by rw [OMG.out.size]; exact Ln.size_line))
                  · refine ⟨fun v w hv => by (have hv' : v = .bool true := hv); subst hv'; exact (if_pos rfl).mpr rfl, fun ρ w1 hr hd => ?_⟩
                    obtain ⟨d0, d1, _⟩ := hd
                    have d0 : ρ (.tmp 179) = .agg (Ln.cells m).toArray := d0
                    have d1 : ρ (.tmp 180) = .agg (Ln.cells mg).toArray := d1
                    refine (if_pos (by rfl)).mpr ?_
                    refine Og.gives_is (.bool true) ?_ (And.intro (Below.refl _ _) rfl)
                    exact Ln.neq_op (a := m) (b := mg) (.tmp 179) (.tmp 180) rfl OM.out OMG.out d0 d1 true (by rw [Bool.eq_false_iff.2 (fun h => hmg2 ((Ln.eqL_iff OM.out OMG.out).1 h))]; rfl) w1
                  · refine ⟨rfl, fun ρ w1 hr hd => ?_⟩
                    obtain ⟨d0, d1, d2, _⟩ := hd
                    have d0 : ρ (.tmp 175) = .bool true := d0
                    have d1 : ρ (.tmp 181) = .bool true := d1
                    have d2 : ρ (.const (Value.bool false)) = (Value.bool false) := d2
                    refine (if_pos (by rfl)).mpr ?_
                    refine Og.gives_is (.bool true) ?_ (And.intro (Below.refl _ _) rfl)
                    go_simp
                  · refine ⟨rfl, fun ρ w1 hr hd => ?_⟩
                    obtain ⟨d0, _⟩ := hd
                    have d0 : ρ (.tmp 182) = .bool true := d0
                    refine (if_pos (by rfl)).mpr ?_
                    refine Og.gives_is (.bool true) ?_ (And.intro (Below.refl _ _) rfl)
                    go_simp
                  · refine ⟨fun v w hv => by (have hv' : v = .bool true := hv); subst hv'; exact (if_pos rfl).mpr rfl, fun ρ w1 hr hd => ?_⟩
                    obtain ⟨d0, _⟩ := hd
                    have d0 : ρ (.tmp 22) = .pointer (some ⟨yb, 0, none⟩) := d0
                    refine (if_pos (by rfl)).mpr ?_
                    refine Og.gives_is (.agg (Ln.cells m1).toArray) ?_ (And.intro (Below.refl _ _) rfl)
                    exact Og.load_run 30 (.tmp 22) rfl ⟨yb, 0, none⟩ d0 (run_loadVar_row w1 yb 30 30 _ (0, 0) _ ((hr.block yb (Array.getElem?_eq_some_iff.1 YD.out).1).trans YD.out) Try.underlying30 rfl (by rw [O1.out.size]; exact Ln.size_line))
                  · refine ⟨fun v w hv => by (have hv' : v = .bool true := hv); subst hv'; exact (if_pos rfl).mpr rfl, fun ρ w1 hr hd => ?_⟩
                    obtain ⟨d0, _⟩ := hd
                    have d0 : ρ (.tmp 14) = .slice (some ⟨gz, oz, none⟩) wl.length wc := d0
                    refine (if_pos (by rfl)).mpr ?_
                    refine Og.gives_is (.slice (some ⟨gz, oz, none⟩) wl.length wc) ?_ (And.intro (Below.refl _ _) rfl)
                    go_simp
                  · refine ⟨fun v w hv => by (have hv' : v = .bool true := hv); subst hv'; exact (if_pos rfl).mpr rfl, fun ρ w1 hr hd => ?_⟩
                    obtain ⟨d0, _⟩ := hd
                    have d0 : ρ (.tmp 21) = .int .i64 (j : Int) := d0
                    refine (if_pos (by rfl)).mpr ?_
                    refine Og.gives_is (.int .i64 (j : Int)) ?_ (And.intro (Below.refl _ _) rfl)
                    go_simp
                  · refine ⟨fun v w hv => by (have hv' : v = .bool true := hv); subst hv'; exact (if_pos rfl).mpr rfl, fun ρ w1 hr hd => ?_⟩
                    obtain ⟨d0, d1, _⟩ := hd
                    have d0 : ρ (.tmp 185) = .slice (some ⟨gz, oz, none⟩) wl.length wc := d0
                    have d1 : ρ (.tmp 186) = .int .i64 (j : Int) := d1
                    refine (if_pos (by rfl)).mpr ?_
                    refine Og.gives_is (.pointer (some ⟨gz, oz + j * 18, none⟩)) ?_ (And.intro (Below.refl _ _) rfl)
                    go_simp
                  · refine ⟨fun v w hv => by (have hv' : v = .bool true := hv); subst hv'; exact (if_pos rfl).mpr rfl, fun ρ w1 hr hd => ?_⟩
                    obtain ⟨d0, _⟩ := hd
                    have d0 : ρ (.tmp 187) = .pointer (some ⟨gz, oz + j * 18, none⟩) := d0
                    refine (if_pos (by rfl)).mpr ?_
                    refine Og.gives_is (.agg (Ln.cells m).toArray) ?_ (And.intro (Below.refl _ _) rfl)
                    exact Og.load_run 30 (.tmp 187) rfl ⟨gz, oz + j * 18, none⟩ d0 (run_loadVar_at w1 gz (oz + j * 18) 30 (Ln.cells m) _ (fun i c hi => Ev.kp_below hr _ _ (HCD.out i c hi)) Try.underlying30 rfl (by rw [OM.out.len]; exact Ln.size_line))
                  · refine ⟨fun v w hv => by (have hv' : v = .bool true := hv); subst hv'; exact (if_pos rfl).mpr rfl, fun ρ w1 hr hd => ?_⟩
                    obtain ⟨d0, d1, _⟩ := hd
                    have d0 : ρ (.tmp 184) = .agg (Ln.cells m1).toArray := d0
                    have d1 : ρ (.tmp 188) = .agg (Ln.cells m).toArray := d1
                    refine (if_pos (by rfl)).mpr ?_
                    refine Og.gives_is (.bool false) ?_ (And.intro (Below.refl _ _) rfl)
                    exact Ln.neq_op (a := m1) (b := m) (.tmp 184) (.tmp 188) rfl O1.out OM.out d0 d1 false (by rw [hm1, Ln.eqL_self OM.out]; rfl) w1
                  · refine ⟨fun v w hv => by (have hv' : v = .bool true := hv); subst hv'; exact (if_pos rfl).mpr rfl, fun ρ w1 hr hd => ?_⟩
                    obtain ⟨d0, _⟩ := hd
                    have d0 : ρ (.tmp 189) = .bool false := d0
                    refine (if_pos (by rfl)).mpr ?_
                    refine Og.gives_is (.bool false) ?_ (And.intro (Below.refl _ _) rfl)
                    go_simp
                  · refine ⟨fun v w hv => by (have hv' : v = .bool false := hv); subst hv'; exact (if_pos rfl).mpr rfl, fun ρ w1 hr hd => ?_⟩
                    obtain ⟨d0, _⟩ := hd
                    have d0 : ρ (.tmp 23) = .bool true := d0
                    refine (if_pos (by rfl)).mpr ?_
                    refine Og.gives_is (.bool true) ?_ (And.intro (Below.refl _ _) rfl)
                    go_simp
                  · refine ⟨fun v w hv => by (have hv' : v = .bool false := hv); subst hv'; exact (if_pos rfl).mpr rfl, fun ρ w1 hr hd => ?_⟩
                    obtain ⟨d0, _⟩ := hd
                    have d0 : ρ (.tmp 191) = .bool true := d0
                    refine (if_pos (by rfl)).mpr ?_
                    refine Og.gives_is (.bool false) ?_ (And.intro (Below.refl _ _) rfl)
                    simp only [execOp, d0]; go_simp; try simp
                  · refine ⟨fun v w hv => by (have hv' : v = .bool true := hv); subst hv'; exact (if_pos rfl).mpr rfl, fun ρ w1 hr hd => ?_⟩
                    obtain ⟨d0, d1, d2, _⟩ := hd
                    have d0 : ρ (.tmp 190) = .bool false := d0
                    have d1 : ρ (.const (Value.bool true)) = (Value.bool true) := d1
                    have d2 : ρ (.tmp 192) = .bool false := d2
                    refine (if_pos (by rfl)).mpr ?_
                    refine Og.gives_is (.bool false) ?_ (And.intro (Below.refl _ _) rfl)
                    go_simp
                  · refine ⟨rfl, fun ρ w1 hr hd => ?_⟩
                    obtain ⟨d0, d1, d2, _⟩ := hd
                    have d0 : ρ (.tmp 183) = .bool true := d0
                    have d1 : ρ (.tmp 193) = .bool false := d1
                    have d2 : ρ (.const (Value.bool false)) = (Value.bool false) := d2
                    refine (if_pos (by rfl)).mpr ?_
                    refine Og.gives_is (.bool false) ?_ (And.intro (Below.refl _ _) rfl)
                    go_simp
                · intro vs w1 hbz hall
                  have e0 : vs 0 = .slice (some ⟨gz, oz, none⟩) wl.length wc := hall 0 _ 166 rfl rfl
                  have e1 : vs 1 = .int .i64 (j : Int) := hall 1 _ 167 rfl rfl
                  have e2 : vs 2 = .pointer (some ⟨gz, oz + j * 18, none⟩) := hall 2 _ 168 rfl rfl
                  have e3 : vs 3 = .pointer (some ⟨gz, oz + j * 18, none⟩) := hall 3 _ 169 rfl rfl
                  have e4 : vs 4 = .int .u32 m.n := hall 4 _ 170 rfl rfl
                  have e5 : vs 5 = .pointer (some ⟨xb, 1, none⟩) := hall 5 _ 171 rfl rfl
                  have e6 : vs 6 = .pointer (some ⟨xb, 1, none⟩) := hall 6 _ 172 rfl rfl
                  have e7 : vs 7 = .int .u32 y.e.n := hall 7 _ 173 rfl rfl
                  have e8 : vs 8 = .bool true := hall 8 _ 174 rfl rfl
                  have e9 : vs 9 = .bool true := hall 9 _ 175 rfl rfl
                  have e10 : vs 10 = .slice (some ⟨gz, oz, none⟩) wl.length wc := hall 10 _ 176 rfl rfl
                  have e11 : vs 11 = .int .i64 (j : Int) := hall 11 _ 177 rfl rfl
                  have e12 : vs 12 = .pointer (some ⟨gz, oz + j * 18, none⟩) := hall 12 _ 178 rfl rfl
                  have e13 : vs 13 = .agg (Ln.cells m).toArray := hall 13 _ 179 rfl rfl
                  have e14 : vs 14 = .agg (Ln.cells mg).toArray := hall 14 _ 180 rfl rfl
                  have e15 : vs 15 = .bool true := hall 15 _ 181 rfl rfl
                  have e16 : vs 16 = .bool true := hall 16 _ 182 rfl rfl
                  have e17 : vs 17 = .bool true := hall 17 _ 183 rfl rfl
                  have e18 : vs 18 = .agg (Ln.cells m1).toArray := hall 18 _ 184 rfl rfl
                  have e19 : vs 19 = .slice (some ⟨gz, oz, none⟩) wl.length wc := hall 19 _ 185 rfl rfl
                  have e20 : vs 20 = .int .i64 (j : Int) := hall 20 _ 186 rfl rfl
                  have e21 : vs 21 = .pointer (some ⟨gz, oz + j * 18, none⟩) := hall 21 _ 187 rfl rfl
                  have e22 : vs 22 = .agg (Ln.cells m).toArray := hall 22 _ 188 rfl rfl
                  have e23 : vs 23 = .bool false := hall 23 _ 189 rfl rfl
                  have e24 : vs 24 = .bool false := hall 24 _ 190 rfl rfl
                  have e25 : vs 25 = .bool true := hall 25 _ 191 rfl rfl
                  have e26 : vs 26 = .bool false := hall 26 _ 192 rfl rfl
                  have e27 : vs 27 = .bool false := hall 27 _ 193 rfl rfl
                  have e28 : vs 28 = .bool false := hall 28 _ 194 rfl rfl
                  have HBZ := Lib.hid hbz
                  simp only [Og.putAll, Act.put, List.setIfInBounds_toArray, List.set_cons_zero, List.set_cons_succ, Nat.zero_add, Nat.reduceAdd, e0, e1, e2, e3, e4, e5, e6, e7, e8, e9, e10, e11, e12, e13, e14, e15, e16, e17, e18, e19, e20, e21, e22, e23, e24, e25, e26, e27, e28]
                  clear hall hbz
                  go_wp2_with fail
                  go_roundw
                  case rel => exact ⟨j + 1, by omega, by go_num, BLD.out.trans (HBZ.out.mono BLD.out.size)⟩
                  case measure => simp [intOf]; omega
          · have hji : ¬ (j : Int) < (wl.length : Int) := by omega
            have BE := Lib.hid (RB.out.cl.bel.trans (BL.out.mono RB.out.cl.bel.size))
            go_wp2_with (go_at_call 21; (with_reducible refine (works_any _).mono ?_); rintro e' WE ⟨rfl, hb⟩; have B9 := Lib.hid (BE.out.trans (hb.mono BE.out.size)); clear hb)
            go_ret
            exact ⟨rfl, B0.out.trans (B9.out.mono B0.out.size)⟩
/-! THE WALK: the Go text returns true; of memory nothing that stood there has turned. -/
set_option maxRecDepth 100000 in
set_option maxHeartbeats 8000000 in
theorem walk (w : World) (a0 : Int) (w0 : (Lit.int .i64 a0).wf = true) (a1 : Int) (w1 : (Lit.int .i64 a1).wf = true) (a2 : Option Addr) (n2 c2 : Nat) (x2 : List Ln.Act) (l2 : x2.length = n2) (b2 : Ln.AsIn w a2 c2 x2) (x3 : Ln.Act) (b3 : Ln.AOk x3) (a4 : Int) (w4 : (Lit.int .i64 a4).wf = true) :
    Calls Try.prog 9 #[.int .i64 a0, .int .i64 a1, .slice a2 n2 c2, Ln.AV x3, .int .i64 a4] w fun e w' => e = .returned (.bool true) ∧ Below w.heap.size w w' := by
  cases hm : Ln.mayB a0 a1
  · exact walk_bad w a0 a1 (i64_of_wf w0) (i64_of_wf w1) hm a2 n2 c2 x3 a4
  · by_cases hn : (100 : Int) < (n2 : Int)
    · exact walk_long w a0 a1 (i64_of_wf w0) (i64_of_wf w1) hm a2 n2 c2 x3 a4 hn
    · by_cases hl : x3.e.s < 1
      · exact walk_low w a0 a1 (i64_of_wf w0) (i64_of_wf w1) hm a2 n2 c2 x3 a4 hn hl
      · by_cases hh : 3 < x3.e.s
        · exact walk_high w a0 a1 (i64_of_wf w0) (i64_of_wf w1) hm a2 n2 c2 x3 a4 hn hl hh
        · obtain ⟨s, ways, rfl, rfl, h0, h1, h2, h3⟩ := Ln.may_nat hm
          subst l2
          exact walk_good w s ways hm h0 h1 h2 h3 a2 c2 x2 b2 (by omega) x3 b3 (by omega) a4 (i64_of_wf w4)

/-! THE ROW -/
set_option maxRecDepth 100000 in
theorem lifted (os : Os) (started : os.Started) (H : Type) (enc : TypeId × Value → H) :
    ReturnsInHanded {} Try.checked os 9 .any (Rows.linesRoomSpec.pre6 enc Try.prog Try.f9 Rows.linesRoomRow.domain false) (Rows.linesRoomSpec.post enc Try.prog Try.f9 false true false false) := by
  refine returnsInHanded_of_change (C := Try.checked) own started (by kernel_rfl) Try.func9
    (ChangeSpec.witness6 (enc := enc) (C := Try.checked) false ⟨#[], #[.int .i64 0, .int .i64 0, .slice none 0 0, .agg #[.int .i64 0, .int .u32 0, .int .i64 0, .int .u8 0, .int .u8 0, .int .u8 0, .int .u8 0, .int .u8 0, .int .u8 0, .int .u8 0, .int .u8 0, .int .u8 0, .int .u8 0, .int .u8 0, .int .u8 0, .int .u8 0, .int .u8 0, .int .u8 0, .int .u8 0], .int .i64 0], []⟩ 8 (by kernel_rfl) (by kernel_rfl) (by kernel_rfl) (by kernel_rfl)) ?_
  intro W base args ds gs before hval0 hW hcnd _
  have hval : ∀ (j : Nat) t v, Try.f9.params[j]? = some t → args[j]? = some v → Value.okWide Try.prog W .any base t v := hval0
  have hW' := hW
  obtain ⟨p, q, hA0, hV, rfl, hfz, hnd⟩ := hW
  have hA : DataW.TrodAll enc Try.prog W 0 (fun _ => true) true Try.f9.params.toList args.toList ds p := hA0
  rw [Try.params9] at hA hval
  obtain ⟨v0, vs0, d0, ds0, p0, q0, hargs, rfl, rfl, h0, r0⟩ := trodAll_cons hA
  obtain ⟨v1, vs1, d1, ds1, p1, q1, rfl, rfl, rfl, h1, r1⟩ := trodAll_cons r0
  obtain ⟨v2, vs2, d2, ds2, p2, q2, rfl, rfl, rfl, h2, r2⟩ := trodAll_cons r1
  obtain ⟨v3, vs3, d3, ds3, p3, q3, rfl, rfl, rfl, h3, r3⟩ := trodAll_cons r2
  obtain ⟨v4, vs4, d4, ds4, p4, q4, rfl, rfl, rfl, h4, r4⟩ := trodAll_cons r3
  obtain ⟨rfl, rfl, rfl⟩ := trodAll_nil r4
  obtain rfl : args = #[v0, v1, v2, v3, v4] := by cases args; simp_all
  obtain ⟨rfl, rfl⟩ := trodVars_none hV
  clear hA0 hval0
  simp only [List.append_nil] at hW'
  have hlt : ∀ x ∈ p0 ++ (p1 ++ (p2 ++ (p3 ++ (p4)))), x.block < W.heap.size := fun x hx => by simpa using hW'.lt x (by simpa using hx)
  have h0k := h0
  obtain ⟨a0, rfl, rfl, rfl, w0⟩ := open_int Try.underlying3 (hval 0 3 v0 rfl rfl) h0
  have h1k := h1
  obtain ⟨a1, rfl, rfl, rfl, w1⟩ := open_int Try.underlying3 (hval 1 3 v1 rfl rfl) h1
  obtain ⟨a2, n2, c2, rfl⟩ := okWide_slice Try.underlying44 (hval 2 44 v2 rfl rfl)
  obtain ⟨x2, l2, b2⟩ := open_acts h2
  obtain ⟨x3, rfl, b3⟩ := open_act (hval 3 56 v3 rfl rfl) h3
  have h4k := h4
  obtain ⟨a4, rfl, rfl, rfl, w4⟩ := open_int Try.underlying3 (hval 4 3 v4 rfl rfl) h4
  refine (walk W a0 w0 a1 w1 a2 n2 c2 x2 l2 b2 x3 b3 a4 w4).mono fun e W' ⟨he, hb⟩ => ?_
  subst he
  have harg0 : DataW.Trod enc Try.prog W' 0 (fun b => decide (b < W.heap.size)) true 3 _ _ _ := Below.trod laidOut (by kernel_rfl) (of_decide_eq_true (by kernel_rfl)) h0k hb (fun x hx => by cases hx)
  have harg1 : DataW.Trod enc Try.prog W' 0 (fun b => decide (b < W.heap.size)) true 3 _ _ _ := Below.trod laidOut (by kernel_rfl) (of_decide_eq_true (by kernel_rfl)) h1k hb (fun x hx => by cases hx)
  have harg2 : DataW.Trod enc Try.prog W' 0 (fun b => decide (b < W.heap.size)) true 44 _ _ _ := Below.trod laidOut (by kernel_rfl) (of_decide_eq_true (by kernel_rfl)) h2 hb (fun x hx => hlt x (by simp [hx]))
  have harg3 : DataW.Trod enc Try.prog W' 0 (fun b => decide (b < W.heap.size)) true 56 _ _ _ := Below.trod laidOut (by kernel_rfl) (of_decide_eq_true (by kernel_rfl)) h3 hb (fun x hx => hlt x (by simp [hx]))
  have harg4 : DataW.Trod enc Try.prog W' 0 (fun b => decide (b < W.heap.size)) true 3 _ _ _ := Below.trod laidOut (by kernel_rfl) (of_decide_eq_true (by kernel_rfl)) h4k hb (fun x hx => by cases hx)
  exact ⟨_, rfl, _, _, _, [], _, [], hW', trodAll_mk1 (shut_bool Try.underlying4 _), (trodAll_cons_mk harg0 (trodAll_cons_mk harg1 (trodAll_cons_mk harg2 (trodAll_cons_mk harg3 (trodAll_cons_mk harg4 trodAll_mk0))))), rfl, hb.frame _, fun h => by cases h⟩

theorem over : Rows.linesRoomRow.holds Try.pinned (OpenSpec.ofChange Rows.linesRoomSpec) :=
  OpenClaim.holds_of_wide 9 Try.f9 rfl rfl rfl rfl rfl rfl rfl ⟨rfl, rfl, rfl, rfl, rfl⟩ rfl rfl rfl rfl rfl (by kernel_rfl) Try.func9 (by kernel_rfl)
    (of_decide_eq_true (by kernel_rfl)) (by unfold Func.isWrapper; first | (rw [if_pos (by decide +kernel)]; kernel_rfl) | (rw [if_neg (by decide +kernel)]; exact ⟨rfl, rfl⟩))
    (fun os started H enc _ => lifted os started H enc)

/-- THE STATEMENT -/
theorem proved : Rows.LinesRoomSaid :=
  over
end Go.Proofs.Ytifniogldinbdaa.linesRoom
