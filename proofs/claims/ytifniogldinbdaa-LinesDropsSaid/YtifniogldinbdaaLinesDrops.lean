/-
  LinesDrops: for every input the statement's function returns true, with no condition; each argument reads behind the call as before. By contracts of the program's and the document's functions.
-/
import Derived.Test.YtifniogldinbdaaLnLaw
namespace Go.Proofs.Ytifniogldinbdaa.linesDrops
open Go.ChangeShapes Go.WideShapes Go.ChangeAt Go.RowKit
set_option linter.unusedVariables false
set_option linter.unusedSimpArgs false

set_option maxRecDepth 100000 in
set_option maxHeartbeats 4000000 in
theorem walk_many (w : World) (a0 : Option Addr) (n0 c0 : Nat) (n : Int) (hg : (8 : Int) < (n0 : Int)) :
    Calls Try.prog 8 #[.slice a0 n0 c0, .int .u32 n] w fun e w' => e = .returned (.bool true) ∧ Below w.heap.size w w' := by
  go_enter Try.func8, Try.ntmps8
  go_wp2_with (go_at_call 21; (with_reducible refine (works_any _).mono ?_); rintro e W2 ⟨rfl, hb⟩; have B2 := Lib.hid hb; clear hb)
  go_ret
  exact ⟨rfl, B2.out⟩
set_option maxRecDepth 100000 in
set_option maxHeartbeats 8000000 in
theorem walk_few (w : World) (a0 : Option Addr) (c0 : Nat) (x0 : List Ln.E) (b0 : Ln.LsIn w a0 c0 x0) (hx : x0.length ≤ 8) (n : Int) (hn : Ev.u32B n) :
    Calls Try.prog 8 #[.slice a0 x0.length c0, .int .u32 n] w fun e w' => e = .returned (.bool true) ∧ Below w.heap.size w w' := by
  have hg : ¬ (8 : Int) < (x0.length : Int) := by omega
  have NW := Lib.hid (show Calls Try.prog 10 #[.int .i64 1, .int .i64 8] w fun e w' => ∃ p, e = .returned (.tuple #[.pointer (some ⟨p, 0, none⟩), .int .i64 0]) ∧ Below w.heap.size w w' ∧ ∃ F, Ln.Cache w' F p 8 (List.replicate 1 []) ∧ ∀ k, F k → w.heap.size ≤ k from new_yes 1 8 (by decide) w)
  have HIN := Lib.hid b0
  have HN := Lib.hid hn
  have HRL := Lib.hid (fun k hk => Ln.putsL_rl (s := 1) (ways := 8) (by decide) (by decide) (by decide) (by decide) b0.ok k hk)
  clear b0 hn
  go_enter Try.func8, Try.ntmps8
  go_wp2_with (go_at_call 10; (with_reducible refine NW.out.mono ?_); rintro e W1 ⟨p, rfl, hb1, F, hca, hf⟩
               have B1 := Lib.hid hb1; have CA := Lib.hid hca; have HF := Lib.hid hf
               clear hb1 hca hf)
  obtain ⟨wb, hwb⟩ : ∃ wb, wb = W1.heap.size := ⟨_, rfl⟩
  obtain ⟨W2, hW2⟩ : ∃ W2, W2 = W1.alloc (.cells #[.int .i64 1, .int .i64 8, .slice none 0 0] 46) := ⟨_, rfl⟩
  rw [← hW2, ← hwb]
  have PL0 := Lib.hid (show Ln.Pl w W2 F p 1 8 wb (Ln.rows (Ln.putsL 1 8 (x0.take 0)) 1) none 0 (Ln.putsL 1 8 (x0.take 0)) from by
    rw [hwb]; exact Ln.Pl.fresh0 CA.out B1.out HF.out hW2)
  clear hW2 hwb CA B1 HF
  go_loopw [8] (fun i wr => ∃ k : Nat, k ≤ x0.length ∧ i = .int .i64 (k : Int) ∧ ∃ F a c, Ln.Pl w wr F p 1 8 wb (Ln.rows (Ln.putsL 1 8 (x0.take k)) 1) a c (Ln.putsL 1 8 (x0.take k))) (fun i _ => x0.length - (intOf i).toNat)
  case atStart => exact ⟨0, Nat.zero_le _, rfl, F, none, 0, PL0.out⟩
  case round =>
    obtain ⟨k, hk, rfl, F, a, c, hpl⟩ := hrel
    obtain ⟨l, hl⟩ : ∃ l, Ln.putsL 1 8 (x0.take k) = l := ⟨_, rfl⟩
    obtain ⟨hrl, hll⟩ := HRL.out k hk
    rw [hl] at hpl hrl hll
    have PL := Lib.hid hpl; have HL := Lib.hid hl; have RL := Lib.hid hrl
    have hll2 : l.length ≤ 8 := by omega
    have PW := Lib.hid (show wr.heap[wb]? = some (.cells #[.int .i64 1, .int .i64 8, .slice a l.length c] 46 (0, 0)) from hpl.want)
    clear hpl hl hrl
    by_cases hlt : k < x0.length
    · obtain ⟨m, hm⟩ : ∃ m, x0[k]? = some m := ⟨_, List.getElem?_eq_getElem hlt⟩
      have HOK := Lib.hid (HIN.out.ok_ hm)
      have HPS := Lib.hid (show Ln.putsL 1 8 (x0.take (k + 1)) = Ln.putRL 1 8 l m by rw [Ln.putsL_succ 1 8 hm, HL.out])
      obtain ⟨ga, o, ea, hc⟩ := HIN.out.at_ hm
      have HC := Lib.hid hc
      have hki : (k : Int) < (x0.length : Int) := by omega
      clear hm hc
      rw [ea]; clear ea
      go_wp2_with fail
      obtain ⟨wq, hwq⟩ : ∃ wq, wq = { wr with drawn := wr.drawn + 1 } := ⟨_, rfl⟩
      have BQ := Lib.hid (show Below wr.heap.size wr wq by rw [hwq]; exact ⟨rfl, rfl, rfl, Nat.le_refl _, fun _ _ => rfl⟩)
      have HWQ := Lib.hid hwq
      clear hwq
      have PQ := Lib.hid (PL.out.kp BQ.out)
      have PWQ := Lib.hid (show wq.heap[wb]? = some (.cells #[.int .i64 1, .int .i64 8, .slice a l.length c] 46 (0, 0)) from PQ.out.want)
      have HCQ := Lib.hid (fun i c hi => Ev.kp_below PQ.out.bel _ _ (HC.out i c hi))
      have HFA := Lib.hid (show (fun x : World => x.heap[wb]? = some (.cells #[.int .i64 1, .int .i64 8, .slice a l.length c] 46 (0, 0)) ∧ ∀ i c, (Ln.cells m)[i]? = some c → x.cell? ⟨ga, o + k * 18 + i, none⟩ = some c) wq from ⟨PWQ.out, HCQ.out⟩)
      refine Og.region_S (S := Og.SF 5 (fun x : World => x.heap[wb]? = some (.cells #[.int .i64 1, .int .i64 8, .slice a l.length c] 46 (0, 0)) ∧ ∀ i c, (Ln.cells m)[i]? = some c → x.cell? ⟨ga, o + k * 18 + i, none⟩ = some c)) (by kernel_rfl) ?_
      rw [← HWQ.out]
      refine Og.s_take 0 { dst := some 26, op := Go.Op.load 46 (Go.Operand.tmp 7), type := 46, pos := "near.go:34", after := #[], guard := none } (.agg #[.int .i64 1, .int .i64 8, .slice a l.length c]) _ (by kernel_rfl) (by kernel_rfl) (by kernel_rfl) (by kernel_rfl) (by kernel_rfl) (fun _ _ _ h => h) (fun _ => HFA.out) (fun x' hx => ?_) (by simp only [Act.put, List.setIfInBounds_toArray, List.set_cons_zero, List.set_cons_succ]; rfl) ?_
      · exact Og.load_run 46 (.tmp 7) rfl ⟨wb, 0, none⟩ rfl (run_loadVar_row x' wb 46 46 #[.int .i64 1, .int .i64 8, .slice a l.length c] (0, 0) _ (hx (by decide)).1 Try.underlying46 rfl (by kernel_rfl))
      refine Og.s_take 1 { dst := some 27, op := Go.Op.move (Go.Operand.tmp 0), type := 38, pos := "near.go:34", after := #[], guard := none } (.slice (some ⟨ga, o, none⟩) x0.length c0) _ (by kernel_rfl) (by kernel_rfl) (by kernel_rfl) (by kernel_rfl) (by kernel_rfl) (fun _ _ _ h => h) (fun _ => HFA.out) (fun x' hx => ?_) (by simp only [Act.put, List.setIfInBounds_toArray, List.set_cons_zero, List.set_cons_succ]; rfl) ?_
      · go_simp; try (with_reducible rfl)
      refine Og.s_take 2 { dst := some 28, op := Go.Op.move (Go.Operand.tmp 8), type := 3, pos := "near.go:34", after := #[], guard := none } (.int .i64 (k : Int)) _ (by kernel_rfl) (by kernel_rfl) (by kernel_rfl) (by kernel_rfl) (by kernel_rfl) (fun _ _ _ h => h) (fun _ => HFA.out) (fun x' hx => ?_) (by simp only [Act.put, List.setIfInBounds_toArray, List.set_cons_zero, List.set_cons_succ]; rfl) ?_
      · go_simp; try (with_reducible rfl)
      refine Og.s_take 3 { dst := some 29, op := Go.Op.indexAddr 38 (Go.Operand.tmp 27) (Go.Operand.tmp 28), type := 0, pos := "near.go:34", after := #[{ on := 1, ground := Go.Ground.data }, { on := 2, ground := Go.Ground.data }], guard := none } (.pointer (some ⟨ga, o + k * 18, none⟩)) _ (by kernel_rfl) (by kernel_rfl) (by kernel_rfl) (by kernel_rfl) (by kernel_rfl) (fun _ _ _ h => h) (fun _ => HFA.out) (fun x' hx => ?_) (by simp only [Act.put, List.setIfInBounds_toArray, List.set_cons_zero, List.set_cons_succ]; rfl) ?_
      · go_simp; try (with_reducible rfl)
      refine Og.s_take 4 { dst := some 30, op := Go.Op.load 30 (Go.Operand.tmp 29), type := 30, pos := "near.go:34", after := #[{ on := 3, ground := Go.Ground.data }], guard := none } (.agg (Ln.cells m).toArray) _ (by kernel_rfl) (by kernel_rfl) (by kernel_rfl) (by kernel_rfl) (by kernel_rfl) (fun _ _ _ h => h) (fun _ => HFA.out) (fun x' hx => ?_) (by simp only [Act.put, List.setIfInBounds_toArray, List.set_cons_zero, List.set_cons_succ]; rfl) ?_
      · exact Og.load_run 30 (.tmp 29) rfl ⟨ga, o + k * 18, none⟩ rfl (run_loadVar_at x' ga (o + k * 18) 30 (Ln.cells m) _ (hx (by decide)).2 Try.underlying30 rfl (by rw [HOK.out.len]; exact Ln.size_line))
      refine Og.s_one 5 { dst := some 31, op := Go.Op.call { callee := Go.Callee.value (Go.Operand.func 28), args := #[Go.Operand.tmp 26, Go.Operand.tmp 30], argTypes := #[46, 30] }, type := 61, pos := "near.go:34", after := #[{ on := 0, ground := Go.Ground.data }, { on := 4, ground := Go.Ground.data }], guard := none } (by kernel_rfl) (by kernel_rfl) (by kernel_rfl) ?_
      refine Og.call_to (w1 := wq) (f := 28) (args := #[.agg #[.int .i64 1, .int .i64 8, .slice a l.length c], .agg (Ln.cells m).toArray]) (by go_simp) ?_
      refine Calls.mono (show Calls Try.prog 28 #[.agg #[.int .i64 1, .int .i64 8, .slice a l.length c], .agg (Ln.cells m).toArray] wq fun x w' => (∃ a' c', x = .returned (.tuple #[.agg #[.int .i64 1, .int .i64 8, .slice a' (Ln.putRL 1 8 l m).length c'], .int .i64 (Ln.putRE 1 8 l m)]) ∧ ((a' = a ∧ c' = c ∧ Ln.putRL 1 8 l m = l) ∨ w'.ownsRow wq.heap.size 30 18 (.slice a' (Ln.putRL 1 8 l m).length c') (Ln.putRL 1 8 l m).length (Ln.flat (Ln.putRL 1 8 l m)))) ∧ Below wq.heap.size wq w' from rput_any 1 8 a c l m HOK.out wq (PQ.out.rin RL.out (by omega))) ?_
      rintro e' W3 ⟨⟨a3, c3, rfl, ho3⟩, hb3⟩
      have P3 := Lib.hid (PQ.out.kp hb3)
      have PW3 := Lib.hid (show W3.heap[wb]? = some (.cells #[.int .i64 1, .int .i64 8, .slice a l.length c] 46 (0, 0)) from P3.out.want)
      have O3 := Lib.hid (show W3.ownsRow w.heap.size 30 18 (.slice a3 (Ln.putRL 1 8 l m).length c3) (Ln.putRL 1 8 l m).length (Ln.flat (Ln.putRL 1 8 l m)) ∧ ∀ k, (Value.slice a3 (Ln.putRL 1 8 l m).length c3).ownBlock = some k → ¬ F k from by
        rcases ho3 with ⟨e1, e2, e3⟩ | h3
        · rw [e1, e2, e3]; exact ⟨P3.out.own, P3.out.nf⟩
        · exact PQ.out.fresh h3)
      refine ⟨_, rfl, Og.keep_sf (fun h => ⟨PW3.out, fun i c hi => Ev.kp_below hb3 _ _ (h.2 i c hi)⟩), ?_⟩
      clear hb3 ho3
      refine Og.s_take 6 { dst := some 25, op := Go.Op.move (Go.Operand.tmp 31), type := 61, pos := "near.go:34", after := #[{ on := 5, ground := Go.Ground.data }], guard := none } (.tuple #[.agg #[.int .i64 1, .int .i64 8, .slice a3 (Ln.putRL 1 8 l m).length c3], .int .i64 (Ln.putRE 1 8 l m)]) _ (by kernel_rfl) (by kernel_rfl) (by kernel_rfl) (by kernel_rfl) (by kernel_rfl) (fun _ _ _ h => h) (fun h => absurd h (by decide)) (fun x' hx => ?_) (by simp only [Act.put, List.setIfInBounds_toArray, List.set_cons_zero, List.set_cons_succ]; rfl) ?_
      · go_simp; try (with_reducible rfl)
      refine Og.s_take 7 { dst := some 32, op := Go.Op.extract (Go.Operand.tmp 25) 0, type := 46, pos := "near.go:34", after := #[{ on := 6, ground := Go.Ground.data }], guard := none } (.agg #[.int .i64 1, .int .i64 8, .slice a3 (Ln.putRL 1 8 l m).length c3]) _ (by kernel_rfl) (by kernel_rfl) (by kernel_rfl) (by kernel_rfl) (by kernel_rfl) (fun _ _ _ h => h) (fun h => absurd h (by decide)) (fun x' hx => ?_) (by simp only [Act.put, List.setIfInBounds_toArray, List.set_cons_zero, List.set_cons_succ]; rfl) ?_
      · go_simp; try (with_reducible rfl)
      refine Og.s_take 8 { dst := some 33, op := Go.Op.extract (Go.Operand.tmp 25) 1, type := 3, pos := "near.go:34", after := #[{ on := 6, ground := Go.Ground.data }, { on := 9, ground := Go.Ground.gcOnly Go.Departure.lateStores }], guard := none } (.int .i64 (Ln.putRE 1 8 l m)) _ (by kernel_rfl) (by kernel_rfl) (by kernel_rfl) (by kernel_rfl) (by kernel_rfl) (fun _ _ _ h => h) (fun h => absurd h (by decide)) (fun x' hx => ?_) (by simp only [Act.put, List.setIfInBounds_toArray, List.set_cons_zero, List.set_cons_succ]; rfl) ?_
      · go_simp; try (with_reducible rfl)
      refine Og.s_one 9 { dst := none, op := Go.Op.store 46 (Go.Operand.tmp 7) (Go.Operand.tmp 32), type := 0, pos := "near.go:34", after := #[{ on := 7, ground := Go.Ground.data }, { on := 5, ground := Go.Ground.chain }, { on := 0, ground := Go.Ground.phase }, { on := 1, ground := Go.Ground.phase }, { on := 2, ground := Go.Ground.phase }, { on := 3, ground := Go.Ground.phase }, { on := 4, ground := Go.Ground.phase }, { on := 5, ground := Go.Ground.phase }, { on := 6, ground := Go.Ground.phase }, { on := 7, ground := Go.Ground.phase }, { on := 8, ground := Go.Ground.textOnly Go.Departure.lateStores }], guard := none } (by kernel_rfl) (by kernel_rfl) (by kernel_rfl) ?_
      refine Og.skip_to (w' := W3.setRow wb #[.int .i64 1, .int .i64 8, .slice a3 (Ln.putRL 1 8 l m).length c3]) ?_ ⟨Og.keep_last (o := { dst := none, op := Go.Op.store 46 (Go.Operand.tmp 7) (Go.Operand.tmp 32), type := 0, pos := "near.go:34", after := #[{ on := 7, ground := Go.Ground.data }, { on := 5, ground := Go.Ground.chain }, { on := 0, ground := Go.Ground.phase }, { on := 1, ground := Go.Ground.phase }, { on := 2, ground := Go.Ground.phase }, { on := 3, ground := Go.Ground.phase }, { on := 4, ground := Go.Ground.phase }, { on := 5, ground := Go.Ground.phase }, { on := 6, ground := Go.Ground.phase }, { on := 7, ground := Go.Ground.phase }, { on := 8, ground := Go.Ground.textOnly Go.Departure.lateStores }], guard := none }) (by kernel_rfl) (by kernel_rfl), ?_⟩
      · exact Og.row_to 46 (.tmp 7) (.tmp 32) rfl wb #[.int .i64 1, .int .i64 8, .slice a3 (Ln.putRL 1 8 l m).length c3] rfl rfl 46 _ PW3.out (by kernel_rfl) rfl (by kernel_rfl)
      obtain ⟨w10, hw10⟩ : ∃ w10, w10 = W3.setRow wb #[.int .i64 1, .int .i64 8, .slice a3 (Ln.putRL 1 8 l m).length c3] := ⟨_, rfl⟩
      have hs10 := Ev.set1 (cs := #[.int .i64 1, .int .i64 8, .slice a3 (Ln.putRL 1 8 l m).length c3]) PW3.out rfl
      rw [← hw10] at hs10 ⊢
      have P10 := Lib.hid (P3.out.list O3.out.1 O3.out.2 hs10)
      clear hw10 hs10
      refine Og.s_done (by kernel_rfl) ?_ _
      try simp only [Act.put, List.setIfInBounds_toArray, List.set_cons_zero, List.set_cons_succ]
      have HC10 := Lib.hid (fun i c hi => Ev.kp_below P10.out.bel _ _ (HC.out i c hi))
      have KC := Lib.hid (Ln.put_rows HOK.out P10.out.cache RL.out)
      go_wp2_with (first
        | ((with_reducible show wpList _ _ _ (Oper.mk (some 38) _ _ _ _ _ :: _) _ _); refine wpList_load_at rfl 30 (.tmp 37) rfl ga (o + k * 18) rfl (Ln.cells m) _ HC10.out Try.underlying30 rfl (by rw [HOK.out.len]; exact Ln.size_line) ?_)
        | (go_at_call 14; (with_reducible refine KC.out.mono ?_); rintro e' W7 ⟨rfl, ht7⟩
           obtain ⟨F7, h7, hfr7, hk7⟩ := P10.out.turn ht7
           have P7 := Lib.hid h7
           clear ht7 h7 hfr7 hk7))
      go_roundw
      case rel => exact ⟨k + 1, by omega, by go_num, F7, a3, c3, by rw [HPS.out]; exact P7.out⟩
      case measure => simp [intOf]; omega
    · have hki : ¬ (k : Int) < (x0.length : Int) := by omega
      obtain ⟨t, ht⟩ : ∃ t, Ln.ix l n 0 = t := ⟨_, rfl⟩
      have KF := Lib.hid (show Calls Try.prog 25 #[.agg #[.int .i64 1, .int .i64 8, .slice a l.length c], .int .u32 n] wr fun e w' => e = .returned (.int .i64 t) ∧ Below wr.heap.size wr w' from ht ▸ rfind_any 1 8 a c l n HN.out wr (PL.out.rin RL.out (by omega)))
      have HT := Lib.hid ht
      have hvv : (decide (0 ≤ t) == decide (0 ≤ t)) = true := by simp
      clear ht
      go_wp2_with (first
        | ((with_reducible show wpList _ _ _ (Oper.mk (some 40) _ _ _ _ _ :: _) _ _); refine wpList_load_row rfl 46 (.tmp 7) rfl wb rfl 46 _ (0, 0) _ PW.out Try.underlying46 rfl (by kernel_rfl) ?_)
        | (go_at_call 13; (with_reducible refine (num_any _ _).mono ?_); rintro e' W8 ⟨rfl, hw8⟩; subst hw8)
        | (go_at_call 25; (with_reducible refine KF.out.mono ?_); rintro e' W3 ⟨rfl, hb3⟩
           have P3 := Lib.hid (PL.out.kp hb3)
           have KD := Lib.hid (Ln.drop_rows HN.out P3.out.cache RL.out)
           rw [HT.out] at KD
           clear hb3)
        | (go_at_call 15; (with_reducible refine KD.out.mono ?_); rintro e' W4 ⟨rfl, ht4⟩
           obtain ⟨F4, h4, hfr4, hk4⟩ := P3.out.turn ht4
           have P4 := Lib.hid h4
           have KE := Lib.hid (Ln.drop_rows2 HN.out P4.out.cache RL.out)
           clear ht4 h4 hfr4 hk4
           refine Ln.Stop.out ?_))
      refine ⟨?_⟩
      go_wp2_with (first
        | (go_at_call 15; (with_reducible refine KE.out.mono ?_); rintro e' W5 ⟨rfl, ht5⟩
           obtain ⟨F5, h5, hfr5, hk5⟩ := P4.out.turn ht5
           have P5 := Lib.hid h5
           have PW5 := Lib.hid (show W5.heap[wb]? = some (.cells #[.int .i64 1, .int .i64 8, .slice a l.length c] 46 (0, 0)) from P5.out.want)
           have KR := Lib.hid (show Calls Try.prog 27 #[.agg #[.int .i64 1, .int .i64 8, .slice a l.length c], .int .u32 n] W5 fun e w' => ∃ a' c', e = .returned (.agg #[.int .i64 1, .int .i64 8, .slice a' (Ln.dropL l n).length c']) ∧ w'.ownsRow W5.heap.size 30 18 (.slice a' (Ln.dropL l n).length c') (Ln.dropL l n).length (Ln.flat (Ln.dropL l n)) ∧ Below W5.heap.size W5 w' from
             (rdrop_any 1 8 a c l n W5 (P5.out.rin RL.out (by omega))).mono (by rintro e' W6 ⟨vv, rfl, ⟨a6, c6, rfl, ho6⟩, hb6⟩; exact ⟨a6, c6, rfl, ho6, hb6⟩))
           clear ht5 h5 hfr5 hk5)
        | ((with_reducible show wpList _ _ _ (Oper.mk (some 62) _ _ _ _ _ :: _) _ _); refine Ev.load_row_g 46 (.tmp 7) rfl rfl wb rfl 46 _ (0, 0) _ PW5.out Try.underlying46 rfl (by kernel_rfl) ?_)
        | (go_at_call 27; (with_reducible refine KR.out.mono ?_); rintro e' W6 ⟨a6, c6, rfl, ho6, hb6⟩
           have P6 := Lib.hid (P5.out.kp hb6)
           have KI := Lib.hid (show Calls Try.prog 23 #[.pointer (some ⟨p, 0, none⟩), .agg #[.int .i64 1, .int .i64 8, .slice a6 (Ln.dropL l n).length c6]] W6 fun e w' => e = .returned (.bool true) ∧ Below W6.heap.size W6 w' from
             is_any 1 8 a6 c6 (Ln.dropL l n) W6 (Ln.rin_own ho6 (RL.out.drop n) (Nat.le_trans (Ln.dropL_len _ _) (by omega))) (RL.out.drop n) P6.out.cache)
           clear ho6 hb6)
        | (go_at_call 23; (with_reducible refine KI.out.mono ?_); rintro e' W8 ⟨rfl, hb⟩; have B8 := Lib.hid (P6.out.bel.trans (hb.mono P6.out.bel.size)); clear hb)
        | (go_at_call 21; (with_reducible refine (works_any _).mono ?_); rintro e' W9 ⟨rfl, hb⟩; have B9 := Lib.hid (B8.out.trans (hb.mono B8.out.size)); clear hb))
      go_ret
      exact ⟨rfl, B9.out⟩
/-! THE WALK: the Go text returns true; of memory nothing that stood there has turned. -/
set_option maxRecDepth 100000 in
set_option maxHeartbeats 8000000 in
theorem walk (w : World) (a0 : Option Addr) (n0 c0 : Nat) (x0 : List Ln.E) (l0 : x0.length = n0) (b0 : Ln.LsIn w a0 c0 x0) (a1 : Int) (w1 : (Lit.int .u32 a1).wf = true) :
    Calls Try.prog 8 #[.slice a0 n0 c0, .int .u32 a1] w fun e w' => e = .returned (.bool true) ∧ Below w.heap.size w w' := by
  by_cases hg : (8 : Int) < (n0 : Int)
  · exact walk_many w a0 n0 c0 a1 hg
  · subst l0
    exact walk_few w a0 c0 x0 b0 (by omega) a1 (u32_of_wf w1)

/-! THE ROW -/
set_option maxRecDepth 100000 in
theorem lifted (os : Os) (started : os.Started) (H : Type) (enc : TypeId × Value → H) :
    ReturnsInHanded {} Try.checked os 8 .any (Rows.linesDropsSpec.pre6 enc Try.prog Try.f8 Rows.linesDropsRow.domain false) (Rows.linesDropsSpec.post enc Try.prog Try.f8 false true false false) := by
  refine returnsInHanded_of_change (C := Try.checked) own started (by kernel_rfl) Try.func8
    (ChangeSpec.witness6 (enc := enc) (C := Try.checked) false ⟨#[], #[.slice none 0 0, .int .u32 0], []⟩ 8 (by kernel_rfl) (by kernel_rfl) (by kernel_rfl) (by kernel_rfl)) ?_
  intro W base args ds gs before hval0 hW hcnd _
  have hval : ∀ (j : Nat) t v, Try.f8.params[j]? = some t → args[j]? = some v → Value.okWide Try.prog W .any base t v := hval0
  have hW' := hW
  obtain ⟨p, q, hA0, hV, rfl, hfz, hnd⟩ := hW
  have hA : DataW.TrodAll enc Try.prog W 0 (fun _ => true) true Try.f8.params.toList args.toList ds p := hA0
  rw [Try.params8] at hA hval
  obtain ⟨v0, vs0, d0, ds0, p0, q0, hargs, rfl, rfl, h0, r0⟩ := trodAll_cons hA
  obtain ⟨v1, vs1, d1, ds1, p1, q1, rfl, rfl, rfl, h1, r1⟩ := trodAll_cons r0
  obtain ⟨rfl, rfl, rfl⟩ := trodAll_nil r1
  obtain rfl : args = #[v0, v1] := by cases args; simp_all
  obtain ⟨rfl, rfl⟩ := trodVars_none hV
  clear hA0 hval0
  simp only [List.append_nil] at hW'
  have hlt : ∀ x ∈ p0 ++ (p1), x.block < W.heap.size := fun x hx => by simpa using hW'.lt x (by simpa using hx)
  obtain ⟨a0, n0, c0, rfl⟩ := okWide_slice Try.underlying38 (hval 0 38 v0 rfl rfl)
  obtain ⟨x0, l0, b0⟩ := open_lines h0
  have h1k := h1
  obtain ⟨a1, rfl, rfl, rfl, w1⟩ := open_int Try.underlying26 (hval 1 26 v1 rfl rfl) h1
  refine (walk W a0 n0 c0 x0 l0 b0 a1 w1).mono fun e W' ⟨he, hb⟩ => ?_
  subst he
  have harg0 : DataW.Trod enc Try.prog W' 0 (fun b => decide (b < W.heap.size)) true 38 _ _ _ := Below.trod laidOut (by kernel_rfl) (of_decide_eq_true (by kernel_rfl)) h0 hb (fun x hx => hlt x (by simp [hx]))
  have harg1 : DataW.Trod enc Try.prog W' 0 (fun b => decide (b < W.heap.size)) true 26 _ _ _ := Below.trod laidOut (by kernel_rfl) (of_decide_eq_true (by kernel_rfl)) h1k hb (fun x hx => by cases hx)
  exact ⟨_, rfl, _, _, _, [], _, [], hW', trodAll_mk1 (shut_bool Try.underlying4 _), (trodAll_cons_mk harg0 (trodAll_cons_mk harg1 trodAll_mk0)), rfl, hb.frame _, fun h => by cases h⟩

theorem over : Rows.linesDropsRow.holds Try.pinned (OpenSpec.ofChange Rows.linesDropsSpec) :=
  OpenClaim.holds_of_wide 8 Try.f8 rfl rfl rfl rfl rfl rfl rfl ⟨rfl, rfl, rfl, rfl, rfl⟩ rfl rfl rfl rfl rfl (by kernel_rfl) Try.func8 (by kernel_rfl)
    (of_decide_eq_true (by kernel_rfl)) (by unfold Func.isWrapper; first | (rw [if_pos (by decide +kernel)]; kernel_rfl) | (rw [if_neg (by decide +kernel)]; exact ⟨rfl, rfl⟩))
    (fun os started H enc _ => lifted os started H enc)

/-- THE STATEMENT -/
theorem proved : Rows.LinesDropsSaid :=
  over
end Go.Proofs.Ytifniogldinbdaa.linesDrops
