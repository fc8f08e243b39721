/-
  The contract of the laws' played.
-/
import Derived.Test.YtifniogldinbdaaLnPl
namespace Go.Proofs.Ytifniogldinbdaa
open Go.RowKit
set_option linter.unusedVariables false
set_option linter.unusedSimpArgs false
namespace Ln
theorem res3 {P : Program} {fn : Func} {t p u : Tmp} {ty : TypeId} (h : fn.results = #[.tmp t, .cell p ty, .tmp u]) (tmps : Array Value) (w : World) (g : Nat) (q : TypeId) (cs : Array Value) (fr : Nat × Nat) (d : TypeDesc)
    (hp : tmps.getD p undef = .pointer (some ⟨g, 0, none⟩)) (hg : w.heap[g]? = some (.cells cs q fr))
    (hu : P.underlying ty = some d) (hd : (match d with | .struct _ | .array _ _ => true | _ => false) = true) (hi : (P.info? ty).map (·.size) = some cs.size) :
    (results fn tmps).run P w = .ok (.tuple #[tmps.getD t undef, .agg cs, tmps.getD u undef]) w := by
  have h1 : (results fn tmps).run P w = ((asAddr (tmps.getD p undef)).run P w).andThen fun a w₁ => ((loadVar ty a).run P w₁).andThen fun v w₂ => .ok (.tuple #[tmps.getD t undef, v, tmps.getD u undef]) w₂ := by
    simp only [results, h]
    simp [Sem.run_bind, Result.andThen]
  rw [h1, hp]
  simp only [asAddr, Sem.run_pure, Result.andThen_ok]
  rw [run_loadVar_row w g q ty cs fr d hg hu hd hi]
  rfl
theorem line_of_act {W : World} {xb : Nat} {x : Act} {t : TypeId} {fr : Nat × Nat} (h : W.heap[xb]? = some (.cells (acells x).toArray t fr)) : ∀ i c, (cells x.e)[i]? = some c → W.cell? ⟨xb, 1 + i, none⟩ = some c := by
  intro i c hi
  rw [cell_of_row _ _ _ _ _ _ h, List.getElem?_toArray, Nat.add_comm]
  unfold acells
  rw [List.getElem?_cons_succ]
  exact hi
/-- what played tells -/
def Played (w w' : World) (s ways : Nat) (xs : List Act) (e : Ending) : Prop :=
  ∃ p F a c, e = .returned (.tuple #[.pointer (some ⟨p, 0, none⟩), .agg #[.int .i64 (s : Int), .int .i64 (ways : Int), .slice a (playL s ways xs).length c], .bool true]) ∧
    Cache w' F p ways (rows (playL s ways xs) s) ∧ Below w.heap.size w w' ∧ (∀ k, F k → w.heap.size ≤ k) ∧
    w'.ownsRow w.heap.size 30 18 (.slice a (playL s ways xs).length c) (playL s ways xs).length (flat (playL s ways xs)) ∧ ∀ k, (Value.slice a (playL s ways xs).length c).ownBlock = some k → ¬ F k
end Ln
theorem rput_any (s ways : Nat) (a : Option Addr) (c : Nat) (l : List Ln.E) (e : Ln.E) (hok : Ln.Ok e) (w : World) (h : Ln.RIn w s ways a c l) :
    Calls Try.prog 28 #[.agg #[.int .i64 (s : Int), .int .i64 (ways : Int), .slice a l.length c], .agg (Ln.cells e).toArray] w fun x w' => Ln.PTold w w' s ways a c l e x ∧ Below w.heap.size w w' := by
  cases hh : Ln.held e.s
  · exact rput_bad s ways a c l e hok hh w h
  · exact rput_good s ways a c l e hok hh w h
set_option maxRecDepth 100000 in
set_option maxHeartbeats 8000000 in
theorem played_any (s ways : Nat) (hm : Ln.mayB s ways = true) (sa : Option Addr) (sc : Nat) (xs : List Ln.Act) (hxl : xs.length ≤ 100) (w : World) (hin : Ln.AsIn w sa sc xs) :
    Calls Try.prog 22 #[.int .i64 (s : Int), .int .i64 (ways : Int), .slice sa xs.length sc] w fun e w' => Ln.Played w w' s ways xs e := by
  have hb : (1 ≤ s ∧ s ≤ 64) ∧ 1 ≤ ways ∧ ways ≤ 8 := by
    have h' := hm
    unfold Ln.mayB at h'
    rw [Bool.and_eq_true, Bool.and_eq_true] at h'
    have h1 := Ln.pow2_in h'.1
    have h2 := of_decide_eq_true h'.2.1
    have h3 := of_decide_eq_true h'.2.2
    omega
  obtain ⟨⟨hs0, hs1⟩, hw0, hw1⟩ := hb
  obtain ⟨zb, hzb⟩ : ∃ zb, zb = w.heap.size := ⟨_, rfl⟩
  obtain ⟨B, hB⟩ : ∃ B, B = w.alloc (.cells #[.int .i64 0, .int .i64 0, .slice none 0 0] 46) := ⟨_, rfl⟩
  have HB := Lib.hid hB; have Hz := Lib.hid hzb
  have B0 := Lib.hid (show Below w.heap.size w B by rw [hB]; exact (Below.refl _ _).alloc (Nat.le_refl _) _)
  have Z0 := Lib.hid (show B.heap[zb]? = some (.cells #[.int .i64 0, .int .i64 0, .slice none 0 0] 46 (0, 0)) by rw [hB, hzb]; exact heap_alloc_new _ _)
  have NW := Lib.hid (new_yes s ways hm B)
  have HIN := Lib.hid hin
  have HRL := Lib.hid (fun k hk => Ln.playL_rl (s := s) (ways := ways) hs0 hs1 hw0 hw1 hin.ok k hk)
  clear hB hzb hin hm
  go_enter Try.func22, Try.ntmps22
  go_wp2_with (first
    | (go_at_call 10; rw [← HB.out, ← Hz.out]; (with_reducible refine NW.out.mono ?_); rintro e W1 ⟨p, rfl, hb1, F, hca, hf⟩
       have B1 := Lib.hid (B0.out.trans (hb1.mono B0.out.size))
       have Z1 := Lib.hid ((hb1.block _ (Array.getElem?_eq_some_iff.1 Z0.out).1).trans Z0.out)
       have CA := Lib.hid hca
       have HF := Lib.hid (show ∀ k, F k → zb < k from fun k hk => by have := hf k hk; have := (Array.getElem?_eq_some_iff.1 Z0.out).1; omega)
       clear hb1 hca hf))
  obtain ⟨wb, hwb⟩ : ∃ wb, wb = W1.heap.size := ⟨_, rfl⟩
  obtain ⟨W2, hW2⟩ : ∃ W2, W2 = W1.alloc (.cells #[.int .i64 (s : Int), .int .i64 (ways : Int), .slice none 0 0] 46) := ⟨_, rfl⟩
  rw [← hW2, ← hwb]
  have PL0 := Lib.hid (show Ln.Pl w W2 F p s ways wb (Ln.rows (Ln.playL s ways (xs.take 0)) s) none 0 (Ln.playL s ways (xs.take 0)) from by
    have hb2 : Below W1.heap.size W1 W2 := by rw [hW2]; exact (Below.refl _ _).alloc (Nat.le_refl _) _
    have hr : List.replicate s ([] : List Ln.E) = Ln.rows [] s := by
      apply List.ext_getElem?
      intro j
      unfold Ln.rows
      rw [List.getElem?_map, List.getElem?_replicate]
      by_cases hj : j < s
      · rw [if_pos hj, List.getElem?_range hj]; rfl
      · rw [if_neg hj, List.getElem?_eq_none (by simp; omega)]; rfl
    refine ⟨?_, B1.out.trans (hb2.mono B1.out.size), fun k hk => by have := HF.out k hk; rw [← Hz.out]; omega, ?_, by rw [hwb]; exact B1.out.size, fun hk => by have := CA.out.lt _ hk; omega, World.ownsRow_nil _ _ _ _, fun k hk => by cases hk⟩
    · have := CA.out.kp hb2
      rw [hr] at this
      exact this
    · rw [hW2, hwb]; exact heap_alloc_new _ _)
  have HZ2 := Lib.hid (show W2.heap[zb]? = some (.cells #[.int .i64 0, .int .i64 0, .slice none 0 0] 46 (0, 0)) from by
    rw [hW2]; exact (((Below.refl W1.heap.size W1).alloc (Nat.le_refl _) _).block _ (Array.getElem?_eq_some_iff.1 Z1.out).1).trans Z1.out)
  have hzw : zb < wb := by rw [hwb]; exact (Array.getElem?_eq_some_iff.1 Z1.out).1
  have HF2 := Lib.hid (show ¬ F zb from fun hk => by have := HF.out zb hk; omega)
  clear hW2 hwb CA Z1 B1 HF
  go_loopw [12, 13, 14, 15, 16] (fun i _ _ _ _ wr => ∃ k : Nat, k ≤ xs.length ∧ i = .int .i64 (k : Int) ∧ wr.heap[zb]? = some (.cells #[.int .i64 0, .int .i64 0, .slice none 0 0] 46 (0, 0)) ∧ ∃ F a c, ¬ F zb ∧ Ln.Pl w wr F p s ways wb (Ln.rows (Ln.playL s ways (xs.take k)) s) a c (Ln.playL s ways (xs.take k))) (fun i _ _ _ _ _ => xs.length - (intOf i).toNat)
  case atStart => exact ⟨0, Nat.zero_le _, rfl, HZ2.out, F, none, 0, HF2.out, PL0.out⟩
  case round =>
    obtain ⟨k, hk, rfl, hzr, F, a, c, hfz, hpl⟩ := hrel
    obtain ⟨l, hl⟩ : ∃ l, Ln.playL s ways (xs.take k) = l := ⟨_, rfl⟩
    obtain ⟨hrl, hll⟩ := HRL.out k hk
    rw [hl] at hpl hrl hll
    have PL := Lib.hid hpl; have HZB := Lib.hid hzr; have HFZ := Lib.hid hfz; have HL := Lib.hid hl; have RL := Lib.hid hrl
    have hll2 : l.length ≤ 100 := by omega
    clear hpl hzr hfz hl hrl
    by_cases hlt : k < xs.length
    · obtain ⟨x, hx⟩ : ∃ x, xs[k]? = some x := ⟨_, List.getElem?_eq_getElem hlt⟩
      have HAO := Lib.hid (HIN.out.ok x (List.mem_of_getElem? hx))
      have HSZ := Lib.hid (show (Ln.acells x).toArray.size = 19 by rw [List.size_toArray]; exact HAO.out.len)
      have HPS := Lib.hid (show Ln.playL s ways (xs.take (k + 1)) = Ln.stepL s ways l x by rw [Ln.playL_succ s ways hx, HL.out])
      obtain ⟨ga, o, ea, hc⟩ := (HIN.out.kp (Ev.kp_below PL.out.bel)).at_ hx
      have HC := Lib.hid hc
      have hki : (k : Int) < (xs.length : Int) := by omega
      clear hx hc
      rw [ea]; clear ea
      go_wp2_with (first
        | ((with_reducible show wpList _ _ _ (Oper.mk (some 35) _ _ _ _ _ :: _) _ _); refine wpList_load_at rfl 56 (.tmp 34) rfl ga (o + k * 19) rfl (Ln.acells x) _ HC.out Try.underlying56 rfl (by rw [HAO.out.len]; exact Ln.size_act) ?_)
        | ((with_reducible show wpList _ _ _ (Oper.mk none (Op.store 56 _ _) _ _ _ _ :: _) _ _); refine wpList_store_own rfl 56 (.tmp 13) (.tmp 35) rfl wr.heap.size (Ln.acells x).toArray rfl rfl 56 #[.int .i64 0, .int .u32 0, .int .i64 0, .int .u8 0, .int .u8 0, .int .u8 0, .int .u8 0, .int .u8 0, .int .u8 0, .int .u8 0, .int .u8 0, .int .u8 0, .int .u8 0, .int .u8 0, .int .u8 0, .int .u8 0, .int .u8 0, .int .u8 0, .int .u8 0] (heap_alloc_new wr _) (by rw [HSZ.out]; exact Ln.size_act) (by rw [HSZ.out]; rfl) (Ln.acells_all x) ?_
           intro V HV
           have BV := Lib.hid (show Below wr.heap.size wr V from ((Below.refl wr.heap.size wr).alloc (Nat.le_refl _) _).trans HV.below)
           have RX := Lib.hid HV.row
           clear HV
           refine Ln.Stop.out ?_))
      refine ⟨?_⟩
      obtain ⟨xb, hxb⟩ : ∃ xb, xb = wr.heap.size := ⟨_, rfl⟩
      rw [← hxb] at RX ⊢
      have PV := Lib.hid (PL.out.kp BV.out)
      have ZV := Lib.hid ((BV.out.block _ (Array.getElem?_eq_some_iff.1 HZB.out).1).trans HZB.out)
      have HXF := Lib.hid (show ¬ F xb from fun h => by have := PL.out.cache.lt _ h; omega)
      have hwx : wb < xb := by rw [hxb]; exact PL.out.wlt
      have x0 : V.cell? ⟨xb, 0, none⟩ = some (.int .i64 x.k) := by rw [cell_of_row _ _ _ _ _ _ RX.out]; rfl
      have x1 : V.cell? ⟨xb, 1, none⟩ = some (.int .u32 x.e.n) := by rw [cell_of_row _ _ _ _ _ _ RX.out]; rfl
      clear hxb HC PL HZB
      by_cases hk0 : x.k = 0
      · have HST := Lib.hid (show Ln.playL s ways (xs.take (k + 1)) = Ln.putRL s ways l x.e by rw [HPS.out]; unfold Ln.stepL; rw [if_pos hk0])
        have hkb : (x.k != 0) = false := by rw [hk0]; rfl
        have KR := Lib.hid (rput_any s ways a c l x.e HAO.out.e V (PV.out.rin RL.out (by omega)))
        have LX := Lib.hid (Ln.line_of_act RX.out)
        go_wp2_with (first
          | ((with_reducible show wpList _ _ _ (Oper.mk (some 60) _ _ _ _ _ :: _) _ _); refine wpList_load_row rfl 46 (.tmp 11) rfl wb rfl 46 _ (0, 0) _ PV.out.want Try.underlying46 rfl (by kernel_rfl) ?_)
          | ((with_reducible show wpList _ _ _ (Oper.mk (some 62) _ _ _ _ _ :: _) _ _); refine wpList_load_at rfl 30 (.tmp 61) rfl xb 1 rfl (Ln.cells x.e) _ LX.out Try.underlying30 rfl (by rw [HAO.out.e.len]; exact Ln.size_line) ?_)
          | (go_at_call 28; (with_reducible refine KR.out.mono ?_); rintro e' W3 ⟨⟨a3, c3, rfl, ho3⟩, hb3⟩
             have P3 := Lib.hid (PV.out.kp hb3)
             have Z3 := Lib.hid ((hb3.block _ (Array.getElem?_eq_some_iff.1 ZV.out).1).trans ZV.out)
             have X3 := Lib.hid ((hb3.block _ (Array.getElem?_eq_some_iff.1 RX.out).1).trans RX.out)
             have O3 := Lib.hid (show W3.ownsRow w.heap.size 30 18 (.slice a3 (Ln.putRL s ways l x.e).length c3) (Ln.putRL s ways l x.e).length (Ln.flat (Ln.putRL s ways l x.e)) ∧ ∀ k, (Value.slice a3 (Ln.putRL s ways l x.e).length c3).ownBlock = some k → ¬ F k from by
               rcases ho3 with ⟨e1, e2, e3⟩ | h3
               · rw [e1, e2, e3]; exact ⟨P3.out.own, P3.out.nf⟩
               · exact PV.out.fresh h3)
             clear hb3 ho3 x0 x1)
          | ((with_reducible show wpList _ _ _ (Oper.mk none (Op.store 46 _ _) _ _ _ _ :: _) _ _); refine wpList_store_own rfl 46 (.tmp 15) (.tmp 64) rfl W3.heap.size #[.int .i64 (s : Int), .int .i64 (ways : Int), .slice a3 (Ln.putRL s ways l x.e).length c3] rfl rfl 46 _ (heap_alloc_new W3 _) (by kernel_rfl) rfl (by kernel_rfl) ?_
             intro W5 HW5
             have N5 := Lib.hid (show Below W3.heap.size W3 W5 from ((Below.refl W3.heap.size W3).alloc (Nat.le_refl _) _).trans HW5.below)
             have R5 := Lib.hid HW5.row
             clear HW5
             refine Ln.Stop.out ?_))
        refine ⟨?_⟩
        obtain ⟨nb, hnb⟩ : ∃ nb, nb = W3.heap.size := ⟨_, rfl⟩
        rw [← hnb] at R5 ⊢
        have P5 := Lib.hid (P3.out.kp N5.out)
        have Z5 := Lib.hid ((N5.out.block _ (Array.getElem?_eq_some_iff.1 Z3.out).1).trans Z3.out)
        have X5 := Lib.hid ((N5.out.block _ (Array.getElem?_eq_some_iff.1 X3.out).1).trans X3.out)
        have O5 := Lib.hid (Ln.row_kept O3.out.1 (fun j hj => N5.out.block j (O3.out.1.lt j hj).2))
        have hwn : wb < nb := by rw [hnb]; exact P3.out.wlt
        clear hnb N5
        go_wp2_with (first
          | ((with_reducible show wpList _ _ _ (Oper.mk (some 66) _ _ _ _ _ :: _) _ _); refine wpList_load_row rfl 46 (.tmp 15) rfl nb rfl 46 _ (0, 0) _ R5.out Try.underlying46 rfl (by kernel_rfl) ?_)
          | ((with_reducible show wpList _ _ _ (Oper.mk none (Op.store 46 _ _) _ _ _ _ :: _) _ _); refine wpList_store_own rfl 46 (.tmp 11) (.tmp 66) rfl wb #[.int .i64 (s : Int), .int .i64 (ways : Int), .slice a3 (Ln.putRL s ways l x.e).length c3] rfl rfl 46 _ P5.out.want (by kernel_rfl) rfl (by kernel_rfl) ?_
             intro W6 HW6
             have P6 := Lib.hid (P5.out.list O5.out O3.out.2 HW6)
             have Z6 := Lib.hid ((HW6.block zb (by omega)).trans Z5.out)
             have X6 := Lib.hid ((HW6.block xb (by omega)).trans X5.out)
             clear HW6
             refine Ln.Stop.out ?_))
        refine ⟨?_⟩
        have LX6 := Lib.hid (Ln.line_of_act X6.out)
        have KC := Lib.hid (show Calls Try.prog 14 #[.pointer (some ⟨p, 0, none⟩), .agg (Ln.cells x.e).toArray] W6 fun y w' => y = .returned (.int .i64 (Ln.putRE s ways l x.e)) ∧ Ln.Turns F W6 w' p ways (Ln.rows (Ln.putRL s ways l x.e) s) from by
          have h1 := put_any x.e HAO.out.e W6 P6.out.cache
          rw [Ln.putE_eq RL.out, Ln.putQ_eq RL.out] at h1
          exact h1)
        have hne : (Ln.putRE s ways l x.e != Ln.putRE s ways l x.e) = false := by simp
        go_wp2_with (first
          | ((with_reducible show wpList _ _ _ (Oper.mk (some 69) _ _ _ _ _ :: _) _ _); refine wpList_load_at rfl 30 (.tmp 68) rfl xb 1 rfl (Ln.cells x.e) _ LX6.out Try.underlying30 rfl (by rw [HAO.out.e.len]; exact Ln.size_line) ?_)
          | (go_at_call 13; (with_reducible refine (num_any _ _).mono ?_); rintro e' W8 ⟨rfl, hw8⟩; subst hw8)
          | (go_at_call 14; (with_reducible refine KC.out.mono ?_); rintro e' W7 ⟨rfl, ht7⟩
             obtain ⟨F7, h7, hfr7, hk7⟩ := P6.out.turn ht7
             have P7 := Lib.hid h7
             have Z7 := Lib.hid ((hfr7.block _ (Array.getElem?_eq_some_iff.1 Z6.out).1 HFZ.out).trans Z6.out)
             have HF7 := Lib.hid (show ¬ F7 zb from fun h => by
               rcases hk7 zb h with h | h
               · exact HFZ.out h
               · have := (Array.getElem?_eq_some_iff.1 Z6.out).1; omega)
             clear ht7 h7 hfr7 hk7))
        go_roundw
        case rel => exact ⟨k + 1, by omega, by go_num, Z7.out, F7, a3, c3, HF7.out, by rw [HST.out]; exact P7.out⟩
        case measure => simp [intOf]; omega
      · have HST := Lib.hid (show Ln.playL s ways (xs.take (k + 1)) = Ln.dropL l x.e.n by rw [HPS.out]; unfold Ln.stepL; rw [if_neg hk0])
        have hkb : (x.k != 0) = true := by simpa using hk0
        obtain ⟨v, hv⟩ : ∃ v, decide (0 ≤ Ln.ix l x.e.n 0) = v := ⟨_, rfl⟩
        have hvb : (Value.bool (decide (0 ≤ Ln.ix l x.e.n 0))) = .bool v := by rw [hv]
        have HV := Lib.hid hv
        have hrin := PV.out.rin RL.out (by omega)
        have KF := Lib.hid (rfind_any s ways a c l x.e.n HAO.out.e.n V hrin)
        obtain ⟨t, ht⟩ : ∃ t, Ln.ix l x.e.n 0 = t := ⟨_, rfl⟩
        rw [ht] at KF hv hvb
        have HT := Lib.hid ht
        clear hrin ht
        go_wp2_with (first
          | ((with_reducible show wpList _ _ _ (Oper.mk (some 39) _ _ _ _ _ :: _) _ _); refine wpList_load_row rfl 46 (.tmp 11) rfl wb rfl 46 _ (0, 0) _ PV.out.want Try.underlying46 rfl (by kernel_rfl) ?_)
          | (go_at_call 25; (with_reducible refine KF.out.mono ?_); rintro e' W3 ⟨rfl, hb3⟩
             have P3 := Lib.hid (PV.out.kp hb3)
             have Z3 := Lib.hid ((hb3.block _ (Array.getElem?_eq_some_iff.1 ZV.out).1).trans ZV.out)
             have X3 := Lib.hid ((hb3.block _ (Array.getElem?_eq_some_iff.1 RX.out).1).trans RX.out)
             clear hb3 x0 x1
             refine Ln.Stop.out ?_))
        refine ⟨?_⟩
        have x1 : W3.cell? ⟨xb, 1, none⟩ = some (.int .u32 x.e.n) := by rw [cell_of_row _ _ _ _ _ _ X3.out]; rfl
        have KD := Lib.hid (rdrop_any s ways a c l x.e.n W3 (P3.out.rin RL.out (by omega)))
        go_wp2_with (first
          | ((with_reducible show wpList _ _ _ (Oper.mk (some 45) _ _ _ _ _ :: _) _ _); refine wpList_load_row rfl 46 (.tmp 11) rfl wb rfl 46 _ (0, 0) _ P3.out.want Try.underlying46 rfl (by kernel_rfl) ?_)
          | (go_at_call 27; (with_reducible refine KD.out.mono ?_); rintro e' W4 ⟨vv, rfl, ⟨a4, c4, rfl, ho4⟩, hb4⟩
             have P4 := Lib.hid (P3.out.kp hb4)
             have Z4 := Lib.hid ((hb4.block _ (Array.getElem?_eq_some_iff.1 Z3.out).1).trans Z3.out)
             have X4 := Lib.hid ((hb4.block _ (Array.getElem?_eq_some_iff.1 X3.out).1).trans X3.out)
             have O4 := Lib.hid (P3.out.fresh ho4)
             clear hb4 ho4 x1)
          | ((with_reducible show wpList _ _ _ (Oper.mk none (Op.store 46 _ _) _ _ _ _ :: _) _ _); refine wpList_store_own rfl 46 (.tmp 11) (.tmp 49) rfl wb #[.int .i64 (s : Int), .int .i64 (ways : Int), .slice a4 (Ln.dropL l x.e.n).length c4] rfl rfl 46 _ P4.out.want (by kernel_rfl) rfl (by kernel_rfl) ?_
             intro W5 HW5
             have P5 := Lib.hid (P4.out.list O4.out.1 O4.out.2 HW5)
             have Z5 := Lib.hid ((HW5.block zb (by omega)).trans Z4.out)
             have X5 := Lib.hid ((HW5.block xb (by omega)).trans X4.out)
             clear HW5
             refine Ln.Stop.out ?_))
        refine ⟨?_⟩
        have x1 : W5.cell? ⟨xb, 1, none⟩ = some (.int .u32 x.e.n) := by rw [cell_of_row _ _ _ _ _ _ X5.out]; rfl
        have KC := Lib.hid (show Calls Try.prog 15 #[.pointer (some ⟨p, 0, none⟩), .int .u32 x.e.n] W5 fun y w' => y = .returned (.bool (decide (0 ≤ t))) ∧ Ln.Turns F W5 w' p ways (Ln.rows (Ln.dropL l x.e.n) s) from by
          have h1 := drop_any x.e.n HAO.out.e.n W5 P5.out.cache
          rw [Ln.dropQ_eq RL.out, Ln.rowQ_rows l s (by omega)] at h1
          have h2 : decide (0 ≤ Ln.ix (Ln.ofL l s (x.e.n.toNat % s)) x.e.n 0) = decide (0 ≤ t) := by
            rw [← HV.out]
            exact decide_eq_decide.2 Ln.ix_ofL
          rw [h2] at h1
          exact h1)
        have hvv : (decide (0 ≤ t) != decide (0 ≤ t)) = false := by simp
        go_wp2_with (go_at_call 15; (with_reducible refine KC.out.mono ?_); rintro e' W6 ⟨rfl, ht6⟩
                     obtain ⟨F6, h6, hfr6, hk6⟩ := P5.out.turn ht6
                     have P6 := Lib.hid h6
                     have Z6 := Lib.hid ((hfr6.block _ (Array.getElem?_eq_some_iff.1 Z5.out).1 HFZ.out).trans Z5.out)
                     have HF6 := Lib.hid (show ¬ F6 zb from fun h => by
                       rcases hk6 zb h with h | h
                       · exact HFZ.out h
                       · have := (Array.getElem?_eq_some_iff.1 Z5.out).1; omega)
                     clear ht6 h6 hfr6 hk6)
        go_roundw
        case rel => exact ⟨k + 1, by omega, by go_num, Z6.out, F6, a4, c4, HF6.out, by rw [HST.out]; exact P6.out⟩
        case measure => simp [intOf]; omega
    · have hki : ¬ (k : Int) < (xs.length : Int) := by omega
      have hke : k = xs.length := by omega
      subst hke
      have hl := HL.out
      rw [List.take_length] at hl
      have HL2 := Lib.hid hl
      clear hl
      go_wp2_with fail
      obtain ⟨wq, hwq⟩ : ∃ wq, wq = { wr with drawn := wr.drawn + 1 } := ⟨_, rfl⟩
      have BQ := Lib.hid (show Below wr.heap.size wr wq by rw [hwq]; exact ⟨rfl, rfl, rfl, Nat.le_refl _, fun _ _ => rfl⟩)
      have HWQ := Lib.hid hwq
      clear hwq
      have PQ := Lib.hid (PL.out.kp BQ.out)
      have ZQ := Lib.hid ((BQ.out.block zb (Array.getElem?_eq_some_iff.1 HZB.out).1).trans HZB.out)
      have HFA := Lib.hid (show (fun x : World => x.heap[wb]? = some (.cells #[.int .i64 (s : Int), .int .i64 (ways : Int), .slice a l.length c] 46 (0, 0))) wq from PQ.out.want)
      refine Og.region_S (S := Og.SF 2 (fun x : World => x.heap[wb]? = some (.cells #[.int .i64 (s : Int), .int .i64 (ways : Int), .slice a l.length c] 46 (0, 0)))) (by kernel_rfl) ?_
      rw [← HWQ.out]
      refine Og.s_take 0 { dst := some 76, op := Go.Op.move (Go.Operand.tmp 9), type := 22, pos := "law.go:61", after := #[], guard := none } (.pointer (some ⟨p, 0, none⟩)) _ (by kernel_rfl) (by kernel_rfl) (by kernel_rfl) (by kernel_rfl) (by kernel_rfl) (fun _ _ _ h => h) (fun _ => HFA.out) (fun x' hx => ?_) (by simp only [Act.put, List.setIfInBounds_toArray, List.set_cons_zero, List.set_cons_succ]; rfl) ?_
      · go_simp; try (with_reducible rfl)
      refine Og.s_take 1 { dst := some 77, op := Go.Op.load 46 (Go.Operand.tmp 11), type := 46, pos := "law.go:61", after := #[{ on := 5, ground := Go.Ground.gcOnly Go.Departure.lateStores }], guard := none } (.agg #[.int .i64 (s : Int), .int .i64 (ways : Int), .slice a l.length c]) _ (by kernel_rfl) (by kernel_rfl) (by kernel_rfl) (by kernel_rfl) (by kernel_rfl) (fun _ _ _ h => h) (fun _ => HFA.out) (fun x' hx => ?_) (by simp only [Act.put, List.setIfInBounds_toArray, List.set_cons_zero, List.set_cons_succ]; rfl) ?_
      · exact Og.load_run 46 (.tmp 11) rfl ⟨wb, 0, none⟩ rfl (run_loadVar_row x' wb 46 46 #[.int .i64 (s : Int), .int .i64 (ways : Int), .slice a l.length c] (0, 0) _ (hx (by decide)) Try.underlying46 rfl (by kernel_rfl))
      refine Og.s_take 2 { dst := some 78, op := Go.Op.move (Go.Operand.tmp 10), type := 23, pos := "law.go:61", after := #[], guard := none } (.int .i64 0) _ (by kernel_rfl) (by kernel_rfl) (by kernel_rfl) (by kernel_rfl) (by kernel_rfl) (fun _ _ _ h => h) (fun _ => HFA.out) (fun x' hx => ?_) (by simp only [Act.put, List.setIfInBounds_toArray, List.set_cons_zero, List.set_cons_succ]; rfl) ?_
      · go_simp; try (with_reducible rfl)
      refine Og.s_one 3 { dst := some 79, op := Go.Op.call { callee := Go.Callee.value (Go.Operand.func 13), args := #[Go.Operand.tmp 78], argTypes := #[23] }, type := 3, pos := "law.go:61", after := #[{ on := 2, ground := Go.Ground.data }], guard := none } (by kernel_rfl) (by kernel_rfl) (by kernel_rfl) ?_
      refine Og.call_to (w1 := wq) (f := 13) (args := #[.int .i64 0]) (by go_simp) ?_
      refine (num_any 0 wq).mono ?_
      rintro e' w9 ⟨rfl, hw⟩
      subst hw
      refine ⟨_, rfl, Og.keep_sf (fun h => h), ?_⟩
      refine Og.s_take 4 { dst := some 80, op := Go.Op.binOp Go.BinOp.eql 3 (Go.Operand.tmp 79) (Go.Operand.const (Go.Value.int Go.IntKind.i64 0)) 3, type := 4, pos := "law.go:61", after := #[{ on := 3, ground := Go.Ground.data }, { on := 6, ground := Go.Ground.gcOnly Go.Departure.lateStores }], guard := none } (.bool true) _ (by kernel_rfl) (by kernel_rfl) (by kernel_rfl) (by kernel_rfl) (by kernel_rfl) (fun _ _ _ h => h) (fun h => absurd h (by decide)) (fun x' hx => ?_) (by simp only [Act.put, List.setIfInBounds_toArray, List.set_cons_zero, List.set_cons_succ]; rfl) ?_
      · go_simp; try (with_reducible rfl)
      refine Og.s_take 5 { dst := some 6, op := Go.Op.assign (Go.Operand.tmp 76), type := 22, pos := "law.go:61", after := #[{ on := 0, ground := Go.Ground.data }, { on := 3, ground := Go.Ground.chain }, { on := 0, ground := Go.Ground.phase }, { on := 1, ground := Go.Ground.textOnly Go.Departure.lateStores }, { on := 2, ground := Go.Ground.textOnly Go.Departure.lateStores }, { on := 3, ground := Go.Ground.textOnly Go.Departure.lateStoresUnsure }, { on := 4, ground := Go.Ground.textOnly Go.Departure.lateStores }], guard := none } (.pointer (some ⟨p, 0, none⟩)) _ (by kernel_rfl) (by kernel_rfl) (by kernel_rfl) (by kernel_rfl) (by kernel_rfl) (fun _ _ _ h => h) (fun h => absurd h (by decide)) (fun x' hx => ?_) (by simp only [Act.put, List.setIfInBounds_toArray, List.set_cons_zero, List.set_cons_succ]; rfl) ?_
      · go_simp; try (with_reducible rfl)
      refine Og.s_one 6 { dst := none, op := Go.Op.store 46 (Go.Operand.tmp 7) (Go.Operand.tmp 77), type := 0, pos := "law.go:61", after := #[{ on := 1, ground := Go.Ground.data }, { on := 5, ground := Go.Ground.chain }, { on := 0, ground := Go.Ground.phase }, { on := 1, ground := Go.Ground.phase }, { on := 2, ground := Go.Ground.textOnly Go.Departure.lateStores }, { on := 3, ground := Go.Ground.textOnly Go.Departure.lateStoresUnsure }, { on := 4, ground := Go.Ground.textOnly Go.Departure.lateStores }, { on := 5, ground := Go.Ground.phase }], guard := none } (by kernel_rfl) (by kernel_rfl) (by kernel_rfl) ?_
      refine Og.skip_to (w' := wq.setRow zb #[.int .i64 (s : Int), .int .i64 (ways : Int), .slice a l.length c]) ?_ ⟨Og.keep_last (o := { dst := none, op := Go.Op.store 46 (Go.Operand.tmp 7) (Go.Operand.tmp 77), type := 0, pos := "law.go:61", after := #[{ on := 1, ground := Go.Ground.data }, { on := 5, ground := Go.Ground.chain }, { on := 0, ground := Go.Ground.phase }, { on := 1, ground := Go.Ground.phase }, { on := 2, ground := Go.Ground.textOnly Go.Departure.lateStores }, { on := 3, ground := Go.Ground.textOnly Go.Departure.lateStoresUnsure }, { on := 4, ground := Go.Ground.textOnly Go.Departure.lateStores }, { on := 5, ground := Go.Ground.phase }], guard := none }) (by kernel_rfl) (by kernel_rfl), ?_⟩
      · exact Og.row_to 46 (.tmp 7) (.tmp 77) rfl zb #[.int .i64 (s : Int), .int .i64 (ways : Int), .slice a l.length c] rfl rfl 46 _ ZQ.out (by kernel_rfl) rfl (by kernel_rfl)
      obtain ⟨w10, hw10⟩ : ∃ w10, w10 = wq.setRow zb #[.int .i64 (s : Int), .int .i64 (ways : Int), .slice a l.length c] := ⟨_, rfl⟩
      have hs10 := Ev.set1 (cs := #[.int .i64 (s : Int), .int .i64 (ways : Int), .slice a l.length c]) ZQ.out rfl
      rw [← hw10] at hs10 ⊢
      have HS10 := Lib.hid hs10
      clear hw10 hs10
      refine Og.s_take 7 { dst := some 8, op := Go.Op.assign (Go.Operand.tmp 80), type := 4, pos := "law.go:61", after := #[{ on := 4, ground := Go.Ground.data }, { on := 6, ground := Go.Ground.chain }, { on := 0, ground := Go.Ground.phase }, { on := 1, ground := Go.Ground.phase }, { on := 2, ground := Go.Ground.phase }, { on := 3, ground := Go.Ground.phase }, { on := 4, ground := Go.Ground.phase }, { on := 5, ground := Go.Ground.phase }, { on := 6, ground := Go.Ground.phase }], guard := none } (.bool true) _ (by kernel_rfl) (by kernel_rfl) (by kernel_rfl) (by kernel_rfl) (by kernel_rfl) (fun _ _ _ h => h) (fun h => absurd h (by decide)) (fun x' hx => ?_) (by simp only [Act.put, List.setIfInBounds_toArray, List.set_cons_zero, List.set_cons_succ]; rfl) ?_
      · go_simp; try (with_reducible rfl)
      refine Og.s_done (by kernel_rfl) ?_ _
      try simp only [Act.put, List.setIfInBounds_toArray, List.set_cons_zero, List.set_cons_succ]
      go_wp2_with fail
      have hzl : w.heap.size ≤ zb := by rw [Hz.out]; exact Nat.le_refl _
      have PF := PQ.out.other HS10.out hzl HFZ.out (Nat.ne_of_lt hzw) (fun h => Ln.own_ne PQ.out.own ZQ.out (by decide) h)
      refine bodyPost_ret (Ln.res3 (fn := Try.f22) rfl _ _ zb 46 _ (0, 0) _ rfl HS10.out.row Try.underlying46 rfl (by kernel_rfl)) rfl ?_
      unfold Ln.Played
      rw [HL2.out]
      exact ⟨p, F, a, c, rfl, PF.cache, PF.bel, PF.lo, PF.own, PF.nf⟩
end Go.Proofs.Ytifniogldinbdaa
