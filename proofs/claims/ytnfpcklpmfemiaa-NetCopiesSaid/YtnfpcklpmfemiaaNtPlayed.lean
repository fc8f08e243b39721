/-
  The contract of the laws' played.
-/
import Derived.Test.YtnfpcklpmfemiaaNtPl
namespace Go.Proofs.Ytnfpcklpmfemiaa
open Go.RowKit
set_option linter.unusedVariables false
set_option linter.unusedSimpArgs false
namespace Nt
theorem res3 {P : Program} {fn : Func} {t p u : Tmp} {ty : TypeId} (h : fn.results = #[.tmp t, .cell p ty, .tmp u]) (tmps : Array Value) (w : World) (g : Nat) (q : TypeId) (cs : Array Value) (fr : Nat × Nat) (d : TypeDesc)
    (hp : tmps.getD p undef = .pointer (some ⟨g, 0, none⟩)) (hg : w.heap[g]? = some (.cells cs q fr))
    (hu : P.underlying ty = some d) (hd : (match d with | .struct _ | .array _ _ => true | _ => false) = true) (hi : (P.info? ty).map (·.size) = some cs.size) :
    (results fn tmps).run P w = .ok (.tuple #[tmps.getD t undef, .agg cs, tmps.getD u undef]) w := by
  have h1 : (results fn tmps).run P w = ((asAddr (tmps.getD p undef)).run P w).andThen fun a w₁ => ((loadVar ty a).run P w₁).andThen fun v w₂ => .ok (.tuple #[tmps.getD t undef, v, tmps.getD u undef]) w₂ := by
    simp only [results, h]
    simp [Sem.run_bind, Result.andThen]
  rw [h1, hp]
  simp only [asAddr, Sem.run_pure, Result.andThen_ok]
  rw [run_loadVar_row w g q ty cs fr d hg hu hd hi]
  rfl
theorem msg_of_act {W : World} {xb : Nat} {x : Act} {t : TypeId} {fr : Nat × Nat} (h : W.heap[xb]? = some (.cells (acells x).toArray t fr)) : ∀ i c, (cells x.e)[i]? = some c → W.cell? ⟨xb, 1 + i, none⟩ = some c := by
  intro i c hi
  rw [cell_of_row _ _ _ _ _ _ h, List.getElem?_toArray]
  exact acellm hi
theorem pick_of_act {W : World} {xb : Nat} {x : Act} {t : TypeId} {fr : Nat × Nat} (hok : Ok x.e) (h : W.heap[xb]? = some (.cells (acells x).toArray t fr)) : W.cell? ⟨xb, 21, none⟩ = some (.int .i64 x.p) := by
  rw [cell_of_row _ _ _ _ _ _ h, List.getElem?_toArray]
  exact acell21 hok
theorem two_new (W : World) (o o2 : Obj) : ((W.alloc o).alloc o2).heap[W.heap.size + 1]? = some o2 := by
  have := heap_alloc_new (W.alloc o) o2
  rw [World.size_alloc] at this
  exact this
/-- what played tells -/
def Played (w w' : World) (most : Nat) (xs : List Act) (e : Ending) : Prop :=
  ∃ p F a c, e = .returned (.tuple #[.pointer (some ⟨p, 0, none⟩), .agg #[.int .i64 (most : Int), .slice a (playL most xs).length c], .bool true]) ∧
    Net w' F p most (playL most xs) ∧ Below w.heap.size w w' ∧ (∀ k, F k → w.heap.size ≤ k) ∧ Own w' (fun k => w.heap.size ≤ k ∧ ¬ F k) a c (playL most xs)
set_option maxRecDepth 100000 in
set_option maxHeartbeats 8000000 in
theorem played_any (most : Nat) (h1 : 1 ≤ most) (h2 : most ≤ 1024) (sa : Option Addr) (sc : Nat) (xs : List Act) (hxl : xs.length ≤ 100) (w : World) (hin : AsIn w sa sc xs) :
    Calls Try.prog 37 #[.int .i64 (most : Int), .slice sa xs.length sc] w fun e w' => Played w w' most xs e := by
  obtain ⟨zb, hzb⟩ : ∃ zb, zb = w.heap.size := ⟨_, rfl⟩
  obtain ⟨B, hB⟩ : ∃ B, B = w.alloc (.cells #[.int .i64 0, .slice none 0 0] 76) := ⟨_, rfl⟩
  have HB := Lib.hid hB; have Hz := Lib.hid hzb
  have B0 := Lib.hid (show Below w.heap.size w B by rw [hB]; exact (Below.refl _ _).alloc (Nat.le_refl _) _)
  have Z0 := Lib.hid (show B.heap[zb]? = some (.cells #[.int .i64 0, .slice none 0 0] 76 (0, 0)) by rw [hB, hzb]; exact heap_alloc_new _ _)
  have NW := Lib.hid (new_yes most h1 h2 B)
  have HIN := Lib.hid hin
  clear hB hzb hin
  go_enter Try.func37, Try.ntmps37
  go_wp2_with (first
    | (go_at_call 29; rw [← HB.out, ← Hz.out]; (with_reducible refine NW.out.mono ?_); rintro e W1 ⟨p, rfl, hb1, F, hca, hf⟩
       have B1 := Lib.hid (B0.out.trans (hb1.mono B0.out.size))
       have Z1 := Lib.hid ((hb1.block _ (Array.getElem?_eq_some_iff.1 Z0.out).1).trans Z0.out)
       have CA := Lib.hid hca
       have HF := Lib.hid (show ∀ k, F k → zb < k from fun k hk => by have := hf k hk; have := (Array.getElem?_eq_some_iff.1 Z0.out).1; omega)
       clear hb1 hca hf))
  obtain ⟨wb, hwb⟩ : ∃ wb, wb = W1.heap.size := ⟨_, rfl⟩
  obtain ⟨W2, hW2⟩ : ∃ W2, W2 = W1.alloc (.cells #[.int .i64 (most : Int), .slice none 0 0] 76) := ⟨_, rfl⟩
  rw [← hW2, ← hwb]
  have PL0 := Lib.hid (show Pl w W2 F p most wb (playL most (xs.take 0)) none 0 (playL most (xs.take 0)) from by
    rw [hwb]; exact Pl.fresh CA.out B1.out (fun k hk => by have := HF.out k hk; rw [← Hz.out]; omega) hW2)
  have HZ2 := Lib.hid (show W2.heap[zb]? = some (.cells #[.int .i64 0, .slice none 0 0] 76 (0, 0)) from by
    rw [hW2]; exact (((Below.refl W1.heap.size W1).alloc (Nat.le_refl _) _).block _ (Array.getElem?_eq_some_iff.1 Z1.out).1).trans Z1.out)
  have hzw : zb < wb := by rw [hwb]; exact (Array.getElem?_eq_some_iff.1 Z1.out).1
  have HF2 := Lib.hid (show ¬ F zb from fun hk => by have := HF.out zb hk; omega)
  clear hW2 hwb CA Z1 B1 HF
  go_loopw [10, 11, 12, 13, 14, 15, 16, 17, 18] (fun i _ _ _ _ _ _ _ _ wr => ∃ k : Nat, k ≤ xs.length ∧ i = .int .i64 (k : Int) ∧ wr.heap[zb]? = some (.cells #[.int .i64 0, .slice none 0 0] 76 (0, 0)) ∧ ∃ F a c, ¬ F zb ∧ Pl w wr F p most wb (playL most (xs.take k)) a c (playL most (xs.take k))) (fun i _ _ _ _ _ _ _ _ _ => xs.length - (intOf i).toNat)
  case atStart => exact ⟨0, Nat.zero_le _, rfl, HZ2.out, F, none, 0, HF2.out, PL0.out⟩
  case round =>
    obtain ⟨k, hk, rfl, hzr, F, a, c, hfz, hpl⟩ := hrel
    obtain ⟨l, hl⟩ : ∃ l, playL most (xs.take k) = l := ⟨_, rfl⟩
    rw [hl] at hpl
    have PL := Lib.hid hpl; have HZB := Lib.hid hzr; have HFZ := Lib.hid hfz; have HL := Lib.hid hl
    have hll : l.length ≤ 1024 := hpl.net.len
    have hlm : l.length ≤ most := by obtain ⟨a, c, h⟩ := hpl.net; exact h.len
    clear hpl hzr hfz hl
    by_cases hlt : k < xs.length
    · obtain ⟨x, hx⟩ : ∃ x, xs[k]? = some x := ⟨_, List.getElem?_eq_getElem hlt⟩
      have HAO := Lib.hid (HIN.out.ok x (List.mem_of_getElem? hx))
      have HSZ := Lib.hid (show (acells x).toArray.size = 22 by rw [List.size_toArray]; exact HAO.out.len)
      have HPS := Lib.hid (show playL most (xs.take (k + 1)) = stepL most l x by rw [playL_succ most hx, HL.out])
      obtain ⟨ga, o, ea, hc⟩ := (HIN.out.kp (Ev.kp_below PL.out.bel)).at_ hx
      have HC := Lib.hid hc
      have hki : (k : Int) < (xs.length : Int) := by omega
      clear hx hc
      rw [ea]; clear ea
      go_wp2_with (first
        | ((with_reducible show wpList _ _ _ (Oper.mk (some 35) _ _ _ _ _ :: _) _ _); refine wpList_load_at rfl 82 (.tmp 34) rfl ga (o + k * 22) rfl (acells x) _ HC.out Try.underlying82 rfl (by rw [HAO.out.len]; exact size_act) ?_)
        | ((with_reducible show wpList _ _ _ (Oper.mk none (Op.store 82 _ _) _ _ _ _ :: _) _ _); refine wpList_store_own rfl 82 (.tmp 11) (.tmp 35) rfl wr.heap.size (acells x).toArray rfl rfl 82 #[.int .i64 0, .int .i64 0, .int .i64 0, .int .i64 0, .int .u32 0, .int .u8 0, .int .u8 0, .int .u8 0, .int .u8 0, .int .u8 0, .int .u8 0, .int .u8 0, .int .u8 0, .int .u8 0, .int .u8 0, .int .u8 0, .int .u8 0, .int .u8 0, .int .u8 0, .int .u8 0, .int .u8 0, .int .i64 0] (heap_alloc_new wr _) (by rw [HSZ.out]; exact size_act) (by rw [HSZ.out]; rfl) (acells_all x) ?_
           intro V HV
           have BV := Lib.hid (show Below wr.heap.size wr V from ((Below.refl wr.heap.size wr).alloc (Nat.le_refl _) _).trans HV.below)
           have RX := Lib.hid HV.row
           clear HV
           refine Stop.out ?_))
      refine ⟨?_⟩
      obtain ⟨xb, hxb⟩ : ∃ xb, xb = wr.heap.size := ⟨_, rfl⟩
      rw [← hxb] at RX ⊢
      have PV := Lib.hid (PL.out.kp BV.out)
      have ZV := Lib.hid ((BV.out.block _ (Array.getElem?_eq_some_iff.1 HZB.out).1).trans HZB.out)
      have HXF := Lib.hid (show ¬ F xb from fun h => by have := PL.out.net.lt _ h; omega)
      have hwx : wb < xb := by rw [hxb]; exact PL.out.wlt
      have x0 : V.cell? ⟨xb, 0, none⟩ = some (.int .i64 x.k) := by rw [cell_of_row _ _ _ _ _ _ RX.out]; rfl
      have x21 := pick_of_act HAO.out.e RX.out
      clear hxb HC PL HZB
      by_cases hk0 : x.k = 0
      · have HST := Lib.hid (show playL most (xs.take (k + 1)) = sendL most l x.e by rw [HPS.out]; unfold stepL; rw [if_pos hk0])
        have hkb : (x.k != 0) = false := by rw [hk0]; rfl
        have KR := Lib.hid (rsend_any most a c l x.e HAO.out.e V PV.out.ls hll hlm h2)
        have LX := Lib.hid (msg_of_act RX.out)
        go_wp2_with (first
          | ((with_reducible show wpList _ _ _ (Oper.mk (some 66) _ _ _ _ _ :: _) _ _); refine wpList_load_row rfl 76 (.tmp 9) rfl wb rfl 76 _ (0, 0) _ PV.out.want Try.underlying76 rfl (by kernel_rfl) ?_)
          | ((with_reducible show wpList _ _ _ (Oper.mk (some 68) _ _ _ _ _ :: _) _ _); refine wpList_load_at rfl 57 (.tmp 67) rfl xb 1 rfl (cells x.e) _ LX.out Try.underlying57 rfl (by rw [HAO.out.e.len]; exact size_msg) ?_)
          | (go_at_call 40; (with_reducible refine KR.out.mono ?_); rintro e' W3 ⟨a3, c3, rfl, hb3, ho3⟩
             have P3 := Lib.hid (PV.out.kp hb3)
             have Z3 := Lib.hid ((hb3.block _ (Array.getElem?_eq_some_iff.1 ZV.out).1).trans ZV.out)
             have X3 := Lib.hid ((hb3.block _ (Array.getElem?_eq_some_iff.1 RX.out).1).trans RX.out)
             have O3 := Lib.hid (PV.out.told hb3 ho3)
             clear hb3 ho3 x0 x21)
          | ((with_reducible show wpList _ _ _ (Oper.mk none (Op.store 76 _ _) _ _ _ _ :: _) _ _); refine wpList_store_own rfl 76 (.tmp 17) (.tmp 70) rfl W3.heap.size #[.int .i64 (most : Int), .slice a3 (sendL most l x.e).length c3] rfl rfl 76 _ (heap_alloc_new W3 _) (by kernel_rfl) rfl (by kernel_rfl) ?_
             intro W5 HW5
             have N5 := Lib.hid (show Below W3.heap.size W3 W5 from ((Below.refl W3.heap.size W3).alloc (Nat.le_refl _) _).trans HW5.below)
             have R5 := Lib.hid HW5.row
             clear HW5
             refine Stop.out ?_))
        refine ⟨?_⟩
        obtain ⟨nb, hnb⟩ : ∃ nb, nb = W3.heap.size := ⟨_, rfl⟩
        rw [← hnb] at R5 ⊢
        have P5 := Lib.hid (P3.out.kp N5.out)
        have Z5 := Lib.hid ((N5.out.block _ (Array.getElem?_eq_some_iff.1 Z3.out).1).trans Z3.out)
        have X5 := Lib.hid ((N5.out.block _ (Array.getElem?_eq_some_iff.1 X3.out).1).trans X3.out)
        have O5 := Lib.hid (O3.out.kp N5.out)
        have hwn : wb < nb := by rw [hnb]; exact P3.out.wlt
        clear hnb N5
        go_wp2_with (first
          | ((with_reducible show wpList _ _ _ (Oper.mk (some 72) _ _ _ _ _ :: _) _ _); refine wpList_load_row rfl 76 (.tmp 17) rfl nb rfl 76 _ (0, 0) _ R5.out Try.underlying76 rfl (by kernel_rfl) ?_)
          | ((with_reducible show wpList _ _ _ (Oper.mk none (Op.store 76 _ _) _ _ _ _ :: _) _ _); refine wpList_store_own rfl 76 (.tmp 9) (.tmp 72) rfl wb #[.int .i64 (most : Int), .slice a3 (sendL most l x.e).length c3] rfl rfl 76 _ P5.out.want (by kernel_rfl) rfl (by kernel_rfl) ?_
             intro W6 HW6
             have P6 := Lib.hid (P5.out.list O5.out (sendL_ok P5.out.ok HAO.out.e) HW6)
             have Z6 := Lib.hid ((HW6.block zb (by omega)).trans Z5.out)
             have X6 := Lib.hid ((HW6.block xb (by omega)).trans X5.out)
             clear HW6
             refine Stop.out ?_))
        refine ⟨?_⟩
        have LX6 := Lib.hid (msg_of_act X6.out)
        have KC := Lib.hid (send_any x.e HAO.out.e W6 P6.out.net)
        have hne : (sendE most l x.e != sendE most l x.e) = false := by simp
        go_wp2_with (first
          | ((with_reducible show wpList _ _ _ (Oper.mk (some 75) _ _ _ _ _ :: _) _ _); refine wpList_load_at rfl 57 (.tmp 74) rfl xb 1 rfl (cells x.e) _ LX6.out Try.underlying57 rfl (by rw [HAO.out.e.len]; exact size_msg) ?_)
          | (go_at_call 25; (with_reducible refine (num_any _ _).mono ?_); rintro e' W8 ⟨rfl, hw8⟩; subst hw8)
          | (go_at_call 31; (with_reducible refine KC.out.mono ?_); rintro e' W7 ⟨rfl, ht7⟩
             obtain ⟨F7, h7, hfr7, hk7⟩ := P6.out.turn ht7
             have P7 := Lib.hid h7
             have Z7 := Lib.hid ((hfr7.block _ (Array.getElem?_eq_some_iff.1 Z6.out).1 HFZ.out).trans Z6.out)
             have HF7 := Lib.hid (show ¬ F7 zb from fun h => by
               rcases hk7 zb h with h | h
               · exact HFZ.out h
               · have := (Array.getElem?_eq_some_iff.1 Z6.out).1; omega)
             clear ht7 h7 hfr7 hk7))
        go_roundw
        case rel => exact ⟨k + 1, by omega, by go_num, Z7.out, F7, a3, c3, HF7.out, by rw [HST.out]; exact P7.out⟩
        case measure => simp [intOf]; omega
      · have HST := Lib.hid (show playL most (xs.take (k + 1)) = delL l x.p by rw [HPS.out]; unfold stepL; rw [if_neg hk0])
        have hkb : (x.k != 0) = true := by simpa using hk0
        obtain ⟨m, hm⟩ : ∃ m, (delO l x.p).getD E0 = m := ⟨_, rfl⟩
        obtain ⟨bo, hbo⟩ : ∃ bo, (delO l x.p).isSome = bo := ⟨_, rfl⟩
        have HMO := Lib.hid (show Ok m from by rw [← hm]; exact delO_ok PV.out.ok)
        have KR' := rdel_any most a c l x.p HAO.out.p V PV.out.ls hll
        rw [hm, hbo] at KR'
        have KR := Lib.hid KR'
        have HOV := Lib.hid (show optV (delO l x.p) = .tuple #[.agg (cells m).toArray, .bool bo] from by rw [optV_eq, hm, hbo]; rfl)
        have hbb : (bo != bo) = false := by cases bo <;> rfl
        unfold EV at KR
        clear KR' hm hbo
        go_wp2_with (first
          | ((with_reducible show wpList _ _ _ (Oper.mk (some 40) _ _ _ _ _ :: _) _ _); refine wpList_load_row rfl 76 (.tmp 9) rfl wb rfl 76 _ (0, 0) _ PV.out.want Try.underlying76 rfl (by kernel_rfl) ?_)
          | (go_at_call 39; (with_reducible refine KR.out.mono ?_); rintro e' W3 ⟨a3, c3, rfl, hb3, ho3⟩
             have P3 := Lib.hid (PV.out.kp hb3)
             have Z3 := Lib.hid ((hb3.block _ (Array.getElem?_eq_some_iff.1 ZV.out).1).trans ZV.out)
             have X3 := Lib.hid ((hb3.block _ (Array.getElem?_eq_some_iff.1 RX.out).1).trans RX.out)
             have O3 := Lib.hid (PV.out.told hb3 ho3)
             clear hb3 ho3 x0 x21)
          | ((with_reducible show wpList _ _ _ (Oper.mk none (Op.store 76 _ _) _ _ _ _ :: _) _ _); refine wpList_store_own rfl 76 (.tmp 12) (.tmp 44) rfl W3.heap.size #[.int .i64 (most : Int), .slice a3 (delL l x.p).length c3] rfl rfl 76 #[.int .i64 0, .slice none 0 0] ((Below.heap_alloc _ _ _ (by simp)).trans (heap_alloc_new W3 _)) (by kernel_rfl) rfl (by kernel_rfl) ?_
             intro W4 HW4
             have S4 := Lib.hid HW4
             clear HW4)
          | ((with_reducible show wpList _ _ _ (Oper.mk none (Op.store 57 _ _) _ _ _ _ :: _) _ _); refine wpList_store_own rfl 57 (.tmp 13) (.tmp 45) rfl (W3.heap.size + 1) (cells m).toArray rfl rfl 57 #[.int .i64 0, .int .i64 0, .int .i64 0, .int .u32 0, .int .u8 0, .int .u8 0, .int .u8 0, .int .u8 0, .int .u8 0, .int .u8 0, .int .u8 0, .int .u8 0, .int .u8 0, .int .u8 0, .int .u8 0, .int .u8 0, .int .u8 0, .int .u8 0, .int .u8 0, .int .u8 0] ((S4.out.block _ (by omega)).trans (two_new W3 _ _)) (by rw [HMO.out.size]; exact size_msg) (by rw [HMO.out.size]; rfl) (cells_all m) ?_
             intro W5 HW5
             have N5 := Lib.hid (show Below W3.heap.size W3 W5 from ((((Below.refl W3.heap.size W3).alloc (Nat.le_refl _) _).alloc (by simp) _).trans S4.out.below).trans (HW5.below.mono (by omega)))
             have R5 := Lib.hid ((HW5.block W3.heap.size (by omega)).trans S4.out.row)
             have M5 := Lib.hid HW5.row
             clear HW5
             refine Stop.out ?_))
        refine ⟨?_⟩
        obtain ⟨nb, hnb⟩ : ∃ nb, nb = W3.heap.size := ⟨_, rfl⟩
        obtain ⟨mb, hmb⟩ : ∃ mb, mb = W3.heap.size + 1 := ⟨_, rfl⟩
        rw [← hmb] at M5 ⊢
        rw [← hnb] at R5 ⊢
        have P5 := Lib.hid (P3.out.kp N5.out)
        have Z5 := Lib.hid ((N5.out.block _ (Array.getElem?_eq_some_iff.1 Z3.out).1).trans Z3.out)
        have X5 := Lib.hid ((N5.out.block _ (Array.getElem?_eq_some_iff.1 X3.out).1).trans X3.out)
        have O5 := Lib.hid (O3.out.kp N5.out)
        have hwn : wb < nb := by rw [hnb]; exact P3.out.wlt
        have hwm : wb < mb := by omega
        have HMF := Lib.hid (show ¬ F mb from fun h => by have := P3.out.net.lt _ h; omega)
        clear hnb hmb N5 S4
        go_wp2_with (first
          | ((with_reducible show wpList _ _ _ (Oper.mk (some 47) _ _ _ _ _ :: _) _ _); refine wpList_load_row rfl 76 (.tmp 12) rfl nb rfl 76 _ (0, 0) _ R5.out Try.underlying76 rfl (by kernel_rfl) ?_)
          | ((with_reducible show wpList _ _ _ (Oper.mk none (Op.store 76 _ _) _ _ _ _ :: _) _ _); refine wpList_store_own rfl 76 (.tmp 9) (.tmp 47) rfl wb #[.int .i64 (most : Int), .slice a3 (delL l x.p).length c3] rfl rfl 76 _ P5.out.want (by kernel_rfl) rfl (by kernel_rfl) ?_
             intro W6 HW6
             have P6 := Lib.hid (P5.out.list O5.out (delL_ok P5.out.ok) HW6)
             have Z6 := Lib.hid ((HW6.block zb (by omega)).trans Z5.out)
             have X6 := Lib.hid ((HW6.block xb (by omega)).trans X5.out)
             have M6 := Lib.hid ((HW6.block mb (by omega)).trans M5.out)
             clear HW6
             refine Stop.out ?_))
        refine ⟨?_⟩
        have x21 := pick_of_act HAO.out.e X6.out
        have KC' := deliver_any x.p HAO.out.p W6 P6.out.net
        rw [HOV.out] at KC'
        have KC := Lib.hid KC'
        clear KC'
        go_wp2_with (first
          | (go_at_call 30; (with_reducible refine KC.out.mono ?_); rintro e' W7 ⟨rfl, ht7⟩
             obtain ⟨F7, h7, hfr7, hk7⟩ := P6.out.turn ht7
             have P7 := Lib.hid h7
             have Z7 := Lib.hid ((hfr7.block _ (Array.getElem?_eq_some_iff.1 Z6.out).1 HFZ.out).trans Z6.out)
             have M7 := Lib.hid ((hfr7.block _ (Array.getElem?_eq_some_iff.1 M6.out).1 HMF.out).trans M6.out)
             have HF7 := Lib.hid (show ¬ F7 zb from fun h => by
               rcases hk7 zb h with h | h
               · exact HFZ.out h
               · have := (Array.getElem?_eq_some_iff.1 Z6.out).1; omega)
             clear ht7 h7 hfr7 hk7 x21)
          | ((with_reducible show wpList _ _ _ (Oper.mk none (Op.store 57 _ _) _ _ _ _ :: _) _ _); refine wpList_store_own rfl 57 (.tmp 15) (.tmp 53) rfl W7.heap.size (cells m).toArray rfl rfl 57 #[.int .i64 0, .int .i64 0, .int .i64 0, .int .u32 0, .int .u8 0, .int .u8 0, .int .u8 0, .int .u8 0, .int .u8 0, .int .u8 0, .int .u8 0, .int .u8 0, .int .u8 0, .int .u8 0, .int .u8 0, .int .u8 0, .int .u8 0, .int .u8 0, .int .u8 0, .int .u8 0] (heap_alloc_new W7 _) (by rw [HMO.out.size]; exact size_msg) (by rw [HMO.out.size]; rfl) (cells_all m) ?_
             intro W8 HW8
             have N8 := Lib.hid (show Below W7.heap.size W7 W8 from ((Below.refl W7.heap.size W7).alloc (Nat.le_refl _) _).trans HW8.below)
             have Y8 := Lib.hid HW8.row
             clear HW8
             refine Stop.out ?_))
        refine ⟨?_⟩
        obtain ⟨yb, hyb⟩ : ∃ yb, yb = W7.heap.size := ⟨_, rfl⟩
        rw [← hyb] at Y8 ⊢
        have P8 := Lib.hid (P7.out.kp N8.out)
        have Z8 := Lib.hid ((N8.out.block _ (Array.getElem?_eq_some_iff.1 Z7.out).1).trans Z7.out)
        have M8 := Lib.hid ((N8.out.block _ (Array.getElem?_eq_some_iff.1 M7.out).1).trans M7.out)
        clear hyb N8
        go_wp2_with (first
          | ((with_reducible show wpList _ _ _ (Oper.mk (some 55) _ _ _ _ _ :: _) _ _); refine wpList_load_row rfl 57 (.tmp 15) rfl yb rfl 57 _ (0, 0) _ Y8.out Try.underlying57 rfl (by rw [HMO.out.size]; exact size_msg) ?_)
          | ((with_reducible show wpList _ _ _ (Oper.mk (some 56) _ _ _ _ _ :: _) _ _); refine wpList_load_row rfl 57 (.tmp 13) rfl mb rfl 57 _ (0, 0) _ M8.out Try.underlying57 rfl (by rw [HMO.out.size]; exact size_msg) ?_)
          | ((with_reducible show wpList _ _ _ (Oper.mk (some 57) _ _ _ _ _ :: _) _ _); refine wpList_val rfl (neq_op (a := m) (b := m) (.tmp 55) (.tmp 56) rfl HMO.out HMO.out rfl rfl false (by rw [eqM_self HMO.out]; rfl) _) ?_))
        go_roundw
        case rel => exact ⟨k + 1, by omega, by go_num, Z8.out, F7, a3, c3, HF7.out, by rw [HST.out]; exact P8.out⟩
        case measure => simp [intOf]; omega
    · have hki : ¬ (k : Int) < (xs.length : Int) := by omega
      have HL2 := Lib.hid (show playL most xs = l from by rw [← HL.out, List.take_of_length_le (by omega)])
      go_wp2_with fail
      obtain ⟨wq, hwq⟩ : ∃ wq, wq = { wr with drawn := wr.drawn + 1 } := ⟨_, rfl⟩
      have BQ := Lib.hid (show Below wr.heap.size wr wq by rw [hwq]; exact ⟨rfl, rfl, rfl, Nat.le_refl _, fun _ _ => rfl⟩)
      have HWQ := Lib.hid hwq
      clear hwq
      have PQ := Lib.hid (PL.out.kp BQ.out)
      have ZQ := Lib.hid ((BQ.out.block zb (Array.getElem?_eq_some_iff.1 HZB.out).1).trans HZB.out)
      have HFA := Lib.hid (show (fun x : World => x.heap[wb]? = some (.cells #[.int .i64 (most : Int), .slice a l.length c] 76 (0, 0))) wq from PQ.out.want)
      refine Og.region_S (S := Og.SF 2 (fun x : World => x.heap[wb]? = some (.cells #[.int .i64 (most : Int), .slice a l.length c] 76 (0, 0)))) (by kernel_rfl) ?_
      rw [← HWQ.out]
      refine Og.s_take 0 { dst := some 82, op := Go.Op.move (Go.Operand.tmp 7), type := 62, pos := "law.go:63", after := #[], guard := none } (.pointer (some ⟨p, 0, none⟩)) _ (by kernel_rfl) (by kernel_rfl) (by kernel_rfl) (by kernel_rfl) (by kernel_rfl) (fun _ _ _ h => h) (fun _ => HFA.out) (fun x' hx => ?_) (by simp only [Act.put, List.setIfInBounds_toArray, List.set_cons_zero, List.set_cons_succ]; rfl) ?_
      · go_simp; try (with_reducible rfl)
      refine Og.s_take 1 { dst := some 83, op := Go.Op.load 76 (Go.Operand.tmp 9), type := 76, pos := "law.go:63", after := #[{ on := 5, ground := Go.Ground.gcOnly Go.Departure.lateStores }], guard := none } (.agg #[.int .i64 (most : Int), .slice a l.length c]) _ (by kernel_rfl) (by kernel_rfl) (by kernel_rfl) (by kernel_rfl) (by kernel_rfl) (fun _ _ _ h => h) (fun _ => HFA.out) (fun x' hx => ?_) (by simp only [Act.put, List.setIfInBounds_toArray, List.set_cons_zero, List.set_cons_succ]; rfl) ?_
      · exact Og.load_run 76 (.tmp 9) rfl ⟨wb, 0, none⟩ rfl (run_loadVar_row x' wb 76 76 #[.int .i64 (most : Int), .slice a l.length c] (0, 0) _ (hx (by decide)) Try.underlying76 rfl (by kernel_rfl))
      refine Og.s_take 2 { dst := some 84, op := Go.Op.move (Go.Operand.tmp 8), type := 47, pos := "law.go:63", after := #[], guard := none } (.int .i64 0) _ (by kernel_rfl) (by kernel_rfl) (by kernel_rfl) (by kernel_rfl) (by kernel_rfl) (fun _ _ _ h => h) (fun h => absurd h (by decide)) (fun x' hx => ?_) (by simp only [Act.put, List.setIfInBounds_toArray, List.set_cons_zero, List.set_cons_succ]; rfl) ?_
      · go_simp; try (with_reducible rfl)
      refine Og.s_one 3 { dst := some 85, op := Go.Op.call { callee := Go.Callee.value (Go.Operand.func 25), args := #[Go.Operand.tmp 84], argTypes := #[47] }, type := 3, pos := "law.go:63", after := #[{ on := 2, ground := Go.Ground.data }], guard := none } (by kernel_rfl) (by kernel_rfl) (by kernel_rfl) ?_
      refine Og.call_to (w1 := wq) (f := 25) (args := #[.int .i64 0]) (by go_simp) ?_
      refine (num_any 0 wq).mono ?_
      rintro e' w9 ⟨rfl, hw⟩
      subst hw
      refine ⟨_, rfl, Og.keep_sf (fun h => h), ?_⟩
      refine Og.s_take 4 { dst := some 86, op := Go.Op.binOp Go.BinOp.eql 3 (Go.Operand.tmp 85) (Go.Operand.const (Go.Value.int Go.IntKind.i64 0)) 3, type := 4, pos := "law.go:63", after := #[{ on := 3, ground := Go.Ground.data }, { on := 6, ground := Go.Ground.gcOnly Go.Departure.lateStores }], guard := none } (.bool true) _ (by kernel_rfl) (by kernel_rfl) (by kernel_rfl) (by kernel_rfl) (by kernel_rfl) (fun _ _ _ h => h) (fun h => absurd h (by decide)) (fun x' hx => ?_) (by simp only [Act.put, List.setIfInBounds_toArray, List.set_cons_zero, List.set_cons_succ]; rfl) ?_
      · go_simp; try (with_reducible rfl)
      refine Og.s_take 5 { dst := some 4, op := Go.Op.assign (Go.Operand.tmp 82), type := 62, pos := "law.go:63", after := #[{ on := 0, ground := Go.Ground.data }, { on := 3, ground := Go.Ground.chain }, { on := 0, ground := Go.Ground.phase }, { on := 1, ground := Go.Ground.textOnly Go.Departure.lateStores }, { on := 2, ground := Go.Ground.textOnly Go.Departure.lateStores }, { on := 3, ground := Go.Ground.textOnly Go.Departure.lateStoresUnsure }, { on := 4, ground := Go.Ground.textOnly Go.Departure.lateStores }], guard := none } (.pointer (some ⟨p, 0, none⟩)) _ (by kernel_rfl) (by kernel_rfl) (by kernel_rfl) (by kernel_rfl) (by kernel_rfl) (fun _ _ _ h => h) (fun h => absurd h (by decide)) (fun x' hx => ?_) (by simp only [Act.put, List.setIfInBounds_toArray, List.set_cons_zero, List.set_cons_succ]; rfl) ?_
      · go_simp; try (with_reducible rfl)
      refine Og.s_one 6 { dst := none, op := Go.Op.store 76 (Go.Operand.tmp 5) (Go.Operand.tmp 83), type := 0, pos := "law.go:63", after := #[{ on := 1, ground := Go.Ground.data }, { on := 5, ground := Go.Ground.chain }, { on := 0, ground := Go.Ground.phase }, { on := 1, ground := Go.Ground.phase }, { on := 2, ground := Go.Ground.textOnly Go.Departure.lateStores }, { on := 3, ground := Go.Ground.textOnly Go.Departure.lateStoresUnsure }, { on := 4, ground := Go.Ground.textOnly Go.Departure.lateStores }, { on := 5, ground := Go.Ground.phase }], guard := none } (by kernel_rfl) (by kernel_rfl) (by kernel_rfl) ?_
      refine Og.skip_to (w' := wq.setRow zb #[.int .i64 (most : Int), .slice a l.length c]) ?_ ⟨Og.keep_last (o := { dst := none, op := Go.Op.store 76 (Go.Operand.tmp 5) (Go.Operand.tmp 83), type := 0, pos := "law.go:63", after := #[{ on := 1, ground := Go.Ground.data }, { on := 5, ground := Go.Ground.chain }, { on := 0, ground := Go.Ground.phase }, { on := 1, ground := Go.Ground.phase }, { on := 2, ground := Go.Ground.textOnly Go.Departure.lateStores }, { on := 3, ground := Go.Ground.textOnly Go.Departure.lateStoresUnsure }, { on := 4, ground := Go.Ground.textOnly Go.Departure.lateStores }, { on := 5, ground := Go.Ground.phase }], guard := none }) (by kernel_rfl) (by kernel_rfl), ?_⟩
      · exact Og.row_to 76 (.tmp 5) (.tmp 83) rfl zb #[.int .i64 (most : Int), .slice a l.length c] rfl rfl 76 _ ZQ.out (by kernel_rfl) rfl (by kernel_rfl)
      obtain ⟨w10, hw10⟩ : ∃ w10, w10 = wq.setRow zb #[.int .i64 (most : Int), .slice a l.length c] := ⟨_, rfl⟩
      have hs10 := Ev.set1 (cs := #[.int .i64 (most : Int), .slice a l.length c]) ZQ.out rfl
      rw [← hw10] at hs10 ⊢
      have HS10 := Lib.hid hs10
      clear hw10 hs10
      refine Og.s_take 7 { dst := some 6, op := Go.Op.assign (Go.Operand.tmp 86), type := 4, pos := "law.go:63", after := #[{ on := 4, ground := Go.Ground.data }, { on := 6, ground := Go.Ground.chain }, { on := 0, ground := Go.Ground.phase }, { on := 1, ground := Go.Ground.phase }, { on := 2, ground := Go.Ground.phase }, { on := 3, ground := Go.Ground.phase }, { on := 4, ground := Go.Ground.phase }, { on := 5, ground := Go.Ground.phase }, { on := 6, ground := Go.Ground.phase }], guard := none } (.bool true) _ (by kernel_rfl) (by kernel_rfl) (by kernel_rfl) (by kernel_rfl) (by kernel_rfl) (fun _ _ _ h => h) (fun h => absurd h (by decide)) (fun x' hx => ?_) (by simp only [Act.put, List.setIfInBounds_toArray, List.set_cons_zero, List.set_cons_succ]; rfl) ?_
      · go_simp; try (with_reducible rfl)
      refine Og.s_done (by kernel_rfl) ?_ _
      try simp only [Act.put, List.setIfInBounds_toArray, List.set_cons_zero, List.set_cons_succ]
      go_wp2_with fail
      have hzl : w.heap.size ≤ zb := by rw [Hz.out]; exact Nat.le_refl _
      have hzq : zb < wq.heap.size := (Array.getElem?_eq_some_iff.1 ZQ.out).1
      refine bodyPost_ret (res3 (fn := Try.f37) rfl _ _ zb 76 _ (0, 0) _ rfl HS10.out.row Try.underlying76 rfl (by kernel_rfl)) rfl ?_
      unfold Played
      rw [HL2.out]
      refine ⟨p, F, a, c, rfl, PQ.out.net.kept (by rw [HS10.out.size]; exact Nat.le_refl _) (fun k hk => HS10.out.block k (fun e => HFZ.out (e ▸ hk))), PQ.out.bel.trans (HS10.out.below.mono hzl), PQ.out.lo, ?_⟩
      rcases PQ.out.own with h1 | ⟨g, cur, e, hf, hg, r⟩
      · exact .inl h1
      · refine .inr ⟨g, cur, e, hf, (HS10.out.block g (fun e => ?_)).trans hg, r⟩
        rw [e, ZQ.out] at hg
        injection hg with hg
        injection hg with _ hg _
        exact absurd hg (by decide)
end Nt
end Go.Proofs.Ytnfpcklpmfemiaa
