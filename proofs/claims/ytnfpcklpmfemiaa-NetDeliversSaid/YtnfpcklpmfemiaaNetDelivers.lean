/-
  NetDelivers: for every input the statement's function returns true, with no condition; each argument reads behind the call as before. By contracts of the program's and the document's functions.
-/
import Derived.Test.YtnfpcklpmfemiaaNtLaw
namespace Go.Proofs.Ytnfpcklpmfemiaa.netDelivers
open Go.ChangeShapes Go.WideShapes Go.ChangeAt Go.RowKit
set_option linter.unusedVariables false
set_option linter.unusedSimpArgs false

set_option maxRecDepth 100000 in
set_option maxHeartbeats 8000000 in
theorem walk_many (w : World) (a0 : Option Addr) (n0 c0 : Nat) (pick : Int) (hn : (100 : Int) < (n0 : Int)) :
    Calls Try.prog 9 #[.slice a0 n0 c0, .int .i64 pick] w fun e w' => e = .returned (.bool true) ∧ Below w.heap.size w w' := by
  go_enter Try.func9, Try.ntmps9
  go_wp2_with (go_at_call 28; (with_reducible refine (Nt.works_any _).mono ?_); rintro e W9 ⟨rfl, hb⟩; have B9 := Lib.hid hb; clear hb)
  go_ret
  exact ⟨rfl, B9.out⟩
set_option maxRecDepth 100000 in
set_option maxHeartbeats 8000000 in
theorem walk_few (w : World) (a1 : Option Addr) (c1 : Nat) (xs : List Nt.E) (b1 : Nt.LsIn w a1 c1 xs) (hx : xs.length ≤ 100) (pick : Int) (hp : Ev.i64B pick) :
    Calls Try.prog 9 #[.slice a1 xs.length c1, .int .i64 pick] w fun e w' => e = .returned (.bool true) ∧ Below w.heap.size w w' := by
  have NW := Lib.hid (Nt.new_yes 200 (by decide) (by decide) w)
  have h3 : ¬ (100 : Int) < (xs.length : Int) := by omega
  have HIN := Lib.hid b1
  clear b1
  go_enter Try.func9, Try.ntmps9
  go_wp2_with (first
    | (go_at_call 29; (refine NW.out.mono ?_); rintro e W1 ⟨p, rfl, hb1, F, hca, hf⟩
       have B1 := Lib.hid hb1; have CA := Lib.hid hca; have HF := Lib.hid hf
       clear hb1 hca hf))
  obtain ⟨most, hmost⟩ : ∃ most : Nat, most = 200 := ⟨_, rfl⟩
  have h200 : (200 : Int) = (most : Int) := by omega
  rw [h200]
  have CA2 := CA.out
  rw [← hmost] at CA2
  have h9 : most ≤ 1024 := by omega
  obtain ⟨wb, hwb⟩ : ∃ wb, wb = W1.heap.size := ⟨_, rfl⟩
  obtain ⟨W2, hW2⟩ : ∃ W2, W2 = W1.alloc (.cells #[.int .i64 (most : Int), .slice none 0 0] 76) := ⟨_, rfl⟩
  rw [← hW2, ← hwb]
  have PL0 := Lib.hid (show Nt.Pl w W2 F p most wb (Nt.sendsL most (xs.take 0)) none 0 (Nt.sendsL most (xs.take 0)) from by
    rw [hwb]; exact Nt.Pl.fresh CA2 B1.out HF.out hW2)
  clear hW2 hwb CA B1 HF CA2 h200 hmost
  go_loopw [8] (fun i wr => ∃ k : Nat, k ≤ xs.length ∧ i = .int .i64 (k : Int) ∧ ∃ F a c, Nt.Pl w wr F p most wb (Nt.sendsL most (xs.take k)) a c (Nt.sendsL most (xs.take k))) (fun i _ => xs.length - (intOf i).toNat)
  case atStart => exact ⟨0, Nat.zero_le _, rfl, F, none, 0, PL0.out⟩
  case round =>
    obtain ⟨k, hk, rfl, F, a, c, hpl⟩ := hrel
    obtain ⟨l, hl⟩ : ∃ l, Nt.sendsL most (xs.take k) = l := ⟨_, rfl⟩
    rw [hl] at hpl
    have PL := Lib.hid hpl; have HL := Lib.hid hl
    have hll : l.length ≤ 1024 := hpl.net.len
    have hlm : l.length ≤ most := by obtain ⟨a, c, h⟩ := hpl.net; exact h.len
    clear hpl hl
    by_cases hlt : k < xs.length
    · obtain ⟨m, hm⟩ : ∃ m, xs[k]? = some m := ⟨_, List.getElem?_eq_getElem hlt⟩
      have HOK := Lib.hid (HIN.out.ok_ hm)
      have HPS := Lib.hid (show Nt.sendsL most (xs.take (k + 1)) = Nt.sendL most l m by rw [Nt.sendsL_succ most hm, HL.out])
      obtain ⟨ga, o, ea, hc⟩ := HIN.out.at_ hm
      have HC := Lib.hid hc
      have hki : (k : Int) < (xs.length : Int) := by omega
      clear hm hc
      rw [ea]; clear ea
      go_wp2_with fail
      obtain ⟨wq, hwq⟩ : ∃ wq, wq = { wr with drawn := wr.drawn + 1 } := ⟨_, rfl⟩
      have BQ := Lib.hid (show Below wr.heap.size wr wq by rw [hwq]; exact ⟨rfl, rfl, rfl, Nat.le_refl _, fun _ _ => rfl⟩)
      have HWQ := Lib.hid hwq
      clear hwq
      have PQ := Lib.hid (PL.out.kp BQ.out)
      have HCQ := Lib.hid (fun i c hi => Ev.kp_below PQ.out.bel _ _ (HC.out i c hi))
      have HFA := Lib.hid (show (fun x : World => x.heap[wb]? = some (.cells #[.int .i64 (most : Int), .slice a l.length c] 76 (0, 0)) ∧ ∀ i c, (Nt.cells m)[i]? = some c → x.cell? ⟨ga, o + k * 20 + i, none⟩ = some c) wq from ⟨PQ.out.want, HCQ.out⟩)
      refine Og.region_S (S := Og.SF 5 (fun x : World => x.heap[wb]? = some (.cells #[.int .i64 (most : Int), .slice a l.length c] 76 (0, 0)) ∧ ∀ i c, (Nt.cells m)[i]? = some c → x.cell? ⟨ga, o + k * 20 + i, none⟩ = some c)) (by kernel_rfl) ?_
      rw [← HWQ.out]
      refine Og.s_take 0 { dst := some 30, op := Go.Op.load 76 (Go.Operand.tmp 7), type := 76, pos := "near.go:34", after := #[], guard := none } (.agg #[.int .i64 (most : Int), .slice a l.length c]) _ (by kernel_rfl) (by kernel_rfl) (by kernel_rfl) (by kernel_rfl) (by kernel_rfl) (fun _ _ _ h => h) (fun _ => HFA.out) (fun x' hx => ?_) (by simp only [Act.put, List.setIfInBounds_toArray, List.set_cons_zero, List.set_cons_succ]; rfl) ?_
      · exact Og.load_run 76 (.tmp 7) rfl ⟨wb, 0, none⟩ rfl (run_loadVar_row x' wb 76 76 #[.int .i64 (most : Int), .slice a l.length c] (0, 0) _ (hx (by decide)).1 Try.underlying76 rfl (by kernel_rfl))
      refine Og.s_take 1 { dst := some 31, op := Go.Op.move (Go.Operand.tmp 0), type := 68, pos := "near.go:34", after := #[], guard := none } (.slice (some ⟨ga, o, none⟩) xs.length c1) _ (by kernel_rfl) (by kernel_rfl) (by kernel_rfl) (by kernel_rfl) (by kernel_rfl) (fun _ _ _ h => h) (fun _ => HFA.out) (fun x' hx => ?_) (by simp only [Act.put, List.setIfInBounds_toArray, List.set_cons_zero, List.set_cons_succ]; rfl) ?_
      · go_simp; try (with_reducible rfl)
      refine Og.s_take 2 { dst := some 32, op := Go.Op.move (Go.Operand.tmp 8), type := 3, pos := "near.go:34", after := #[], guard := none } (.int .i64 (k : Int)) _ (by kernel_rfl) (by kernel_rfl) (by kernel_rfl) (by kernel_rfl) (by kernel_rfl) (fun _ _ _ h => h) (fun _ => HFA.out) (fun x' hx => ?_) (by simp only [Act.put, List.setIfInBounds_toArray, List.set_cons_zero, List.set_cons_succ]; rfl) ?_
      · go_simp; try (with_reducible rfl)
      refine Og.s_take 3 { dst := some 33, op := Go.Op.indexAddr 68 (Go.Operand.tmp 31) (Go.Operand.tmp 32), type := 0, pos := "near.go:34", after := #[{ on := 1, ground := Go.Ground.data }, { on := 2, ground := Go.Ground.data }], guard := none } (.pointer (some ⟨ga, o + k * 20, none⟩)) _ (by kernel_rfl) (by kernel_rfl) (by kernel_rfl) (by kernel_rfl) (by kernel_rfl) (fun _ _ _ h => h) (fun _ => HFA.out) (fun x' hx => ?_) (by simp only [Act.put, List.setIfInBounds_toArray, List.set_cons_zero, List.set_cons_succ]; rfl) ?_
      · go_simp; try (with_reducible rfl)
      refine Og.s_take 4 { dst := some 34, op := Go.Op.load 57 (Go.Operand.tmp 33), type := 57, pos := "near.go:34", after := #[{ on := 3, ground := Go.Ground.data }], guard := none } (.agg (Nt.cells m).toArray) _ (by kernel_rfl) (by kernel_rfl) (by kernel_rfl) (by kernel_rfl) (by kernel_rfl) (fun _ _ _ h => h) (fun _ => HFA.out) (fun x' hx => ?_) (by simp only [Act.put, List.setIfInBounds_toArray, List.set_cons_zero, List.set_cons_succ]; rfl) ?_
      · exact Og.load_run 57 (.tmp 33) rfl ⟨ga, o + k * 20, none⟩ rfl (run_loadVar_at x' ga (o + k * 20) 57 (Nt.cells m) _ (hx (by decide)).2 Try.underlying57 rfl (by rw [HOK.out.len]; exact Nt.size_msg))
      refine Og.s_one 5 { dst := some 35, op := Go.Op.call { callee := Go.Callee.value (Go.Operand.func 40), args := #[Go.Operand.tmp 30, Go.Operand.tmp 34], argTypes := #[76, 57] }, type := 85, pos := "near.go:34", after := #[{ on := 0, ground := Go.Ground.data }, { on := 4, ground := Go.Ground.data }], guard := none } (by kernel_rfl) (by kernel_rfl) (by kernel_rfl) ?_
      refine Og.call_to (w1 := wq) (f := 40) (args := #[.agg #[.int .i64 (most : Int), .slice a l.length c], .agg (Nt.cells m).toArray]) (by go_simp) ?_
      refine (Nt.rsend_any most a c l m HOK.out wq PQ.out.ls hll hlm h9).mono ?_
      rintro e' W3 ⟨a3, c3, rfl, hb3, ho3⟩
      have P3 := Lib.hid (PQ.out.kp hb3)
      have O3 := Lib.hid (PQ.out.told hb3 ho3)
      have BC := Lib.hid hb3
      clear hb3 ho3
      refine ⟨_, rfl, Og.keep_sf (fun h => ⟨(BC.out.block _ (Array.getElem?_eq_some_iff.1 h.1).1).trans h.1, fun i c hi => Ev.kp_below BC.out _ _ (h.2 i c hi)⟩), ?_⟩
      refine Og.s_take 6 { dst := some 29, op := Go.Op.move (Go.Operand.tmp 35), type := 85, pos := "near.go:34", after := #[{ on := 5, ground := Go.Ground.data }], guard := none } (.tuple #[.agg #[.int .i64 (most : Int), .slice a3 (Nt.sendL most l m).length c3], .int .i64 (Nt.sendE most l m)]) _ (by kernel_rfl) (by kernel_rfl) (by kernel_rfl) (by kernel_rfl) (by kernel_rfl) (fun _ _ _ h => h) (fun h => absurd h (by decide)) (fun x' hx => ?_) (by simp only [Act.put, List.setIfInBounds_toArray, List.set_cons_zero, List.set_cons_succ]; rfl) ?_
      · go_simp; try (with_reducible rfl)
      refine Og.s_take 7 { dst := some 36, op := Go.Op.extract (Go.Operand.tmp 29) 0, type := 76, pos := "near.go:34", after := #[{ on := 6, ground := Go.Ground.data }], guard := none } (.agg #[.int .i64 (most : Int), .slice a3 (Nt.sendL most l m).length c3]) _ (by kernel_rfl) (by kernel_rfl) (by kernel_rfl) (by kernel_rfl) (by kernel_rfl) (fun _ _ _ h => h) (fun h => absurd h (by decide)) (fun x' hx => ?_) (by simp only [Act.put, List.setIfInBounds_toArray, List.set_cons_zero, List.set_cons_succ]; rfl) ?_
      · go_simp; try (with_reducible rfl)
      refine Og.s_take 8 { dst := some 37, op := Go.Op.extract (Go.Operand.tmp 29) 1, type := 3, pos := "near.go:34", after := #[{ on := 6, ground := Go.Ground.data }, { on := 9, ground := Go.Ground.gcOnly Go.Departure.lateStores }], guard := none } (.int .i64 (Nt.sendE most l m)) _ (by kernel_rfl) (by kernel_rfl) (by kernel_rfl) (by kernel_rfl) (by kernel_rfl) (fun _ _ _ h => h) (fun h => absurd h (by decide)) (fun x' hx => ?_) (by simp only [Act.put, List.setIfInBounds_toArray, List.set_cons_zero, List.set_cons_succ]; rfl) ?_
      · go_simp; try (with_reducible rfl)
      refine Og.s_one 9 { dst := none, op := Go.Op.store 76 (Go.Operand.tmp 7) (Go.Operand.tmp 36), type := 0, pos := "near.go:34", after := #[{ on := 7, ground := Go.Ground.data }, { on := 5, ground := Go.Ground.chain }, { on := 0, ground := Go.Ground.phase }, { on := 1, ground := Go.Ground.phase }, { on := 2, ground := Go.Ground.phase }, { on := 3, ground := Go.Ground.phase }, { on := 4, ground := Go.Ground.phase }, { on := 5, ground := Go.Ground.phase }, { on := 6, ground := Go.Ground.phase }, { on := 7, ground := Go.Ground.phase }, { on := 8, ground := Go.Ground.textOnly Go.Departure.lateStores }], guard := none } (by kernel_rfl) (by kernel_rfl) (by kernel_rfl) ?_
      refine Og.skip_to (w' := W3.setRow wb #[.int .i64 (most : Int), .slice a3 (Nt.sendL most l m).length c3]) ?_ ⟨Og.keep_last (o := { dst := none, op := Go.Op.store 76 (Go.Operand.tmp 7) (Go.Operand.tmp 36), type := 0, pos := "near.go:34", after := #[{ on := 7, ground := Go.Ground.data }, { on := 5, ground := Go.Ground.chain }, { on := 0, ground := Go.Ground.phase }, { on := 1, ground := Go.Ground.phase }, { on := 2, ground := Go.Ground.phase }, { on := 3, ground := Go.Ground.phase }, { on := 4, ground := Go.Ground.phase }, { on := 5, ground := Go.Ground.phase }, { on := 6, ground := Go.Ground.phase }, { on := 7, ground := Go.Ground.phase }, { on := 8, ground := Go.Ground.textOnly Go.Departure.lateStores }], guard := none }) (by kernel_rfl) (by kernel_rfl), ?_⟩
      · exact Og.row_to 76 (.tmp 7) (.tmp 36) rfl wb #[.int .i64 (most : Int), .slice a3 (Nt.sendL most l m).length c3] rfl rfl 76 _ P3.out.want (by kernel_rfl) rfl (by kernel_rfl)
      obtain ⟨W6, hW6⟩ : ∃ W6, W6 = W3.setRow wb #[.int .i64 (most : Int), .slice a3 (Nt.sendL most l m).length c3] := ⟨_, rfl⟩
      have hs6 := Ev.set1 (cs := #[.int .i64 (most : Int), .slice a3 (Nt.sendL most l m).length c3]) P3.out.want rfl
      rw [← hW6] at hs6 ⊢
      have P6 := Lib.hid (P3.out.list O3.out (Nt.sendL_ok P3.out.ok HOK.out) hs6)
      have HC6 := Lib.hid (fun i c hi => Ev.kp_below P6.out.bel _ _ (HC.out i c hi))
      have KC := Lib.hid (Nt.send_any m HOK.out W6 P6.out.net)
      clear hW6 hs6
      refine Og.s_done (by kernel_rfl) ?_ _
      try simp only [Act.put, List.setIfInBounds_toArray, List.set_cons_zero, List.set_cons_succ]
      go_wp2_with (first
        | ((with_reducible show wpList _ _ _ (Oper.mk (some 42) _ _ _ _ _ :: _) _ _); refine wpList_load_at rfl 57 (.tmp 41) rfl ga (o + k * 20) rfl (Nt.cells m) _ HC6.out Try.underlying57 rfl (by rw [HOK.out.len]; exact Nt.size_msg) ?_)
        | (go_at_call 31; (with_reducible refine KC.out.mono ?_); rintro e' W7 ⟨rfl, ht7⟩
           obtain ⟨F7, h7, hfr7, hk7⟩ := P6.out.turn ht7
           have P7 := Lib.hid h7
           clear ht7 h7 hfr7 hk7))
      go_roundw
      case rel => exact ⟨k + 1, by omega, by go_num, F7, a3, c3, by rw [HPS.out]; exact P7.out⟩
      case measure => simp [intOf]; omega
    · have hki : ¬ (k : Int) < (xs.length : Int) := by omega
      obtain ⟨m, hm⟩ : ∃ m, (Nt.delO l pick).getD Nt.E0 = m := ⟨_, rfl⟩
      obtain ⟨bo, hbo⟩ : ∃ bo, (Nt.delO l pick).isSome = bo := ⟨_, rfl⟩
      have HMO := Lib.hid (show Nt.Ok m from by rw [← hm]; exact Nt.delO_ok PL.out.ok)
      have KR' := Nt.rdel_any most a c l pick hp wr PL.out.ls hll
      rw [hm, hbo] at KR'
      have KR := Lib.hid KR'
      have HOV := Lib.hid (show Nt.optV (Nt.delO l pick) = .tuple #[.agg (Nt.cells m).toArray, .bool bo] from by rw [Nt.optV_eq, hm, hbo]; rfl)
      have hbb : (bo == bo) = true := by cases bo <;> rfl
      unfold Nt.EV at KR
      clear KR' hm hbo
      go_wp2_with (first
        | ((with_reducible show wpList _ _ _ (Oper.mk (some 45) _ _ _ _ _ :: _) _ _); refine wpList_load_row rfl 76 (.tmp 7) rfl wb rfl 76 _ (0, 0) _ PL.out.want Try.underlying76 rfl (by kernel_rfl) ?_)
        | (go_at_call 39; (with_reducible refine KR.out.mono ?_); rintro e' W3 ⟨a3, c3, rfl, hb3, ho3⟩
           have P3 := Lib.hid (PL.out.kp hb3)
           have O3 := Lib.hid (PL.out.told hb3 ho3)
           clear hb3 ho3)
        | ((with_reducible show wpList _ _ _ (Oper.mk none (Op.store 76 _ _) _ _ _ _ :: _) _ _); refine wpList_store_own rfl 76 (.tmp 9) (.tmp 48) rfl W3.heap.size #[.int .i64 (most : Int), .slice a3 (Nt.delL l pick).length c3] rfl rfl 76 #[.int .i64 0, .slice none 0 0] ((Below.heap_alloc _ _ _ (by simp)).trans (heap_alloc_new W3 _)) (by kernel_rfl) rfl (by kernel_rfl) ?_
           intro W4 HW4
           have S4 := Lib.hid HW4
           clear HW4)
        | ((with_reducible show wpList _ _ _ (Oper.mk none (Op.store 57 _ _) _ _ _ _ :: _) _ _); refine wpList_store_own rfl 57 (.tmp 10) (.tmp 49) rfl (W3.heap.size + 1) (Nt.cells m).toArray rfl rfl 57 #[.int .i64 0, .int .i64 0, .int .i64 0, .int .u32 0, .int .u8 0, .int .u8 0, .int .u8 0, .int .u8 0, .int .u8 0, .int .u8 0, .int .u8 0, .int .u8 0, .int .u8 0, .int .u8 0, .int .u8 0, .int .u8 0, .int .u8 0, .int .u8 0, .int .u8 0, .int .u8 0] ((S4.out.block _ (by omega)).trans (Nt.two_new W3 _ _)) (by rw [HMO.out.size]; exact Nt.size_msg) (by rw [HMO.out.size]; rfl) (Nt.cells_all m) ?_
           intro W5 HW5
           have N5 := Lib.hid (show Below W3.heap.size W3 W5 from ((((Below.refl W3.heap.size W3).alloc (Nat.le_refl _) _).alloc (by simp) _).trans S4.out.below).trans (HW5.below.mono (by omega)))
           have R5 := Lib.hid ((HW5.block W3.heap.size (by omega)).trans S4.out.row)
           have M5 := Lib.hid HW5.row
           clear HW5
           refine Nt.Stop.out ?_))
      refine ⟨?_⟩
      obtain ⟨nb, hnb⟩ : ∃ nb, nb = W3.heap.size := ⟨_, rfl⟩
      obtain ⟨mb, hmb⟩ : ∃ mb, mb = W3.heap.size + 1 := ⟨_, rfl⟩
      rw [← hmb] at M5 ⊢
      rw [← hnb] at R5 ⊢
      have P5 := Lib.hid (P3.out.kp N5.out)
      have O5 := Lib.hid (O3.out.kp N5.out)
      have HMF := Lib.hid (show ¬ F mb from fun h => by have := P3.out.net.lt _ h; omega)
      have HNF := Lib.hid (show ¬ F nb from fun h => by have := P3.out.net.lt _ h; omega)
      have KC' := Nt.deliver_any pick hp W5 P5.out.net
      rw [HOV.out] at KC'
      have KC := Lib.hid KC'
      clear hnb hmb N5 S4 KC'
      go_wp2_with (first
        | (go_at_call 30; (with_reducible refine KC.out.mono ?_); rintro e' W7 ⟨rfl, ht7⟩
           obtain ⟨F7, h7, hfr7, hk7⟩ := (Nt.St.turn ⟨P5.out.net, P5.out.bel, P5.out.lo⟩ ht7)
           have P7 := Lib.hid h7
           have M7 := Lib.hid ((hfr7.block _ (Array.getElem?_eq_some_iff.1 M5.out).1 HMF.out).trans M5.out)
           have R7 := Lib.hid ((hfr7.block _ (Array.getElem?_eq_some_iff.1 R5.out).1 HNF.out).trans R5.out)
           have O7 := Lib.hid ((O5.out.kept (fun j hj hjl => hfr7.block j hjl hj.2)).mono (G := fun _ => True) (fun _ _ => trivial))
           clear ht7 h7 hfr7 hk7)
        | ((with_reducible show wpList _ _ _ (Oper.mk none (Op.store 57 _ _) _ _ _ _ :: _) _ _); refine wpList_store_own rfl 57 (.tmp 12) (.tmp 55) rfl W7.heap.size (Nt.cells m).toArray rfl rfl 57 #[.int .i64 0, .int .i64 0, .int .i64 0, .int .u32 0, .int .u8 0, .int .u8 0, .int .u8 0, .int .u8 0, .int .u8 0, .int .u8 0, .int .u8 0, .int .u8 0, .int .u8 0, .int .u8 0, .int .u8 0, .int .u8 0, .int .u8 0, .int .u8 0, .int .u8 0, .int .u8 0] (heap_alloc_new W7 _) (by rw [HMO.out.size]; exact Nt.size_msg) (by rw [HMO.out.size]; rfl) (Nt.cells_all m) ?_
           intro W8 HW8
           have N8 := Lib.hid (show Below W7.heap.size W7 W8 from ((Below.refl W7.heap.size W7).alloc (Nat.le_refl _) _).trans HW8.below)
           have Y8 := Lib.hid HW8.row
           clear HW8
           refine Nt.Stop.out ?_))
      refine ⟨?_⟩
      obtain ⟨yb, hyb⟩ : ∃ yb, yb = W7.heap.size := ⟨_, rfl⟩
      rw [← hyb] at Y8 ⊢
      have P8 := Lib.hid (P7.out.kp N8.out)
      have M8 := Lib.hid ((N8.out.block _ (Array.getElem?_eq_some_iff.1 M7.out).1).trans M7.out)
      have R8 := Lib.hid ((N8.out.block _ (Array.getElem?_eq_some_iff.1 R7.out).1).trans R7.out)
      have O8 := Lib.hid (O7.out.kp N8.out)
      have KI := Lib.hid (Nt.is_any most a3 c3 (Nt.delL l pick) W8 (O8.out.ls (Nt.delL_ok PL.out.ok)) P8.out.net.len P8.out.net)
      clear hyb N8
      go_wp2_with (first
        | (go_at_call 25; (with_reducible refine (Nt.num_any _ _).mono ?_); rintro e' W9 ⟨rfl, hw9⟩; subst hw9)
        | ((with_reducible show wpList _ _ _ (Oper.mk (some 61) _ _ _ _ _ :: _) _ _); refine Ev.load_row_g 57 (.tmp 12) rfl rfl yb rfl 57 _ (0, 0) _ Y8.out Try.underlying57 rfl (by rw [HMO.out.size]; exact Nt.size_msg) ?_)
        | ((with_reducible show wpList _ _ _ (Oper.mk (some 62) _ _ _ _ _ :: _) _ _); refine Ev.load_row_g 57 (.tmp 10) rfl rfl mb rfl 57 _ (0, 0) _ M8.out Try.underlying57 rfl (by rw [HMO.out.size]; exact Nt.size_msg) ?_)
        | ((with_reducible show wpList _ _ _ (Oper.mk (some 63) _ _ _ _ _ :: _) _ _); refine Nt.wpList_val_g rfl (Nt.eql_op (a := m) (b := m) (.tmp 61) (.tmp 62) rfl HMO.out HMO.out rfl rfl true (Nt.eqM_self HMO.out) _) ?_)
        | ((with_reducible show wpList _ _ _ (Oper.mk (some 72) _ _ _ _ _ :: _) _ _); refine Ev.load_row_g 76 (.tmp 9) rfl rfl nb rfl 76 _ (0, 0) _ R8.out Try.underlying76 rfl (by kernel_rfl) ?_)
        | (go_at_call 38; (with_reducible refine KI.out.mono ?_); rintro e' W10 ⟨rfl, hb⟩; have B10 := Lib.hid (P8.out.bel.trans (hb.mono P8.out.bel.size)); clear hb)
        | (go_at_call 28; (with_reducible refine (Nt.works_any _).mono ?_); rintro e' W9 ⟨rfl, hb⟩; have B11 := Lib.hid (B10.out.trans (hb.mono B10.out.size)); clear hb))
      go_ret
      exact ⟨rfl, B11.out⟩
/-! THE WALK: the Go text returns true; of memory nothing that stood there has turned. -/
set_option maxRecDepth 100000 in
set_option maxHeartbeats 400000 in
theorem walk (w : World) (a0 : Option Addr) (n0 c0 : Nat) (x0 : List Nt.E) (l0 : x0.length = n0) (b0 : Nt.LsIn w a0 c0 x0) (a1 : Int) (w1 : (Lit.int .i64 a1).wf = true) :
    Calls Try.prog 9 #[.slice a0 n0 c0, .int .i64 a1] w fun e w' => e = .returned (.bool true) ∧ Below w.heap.size w w' := by
  by_cases hg : (100 : Int) < (n0 : Int)
  · exact walk_many w a0 n0 c0 a1 hg
  · subst l0
    exact walk_few w a0 c0 x0 b0 (by omega) a1 (i64_of_wf w1)

/-! THE ROW -/
set_option maxRecDepth 100000 in
theorem lifted (os : Os) (started : os.Started) (H : Type) (enc : TypeId × Value → H) :
    ReturnsInHanded {} Try.checked os 9 .any (Rows.netDeliversSpec.pre6 enc Try.prog Try.f9 Rows.netDeliversRow.domain false) (Rows.netDeliversSpec.post enc Try.prog Try.f9 false true false false) := by
  refine returnsInHanded_of_change (C := Try.checked) own started (by kernel_rfl) Try.func9
    (ChangeSpec.witness6 (enc := enc) (C := Try.checked) false ⟨#[], #[.slice none 0 0, .int .i64 0], []⟩ 8 (by kernel_rfl) (by kernel_rfl) (by kernel_rfl) (by kernel_rfl)) ?_
  intro W base args ds gs before hval0 hW hcnd _
  have hval : ∀ (j : Nat) t v, Try.f9.params[j]? = some t → args[j]? = some v → Value.okWide Try.prog W .any base t v := hval0
  have hW' := hW
  obtain ⟨p, q, hA0, hV, rfl, hfz, hnd⟩ := hW
  have hA : DataW.TrodAll enc Try.prog W 0 (fun _ => true) true Try.f9.params.toList args.toList ds p := hA0
  rw [Try.params9] at hA hval
  obtain ⟨v0, vs0, d0, ds0, p0, q0, hargs, rfl, rfl, h0, r0⟩ := trodAll_cons hA
  obtain ⟨v1, vs1, d1, ds1, p1, q1, rfl, rfl, rfl, h1, r1⟩ := trodAll_cons r0
  obtain ⟨rfl, rfl, rfl⟩ := trodAll_nil r1
  obtain rfl : args = #[v0, v1] := by cases args; simp_all
  obtain ⟨rfl, rfl⟩ := trodVars_none hV
  clear hA0 hval0
  simp only [List.append_nil] at hW'
  have hlt : ∀ x ∈ p0 ++ (p1), x.block < W.heap.size := fun x hx => by simpa using hW'.lt x (by simpa using hx)
  obtain ⟨a0, n0, c0, rfl⟩ := okWide_slice Try.underlying68 (hval 0 68 v0 rfl rfl)
  obtain ⟨x0, l0, b0⟩ := open_msgs h0
  have h1k := h1
  obtain ⟨a1, rfl, rfl, rfl, w1⟩ := open_int Try.underlying3 (hval 1 3 v1 rfl rfl) h1
  refine (walk W a0 n0 c0 x0 l0 b0 a1 w1).mono fun e W' ⟨he, hb⟩ => ?_
  subst he
  have harg0 : DataW.Trod enc Try.prog W' 0 (fun b => decide (b < W.heap.size)) true 68 _ _ _ := Below.trod laidOut (by kernel_rfl) (of_decide_eq_true (by kernel_rfl)) h0 hb (fun x hx => hlt x (by simp [hx]))
  have harg1 : DataW.Trod enc Try.prog W' 0 (fun b => decide (b < W.heap.size)) true 3 _ _ _ := Below.trod laidOut (by kernel_rfl) (of_decide_eq_true (by kernel_rfl)) h1k hb (fun x hx => by cases hx)
  exact ⟨_, rfl, _, _, _, [], _, [], hW', trodAll_mk1 (shut_bool Try.underlying4 _), (trodAll_cons_mk harg0 (trodAll_cons_mk harg1 trodAll_mk0)), rfl, hb.frame _, fun h => by cases h⟩

theorem over : Rows.netDeliversRow.holds Try.pinned (OpenSpec.ofChange Rows.netDeliversSpec) :=
  OpenClaim.holds_of_wide 9 Try.f9 rfl rfl rfl rfl rfl rfl rfl ⟨rfl, rfl, rfl, rfl, rfl⟩ rfl rfl rfl rfl rfl (by kernel_rfl) Try.func9 (by kernel_rfl)
    (of_decide_eq_true (by kernel_rfl)) (by unfold Func.isWrapper; first | (rw [if_pos (by decide +kernel)]; kernel_rfl) | (rw [if_neg (by decide +kernel)]; exact ⟨rfl, rfl⟩))
    (fun os started H enc _ => lifted os started H enc)

/-- THE STATEMENT -/
theorem proved : Rows.NetDeliversSaid :=
  over
end Go.Proofs.Ytnfpcklpmfemiaa.netDelivers
