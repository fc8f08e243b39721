/-
  NetAll: for every input the statement's function returns true, with no condition; each argument reads behind the call as before. By contracts of the program's and the document's functions.
-/
import Derived.Test.YtnfpcklpmfemiaaNtCuts
namespace Go.Proofs.Ytnfpcklpmfemiaa.netAll
open Go.ChangeShapes Go.WideShapes Go.ChangeAt Go.RowKit
set_option linter.unusedVariables false
set_option linter.unusedSimpArgs false

theorem deliver_as (pick : Int) (hp : Ev.i64B pick) (w : World) {F p most l} (h : Nt.Net w F p most l) {v : Value} {l' : List Nt.E} (hv : Nt.optV (Nt.delO l pick) = v) (hl : Nt.delL l pick = l') :
    Calls Try.prog 30 #[.pointer (some ⟨p, 0, none⟩), .int .i64 pick] w fun r w' => r = .returned v ∧ Nt.Turns F w w' p most l' := by
  rw [← hv, ← hl]
  exact Nt.deliver_any pick hp w h
set_option maxRecDepth 100000 in
set_option maxHeartbeats 8000000 in
theorem walk_many (w : World) (a0 : Option Addr) (n0 c0 : Nat) (a1 : Option Addr) (n1 c1 : Nat) (hn : (100 : Int) < (n0 : Int)) :
    Calls Try.prog 10 #[.slice a0 n0 c0, .slice a1 n1 c1] w fun e w' => e = .returned (.bool true) ∧ Below w.heap.size w w' := by
  go_enter Try.func10, Try.ntmps10
  go_wp2_with (go_at_call 28; (with_reducible refine (Nt.works_any _).mono ?_); rintro e W9 ⟨rfl, hb⟩; have B9 := Lib.hid hb; clear hb)
  go_ret
  exact ⟨rfl, B9.out⟩
set_option maxRecDepth 100000 in
set_option maxHeartbeats 16000000 in
theorem walk_few (w : World) (a0 : Option Addr) (c0 : Nat) (xs : List Nt.Act) (b0 : Nt.AsIn w a0 c0 xs) (hx : xs.length ≤ 100) (a1 : Option Addr) (c1 : Nat) (ps : List Int) (b1 : Nt.PsIn w a1 c1 ps) :
    Calls Try.prog 10 #[.slice a0 xs.length c0, .slice a1 ps.length c1] w fun e w' => e = .returned (.bool true) ∧ Below w.heap.size w w' := by
  have NW := Lib.hid (Nt.new_yes 1024 (by decide) (by decide) w)
  have h3 : ¬ (100 : Int) < (xs.length : Int) := by omega
  have HIN := Lib.hid b0; have HPS := Lib.hid b1
  clear b0 b1
  go_enter Try.func10, Try.ntmps10
  go_wp2_with (first
    | (go_at_call 29; (refine NW.out.mono ?_); rintro e W1 ⟨p, rfl, hb1, F, hca, hf⟩
       have A1 := Lib.hid (show Nt.Al w W1 F (fun _ => False) (fun _ => False) p [] none 0 [] none 0 [] from ⟨hca, hb1, Nt.Own.nil _ _, Nt.Own.nil _ _, (fun k hk => by
         rcases hk with h | h | h
         · exact hf k h
         · exact h.elim
         · exact h.elim), (fun k hk => by rcases hk with h | h <;> exact h.elim), fun _ _ h => h, fun _ _ h => h, fun _ h => h.elim, (fun e he => by cases he), (fun e he => by cases he)⟩)
       clear hb1 hca hf))
  go_loopw [7, 8, 9, 10, 11] (fun v u i _ _ wr => ∃ k : Nat, k ≤ xs.length ∧ i = .int .i64 (k : Int) ∧ ∃ F G H cur a7 c7 S a8 c8 C, v = .slice a7 S.length c7 ∧ u = .slice a8 C.length c8 ∧ Nt.Al w wr F G H p cur a7 c7 S a8 c8 C ∧ S.Perm (C ++ cur) ∧ S.length ≤ k) (fun _ _ i _ _ _ => xs.length - (intOf i).toNat)
  case atStart => exact ⟨0, Nat.zero_le _, rfl, F, _, _, [], none, 0, [], none, 0, [], rfl, rfl, A1.out, List.Perm.refl _, Nat.le_refl _⟩
  case round =>
    obtain ⟨k, hk, rfl, F, G, H, cur, a7, c7, S, a8, c8, C, rfl, rfl, hal, hpm, hsl⟩ := hrel
    have AL := Lib.hid hal; have PM := Lib.hid hpm
    have hll := hpm.length_eq
    rw [List.length_append] at hll
    have hlc : cur.length ≤ S.length := by omega
    have hlC : C.length ≤ S.length := by omega
    clear hal hpm hll
    by_cases hlt : k < xs.length
    · obtain ⟨x, hxe⟩ : ∃ x, xs[k]? = some x := ⟨_, List.getElem?_eq_getElem hlt⟩
      have HAO := Lib.hid (HIN.out.ok x (List.mem_of_getElem? hxe))
      obtain ⟨ga, o, ea, hc⟩ := HIN.out.at_ hxe
      have HC := Lib.hid hc
      have HCM := Lib.hid (show ∀ i c, (Nt.cells x.e)[i]? = some c → w.cell? ⟨ga, o + k * 22 + 1 + i, none⟩ = some c from fun i c hi => by rw [Nat.add_assoc]; exact hc (1 + i) c (Nt.acellm hi))
      have hki : (k : Int) < (xs.length : Int) := by omega
      have x0 : wr.cell? ⟨ga, o + k * 22, none⟩ = some (.int .i64 x.k) := Ev.kp_below AL.out.bel _ _ (hc 0 _ (Nt.acell0 x))
      have x21 : wr.cell? ⟨ga, o + k * 22 + 21, none⟩ = some (.int .i64 x.p) := Ev.kp_below AL.out.bel _ _ (hc 21 _ (Nt.acell21 HAO.out.e))
      clear hxe hc
      rw [ea]
      by_cases hk0 : x.k = 0
      · have hkb : (x.k == 0) = true := by simpa using hk0
        rw [hk0] at x0
        by_cases hmay : Nt.may x.e = true
        · have hne : cur.length ≠ 1024 := by omega
          have KS' := Nt.send_any x.e HAO.out.e wr AL.out.net
          rw [show Nt.sendE 1024 cur x.e = 0 from by unfold Nt.sendE; rw [if_pos hmay, if_neg hne], show Nt.sendL 1024 cur x.e = cur ++ [x.e] from by unfold Nt.sendL; rw [if_pos hmay, if_neg hne]] at KS'
          have KS := Lib.hid KS'
          clear KS' hmay hne
          go_wp2_with (first
            | ((with_reducible show wpList _ _ _ (Oper.mk (some 45) _ _ _ _ _ :: _) _ _); refine wpList_load_at rfl 57 (.tmp 44) rfl ga (o + k * 22 + 1) rfl (Nt.cells x.e) _ (fun i c hi => Ev.kp_below AL.out.bel _ _ (HCM.out i c hi)) Try.underlying57 rfl (by rw [HAO.out.e.len]; exact Nt.size_msg) ?_)
            | (go_at_call 31; (with_reducible refine KS.out.mono ?_); rintro e' W3 ⟨rfl, ht3⟩
               obtain ⟨F3, h3', _⟩ := AL.out.turn ht3
               have A3 := Lib.hid h3'
               clear ht3 h3')
            | (go_at_call 25; (with_reducible refine (Nt.num_any _ _).mono ?_); rintro e' W8 ⟨rfl, hw8⟩; subst hw8)
            | ((with_reducible show wpList _ _ _ (Oper.mk (some 54) _ _ _ _ _ :: _) _ _); refine wpList_load_at rfl 57 (.tmp 53) rfl ga (o + k * 22 + 1) rfl (Nt.cells x.e) _ (fun i c hi => Ev.kp_below A3.out.bel _ _ (HCM.out i c hi)) Try.underlying57 rfl (by rw [HAO.out.e.len]; exact Nt.size_msg) ?_; refine Nt.Stop.out ?_))
          refine ⟨?_⟩
          obtain ⟨W4, a', c', W5, hW4, hr, hb4, ho, hf, hok⟩ := Nt.add_one A3.out.s A3.out.sok HAO.out.e (by omega)
          obtain ⟨G', h5⟩ := A3.out.addS hb4 ho hf hok
          have A5 := Lib.hid h5; have HR := Lib.hid hr; have HW4 := Lib.hid hW4
          clear h5 hr hW4 hb4 ho hf hok x0 x21
          go_wp2_with (first
            | ((with_reducible show wpList _ _ _ (Oper.mk (some 55) _ _ _ _ _ :: _) _ _); refine Nt.wpList_buildMsg rfl x.e HAO.out.e (.tmp 54) rfl rfl ?_; rw [← HW4.out])
            | ((with_reducible show wpList _ _ _ (Oper.mk (some 56) _ _ _ _ _ :: _) _ _); refine Nt.wpList_append rfl (.tmp 49) (.tmp 55) 68 rfl rfl rfl HR.out ?_))
          go_roundw
          case rel => exact ⟨k + 1, by omega, by go_num, F3, G', H, cur ++ [x.e], a', c', S ++ [x.e], a8, c8, C, by simp, rfl, A5.out, by rw [← List.append_assoc]; exact PM.out.append_right [x.e], by rw [List.length_append, List.length_singleton]; omega⟩
          case measure => simp [intOf]; omega
        · have KS' := Nt.send_any x.e HAO.out.e wr AL.out.net
          rw [show Nt.sendE 1024 cur x.e = 2 from by unfold Nt.sendE; rw [if_neg hmay], show Nt.sendL 1024 cur x.e = cur from by unfold Nt.sendL; rw [if_neg hmay]] at KS'
          have KS := Lib.hid KS'
          clear KS' hmay
          go_wp2_with (first
            | ((with_reducible show wpList _ _ _ (Oper.mk (some 45) _ _ _ _ _ :: _) _ _); refine wpList_load_at rfl 57 (.tmp 44) rfl ga (o + k * 22 + 1) rfl (Nt.cells x.e) _ (fun i c hi => Ev.kp_below AL.out.bel _ _ (HCM.out i c hi)) Try.underlying57 rfl (by rw [HAO.out.e.len]; exact Nt.size_msg) ?_)
            | (go_at_call 31; (with_reducible refine KS.out.mono ?_); rintro e' W3 ⟨rfl, ht3⟩
               obtain ⟨F3, h3', _⟩ := AL.out.turn ht3
               have A3 := Lib.hid h3'
               clear ht3 h3')
            | (go_at_call 25; (with_reducible refine (Nt.num_any _ _).mono ?_); rintro e' W8 ⟨rfl, hw8⟩; subst hw8))
          go_roundw
          case rel => exact ⟨k + 1, by omega, by go_num, F3, G, H, cur, a7, c7, S, a8, c8, C, rfl, rfl, A3.out, PM.out, by omega⟩
          case measure => simp [intOf]; omega
      · have hkb : (x.k == 0) = false := by simpa using hk0
        by_cases hcn : cur = []
        · obtain ⟨m, hm⟩ : ∃ m, m = Nt.E0 := ⟨_, rfl⟩
          have HMO := Lib.hid (show Nt.Ok m from by rw [hm]; exact Nt.E0_ok)
          have HOV := Lib.hid (show Nt.optV (Nt.delO cur x.p) = .tuple #[.agg (Nt.cells m).toArray, .bool false] from by rw [hcn, hm]; rfl)
          have HDL := Lib.hid (show Nt.delL cur x.p = cur from by rw [hcn]; rfl)
          clear hm hcn
          go_wp2_with (first
            | (go_at_call 30; (with_reducible refine (deliver_as x.p HAO.out.p wr AL.out.net HOV.out HDL.out).mono ?_); rintro e' W3 ⟨rfl, ht3⟩
               obtain ⟨F3, h3', _⟩ := AL.out.turn ht3
               have A3 := Lib.hid h3'
               clear ht3 h3')
            | ((with_reducible show wpList _ _ _ (Oper.mk none (Op.store 57 _ _) _ _ _ _ :: _) _ _); refine wpList_store_own rfl 57 (.tmp 10) (.tmp 65) rfl W3.heap.size (Nt.cells m).toArray rfl rfl 57 #[.int .i64 0, .int .i64 0, .int .i64 0, .int .u32 0, .int .u8 0, .int .u8 0, .int .u8 0, .int .u8 0, .int .u8 0, .int .u8 0, .int .u8 0, .int .u8 0, .int .u8 0, .int .u8 0, .int .u8 0, .int .u8 0, .int .u8 0, .int .u8 0, .int .u8 0, .int .u8 0] (heap_alloc_new W3 _) (by rw [HMO.out.size]; exact Nt.size_msg) (by rw [HMO.out.size]; rfl) (Nt.cells_all m) ?_
               intro W5 HW5
               have A5 := Lib.hid (A3.out.kp (((Below.refl W3.heap.size W3).alloc (Nat.le_refl _) _).trans HW5.below))
               clear HW5))
          go_roundw
          case rel => exact ⟨k + 1, by omega, by go_num, F3, G, H, cur, a7, c7, S, a8, c8, C, rfl, rfl, A5.out, PM.out, by omega⟩
          case measure => simp [intOf]; omega
        · obtain ⟨kd, m, hkd, hmk, hdo, hdl, hdn, hdp⟩ := Nt.del_some hcn x.p
          have HMO := Lib.hid (AL.out.net.ok m (List.mem_of_getElem? hmk))
          have HOV := Lib.hid (show Nt.optV (Nt.delO cur x.p) = .tuple #[.agg (Nt.cells m).toArray, .bool true] from by rw [hdo]; rfl)
          have HDP := Lib.hid hdp
          clear hdo hdl hmk hdp hcn hkd
          go_wp2_with (first
            | (go_at_call 30; (with_reducible refine (deliver_as x.p HAO.out.p wr AL.out.net HOV.out rfl).mono ?_); rintro e' W3 ⟨rfl, ht3⟩
               obtain ⟨F3, h3', _⟩ := AL.out.turn ht3
               have A3 := Lib.hid h3'
               clear ht3 h3')
            | ((with_reducible show wpList _ _ _ (Oper.mk none (Op.store 57 _ _) _ _ _ _ :: _) _ _); refine wpList_store_own rfl 57 (.tmp 10) (.tmp 65) rfl W3.heap.size (Nt.cells m).toArray rfl rfl 57 #[.int .i64 0, .int .i64 0, .int .i64 0, .int .u32 0, .int .u8 0, .int .u8 0, .int .u8 0, .int .u8 0, .int .u8 0, .int .u8 0, .int .u8 0, .int .u8 0, .int .u8 0, .int .u8 0, .int .u8 0, .int .u8 0, .int .u8 0, .int .u8 0, .int .u8 0, .int .u8 0] (heap_alloc_new W3 _) (by rw [HMO.out.size]; exact Nt.size_msg) (by rw [HMO.out.size]; rfl) (Nt.cells_all m) ?_
               intro W5 HW5
               have A5 := Lib.hid (A3.out.kp (((Below.refl W3.heap.size W3).alloc (Nat.le_refl _) _).trans HW5.below))
               have R5 := Lib.hid HW5.row
               clear HW5)
            | ((with_reducible show wpList _ _ _ (Oper.mk (some 69) _ _ _ _ _ :: _) _ _); refine wpList_load_row rfl 57 (.tmp 10) rfl W3.heap.size rfl 57 _ (0, 0) _ R5.out Try.underlying57 rfl (by rw [HMO.out.size]; exact Nt.size_msg) ?_; refine Nt.Stop.out ?_))
          refine ⟨?_⟩
          obtain ⟨W6, a', c', W7, hW6, hr, hb6, ho, hf, hok⟩ := Nt.add_one A5.out.c A5.out.cok HMO.out (by omega)
          obtain ⟨H', h7⟩ := A5.out.addC hb6 ho hf hok
          have A7 := Lib.hid h7; have HR := Lib.hid hr; have HW6 := Lib.hid hW6
          clear h7 hr hW6 hb6 ho hf hok x0 x21
          go_wp2_with (first
            | ((with_reducible show wpList _ _ _ (Oper.mk (some 70) _ _ _ _ _ :: _) _ _); refine Nt.wpList_buildMsg rfl m HMO.out (.tmp 69) rfl rfl ?_; rw [← HW6.out])
            | ((with_reducible show wpList _ _ _ (Oper.mk (some 71) _ _ _ _ _ :: _) _ _); refine Nt.wpList_append rfl (.tmp 68) (.tmp 70) 68 rfl rfl rfl HR.out ?_))
          go_roundw
          case rel => exact ⟨k + 1, by omega, by go_num, F3, G, H', Nt.delL cur x.p, a7, c7, S, a', c', C ++ [m], rfl, by simp, A7.out, by rw [List.append_assoc]; exact PM.out.trans (HDP.out.symm.append_left C), by omega⟩
          case measure => simp [intOf]; omega
    · have hki : ¬ (k : Int) < (xs.length : Int) := by omega
      have hcl0 : cur.length ≤ xs.length := by omega
      go_wp2_with fail
      have hsl2 : S.length ≤ 100 := by omega
      go_loopw [8, 12, 13, 14, 15, 16, 17, 18] (fun u i _ _ _ _ _ _ wr => ∃ j : Nat, j ≤ xs.length + 1 ∧ i = .int .i64 (j : Int) ∧ ∃ F H cur a8 c8 C, u = .slice a8 C.length c8 ∧ Nt.Al w wr F G H p cur a7 c7 S a8 c8 C ∧ S.Perm (C ++ cur) ∧ cur.length ≤ xs.length - j) (fun _ i _ _ _ _ _ _ _ => xs.length + 1 - (intOf i).toNat)
      case atStart => exact ⟨0, Nat.zero_le _, rfl, F, H, cur, a8, c8, C, rfl, AL.out, PM.out, by omega⟩
      case round =>
        clear AL PM hlc hlC hcl0
        obtain ⟨j, hj, rfl, F, H, cur, a8, c8, C, rfl, hal, hpm, hcl⟩ := hrel
        have BL := Lib.hid hal; have PM := Lib.hid hpm
        have hll := hpm.length_eq
        rw [List.length_append] at hll
        have hlc : cur.length ≤ 100 := by omega
        have hlC : C.length ≤ 100 := by omega
        have HLT := Lib.hid hal.net.lt
        by_cases hjx : j ≤ xs.length
        · clear hal hpm hll
          have hji : (j : Int) ≤ (xs.length : Int) := by omega
          go_upto_if 82 with fail
          go_cut [13] from 72 to 154 (fun v wx => (∃ pk, v = .int .i64 pk ∧ Ev.i64B pk) ∧ Below wr.heap.size wr wx)
          case first =>
            by_cases hpj : j < ps.length
            · obtain ⟨pk, hpk⟩ : ∃ pk, ps[j]? = some pk := ⟨_, List.getElem?_eq_getElem hpj⟩
              have hpb : Ev.i64B pk := HPS.out.ok pk (List.mem_of_getElem? hpk)
              obtain ⟨gb, ob, eb, hcb⟩ := HPS.out.at_ hpk
              have xb := Ev.kp_below BL.out.bel _ _ hcb
              have hpi : (j : Int) < (ps.length : Int) := by omega
              clear hpk hcb
              rw [eb]
              go_wp2_with fail
              rw [← eb]
              go_meet
              exact ⟨⟨pk, rfl, hpb⟩, Below.refl _ _⟩
            · have hpi : ¬ (j : Int) < (ps.length : Int) := by omega
              go_wp2_with fail
              go_meet
              exact ⟨⟨(j : Int), rfl, by unfold Ev.i64B; have := HPS.out.max; have := HIN.out.max; have := HIN.out.le; omega⟩, Below.refl _ _⟩
          case rest =>
            obtain ⟨⟨pk, rfl, hpb⟩, hbc⟩ := hcut
            have BL := Lib.hid (BL.out.kp hbc)
            have HLT := Lib.hid BL.out.net.lt
            clear hbc
            by_cases hcn : cur = []
            · obtain ⟨now, hnow⟩ : ∃ now, Nt.delL cur pk = now := ⟨_, rfl⟩
              obtain ⟨m, hm⟩ : ∃ m, m = Nt.E0 := ⟨_, rfl⟩
              have HMO := Lib.hid (show Nt.Ok m from by rw [hm]; exact Nt.E0_ok)
              have HOV := Lib.hid (show Nt.optV (Nt.delO cur pk) = .tuple #[.agg (Nt.cells m).toArray, .bool false] from by rw [hcn, hm]; rfl)
              have HNC := Lib.hid (show now = cur from by rw [← hnow, hcn]; rfl)
              have HNOW := Lib.hid hnow
              have hc0 : (cur.length : Int) = 0 := by rw [hcn]; rfl
              have hn0 : (now.length : Int) = 0 := by rw [HNC.out, hcn]; rfl
              clear hm hcn hnow
              go_wp2_with (first
                | (go_at_call 33; (with_reducible refine (Nt.ready_any _ BL.out.net).mono ?_); rintro e' W3 ht
                   obtain ⟨aw, cw, rfl, ho3, hok3, hb3⟩ := ht
                   have B3 := Lib.hid (BL.out.kp hb3); have OW3 := Lib.hid ho3
                   clear ho3 hok3 hb3)
                | (go_at_call 30; (with_reducible refine (deliver_as pk hpb W3 B3.out.net HOV.out HNOW.out).mono ?_); rintro e' W4 ⟨rfl, ht4⟩
                   obtain ⟨F4, h4, hfr4⟩ := B3.out.turn ht4
                   have B4 := Lib.hid h4
                   have OW4 := Lib.hid (OW3.out.kept (fun j hj hjl => hfr4.block j hjl (fun hF => absurd (Nat.lt_of_lt_of_le (HLT.out j hF) hj) (Nat.lt_irrefl _))))
                   clear ht4 h4 hfr4)
                | ((with_reducible show wpList _ _ _ (Oper.mk none (Op.store 57 _ _) _ _ _ _ :: _) _ _); refine wpList_store_own rfl 57 (.tmp 15) (.tmp 93) rfl W4.heap.size (Nt.cells m).toArray rfl rfl 57 #[.int .i64 0, .int .i64 0, .int .i64 0, .int .u32 0, .int .u8 0, .int .u8 0, .int .u8 0, .int .u8 0, .int .u8 0, .int .u8 0, .int .u8 0, .int .u8 0, .int .u8 0, .int .u8 0, .int .u8 0, .int .u8 0, .int .u8 0, .int .u8 0, .int .u8 0, .int .u8 0] (heap_alloc_new W4 _) (by rw [HMO.out.size]; exact Nt.size_msg) (by rw [HMO.out.size]; rfl) (Nt.cells_all m) ?_
                   intro W5 HW5
                   have N5 := Lib.hid (show Below W4.heap.size W4 W5 from ((Below.refl W4.heap.size W4).alloc (Nat.le_refl _) _).trans HW5.below)
                   have R5 := Lib.hid HW5.row
                   have B5 := Lib.hid (B4.out.kp N5.out); have OW5 := Lib.hid (OW4.out.kp N5.out)
                   clear HW5)
                | (go_at_call 33; (with_reducible refine (Nt.ready_any _ B5.out.net).mono ?_); rintro e' W6 ht
                   obtain ⟨an, cn, rfl, ho6, hok6, hb6⟩ := ht
                   have B6 := Lib.hid (B5.out.kp hb6); have OW6 := Lib.hid (OW5.out.kp hb6); have ON6 := Lib.hid ho6
                   have R6 := Lib.hid ((hb6.block _ (Array.getElem?_eq_some_iff.1 R5.out).1).trans R5.out)
                   clear ho6 hok6 hb6))
              go_loopw [18] (fun v wx => v = .int .i64 0 ∧ Below W6.heap.size W6 wx) (fun _ _ => 0)
              case atStart => exact ⟨rfl, Below.refl _ _⟩
              case round =>
                obtain ⟨rfl, hbx⟩ := hrel
                have BX := Lib.hid hbx
                clear hbx
                go_wp2_with fail
                refine Og.regionB (by kernel_rfl) (by kernel_rfl) ?_
                repeat (first | go_big_quiet_skip | (go_big_quiet_want; go_big_quiet_op; go_big_quiet_on))
                refine wpQuiet_nil ?_
                intro _ hw'
                obtain ⟨q8, hw''⟩ := hw'
                subst hw''
                go_wp2_with fail
                refine Og.regionB (by kernel_rfl) (by kernel_rfl) ?_
                repeat (first | go_big_quiet_skip | (go_big_quiet_want; go_big_quiet_op; go_big_quiet_on))
                refine wpQuiet_nil ?_
                intro _ hw'
                obtain ⟨q9, hw''⟩ := hw'
                subst hw''
                go_wp2_with fail
                have B8 := Lib.hid ((B6.out.kp BX.out).kp (q8.b.trans (q9.b.mono q8.b.size)))
                go_roundw
                case rel => exact ⟨j + 1, by omega, by go_num, F4, H, now, a8, c8, C, rfl, B8.out, by rw [HNC.out]; exact PM.out, by rw [HNC.out]; omega⟩
                case measure => simp [intOf]; omega
            · obtain ⟨kd, m, hkd, hmk, hdo, hdl, hdn, hdp⟩ := Nt.del_some hcn pk
              obtain ⟨now, hnow⟩ : ∃ now, Nt.delL cur pk = now := ⟨_, rfl⟩
              rw [hnow] at hdl hdn hdp
              have HMO := Lib.hid (BL.out.net.ok m (List.mem_of_getElem? hmk))
              have HOV := Lib.hid (show Nt.optV (Nt.delO cur pk) = .tuple #[.agg (Nt.cells m).toArray, .bool true] from by rw [hdo]; rfl)
              have HDP := Lib.hid hdp; have HKD := Lib.hid hkd; have HMK := Lib.hid hmk; have HDN := Lib.hid hdl
              have HNOW := Lib.hid hnow
              have hpos : (0 : Int) < (cur.length : Int) := by omega
              have hsub : (cur.length : Int) - 1 = (now.length : Int) := by omega
              have HSUB := Lib.hid hsub
              have hnl : now.length ≤ 100 := by omega
              have hnj : now.length ≤ xs.length - (j + 1) := by omega
              clear hdo hdl hmk hdp hcn hkd hnow hdn
              go_wp2_with (first
                | (go_at_call 33; (with_reducible refine (Nt.ready_any _ BL.out.net).mono ?_); rintro e' W3 ht
                   obtain ⟨aw, cw, rfl, ho3, hok3, hb3⟩ := ht
                   have B3 := Lib.hid (BL.out.kp hb3); have OW3 := Lib.hid ho3
                   clear ho3 hok3 hb3)
                | (go_at_call 30; (with_reducible refine (deliver_as pk hpb W3 B3.out.net HOV.out HNOW.out).mono ?_); rintro e' W4 ⟨rfl, ht4⟩
                   obtain ⟨F4, h4, hfr4⟩ := B3.out.turn ht4
                   have B4 := Lib.hid h4
                   have OW4 := Lib.hid (OW3.out.kept (fun j hj hjl => hfr4.block j hjl (fun hF => absurd (Nat.lt_of_lt_of_le (HLT.out j hF) hj) (Nat.lt_irrefl _))))
                   clear ht4 h4 hfr4)
                | ((with_reducible show wpList _ _ _ (Oper.mk none (Op.store 57 _ _) _ _ _ _ :: _) _ _); refine wpList_store_own rfl 57 (.tmp 15) (.tmp 93) rfl W4.heap.size (Nt.cells m).toArray rfl rfl 57 #[.int .i64 0, .int .i64 0, .int .i64 0, .int .u32 0, .int .u8 0, .int .u8 0, .int .u8 0, .int .u8 0, .int .u8 0, .int .u8 0, .int .u8 0, .int .u8 0, .int .u8 0, .int .u8 0, .int .u8 0, .int .u8 0, .int .u8 0, .int .u8 0, .int .u8 0, .int .u8 0] (heap_alloc_new W4 _) (by rw [HMO.out.size]; exact Nt.size_msg) (by rw [HMO.out.size]; rfl) (Nt.cells_all m) ?_
                   intro W5 HW5
                   have N5 := Lib.hid (show Below W4.heap.size W4 W5 from ((Below.refl W4.heap.size W4).alloc (Nat.le_refl _) _).trans HW5.below)
                   have R5 := Lib.hid HW5.row
                   have B5 := Lib.hid (B4.out.kp N5.out); have OW5 := Lib.hid (OW4.out.kp N5.out)
                   clear HW5)
                | (go_at_call 33; (with_reducible refine (Nt.ready_any _ B5.out.net).mono ?_); rintro e' W6 ht
                   obtain ⟨an, cn, rfl, ho6, hok6, hb6⟩ := ht
                   have B6 := Lib.hid (B5.out.kp hb6); have OW6 := Lib.hid (OW5.out.kp hb6); have ON6 := Lib.hid ho6
                   have R6 := Lib.hid ((hb6.block _ (Array.getElem?_eq_some_iff.1 R5.out).1).trans R5.out)
                   clear ho6 hok6 hb6))
              go_loopw [18] (fun v wx => ∃ r : Nat, r ≤ now.length ∧ v = .int .i64 (r : Int) ∧ (∀ i, i < r → now[i]? = cur[i]?) ∧ Below W6.heap.size W6 wx) (fun v _ => now.length - (intOf v).toNat)
              case atStart => exact ⟨0, Nat.zero_le _, rfl, fun _ h => absurd h (Nat.not_lt_zero _), Below.refl _ _⟩
              case round =>
                obtain ⟨r, hr, rfl, heq, hbx⟩ := hrel
                have BX' := Lib.hid hbx
                clear hbx
                by_cases hrl : r < now.length
                · have hri : (r : Int) < (now.length : Int) := by omega
                  obtain ⟨x, hx⟩ : ∃ x, now[r]? = some x := ⟨_, List.getElem?_eq_getElem hrl⟩
                  obtain ⟨y, hy⟩ : ∃ y, cur[r]? = some y := ⟨_, List.getElem?_eq_getElem (by omega)⟩
                  have OX := Lib.hid (B6.out.net.ok x (List.mem_of_getElem? hx)); have OY := Lib.hid (BL.out.net.ok y (List.mem_of_getElem? hy))
                  obtain ⟨gn, on_, ean, hcn⟩ := ((ON6.out.ls B6.out.net.ok).kp (Ev.kp_below BX'.out)).at_ hx
                  obtain ⟨gw, ow, eaw, hcw⟩ := ((OW6.out.ls BL.out.net.ok).kp (Ev.kp_below BX'.out)).at_ hy
                  have HCN := Lib.hid hcn; have HCW := Lib.hid hcw
                  obtain ⟨v, hv⟩ : ∃ v, Nt.eqM x y = v := ⟨_, rfl⟩
                  have HV := Lib.hid hv; have HX' := Lib.hid hx; have HY' := Lib.hid hy; have HEQ := Lib.hid heq
                  have hrw : (r : Int) < (cur.length : Int) := by omega
                  rw [ean, eaw]
                  clear hcn hcw hv hx hy heq
                  go_wp2_with fail
                  refine Og.region3 (by kernel_rfl) (fun t => ([(113, 0), (114, 1), (115, 2), (116, 3), (117, 4), (118, 5), (119, 6), (120, 7), (121, 8), (122, 9), (123, 10), (124, 11), (125, 12), (126, 13), (127, 14)] : List (Nat × Nat)).lookup t) [.is (.int .i64 (r : Int)), .is (.slice (some ⟨gn, on_, none⟩) now.length cn), .is (.int .i64 (now.length : Int)), .is (.bool true), .is (.bool true), .is (.slice (some ⟨gn, on_, none⟩) now.length cn), .is (.int .i64 (r : Int)), .is (.pointer (some ⟨gn, on_ + r * 20, none⟩)), .is (.agg (Nt.cells x).toArray), .is (.slice (some ⟨gw, ow, none⟩) cur.length cw), .is (.int .i64 (r : Int)), .is (.pointer (some ⟨gw, ow + r * 20, none⟩)), .is (.agg (Nt.cells y).toArray), .is (.bool v), .is (.bool v)] [true, true, true, true, true, true, true, true, true, true, true, true, true, true, true] (by kernel_rfl) ?_ ?_
                  · refine ⟨?_, ?_, ?_, ?_, ?_, ?_, ?_, ?_, ?_, ?_, ?_, ?_, ?_, ?_, ?_, trivial⟩
                    · refine ⟨rfl, fun ρ w1 hr hd => ?_⟩
                      obtain ⟨d0, _⟩ := hd
                      have d0 : ρ (.tmp 18) = .int .i64 (r : Int) := d0
                      refine (if_pos (by rfl)).mpr ?_
                      refine Og.gives_is (.int .i64 (r : Int)) ?_ (And.intro (Below.refl _ _) rfl)
                      go_simp
                    · refine ⟨rfl, fun ρ w1 hr hd => ?_⟩
                      obtain ⟨d0, _⟩ := hd
                      have d0 : ρ (.tmp 17) = .slice (some ⟨gn, on_, none⟩) now.length cn := d0
                      refine (if_pos (by rfl)).mpr ?_
                      refine Og.gives_is (.slice (some ⟨gn, on_, none⟩) now.length cn) ?_ (And.intro (Below.refl _ _) rfl)
                      go_simp
                    · refine ⟨rfl, fun ρ w1 hr hd => ?_⟩
                      obtain ⟨d0, _⟩ := hd
                      have d0 : ρ (.tmp 114) = .slice (some ⟨gn, on_, none⟩) now.length cn := d0
                      refine (if_pos (by rfl)).mpr ?_
                      refine Og.gives_is (.int .i64 (now.length : Int)) ?_ (And.intro (Below.refl _ _) rfl)
                      go_simp
                    · refine ⟨rfl, fun ρ w1 hr hd => ?_⟩
                      obtain ⟨d0, d1, _⟩ := hd
                      have d0 : ρ (.tmp 113) = .int .i64 (r : Int) := d0
                      have d1 : ρ (.tmp 115) = .int .i64 (now.length : Int) := d1
                      refine (if_pos (by rfl)).mpr ?_
                      refine Og.gives_is (.bool true) ?_ (And.intro (Below.refl _ _) rfl)
                      go_simp
                    · refine ⟨rfl, fun ρ w1 hr hd => ?_⟩
                      obtain ⟨d0, _⟩ := hd
                      have d0 : ρ (.tmp 116) = .bool true := d0
                      refine (if_pos (by rfl)).mpr ?_
                      refine Og.gives_is (.bool true) ?_ (And.intro (Below.refl _ _) rfl)
                      go_simp
                    · refine ⟨fun v w hv => by (have hv' : v = .bool true := hv); subst hv'; exact (if_pos rfl).mpr rfl, fun ρ w1 hr hd => ?_⟩
                      obtain ⟨d0, _⟩ := hd
                      have d0 : ρ (.tmp 17) = .slice (some ⟨gn, on_, none⟩) now.length cn := d0
                      refine (if_pos (by rfl)).mpr ?_
                      refine Og.gives_is (.slice (some ⟨gn, on_, none⟩) now.length cn) ?_ (And.intro (Below.refl _ _) rfl)
                      go_simp
                    · refine ⟨fun v w hv => by (have hv' : v = .bool true := hv); subst hv'; exact (if_pos rfl).mpr rfl, fun ρ w1 hr hd => ?_⟩
                      obtain ⟨d0, _⟩ := hd
                      have d0 : ρ (.tmp 18) = .int .i64 (r : Int) := d0
                      refine (if_pos (by rfl)).mpr ?_
                      refine Og.gives_is (.int .i64 (r : Int)) ?_ (And.intro (Below.refl _ _) rfl)
                      go_simp
                    · refine ⟨fun v w hv => by (have hv' : v = .bool true := hv); subst hv'; exact (if_pos rfl).mpr rfl, fun ρ w1 hr hd => ?_⟩
                      obtain ⟨d0, d1, _⟩ := hd
                      have d0 : ρ (.tmp 118) = .slice (some ⟨gn, on_, none⟩) now.length cn := d0
                      have d1 : ρ (.tmp 119) = .int .i64 (r : Int) := d1
                      refine (if_pos (by rfl)).mpr ?_
                      refine Og.gives_is (.pointer (some ⟨gn, on_ + r * 20, none⟩)) ?_ (And.intro (Below.refl _ _) rfl)
                      go_simp
                    · refine ⟨fun v w hv => by (have hv' : v = .bool true := hv); subst hv'; exact (if_pos rfl).mpr rfl, fun ρ w1 hr hd => ?_⟩
                      obtain ⟨d0, _⟩ := hd
                      have d0 : ρ (.tmp 120) = .pointer (some ⟨gn, on_ + r * 20, none⟩) := d0
                      refine (if_pos (by rfl)).mpr ?_
                      refine Og.gives_is (.agg (Nt.cells x).toArray) ?_ (And.intro (Below.refl _ _) rfl)
                      exact Og.load_run 57 (.tmp 120) rfl ⟨gn, on_ + r * 20, none⟩ d0 (run_loadVar_at w1 gn (on_ + r * 20) 57 (Nt.cells x) _ (fun i c hi => Ev.kp_below hr _ _ (HCN.out i c hi)) Try.underlying57 rfl (by rw [OX.out.len]; exact Nt.size_msg))
                    · refine ⟨fun v w hv => by (have hv' : v = .bool true := hv); subst hv'; exact (if_pos rfl).mpr rfl, fun ρ w1 hr hd => ?_⟩
                      obtain ⟨d0, _⟩ := hd
                      have d0 : ρ (.tmp 14) = .slice (some ⟨gw, ow, none⟩) cur.length cw := d0
                      refine (if_pos (by rfl)).mpr ?_
                      refine Og.gives_is (.slice (some ⟨gw, ow, none⟩) cur.length cw) ?_ (And.intro (Below.refl _ _) rfl)
                      go_simp
                    · refine ⟨fun v w hv => by (have hv' : v = .bool true := hv); subst hv'; exact (if_pos rfl).mpr rfl, fun ρ w1 hr hd => ?_⟩
                      obtain ⟨d0, _⟩ := hd
                      have d0 : ρ (.tmp 18) = .int .i64 (r : Int) := d0
                      refine (if_pos (by rfl)).mpr ?_
                      refine Og.gives_is (.int .i64 (r : Int)) ?_ (And.intro (Below.refl _ _) rfl)
                      go_simp
                    · refine ⟨fun v w hv => by (have hv' : v = .bool true := hv); subst hv'; exact (if_pos rfl).mpr rfl, fun ρ w1 hr hd => ?_⟩
                      obtain ⟨d0, d1, _⟩ := hd
                      have d0 : ρ (.tmp 122) = .slice (some ⟨gw, ow, none⟩) cur.length cw := d0
                      have d1 : ρ (.tmp 123) = .int .i64 (r : Int) := d1
                      refine (if_pos (by rfl)).mpr ?_
                      refine Og.gives_is (.pointer (some ⟨gw, ow + r * 20, none⟩)) ?_ (And.intro (Below.refl _ _) rfl)
                      go_simp
                    · refine ⟨fun v w hv => by (have hv' : v = .bool true := hv); subst hv'; exact (if_pos rfl).mpr rfl, fun ρ w1 hr hd => ?_⟩
                      obtain ⟨d0, _⟩ := hd
                      have d0 : ρ (.tmp 124) = .pointer (some ⟨gw, ow + r * 20, none⟩) := d0
                      refine (if_pos (by rfl)).mpr ?_
                      refine Og.gives_is (.agg (Nt.cells y).toArray) ?_ (And.intro (Below.refl _ _) rfl)
                      exact Og.load_run 57 (.tmp 124) rfl ⟨gw, ow + r * 20, none⟩ d0 (run_loadVar_at w1 gw (ow + r * 20) 57 (Nt.cells y) _ (fun i c hi => Ev.kp_below hr _ _ (HCW.out i c hi)) Try.underlying57 rfl (by rw [OY.out.len]; exact Nt.size_msg))
                    · refine ⟨fun v w hv => by (have hv' : v = .bool true := hv); subst hv'; exact (if_pos rfl).mpr rfl, fun ρ w1 hr hd => ?_⟩
                      obtain ⟨d0, d1, _⟩ := hd
                      have d0 : ρ (.tmp 121) = .agg (Nt.cells x).toArray := d0
                      have d1 : ρ (.tmp 125) = .agg (Nt.cells y).toArray := d1
                      refine (if_pos (by rfl)).mpr ?_
                      refine Og.gives_is (.bool v) ?_ (And.intro (Below.refl _ _) rfl)
                      exact Nt.eql_op (a := x) (b := y) (.tmp 121) (.tmp 125) rfl OX.out OY.out d0 d1 v HV.out w1
                    · refine ⟨rfl, fun ρ w1 hr hd => ?_⟩
                      obtain ⟨d0, d1, d2, _⟩ := hd
                      have d0 : ρ (.tmp 117) = .bool true := d0
                      have d1 : ρ (.tmp 126) = .bool v := d1
                      have d2 : ρ (.const (Value.bool false)) = (Value.bool false) := d2
                      refine (if_pos (by rfl)).mpr ?_
                      refine Og.gives_is (.bool v) ?_ (And.intro (Below.refl _ _) rfl)
                      go_simp
                  · intro vs w1 hbz hall
                    have e0 : vs 0 = .int .i64 (r : Int) := hall 0 _ 113 rfl rfl
                    have e1 : vs 1 = .slice (some ⟨gn, on_, none⟩) now.length cn := hall 1 _ 114 rfl rfl
                    have e2 : vs 2 = .int .i64 (now.length : Int) := hall 2 _ 115 rfl rfl
                    have e3 : vs 3 = .bool true := hall 3 _ 116 rfl rfl
                    have e4 : vs 4 = .bool true := hall 4 _ 117 rfl rfl
                    have e5 : vs 5 = .slice (some ⟨gn, on_, none⟩) now.length cn := hall 5 _ 118 rfl rfl
                    have e6 : vs 6 = .int .i64 (r : Int) := hall 6 _ 119 rfl rfl
                    have e7 : vs 7 = .pointer (some ⟨gn, on_ + r * 20, none⟩) := hall 7 _ 120 rfl rfl
                    have e8 : vs 8 = .agg (Nt.cells x).toArray := hall 8 _ 121 rfl rfl
                    have e9 : vs 9 = .slice (some ⟨gw, ow, none⟩) cur.length cw := hall 9 _ 122 rfl rfl
                    have e10 : vs 10 = .int .i64 (r : Int) := hall 10 _ 123 rfl rfl
                    have e11 : vs 11 = .pointer (some ⟨gw, ow + r * 20, none⟩) := hall 11 _ 124 rfl rfl
                    have e12 : vs 12 = .agg (Nt.cells y).toArray := hall 12 _ 125 rfl rfl
                    have e13 : vs 13 = .bool v := hall 13 _ 126 rfl rfl
                    have e14 : vs 14 = .bool v := hall 14 _ 127 rfl rfl
                    have HBZ := Lib.hid hbz
                    simp only [Og.putAll, Act.put, List.setIfInBounds_toArray, List.set_cons_zero, List.set_cons_succ, Nat.zero_add, Nat.reduceAdd, e0, e1, e2, e3, e4, e5, e6, e7, e8, e9, e10, e11, e12, e13, e14]
                    clear hall hbz
                    cases v
                    · go_wp2_with fail
                      have BX : Below W6.heap.size W6 w1 := BX'.out.trans (HBZ.out.mono BX'.out.size)
                      have HX : r = now.length ∨ now[r]? ≠ cur[r]? := .inr (by rw [HX'.out, HY'.out]; intro h; injection h with h; rw [(Nt.eqM_iff OX.out OY.out).2 h] at HV; exact absurd HV.out (by decide))
                      have heq := HEQ.out
                      rw [← ean, ← eaw]
                      clear ean eaw HCW
                      obtain ⟨hwr, hdr⟩ := Nt.part_at HKD.out HMK.out HDN.out hr heq HX
                      have hrm : r + 1 ≤ cur.length := (List.getElem?_eq_some_iff.1 hwr).1
                      have LW := Lib.hid ((OW6.out.ls BL.out.net.ok).kp (Ev.kp_below BX))
                      have LN := Lib.hid ((ON6.out.ls B6.out.net.ok).kp (Ev.kp_below BX))
                      obtain ⟨gw, ow, eaw, hcw⟩ := LW.out.at_ hwr
                      have HCW := Lib.hid hcw
                      have HRM := Lib.hid hrm; have HRN := Lib.hid hr
                      have HSM := Lib.hid (show Nt.sameLs (now.drop r) (cur.drop (r + 1)) = true from by rw [hdr]; exact (Nt.sameLs_iff (fun e he => BL.out.net.ok e (List.mem_of_mem_drop he)) (fun e he => BL.out.net.ok e (List.mem_of_mem_drop he))).2 rfl)
                      have R7 := Lib.hid ((BX.block _ (Array.getElem?_eq_some_iff.1 R6.out).1).trans R6.out)
                      have hrb : (r : Int) + 1 ≤ 101 := by omega
                      have hrw2 : (r : Int) < (cur.length : Int) := by omega
                      have hd1' : (now.drop r).length ≤ 1100 := by rw [List.length_drop]; omega
                      have hd2' : (cur.drop (r + 1)).length ≤ 1100 := by rw [List.length_drop]; omega
                      obtain ⟨sa, hsa⟩ : ∃ q, Nt.srcA an r cn = q := ⟨_, rfl⟩
                      obtain ⟨sc, hsc⟩ : ∃ q, cn - r = q := ⟨_, rfl⟩
                      obtain ⟨nd, hnd⟩ : ∃ q, now.drop r = q := ⟨_, rfl⟩
                      obtain ⟨sb, hsb⟩ : ∃ q, Nt.srcA (some ⟨gw, ow, none⟩) (r + 1) cw = q := ⟨_, rfl⟩
                      obtain ⟨sd, hsd⟩ : ∃ q, cw - (r + 1) = q := ⟨_, rfl⟩
                      obtain ⟨wd, hwd⟩ : ∃ q, cur.drop (r + 1) = q := ⟨_, rfl⟩
                      have HA := Lib.hid hsa; have HC := Lib.hid hsc; have HN := Lib.hid hnd; have HB := Lib.hid hsb; have HD := Lib.hid hsd; have HW := Lib.hid hwd
                      have HSM2 := HSM.out
                      rw [hnd, hwd] at HSM2
                      have HSM := Lib.hid HSM2
                      have LND' := LN.out.drop hr
                      rw [hsa, hsc, hnd] at LND'
                      have LND := Lib.hid LND'
                      have LWD' := LW.out.drop hrm
                      rw [eaw, hsb, hsd, hwd] at LWD'
                      have LWD := Lib.hid LWD'
                      rw [hnd] at hd1'; rw [hwd] at hd2'
                      have hd1 := hd1'; have hd2 := hd2'
                      clear hsa hsc hnd hsb hsd hwd LND' LWD' hd1' hd2' HSM2
                      clear hcw hwr hdr heq hr
                      rw [eaw]
                      go_wp2_with fail
                      refine Og.region3 (by kernel_rfl) (fun t => ([(130, 0), (131, 1), (132, 2), (133, 3), (134, 4), (135, 5), (136, 6), (137, 7), (138, 8), (139, 9), (140, 10), (141, 11), (142, 12), (143, 13), (144, 14), (145, 15), (146, 16), (147, 17), (148, 18), (149, 19)] : List (Nat × Nat)).lookup t) [.is (.bool true), .is (.bool true), .is (.slice (some ⟨gw, ow, none⟩) cur.length cw), .is (.int .i64 (r : Int)), .is (.pointer (some ⟨gw, ow + r * 20, none⟩)), .is (.agg (Nt.cells m).toArray), .is (.agg (Nt.cells m).toArray), .is (.bool false), .is (.bool false), .is (.slice an now.length cn), .is (.int .i64 (r : Int)), .is (.slice sa nd.length sc), .is (.slice (some ⟨gw, ow, none⟩) cur.length cw), .is (.int .i64 (r : Int)), .is (.int .i64 ((r + 1 : Nat) : Int)), .is (.slice sb wd.length sd), .is (.bool true), .is (.bool false), .is (.bool false), .is (.bool false)] [true, true, true, true, true, true, true, true, true, true, true, true, true, true, true, true, true, true, true, true] (by kernel_rfl) ?_ ?_
                      · refine ⟨?_, ?_, ?_, ?_, ?_, ?_, ?_, ?_, ?_, ?_, ?_, ?_, ?_, ?_, ?_, ?_, ?_, ?_, ?_, ?_, trivial⟩
                        · refine ⟨rfl, fun ρ w1 hr hd => ?_⟩
                          obtain ⟨d0, _⟩ := hd
                          have d0 : ρ (.tmp 16) = .bool true := d0
                          refine (if_pos (by rfl)).mpr ?_
                          refine Og.gives_is (.bool true) ?_ (And.intro (Below.refl _ _) rfl)
                          go_simp
                        · refine ⟨rfl, fun ρ w1 hr hd => ?_⟩
                          obtain ⟨d0, _⟩ := hd
                          have d0 : ρ (.tmp 130) = .bool true := d0
                          refine (if_pos (by rfl)).mpr ?_
                          refine Og.gives_is (.bool true) ?_ (And.intro (Below.refl _ _) rfl)
                          go_simp
                        · refine ⟨fun v w hv => by (have hv' : v = .bool true := hv); subst hv'; exact (if_pos rfl).mpr rfl, fun ρ w1 hr hd => ?_⟩
                          obtain ⟨d0, _⟩ := hd
                          have d0 : ρ (.tmp 14) = .slice (some ⟨gw, ow, none⟩) cur.length cw := d0
                          refine (if_pos (by rfl)).mpr ?_
                          refine Og.gives_is (.slice (some ⟨gw, ow, none⟩) cur.length cw) ?_ (And.intro (Below.refl _ _) rfl)
                          go_simp
                        · refine ⟨fun v w hv => by (have hv' : v = .bool true := hv); subst hv'; exact (if_pos rfl).mpr rfl, fun ρ w1 hr hd => ?_⟩
                          obtain ⟨d0, _⟩ := hd
                          have d0 : ρ (.tmp 18) = .int .i64 (r : Int) := d0
                          refine (if_pos (by rfl)).mpr ?_
                          refine Og.gives_is (.int .i64 (r : Int)) ?_ (And.intro (Below.refl _ _) rfl)
                          go_simp
                        · refine ⟨fun v w hv => by (have hv' : v = .bool true := hv); subst hv'; exact (if_pos rfl).mpr rfl, fun ρ w1 hr hd => ?_⟩
                          obtain ⟨d0, d1, _⟩ := hd
                          have d0 : ρ (.tmp 132) = .slice (some ⟨gw, ow, none⟩) cur.length cw := d0
                          have d1 : ρ (.tmp 133) = .int .i64 (r : Int) := d1
                          refine (if_pos (by rfl)).mpr ?_
                          refine Og.gives_is (.pointer (some ⟨gw, ow + r * 20, none⟩)) ?_ (And.intro (Below.refl _ _) rfl)
                          go_simp
                        · refine ⟨fun v w hv => by (have hv' : v = .bool true := hv); subst hv'; exact (if_pos rfl).mpr rfl, fun ρ w1 hr hd => ?_⟩
                          obtain ⟨d0, _⟩ := hd
                          have d0 : ρ (.tmp 134) = .pointer (some ⟨gw, ow + r * 20, none⟩) := d0
                          refine (if_pos (by rfl)).mpr ?_
                          refine Og.gives_is (.agg (Nt.cells m).toArray) ?_ (And.intro (Below.refl _ _) rfl)
                          exact Og.load_run 57 (.tmp 134) rfl ⟨gw, ow + r * 20, none⟩ d0 (run_loadVar_at w1 gw (ow + r * 20) 57 (Nt.cells m) _ (fun i c hi => Ev.kp_below hr _ _ (HCW.out i c hi)) Try.underlying57 rfl (by rw [HMO.out.len]; exact Nt.size_msg))
                        · refine ⟨fun v w hv => by (have hv' : v = .bool true := hv); subst hv'; exact (if_pos rfl).mpr rfl, fun ρ w1 hr hd => ?_⟩
                          obtain ⟨d0, _⟩ := hd
                          have d0 : ρ (.tmp 15) = .pointer (some ⟨W4.heap.size, 0, none⟩) := d0
                          refine (if_pos (by rfl)).mpr ?_
                          refine Og.gives_is (.agg (Nt.cells m).toArray) ?_ (And.intro (Below.refl _ _) rfl)
                          exact Og.load_run 57 (.tmp 15) rfl ⟨W4.heap.size, 0, none⟩ d0 (run_loadVar_row w1 W4.heap.size 57 57 _ (0, 0) _ ((hr.block _ (Array.getElem?_eq_some_iff.1 R7.out).1).trans R7.out) Try.underlying57 rfl (by rw [HMO.out.size]; exact Nt.size_msg))
                        · refine ⟨fun v w hv => by (have hv' : v = .bool true := hv); subst hv'; exact (if_pos rfl).mpr rfl, fun ρ w1 hr hd => ?_⟩
                          obtain ⟨d0, d1, _⟩ := hd
                          have d0 : ρ (.tmp 135) = .agg (Nt.cells m).toArray := d0
                          have d1 : ρ (.tmp 136) = .agg (Nt.cells m).toArray := d1
                          refine (if_pos (by rfl)).mpr ?_
                          refine Og.gives_is (.bool false) ?_ (And.intro (Below.refl _ _) rfl)
                          exact Nt.neq_op (a := m) (b := m) (.tmp 135) (.tmp 136) rfl HMO.out HMO.out d0 d1 false (by rw [Nt.eqM_self HMO.out]; rfl) w1
                        · refine ⟨fun v w hv => by (have hv' : v = .bool true := hv); subst hv'; exact (if_pos rfl).mpr rfl, fun ρ w1 hr hd => ?_⟩
                          obtain ⟨d0, _⟩ := hd
                          have d0 : ρ (.tmp 137) = .bool false := d0
                          refine (if_pos (by rfl)).mpr ?_
                          refine Og.gives_is (.bool false) ?_ (And.intro (Below.refl _ _) rfl)
                          go_simp
                        · refine ⟨fun v w hv => by (have hv' : v = .bool false := hv); subst hv'; exact (if_pos rfl).mpr rfl, fun ρ w1 hr hd => ?_⟩
                          obtain ⟨d0, _⟩ := hd
                          have d0 : ρ (.tmp 17) = .slice an now.length cn := d0
                          refine (if_pos (by rfl)).mpr ?_
                          refine Og.gives_is (.slice an now.length cn) ?_ (And.intro (Below.refl _ _) rfl)
                          go_simp
                        · refine ⟨fun v w hv => by (have hv' : v = .bool false := hv); subst hv'; exact (if_pos rfl).mpr rfl, fun ρ w1 hr hd => ?_⟩
                          obtain ⟨d0, _⟩ := hd
                          have d0 : ρ (.tmp 18) = .int .i64 (r : Int) := d0
                          refine (if_pos (by rfl)).mpr ?_
                          refine Og.gives_is (.int .i64 (r : Int)) ?_ (And.intro (Below.refl _ _) rfl)
                          go_simp
                        · refine ⟨fun v w hv => by (have hv' : v = .bool false := hv); subst hv'; exact (if_pos rfl).mpr rfl, fun ρ w1 hr hd => ?_⟩
                          obtain ⟨d0, d1, _⟩ := hd
                          have d0 : ρ (.tmp 139) = .slice an now.length cn := d0
                          have d1 : ρ (.tmp 140) = .int .i64 (r : Int) := d1
                          refine (if_pos (by rfl)).mpr ?_
                          refine Og.gives_is (.slice sa nd.length sc) ?_ (And.intro (Below.refl _ _) rfl)
                          rw [← HA.out, ← HC.out, ← HN.out]
                          exact Nt.from_to (.tmp 139) (.tmp 140) rfl HRN.out d0 d1
                        · refine ⟨fun v w hv => by (have hv' : v = .bool false := hv); subst hv'; exact (if_pos rfl).mpr rfl, fun ρ w1 hr hd => ?_⟩
                          obtain ⟨d0, _⟩ := hd
                          have d0 : ρ (.tmp 14) = .slice (some ⟨gw, ow, none⟩) cur.length cw := d0
                          refine (if_pos (by rfl)).mpr ?_
                          refine Og.gives_is (.slice (some ⟨gw, ow, none⟩) cur.length cw) ?_ (And.intro (Below.refl _ _) rfl)
                          go_simp
                        · refine ⟨fun v w hv => by (have hv' : v = .bool false := hv); subst hv'; exact (if_pos rfl).mpr rfl, fun ρ w1 hr hd => ?_⟩
                          obtain ⟨d0, _⟩ := hd
                          have d0 : ρ (.tmp 18) = .int .i64 (r : Int) := d0
                          refine (if_pos (by rfl)).mpr ?_
                          refine Og.gives_is (.int .i64 (r : Int)) ?_ (And.intro (Below.refl _ _) rfl)
                          go_simp
                        · refine ⟨fun v w hv => by (have hv' : v = .bool false := hv); subst hv'; exact (if_pos rfl).mpr rfl, fun ρ w1 hr hd => ?_⟩
                          obtain ⟨d0, d1, _⟩ := hd
                          have d0 : ρ (.tmp 143) = .int .i64 (r : Int) := d0
                          have d1 : ρ (.const (.int .i64 1)) = (.int .i64 1) := d1
                          refine (if_pos (by rfl)).mpr ?_
                          refine Og.gives_is (.int .i64 ((r + 1 : Nat) : Int)) ?_ (And.intro (Below.refl _ _) rfl)
                          go_simp; rw [IntKind.wrap_i64]; omega
                        · refine ⟨fun v w hv => by (have hv' : v = .bool false := hv); subst hv'; exact (if_pos rfl).mpr rfl, fun ρ w1 hr hd => ?_⟩
                          obtain ⟨d0, d1, _⟩ := hd
                          have d0 : ρ (.tmp 142) = .slice (some ⟨gw, ow, none⟩) cur.length cw := d0
                          have d1 : ρ (.tmp 144) = .int .i64 ((r + 1 : Nat) : Int) := d1
                          refine (if_pos (by rfl)).mpr ?_
                          refine Og.gives_is (.slice sb wd.length sd) ?_ (And.intro (Below.refl _ _) rfl)
                          rw [← HB.out, ← HD.out, ← HW.out]
                          exact Nt.from_to (.tmp 142) (.tmp 144) rfl HRM.out d0 d1
                        · refine ⟨fun v w hv => by (have hv' : v = .bool false := hv); subst hv'; exact (if_pos rfl).mpr rfl, fun ρ w1 hr hd => ?_⟩
                          obtain ⟨d0, d1, d2, _⟩ := hd
                          have d0 : ρ (.func 41) = .func (.func 41) #[] #[] := d0
                          have d1 : ρ (.tmp 141) = .slice sa nd.length sc := d1
                          have d2 : ρ (.tmp 145) = .slice sb wd.length sd := d2
                          refine (if_pos (by rfl)).mpr ?_
                          refine Og.gives_call 41 #[.slice sa nd.length sc, .slice sb wd.length sd] ?_ ?_
                          · go_simp
                          · refine (Nt.rsame_any sa sb sc sd nd wd hd1 hd2 w1 (LND.out.kp (Ev.kp_below hr)) (LWD.out.kp (Ev.kp_below hr))).mono ?_
                            rintro e' w3 ⟨rfl, hb⟩
                            exact ⟨_, rfl, hb, by rw [HSM.out]; rfl⟩
                        · refine ⟨fun v w hv => by (have hv' : v = .bool false := hv); subst hv'; exact (if_pos rfl).mpr rfl, fun ρ w1 hr hd => ?_⟩
                          obtain ⟨d0, _⟩ := hd
                          have d0 : ρ (.tmp 146) = .bool true := d0
                          refine (if_pos (by rfl)).mpr ?_
                          refine Og.gives_is (.bool false) ?_ (And.intro (Below.refl _ _) rfl)
                          go_simp
                        · refine ⟨fun v w hv => by (have hv' : v = .bool true := hv); subst hv'; exact (if_pos rfl).mpr rfl, fun ρ w1 hr hd => ?_⟩
                          obtain ⟨d0, d1, d2, _⟩ := hd
                          have d0 : ρ (.tmp 138) = .bool false := d0
                          have d1 : ρ (.const (Value.bool true)) = (Value.bool true) := d1
                          have d2 : ρ (.tmp 147) = .bool false := d2
                          refine (if_pos (by rfl)).mpr ?_
                          refine Og.gives_is (.bool false) ?_ (And.intro (Below.refl _ _) rfl)
                          go_simp
                        · refine ⟨rfl, fun ρ w1 hr hd => ?_⟩
                          obtain ⟨d0, d1, d2, _⟩ := hd
                          have d0 : ρ (.tmp 131) = .bool true := d0
                          have d1 : ρ (.tmp 148) = .bool false := d1
                          have d2 : ρ (.const (Value.bool false)) = (Value.bool false) := d2
                          refine (if_pos (by rfl)).mpr ?_
                          refine Og.gives_is (.bool false) ?_ (And.intro (Below.refl _ _) rfl)
                          go_simp
                      · intro vs w1 hbz hall
                        have e0 : vs 0 = .bool true := hall 0 _ 130 rfl rfl
                        have e1 : vs 1 = .bool true := hall 1 _ 131 rfl rfl
                        have e2 : vs 2 = .slice (some ⟨gw, ow, none⟩) cur.length cw := hall 2 _ 132 rfl rfl
                        have e3 : vs 3 = .int .i64 (r : Int) := hall 3 _ 133 rfl rfl
                        have e4 : vs 4 = .pointer (some ⟨gw, ow + r * 20, none⟩) := hall 4 _ 134 rfl rfl
                        have e5 : vs 5 = .agg (Nt.cells m).toArray := hall 5 _ 135 rfl rfl
                        have e6 : vs 6 = .agg (Nt.cells m).toArray := hall 6 _ 136 rfl rfl
                        have e7 : vs 7 = .bool false := hall 7 _ 137 rfl rfl
                        have e8 : vs 8 = .bool false := hall 8 _ 138 rfl rfl
                        have e9 : vs 9 = .slice an now.length cn := hall 9 _ 139 rfl rfl
                        have e10 : vs 10 = .int .i64 (r : Int) := hall 10 _ 140 rfl rfl
                        have e11 : vs 11 = .slice sa nd.length sc := hall 11 _ 141 rfl rfl
                        have e12 : vs 12 = .slice (some ⟨gw, ow, none⟩) cur.length cw := hall 12 _ 142 rfl rfl
                        have e13 : vs 13 = .int .i64 (r : Int) := hall 13 _ 143 rfl rfl
                        have e14 : vs 14 = .int .i64 ((r + 1 : Nat) : Int) := hall 14 _ 144 rfl rfl
                        have e15 : vs 15 = .slice sb wd.length sd := hall 15 _ 145 rfl rfl
                        have e16 : vs 16 = .bool true := hall 16 _ 146 rfl rfl
                        have e17 : vs 17 = .bool false := hall 17 _ 147 rfl rfl
                        have e18 : vs 18 = .bool false := hall 18 _ 148 rfl rfl
                        have e19 : vs 19 = .bool false := hall 19 _ 149 rfl rfl
                        have HBZ := Lib.hid hbz
                        simp only [Og.putAll, Act.put, List.setIfInBounds_toArray, List.set_cons_zero, List.set_cons_succ, Nat.zero_add, Nat.reduceAdd, e0, e1, e2, e3, e4, e5, e6, e7, e8, e9, e10, e11, e12, e13, e14, e15, e16, e17, e18, e19]
                        clear hall hbz
                        go_wp2_with (first
                          | ((with_reducible show wpList _ _ _ (Oper.mk (some 152) _ _ _ _ _ :: _) _ _); refine wpList_load_row rfl 57 (.tmp 15) rfl W4.heap.size rfl 57 _ (0, 0) _ ((HBZ.out.block _ (Array.getElem?_eq_some_iff.1 R7.out).1).trans R7.out) Try.underlying57 rfl (by rw [HMO.out.size]; exact Nt.size_msg) ?_; refine Nt.Stop.out ?_))
                        refine ⟨?_⟩
                        have B8 := Lib.hid ((B6.out.kp BX).kp HBZ.out)
                        obtain ⟨W9, a', c', W10, hW9, hrun, hb9, ho, hf, hok⟩ := Nt.add_one B8.out.c B8.out.cok HMO.out (by omega)
                        obtain ⟨H', h10⟩ := B8.out.addC hb9 ho hf hok
                        have B10 := Lib.hid h10; have HR := Lib.hid hrun; have HW9 := Lib.hid hW9
                        clear h10 hrun hW9 hb9 ho hf hok
                        go_wp2_with (first
                          | ((with_reducible show wpList _ _ _ (Oper.mk (some 153) _ _ _ _ _ :: _) _ _); refine Nt.wpList_buildMsg rfl m HMO.out (.tmp 152) rfl rfl ?_; rw [← HW9.out])
                          | ((with_reducible show wpList _ _ _ (Oper.mk (some 154) _ _ _ _ _ :: _) _ _); refine Nt.wpList_append rfl (.tmp 151) (.tmp 153) 68 rfl rfl rfl HR.out ?_))
                        go_roundw
                        case rel => exact ⟨j + 1, by omega, by go_num, F4, H', now, a', c', C ++ [m], by simp, B10.out, by rw [List.append_assoc]; exact PM.out.trans (HDP.out.symm.append_left C), by omega⟩
                        case measure => simp [intOf]; omega
                    · go_wp2_with fail
                      go_roundw
                      case rel => exact ⟨r + 1, by omega, by go_num, fun i hi => by
                        rcases Nat.lt_or_ge i r with h | h
                        · exact HEQ.out i h
                        · rw [show i = r by omega, HX'.out, HY'.out, (Nt.eqM_iff OX.out OY.out).1 HV.out], BX'.out.trans (HBZ.out.mono BX'.out.size)⟩
                      case measure => simp [intOf]; omega
                · have hri : ¬ (r : Int) < (now.length : Int) := by omega
                  go_wp2_with fail
                  refine Og.region3 (by kernel_rfl) (fun t => ([(113, 0), (114, 1), (115, 2), (116, 3), (117, 4), (118, 5), (119, 6), (120, 7), (121, 8), (122, 9), (123, 10), (124, 11), (125, 12), (126, 13), (127, 14)] : List (Nat × Nat)).lookup t) [.is (.int .i64 (r : Int)), .is (.slice an now.length cn), .is (.int .i64 (now.length : Int)), .is (.bool false), .is (.bool false), .is (undef), .is (undef), .is (undef), .is (undef), .is (undef), .is (undef), .is (undef), .is (undef), .is (undef), .is (.bool false)] [true, true, true, true, true, false, false, false, false, false, false, false, false, false, true] (by kernel_rfl) ?_ ?_
                  · refine ⟨?_, ?_, ?_, ?_, ?_, ?_, ?_, ?_, ?_, ?_, ?_, ?_, ?_, ?_, ?_, trivial⟩
                    · refine ⟨rfl, fun ρ w1 hr hd => ?_⟩
                      obtain ⟨d0, _⟩ := hd
                      have d0 : ρ (.tmp 18) = .int .i64 (r : Int) := d0
                      refine (if_pos (by rfl)).mpr ?_
                      refine Og.gives_is (.int .i64 (r : Int)) ?_ (And.intro (Below.refl _ _) rfl)
                      go_simp
                    · refine ⟨rfl, fun ρ w1 hr hd => ?_⟩
                      obtain ⟨d0, _⟩ := hd
                      have d0 : ρ (.tmp 17) = .slice an now.length cn := d0
                      refine (if_pos (by rfl)).mpr ?_
                      refine Og.gives_is (.slice an now.length cn) ?_ (And.intro (Below.refl _ _) rfl)
                      go_simp
                    · refine ⟨rfl, fun ρ w1 hr hd => ?_⟩
                      obtain ⟨d0, _⟩ := hd
                      have d0 : ρ (.tmp 114) = .slice an now.length cn := d0
                      refine (if_pos (by rfl)).mpr ?_
                      refine Og.gives_is (.int .i64 (now.length : Int)) ?_ (And.intro (Below.refl _ _) rfl)
                      go_simp
                    · refine ⟨rfl, fun ρ w1 hr hd => ?_⟩
                      obtain ⟨d0, d1, _⟩ := hd
                      have d0 : ρ (.tmp 113) = .int .i64 (r : Int) := d0
                      have d1 : ρ (.tmp 115) = .int .i64 (now.length : Int) := d1
                      refine (if_pos (by rfl)).mpr ?_
                      refine Og.gives_is (.bool false) ?_ (And.intro (Below.refl _ _) rfl)
                      go_simp
                    · refine ⟨rfl, fun ρ w1 hr hd => ?_⟩
                      obtain ⟨d0, _⟩ := hd
                      have d0 : ρ (.tmp 116) = .bool false := d0
                      refine (if_pos (by rfl)).mpr ?_
                      refine Og.gives_is (.bool false) ?_ (And.intro (Below.refl _ _) rfl)
                      go_simp
                    · refine ⟨fun v w hv => by (have hv' : v = .bool false := hv); subst hv'; exact (if_neg (by exact Bool.false_ne_true)).mpr (fun h => by cases h), fun ρ w1 hr hd => ?_⟩
                      exact (if_neg (by exact Bool.false_ne_true)).mpr (rfl : undef = undef)
                    · refine ⟨fun v w hv => by (have hv' : v = .bool false := hv); subst hv'; exact (if_neg (by exact Bool.false_ne_true)).mpr (fun h => by cases h), fun ρ w1 hr hd => ?_⟩
                      exact (if_neg (by exact Bool.false_ne_true)).mpr (rfl : undef = undef)
                    · refine ⟨fun v w hv => by (have hv' : v = .bool false := hv); subst hv'; exact (if_neg (by exact Bool.false_ne_true)).mpr (fun h => by cases h), fun ρ w1 hr hd => ?_⟩
                      exact (if_neg (by exact Bool.false_ne_true)).mpr (rfl : undef = undef)
                    · refine ⟨fun v w hv => by (have hv' : v = .bool false := hv); subst hv'; exact (if_neg (by exact Bool.false_ne_true)).mpr (fun h => by cases h), fun ρ w1 hr hd => ?_⟩
                      exact (if_neg (by exact Bool.false_ne_true)).mpr (rfl : undef = undef)
                    · refine ⟨fun v w hv => by (have hv' : v = .bool false := hv); subst hv'; exact (if_neg (by exact Bool.false_ne_true)).mpr (fun h => by cases h), fun ρ w1 hr hd => ?_⟩
                      exact (if_neg (by exact Bool.false_ne_true)).mpr (rfl : undef = undef)
                    · refine ⟨fun v w hv => by (have hv' : v = .bool false := hv); subst hv'; exact (if_neg (by exact Bool.false_ne_true)).mpr (fun h => by cases h), fun ρ w1 hr hd => ?_⟩
                      exact (if_neg (by exact Bool.false_ne_true)).mpr (rfl : undef = undef)
                    · refine ⟨fun v w hv => by (have hv' : v = .bool false := hv); subst hv'; exact (if_neg (by exact Bool.false_ne_true)).mpr (fun h => by cases h), fun ρ w1 hr hd => ?_⟩
                      exact (if_neg (by exact Bool.false_ne_true)).mpr (rfl : undef = undef)
                    · refine ⟨fun v w hv => by (have hv' : v = .bool false := hv); subst hv'; exact (if_neg (by exact Bool.false_ne_true)).mpr (fun h => by cases h), fun ρ w1 hr hd => ?_⟩
                      exact (if_neg (by exact Bool.false_ne_true)).mpr (rfl : undef = undef)
                    · refine ⟨fun v w hv => by (have hv' : v = .bool false := hv); subst hv'; exact (if_neg (by exact Bool.false_ne_true)).mpr (fun h => by cases h), fun ρ w1 hr hd => ?_⟩
                      exact (if_neg (by exact Bool.false_ne_true)).mpr (rfl : undef = undef)
                    · refine ⟨rfl, fun ρ w1 hr hd => ?_⟩
                      obtain ⟨d0, d1, d2, _⟩ := hd
                      have d0 : ρ (.tmp 117) = .bool false := d0
                      have d1 : ρ (.tmp 126) = undef := d1
                      have d2 : ρ (.const (Value.bool false)) = (Value.bool false) := d2
                      refine (if_pos (by rfl)).mpr ?_
                      refine Og.gives_is (.bool false) ?_ (And.intro (Below.refl _ _) rfl)
                      go_simp
                  · intro vs w1 hbz hall
                    have e0 : vs 0 = .int .i64 (r : Int) := hall 0 _ 113 rfl rfl
                    have e1 : vs 1 = .slice an now.length cn := hall 1 _ 114 rfl rfl
                    have e2 : vs 2 = .int .i64 (now.length : Int) := hall 2 _ 115 rfl rfl
                    have e3 : vs 3 = .bool false := hall 3 _ 116 rfl rfl
                    have e4 : vs 4 = .bool false := hall 4 _ 117 rfl rfl
                    have e5 : vs 5 = undef := hall 5 _ 118 rfl rfl
                    have e6 : vs 6 = undef := hall 6 _ 119 rfl rfl
                    have e7 : vs 7 = undef := hall 7 _ 120 rfl rfl
                    have e8 : vs 8 = undef := hall 8 _ 121 rfl rfl
                    have e9 : vs 9 = undef := hall 9 _ 122 rfl rfl
                    have e10 : vs 10 = undef := hall 10 _ 123 rfl rfl
                    have e11 : vs 11 = undef := hall 11 _ 124 rfl rfl
                    have e12 : vs 12 = undef := hall 12 _ 125 rfl rfl
                    have e13 : vs 13 = undef := hall 13 _ 126 rfl rfl
                    have e14 : vs 14 = .bool false := hall 14 _ 127 rfl rfl
                    have HBZ := Lib.hid hbz
                    simp only [Og.putAll, Act.put, List.setIfInBounds_toArray, List.set_cons_zero, List.set_cons_succ, Nat.zero_add, Nat.reduceAdd, e0, e1, e2, e3, e4, e5, e6, e7, e8, e9, e10, e11, e12, e13, e14]
                    clear hall hbz
                    go_wp2_with fail
                    have BX : Below W6.heap.size W6 w1 := BX'.out.trans (HBZ.out.mono BX'.out.size)
                    have HX : r = now.length ∨ now[r]? ≠ cur[r]? := .inl (by omega)
                    obtain ⟨hwr, hdr⟩ := Nt.part_at HKD.out HMK.out HDN.out hr heq HX
                    have hrm : r + 1 ≤ cur.length := (List.getElem?_eq_some_iff.1 hwr).1
                    have LW := Lib.hid ((OW6.out.ls BL.out.net.ok).kp (Ev.kp_below BX))
                    have LN := Lib.hid ((ON6.out.ls B6.out.net.ok).kp (Ev.kp_below BX))
                    obtain ⟨gw, ow, eaw, hcw⟩ := LW.out.at_ hwr
                    have HCW := Lib.hid hcw
                    have HRM := Lib.hid hrm; have HRN := Lib.hid hr
                    have HSM := Lib.hid (show Nt.sameLs (now.drop r) (cur.drop (r + 1)) = true from by rw [hdr]; exact (Nt.sameLs_iff (fun e he => BL.out.net.ok e (List.mem_of_mem_drop he)) (fun e he => BL.out.net.ok e (List.mem_of_mem_drop he))).2 rfl)
                    have R7 := Lib.hid ((BX.block _ (Array.getElem?_eq_some_iff.1 R6.out).1).trans R6.out)
                    have hrb : (r : Int) + 1 ≤ 101 := by omega
                    have hrw2 : (r : Int) < (cur.length : Int) := by omega
                    have hd1' : (now.drop r).length ≤ 1100 := by rw [List.length_drop]; omega
                    have hd2' : (cur.drop (r + 1)).length ≤ 1100 := by rw [List.length_drop]; omega
                    obtain ⟨sa, hsa⟩ : ∃ q, Nt.srcA an r cn = q := ⟨_, rfl⟩
                    obtain ⟨sc, hsc⟩ : ∃ q, cn - r = q := ⟨_, rfl⟩
                    obtain ⟨nd, hnd⟩ : ∃ q, now.drop r = q := ⟨_, rfl⟩
                    obtain ⟨sb, hsb⟩ : ∃ q, Nt.srcA (some ⟨gw, ow, none⟩) (r + 1) cw = q := ⟨_, rfl⟩
                    obtain ⟨sd, hsd⟩ : ∃ q, cw - (r + 1) = q := ⟨_, rfl⟩
                    obtain ⟨wd, hwd⟩ : ∃ q, cur.drop (r + 1) = q := ⟨_, rfl⟩
                    have HA := Lib.hid hsa; have HC := Lib.hid hsc; have HN := Lib.hid hnd; have HB := Lib.hid hsb; have HD := Lib.hid hsd; have HW := Lib.hid hwd
                    have HSM2 := HSM.out
                    rw [hnd, hwd] at HSM2
                    have HSM := Lib.hid HSM2
                    have LND' := LN.out.drop hr
                    rw [hsa, hsc, hnd] at LND'
                    have LND := Lib.hid LND'
                    have LWD' := LW.out.drop hrm
                    rw [eaw, hsb, hsd, hwd] at LWD'
                    have LWD := Lib.hid LWD'
                    rw [hnd] at hd1'; rw [hwd] at hd2'
                    have hd1 := hd1'; have hd2 := hd2'
                    clear hsa hsc hnd hsb hsd hwd LND' LWD' hd1' hd2' HSM2
                    clear hcw hwr hdr heq hr
                    rw [eaw]
                    go_wp2_with fail
                    refine Og.region3 (by kernel_rfl) (fun t => ([(130, 0), (131, 1), (132, 2), (133, 3), (134, 4), (135, 5), (136, 6), (137, 7), (138, 8), (139, 9), (140, 10), (141, 11), (142, 12), (143, 13), (144, 14), (145, 15), (146, 16), (147, 17), (148, 18), (149, 19)] : List (Nat × Nat)).lookup t) [.is (.bool true), .is (.bool true), .is (.slice (some ⟨gw, ow, none⟩) cur.length cw), .is (.int .i64 (r : Int)), .is (.pointer (some ⟨gw, ow + r * 20, none⟩)), .is (.agg (Nt.cells m).toArray), .is (.agg (Nt.cells m).toArray), .is (.bool false), .is (.bool false), .is (.slice an now.length cn), .is (.int .i64 (r : Int)), .is (.slice sa nd.length sc), .is (.slice (some ⟨gw, ow, none⟩) cur.length cw), .is (.int .i64 (r : Int)), .is (.int .i64 ((r + 1 : Nat) : Int)), .is (.slice sb wd.length sd), .is (.bool true), .is (.bool false), .is (.bool false), .is (.bool false)] [true, true, true, true, true, true, true, true, true, true, true, true, true, true, true, true, true, true, true, true] (by kernel_rfl) ?_ ?_
                    · refine ⟨?_, ?_, ?_, ?_, ?_, ?_, ?_, ?_, ?_, ?_, ?_, ?_, ?_, ?_, ?_, ?_, ?_, ?_, ?_, ?_, trivial⟩
                      · refine ⟨rfl, fun ρ w1 hr hd => ?_⟩
                        obtain ⟨d0, _⟩ := hd
                        have d0 : ρ (.tmp 16) = .bool true := d0
                        refine (if_pos (by rfl)).mpr ?_
                        refine Og.gives_is (.bool true) ?_ (And.intro (Below.refl _ _) rfl)
                        go_simp
                      · refine ⟨rfl, fun ρ w1 hr hd => ?_⟩
                        obtain ⟨d0, _⟩ := hd
                        have d0 : ρ (.tmp 130) = .bool true := d0
                        refine (if_pos (by rfl)).mpr ?_
                        refine Og.gives_is (.bool true) ?_ (And.intro (Below.refl _ _) rfl)
                        go_simp
                      · refine ⟨fun v w hv => by (have hv' : v = .bool true := hv); subst hv'; exact (if_pos rfl).mpr rfl, fun ρ w1 hr hd => ?_⟩
                        obtain ⟨d0, _⟩ := hd
                        have d0 : ρ (.tmp 14) = .slice (some ⟨gw, ow, none⟩) cur.length cw := d0
                        refine (if_pos (by rfl)).mpr ?_
                        refine Og.gives_is (.slice (some ⟨gw, ow, none⟩) cur.length cw) ?_ (And.intro (Below.refl _ _) rfl)
                        go_simp
                      · refine ⟨fun v w hv => by (have hv' : v = .bool true := hv); subst hv'; exact (if_pos rfl).mpr rfl, fun ρ w1 hr hd => ?_⟩
                        obtain ⟨d0, _⟩ := hd
                        have d0 : ρ (.tmp 18) = .int .i64 (r : Int) := d0
                        refine (if_pos (by rfl)).mpr ?_
                        refine Og.gives_is (.int .i64 (r : Int)) ?_ (And.intro (Below.refl _ _) rfl)
                        go_simp
                      · refine ⟨fun v w hv => by (have hv' : v = .bool true := hv); subst hv'; exact (if_pos rfl).mpr rfl, fun ρ w1 hr hd => ?_⟩
                        obtain ⟨d0, d1, _⟩ := hd
                        have d0 : ρ (.tmp 132) = .slice (some ⟨gw, ow, none⟩) cur.length cw := d0
                        have d1 : ρ (.tmp 133) = .int .i64 (r : Int) := d1
                        refine (if_pos (by rfl)).mpr ?_
                        refine Og.gives_is (.pointer (some ⟨gw, ow + r * 20, none⟩)) ?_ (And.intro (Below.refl _ _) rfl)
                        go_simp
                      · refine ⟨fun v w hv => by (have hv' : v = .bool true := hv); subst hv'; exact (if_pos rfl).mpr rfl, fun ρ w1 hr hd => ?_⟩
                        obtain ⟨d0, _⟩ := hd
                        have d0 : ρ (.tmp 134) = .pointer (some ⟨gw, ow + r * 20, none⟩) := d0
                        refine (if_pos (by rfl)).mpr ?_
                        refine Og.gives_is (.agg (Nt.cells m).toArray) ?_ (And.intro (Below.refl _ _) rfl)
                        exact Og.load_run 57 (.tmp 134) rfl ⟨gw, ow + r * 20, none⟩ d0 (run_loadVar_at w1 gw (ow + r * 20) 57 (Nt.cells m) _ (fun i c hi => Ev.kp_below hr _ _ (HCW.out i c hi)) Try.underlying57 rfl (by rw [HMO.out.len]; exact Nt.size_msg))
                      · refine ⟨fun v w hv => by (have hv' : v = .bool true := hv); subst hv'; exact (if_pos rfl).mpr rfl, fun ρ w1 hr hd => ?_⟩
                        obtain ⟨d0, _⟩ := hd
                        have d0 : ρ (.tmp 15) = .pointer (some ⟨W4.heap.size, 0, none⟩) := d0
                        refine (if_pos (by rfl)).mpr ?_
                        refine Og.gives_is (.agg (Nt.cells m).toArray) ?_ (And.intro (Below.refl _ _) rfl)
                        exact Og.load_run 57 (.tmp 15) rfl ⟨W4.heap.size, 0, none⟩ d0 (run_loadVar_row w1 W4.heap.size 57 57 _ (0, 0) _ ((hr.block _ (Array.getElem?_eq_some_iff.1 R7.out).1).trans R7.out) Try.underlying57 rfl (by rw [HMO.out.size]; exact Nt.size_msg))
                      · refine ⟨fun v w hv => by (have hv' : v = .bool true := hv); subst hv'; exact (if_pos rfl).mpr rfl, fun ρ w1 hr hd => ?_⟩
                        obtain ⟨d0, d1, _⟩ := hd
                        have d0 : ρ (.tmp 135) = .agg (Nt.cells m).toArray := d0
                        have d1 : ρ (.tmp 136) = .agg (Nt.cells m).toArray := d1
                        refine (if_pos (by rfl)).mpr ?_
                        refine Og.gives_is (.bool false) ?_ (And.intro (Below.refl _ _) rfl)
                        exact Nt.neq_op (a := m) (b := m) (.tmp 135) (.tmp 136) rfl HMO.out HMO.out d0 d1 false (by rw [Nt.eqM_self HMO.out]; rfl) w1
                      · refine ⟨fun v w hv => by (have hv' : v = .bool true := hv); subst hv'; exact (if_pos rfl).mpr rfl, fun ρ w1 hr hd => ?_⟩
                        obtain ⟨d0, _⟩ := hd
                        have d0 : ρ (.tmp 137) = .bool false := d0
                        refine (if_pos (by rfl)).mpr ?_
                        refine Og.gives_is (.bool false) ?_ (And.intro (Below.refl _ _) rfl)
                        go_simp
                      · refine ⟨fun v w hv => by (have hv' : v = .bool false := hv); subst hv'; exact (if_pos rfl).mpr rfl, fun ρ w1 hr hd => ?_⟩
                        obtain ⟨d0, _⟩ := hd
                        have d0 : ρ (.tmp 17) = .slice an now.length cn := d0
                        refine (if_pos (by rfl)).mpr ?_
                        refine Og.gives_is (.slice an now.length cn) ?_ (And.intro (Below.refl _ _) rfl)
                        go_simp
                      · refine ⟨fun v w hv => by (have hv' : v = .bool false := hv); subst hv'; exact (if_pos rfl).mpr rfl, fun ρ w1 hr hd => ?_⟩
                        obtain ⟨d0, _⟩ := hd
                        have d0 : ρ (.tmp 18) = .int .i64 (r : Int) := d0
                        refine (if_pos (by rfl)).mpr ?_
                        refine Og.gives_is (.int .i64 (r : Int)) ?_ (And.intro (Below.refl _ _) rfl)
                        go_simp
                      · refine ⟨fun v w hv => by (have hv' : v = .bool false := hv); subst hv'; exact (if_pos rfl).mpr rfl, fun ρ w1 hr hd => ?_⟩
                        obtain ⟨d0, d1, _⟩ := hd
                        have d0 : ρ (.tmp 139) = .slice an now.length cn := d0
                        have d1 : ρ (.tmp 140) = .int .i64 (r : Int) := d1
                        refine (if_pos (by rfl)).mpr ?_
                        refine Og.gives_is (.slice sa nd.length sc) ?_ (And.intro (Below.refl _ _) rfl)
                        rw [← HA.out, ← HC.out, ← HN.out]
                        exact Nt.from_to (.tmp 139) (.tmp 140) rfl HRN.out d0 d1
                      · refine ⟨fun v w hv => by (have hv' : v = .bool false := hv); subst hv'; exact (if_pos rfl).mpr rfl, fun ρ w1 hr hd => ?_⟩
                        obtain ⟨d0, _⟩ := hd
                        have d0 : ρ (.tmp 14) = .slice (some ⟨gw, ow, none⟩) cur.length cw := d0
                        refine (if_pos (by rfl)).mpr ?_
                        refine Og.gives_is (.slice (some ⟨gw, ow, none⟩) cur.length cw) ?_ (And.intro (Below.refl _ _) rfl)
                        go_simp
                      · refine ⟨fun v w hv => by (have hv' : v = .bool false := hv); subst hv'; exact (if_pos rfl).mpr rfl, fun ρ w1 hr hd => ?_⟩
                        obtain ⟨d0, _⟩ := hd
                        have d0 : ρ (.tmp 18) = .int .i64 (r : Int) := d0
                        refine (if_pos (by rfl)).mpr ?_
                        refine Og.gives_is (.int .i64 (r : Int)) ?_ (And.intro (Below.refl _ _) rfl)
                        go_simp
                      · refine ⟨fun v w hv => by (have hv' : v = .bool false := hv); subst hv'; exact (if_pos rfl).mpr rfl, fun ρ w1 hr hd => ?_⟩
                        obtain ⟨d0, d1, _⟩ := hd
                        have d0 : ρ (.tmp 143) = .int .i64 (r : Int) := d0
                        have d1 : ρ (.const (.int .i64 1)) = (.int .i64 1) := d1
                        refine (if_pos (by rfl)).mpr ?_
                        refine Og.gives_is (.int .i64 ((r + 1 : Nat) : Int)) ?_ (And.intro (Below.refl _ _) rfl)
                        go_simp; rw [IntKind.wrap_i64]; omega
                      · refine ⟨fun v w hv => by (have hv' : v = .bool false := hv); subst hv'; exact (if_pos rfl).mpr rfl, fun ρ w1 hr hd => ?_⟩
                        obtain ⟨d0, d1, _⟩ := hd
                        have d0 : ρ (.tmp 142) = .slice (some ⟨gw, ow, none⟩) cur.length cw := d0
                        have d1 : ρ (.tmp 144) = .int .i64 ((r + 1 : Nat) : Int) := d1
                        refine (if_pos (by rfl)).mpr ?_
                        refine Og.gives_is (.slice sb wd.length sd) ?_ (And.intro (Below.refl _ _) rfl)
                        rw [← HB.out, ← HD.out, ← HW.out]
                        exact Nt.from_to (.tmp 142) (.tmp 144) rfl HRM.out d0 d1
                      · refine ⟨fun v w hv => by (have hv' : v = .bool false := hv); subst hv'; exact (if_pos rfl).mpr rfl, fun ρ w1 hr hd => ?_⟩
                        obtain ⟨d0, d1, d2, _⟩ := hd
                        have d0 : ρ (.func 41) = .func (.func 41) #[] #[] := d0
                        have d1 : ρ (.tmp 141) = .slice sa nd.length sc := d1
                        have d2 : ρ (.tmp 145) = .slice sb wd.length sd := d2
                        refine (if_pos (by rfl)).mpr ?_
                        refine Og.gives_call 41 #[.slice sa nd.length sc, .slice sb wd.length sd] ?_ ?_
                        · go_simp
                        · refine (Nt.rsame_any sa sb sc sd nd wd hd1 hd2 w1 (LND.out.kp (Ev.kp_below hr)) (LWD.out.kp (Ev.kp_below hr))).mono ?_
                          rintro e' w3 ⟨rfl, hb⟩
                          exact ⟨_, rfl, hb, by rw [HSM.out]; rfl⟩
                      · refine ⟨fun v w hv => by (have hv' : v = .bool false := hv); subst hv'; exact (if_pos rfl).mpr rfl, fun ρ w1 hr hd => ?_⟩
                        obtain ⟨d0, _⟩ := hd
                        have d0 : ρ (.tmp 146) = .bool true := d0
                        refine (if_pos (by rfl)).mpr ?_
                        refine Og.gives_is (.bool false) ?_ (And.intro (Below.refl _ _) rfl)
                        go_simp
                      · refine ⟨fun v w hv => by (have hv' : v = .bool true := hv); subst hv'; exact (if_pos rfl).mpr rfl, fun ρ w1 hr hd => ?_⟩
                        obtain ⟨d0, d1, d2, _⟩ := hd
                        have d0 : ρ (.tmp 138) = .bool false := d0
                        have d1 : ρ (.const (Value.bool true)) = (Value.bool true) := d1
                        have d2 : ρ (.tmp 147) = .bool false := d2
                        refine (if_pos (by rfl)).mpr ?_
                        refine Og.gives_is (.bool false) ?_ (And.intro (Below.refl _ _) rfl)
                        go_simp
                      · refine ⟨rfl, fun ρ w1 hr hd => ?_⟩
                        obtain ⟨d0, d1, d2, _⟩ := hd
                        have d0 : ρ (.tmp 131) = .bool true := d0
                        have d1 : ρ (.tmp 148) = .bool false := d1
                        have d2 : ρ (.const (Value.bool false)) = (Value.bool false) := d2
                        refine (if_pos (by rfl)).mpr ?_
                        refine Og.gives_is (.bool false) ?_ (And.intro (Below.refl _ _) rfl)
                        go_simp
                    · intro vs w1 hbz hall
                      have e0 : vs 0 = .bool true := hall 0 _ 130 rfl rfl
                      have e1 : vs 1 = .bool true := hall 1 _ 131 rfl rfl
                      have e2 : vs 2 = .slice (some ⟨gw, ow, none⟩) cur.length cw := hall 2 _ 132 rfl rfl
                      have e3 : vs 3 = .int .i64 (r : Int) := hall 3 _ 133 rfl rfl
                      have e4 : vs 4 = .pointer (some ⟨gw, ow + r * 20, none⟩) := hall 4 _ 134 rfl rfl
                      have e5 : vs 5 = .agg (Nt.cells m).toArray := hall 5 _ 135 rfl rfl
                      have e6 : vs 6 = .agg (Nt.cells m).toArray := hall 6 _ 136 rfl rfl
                      have e7 : vs 7 = .bool false := hall 7 _ 137 rfl rfl
                      have e8 : vs 8 = .bool false := hall 8 _ 138 rfl rfl
                      have e9 : vs 9 = .slice an now.length cn := hall 9 _ 139 rfl rfl
                      have e10 : vs 10 = .int .i64 (r : Int) := hall 10 _ 140 rfl rfl
                      have e11 : vs 11 = .slice sa nd.length sc := hall 11 _ 141 rfl rfl
                      have e12 : vs 12 = .slice (some ⟨gw, ow, none⟩) cur.length cw := hall 12 _ 142 rfl rfl
                      have e13 : vs 13 = .int .i64 (r : Int) := hall 13 _ 143 rfl rfl
                      have e14 : vs 14 = .int .i64 ((r + 1 : Nat) : Int) := hall 14 _ 144 rfl rfl
                      have e15 : vs 15 = .slice sb wd.length sd := hall 15 _ 145 rfl rfl
                      have e16 : vs 16 = .bool true := hall 16 _ 146 rfl rfl
                      have e17 : vs 17 = .bool false := hall 17 _ 147 rfl rfl
                      have e18 : vs 18 = .bool false := hall 18 _ 148 rfl rfl
                      have e19 : vs 19 = .bool false := hall 19 _ 149 rfl rfl
                      have HBZ := Lib.hid hbz
                      simp only [Og.putAll, Act.put, List.setIfInBounds_toArray, List.set_cons_zero, List.set_cons_succ, Nat.zero_add, Nat.reduceAdd, e0, e1, e2, e3, e4, e5, e6, e7, e8, e9, e10, e11, e12, e13, e14, e15, e16, e17, e18, e19]
                      clear hall hbz
                      go_wp2_with (first
                        | ((with_reducible show wpList _ _ _ (Oper.mk (some 152) _ _ _ _ _ :: _) _ _); refine wpList_load_row rfl 57 (.tmp 15) rfl W4.heap.size rfl 57 _ (0, 0) _ ((HBZ.out.block _ (Array.getElem?_eq_some_iff.1 R7.out).1).trans R7.out) Try.underlying57 rfl (by rw [HMO.out.size]; exact Nt.size_msg) ?_; refine Nt.Stop.out ?_))
                      refine ⟨?_⟩
                      have B8 := Lib.hid ((B6.out.kp BX).kp HBZ.out)
                      obtain ⟨W9, a', c', W10, hW9, hrun, hb9, ho, hf, hok⟩ := Nt.add_one B8.out.c B8.out.cok HMO.out (by omega)
                      obtain ⟨H', h10⟩ := B8.out.addC hb9 ho hf hok
                      have B10 := Lib.hid h10; have HR := Lib.hid hrun; have HW9 := Lib.hid hW9
                      clear h10 hrun hW9 hb9 ho hf hok
                      go_wp2_with (first
                        | ((with_reducible show wpList _ _ _ (Oper.mk (some 153) _ _ _ _ _ :: _) _ _); refine Nt.wpList_buildMsg rfl m HMO.out (.tmp 152) rfl rfl ?_; rw [← HW9.out])
                        | ((with_reducible show wpList _ _ _ (Oper.mk (some 154) _ _ _ _ _ :: _) _ _); refine Nt.wpList_append rfl (.tmp 151) (.tmp 153) 68 rfl rfl rfl HR.out ?_))
                      go_roundw
                      case rel => exact ⟨j + 1, by omega, by go_num, F4, H', now, a', c', C ++ [m], by simp, B10.out, by rw [List.append_assoc]; exact PM.out.trans (HDP.out.symm.append_left C), by omega⟩
                      case measure => simp [intOf]; omega
        · have hji : ¬ (j : Int) ≤ (xs.length : Int) := by omega
          have hc0 : cur = [] := List.eq_nil_of_length_eq_zero (by omega)
          have hz : (cur.length : Int) = 0 := by rw [hc0]; rfl
          have HPC := Lib.hid (show S.Perm C by rw [hc0, List.append_nil] at hpm; exact hpm)
          have hcs : (C.length : Int) = (S.length : Int) := by omega
          clear hal hpm hll hc0 hcl
          go_wp2_with (first
            | (go_at_call 32; (with_reducible refine (Nt.len_any _ BL.out.net).mono ?_); rintro e' W9 ⟨rfl, hw9⟩; subst hw9))
          clear hcs
          go_loopw [19] (fun i wx => ∃ t : Nat, t ≤ S.length ∧ i = .int .i64 (t : Int) ∧ Below wr.heap.size wr wx) (fun i _ => S.length - (intOf i).toNat)
          case atStart => exact ⟨0, Nat.zero_le _, rfl, Below.refl _ _⟩
          case round =>
            obtain ⟨t, ht, rfl, hbt⟩ := hrel
            have BLW := Lib.hid hbt
            have BT := Lib.hid (BL.out.kp hbt)
            clear hbt
            by_cases hts : t < S.length
            · have hti : (t : Int) < (S.length : Int) := by omega
              obtain ⟨m, hm⟩ : ∃ m, S[t]? = some m := ⟨_, List.getElem?_eq_getElem hts⟩
              have HMO := Lib.hid (BT.out.sok m (List.mem_of_getElem? hm))
              have LS := Lib.hid (BT.out.s.ls BT.out.sok); have LC := Lib.hid (BT.out.c.ls BT.out.cok)
              obtain ⟨gs, os, eas, hcs⟩ := LS.out.at_ hm
              have HCS := Lib.hid hcs
              have HCE := Lib.hid (show Nt.cnt C m = Nt.cnt S m from (HPC.out.countP_eq _).symm)
              have hb1 : S.length ≤ 2000 := by omega
              have hb2 : C.length ≤ 2000 := by omega
              clear hm hcs
              have LS2 := LS.out
              rw [eas] at LS2
              have LS := Lib.hid LS2
              clear LS2
              rw [eas]
              go_wp2_with fail
              refine Og.region3 (by kernel_rfl) (fun t => ([(171, 0), (172, 1), (173, 2), (174, 3), (175, 4), (176, 5), (177, 6), (178, 7), (179, 8), (180, 9), (181, 10), (182, 11), (183, 12)] : List (Nat × Nat)).lookup t) [.is (.slice (some ⟨gs, os, none⟩) S.length c7), .is (.slice (some ⟨gs, os, none⟩) S.length c7), .is (.int .i64 (t : Int)), .is (.pointer (some ⟨gs, os + t * 20, none⟩)), .is (.agg (Nt.cells m).toArray), .is (.int .i64 (Nt.cnt S m : Int)), .is (.slice a8 C.length c8), .is (.slice (some ⟨gs, os, none⟩) S.length c7), .is (.int .i64 (t : Int)), .is (.pointer (some ⟨gs, os + t * 20, none⟩)), .is (.agg (Nt.cells m).toArray), .is (.int .i64 (Nt.cnt S m : Int)), .is (.bool false)] [true, true, true, true, true, true, true, true, true, true, true, true, true] (by kernel_rfl) ?_ ?_
              · refine ⟨?_, ?_, ?_, ?_, ?_, ?_, ?_, ?_, ?_, ?_, ?_, ?_, ?_, trivial⟩
                · refine ⟨rfl, fun ρ w1 hr hd => ?_⟩
                  obtain ⟨d0, _⟩ := hd
                  have d0 : ρ (.tmp 7) = .slice (some ⟨gs, os, none⟩) S.length c7 := d0
                  refine (if_pos (by rfl)).mpr ?_
                  refine Og.gives_is (.slice (some ⟨gs, os, none⟩) S.length c7) ?_ (And.intro (Below.refl _ _) rfl)
                  go_simp
                · refine ⟨rfl, fun ρ w1 hr hd => ?_⟩
                  obtain ⟨d0, _⟩ := hd
                  have d0 : ρ (.tmp 7) = .slice (some ⟨gs, os, none⟩) S.length c7 := d0
                  refine (if_pos (by rfl)).mpr ?_
                  refine Og.gives_is (.slice (some ⟨gs, os, none⟩) S.length c7) ?_ (And.intro (Below.refl _ _) rfl)
                  go_simp
                · refine ⟨rfl, fun ρ w1 hr hd => ?_⟩
                  obtain ⟨d0, _⟩ := hd
                  have d0 : ρ (.tmp 19) = .int .i64 (t : Int) := d0
                  refine (if_pos (by rfl)).mpr ?_
                  refine Og.gives_is (.int .i64 (t : Int)) ?_ (And.intro (Below.refl _ _) rfl)
                  go_simp
                · refine ⟨rfl, fun ρ w1 hr hd => ?_⟩
                  obtain ⟨d0, d1, _⟩ := hd
                  have d0 : ρ (.tmp 172) = .slice (some ⟨gs, os, none⟩) S.length c7 := d0
                  have d1 : ρ (.tmp 173) = .int .i64 (t : Int) := d1
                  refine (if_pos (by rfl)).mpr ?_
                  refine Og.gives_is (.pointer (some ⟨gs, os + t * 20, none⟩)) ?_ (And.intro (Below.refl _ _) rfl)
                  go_simp
                · refine ⟨rfl, fun ρ w1 hr hd => ?_⟩
                  obtain ⟨d0, _⟩ := hd
                  have d0 : ρ (.tmp 174) = .pointer (some ⟨gs, os + t * 20, none⟩) := d0
                  refine (if_pos (by rfl)).mpr ?_
                  refine Og.gives_is (.agg (Nt.cells m).toArray) ?_ (And.intro (Below.refl _ _) rfl)
                  exact Og.load_run 57 (.tmp 174) rfl ⟨gs, os + t * 20, none⟩ d0 (run_loadVar_at w1 gs (os + t * 20) 57 (Nt.cells m) _ (fun i c hi => Ev.kp_below hr _ _ (HCS.out i c hi)) Try.underlying57 rfl (by rw [HMO.out.len]; exact Nt.size_msg))
                · refine ⟨rfl, fun ρ w1 hr hd => ?_⟩
                  obtain ⟨d0, d1, d2, _⟩ := hd
                  have d0 : ρ (.func 42) = .func (.func 42) #[] #[] := d0
                  have d1 : ρ (.tmp 171) = .slice (some ⟨gs, os, none⟩) S.length c7 := d1
                  have d2 : ρ (.tmp 175) = .agg (Nt.cells m).toArray := d2
                  refine (if_pos (by rfl)).mpr ?_
                  refine Og.gives_call 42 #[.slice (some ⟨gs, os, none⟩) S.length c7, .agg (Nt.cells m).toArray] ?_ ?_
                  · go_simp
                  · refine (Nt.counted_any _ _ S hb1 m HMO.out w1 (LS.out.kp (Ev.kp_below hr))).mono ?_
                    rintro e' w3 ⟨rfl, hb⟩
                    exact ⟨_, rfl, hb, rfl⟩
                · refine ⟨rfl, fun ρ w1 hr hd => ?_⟩
                  obtain ⟨d0, _⟩ := hd
                  have d0 : ρ (.tmp 8) = .slice a8 C.length c8 := d0
                  refine (if_pos (by rfl)).mpr ?_
                  refine Og.gives_is (.slice a8 C.length c8) ?_ (And.intro (Below.refl _ _) rfl)
                  go_simp
                · refine ⟨rfl, fun ρ w1 hr hd => ?_⟩
                  obtain ⟨d0, _⟩ := hd
                  have d0 : ρ (.tmp 7) = .slice (some ⟨gs, os, none⟩) S.length c7 := d0
                  refine (if_pos (by rfl)).mpr ?_
                  refine Og.gives_is (.slice (some ⟨gs, os, none⟩) S.length c7) ?_ (And.intro (Below.refl _ _) rfl)
                  go_simp
                · refine ⟨rfl, fun ρ w1 hr hd => ?_⟩
                  obtain ⟨d0, _⟩ := hd
                  have d0 : ρ (.tmp 19) = .int .i64 (t : Int) := d0
                  refine (if_pos (by rfl)).mpr ?_
                  refine Og.gives_is (.int .i64 (t : Int)) ?_ (And.intro (Below.refl _ _) rfl)
                  go_simp
                · refine ⟨rfl, fun ρ w1 hr hd => ?_⟩
                  obtain ⟨d0, d1, _⟩ := hd
                  have d0 : ρ (.tmp 178) = .slice (some ⟨gs, os, none⟩) S.length c7 := d0
                  have d1 : ρ (.tmp 179) = .int .i64 (t : Int) := d1
                  refine (if_pos (by rfl)).mpr ?_
                  refine Og.gives_is (.pointer (some ⟨gs, os + t * 20, none⟩)) ?_ (And.intro (Below.refl _ _) rfl)
                  go_simp
                · refine ⟨rfl, fun ρ w1 hr hd => ?_⟩
                  obtain ⟨d0, _⟩ := hd
                  have d0 : ρ (.tmp 180) = .pointer (some ⟨gs, os + t * 20, none⟩) := d0
                  refine (if_pos (by rfl)).mpr ?_
                  refine Og.gives_is (.agg (Nt.cells m).toArray) ?_ (And.intro (Below.refl _ _) rfl)
                  exact Og.load_run 57 (.tmp 180) rfl ⟨gs, os + t * 20, none⟩ d0 (run_loadVar_at w1 gs (os + t * 20) 57 (Nt.cells m) _ (fun i c hi => Ev.kp_below hr _ _ (HCS.out i c hi)) Try.underlying57 rfl (by rw [HMO.out.len]; exact Nt.size_msg))
                · refine ⟨rfl, fun ρ w1 hr hd => ?_⟩
                  obtain ⟨d0, d1, d2, _⟩ := hd
                  have d0 : ρ (.func 42) = .func (.func 42) #[] #[] := d0
                  have d1 : ρ (.tmp 177) = .slice a8 C.length c8 := d1
                  have d2 : ρ (.tmp 181) = .agg (Nt.cells m).toArray := d2
                  refine (if_pos (by rfl)).mpr ?_
                  refine Og.gives_call 42 #[.slice a8 C.length c8, .agg (Nt.cells m).toArray] ?_ ?_
                  · go_simp
                  · refine (Nt.counted_any _ _ C hb2 m HMO.out w1 (LC.out.kp (Ev.kp_below hr))).mono ?_
                    rintro e' w3 ⟨rfl, hb⟩
                    exact ⟨_, rfl, hb, by rw [HCE.out]; rfl⟩
                · refine ⟨rfl, fun ρ w1 hr hd => ?_⟩
                  obtain ⟨d0, d1, _⟩ := hd
                  have d0 : ρ (.tmp 176) = .int .i64 (Nt.cnt S m : Int) := d0
                  have d1 : ρ (.tmp 182) = .int .i64 (Nt.cnt S m : Int) := d1
                  refine (if_pos (by rfl)).mpr ?_
                  refine Og.gives_is (.bool false) ?_ (And.intro (Below.refl _ _) rfl)
                  simp only [execOp, d0, d1]; go_simp; try simp
              · intro vs w1 hbz hall
                have e0 : vs 0 = .slice (some ⟨gs, os, none⟩) S.length c7 := hall 0 _ 171 rfl rfl
                have e1 : vs 1 = .slice (some ⟨gs, os, none⟩) S.length c7 := hall 1 _ 172 rfl rfl
                have e2 : vs 2 = .int .i64 (t : Int) := hall 2 _ 173 rfl rfl
                have e3 : vs 3 = .pointer (some ⟨gs, os + t * 20, none⟩) := hall 3 _ 174 rfl rfl
                have e4 : vs 4 = .agg (Nt.cells m).toArray := hall 4 _ 175 rfl rfl
                have e5 : vs 5 = .int .i64 (Nt.cnt S m : Int) := hall 5 _ 176 rfl rfl
                have e6 : vs 6 = .slice a8 C.length c8 := hall 6 _ 177 rfl rfl
                have e7 : vs 7 = .slice (some ⟨gs, os, none⟩) S.length c7 := hall 7 _ 178 rfl rfl
                have e8 : vs 8 = .int .i64 (t : Int) := hall 8 _ 179 rfl rfl
                have e9 : vs 9 = .pointer (some ⟨gs, os + t * 20, none⟩) := hall 9 _ 180 rfl rfl
                have e10 : vs 10 = .agg (Nt.cells m).toArray := hall 10 _ 181 rfl rfl
                have e11 : vs 11 = .int .i64 (Nt.cnt S m : Int) := hall 11 _ 182 rfl rfl
                have e12 : vs 12 = .bool false := hall 12 _ 183 rfl rfl
                have HBZ := Lib.hid hbz
                simp only [Og.putAll, Act.put, List.setIfInBounds_toArray, List.set_cons_zero, List.set_cons_succ, Nat.zero_add, Nat.reduceAdd, e0, e1, e2, e3, e4, e5, e6, e7, e8, e9, e10, e11, e12]
                clear hall hbz
                go_wp2_with fail
                have HB2 := Lib.hid (BLW.out.trans (HBZ.out.mono BLW.out.size))
                go_roundw
                case rel => exact ⟨t + 1, by omega, by go_num, HB2.out⟩
                case measure => simp [intOf]; omega
            · have hti : ¬ (t : Int) < (S.length : Int) := by omega
              go_wp2_with (first
                | (go_at_call 25; (with_reducible refine (Nt.num_any _ _).mono ?_); rintro e' W9 ⟨rfl, hw9⟩; subst hw9)
                | (go_at_call 28; (with_reducible refine (Nt.works_any _).mono ?_); rintro e' W9 ⟨rfl, hb⟩; have B11 := Lib.hid (BT.out.bel.trans (hb.mono BT.out.bel.size)); clear hb))
              go_ret
              exact ⟨rfl, B11.out⟩
/-! THE WALK: the Go text returns true; of memory nothing that stood there has turned. -/
set_option maxRecDepth 100000 in
set_option maxHeartbeats 400000 in
theorem walk (w : World) (a0 : Option Addr) (n0 c0 : Nat) (x0 : List Nt.Act) (l0 : x0.length = n0) (b0 : Nt.AsIn w a0 c0 x0) (a1 : Option Addr) (n1 c1 : Nat) (x1 : List Int) (l1 : x1.length = n1) (b1 : Nt.PsIn w a1 c1 x1) :
    Calls Try.prog 10 #[.slice a0 n0 c0, .slice a1 n1 c1] w fun e w' => e = .returned (.bool true) ∧ Below w.heap.size w w' := by
  by_cases hg : (100 : Int) < (n0 : Int)
  · exact walk_many w a0 n0 c0 a1 n1 c1 hg
  · subst l0; subst l1
    exact walk_few w a0 c0 x0 b0 (by omega) a1 c1 x1 b1

/-! THE ROW -/
set_option maxRecDepth 100000 in
theorem lifted (os : Os) (started : os.Started) (H : Type) (enc : TypeId × Value → H) :
    ReturnsInHanded {} Try.checked os 10 .any (Rows.netAllSpec.pre6 enc Try.prog Try.f10 Rows.netAllRow.domain false) (Rows.netAllSpec.post enc Try.prog Try.f10 false true false false) := by
  refine returnsInHanded_of_change (C := Try.checked) own started (by kernel_rfl) Try.func10
    (ChangeSpec.witness6 (enc := enc) (C := Try.checked) false ⟨#[], #[.slice none 0 0, .slice none 0 0], []⟩ 8 (by kernel_rfl) (by kernel_rfl) (by kernel_rfl) (by kernel_rfl)) ?_
  intro W base args ds gs before hval0 hW hcnd _
  have hval : ∀ (j : Nat) t v, Try.f10.params[j]? = some t → args[j]? = some v → Value.okWide Try.prog W .any base t v := hval0
  have hW' := hW
  obtain ⟨p, q, hA0, hV, rfl, hfz, hnd⟩ := hW
  have hA : DataW.TrodAll enc Try.prog W 0 (fun _ => true) true Try.f10.params.toList args.toList ds p := hA0
  rw [Try.params10] at hA hval
  obtain ⟨v0, vs0, d0, ds0, p0, q0, hargs, rfl, rfl, h0, r0⟩ := trodAll_cons hA
  obtain ⟨v1, vs1, d1, ds1, p1, q1, rfl, rfl, rfl, h1, r1⟩ := trodAll_cons r0
  obtain ⟨rfl, rfl, rfl⟩ := trodAll_nil r1
  obtain rfl : args = #[v0, v1] := by cases args; simp_all
  obtain ⟨rfl, rfl⟩ := trodVars_none hV
  clear hA0 hval0
  simp only [List.append_nil] at hW'
  have hlt : ∀ x ∈ p0 ++ (p1), x.block < W.heap.size := fun x hx => by simpa using hW'.lt x (by simpa using hx)
  obtain ⟨a0, n0, c0, rfl⟩ := okWide_slice Try.underlying74 (hval 0 74 v0 rfl rfl)
  obtain ⟨x0, l0, b0⟩ := open_acts h0
  obtain ⟨a1, n1, c1, rfl⟩ := okWide_slice Try.underlying91 (hval 1 91 v1 rfl rfl)
  obtain ⟨x1, l1, b1⟩ := open_picks h1
  refine (walk W a0 n0 c0 x0 l0 b0 a1 n1 c1 x1 l1 b1).mono fun e W' ⟨he, hb⟩ => ?_
  subst he
  have harg0 : DataW.Trod enc Try.prog W' 0 (fun b => decide (b < W.heap.size)) true 74 _ _ _ := Below.trod laidOut (by kernel_rfl) (of_decide_eq_true (by kernel_rfl)) h0 hb (fun x hx => hlt x (by simp [hx]))
  have harg1 : DataW.Trod enc Try.prog W' 0 (fun b => decide (b < W.heap.size)) true 91 _ _ _ := Below.trod laidOut (by kernel_rfl) (of_decide_eq_true (by kernel_rfl)) h1 hb (fun x hx => hlt x (by simp [hx]))
  exact ⟨_, rfl, _, _, _, [], _, [], hW', trodAll_mk1 (shut_bool Try.underlying4 _), (trodAll_cons_mk harg0 (trodAll_cons_mk harg1 trodAll_mk0)), rfl, hb.frame _, fun h => by cases h⟩

theorem over : Rows.netAllRow.holds Try.pinned (OpenSpec.ofChange Rows.netAllSpec) :=
  OpenClaim.holds_of_wide 10 Try.f10 rfl rfl rfl rfl rfl rfl rfl ⟨rfl, rfl, rfl, rfl, rfl⟩ rfl rfl rfl rfl rfl (by kernel_rfl) Try.func10 (by kernel_rfl)
    (of_decide_eq_true (by kernel_rfl)) (by unfold Func.isWrapper; first | (rw [if_pos (by decide +kernel)]; kernel_rfl) | (rw [if_neg (by decide +kernel)]; exact ⟨rfl, rfl⟩))
    (fun os started H enc _ => lifted os started H enc)

/-- THE STATEMENT -/
theorem proved : Rows.NetAllSaid :=
  over
end Go.Proofs.Ytnfpcklpmfemiaa.netAll
