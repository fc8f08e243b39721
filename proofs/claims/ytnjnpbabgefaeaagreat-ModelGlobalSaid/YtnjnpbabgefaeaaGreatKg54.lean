import Derived.Test.YtnjnpbabgefaeaaGreatKg53
import Derived.Test.YtnjnpbabgefaeaaGreatKg51
set_option linter.unusedVariables false
set_option linter.unusedSimpArgs false

section
namespace Go.Proofs.YtnjnpbabgefaeaaGreat
open Go.RowKit
namespace Md
open Ev
theorem more_all {α : Type} {l : List α} {f : α → Bool} {k : Nat} {p : α} (h : l[k]? = some p) : (l.take (k + 1)).all f = ((l.take k).all f && f p) := by
  rw [take_snoc' h, List.all_append]; simp
theorem left_at {x : X} {out : List Nat} {n : Nat} (h : nextL x out = some n) : ∃ i : Nat, (leftL x out)[i]? = some n := by
  have := List.mem_of_find?_eq_some h
  obtain ⟨i, hi, e⟩ := List.mem_iff_getElem.1 this
  exact ⟨i, by rw [List.getElem?_eq_getElem hi]; exact congrArg some e⟩
theorem left_lt {x : X} {out : List Nat} {n : Nat} (h : nextL x out = some n) : n < x.ev.length := (left_mem.1 (List.mem_of_find?_eq_some h)).1.1
end Md
theorem rat_out (o : List Nat) (a : Option Addr) (c n : Nat) (r : Int) (hr : Ev.at_ (Md.cI o) (n : Int) = r) (w : World) (hS : Ev.IntsIn w ⟨a, c, Md.cI o⟩) : Calls Tryz.prog 33 #[.slice a o.length c, .int .i64 (n : Int)] w fun e w' => e = .returned (.int .i64 r) ∧ w = w' := by
  have := rat_any ⟨a, c, Md.cI o⟩ (n : Int) w hS
  rw [hr] at this
  have e : (Md.cI o).length = o.length := by simp [Md.cI]
  rw [← e]; exact this
set_option maxRecDepth 100000 in
set_option maxHeartbeats 16000000 in
theorem rglobal_any (x : Ev.X) (w : World) (hin : Ev.XIn w x) (hc : Ev.check x = 0) :
    Calls Tryz.prog 25 #[Ev.exV x] w (Md.GlR x w) := by
  have HN := Lib.hid (show x.ev.length ≤ 64 from (Ev.check_order hc).2.2)
  have hl1 := hin.ev.le; have hl2 := hin.ev.max
  obtain ⟨xb, hxb⟩ : ∃ xb, xb = w.heap.size := ⟨_, rfl⟩
  obtain ⟨B, hB⟩ : ∃ B, B = w.alloc (.cells (Ev.xcells x).toArray 26) := ⟨_, rfl⟩
  have HB := Lib.hid hB; have HXB := Lib.hid hxb
  have B0 := Lib.hid (show Below w.heap.size w B by rw [hB]; exact (Below.refl w.heap.size w).alloc (Nat.le_refl _) _)
  have RX0 := Lib.hid (show B.heap[xb]? = some (.cells #[.slice x.ae x.ev.length x.ce, .slice x.fr.a x.fr.l.length x.fr.c, .slice x.ao x.od.length x.co] 26 (0, 0)) by rw [hB, hxb]; exact heap_alloc_new _ _)
  have HX0 := Lib.hid (show Ev.XIn B x from hin.kp (Ev.kp_below B0.out))
  have HC := Lib.hid hc
  obtain ⟨L, hL⟩ : ∃ L, Ev.pl (Ev.isG6 x) x.ev.length x.ev.length = L := ⟨_, rfl⟩
  have HL := Lib.hid hL
  have HLB := Lib.hid (show ∀ p ∈ L, p.1 < x.ev.length ∧ p.2 < x.ev.length by rw [← hL]; exact Md.pl_bd)
  have HLL := Lib.hid (show L.length ≤ 4096 by rw [← hL]; exact Md.pl_small HN.out)
  have HP6 := Lib.hid (rpairs6_any x B HX0.out hc)
  rw [hL] at HP6
  obtain ⟨i0, hi, hz0, hz1, hz2⟩ := info_int
  have HI := Lib.hid hi; have HZ0 := Lib.hid hz0; have HZ1 := Lib.hid hz1; have HZ2 := Lib.hid hz2
  obtain ⟨f, hf⟩ : ∃ f : Nat → Bool, f = fun n : Nat => (Ev.nth x.ev (n : Int)).k != 4 := ⟨_, rfl⟩
  have HF := Lib.hid hf
  have HPL := Lib.hid (show Md.placedL x = Md.fl f x.ev.length by rw [hf]; exact Md.placed_fl x)
  clear hin hc hxb hB hL hi hz0 hz1 hz2 hf
  unfold Ev.exV
  go_enter Tryz.func25, Tryz.ntmps25
  go_wp2_with (first
    | ((with_reducible show wpList _ _ _ (Oper.mk (some 12) _ _ _ _ _ :: _) _ _); rw [← HB.out, ← HXB.out])
    | ((with_reducible show wpList _ _ _ (Oper.mk (some 12) _ _ _ _ _ :: _) _ _); refine wpList_load_row rfl 26 (.tmp 1) rfl xb (by kernel_rfl) 26 #[.slice x.ae x.ev.length x.ce, .slice x.fr.a x.fr.l.length x.fr.c, .slice x.ao x.od.length x.co] (0, 0) _ RX0.out Tryz.underlying26 rfl (by kernel_rfl) ?_))
  refine HP6.out.mono ?_
  rintro e W1 ⟨ad, cc, rfl, hp, hb⟩
  have B1 := Lib.hid (B0.out.trans (hb.mono B0.out.size))
  have RX := Lib.hid ((hb.block _ (Array.getElem?_eq_some_iff.1 RX0.out).1).trans RX0.out)
  have HX := Lib.hid (HX0.out.kp (Ev.kp_below hb))
  have HP := Lib.hid hp
  clear hb hp
  have cx1 : W1.cell? ⟨xb, 0, none⟩ = some (.slice x.ae x.ev.length x.ce) := by rw [cell_of_row _ _ _ _ _ _ RX.out]; rfl
  go_wp2_with fail
  go_loopw [6, 7] (fun m i wr => ∃ k : Nat, k ≤ x.ev.length ∧ i = .int .i64 (k : Int) ∧ m = .int .i64 ((Md.fl f k).length : Int) ∧ W1 = wr) (fun _ i _ => x.ev.length - (intOf i).toNat)
  case atStart => exact ⟨0, Nat.zero_le _, rfl, rfl, rfl⟩
  case round =>
    obtain ⟨k, hk, rfl, rfl, rfl⟩ := hrel
    by_cases hlt : k < x.ev.length
    · have hki : (k : Int) < (x.ev.length : Int) := by omega
      obtain ⟨e1, he1⟩ : ∃ e, x.ev[k]? = some e := ⟨_, List.getElem?_eq_getElem hlt⟩
      obtain ⟨g, o, eg, hc1⟩ := HX.out.ev.at_ he1
      rw [eg] at cx1
      have ck := hc1 1 _ rfl
      have HFK := Lib.hid (show f k = (e1.k != 4) by rw [HF.out]; show ((Ev.nth x.ev k).k != 4) = _; rw [Ev.nth_some he1])
      have hfl : (Md.fl f k).length ≤ k := Md.fl_len f k
      have HFL := Lib.hid hfl
      clear hc1 he1 eg hfl
      by_cases h4 : e1.k = 4
      · have t4 : (e1.k != 4) = false := by simpa using h4
        have HTF := Lib.hid (Md.fl_no (show f k = false by rw [HFK.out]; exact t4))
        go_wp2_with fail
        first
          | exact ⟨⟨k + 1, by omega, by go_num, by rw [HTF.out], (by first | rfl | trivial)⟩, by simp [intOf] <;> omega⟩
          | (go_roundw
             case rel => exact ⟨k + 1, by omega, by go_num, by rw [HTF.out], (by first | rfl | trivial)⟩
             case measure => simp [intOf] <;> omega)
      · have t4 : (e1.k != 4) = true := by simpa using h4
        have HTF := Lib.hid (Md.fl_yes (show f k = true by rw [HFK.out]; exact t4))
        obtain ⟨z, hz⟩ : ∃ z, z = (Md.fl f k).length := ⟨_, rfl⟩
        rw [← hz]
        have HZ := Lib.hid hz
        have hz64 : z ≤ 64 := by have := HFL.out; have := HN.out; omega
        clear hz
        go_wp2_with fail
        have HE := Lib.hid (show (Md.fl f (k + 1)).length = z + 1 by rw [HTF.out, List.length_append, HZ.out]; rfl)
        first
          | exact ⟨⟨k + 1, by omega, by go_num, by rw [HE.out]; go_num, (by first | rfl | trivial)⟩, by simp [intOf] <;> omega⟩
          | (go_roundw
             case rel => exact ⟨k + 1, by omega, by go_num, by rw [HE.out]; go_num, (by first | rfl | trivial)⟩
             case measure => simp [intOf] <;> omega)
    · have hke : k = x.ev.length := by omega
      have hki : ¬ (k : Int) < (x.ev.length : Int) := by omega
      have HM := Lib.hid (show (Md.fl f k).length = (Md.placedL x).length by rw [HPL.out, hke])
      rw [HM.out]
      have HP64 := Lib.hid (show (Md.placedL x).length ≤ 64 from Nat.le_trans (Md.placed_len x) HN.out)
      obtain ⟨M, hM⟩ : ∃ M, (Md.placedL x).length = M := ⟨_, rfl⟩
      rw [hM]
      have HMM := Lib.hid hM
      have hM64 : M ≤ 64 := by rw [← hM]; exact HP64.out
      clear hM
      go_wp2_with fail
      go_loopw [5, 8, 9, 10, 11] (fun v _ _ _ _ wr => ∃ out : List Nat, Md.IntRow wr W1.heap.size v out ∧ Below W1.heap.size W1 wr ∧ Md.globalO x = Md.goG x (Md.leftL x out).length out ∧ (∀ m ∈ out, m < 64) ∧ out.length + (Md.leftL x out).length = M) (fun v _ _ _ _ _ => M - Md.lenV v)
      case atStart => exact ⟨[], World.ownsRow_nil _ _ _ _, Below.refl _ _, by rw [Md.left_nil]; rfl, (fun m hm => by cases hm), by rw [Md.left_nil]; simpa using HMM.out⟩
      case round =>
        obtain ⟨out, hrow, hbr, hgl, hlt2, htot⟩ := hrel
        obtain ⟨wo, rfl⟩ : ∃ wo : World, wo = wr := ⟨_, rfl⟩
        obtain ⟨a, c, rfl⟩ := Md.IntRow.form hrow
        have HROW := Lib.hid hrow; have HBR := Lib.hid hbr; have HGL := Lib.hid hgl; have HLT := Lib.hid hlt2; have HTOT := Lib.hid htot
        have HINT := Lib.hid (Md.IntRow.ints hrow (fun q hq => by have := hlt2 q hq; omega))
        have RXo := Lib.hid ((hbr.block _ (Array.getElem?_eq_some_iff.1 RX.out).1).trans RX.out)
        have HXo := Lib.hid (HX.out.kp (Ev.kp_below hbr))
        have HPo := Lib.hid (Md.PairsIn.kp HP.out (Ev.kp_below hbr))
        have cxo : wo.cell? ⟨xb, 0, none⟩ = some (.slice x.ae x.ev.length x.ce) := by rw [cell_of_row _ _ _ _ _ _ RXo.out]; rfl
        have ho64 : out.length ≤ 64 := by omega
        clear hrow hbr hgl hlt2 htot cx1
        by_cases hpos : out.length < M
        · have hposi : (out.length : Int) < (M : Int) := by omega
          go_wp2_with fail
          go_loopw [8, 9, 10, 11] (fun nx n _ _ wr => ∃ m : Nat, m ≤ x.ev.length ∧ n = .int .i64 ((m : Int) - 1) ∧ nx = .int .i64 (Md.least (Md.docFree x out) m (x.ev.length - m)) ∧ wo = wr) (fun _ n _ _ _ => (intOf n + 1).toNat)
          case atStart =>
            exact ⟨x.ev.length, Nat.le_refl _, by go_num, by rw [Nat.sub_self]; rfl, rfl⟩
          case round =>
            obtain ⟨m, hm, rfl, rfl, rfl⟩ := hrel
            by_cases hm0 : 0 < m
            · obtain ⟨n, rfl⟩ : ∃ n, m = n + 1 := ⟨m - 1, by omega⟩
              have hnum : (((n + 1 : Nat) : Int) - 1) = (n : Int) := by omega
              rw [hnum]
              have hlt3 : n < x.ev.length := by omega
              have hni : (0 : Int) ≤ (n : Int) := by omega
              have hnl : (n : Int) < (x.ev.length : Int) := by omega
              obtain ⟨e1, he1⟩ : ∃ e, x.ev[n]? = some e := ⟨_, List.getElem?_eq_getElem hlt3⟩
              obtain ⟨g, o, eg, hc1⟩ := HXo.out.ev.at_ he1
              rw [eg] at cxo
              have ck := hc1 1 _ rfl
              obtain ⟨LV, hLV⟩ : ∃ LV, Md.least (Md.docFree x out) (n + 1) (x.ev.length - (n + 1)) = LV := ⟨_, rfl⟩
              rw [hLV]
              have HLV := Lib.hid hLV
              have HSUB := Lib.hid (show x.ev.length - n = (x.ev.length - (n + 1)) + 1 by omega)
              have HK := Lib.hid (show (Ev.nth x.ev (n : Int)).k = e1.k by rw [Ev.nth_some he1])
              clear hc1 he1 eg hnum hLV
              by_cases h4 : e1.k = 4
              · have t4 : (e1.k == 4) = true := by simpa using h4
                have HNO := Lib.hid (show Md.least (Md.docFree x out) n (x.ev.length - n) = LV by
                  rw [HSUB.out, Md.least_no (by unfold Md.docFree; rw [HK.out, h4]; rfl), HLV.out])
                go_wp2_with fail
                first
                  | exact ⟨⟨n, by omega, by go_num, by rw [HNO.out], by first | rfl | trivial⟩, by simp [intOf] <;> omega⟩
                  | (go_roundw
                     case rel => exact ⟨n, by omega, by go_num, by rw [HNO.out], by first | rfl | trivial⟩
                     case measure => simp [intOf] <;> omega)
              · have t4 : (e1.k == 4) = false := by simpa using h4
                obtain ⟨r, hr⟩ : ∃ r, Ev.at_ (Md.cI out) (n : Int) = r := ⟨_, rfl⟩
                have HR := Lib.hid hr
                have HRO := Lib.hid (show r < 0 ↔ n ∉ out by rw [← hr]; exact Md.at_out out n)
                clear hr
                by_cases hmem : n ∈ out
                · have hr0 : (0 : Int) ≤ r := by
                    rcases Int.lt_or_le r 0 with h | h
                    · exact absurd hmem (HRO.out.1 h)
                    · exact h
                  have HNO := Lib.hid (show Md.least (Md.docFree x out) n (x.ev.length - n) = LV by
                    rw [HSUB.out, Md.least_no (by unfold Md.docFree; rw [show out.contains n = true by simpa using hmem]; simp), HLV.out])
                  go_wp2_with (go_at_call 33; refine (rat_out out a c n r HR.out wo HINT.out).mono ?_; rintro e w1 ⟨rfl, rfl⟩)
                  first
                    | exact ⟨⟨n, by omega, by go_num, by rw [HNO.out], by first | rfl | trivial⟩, by simp [intOf] <;> omega⟩
                    | (go_roundw
                       case rel => exact ⟨n, by omega, by go_num, by rw [HNO.out], by first | rfl | trivial⟩
                       case measure => simp [intOf] <;> omega)
                · have hr0 : ¬ (0 : Int) ≤ r := by have := HRO.out.2 hmem; omega
                  obtain ⟨F, hF⟩ : ∃ F : Nat × Nat → Bool, F = fun p => !(p.2 == n && !out.contains p.1) := ⟨_, rfl⟩
                  have HFF := Lib.hid hF
                  have HDF := Lib.hid (show Md.docFree x out n = L.all F by
                    unfold Md.docFree
                    rw [HK.out, HL.out, hF, show out.contains n = false by simpa using hmem, show (e1.k != 4) = true by simpa using h4]; rfl)
                  clear hF hmem
                  go_wp2_with (go_at_call 33; refine (rat_out out a c n r HR.out wo HINT.out).mono ?_; rintro e w1 ⟨rfl, rfl⟩)
                  clear ck hr0 t4
                  go_loopw [10, 11] (fun fr i wr => ∃ j : Nat, j ≤ L.length ∧ i = .int .i64 (j : Int) ∧ fr = .bool ((L.take j).all F) ∧ wo = wr) (fun _ i _ => L.length - (intOf i).toNat)
                  case atStart => exact ⟨0, Nat.zero_le _, rfl, rfl, rfl⟩
                  case round =>
                    obtain ⟨j, hj, rfl, rfl, rfl⟩ := hrel
                    have hL4 := HLL.out
                    by_cases hjl : j < L.length
                    · have hji : (j : Int) < (L.length : Int) := by omega
                      obtain ⟨p, hp⟩ : ∃ p, L[j]? = some p := ⟨_, List.getElem?_eq_getElem hjl⟩
                      obtain ⟨gp, op, eap, hcp⟩ := Md.PairsIn.at_ HPo.out hp
                      have cp0 : wo.cell? ⟨gp, op + j * 2, none⟩ = some (.int .i64 (p.1 : Int)) := hcp 0 _ rfl
                      have cp1 := hcp 1 _ rfl
                      have HALL := Lib.hid (Md.more_all (f := F) hp)
                      have HFP := Lib.hid (show F p = !(p.2 == n && !out.contains p.1) by rw [HFF.out])
                      obtain ⟨b, hb⟩ : ∃ b, (L.take j).all F = b := ⟨_, rfl⟩
                      rw [hb] at HALL ⊢
                      clear hcp hp hb
                      rw [eap]
                      clear eap
                      cases b
                      case false =>
                        have HS := Lib.hid (show (L.take (j + 1)).all F = false by rw [HALL.out]; rfl)
                        go_wp2_with fail
                        first
                          | exact ⟨⟨j + 1, by omega, by go_num, by rw [HS.out], by first | rfl | trivial⟩, by simp [intOf] <;> omega⟩
                          | (go_roundw
                             case rel => exact ⟨j + 1, by omega, by go_num, by rw [HS.out], by first | rfl | trivial⟩
                             case measure => simp [intOf] <;> omega)
                      case true =>
                        by_cases hpn : p.2 = n
                        · have tp : ((p.2 : Int) == (n : Int)) = true := by rw [hpn]; simp
                          obtain ⟨r2, hr2⟩ : ∃ r2, Ev.at_ (Md.cI out) (p.1 : Int) = r2 := ⟨_, rfl⟩
                          have HR2 := Lib.hid hr2
                          have HRO2 := Lib.hid (show r2 < 0 ↔ p.1 ∉ out by rw [← hr2]; exact Md.at_out out p.1)
                          clear hr2
                          by_cases hp1 : p.1 ∈ out
                          · have hr0 : ¬ r2 < 0 := fun h => HRO2.out.1 h hp1
                            have HS := Lib.hid (show (L.take (j + 1)).all F = true by rw [HALL.out, HFP.out, show out.contains p.1 = true by simpa using hp1]; simp)
                            clear hpn hp1
                            go_wp2_with (go_at_call 33; refine (rat_out out a c p.1 r2 HR2.out wo HINT.out).mono ?_; rintro e w1 ⟨rfl, rfl⟩)
                            first
                              | exact ⟨⟨j + 1, by omega, by go_num, by simp [HS.out, hr0], by first | rfl | trivial⟩, by simp [intOf] <;> omega⟩
                              | (go_roundw
                                 case rel => exact ⟨j + 1, by omega, by go_num, by simp [HS.out, hr0], by first | rfl | trivial⟩
                                 case measure => simp [intOf] <;> omega)
                          · have hr0 : r2 < 0 := HRO2.out.2 hp1
                            have HS := Lib.hid (show (L.take (j + 1)).all F = false by rw [HALL.out, HFP.out, show out.contains p.1 = false by simpa using hp1, show (p.2 == n) = true by simpa using hpn]; rfl)
                            clear hpn hp1
                            go_wp2_with (go_at_call 33; refine (rat_out out a c p.1 r2 HR2.out wo HINT.out).mono ?_; rintro e w1 ⟨rfl, rfl⟩)
                            first
                              | exact ⟨⟨j + 1, by omega, by go_num, by simp [HS.out, hr0], by first | rfl | trivial⟩, by simp [intOf] <;> omega⟩
                              | (go_roundw
                                 case rel => exact ⟨j + 1, by omega, by go_num, by simp [HS.out, hr0], by first | rfl | trivial⟩
                                 case measure => simp [intOf] <;> omega)
                        · have tp : ((p.2 : Int) == (n : Int)) = false := by have h : ¬ (p.2 : Int) = (n : Int) := (by omega); simpa using h
                          have HS := Lib.hid (show (L.take (j + 1)).all F = true by rw [HALL.out, HFP.out, show (p.2 == n) = false by simpa using hpn]; rfl)
                          clear hpn
                          go_wp2_with fail
                          first
                            | exact ⟨⟨j + 1, by omega, by go_num, by rw [HS.out], by first | rfl | trivial⟩, by simp [intOf] <;> omega⟩
                            | (go_roundw
                               case rel => exact ⟨j + 1, by omega, by go_num, by rw [HS.out], by first | rfl | trivial⟩
                               case measure => simp [intOf] <;> omega)
                    · have hji : ¬ (j : Int) < (L.length : Int) := by omega
                      have HT := Lib.hid (show (L.take j).all F = L.all F by rw [List.take_of_length_le (by omega)])
                      obtain ⟨b, hb⟩ : ∃ b, L.all F = b := ⟨_, rfl⟩
                      rw [HT.out, hb]
                      have HB2 := Lib.hid (show Md.docFree x out n = b by rw [HDF.out, hb])
                      clear hb
                      cases b
                      case false =>
                        have HNO := Lib.hid (show Md.least (Md.docFree x out) n (x.ev.length - n) = LV by rw [HSUB.out, Md.least_no HB2.out, HLV.out])
                        go_wp2_with fail
                        first
                          | exact ⟨⟨n, by omega, by go_num, by rw [HNO.out], by first | rfl | trivial⟩, by simp [intOf] <;> omega⟩
                          | (go_roundw
                             case rel => exact ⟨n, by omega, by go_num, by rw [HNO.out], by first | rfl | trivial⟩
                             case measure => simp [intOf] <;> omega)
                      case true =>
                        have HYE := Lib.hid (show Md.least (Md.docFree x out) n (x.ev.length - n) = (n : Int) by rw [HSUB.out, Md.least_yes HB2.out])
                        go_wp2_with fail
                        first
                          | exact ⟨⟨n, by omega, by go_num, by rw [HYE.out], by first | rfl | trivial⟩, by simp [intOf] <;> omega⟩
                          | (go_roundw
                             case rel => exact ⟨n, by omega, by go_num, by rw [HYE.out], by first | rfl | trivial⟩
                             case measure => simp [intOf] <;> omega)
            · have hm1 : m = 0 := by omega
              subst hm1
              have hni : ¬ (0 : Int) ≤ ((0 : Nat) : Int) - 1 := by omega
              rw [Nat.sub_zero]
              have HLS := Lib.hid (Md.next_least HC.out out)
              obtain ⟨o, ho⟩ : ∃ o, Md.nextL x out = o := ⟨_, rfl⟩
              rw [HLS.out, ho]
              have HO := Lib.hid ho
              clear ho cxo hm hm0
              cases o with
              | none =>
                have HNN := Lib.hid (show Md.globalO x = none by
                  obtain ⟨j, hj⟩ : ∃ j, (Md.leftL x out).length = j + 1 := ⟨(Md.leftL x out).length - 1, by have := HTOT.out; omega⟩
                  rw [HGL.out, hj]
                  exact Md.goG_none HO.out)
                have BE := Lib.hid (B1.out.trans (HBR.out.mono B1.out.size))
                simp only []
                go_wp2_with fail
                go_ret2
                exact Md.GlR.no BE.out HNN.out rfl
              | some n =>
                have hnn : ¬ (n : Int) < 0 := by omega
                simp only []
                obtain ⟨i, hi⟩ := Md.left_at HO.out
                have HLE := Lib.hid (Md.left_next_len hi)
                have HLN := Lib.hid (Md.left_lt HO.out)
                clear hi
                go_wp2_with ((with_reducible show wpList _ _ _ (Oper.mk (some 89) _ _ _ _ _ :: _) _ _); refine wpList_append_own _ rfl (.tmp 86) (.tmp 88) 23 rfl W1.heap.size 3 i0 (.int .i64 0) 1 8 Tryz.underlying23 HI.out HZ0.out HZ1.out HZ2.out rfl (by decide) _ _ _ rfl (HROW.out.alloc _) ⟨wo.heap.size, 0, none⟩ 1 1 [.int .i64 (n : Int)] rfl rfl (fun j u hu => World.news_of_block (heap_alloc_new wo _) j u hu) (Md.one_int n) (by unfold maxLen; omega) (by omega) (by have := HBR.out.size; simp only [World.size_alloc]; omega) ?_
                             intro v4 W4 hown hgrow _
                             have HO4 := Lib.hid (Md.fl_row hown); have B4 := Lib.hid (Below.grown (HBR.out.alloc HBR.out.size _) hgrow (by have := HBR.out.size; simp only [World.size_alloc]; omega) (fun k hk => Ev.own_ge HROW.out hk)); clear hown hgrow)
                have HG2 := Lib.hid (show Md.globalO x = Md.goG x (Md.leftL x (out ++ [n])).length (out ++ [n]) by rw [HGL.out, HLE.out]; exact Md.goG_some HO.out)
                have HT2 := Lib.hid (show (out ++ [n]).length + (Md.leftL x (out ++ [n])).length = M by have := HLE.out; have := HTOT.out; rw [List.length_append]; simp; omega)
                have HL2 := Lib.hid (Md.mem_snoc HLT.out (show n < 64 by have := HLN.out; have := HN.out; omega))
                have HLV4 := Lib.hid (show Md.lenV v4 = out.length + 1 by obtain ⟨a4, c4, e4⟩ := Md.IntRow.form HO4.out; rw [e4]; simp [Md.lenV])
                first
                  | exact ⟨⟨out ++ [n], HO4.out, B4.out, HG2.out, HL2.out, HT2.out⟩, by rw [HLV4.out]; simp [Md.lenV]; omega⟩
                  | (go_roundw
                     case rel => exact ⟨out ++ [n], HO4.out, B4.out, HG2.out, HL2.out, HT2.out⟩
                     case measure => rw [HLV4.out]; simp [Md.lenV]; omega)
        · have hposi : ¬ (out.length : Int) < (M : Int) := by omega
          have HE := Lib.hid (show Md.globalO x = some out by rw [HGL.out, show (Md.leftL x out).length = 0 by have := HTOT.out; omega]; rfl)
          have BE := Lib.hid (B1.out.trans (HBR.out.mono B1.out.size))
          clear cxo
          go_wp2_with fail
          go_ret2
          exact Md.GlR.yes BE.out out a c HE.out (by omega) rfl HINT.out
end Go.Proofs.YtnjnpbabgefaeaaGreat
end

section
namespace Go.Proofs.YtnjnpbabgefaeaaGreat
open Go.RowKit
theorem Md.ints_none (w : World) : Ev.IntsIn w ⟨none, 0, Md.cI []⟩ := ⟨fun h => by simp [Md.cI] at h, by simp [Md.cI], by simp, fun v hv => by simp [Md.cI] at hv⟩
theorem Md.same_l (l : List Nat) (a a' : Option Addr) (c c' : Nat) (w : World) (h1 : Ev.IntsIn w ⟨a, c, Md.cI l⟩) (h2 : Ev.IntsIn w ⟨a', c', Md.cI l⟩) :
    Calls Tryz.prog 26 #[.slice a l.length c, .slice a' l.length c'] w fun e w' => e = .returned (.bool true) ∧ Below w.heap.size w w' := by
  have h := sameInts_any ⟨a, c, Md.cI l⟩ ⟨a', c', Md.cI l⟩ w h1 h2
  have e : (Md.cI l).length = l.length := by simp [Md.cI]
  simp only [e, decide_true] at h
  refine h.mono ?_
  rintro e w' ⟨rfl, n, rfl⟩
  exact ⟨rfl, below_drewN (Below.refl _ _) n⟩
end Go.Proofs.YtnjnpbabgefaeaaGreat
end
