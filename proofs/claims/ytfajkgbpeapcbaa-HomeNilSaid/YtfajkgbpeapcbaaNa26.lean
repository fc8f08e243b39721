import Derived.Test.YtfajkgbpeapcbaaNa14
import Derived.Test.YtfajkgbpeapcbaaNa15
import Derived.Test.YtfajkgbpeapcbaaNa19
import Derived.Test.YtfajkgbpeapcbaaNa24
set_option linter.unusedVariables false
set_option linter.unusedSimpArgs false

section
namespace Go.Proofs.Ytfajkgbpeapcbaa
open Go.RowKit
namespace Hm
open Nt
set_option maxRecDepth 100000
section
variable {tp ep mp g : Nat} {S Q : Nat → Prop}
set_option maxHeartbeats 8000000 in
theorem getM_any (T : Tg) (m : E) (hm : Ok m) (hf1 : 0 ≤ m.f) (hf2 : m.f ≤ 3) (ho : -1 ≤ T.e.o ∧ T.e.o ≤ 3) (hw1 : 0 ≤ T.e.wt) (hw2 : T.e.wt ≤ 50) (hsl : T.sent.length ≤ 3990) (w : World) (h : Ta w tp ep mp g S Q T) :
    Calls Try.prog 112 #[.pointer (some ⟨tp, 0, none⟩), .agg (cells m).toArray] w fun r w' => r = .returned (.tuple #[]) ∧ TT w w' tp ep mp g S Q (getMP T m) := by
  obtain ⟨n, sent, ⟨o, s, b, a, k, wt, td, q⟩, bs⟩ := T
  obtain ⟨sa, sc, qa, qc, h⟩ := h
  obtain ⟨mb, B, hmb, hB, hb0, hr0⟩ := msg_box w m
  have HB := Lib.hid hB; have HMB := Lib.hid hmb; have B0 := Lib.hid hb0; have R0 := Lib.hid hr0
  have OW := Lib.hid (show ∀ j, own tp ep g S Q j → j < mb from fun j hj => by rw [HMB.out]; exact Tw.own_lt h j hj)
  have HME := Lib.hid (show mb ≠ ep from by have := h.lt.2.1; omega)
  have T0 := Lib.hid (Tw.start (h.kp B0.out))
  clear hB hmb hb0 hr0
  obtain ⟨T', hT⟩ : ∃ T', getMP ⟨n, sent, ⟨o, s, b, a, k, wt, td, q⟩, bs⟩ m = T' := ⟨_, rfl⟩
  rw [hT]
  have HT := Lib.hid hT
  clear h hT
  have HOK := Lib.hid hm
  clear hm
  simp only at hsl hw1 hw2 ho
  go_enter Try.func112, Try.ntmps112
  go_wp2_with (first
    | ((with_reducible show wpList _ _ _ (Oper.mk (some 7) _ _ _ _ _ :: _) _ _); rw [← HB.out, ← HMB.out]; refine wpList_load_row rfl 67 (.tmp 3) rfl mb rfl 67 _ (0, 0) _ R0.out Try.underlying67 rfl (by rw [HOK.out.size]; exact size_msg) ?_)
    | (go_at_call 117; (with_reducible refine (open_any _ m HOK.out _ T0.out.ta).mono ?_); rintro r W1 ⟨rfl, ht⟩; refine Stop.out ?_))
  refine ⟨?_⟩
  obtain ⟨T1, hT1⟩ : ∃ T1, openP ⟨n, sent, ⟨o, s, b, a, k, wt, td, q⟩, bs⟩ m = T1 := ⟨_, rfl⟩
  have HO1 := Lib.hid (show T1.e.a = m.f by rw [← hT1]; exact open_a _ _)
  have HO2 := Lib.hid (show T1.sent.length ≤ 3990 by rw [← hT1, open_sent]; exact hsl)
  have HO3 := Lib.hid (show 0 ≤ T1.e.wt ∧ T1.e.wt ≤ 50 by rw [← hT1, open_wt]; exact ⟨hw1, hw2⟩)
  have HO4 := Lib.hid (show -1 ≤ T1.e.o ∧ T1.e.o ≤ 3 by rw [← hT1]; rcases open_o ⟨n, sent, ⟨o, s, b, a, k, wt, td, q⟩, bs⟩ m with h | h <;> rw [h]; exact ⟨by decide, by decide⟩; exact ho)
  rw [hT1] at ht
  obtain ⟨S1, Q1, sa1, sc1, qa1, qc1, t1⟩ := T0.out.call ht
  have HX := Lib.hid hT1
  obtain ⟨n1, sent1, ⟨o1, s1, b1, a1, k1, wt1, td1, q1⟩, bs1⟩ := T1
  have TA := Lib.hid t1
  clear ht t1 hT1
  obtain ⟨r, hr⟩ : ∃ r : Nat, a1 = (r : Int) := ⟨a1.toNat, by have h1 := HO1.out; simp only at h1; omega⟩
  have HR := Lib.hid hr
  have HR4 := Lib.hid (show r < 4 by have h1 := HO1.out; simp only at h1; omega)
  have c2 := TA.out.tk.t2
  have c0 : W1.cell? ⟨ep, 0, none⟩ = some (.int .i64 o1) := TA.out.tk.e0
  clear hr hsl hw1 hw2 ho hf1 hf2
  have HG := Lib.hid (show getMP ⟨n, sent, ⟨o, s, b, a, k, wt, td, q⟩, bs⟩ m = (if o1 ≠ -1 then askP ⟨n1, sent1, ⟨o1, s1, b1, a1, k1, wt1, td1, q1⟩, bs1⟩ 5 o1 else gidP (askAll ⟨n1, sent1, ⟨o1, s1, b1, a1, k1, wt1, td1, q1⟩, bs1⟩ (oth ⟨o1, s1, b1, a1, k1, wt1, td1, q1⟩ 4))) from by unfold getMP; rw [HX.out])
  by_cases hno : o1 = -1
  · have HG2 := Lib.hid (HG.out.trans (if_neg (fun h => h hno)))
    have hnb : (o1 != -1) = false := by simp [hno]
    have HL4 := Lib.hid (oth_len ⟨o1, s1, b1, a1, k1, wt1, td1, q1⟩ 4)
    have HLM := Lib.hid (oth_mem ⟨o1, s1, b1, a1, k1, wt1, td1, q1⟩ 4)
    obtain ⟨LO, hLO⟩ : ∃ LO, oth ⟨o1, s1, b1, a1, k1, wt1, td1, q1⟩ 4 = LO := ⟨_, rfl⟩
    have KO := Lib.hid (others_any ⟨n1, sent1, ⟨o1, s1, b1, a1, k1, wt1, td1, q1⟩, bs1⟩ W1 TA.out.ta)
    rw [hLO] at HG2 HL4 HLM
    have KO2 := KO.out
    simp only [hLO] at KO2
    have KO3 := Lib.hid KO2
    clear hLO KO KO2 hno
    go_wp2_with (go_at_call 119; (with_reducible refine KO3.out.mono ?_); rintro x W2 ⟨⟨v, rfl, hv⟩, hb⟩; obtain ⟨xv, cv, rfl⟩ := own_form hv; have T2 := Lib.hid (TA.out.kp hb); have HV := Lib.hid hv; clear hv hb)
    have OW1 := Lib.hid (Tw.own_lt TA.out.tk)
    clear c2 c0
    go_loopw [29] (fun i wr => ∃ j : Nat, j ≤ LO.length ∧ i = .int .i64 (j : Int) ∧ TT W2 wr tp ep mp g S1 Q1 (askAll ⟨n1, sent1, ⟨o1, s1, b1, a1, k1, wt1, td1, q1⟩, bs1⟩ (LO.take j))) (fun i _ => LO.length - (intOf i).toNat)
    case atStart => exact ⟨0, Nat.zero_le _, rfl, (Tw.start T2.out.tk).tt⟩
    case round =>
      obtain ⟨j, hj, rfl, htt⟩ := hrel
      obtain ⟨S3, Q3, sa3, sc3, qa3, qc3, t3⟩ := htt
      have T3 := Lib.hid t3
      clear t3
      have HJ := Lib.hid hj
      by_cases hlt : j < LO.length
      · obtain ⟨c, hc⟩ : ∃ c, LO[j]? = some c := ⟨_, List.getElem?_eq_getElem hlt⟩
        have HC := Lib.hid (HLM.out c (List.mem_of_getElem? hc))
        have HTK := Lib.hid (show LO.take (j + 1) = LO.take j ++ [c] by rw [List.take_add_one, hc]; rfl)
        have HEL := Lib.hid (int_at HV.out hc)
        obtain ⟨gv, rfl, hcell, hgv⟩ := HEL.out
        have cv1 : wr.cell? ⟨gv, j, none⟩ = some (.int .i64 c) := by
          obtain ⟨o9, ho9⟩ : ∃ o9, W2.heap[gv]? = some o9 := ⟨_, Array.getElem?_eq_getElem (Array.getElem?_eq_some_iff.1 (cell_block hcell).choose_spec).1⟩
          have h9 := T3.out.other ho9 (fun i hi => Nat.lt_of_lt_of_le (OW1.out i hi) hgv)
          rw [World.cell?_of_block (a := ⟨gv, j, none⟩) (h9.trans ho9.symm)]; exact hcell
        have hlti : (j : Int) < (LO.length : Int) := by omega
        have hj4 : (j : Int) < 4 := by (have := HL4.out); omega
        have hAF := askAll_facts ⟨n1, sent1, ⟨o1, s1, b1, a1, k1, wt1, td1, q1⟩, bs1⟩ (LO.take j)
        have HA1 := Lib.hid (show (askAll ⟨n1, sent1, ⟨o1, s1, b1, a1, k1, wt1, td1, q1⟩, bs1⟩ (LO.take j)).sent.length ≤ 4000 by rw [hAF.1, List.length_take]; (have h8 : sent1.length ≤ 3990 := HO2.out); (have h9 := HL4.out); show sent1.length + _ ≤ _; omega)
        have HA2 := Lib.hid (show 0 ≤ (askAll ⟨n1, sent1, ⟨o1, s1, b1, a1, k1, wt1, td1, q1⟩, bs1⟩ (LO.take j)).e.wt ∧ (askAll ⟨n1, sent1, ⟨o1, s1, b1, a1, k1, wt1, td1, q1⟩, bs1⟩ (LO.take j)).e.wt ≤ 100 by rw [hAF.2.1, List.length_take]; (have h8 : 0 ≤ wt1 ∧ wt1 ≤ 50 := HO3.out); (have h9 := HL4.out); show 0 ≤ wt1 + _ ∧ wt1 + _ ≤ 100; omega)
        clear hAF hc hcell HEL
        go_wp2_with (go_at_call 118; (with_reducible refine (ask_any _ 6 c (by unfold Ev.i64B; decide) (by have := HC.out; unfold Ev.i64B; omega) HA1.out HA2.out.1 HA2.out.2 _ T3.out.ta).mono ?_); rintro x W4 ⟨rfl, ht⟩; have TN := Lib.hid (T3.out.call ht); clear ht)
        go_roundw
        case rel => exact ⟨j + 1, by omega, by go_num, by rw [HTK.out, askAll_snoc]; exact TN.out⟩
        case measure => simp [intOf]; omega
      · obtain rfl : j = LO.length := by omega
        have hlti : ¬ (LO.length : Int) < (LO.length : Int) := by omega
        have hAF := askAll_facts ⟨n1, sent1, ⟨o1, s1, b1, a1, k1, wt1, td1, q1⟩, bs1⟩ LO
        rw [List.take_length] at T3
        have HA1 := Lib.hid (show (askAll ⟨n1, sent1, ⟨o1, s1, b1, a1, k1, wt1, td1, q1⟩, bs1⟩ LO).sent.length ≤ 4000 by rw [hAF.1]; (have h8 : sent1.length ≤ 3990 := HO2.out); (have h9 := HL4.out); show sent1.length + _ ≤ _; omega)
        have HA2 := Lib.hid (show Ev.i64B (askAll ⟨n1, sent1, ⟨o1, s1, b1, a1, k1, wt1, td1, q1⟩, bs1⟩ LO).e.a by rw [hAF.2.2]; show Ev.i64B a1; rw [HR.out]; have := HR4.out; unfold Ev.i64B; omega)
        clear hAF
        go_wp2_with (go_at_call 110; (with_reducible refine (gid_any _ HA2.out HA1.out _ T3.out.ta).mono ?_); rintro x W4 ⟨rfl, ht⟩; have TN := Lib.hid (T3.out.call ht); clear ht)
        go_end0
        refine ⟨rfl, TT.before B0.out ?_⟩
        rw [← HT.out, HG2.out]
        exact T2.out.call TN.out
  · have HG2 := Lib.hid (HG.out.trans (if_pos hno))
    have hnb : (o1 != -1) = true := by simp [hno]
    clear hno
    go_wp2_with (go_at_call 118; (with_reducible refine (ask_any _ 5 o1 (by unfold Ev.i64B; decide) (show Ev.i64B o1 by have h9 : -1 ≤ o1 ∧ o1 ≤ 3 := HO4.out; unfold Ev.i64B; omega) (show sent1.length ≤ 4000 from Nat.le_trans HO2.out (by decide)) (show 0 ≤ wt1 from HO3.out.1) (show wt1 ≤ 100 from Int.le_trans HO3.out.2 (by decide)) _ TA.out.ta).mono ?_); rintro x W4 ⟨rfl, ht⟩)
    first | go_end0 | refine bodyPost_ret (results_none rfl _ _ _) rfl ?_
    refine ⟨rfl, TT.before B0.out ?_⟩
    rw [← HT.out, HG2.out]
    exact TA.out.call ht
end
end Hm
end Go.Proofs.Ytfajkgbpeapcbaa
end
