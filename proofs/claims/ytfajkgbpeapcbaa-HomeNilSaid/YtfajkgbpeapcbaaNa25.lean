import Derived.Test.YtfajkgbpeapcbaaNa14
import Derived.Test.YtfajkgbpeapcbaaNa15
import Derived.Test.YtfajkgbpeapcbaaNa19
import Derived.Test.YtfajkgbpeapcbaaNa24
set_option linter.unusedVariables false
set_option linter.unusedSimpArgs false

section
namespace Go.Proofs.Ytfajkgbpeapcbaa
open Go.RowKit
namespace Hm
open Nt
set_option maxRecDepth 100000
section
variable {tp ep mp g : Nat} {S Q : Nat → Prop}
set_option maxHeartbeats 8000000 in
theorem getS_any (T : Tg) (m : E) (hm : Ok m) (hf1 : 0 ≤ m.f) (hf2 : m.f ≤ 3) (ho : -1 ≤ T.e.o ∧ T.e.o ≤ 3) (hw1 : 0 ≤ T.e.wt) (hw2 : T.e.wt ≤ 50) (hsl : T.sent.length ≤ 3990) (w : World) (h : Ta w tp ep mp g S Q T) :
    Calls Try.prog 111 #[.pointer (some ⟨tp, 0, none⟩), .agg (cells m).toArray] w fun r w' => r = .returned (.tuple #[]) ∧ TT w w' tp ep mp g S Q (getSP T m) := by
  obtain ⟨n, sent, ⟨o, s, b, a, k, wt, td, q⟩, bs⟩ := T
  obtain ⟨sa, sc, qa, qc, h⟩ := h
  obtain ⟨mb, B, hmb, hB, hb0, hr0⟩ := msg_box w m
  have HB := Lib.hid hB; have HMB := Lib.hid hmb; have B0 := Lib.hid hb0; have R0 := Lib.hid hr0
  have OW := Lib.hid (show ∀ j, own tp ep g S Q j → j < mb from fun j hj => by rw [HMB.out]; exact Tw.own_lt h j hj)
  have HME := Lib.hid (show mb ≠ ep from by have := h.lt.2.1; omega)
  have T0 := Lib.hid (Tw.start (h.kp B0.out))
  clear hB hmb hb0 hr0
  obtain ⟨T', hT⟩ : ∃ T', getSP ⟨n, sent, ⟨o, s, b, a, k, wt, td, q⟩, bs⟩ m = T' := ⟨_, rfl⟩
  rw [hT]
  have HT := Lib.hid hT
  clear h hT
  have HOK := Lib.hid hm
  clear hm
  simp only at hsl hw1 hw2 ho
  go_enter Try.func111, Try.ntmps111
  go_wp2_with (first
    | ((with_reducible show wpList _ _ _ (Oper.mk (some 5) _ _ _ _ _ :: _) _ _); rw [← HB.out, ← HMB.out]; refine wpList_load_row rfl 67 (.tmp 3) rfl mb rfl 67 _ (0, 0) _ R0.out Try.underlying67 rfl (by rw [HOK.out.size]; exact size_msg) ?_)
    | (go_at_call 117; (with_reducible refine (open_any _ m HOK.out _ T0.out.ta).mono ?_); rintro r W1 ⟨rfl, ht⟩; refine Stop.out ?_))
  refine ⟨?_⟩
  obtain ⟨T1, hT1⟩ : ∃ T1, openP ⟨n, sent, ⟨o, s, b, a, k, wt, td, q⟩, bs⟩ m = T1 := ⟨_, rfl⟩
  have HO1 := Lib.hid (show T1.e.a = m.f by rw [← hT1]; exact open_a _ _)
  have HO2 := Lib.hid (show T1.sent.length ≤ 3990 by rw [← hT1, open_sent]; exact hsl)
  have HO3 := Lib.hid (show 0 ≤ T1.e.wt ∧ T1.e.wt ≤ 50 by rw [← hT1, open_wt]; exact ⟨hw1, hw2⟩)
  have HO4 := Lib.hid (show -1 ≤ T1.e.o ∧ T1.e.o ≤ 3 by rw [← hT1]; rcases open_o ⟨n, sent, ⟨o, s, b, a, k, wt, td, q⟩, bs⟩ m with h | h <;> rw [h]; exact ⟨by decide, by decide⟩; exact ho)
  rw [hT1] at ht
  obtain ⟨S1, Q1, sa1, sc1, qa1, qc1, t1⟩ := T0.out.call ht
  have HX := Lib.hid hT1
  obtain ⟨n1, sent1, ⟨o1, s1, b1, a1, k1, wt1, td1, q1⟩, bs1⟩ := T1
  have TA := Lib.hid t1
  clear ht t1 hT1
  obtain ⟨r, hr⟩ : ∃ r : Nat, a1 = (r : Int) := ⟨a1.toNat, by have h1 := HO1.out; simp only at h1; omega⟩
  have HR := Lib.hid hr
  have HR4 := Lib.hid (show r < 4 by have h1 := HO1.out; simp only at h1; omega)
  have c2 := TA.out.tk.t2
  have c0 : W1.cell? ⟨ep, 0, none⟩ = some (.int .i64 o1) := TA.out.tk.e0
  clear hr hsl hw1 hw2 ho hf1 hf2
  have HG := Lib.hid (show getSP ⟨n, sent, ⟨o, s, b, a, k, wt, td, q⟩, bs⟩ m = (if o1 ≠ -1 then askP ⟨n1, sent1, ⟨o1, s1, b1, a1, k1, wt1, td1, q1⟩, bs1⟩ 4 o1 else if 0 < (oth ⟨o1, s1, b1, a1, k1, wt1, td1, q1⟩ 4).length then tellP (shareP ⟨n1, sent1, ⟨o1, s1, b1, a1, k1, wt1, td1, q1⟩, bs1⟩ a1.toNat true) 8 else giveP ⟨n1, sent1, ⟨o1, s1, b1, a1, k1, wt1, td1, q1⟩, bs1⟩ 9) from by unfold getSP; rw [HX.out])
  by_cases hno : o1 = -1
  · have HG2 := Lib.hid (HG.out.trans (if_neg (fun h => h hno)))
    have hnb : (o1 != -1) = false := by simp [hno]
    obtain ⟨LO, hLO⟩ : ∃ LO, oth ⟨o1, s1, b1, a1, k1, wt1, td1, q1⟩ 4 = LO := ⟨_, rfl⟩
    have HLO := Lib.hid hLO
    have KO := Lib.hid (others_any ⟨n1, sent1, ⟨o1, s1, b1, a1, k1, wt1, td1, q1⟩, bs1⟩ W1 TA.out.ta)
    rw [hLO] at HG2
    have KO2 := KO.out
    simp only [hLO] at KO2
    have KO3 := Lib.hid KO2
    clear hLO KO KO2
    by_cases hl : 0 < LO.length
    · have HG3 := Lib.hid (HG2.out.trans (if_pos hl))
      have hli : (0 : Int) < (LO.length : Int) := by omega
      clear hno hl
      go_wp2_with (go_at_call 119; (with_reducible refine KO3.out.mono ?_); rintro x W2 ⟨⟨v, rfl, hv⟩, hb⟩; obtain ⟨xv, cv, rfl⟩ := own_form hv; have T2 := Lib.hid (TA.out.kp hb); clear hv hb)
      obtain ⟨wq, hwq⟩ : ∃ wq, wq = { W2 with drawn := W2.drawn + 1 } := ⟨_, rfl⟩
      have BQ := Lib.hid (show Below W2.heap.size W2 wq by rw [hwq]; exact ⟨rfl, rfl, rfl, Nat.le_refl _, fun _ _ => rfl⟩)
      have HWQ := Lib.hid hwq
      clear hwq
      have TQ := Lib.hid (T2.out.kp BQ.out)
      have HFA := Lib.hid (show (fun x : World => x.cell? ⟨tp, 2, none⟩ = some (.pointer (some ⟨ep, 0, none⟩)) ∧ x.cell? ⟨ep, 6, none⟩ = some (.int .i64 (r : Int))) wq from ⟨TQ.out.tk.t2, (show _ = some (Value.int .i64 (r : Int)) from HR.out ▸ TQ.out.tk.e6)⟩)
      refine Og.region_S (S := SL [3, 7, 10] (fun x : World => x.cell? ⟨tp, 2, none⟩ = some (.pointer (some ⟨ep, 0, none⟩)) ∧ x.cell? ⟨ep, 6, none⟩ = some (.int .i64 (r : Int)))) (by kernel_rfl) ?_
      rw [← HWQ.out]
      refine Og.s_take 0 { dst := some 32, op := Go.Op.move (Go.Operand.tmp 0), type := 146, pos := "taking.go:71", after := #[], guard := none } (.pointer (some ⟨tp, 0, none⟩)) _ (by kernel_rfl) (by kernel_rfl) (by kernel_rfl) (by kernel_rfl) (by kernel_rfl) (fun _ _ _ h => h) (fun h => absurd h (by decide)) (fun x' hx => ?_) (by simp only [Act.put, List.setIfInBounds_toArray, List.set_cons_zero, List.set_cons_succ]; rfl) ?_
      · go_simp; try (with_reducible rfl)
      refine Og.s_take 1 { dst := some 33, op := Go.Op.nilCheck (Go.Operand.tmp 32), type := 0, pos := "taking.go:71", after := #[{ on := 0, ground := Go.Ground.data }], guard := none } (.pointer (some ⟨tp, 0, none⟩)) _ (by kernel_rfl) (by kernel_rfl) (by kernel_rfl) (by kernel_rfl) (by kernel_rfl) (fun _ _ _ h => h) (fun h => absurd h (by decide)) (fun x' hx => ?_) (by simp only [Act.put, List.setIfInBounds_toArray, List.set_cons_zero, List.set_cons_succ]; rfl) ?_
      · go_simp; try (with_reducible rfl)
      refine Og.s_take 2 { dst := some 34, op := Go.Op.fieldAddr 125 (Go.Operand.tmp 33) 1, type := 0, pos := "taking.go:71", after := #[{ on := 1, ground := Go.Ground.data }], guard := none } (.pointer (some ⟨tp, 2, none⟩)) _ (by kernel_rfl) (by kernel_rfl) (by kernel_rfl) (by kernel_rfl) (by kernel_rfl) (fun _ _ _ h => h) (fun h => absurd h (by decide)) (fun x' hx => ?_) (by simp only [Act.put, List.setIfInBounds_toArray, List.set_cons_zero, List.set_cons_succ]; rfl) ?_
      · go_simp; try (with_reducible rfl)
      refine Og.s_take 3 { dst := some 35, op := Go.Op.load 122 (Go.Operand.tmp 34), type := 122, pos := "taking.go:71", after := #[{ on := 2, ground := Go.Ground.data }], guard := none } (.pointer (some ⟨ep, 0, none⟩)) _ (by kernel_rfl) (by kernel_rfl) (by kernel_rfl) (by kernel_rfl) (by kernel_rfl) (fun _ _ _ h => h) (fun _ => HFA.out) (fun x' hx => ?_) (by simp only [Act.put, List.setIfInBounds_toArray, List.set_cons_zero, List.set_cons_succ]; rfl) ?_
      · have hx1 := (hx (by decide)).1; go_simp; try (with_reducible rfl)
      refine Og.s_take 4 { dst := some 36, op := Go.Op.move (Go.Operand.tmp 0), type := 146, pos := "taking.go:71", after := #[], guard := none } (.pointer (some ⟨tp, 0, none⟩)) _ (by kernel_rfl) (by kernel_rfl) (by kernel_rfl) (by kernel_rfl) (by kernel_rfl) (fun _ _ _ h => h) (fun h => absurd h (by decide)) (fun x' hx => ?_) (by simp only [Act.put, List.setIfInBounds_toArray, List.set_cons_zero, List.set_cons_succ]; rfl) ?_
      · go_simp; try (with_reducible rfl)
      refine Og.s_take 5 { dst := some 37, op := Go.Op.nilCheck (Go.Operand.tmp 36), type := 0, pos := "taking.go:71", after := #[{ on := 4, ground := Go.Ground.data }], guard := none } (.pointer (some ⟨tp, 0, none⟩)) _ (by kernel_rfl) (by kernel_rfl) (by kernel_rfl) (by kernel_rfl) (by kernel_rfl) (fun _ _ _ h => h) (fun h => absurd h (by decide)) (fun x' hx => ?_) (by simp only [Act.put, List.setIfInBounds_toArray, List.set_cons_zero, List.set_cons_succ]; rfl) ?_
      · go_simp; try (with_reducible rfl)
      refine Og.s_take 6 { dst := some 38, op := Go.Op.fieldAddr 125 (Go.Operand.tmp 37) 1, type := 0, pos := "taking.go:71", after := #[{ on := 5, ground := Go.Ground.data }], guard := none } (.pointer (some ⟨tp, 2, none⟩)) _ (by kernel_rfl) (by kernel_rfl) (by kernel_rfl) (by kernel_rfl) (by kernel_rfl) (fun _ _ _ h => h) (fun h => absurd h (by decide)) (fun x' hx => ?_) (by simp only [Act.put, List.setIfInBounds_toArray, List.set_cons_zero, List.set_cons_succ]; rfl) ?_
      · go_simp; try (with_reducible rfl)
      refine Og.s_take 7 { dst := some 39, op := Go.Op.load 122 (Go.Operand.tmp 38), type := 122, pos := "taking.go:71", after := #[{ on := 6, ground := Go.Ground.data }], guard := none } (.pointer (some ⟨ep, 0, none⟩)) _ (by kernel_rfl) (by kernel_rfl) (by kernel_rfl) (by kernel_rfl) (by kernel_rfl) (fun _ _ _ h => h) (fun _ => HFA.out) (fun x' hx => ?_) (by simp only [Act.put, List.setIfInBounds_toArray, List.set_cons_zero, List.set_cons_succ]; rfl) ?_
      · have hx1 := (hx (by decide)).1; go_simp; try (with_reducible rfl)
      refine Og.s_take 8 { dst := some 40, op := Go.Op.nilCheck (Go.Operand.tmp 39), type := 0, pos := "taking.go:71", after := #[{ on := 7, ground := Go.Ground.data }], guard := none } (.pointer (some ⟨ep, 0, none⟩)) _ (by kernel_rfl) (by kernel_rfl) (by kernel_rfl) (by kernel_rfl) (by kernel_rfl) (fun _ _ _ h => h) (fun h => absurd h (by decide)) (fun x' hx => ?_) (by simp only [Act.put, List.setIfInBounds_toArray, List.set_cons_zero, List.set_cons_succ]; rfl) ?_
      · go_simp; try (with_reducible rfl)
      refine Og.s_take 9 { dst := some 41, op := Go.Op.fieldAddr 84 (Go.Operand.tmp 40) 3, type := 0, pos := "taking.go:71", after := #[{ on := 8, ground := Go.Ground.data }], guard := none } (.pointer (some ⟨ep, 6, none⟩)) _ (by kernel_rfl) (by kernel_rfl) (by kernel_rfl) (by kernel_rfl) (by kernel_rfl) (fun _ _ _ h => h) (fun h => absurd h (by decide)) (fun x' hx => ?_) (by simp only [Act.put, List.setIfInBounds_toArray, List.set_cons_zero, List.set_cons_succ]; rfl) ?_
      · go_simp; try (with_reducible rfl)
      refine Og.s_take 10 { dst := some 42, op := Go.Op.load 3 (Go.Operand.tmp 41), type := 3, pos := "taking.go:71", after := #[{ on := 9, ground := Go.Ground.data }], guard := none } (.int .i64 (r : Int)) _ (by kernel_rfl) (by kernel_rfl) (by kernel_rfl) (by kernel_rfl) (by kernel_rfl) (fun _ _ _ h => h) (fun _ => HFA.out) (fun x' hx => ?_) (by simp only [Act.put, List.setIfInBounds_toArray, List.set_cons_zero, List.set_cons_succ]; rfl) ?_
      · have hx1 := (hx (by decide)).2; go_simp; try (with_reducible rfl)
      refine Og.s_take 11 { dst := some 43, op := Go.Op.nilCheck (Go.Operand.tmp 35), type := 0, pos := "taking.go:71", after := #[{ on := 3, ground := Go.Ground.data }], guard := none } (.pointer (some ⟨ep, 0, none⟩)) _ (by kernel_rfl) (by kernel_rfl) (by kernel_rfl) (by kernel_rfl) (by kernel_rfl) (fun _ _ _ h => h) (fun h => absurd h (by decide)) (fun x' hx => ?_) (by simp only [Act.put, List.setIfInBounds_toArray, List.set_cons_zero, List.set_cons_succ]; rfl) ?_
      · go_simp; try (with_reducible rfl)
      refine Og.s_take 12 { dst := some 44, op := Go.Op.fieldAddr 84 (Go.Operand.tmp 43) 1, type := 0, pos := "taking.go:71", after := #[{ on := 11, ground := Go.Ground.data }], guard := none } (.pointer (some ⟨ep, 1, none⟩)) _ (by kernel_rfl) (by kernel_rfl) (by kernel_rfl) (by kernel_rfl) (by kernel_rfl) (fun _ _ _ h => h) (fun h => absurd h (by decide)) (fun x' hx => ?_) (by simp only [Act.put, List.setIfInBounds_toArray, List.set_cons_zero, List.set_cons_succ]; rfl) ?_
      · go_simp; try (with_reducible rfl)
      refine Og.s_take 13 { dst := some 45, op := Go.Op.indexAddr 82 (Go.Operand.tmp 44) (Go.Operand.tmp 42), type := 0, pos := "taking.go:71", after := #[{ on := 12, ground := Go.Ground.data }, { on := 10, ground := Go.Ground.data }, { on := 0, ground := Go.Ground.phase }, { on := 1, ground := Go.Ground.phase }, { on := 2, ground := Go.Ground.phase }, { on := 3, ground := Go.Ground.phase }, { on := 4, ground := Go.Ground.phase }, { on := 5, ground := Go.Ground.phase }, { on := 6, ground := Go.Ground.phase }, { on := 7, ground := Go.Ground.phase }, { on := 8, ground := Go.Ground.phase }, { on := 9, ground := Go.Ground.phase }, { on := 10, ground := Go.Ground.phase }], guard := none } (.pointer (some ⟨ep, 1 + r, none⟩)) _ (by kernel_rfl) (by kernel_rfl) (by kernel_rfl) (by kernel_rfl) (by kernel_rfl) (fun _ _ _ h => h) (fun h => absurd h (by decide)) (fun x' hx => ?_) (by simp only [Act.put, List.setIfInBounds_toArray, List.set_cons_zero, List.set_cons_succ]; rfl) ?_
      · have hr9 : ¬ (4 : Int) ≤ (r : Int) := by (have := HR4.out); omega
        go_simp
      obtain ⟨W3, hW3⟩ : ∃ W3, W3 = wq.setRow ep (ecells (⟨o1, setB s1 r true, b1, a1, k1, wt1, td1, q1⟩) qa1 qc1) := ⟨_, rfl⟩
      have TW3 := Lib.hid (TQ.out.row (⟨o1, setB s1 r true, b1, a1, k1, wt1, td1, q1⟩) rfl)
      rw [← hW3] at TW3
      have HW3 := Lib.hid hW3
      clear hW3
      refine Og.s_one 14 { dst := none, op := Go.Op.store 4 (Go.Operand.tmp 45) (Go.Operand.const (Go.Value.bool true)), type := 0, pos := "taking.go:71", after := #[{ on := 13, ground := Go.Ground.data }, { on := 0, ground := Go.Ground.phase }, { on := 1, ground := Go.Ground.phase }, { on := 2, ground := Go.Ground.phase }, { on := 3, ground := Go.Ground.phase }, { on := 4, ground := Go.Ground.phase }, { on := 5, ground := Go.Ground.phase }, { on := 6, ground := Go.Ground.phase }, { on := 7, ground := Go.Ground.phase }, { on := 8, ground := Go.Ground.phase }, { on := 9, ground := Go.Ground.phase }, { on := 10, ground := Go.Ground.phase }], guard := none } (by kernel_rfl) (by kernel_rfl) (by kernel_rfl) ?_
      refine Og.skip_to (w' := W3) (by rw [HW3.out]; exact put_to 4 (Go.Operand.tmp 45) (Go.Operand.const (Go.Value.bool true)) rfl ep (1 + r) (.bool true) rfl rfl 84 _ TQ.out.tk.eb (by kernel_rfl) (sh_le _ _ _ HR4.out _) (one_bool _) _ (sh_put _ _ _ _ _ _ _ _ _ _ HR4.out _)) ⟨keep_end (o := { dst := none, op := Go.Op.store 4 (Go.Operand.tmp 45) (Go.Operand.const (Go.Value.bool true)), type := 0, pos := "taking.go:71", after := #[{ on := 13, ground := Go.Ground.data }, { on := 0, ground := Go.Ground.phase }, { on := 1, ground := Go.Ground.phase }, { on := 2, ground := Go.Ground.phase }, { on := 3, ground := Go.Ground.phase }, { on := 4, ground := Go.Ground.phase }, { on := 5, ground := Go.Ground.phase }, { on := 6, ground := Go.Ground.phase }, { on := 7, ground := Go.Ground.phase }, { on := 8, ground := Go.Ground.phase }, { on := 9, ground := Go.Ground.phase }, { on := 10, ground := Go.Ground.phase }], guard := none }) (by kernel_rfl) (by kernel_rfl), ?_⟩
      refine Og.s_done (by kernel_rfl) ?_ _
      try simp only [Act.put, List.setIfInBounds_toArray, List.set_cons_zero, List.set_cons_succ]
      go_wp2_with (go_at_call 109; (with_reducible refine (tell_any _ 8 (by unfold Ev.i64B; decide) (show Ev.i64B a1 by rw [HR.out]; have := HR4.out; unfold Ev.i64B; omega) (show sent1.length ≤ 4000 from Nat.le_trans HO2.out (by decide)) _ TW3.out.ta).mono ?_); rintro x W4 ⟨rfl, ht⟩)
      go_end0
      refine ⟨rfl, TT.before B0.out ?_⟩
      rw [← HT.out, HG3.out, show a1.toNat = r by rw [HR.out]; rfl]
      exact TW3.out.call ht
    · have HG3 := Lib.hid (HG2.out.trans (if_neg hl))
      have hli : ¬ (0 : Int) < (LO.length : Int) := by omega
      clear hno hl
      go_wp2_with (first
        | (go_at_call 119; (with_reducible refine KO3.out.mono ?_); rintro x W2 ⟨⟨v, rfl, hv⟩, hb⟩; obtain ⟨xv, cv, rfl⟩ := own_form hv; have T2 := Lib.hid (TA.out.kp hb); clear hv hb)
        | (go_at_call 108; (with_reducible refine (give_any _ 9 (by unfold Ev.i64B; decide) (show Ev.i64B a1 by rw [HR.out]; have := HR4.out; unfold Ev.i64B; omega) (show sent1.length ≤ 4000 from Nat.le_trans HO2.out (by decide)) _ T2.out.ta).mono ?_); rintro x W4 ⟨rfl, ht⟩))
      go_end0
      refine ⟨rfl, TT.before B0.out ?_⟩
      rw [← HT.out, HG3.out]
      exact T2.out.call ht
  · have HG2 := Lib.hid (HG.out.trans (if_pos hno))
    have hnb : (o1 != -1) = true := by simp [hno]
    clear hno
    go_wp2_with (go_at_call 118; (with_reducible refine (ask_any _ 4 o1 (by unfold Ev.i64B; decide) (show Ev.i64B o1 by have h9 : -1 ≤ o1 ∧ o1 ≤ 3 := HO4.out; unfold Ev.i64B; omega) (show sent1.length ≤ 4000 from Nat.le_trans HO2.out (by decide)) (show 0 ≤ wt1 from HO3.out.1) (show wt1 ≤ 100 from Int.le_trans HO3.out.2 (by decide)) _ TA.out.ta).mono ?_); rintro x W4 ⟨rfl, ht⟩)
    go_end0
    refine ⟨rfl, TT.before B0.out ?_⟩
    rw [← HT.out, HG2.out]
    exact TA.out.call ht
end
end Hm
end Go.Proofs.Ytfajkgbpeapcbaa
end
