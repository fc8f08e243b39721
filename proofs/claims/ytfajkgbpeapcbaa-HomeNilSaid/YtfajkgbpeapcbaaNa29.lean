import Derived.Test.YtfajkgbpeapcbaaNa13
import Derived.Test.YtfajkgbpeapcbaaNa25
import Derived.Test.YtfajkgbpeapcbaaNa26
import Derived.Test.YtfajkgbpeapcbaaNa23
import Derived.Test.YtfajkgbpeapcbaaNa18
set_option linter.unusedVariables false
set_option linter.unusedSimpArgs false

section
namespace Go.Proofs.Ytfajkgbpeapcbaa
open Go.RowKit
namespace Hm
open Nt
set_option maxRecDepth 100000
section
variable {tp ep mp g : Nat} {S Q : Nat → Prop}
theorem from_one {o : Oper} {ρ : Operand → Value} {w : World} (x : Operand) (ho : o.op = .slice 56 x (some (.const (.int .i64 1))) none none) {a : Option Addr} {c : Nat} {l : List E} (hk : 1 ≤ l.length) (hx : ρ x = .slice a l.length c) (hy : ρ (.const (.int .i64 1)) = .int .i64 1) :
    (execOp ρ o).run Try.prog w = .ok (.value (.slice (srcA a 1 c) (l.drop 1).length (c - 1))) w := from_to x (.const (.int .i64 1)) ho hk hx hy
def qlen (ep : Nat) (w : World) : Nat := match w.cell? ⟨ep, 10, none⟩ with
  | some (.slice _ n _) => n
  | _ => 0
theorem qlen_of {w W : World} {S0 Q0 : Nat → Prop} {sa : Option Addr} {sc : Nat} {qa : Option Addr} {qc : Nat} {T : Tg} (h : Tw w W tp ep mp g S0 Q0 S Q sa sc qa qc T) : qlen ep W = T.e.q.length := by unfold qlen; rw [h.tk.e10]
theorem req_any (T : Tg) (m : E) (hm : Rq m) (hi : Iv T.e) (hsl : T.sent.length ≤ 3990) (w : World) (h : Ta w tp ep mp g S Q T) {f : Nat} (hf : (m.k = 3 ∧ f = 113) ∨ (m.k = 2 ∧ f = 112) ∨ (m.k = 1 ∧ f = 111)) :
    Calls Try.prog f #[.pointer (some ⟨tp, 0, none⟩), .agg (cells m).toArray] w fun r w' => r = .returned (.tuple #[]) ∧ TT w w' tp ep mp g S Q (reqP T m) := by
  have w2 := hi.w2
  rcases hf with ⟨hk, rfl⟩ | ⟨hk, rfl⟩ | ⟨hk, rfl⟩
  · rw [show reqP T m = putP T m by unfold reqP; rw [if_neg (by omega), if_neg (by omega)]]
    exact put_any T m hm.ok hm.by_ (by omega) w h
  · rw [show reqP T m = getMP T m by unfold reqP; rw [if_neg (by omega), if_pos hk]]
    exact getM_any T m hm.ok hm.f1 hm.f2 ⟨hi.o1, hi.o2⟩ hi.w1 (by omega) hsl w h
  · rw [show reqP T m = getSP T m by unfold reqP; rw [if_pos hk]]
    exact getS_any T m hm.ok hm.f1 hm.f2 ⟨hi.o1, hi.o2⟩ hi.w1 (by omega) hsl w h
set_option maxHeartbeats 8000000 in
theorem goOn_any (T : Tg) (hiv : Iv T.e) (hsl : T.sent.length + 5 * T.e.q.length ≤ 3900) (w : World) (h : Ta w tp ep mp g S Q T) :
    Calls Try.prog 87 #[.pointer (some ⟨tp, 0, none⟩)] w fun r w' => r = .returned (.tuple #[]) ∧ TT w w' tp ep mp g S Q (goP T.e.q.length T) := by
  obtain ⟨sa, sc, qa, qc, h⟩ := h
  have T0 := Lib.hid (Tw.start h)
  have OW := Lib.hid (Tw.own_lt h)
  obtain ⟨T', hT⟩ : ∃ T', goP T.e.q.length T = T' := ⟨_, rfl⟩
  rw [hT]
  have HT := Lib.hid hT
  have HIV := Lib.hid hiv; have HSL := Lib.hid hsl
  clear h hT hiv hsl
  go_enter Try.func87, Try.ntmps87
  go_wp2_with (go_at_call 100; (with_reducible refine (requests_any w).mono ?_); rintro x W1 ⟨mb, rfl, hmb, hom, hb⟩; have T1 := Lib.hid (T0.out.kp hb); have OM := Lib.hid hom; have HMB := Lib.hid hmb; have B1 := Lib.hid hb; clear hom hmb hb)
  go_loopw [3] (fun _ wr => ∃ Tc : Tg, TT W1 wr tp ep mp g S Q Tc ∧ T' = goP Tc.e.q.length Tc ∧ Iv Tc.e ∧ Tc.sent.length + 5 * Tc.e.q.length ≤ 3900) (fun _ wr => qlen ep wr)
  case atStart => exact ⟨T, (Tw.start T1.out.tk).tt, HT.out.symm, HIV.out, HSL.out⟩
  case round =>
    obtain ⟨Tc, htt, hgo, hiv, hsl⟩ := hrel
    obtain ⟨S3, Q3, sa1, sc1, qa1, qc1, t3⟩ := htt
    obtain ⟨n1, sent1, ⟨o1, s1, b1, a1, k1, wt1, td1, q1⟩, bs1⟩ := Tc
    have T3 := Lib.hid t3; have HGO := Lib.hid hgo; have HIV3 := Lib.hid hiv; have HSL3 := Lib.hid hsl; have HMP := Lib.hid (t3.other (own_block OM.out).choose_spec (fun j hj => Nat.lt_of_lt_of_le (OW.out j hj) HMB.out))
    have HQL := Lib.hid (qlen_of t3)
    clear t3 hgo hiv hsl
    have c2 := T3.out.tk.t2
    have c5 : wr.cell? ⟨ep, 5, none⟩ = some (.bool b1) := T3.out.tk.e5
    have c10 : wr.cell? ⟨ep, 10, none⟩ = some (.slice qa1 q1.length qc1) := T3.out.tk.e10
    cases b1 with
    | true =>
      go_wp2_with fail
      go_end0
      refine ⟨rfl, TT.before B1.out ?_⟩
      rw [HGO.out, go_busy rfl]
      exact T3.out.tt
    | false =>
      cases q1 with
      | nil =>
        go_wp2_with fail
        go_end0
        refine ⟨rfl, TT.before B1.out ?_⟩
        rw [HGO.out, go_nil rfl]
        exact T3.out.tt
      | cons m l1 =>
        have HM := Lib.hid (HIV3.out.q m (List.mem_cons_self ..))
        have hpos : (0 : Int) < ((m :: l1).length : Int) := by rw [List.length_cons]; omega
        have HQI := Lib.hid (T3.out.tk.qo.ls T3.out.tk.qok)
        obtain ⟨gq, oq, eqa, hcq⟩ := HQI.out.at_ (k := 0) (e := m) rfl
        have HCQ0 := Lib.hid (show ∀ i c, (cells m)[i]? = some c → wr.cell? ⟨gq, oq + i, none⟩ = some c from fun i c h => by have := hcq i c h; rw [Nat.zero_mul, Nat.add_zero] at this; exact this)
        have HST := Lib.hid (go_step (T := ⟨n1, sent1, ⟨o1, s1, false, a1, k1, wt1, td1, m :: l1⟩, bs1⟩) rfl rfl HIV3.out)
        clear hcq
        rw [eqa] at c10
        clear eqa
        go_wp2_with (first
          | ((with_reducible show wpList _ _ _ (Oper.mk (some 33) _ _ _ _ _ :: _) _ _); refine wpList_load_at rfl 67 (.tmp 32) rfl gq oq rfl (cells m) _ HCQ0.out Try.underlying67 rfl (by rw [HM.out.ok.len]; exact size_msg) ?_)
          | ((with_reducible show wpList _ _ _ (Oper.mk none (Op.store 67 _ _) _ _ _ _ :: _) _ _); refine wpList_store_own rfl 67 (.tmp 3) (.tmp 33) rfl wr.heap.size (cells m).toArray rfl rfl 67 #[.int .i64 0, .int .i64 0, .int .i64 0, .int .u32 0, .int .u8 0, .int .u8 0, .int .u8 0, .int .u8 0, .int .u8 0, .int .u8 0, .int .u8 0, .int .u8 0, .int .u8 0, .int .u8 0, .int .u8 0, .int .u8 0, .int .u8 0, .int .u8 0, .int .u8 0, .int .u8 0] (heap_alloc_new wr _) (by rw [HM.out.ok.size]; exact size_msg) (by rw [HM.out.ok.size]; rfl) (cells_all m) ?_
             intro V HV
             have BV := Lib.hid (show Below wr.heap.size wr V from ((Below.refl wr.heap.size wr).alloc (Nat.le_refl _) _).trans HV.below)
             have RE := Lib.hid HV.row
             clear HV
             refine Stop.out ?_))
        refine ⟨?_⟩
        obtain ⟨eb, heb⟩ : ∃ eb, eb = wr.heap.size := ⟨_, rfl⟩
        have HEB := Lib.hid heb
        rw [← heb] at RE ⊢
        have T5 := Lib.hid (T3.out.kp BV.out)
        clear c2 c5 c10 heb
        go_wp2_with fail
        obtain ⟨wq, hwq⟩ : ∃ wq, wq = { V with drawn := V.drawn + 1 } := ⟨_, rfl⟩
        have BQ := Lib.hid (show Below V.heap.size V wq by rw [hwq]; exact ⟨rfl, rfl, rfl, Nat.le_refl _, fun _ _ => rfl⟩)
        have HWQ := Lib.hid hwq
        clear hwq
        have TQ := Lib.hid (T5.out.kp BQ.out)
        have HFA := Lib.hid (show (fun x : World => x.cell? ⟨tp, 2, none⟩ = some (.pointer (some ⟨ep, 0, none⟩)) ∧ x.cell? ⟨ep, 10, none⟩ = some (.slice qa1 (m :: l1).length qc1)) wq from ⟨TQ.out.tk.t2, TQ.out.tk.e10⟩)
        refine Og.region_S (S := SL [3, 7, 10] (fun x : World => x.cell? ⟨tp, 2, none⟩ = some (.pointer (some ⟨ep, 0, none⟩)) ∧ x.cell? ⟨ep, 10, none⟩ = some (.slice qa1 (m :: l1).length qc1))) (by kernel_rfl) ?_
        rw [← HWQ.out]
        refine Og.s_take 0 { dst := some 34, op := Go.Op.move (Go.Operand.tmp 0), type := 146, pos := "taking.go:59", after := #[], guard := none } (.pointer (some ⟨tp, 0, none⟩)) _ (by kernel_rfl) (by kernel_rfl) (by kernel_rfl) (by kernel_rfl) (by kernel_rfl) (fun _ _ _ h => h) (fun h => absurd h (by decide)) (fun x' hx => ?_) (by simp only [Act.put, List.setIfInBounds_toArray, List.set_cons_zero, List.set_cons_succ]; rfl) ?_
        · go_simp; try (with_reducible rfl)
        refine Og.s_take 1 { dst := some 35, op := Go.Op.nilCheck (Go.Operand.tmp 34), type := 0, pos := "taking.go:59", after := #[{ on := 0, ground := Go.Ground.data }], guard := none } (.pointer (some ⟨tp, 0, none⟩)) _ (by kernel_rfl) (by kernel_rfl) (by kernel_rfl) (by kernel_rfl) (by kernel_rfl) (fun _ _ _ h => h) (fun h => absurd h (by decide)) (fun x' hx => ?_) (by simp only [Act.put, List.setIfInBounds_toArray, List.set_cons_zero, List.set_cons_succ]; rfl) ?_
        · go_simp; try (with_reducible rfl)
        refine Og.s_take 2 { dst := some 36, op := Go.Op.fieldAddr 125 (Go.Operand.tmp 35) 1, type := 0, pos := "taking.go:59", after := #[{ on := 1, ground := Go.Ground.data }], guard := none } (.pointer (some ⟨tp, 2, none⟩)) _ (by kernel_rfl) (by kernel_rfl) (by kernel_rfl) (by kernel_rfl) (by kernel_rfl) (fun _ _ _ h => h) (fun h => absurd h (by decide)) (fun x' hx => ?_) (by simp only [Act.put, List.setIfInBounds_toArray, List.set_cons_zero, List.set_cons_succ]; rfl) ?_
        · go_simp; try (with_reducible rfl)
        refine Og.s_take 3 { dst := some 37, op := Go.Op.load 122 (Go.Operand.tmp 36), type := 122, pos := "taking.go:59", after := #[{ on := 2, ground := Go.Ground.data }], guard := none } (.pointer (some ⟨ep, 0, none⟩)) _ (by kernel_rfl) (by kernel_rfl) (by kernel_rfl) (by kernel_rfl) (by kernel_rfl) (fun _ _ _ h => h) (fun _ => HFA.out) (fun x' hx => ?_) (by simp only [Act.put, List.setIfInBounds_toArray, List.set_cons_zero, List.set_cons_succ]; rfl) ?_
        · have hx1 := (hx (by decide)).1; go_simp; try (with_reducible rfl)
        refine Og.s_take 4 { dst := some 38, op := Go.Op.move (Go.Operand.tmp 0), type := 146, pos := "taking.go:59", after := #[], guard := none } (.pointer (some ⟨tp, 0, none⟩)) _ (by kernel_rfl) (by kernel_rfl) (by kernel_rfl) (by kernel_rfl) (by kernel_rfl) (fun _ _ _ h => h) (fun h => absurd h (by decide)) (fun x' hx => ?_) (by simp only [Act.put, List.setIfInBounds_toArray, List.set_cons_zero, List.set_cons_succ]; rfl) ?_
        · go_simp; try (with_reducible rfl)
        refine Og.s_take 5 { dst := some 39, op := Go.Op.nilCheck (Go.Operand.tmp 38), type := 0, pos := "taking.go:59", after := #[{ on := 4, ground := Go.Ground.data }], guard := none } (.pointer (some ⟨tp, 0, none⟩)) _ (by kernel_rfl) (by kernel_rfl) (by kernel_rfl) (by kernel_rfl) (by kernel_rfl) (fun _ _ _ h => h) (fun h => absurd h (by decide)) (fun x' hx => ?_) (by simp only [Act.put, List.setIfInBounds_toArray, List.set_cons_zero, List.set_cons_succ]; rfl) ?_
        · go_simp; try (with_reducible rfl)
        refine Og.s_take 6 { dst := some 40, op := Go.Op.fieldAddr 125 (Go.Operand.tmp 39) 1, type := 0, pos := "taking.go:59", after := #[{ on := 5, ground := Go.Ground.data }], guard := none } (.pointer (some ⟨tp, 2, none⟩)) _ (by kernel_rfl) (by kernel_rfl) (by kernel_rfl) (by kernel_rfl) (by kernel_rfl) (fun _ _ _ h => h) (fun h => absurd h (by decide)) (fun x' hx => ?_) (by simp only [Act.put, List.setIfInBounds_toArray, List.set_cons_zero, List.set_cons_succ]; rfl) ?_
        · go_simp; try (with_reducible rfl)
        refine Og.s_take 7 { dst := some 41, op := Go.Op.load 122 (Go.Operand.tmp 40), type := 122, pos := "taking.go:59", after := #[{ on := 6, ground := Go.Ground.data }], guard := none } (.pointer (some ⟨ep, 0, none⟩)) _ (by kernel_rfl) (by kernel_rfl) (by kernel_rfl) (by kernel_rfl) (by kernel_rfl) (fun _ _ _ h => h) (fun _ => HFA.out) (fun x' hx => ?_) (by simp only [Act.put, List.setIfInBounds_toArray, List.set_cons_zero, List.set_cons_succ]; rfl) ?_
        · have hx1 := (hx (by decide)).1; go_simp; try (with_reducible rfl)
        refine Og.s_take 8 { dst := some 42, op := Go.Op.nilCheck (Go.Operand.tmp 41), type := 0, pos := "taking.go:59", after := #[{ on := 7, ground := Go.Ground.data }], guard := none } (.pointer (some ⟨ep, 0, none⟩)) _ (by kernel_rfl) (by kernel_rfl) (by kernel_rfl) (by kernel_rfl) (by kernel_rfl) (fun _ _ _ h => h) (fun h => absurd h (by decide)) (fun x' hx => ?_) (by simp only [Act.put, List.setIfInBounds_toArray, List.set_cons_zero, List.set_cons_succ]; rfl) ?_
        · go_simp; try (with_reducible rfl)
        refine Og.s_take 9 { dst := some 43, op := Go.Op.fieldAddr 84 (Go.Operand.tmp 42) 7, type := 0, pos := "taking.go:59", after := #[{ on := 8, ground := Go.Ground.data }], guard := none } (.pointer (some ⟨ep, 10, none⟩)) _ (by kernel_rfl) (by kernel_rfl) (by kernel_rfl) (by kernel_rfl) (by kernel_rfl) (fun _ _ _ h => h) (fun h => absurd h (by decide)) (fun x' hx => ?_) (by simp only [Act.put, List.setIfInBounds_toArray, List.set_cons_zero, List.set_cons_succ]; rfl) ?_
        · go_simp; try (with_reducible rfl)
        refine Og.s_take 10 { dst := some 44, op := Go.Op.load 56 (Go.Operand.tmp 43), type := 56, pos := "taking.go:59", after := #[{ on := 9, ground := Go.Ground.data }], guard := none } (.slice qa1 (m :: l1).length qc1) _ (by kernel_rfl) (by kernel_rfl) (by kernel_rfl) (by kernel_rfl) (by kernel_rfl) (fun _ _ _ h => h) (fun _ => HFA.out) (fun x' hx => ?_) (by simp only [Act.put, List.setIfInBounds_toArray, List.set_cons_zero, List.set_cons_succ]; rfl) ?_
        · have hx1 := (hx (by decide)).2; go_simp; try (with_reducible rfl)
        refine Og.s_take 11 { dst := some 45, op := Go.Op.slice 56 (Go.Operand.tmp 44) (some (Go.Operand.const (Go.Value.int Go.IntKind.i64 1))) none none, type := 56, pos := "taking.go:59", after := #[{ on := 10, ground := Go.Ground.data }], guard := none } (.slice (srcA qa1 1 qc1) ((m :: l1).drop 1).length (qc1 - 1)) _ (by kernel_rfl) (by kernel_rfl) (by kernel_rfl) (by kernel_rfl) (by kernel_rfl) (fun _ _ _ h => h) (fun h => absurd h (by decide)) (fun x' hx => ?_) (by simp only [Act.put, List.setIfInBounds_toArray, List.set_cons_zero, List.set_cons_succ]; rfl) ?_
        · exact from_one (l := m :: l1) (a := qa1) (c := qc1) (.tmp 44) rfl (by simp) rfl rfl
        refine Og.s_take 12 { dst := some 46, op := Go.Op.nilCheck (Go.Operand.tmp 37), type := 0, pos := "taking.go:59", after := #[{ on := 3, ground := Go.Ground.data }, { on := 0, ground := Go.Ground.phase }, { on := 1, ground := Go.Ground.phase }, { on := 2, ground := Go.Ground.phase }, { on := 3, ground := Go.Ground.phase }, { on := 4, ground := Go.Ground.phase }, { on := 5, ground := Go.Ground.phase }, { on := 6, ground := Go.Ground.phase }, { on := 7, ground := Go.Ground.phase }, { on := 8, ground := Go.Ground.phase }, { on := 9, ground := Go.Ground.phase }, { on := 10, ground := Go.Ground.phase }, { on := 11, ground := Go.Ground.phase }], guard := none } (.pointer (some ⟨ep, 0, none⟩)) _ (by kernel_rfl) (by kernel_rfl) (by kernel_rfl) (by kernel_rfl) (by kernel_rfl) (fun _ _ _ h => h) (fun h => absurd h (by decide)) (fun x' hx => ?_) (by simp only [Act.put, List.setIfInBounds_toArray, List.set_cons_zero, List.set_cons_succ]; rfl) ?_
        · go_simp; try (with_reducible rfl)
        refine Og.s_take 13 { dst := some 47, op := Go.Op.fieldAddr 84 (Go.Operand.tmp 46) 7, type := 0, pos := "taking.go:59", after := #[{ on := 12, ground := Go.Ground.data }, { on := 0, ground := Go.Ground.phase }, { on := 1, ground := Go.Ground.phase }, { on := 2, ground := Go.Ground.phase }, { on := 3, ground := Go.Ground.phase }, { on := 4, ground := Go.Ground.phase }, { on := 5, ground := Go.Ground.phase }, { on := 6, ground := Go.Ground.phase }, { on := 7, ground := Go.Ground.phase }, { on := 8, ground := Go.Ground.phase }, { on := 9, ground := Go.Ground.phase }, { on := 10, ground := Go.Ground.phase }, { on := 11, ground := Go.Ground.phase }], guard := none } (.pointer (some ⟨ep, 10, none⟩)) _ (by kernel_rfl) (by kernel_rfl) (by kernel_rfl) (by kernel_rfl) (by kernel_rfl) (fun _ _ _ h => h) (fun h => absurd h (by decide)) (fun x' hx => ?_) (by simp only [Act.put, List.setIfInBounds_toArray, List.set_cons_zero, List.set_cons_succ]; rfl) ?_
        · go_simp; try (with_reducible rfl)
        obtain ⟨hbx, htw⟩ := TQ.out.rowq ⟨o1, s1, false, a1, k1, wt1, td1, l1⟩ ((TQ.out.tk.qo.pop TQ.out.tk.qok).mono (fun k hk => .inl hk)) (Fr.refl _ _) (fun x hx => TQ.out.tk.qok x (List.mem_cons_of_mem _ hx)) (fun x hx => TQ.out.tk.qby x (List.mem_cons_of_mem _ hx))
        have HBX := Lib.hid hbx; have T6 := Lib.hid htw
        clear hbx htw
        refine Og.s_one 14 { dst := none, op := Go.Op.store 56 (Go.Operand.tmp 47) (Go.Operand.tmp 45), type := 0, pos := "taking.go:59", after := #[{ on := 13, ground := Go.Ground.data }, { on := 11, ground := Go.Ground.data }, { on := 0, ground := Go.Ground.phase }, { on := 1, ground := Go.Ground.phase }, { on := 2, ground := Go.Ground.phase }, { on := 3, ground := Go.Ground.phase }, { on := 4, ground := Go.Ground.phase }, { on := 5, ground := Go.Ground.phase }, { on := 6, ground := Go.Ground.phase }, { on := 7, ground := Go.Ground.phase }, { on := 8, ground := Go.Ground.phase }, { on := 9, ground := Go.Ground.phase }, { on := 10, ground := Go.Ground.phase }, { on := 11, ground := Go.Ground.phase }], guard := none } (by kernel_rfl) (by kernel_rfl) (by kernel_rfl) ?_
        refine Og.skip_to (w' := wq.setRow ep (ecells ⟨o1, s1, false, a1, k1, wt1, td1, l1⟩ (srcA qa1 1 qc1) (qc1 - 1))) (put_to 56 (.tmp 47) (.tmp 45) rfl ep 10 (.slice (srcA qa1 1 qc1) ((m :: l1).drop 1).length (qc1 - 1)) rfl rfl 84 _ HBX.out (by kernel_rfl) (Nat.le_of_ble_eq_true rfl) (one_slice _ _ _) _ rfl) ⟨keep_end (o := { dst := none, op := Go.Op.store 56 (Go.Operand.tmp 47) (Go.Operand.tmp 45), type := 0, pos := "taking.go:59", after := #[{ on := 13, ground := Go.Ground.data }, { on := 11, ground := Go.Ground.data }, { on := 0, ground := Go.Ground.phase }, { on := 1, ground := Go.Ground.phase }, { on := 2, ground := Go.Ground.phase }, { on := 3, ground := Go.Ground.phase }, { on := 4, ground := Go.Ground.phase }, { on := 5, ground := Go.Ground.phase }, { on := 6, ground := Go.Ground.phase }, { on := 7, ground := Go.Ground.phase }, { on := 8, ground := Go.Ground.phase }, { on := 9, ground := Go.Ground.phase }, { on := 10, ground := Go.Ground.phase }, { on := 11, ground := Go.Ground.phase }], guard := none }) (by kernel_rfl) (by kernel_rfl), ?_⟩
        refine Og.s_done (by kernel_rfl) ?_ _
        try simp only [Act.put, List.setIfInBounds_toArray, List.set_cons_zero, List.set_cons_succ]
        obtain ⟨W6, hW6⟩ : ∃ W6, W6 = wq.setRow ep (ecells ⟨o1, s1, false, a1, k1, wt1, td1, l1⟩ (srcA qa1 1 qc1) (qc1 - 1)) := ⟨_, rfl⟩
        rw [← hW6] at T6 ⊢
        have RE6 := Lib.hid (show W6.heap[eb]? = some (.cells (cells m).toArray 67 (0, 0)) by
          rw [hW6, setRow_other _ _ _ _ (by have h1 := T3.out.tk.lt.2.1; have h2 := HEB.out; omega)]
          exact (BQ.out.block _ (Array.getElem?_eq_some_iff.1 RE.out).1).trans RE.out)
        have OM6 := Lib.hid (own_at OM.out ((T6.out.other (own_block OM.out).choose_spec (fun j hj => Nat.lt_of_lt_of_le (OW.out j hj) HMB.out)).trans (own_block OM.out).choose_spec.symm))
        obtain ⟨v, hlk, hv3, hv2, hv1⟩ := look_fun0 OM6.out HM.out.ok.k
        have HF : ∃ f : Nat, v = .func (.func f) #[.pointer (some ⟨tp, 0, none⟩)] #[] ∧ ((m.k = 3 ∧ f = 113) ∨ (m.k = 2 ∧ f = 112) ∨ (m.k = 1 ∧ f = 111)) := by
          rcases HM.out.k with h | h | h
          · exact ⟨_, hv1 (by omega) (by omega) h, .inr (.inr ⟨h, rfl⟩)⟩
          · exact ⟨_, hv2 (by omega) h, .inr (.inl ⟨h, rfl⟩)⟩
          · exact ⟨_, hv3 h, .inl ⟨h, rfl⟩⟩
        obtain ⟨f, rfl, hf⟩ := HF
        have HF := Lib.hid hf
        have m0 := (msg_cell RE6.out).1
        have HB1 := Lib.hid (bgn_req (T := popP ⟨n1, sent1, ⟨o1, s1, false, a1, k1, wt1, td1, m :: l1⟩, bs1⟩) (Iv.pop (T := ⟨n1, sent1, ⟨o1, s1, false, a1, k1, wt1, td1, m :: l1⟩, bs1⟩) HIV3.out) rfl HM.out)
        have HSL6 := Lib.hid (show sent1.length ≤ 3990 by have h1 := HSL3.out; simp only [List.length_cons] at h1; omega)
        clear hv1 hv2 hv3 hf hW6
        rcases HF.out with ⟨h9, rfl⟩ | ⟨h9, rfl⟩ | ⟨h9, rfl⟩
        all_goals
          clear h9
          have KQ := Lib.hid (req_any (popP ⟨n1, sent1, ⟨o1, s1, false, a1, k1, wt1, td1, m :: l1⟩, bs1⟩) m HM.out (Iv.pop (T := ⟨n1, sent1, ⟨o1, s1, false, a1, k1, wt1, td1, m :: l1⟩, bs1⟩) HIV3.out) (show (popP ⟨n1, sent1, ⟨o1, s1, false, a1, k1, wt1, td1, m :: l1⟩, bs1⟩).sent.length ≤ 3990 from HSL6.out) W6 T6.out.ta HF.out)
          go_wp2_with (first
            | ((with_reducible show wpList _ _ _ (Oper.mk (some 52) _ _ _ _ _ :: _) _ _); refine wpList_load_row rfl 67 (.tmp 3) rfl eb rfl 67 _ (0, 0) _ RE6.out Try.underlying67 rfl (by rw [HM.out.ok.size]; exact size_msg) ?_)
            | ((with_reducible refine KQ.out.mono ?_); rintro x W7 ⟨rfl, ht⟩; have TN := Lib.hid (T6.out.call ht); clear ht))
          obtain ⟨T7, hT7⟩ : ∃ T7, reqP (popP ⟨n1, sent1, ⟨o1, s1, false, a1, k1, wt1, td1, m :: l1⟩, bs1⟩) m = T7 := ⟨_, rfl⟩
          rw [hT7] at HST HB1
          have TN2 := Lib.hid (show TT W1 W7 tp ep mp g S Q T7 from hT7 ▸ TN.out)
          obtain ⟨S8, Q8, sa8, sc8, qa8, qc8, t8⟩ := TN2.out
          have HQ8 := qlen_of t8
          go_roundw
          case rel =>
            refine ⟨T7, TN2.out, HGO.out.trans HST.out, HB1.out.iv, ?_⟩
            have h1 := HSL3.out; have h2 := HB1.out.s; have h3 := HB1.out.q
            have h4 : (popP ⟨n1, sent1, ⟨o1, s1, false, a1, k1, wt1, td1, m :: l1⟩, bs1⟩).sent.length = sent1.length := rfl
            have h5 : (popP ⟨n1, sent1, ⟨o1, s1, false, a1, k1, wt1, td1, m :: l1⟩, bs1⟩).e.q.length = l1.length := rfl
            rw [h3, h5]
            simp only [List.length_cons] at h1
            omega
          case measure =>
            rw [HQ8, HB1.out.q, HQL.out]
            show l1.length < (m :: l1).length
            simp
end
end Hm
end Go.Proofs.Ytfajkgbpeapcbaa
end
