import Derived.Test.YtfajkgbpeapcbaaNa16
set_option linter.unusedVariables false
set_option linter.unusedSimpArgs false

section
namespace Go.Proofs.Ytfajkgbpeapcbaa
open Go.RowKit
namespace Hm
open Nt
set_option maxRecDepth 100000
section
variable {tp ep mp g : Nat} {S Q : Nat → Prop}
theorem send0_any (T : Tg) (kk to : Int) (hk : Ev.i64B kk) (hto : Ev.i64B to) (hsl : T.sent.length ≤ 4000) (w : World) (h : Ta w tp ep mp g S Q T) :
    Calls Try.prog 116 #[.pointer (some ⟨tp, 0, none⟩), .int .i64 kk, .int .i64 to, .agg #[.int .u8 0, .int .u8 0, .int .u8 0, .int .u8 0, .int .u8 0, .int .u8 0, .int .u8 0, .int .u8 0, .int .u8 0, .int .u8 0, .int .u8 0, .int .u8 0, .int .u8 0, .int .u8 0, .int .u8 0, .int .u8 0]] w fun r w' => r = .returned (.tuple #[]) ∧ TT w w' tp ep mp g S Q (sendP T kk to z16) :=
  send_any T kk to z16 hk hto rfl hsl w h
set_option maxHeartbeats 8000000 in
theorem ask_any (T : Tg) (kk c : Int) (hk : Ev.i64B kk) (hc : Ev.i64B c) (hsl : T.sent.length ≤ 4000) (hw1 : 0 ≤ T.e.wt) (hw2 : T.e.wt ≤ 100) (w : World) (h : Ta w tp ep mp g S Q T) :
    Calls Try.prog 118 #[.pointer (some ⟨tp, 0, none⟩), .int .i64 kk, .int .i64 c] w fun r w' => r = .returned (.tuple #[]) ∧ TT w w' tp ep mp g S Q (askP T kk c) := by
  obtain ⟨n, sent, ⟨o, s, b, a, k, wt, td, q⟩, bs⟩ := T
  obtain ⟨sa, sc, qa, qc, h⟩ := h
  have T0 := Lib.hid (Tw.start h)
  obtain ⟨T', hT⟩ : ∃ T', askP ⟨n, sent, ⟨o, s, b, a, k, wt, td, q⟩, bs⟩ kk c = T' := ⟨_, rfl⟩
  rw [hT]
  have HT := Lib.hid hT
  clear h hT
  have KS := Lib.hid (send0_any ⟨n, sent, ⟨o, s, b, a, k, wt, td, q⟩, bs⟩ kk c hk hc hsl w T0.out.ta)
  have c2 := T0.out.tk.t2
  simp only at hw1 hw2
  go_enter Try.func118, Try.ntmps118
  go_wp2_with (first
    | (go_at_call 116; (with_reducible refine KS.out.mono ?_); rintro r W1 ⟨rfl, ht⟩; refine Stop.out ?_))
  refine ⟨?_⟩
  obtain ⟨S1, Q1, sa1, sc1, qa1, qc1, t1⟩ := T0.out.call ht
  have T1 := Lib.hid t1
  clear ht t1 c2
  have c2 := T1.out.tk.t2
  have c8 : W1.cell? ⟨ep, 8, none⟩ = some (.int .i64 wt) := T1.out.tk.e8
  go_wp2_with (first
    | ((with_reducible show wpList _ _ _ (Oper.mk none (Op.store _ _ _) _ _ _ _ :: _) _ _); refine wpList_put rfl 3 (.tmp 22) (.tmp 20) rfl ep 8 (.int .i64 (wt + 1)) rfl rfl 84 _ T1.out.tk.eb (by kernel_rfl) (Nat.le_of_ble_eq_true rfl) (one_int _ _) (ecells (⟨o, s, b, a, k, wt + 1, td, q⟩) qa1 qc1) rfl ?_))
  go_end0
  refine ⟨rfl, ?_⟩
  rw [← HT.out]
  exact (T1.out.row ⟨o, s, b, a, k, wt + 1, td, q⟩ rfl).tt
end
end Hm
end Go.Proofs.Ytfajkgbpeapcbaa
end
