import Derived.Test.YtfajkgbpeapcbaaNa22
set_option linter.unusedVariables false
set_option linter.unusedSimpArgs false

section
namespace Go.Proofs.Ytfajkgbpeapcbaa
open Go.RowKit
namespace Hm
open Nt
set_option maxRecDepth 100000
section
variable {tp ep mp g : Nat} {S Q : Nat → Prop}
set_option maxHeartbeats 8000000 in
theorem gid_any (T : Tg)  (ha : Ev.i64B T.e.a) (hsl : T.sent.length ≤ 4000) (w : World) (h : Ta w tp ep mp g S Q T) :
    Calls Try.prog 110 #[.pointer (some ⟨tp, 0, none⟩)] w fun r w' => r = .returned (.tuple #[]) ∧ TT w w' tp ep mp g S Q (gidP T) := by
  obtain ⟨n, sent, ⟨o, s, b, a, k, wt, td, q⟩, bs⟩ := T
  obtain ⟨sa, sc, qa, qc, h⟩ := h
  have T0 := Lib.hid (Tw.start h)
  obtain ⟨T', hT⟩ : ∃ T', gidP ⟨n, sent, ⟨o, s, b, a, k, wt, td, q⟩, bs⟩ = T' := ⟨_, rfl⟩
  rw [hT]
  have HT := Lib.hid hT
  clear h hT
  have c2 := T0.out.tk.t2
  have c8 : w.cell? ⟨ep, 8, none⟩ = some (.int .i64 wt) := T0.out.tk.e8
  by_cases hw : wt = 0
  · have HE := Lib.hid (HT.out.symm.trans (if_pos hw))
    have hwd : (wt == 0) = true := by simp [hw]
    go_enter Try.func110, Try.ntmps110
    go_wp2_with (first
      | (go_at_call 108; (with_reducible refine (give_any _ 10 (by unfold Ev.i64B; decide) ha hsl _ T0.out.ta).mono ?_); rintro r W3 ⟨rfl, ht⟩))
    go_end0
    refine ⟨rfl, ?_⟩
    rw [HE.out]
    exact ht
  · have HE := Lib.hid (HT.out.symm.trans (if_neg hw))
    have hwd : (wt == 0) = false := by simp [hw]
    go_enter Try.func110, Try.ntmps110
    go_wp2_with fail
    go_end0
    refine ⟨rfl, ?_⟩
    rw [HE.out]
    exact T0.out.tt
end
end Hm
end Go.Proofs.Ytfajkgbpeapcbaa
end
