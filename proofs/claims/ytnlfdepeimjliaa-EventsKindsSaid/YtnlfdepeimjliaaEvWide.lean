/-
  The statements' own wide(): it tells something, whatever the execution; and what it lets through is short.
-/
import Derived.Test.YtnlfdepeimjliaaEvOpenX
import Derived.BigGuardPart
import Derived.Deep.QuietTactic
import Derived.BigQuiet
import Derived.Test.YtnlfdepeimjliaaEvEq
namespace Go.Proofs.Ytnlfdepeimjliaa
open Go.RowKit
set_option linter.unusedVariables false
set_option linter.unusedSimpArgs false
set_option maxRecDepth 100000 in
set_option maxHeartbeats 8000000 in
theorem wide_any (x : Ev.X) (w : World) (hin : Ev.XIn w x) : Calls Try.prog 10 #[Ev.exV x] w (Ev.CPost (fun b => b = false → x.ev.length ≤ 70 ∧ x.fr.l.length ≤ 200 ∧ x.od.length ≤ 200) w) := by
  have HIN := Lib.hid hin
  have e1 := hin.ev.le; have e2 := hin.ev.max; have e3 := hin.fr.2.1; have e4 := hin.fr.2.2.1; have e5 := hin.od.le; have e6 := hin.od.max
  clear hin
  have R0 := Lib.hid (heap_alloc_new w (.cells (Ev.xcells x).toArray 26))
  have B0 := Lib.hid ((Below.refl w.heap.size w).alloc (Nat.le_refl _) (.cells (Ev.xcells x).toArray 26))
  have c0 : (w.alloc (.cells (Ev.xcells x).toArray 26)).cell? ⟨w.heap.size, 0, none⟩ = some (.slice x.ae x.ev.length x.ce) := by rw [cell_of_row _ _ _ _ _ _ R0.out]; rfl
  have c1 : (w.alloc (.cells (Ev.xcells x).toArray 26)).cell? ⟨w.heap.size, 1, none⟩ = some (.slice x.fr.a x.fr.l.length x.fr.c) := by rw [cell_of_row _ _ _ _ _ _ R0.out]; rfl
  have c2 : (w.alloc (.cells (Ev.xcells x).toArray 26)).cell? ⟨w.heap.size, 2, none⟩ = some (.slice x.ao x.od.length x.co) := by rw [cell_of_row _ _ _ _ _ _ R0.out]; rfl
  have C0 := Lib.hid c0; have C2 := Lib.hid c2
  unfold Ev.xcells at c0 c1 c2
  unfold Ev.exV Ev.xcells
  have FIN := Lib.hid (show ∀ (e : Ending) (w' : World), e = .returned (.bool true) → Below w.heap.size w w' → Ev.CPost (fun b => b = false → x.ev.length ≤ 70 ∧ x.fr.l.length ≤ 200 ∧ x.od.length ≤ 200) w e w' from fun _ _ h1 h2 => Ev.CPost.mk true h1 (fun h => by cases h) h2)
  by_cases t0 : 70 < x.ev.length
  · have hi : (70 : Int) < (x.ev.length : Int) := by omega
    clear t0
    go_enter Try.func10, Try.ntmps10
    go_wp2
    try (go_step3; go_wp2)
    try rw [Exit.noGoto_ret]
    go_ret
    exact FIN.out _ _ rfl B0.out
  have hi0 : ¬ (70 : Int) < (x.ev.length : Int) := by omega
  by_cases t1 : 200 < x.fr.l.length
  · have hi : (200 : Int) < (x.fr.l.length : Int) := by omega
    clear t1 t0
    go_enter Try.func10, Try.ntmps10
    go_wp2
    try (go_step3; go_wp2)
    try rw [Exit.noGoto_ret]
    go_ret
    exact FIN.out _ _ rfl B0.out
  have hi1 : ¬ (200 : Int) < (x.fr.l.length : Int) := by omega
  by_cases t2 : 200 < x.od.length
  · have hi : (200 : Int) < (x.od.length : Int) := by omega
    clear t2 t1 t0
    go_enter Try.func10, Try.ntmps10
    go_wp2
    try (go_step3; go_wp2)
    try rw [Exit.noGoto_ret]
    go_ret
    exact FIN.out _ _ rfl B0.out
  have hi2 : ¬ (200 : Int) < (x.od.length : Int) := by omega
  go_enter Try.func10, Try.ntmps10
  go_wp2
  try (go_step3; go_wp2)
  clear c0 c1 c2
  go_loopw [3, 4] (fun m i wr => ∃ (n : Int) (k : Nat), k ≤ x.od.length ∧ m = .int .i64 n ∧ i = .int .i64 (k : Int) ∧ wr.cell? ⟨w.heap.size, 0, none⟩ = some (.slice x.ae x.ev.length x.ce) ∧ wr.cell? ⟨w.heap.size, 2, none⟩ = some (.slice x.ao x.od.length x.co) ∧ Below w.heap.size w wr) (fun _ i _ => x.od.length - (intOf i).toNat)
  case atStart => exact ⟨_, 0, Nat.zero_le _, rfl, rfl, C0.out, C2.out, B0.out⟩
  case round =>
    obtain ⟨n, k, hk, rfl, rfl, c0, c2, hbr⟩ := hrel
    have HBR := Lib.hid hbr; have D0 := Lib.hid c0; have D2 := Lib.hid c2
    clear hbr
    by_cases hlt : k < x.od.length
    · have hki : (k : Int) < (x.od.length : Int) := by omega
      obtain ⟨s, hs⟩ : ∃ s, x.od[k]? = some s := ⟨_, List.getElem?_eq_getElem hlt⟩
      obtain ⟨g, o, ea, cs⟩ := (HIN.out.od.kp (Ev.kp_below HBR.out)).at_ hs
      rw [ea] at c2
      clear ea hs c0
      go_wp2
      · try rw [Exit.noGoto_ret]
        go_ret
        exact FIN.out _ _ rfl HBR.out
      · exact ⟨⟨_, k + 1, by omega, rfl, by go_num, D0.out, D2.out, HBR.out⟩, by simp [intOf]; omega⟩
    · have hki : ¬ (k : Int) < (x.od.length : Int) := by omega
      go_wp2
      clear c2 c0 D2
      go_loopw [3, 5] (fun m i w2 => ∃ (n : Int) (k : Nat), k ≤ x.ev.length ∧ m = .int .i64 n ∧ i = .int .i64 (k : Int) ∧ w2.cell? ⟨w.heap.size, 0, none⟩ = some (.slice x.ae x.ev.length x.ce) ∧ Below w.heap.size w w2) (fun _ i _ => x.ev.length - (intOf i).toNat)
      case atStart => exact ⟨_, 0, Nat.zero_le _, rfl, rfl, D0.out, HBR.out⟩
      case round =>
        obtain ⟨m, j, hj, rfl, rfl, c0, hb2⟩ := hrel
        have HB2 := Lib.hid hb2; have D0 := Lib.hid c0
        clear hb2
        by_cases hlj : j < x.ev.length
        · have hji : (j : Int) < (x.ev.length : Int) := by omega
          obtain ⟨y, hy⟩ : ∃ y, x.ev[j]? = some y := ⟨_, List.getElem?_eq_getElem hlj⟩
          obtain ⟨g, o, ea, cs⟩ := (HIN.out.ev.kp (Ev.kp_below HB2.out)).at_ hy
          have l1 := cs 10 _ rfl; have l2 := cs 11 _ rfl; have l3 := cs 12 _ rfl
          rw [ea] at c0
          clear ea hy cs
          go_wp2
          go_quiet ((fail))
          go_wp2
          · try rw [Exit.noGoto_ret]
            go_ret
            exact FIN.out _ _ rfl (below_drewN HB2.out _)
          · exact ⟨⟨_, j + 1, by omega, rfl, by go_num, D0.out, below_drewN HB2.out _⟩, by simp [intOf]; omega⟩
        · have hji : ¬ (j : Int) < (x.ev.length : Int) := by omega
          go_wp2
          try rw [Exit.noGoto_ret]
          go_ret
          exact Ev.CPost.mk false rfl (fun _ => ⟨by omega, by omega, by omega⟩) HB2.out
end Go.Proofs.Ytnlfdepeimjliaa
