/-
  The contracts of the small functions: num, isHeld, chosen, Choice, isNone, isFull, hasNumber.
-/
import Derived.Test.YtifniogldinbdaaLnMem
namespace Go.Proofs.Ytifniogldinbdaa
open Go.RowKit
set_option linter.unusedVariables false
set_option linter.unusedSimpArgs false
set_option maxRecDepth 100000
theorem num_any (e : Int) (w : World) : Calls Try.prog 13 #[.int .i64 e] w fun r w' => r = .returned (.int .i64 e) ∧ w = w' := by
  go_enter Try.func13, Try.ntmps13
  go_wp2
  go_ret
  exact ⟨rfl, rfl⟩
def Ln.held (s : Int) : Bool := s == 1 || s == 2 || s == 3
theorem isHeld_any (s : Int) (w : World) : Calls Try.prog 36 #[.int .i64 s] w fun r w' => r = .returned (.bool (Ln.held s)) ∧ w = w' := by
  by_cases h1 : s = 1
  · subst h1
    go_enter Try.func36, Try.ntmps36
    go_wp2
    go_ret
    exact ⟨rfl, rfl⟩
  · by_cases h2 : s = 2
    · subst h2
      go_enter Try.func36, Try.ntmps36
      go_wp2
      go_ret
      exact ⟨rfl, rfl⟩
    · have b1 : decide (s = 1) = false := by simp [h1]
      have b2 : decide (s = 2) = false := by simp [h2]
      go_enter Try.func36, Try.ntmps36
      go_wp2
      go_ret
      exact ⟨rfl, rfl⟩
theorem Ln.held_iff (s : Int) : Ln.held s = true ↔ (1 ≤ s ∧ s ≤ 3) := by
  unfold Ln.held
  simp
  omega
theorem Ln.chosen_eq {p t : Int} (ht : 0 < t) : ((p.tmod t) + t).tmod t = p % t := by
  have h1 := Int.emod_nonneg p (by omega : t ≠ 0)
  have h2 := Int.emod_lt_of_pos p ht
  have hn : (t.natAbs : Int) = t := by omega
  have e : p.tmod t = if 0 ≤ p ∨ t ∣ p then p % t else p % t - t := by rw [Int.tmod_eq_emod]; split <;> omega
  rw [e]
  split
  · rw [Int.tmod_eq_emod_of_nonneg (by omega), Int.add_emod_right, Int.emod_emod_of_dvd _ (Int.dvd_refl t)]
  · rw [show p % t - t + t = p % t by omega, Int.tmod_eq_emod_of_nonneg h1, Int.emod_emod_of_dvd _ (Int.dvd_refl t)]
theorem chosen_any (p t : Int) (hp : Ev.i64B p) (ht : 0 < t) (ht2 : t ≤ 8) (w : World) : Calls Try.prog 35 #[.int .i64 p, .int .i64 t] w fun r w' => r = .returned (.int .i64 (p % t)) ∧ w = w' := by
  have e := Ln.chosen_eq (p := p) ht
  have h1 : -t < p.tmod t := by have := Int.lt_tmod_of_pos p ht; omega
  have h2 : p.tmod t < t := Int.tmod_lt_of_pos p ht
  have h3 : ¬ t = 0 := by omega
  have h4 : ¬ t = -1 := by omega
  unfold Ev.i64B at hp
  go_enter Try.func35, Try.ntmps35
  go_wp2
  go_ret
  exact ⟨rfl, rfl⟩
theorem isNone_nil (w : World) : Calls Try.prog 33 #[.pointer none] w fun r w' => r = .returned (.bool true) ∧ w = w' := by
  go_enter Try.func33, Try.ntmps33
  go_wp2
  go_ret
  exact ⟨rfl, rfl⟩
theorem isNone_any (w : World) {F p g ways S} (h : Ln.Cin w F p g ways S) : Calls Try.prog 33 #[.pointer (some ⟨p, 0, none⟩)] w fun r w' => r = .returned (.bool false) ∧ w = w' := by
  have c0 := h.c0
  have hl := h.pos
  have hl2 := h.len
  have hne : ¬ ((S.length : Int) = 0) := by omega
  have b1 : decide ((S.length : Int) = 0) = false := decide_eq_false hne
  clear h
  go_enter Try.func33, Try.ntmps33
  go_wp2
  go_ret
  exact ⟨by first | rfl | (simp [hne]; intro e; subst e; simp at hl), rfl⟩
theorem isFull_any (w : World) {F p g ways S} (h : Ln.Cin w F p g ways S) {i : Nat} {r : Ln.RW} (hr : S[i]? = some r) : Calls Try.prog 34 #[.pointer (some ⟨p, 0, none⟩), .int .i64 (i : Int)] w fun e w' => e = .returned (.bool (decide (r.l.length = ways))) ∧ Below w.heap.size w w' := by
  have c0 := h.c0
  have c1 := h.c1
  have cs := h.cs hr
  have hl2 := h.len
  have hi := (List.getElem?_eq_some_iff.1 hr).1
  have hii : (i : Int) < (S.length : Int) := by omega
  have he : ((r.l.length : Int) == (ways : Int)) = decide (r.l.length = ways) := by rw [Bool.eq_iff_iff]; simp; omega
  have q0 : ∀ z : Og.On w.heap.size w, z.x.cell? ⟨p, 0, none⟩ = _ := fun z => Og.cellB z c0
  have q1 : ∀ z : Og.On w.heap.size w, z.x.cell? ⟨p, 1, none⟩ = _ := fun z => Og.cellB z c1
  have q2 : ∀ z : Og.On w.heap.size w, z.x.cell? ⟨g, i, none⟩ = _ := fun z => Og.cellB z cs
  clear h hr c0 c1 cs
  go_enter Try.func34, Try.ntmps34
  go_wp2_with fail
  refine Og.regionB (by kernel_rfl) (by kernel_rfl) ?_
  repeat (first | go_big_quiet_skip | (go_big_quiet_want; go_big_quiet_op; go_big_quiet_on))
  refine wpQuiet_nil ?_
  intro _ hw'
  obtain ⟨q9, hw''⟩ := hw'
  subst hw''
  go_wp2
  go_ret
  refine ⟨?_, q9.b⟩
  rfl
theorem hasNumber_any (n : Int) (w : World) :
    Calls Try.prog 45 #[.int .u32 n] w fun r w' => r = .returned (.func (.func 49) #[] #[.pointer (some ⟨w.heap.size, 0, none⟩)]) ∧ w' = w.alloc (.cells #[.int .u32 n] 26) := by
  go_enter Try.func45, Try.ntmps45
  go_wp2
  go_ret
  exact ⟨rfl, rfl⟩
theorem isIt_any (n : Int) (e : Ln.E) (g : Nat) (w : World) (h : w.cell? ⟨g, 0, none⟩ = some (.int .u32 n)) (hok : Ln.Ok e) :
    Calls Try.prog 49 #[Ln.EV e, .pointer (some ⟨g, 0, none⟩)] w fun r w' => r = .returned (.bool (decide (e.n = n))) ∧ Below w.heap.size w w' := by
  obtain ⟨B, hB⟩ : ∃ B, B = w.alloc (.cells (Ln.cells e).toArray 30) := ⟨_, rfl⟩
  have HB := Lib.hid hB
  have B0 := Lib.hid (show Below w.heap.size w B by rw [hB]; exact (Below.refl w.heap.size w).alloc (Nat.le_refl _) _)
  have c1 : B.cell? ⟨w.heap.size, 0, none⟩ = some (.int .u32 e.n) := by rw [cell_of_row _ _ _ _ _ _ (show B.heap[w.heap.size]? = some (.cells (Ln.cells e).toArray 30 (0, 0)) by rw [hB]; exact heap_alloc_new _ _)]; rfl
  have c2 := Ev.kp_below B0.out _ _ h
  clear hB h hok
  unfold Ln.EV
  go_enter Try.func49, Try.ntmps49
  go_wp2_with ((with_reducible show wpList _ _ _ (Oper.mk (some 4) _ _ _ _ _ :: _) _ _); rw [← HB.out])
  go_ret
  exact ⟨rfl, B0.out⟩
end Go.Proofs.Ytifniogldinbdaa
