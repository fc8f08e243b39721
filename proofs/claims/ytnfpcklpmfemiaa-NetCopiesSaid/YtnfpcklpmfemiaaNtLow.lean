/-
  The contracts of the small functions of net and of its statements.
-/
import Derived.Test.YtnfpcklpmfemiaaNtApp
import Derived.Test.YtnfpcklpmfemiaaOgT
import Derived.Laws.StructEq
namespace Go.Proofs.Ytnfpcklpmfemiaa
open Go.RowKit
set_option linter.unusedVariables false
set_option linter.unusedSimpArgs false
namespace Nt
set_option maxRecDepth 100000
theorem num_any (e : Int) (w : World) : Calls Try.prog 25 #[.int .i64 e] w fun r w' => r = .returned (.int .i64 e) ∧ w = w' := by
  go_enter Try.func25, Try.ntmps25
  go_wp2
  go_ret
  exact ⟨rfl, rfl⟩
/-- a node that is a cache -/
def ca (n : Int) : Bool := decide (0 ≤ n) && decide (n ≤ 3)
theorem isCache_any (n : Int) (w : World) : Calls Try.prog 75 #[.int .i64 n] w fun r w' => r = .returned (.bool (ca n)) ∧ w = w' := by
  by_cases h1 : 0 ≤ n
  · have e : ca n = decide (n < 4) := by unfold ca; rw [decide_eq_true h1, Bool.true_and]; exact decide_eq_decide.2 (by omega)
    rw [e]
    go_enter Try.func75, Try.ntmps75
    go_wp2
    go_ret
    exact ⟨rfl, rfl⟩
  · have e : ca n = false := by unfold ca; rw [decide_eq_false h1]; rfl
    rw [e]
    go_enter Try.func75, Try.ntmps75
    go_wp2
    go_ret
    exact ⟨rfl, rfl⟩
theorem cache_any (n : Int) (w : World) : Calls Try.prog 61 #[.int .i64 n] w fun r w' => r = .returned (.bool (ca n)) ∧ w = w' := by
  by_cases h1 : 0 ≤ n
  · have e : ca n = decide (n ≤ 3) := by unfold ca; rw [decide_eq_true h1, Bool.true_and]
    rw [e]
    go_enter Try.func61, Try.ntmps61
    go_wp2
    go_ret
    exact ⟨rfl, rfl⟩
  · have e : ca n = false := by unfold ca; rw [decide_eq_false h1]; rfl
    rw [e]
    go_enter Try.func61, Try.ntmps61
    go_wp2
    go_ret
    exact ⟨rfl, rfl⟩
theorem chosen_eq {p t : Int} (ht : 0 < t) : ((p.tmod t) + t).tmod t = p % t := by
  have h1 := Int.emod_nonneg p (by omega : t ≠ 0)
  have h2 := Int.emod_lt_of_pos p ht
  have hn : (t.natAbs : Int) = t := by omega
  have e : p.tmod t = if 0 ≤ p ∨ t ∣ p then p % t else p % t - t := by rw [Int.tmod_eq_emod]; split <;> omega
  rw [e]
  split
  · rw [Int.tmod_eq_emod_of_nonneg (by omega), Int.add_emod_right, Int.emod_emod_of_dvd _ (Int.dvd_refl t)]
  · rw [show p % t - t + t = p % t by omega, Int.tmod_eq_emod_of_nonneg h1, Int.emod_emod_of_dvd _ (Int.dvd_refl t)]
theorem chosen_any (p t : Int) (hp : Ev.i64B p) (ht : 0 < t) (ht2 : t ≤ 5000) (w : World) : Calls Try.prog 62 #[.int .i64 p, .int .i64 t] w fun r w' => r = .returned (.int .i64 (p % t)) ∧ w = w' := by
  have e := chosen_eq (p := p) ht
  have h1 : -t < p.tmod t := by have := Int.lt_tmod_of_pos p ht; omega
  have h2 : p.tmod t < t := Int.tmod_lt_of_pos p ht
  have h3 : ¬ t = 0 := by omega
  have h4 : ¬ t = -1 := by omega
  unfold Ev.i64B at hp
  go_enter Try.func62, Try.ntmps62
  go_wp2
  go_ret
  exact ⟨rfl, rfl⟩
theorem isNone_nil (w : World) : Calls Try.prog 64 #[.pointer none] w fun r w' => r = .returned (.bool true) ∧ w = w' := by
  go_enter Try.func64, Try.ntmps64
  go_wp2
  go_ret
  exact ⟨rfl, rfl⟩
theorem isNone_any (w : World) {F p most l} (h : Net w F p most l) : Calls Try.prog 64 #[.pointer (some ⟨p, 0, none⟩)] w fun r w' => r = .returned (.bool false) ∧ w = w' := by
  obtain ⟨a, c, h⟩ := h
  have c0 := h.c0
  have hl := h.pos
  have hne : ¬ ((most : Int) = 0) := by omega
  have b1 : decide ((most : Int) = 0) = false := decide_eq_false hne
  clear h
  go_enter Try.func64, Try.ntmps64
  go_wp2
  go_ret
  exact ⟨by first | rfl | (simp [hne]; intro e; subst e; simp at hl), rfl⟩
theorem len_nil (w : World) : Calls Try.prog 32 #[.pointer none] w fun r w' => r = .returned (.int .i64 0) ∧ w = w' := by
  go_enter Try.func32, Try.ntmps32
  go_wp2_with (go_at_call 64; (with_reducible refine (isNone_nil w).mono ?_); rintro e W2 ⟨rfl, hw⟩; subst hw)
  go_ret
  exact ⟨rfl, rfl⟩
theorem len_any (w : World) {F p most l} (h : Net w F p most l) : Calls Try.prog 32 #[.pointer (some ⟨p, 0, none⟩)] w fun r w' => r = .returned (.int .i64 (l.length : Int)) ∧ w = w' := by
  have KN := Lib.hid (isNone_any w h)
  obtain ⟨a, c, h⟩ := h
  have c1 := h.c1
  clear h
  go_enter Try.func32, Try.ntmps32
  go_wp2_with (go_at_call 64; (with_reducible refine KN.out.mono ?_); rintro e W2 ⟨rfl, hw⟩; subst hw)
  go_ret
  exact ⟨rfl, rfl⟩
theorem ahead_any (w : World) {F p most a c l} (h : Nin w F p most a c l) {k : Nat} (hk : k ≤ l.length) : Calls Try.prog 63 #[.pointer (some ⟨p, 0, none⟩), .int .i64 (k : Int)] w fun r w' => r = .returned (.slice a k k) ∧ w = w' := by
  have c1 := h.c1
  have hl := h.len
  have hm := h.max
  have hc := h.own.le
  unfold maxLen at hc
  clear h
  have hk1 : (0 : Int) ≤ (k : Int) := by omega
  have hk2 : (k : Int) ≤ (c : Int) := by omega
  go_enter Try.func63, Try.ntmps63
  go_wp2
  go_ret
  exact ⟨rfl, rfl⟩
theorem new_no (most : Int) (h : ¬ (1 ≤ most ∧ most ≤ 1024)) (w : World) : Calls Try.prog 29 #[.int .i64 most] w fun e w' => e = .returned (.tuple #[.pointer none, .int .i64 2]) ∧ w = w' := by
  by_cases h1 : most < 1
  · go_enter Try.func29, Try.ntmps29
    go_wp2
    exact bodyPost_ret (results_tmp2 (fn := Try.f29) rfl _ _ _) rfl ⟨rfl, rfl⟩
  · have h2 : most > 1024 := by omega
    go_enter Try.func29, Try.ntmps29
    go_wp2
    exact bodyPost_ret (results_tmp2 (fn := Try.f29) rfl _ _ _) rfl ⟨rfl, rfl⟩
theorem new_yes (most : Nat) (h1 : 1 ≤ most) (h2 : most ≤ 1024) (w : World) : Calls Try.prog 29 #[.int .i64 (most : Int)] w fun e w' => ∃ p, e = .returned (.tuple #[.pointer (some ⟨p, 0, none⟩), .int .i64 0]) ∧ Below w.heap.size w w' ∧ ∃ F, Net w' F p most [] ∧ ∀ k, F k → w.heap.size ≤ k := by
  have g1 : ¬ (most : Int) < 1 := by omega
  have g2 : ¬ (most : Int) > 1024 := by omega
  go_enter Try.func29, Try.ntmps29
  go_wp2
  refine bodyPost_ret (results_tmp2 (fn := Try.f29) rfl _ _ _) rfl ⟨w.heap.size, rfl, (Below.refl w.heap.size w).alloc (Nat.le_refl _) _, fun k => k = w.heap.size, ⟨none, 0, ?_, Own.nil _ _, rfl, fun k hk => (by simp; omega), fun e he => (by cases he), h1, h2, Nat.zero_le _⟩, fun k hk => by omega⟩
  exact heap_alloc_new w _
end Nt
end Go.Proofs.Ytnfpcklpmfemiaa
