/-
  The contract of reach: each refusal, and the way on, from which whatever was handed in goes on over a part of the image's bytes.
-/
import Derived.Test.YtchjcfmmnfimlaaImLow
namespace Go.Proofs.Ytchjcfmmnfimlaa
open Go.RowKit
set_option linter.unusedVariables false

theorem reach_nil (first : Int) (bits : Int) (F : Value) (h : 0 ≤ first ∧ first ≤ 18446744073709551615) (hb : 0 ≤ bits ∧ bits ≤ 128) (w : World) :
    Calls Try.prog 34 #[.pointer none, .int .u64 first, .int .i64 bits, F] w fun e w' => e = .returned (.int .i64 1) ∧ w = w' := by
  go_enter Try.func34, Try.ntmps34
  go_wp2_with (go_at_call 33; refine (own_nil _).mono ?_; rintro e w' ⟨rfl, rfl⟩)
  go_ret
  exact ⟨rfl, rfl⟩
theorem reach_arg (p g n : Nat) (first : Int) (F : Value) (h : 0 ≤ first ∧ first ≤ 18446744073709551615) (w : World) (hn : 16 ≤ n ∧ n ≤ 4096)
    (hc : w.cell? ⟨p, 0, none⟩ = some (.slice (some ⟨g, 0, none⟩) n n)) :
    Calls Try.prog 34 #[.pointer (some ⟨p, 0, none⟩), .int .u64 first, .int .i64 0, F] w fun e w' => e = .returned (.int .i64 2) ∧ w = w' := by
  have h0 : ((n : Int) == 0) = false := by simp; omega
  have HC := Lib.hid hc; clear hc
  go_enter Try.func34, Try.ntmps34
  go_wp2_with (go_at_call 33; refine (own_any _ _ _ _ HC.out).mono ?_; rintro e w' ⟨rfl, rfl⟩)
  go_ret
  exact ⟨rfl, rfl⟩
theorem reach_align (p g n first sz : Nat) (bits : Int) (F : Value) (h : first ≤ 68719476735) (hs : (sz = 1 ∧ bits = 8) ∨ (sz = 2 ∧ bits = 16) ∨ (sz = 4 ∧ bits = 32) ∨ (sz = 16 ∧ bits = 128)) (ha : ¬ first % sz = 0) (w : World) (hn : 16 ≤ n ∧ n ≤ 4096)
    (hc : w.cell? ⟨p, 0, none⟩ = some (.slice (some ⟨g, 0, none⟩) n n)) :
    Calls Try.prog 34 #[.pointer (some ⟨p, 0, none⟩), .int .u64 first, .int .i64 bits, F] w fun e w' => e = .returned (.int .i64 120) ∧ w = w' := by
  have h0 : ((n : Int) == 0) = false := by simp; omega
  have HC := Lib.hid hc; clear hc
  rcases hs with ⟨rfl, rfl⟩ | ⟨rfl, rfl⟩ | ⟨rfl, rfl⟩ | ⟨rfl, rfl⟩
  · omega
  · have h1 : ((first : Int) % 2 != 0) = true := by simp only [bne_iff_ne, ne_eq]; omega
    clear ha
    go_enter Try.func34, Try.ntmps34
    go_wp2_with (go_at_call 33; refine (own_any _ _ _ _ HC.out).mono ?_; rintro e w' ⟨rfl, rfl⟩)
    go_ret
    exact ⟨rfl, rfl⟩
  · have h1 : ((first : Int) % 4 != 0) = true := by simp only [bne_iff_ne, ne_eq]; omega
    clear ha
    go_enter Try.func34, Try.ntmps34
    go_wp2_with (go_at_call 33; refine (own_any _ _ _ _ HC.out).mono ?_; rintro e w' ⟨rfl, rfl⟩)
    go_ret
    exact ⟨rfl, rfl⟩
  · have h1 : ((first : Int) % 16 != 0) = true := by simp only [bne_iff_ne, ne_eq]; omega
    clear ha
    go_enter Try.func34, Try.ntmps34
    go_wp2_with (go_at_call 33; refine (own_any _ _ _ _ HC.out).mono ?_; rintro e w' ⟨rfl, rfl⟩)
    go_ret
    exact ⟨rfl, rfl⟩
theorem reach_range (p g n first sz : Nat) (bits : Int) (F : Value) (h : first ≤ 68719476735) (hs : (sz = 1 ∧ bits = 8) ∨ (sz = 2 ∧ bits = 16) ∨ (sz = 4 ∧ bits = 32) ∨ (sz = 16 ∧ bits = 128)) (ha : first % sz = 0) (hr : n ≤ first) (w : World) (hn : 16 ≤ n ∧ n ≤ 4096)
    (hc : w.cell? ⟨p, 0, none⟩ = some (.slice (some ⟨g, 0, none⟩) n n)) :
    Calls Try.prog 34 #[.pointer (some ⟨p, 0, none⟩), .int .u64 first, .int .i64 bits, F] w fun e w' => e = .returned (.int .i64 4) ∧ w = w' := by
  have h0 : ((n : Int) == 0) = false := by simp; omega
  have HC := Lib.hid hc; clear hc
  rcases hs with ⟨rfl, rfl⟩ | ⟨rfl, rfl⟩ | ⟨rfl, rfl⟩ | ⟨rfl, rfl⟩
  · have h1 : ((first : Int) % 1 != 0) = false := by simp only [bne_eq_false_iff_eq]; omega
    clear ha
    go_enter Try.func34, Try.ntmps34
    go_wp2_with (go_at_call 33; refine (own_any _ _ _ _ HC.out).mono ?_; rintro e w' ⟨rfl, rfl⟩)
    go_ret
    exact ⟨rfl, rfl⟩
  · have h1 : ((first : Int) % 2 != 0) = false := by simp only [bne_eq_false_iff_eq]; omega
    clear ha
    go_enter Try.func34, Try.ntmps34
    go_wp2_with (go_at_call 33; refine (own_any _ _ _ _ HC.out).mono ?_; rintro e w' ⟨rfl, rfl⟩)
    go_ret
    exact ⟨rfl, rfl⟩
  · have h1 : ((first : Int) % 4 != 0) = false := by simp only [bne_eq_false_iff_eq]; omega
    clear ha
    go_enter Try.func34, Try.ntmps34
    go_wp2_with (go_at_call 33; refine (own_any _ _ _ _ HC.out).mono ?_; rintro e w' ⟨rfl, rfl⟩)
    go_ret
    exact ⟨rfl, rfl⟩
  · have h1 : ((first : Int) % 16 != 0) = false := by simp only [bne_eq_false_iff_eq]; omega
    clear ha
    go_enter Try.func34, Try.ntmps34
    go_wp2_with (go_at_call 33; refine (own_any _ _ _ _ HC.out).mono ?_; rintro e w' ⟨rfl, rfl⟩)
    go_ret
    exact ⟨rfl, rfl⟩
set_option maxHeartbeats 4000000 in
theorem reach_goes (p g n first sz : Nat) (bits : Int) (f : FuncId) (hf : f = 36 ∨ f = 38 ∨ f = 41 ∨ f = 42) (cap : Addr) (Post : World → Prop)
    (hs : (sz = 1 ∧ bits = 8) ∨ (sz = 2 ∧ bits = 16) ∨ (sz = 4 ∧ bits = 32) ∨ (sz = 16 ∧ bits = 128)) (ha : first % sz = 0) (hr : first + sz ≤ n) (w : World) (hn : 16 ≤ n ∧ n ≤ 4096)
    (hc : w.cell? ⟨p, 0, none⟩ = some (.slice (some ⟨g, 0, none⟩) n n))
    (hk : Calls Try.prog f #[.slice (some ⟨g, first, none⟩) sz sz, .pointer (some cap)] w fun e w' => e = .returned (.tuple #[]) ∧ Post w') :
    Calls Try.prog 34 #[.pointer (some ⟨p, 0, none⟩), .int .u64 first, .int .i64 bits, .func (.func f) #[] #[.pointer (some cap)]] w fun e w' => e = .returned (.int .i64 0) ∧ Post w' := by
  have h0 : ((n : Int) == 0) = false := by simp; omega
  have HC := Lib.hid hc; clear hc
  have HK := Lib.hid hk; clear hk
  rcases hs with ⟨rfl, rfl⟩ | ⟨rfl, rfl⟩ | ⟨rfl, rfl⟩ | ⟨rfl, rfl⟩
  · have h1 : ((first : Int) % 1 != 0) = false := by simp only [bne_eq_false_iff_eq]; omega
    clear ha
    rcases hf with rfl | rfl | rfl | rfl
    all_goals
      go_enter Try.func34, Try.ntmps34
      go_wp2_with (first
        | (go_at_call 33; refine (own_any _ _ _ _ HC.out).mono ?_; rintro e w' ⟨rfl, rfl⟩)
        | (refine HK.out.mono ?_; rintro e w' ⟨rfl, hpost⟩))
      go_ret
      exact ⟨rfl, hpost⟩
  · have h1 : ((first : Int) % 2 != 0) = false := by simp only [bne_eq_false_iff_eq]; omega
    clear ha
    rcases hf with rfl | rfl | rfl | rfl
    all_goals
      go_enter Try.func34, Try.ntmps34
      go_wp2_with (first
        | (go_at_call 33; refine (own_any _ _ _ _ HC.out).mono ?_; rintro e w' ⟨rfl, rfl⟩)
        | (refine HK.out.mono ?_; rintro e w' ⟨rfl, hpost⟩))
      go_ret
      exact ⟨rfl, hpost⟩
  · have h1 : ((first : Int) % 4 != 0) = false := by simp only [bne_eq_false_iff_eq]; omega
    clear ha
    rcases hf with rfl | rfl | rfl | rfl
    all_goals
      go_enter Try.func34, Try.ntmps34
      go_wp2_with (first
        | (go_at_call 33; refine (own_any _ _ _ _ HC.out).mono ?_; rintro e w' ⟨rfl, rfl⟩)
        | (refine HK.out.mono ?_; rintro e w' ⟨rfl, hpost⟩))
      go_ret
      exact ⟨rfl, hpost⟩
  · have h1 : ((first : Int) % 16 != 0) = false := by simp only [bne_eq_false_iff_eq]; omega
    clear ha
    rcases hf with rfl | rfl | rfl | rfl
    all_goals
      go_enter Try.func34, Try.ntmps34
      go_wp2_with (first
        | (go_at_call 33; refine (own_any _ _ _ _ HC.out).mono ?_; rintro e w' ⟨rfl, rfl⟩)
        | (refine HK.out.mono ?_; rintro e w' ⟨rfl, hpost⟩))
      go_ret
      exact ⟨rfl, hpost⟩

end Go.Proofs.Ytchjcfmmnfimlaa
