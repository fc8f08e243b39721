/-
  The contracts of mayBe, New; the document's Right.
-/
import Derived.Test.YtifniogldinbdaaLnVic
namespace Go.Proofs.Ytifniogldinbdaa
open Go.RowKit
set_option linter.unusedVariables false
set_option linter.unusedSimpArgs false
namespace Ln
def pow2 (s : Int) : Bool := s == 1 || s == 2 || s == 4 || s == 8 || s == 16 || s == 32 || s == 64
def mayB (s ways : Int) : Bool := pow2 s && (decide (1 ≤ ways) && decide (ways ≤ 8))
theorem pow2_in {s : Int} (h : pow2 s = true) : 1 ≤ s ∧ s ≤ 64 := by
  unfold pow2 at h
  simp at h
  omega
theorem pow2_no {s : Int} (h : ¬ (1 ≤ s ∧ s ≤ 64)) : pow2 s = false := Bool.eq_false_iff.2 fun h' => h (pow2_in h')
theorem pow2_not {s : Int} (h : ∀ m, m < 7 → s ≠ ((2 ^ m : Nat) : Int)) : pow2 s = false := by
  refine Bool.eq_false_iff.2 fun h' => ?_
  unfold pow2 at h'
  have h0 := h 0 (by omega); have h1 := h 1 (by omega); have h2 := h 2 (by omega); have h3 := h 3 (by omega); have h4 := h 4 (by omega); have h5 := h 5 (by omega); have h6 := h 6 (by omega)
  simp at h' h0 h1 h2 h3 h4 h5 h6
  omega
set_option maxRecDepth 100000 in
theorem pow2_all : ∀ k : Fin 64, (bits BinOp.and IntKind.i64 ((k.val + 1 : Nat) : Int) (((k.val + 1 : Nat) : Int) - 1) = 0) ↔ pow2 ((k.val + 1 : Nat) : Int) = true := by decide +kernel
theorem pow2_bits {s : Int} (h1 : 1 ≤ s) (h2 : s ≤ 64) : (bits BinOp.and IntKind.i64 s (s - 1) = 0) ↔ pow2 s = true := by
  have := pow2_all ⟨(s - 1).toNat, by omega⟩
  have e : (((s - 1).toNat + 1 : Nat) : Int) = s := by omega
  simp only [e] at this
  exact this
end Ln
set_option maxRecDepth 100000 in
set_option maxHeartbeats 2000000 in
theorem mayBe_any (s ways : Int) (hs : Ev.i64B s) (hw : Ev.i64B ways) (w : World) : Calls Try.prog 31 #[.int .i64 s, .int .i64 ways] w fun e w' => e = .returned (.bool (Ln.mayB s ways)) ∧ w = w' := by
  unfold Ev.i64B at hs hw
  by_cases h1 : 1 ≤ s
  · by_cases h2 : s ≤ 64
    · have HB := Lib.hid (Ln.pow2_bits h1 h2)
      go_enter Try.func31, Try.ntmps31
      go_wp2
      · rename_i h3 h4
        go_ret
        refine ⟨?_, rfl⟩
        unfold Ln.mayB
        rw [HB.out.1 h3, decide_eq_true h4]; rfl
      · rename_i h3 h4
        go_ret
        refine ⟨?_, rfl⟩
        unfold Ln.mayB
        rw [HB.out.1 h3, decide_eq_false (show ¬ 1 ≤ ways by omega)]; rfl
      · rename_i h3
        go_ret
        refine ⟨?_, rfl⟩
        unfold Ln.mayB
        rw [Bool.eq_false_iff.2 (fun h => h3 (HB.out.2 h))]; rfl
    · go_enter Try.func31, Try.ntmps31
      go_wp2
      go_ret
      refine ⟨?_, rfl⟩
      unfold Ln.mayB
      rw [Ln.pow2_no (by omega : ¬ (1 ≤ s ∧ s ≤ 64))]; rfl
  · go_enter Try.func31, Try.ntmps31
    go_wp2
    go_ret
    refine ⟨?_, rfl⟩
    unfold Ln.mayB
    rw [Ln.pow2_no (by omega : ¬ (1 ≤ s ∧ s ≤ 64))]; rfl
theorem new_no (s ways : Int) (hs : Ev.i64B s) (hw : Ev.i64B ways) (h : Ln.mayB s ways = false) (w : World) : Calls Try.prog 10 #[.int .i64 s, .int .i64 ways] w fun e w' => e = .returned (.tuple #[.pointer none, .int .i64 2]) ∧ w = w' := by
  have M := mayBe_any s ways hs hw w
  rw [h] at M
  have HM := Lib.hid M
  clear M
  go_enter Try.func10, Try.ntmps10
  go_wp2_with (go_at_call 31; refine HM.out.mono ?_; rintro e W2 ⟨rfl, hw⟩; subst hw)
  exact bodyPost_ret (results_tmp2 (fn := Try.f10) rfl _ _ _) rfl ⟨rfl, rfl⟩
namespace Ln
theorem info_rows : ∃ i, Try.prog.info? 38 = some i ∧ i.zero = some (.slice none 0 0) ∧ i.size = 1 ∧ i.bytes = 24 := ⟨_, rfl, by kernel_rfl, by kernel_rfl, by kernel_rfl⟩
def noRW : RW := ⟨none, 0, []⟩
end Ln
set_option maxRecDepth 100000 in
set_option maxHeartbeats 2000000 in
theorem new_yes (s ways : Nat) (h : Ln.mayB s ways = true) (w : World) : Calls Try.prog 10 #[.int .i64 (s : Int), .int .i64 (ways : Int)] w fun e w' => ∃ p, e = .returned (.tuple #[.pointer (some ⟨p, 0, none⟩), .int .i64 0]) ∧ Below w.heap.size w w' ∧ ∃ F, Ln.Cache w' F p ways (List.replicate s []) ∧ ∀ k, F k → w.heap.size ≤ k := by
  have hb : (1 ≤ s ∧ s ≤ 64) ∧ 1 ≤ ways ∧ ways ≤ 8 := by
    have h' := h
    unfold Ln.mayB at h'
    rw [Bool.and_eq_true, Bool.and_eq_true] at h'
    have h1 := Ln.pow2_in h'.1
    have h2 := of_decide_eq_true h'.2.1
    have h3 := of_decide_eq_true h'.2.2
    omega
  have M := mayBe_any (s : Int) (ways : Int) (by unfold Ev.i64B; omega) (by unfold Ev.i64B; omega) w
  rw [h] at M
  have HM := Lib.hid M
  obtain ⟨i0, hi, hz0, hz1, hz2⟩ := Ln.info_rows
  have hmk : ∀ W : World, (Instr.makeSlice 69 (.int .i64 (s : Int)) (.int .i64 (s : Int))).run Try.prog W = .ok (.slice (some ⟨W.heap.size, 0, none⟩) s s) (W.alloc (.cells ((List.replicate s Ln.noRW).map Ln.RW.v).toArray 38)) := by
    intro W
    have := run_make (P := Try.prog) W 69 38 i0 (.slice none 0 0) Try.underlying69 hi hz0 .i64 .i64 (s : Int) (s : Int) (by omega) (by omega) (by rw [hz2]; omega) (by omega)
    rw [this, hz1, Int.toNat_natCast]
    congr 3
    apply Array.toList_inj.1
    show (madeCells #[Value.slice none 0 0] (s * 1)).toList = _
    rw [toList_madeCells_one]
    simp [Ln.noRW, Ln.RW.v]
  have hmkh := hmk w
  clear M hi hz0 hz1 hz2 hmk h
  go_enter Try.func10, Try.ntmps10
  go_wp2_with (go_at_call 31; refine HM.out.mono ?_; rintro e W2 ⟨rfl, hw⟩; subst hw)
  refine bodyPost_ret (results_tmp2 (fn := Try.f10) rfl _ _ _) rfl ⟨w.heap.size + 1, rfl, ((Below.refl w.heap.size w).alloc (Nat.le_refl _) _).alloc (by simp) _, fun k => k = w.heap.size + 1 ∨ k = w.heap.size, ⟨w.heap.size, List.replicate s Ln.noRW, ?_, by simp [Ln.noRW]⟩, fun k hk => by omega⟩
  have hget : ∀ (i : Nat) (r : Ln.RW), (List.replicate s Ln.noRW)[i]? = some r → r = Ln.noRW := fun i r hr => by
    exact List.eq_of_mem_replicate (List.mem_of_getElem? hr)
  refine ⟨?_, ?_, fun i r hr => ?_, fun i j r t hij hr ht => ?_, .inl rfl, .inr rfl, fun r hr k hk => ?_, fun k hk => ?_, fun r hr e he => ?_, by simp; omega, by simp; omega, by omega, by omega, fun r hr => ?_⟩
  · rw [List.length_replicate]; exact heap_alloc2_new w _ _
  · refine (heap_alloc2_old w _ _).trans ?_
    congr 2
    apply Array.toList_inj.1
    simp
  · rw [hget i r hr]; exact World.ownsRow_nil _ _ _ _
  · rw [hget i r hr]; exact .inl rfl
  · rw [List.eq_of_mem_replicate hr] at hk; cases hk
  · simp; omega
  · rw [List.eq_of_mem_replicate hr] at he; cases he
  · rw [List.eq_of_mem_replicate hr]; exact Nat.zero_le _
set_option maxRecDepth 100000 in
set_option maxHeartbeats 4000000 in
theorem right_any (s ways : Int) (hs : Ev.i64B s) (hw : Ev.i64B ways) (w : World) : Calls Try.prog 20 #[.int .i64 s, .int .i64 ways] w fun e w' => e = .returned (.bool (Ln.mayB s ways)) ∧ w = w' := by
  unfold Ev.i64B at hs hw
  go_enter Try.func20, Try.ntmps20
  go_wp2
  go_loopw [5, 6, 7, 8, 9, 10, 11, 12] (fun i _ _ _ _ _ _ _ wr => w = wr ∧ ∃ j : Nat, j ≤ 7 ∧ i = .int .i64 ((2 ^ j : Nat) : Int) ∧ ∀ m, m < j → s ≠ ((2 ^ m : Nat) : Int)) (fun i _ _ _ _ _ _ _ _ => 128 - (intOf i).toNat)
  case atStart => exact ⟨rfl, 0, Nat.zero_le _, rfl, fun m hm => absurd hm (by omega)⟩
  case round =>
    obtain ⟨rfl, j, hj, rfl, hno⟩ := hrel
    have HNO := Lib.hid hno
    clear hno
    obtain rfl | rfl | rfl | rfl | rfl | rfl | rfl | rfl : j = 0 ∨ j = 1 ∨ j = 2 ∨ j = 3 ∨ j = 4 ∨ j = 5 ∨ j = 6 ∨ j = 7 := by omega
    · by_cases he : s = 1
      · subst he
        clear HNO
        go_wp2
        all_goals
          rename_i h3
          go_ret
          refine ⟨?_, rfl⟩
          unfold Ln.mayB Ln.pow2
          first
            | (rw [decide_eq_true (show 1 ≤ ways from h3)]; rfl)
            | (rw [decide_eq_false (show ¬ 1 ≤ ways by omega)]; rfl)
      · have hne : ¬ (1 : Int) = s := fun e => he e.symm
        have HE := Lib.hid he
        clear he
        go_wp2
        go_roundw
        case rel => exact ⟨trivial, 1, by omega, rfl, fun m hm => by
          by_cases e : m = 0
          · subst e; exact HE.out
          · exact HNO.out m (by omega)⟩
        case measure => simp [intOf]
    · by_cases he : s = 2
      · subst he
        clear HNO
        go_wp2
        all_goals
          rename_i h3
          go_ret
          refine ⟨?_, rfl⟩
          unfold Ln.mayB Ln.pow2
          first
            | (rw [decide_eq_true (show 1 ≤ ways from h3)]; rfl)
            | (rw [decide_eq_false (show ¬ 1 ≤ ways by omega)]; rfl)
      · have hne : ¬ (2 : Int) = s := fun e => he e.symm
        have HE := Lib.hid he
        clear he
        go_wp2
        go_roundw
        case rel => exact ⟨trivial, 2, by omega, rfl, fun m hm => by
          by_cases e : m = 1
          · subst e; exact HE.out
          · exact HNO.out m (by omega)⟩
        case measure => simp [intOf]
    · by_cases he : s = 4
      · subst he
        clear HNO
        go_wp2
        all_goals
          rename_i h3
          go_ret
          refine ⟨?_, rfl⟩
          unfold Ln.mayB Ln.pow2
          first
            | (rw [decide_eq_true (show 1 ≤ ways from h3)]; rfl)
            | (rw [decide_eq_false (show ¬ 1 ≤ ways by omega)]; rfl)
      · have hne : ¬ (4 : Int) = s := fun e => he e.symm
        have HE := Lib.hid he
        clear he
        go_wp2
        go_roundw
        case rel => exact ⟨trivial, 3, by omega, rfl, fun m hm => by
          by_cases e : m = 2
          · subst e; exact HE.out
          · exact HNO.out m (by omega)⟩
        case measure => simp [intOf]
    · by_cases he : s = 8
      · subst he
        clear HNO
        go_wp2
        all_goals
          rename_i h3
          go_ret
          refine ⟨?_, rfl⟩
          unfold Ln.mayB Ln.pow2
          first
            | (rw [decide_eq_true (show 1 ≤ ways from h3)]; rfl)
            | (rw [decide_eq_false (show ¬ 1 ≤ ways by omega)]; rfl)
      · have hne : ¬ (8 : Int) = s := fun e => he e.symm
        have HE := Lib.hid he
        clear he
        go_wp2
        go_roundw
        case rel => exact ⟨trivial, 4, by omega, rfl, fun m hm => by
          by_cases e : m = 3
          · subst e; exact HE.out
          · exact HNO.out m (by omega)⟩
        case measure => simp [intOf]
    · by_cases he : s = 16
      · subst he
        clear HNO
        go_wp2
        all_goals
          rename_i h3
          go_ret
          refine ⟨?_, rfl⟩
          unfold Ln.mayB Ln.pow2
          first
            | (rw [decide_eq_true (show 1 ≤ ways from h3)]; rfl)
            | (rw [decide_eq_false (show ¬ 1 ≤ ways by omega)]; rfl)
      · have hne : ¬ (16 : Int) = s := fun e => he e.symm
        have HE := Lib.hid he
        clear he
        go_wp2
        go_roundw
        case rel => exact ⟨trivial, 5, by omega, rfl, fun m hm => by
          by_cases e : m = 4
          · subst e; exact HE.out
          · exact HNO.out m (by omega)⟩
        case measure => simp [intOf]
    · by_cases he : s = 32
      · subst he
        clear HNO
        go_wp2
        all_goals
          rename_i h3
          go_ret
          refine ⟨?_, rfl⟩
          unfold Ln.mayB Ln.pow2
          first
            | (rw [decide_eq_true (show 1 ≤ ways from h3)]; rfl)
            | (rw [decide_eq_false (show ¬ 1 ≤ ways by omega)]; rfl)
      · have hne : ¬ (32 : Int) = s := fun e => he e.symm
        have HE := Lib.hid he
        clear he
        go_wp2
        go_roundw
        case rel => exact ⟨trivial, 6, by omega, rfl, fun m hm => by
          by_cases e : m = 5
          · subst e; exact HE.out
          · exact HNO.out m (by omega)⟩
        case measure => simp [intOf]
    · by_cases he : s = 64
      · subst he
        clear HNO
        go_wp2
        all_goals
          rename_i h3
          go_ret
          refine ⟨?_, rfl⟩
          unfold Ln.mayB Ln.pow2
          first
            | (rw [decide_eq_true (show 1 ≤ ways from h3)]; rfl)
            | (rw [decide_eq_false (show ¬ 1 ≤ ways by omega)]; rfl)
      · have hne : ¬ (64 : Int) = s := fun e => he e.symm
        have HE := Lib.hid he
        clear he
        go_wp2
        go_roundw
        case rel => exact ⟨trivial, 7, by omega, rfl, fun m hm => by
          by_cases e : m = 6
          · subst e; exact HE.out
          · exact HNO.out m (by omega)⟩
        case measure => simp [intOf]
    · go_wp2
      go_ret
      refine ⟨?_, rfl⟩
      unfold Ln.mayB
      rw [Ln.pow2_not HNO.out]; rfl
end Go.Proofs.Ytifniogldinbdaa
