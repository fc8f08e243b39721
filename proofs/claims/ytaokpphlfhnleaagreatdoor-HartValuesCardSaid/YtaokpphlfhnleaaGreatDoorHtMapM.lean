/-
  HtMapM: HtMapL, HtMapA, HtMapB, HtMoA, HtMoB, HtMoC in one text.
-/
import Derived.Test.YtaokpphlfhnleaaGreatDoorIsForms

section
namespace Go.Proofs.YtaokpphlfhnleaaGreatDoor
open Go.RowKit Go.Maps
set_option linter.unusedVariables false
theorem lawOp : Keyed Tryz.prog 28 := int_keyed Tryz.underlying28
end Go.Proofs.YtaokpphlfhnleaaGreatDoor
end

section
namespace Go.Proofs.YtaokpphlfhnleaaGreatDoor
open Go.RowKit Go.Maps
set_option linter.unusedVariables false
def jumpsD : DataW Value := ((((((((DataW.map []).put (.int .i64 3) (.held (.func (.func 79) #[] #[]))).put (.int .i64 4) (.held (.func (.func 82) #[] #[]))).put (.int .i64 5) (.held (.func (.func 84) #[] #[]))).put (.int .i64 6) (.held (.func (.func 87) #[] #[]))).put (.int .i64 7) (.held (.func (.func 88) #[] #[]))).put (.int .i64 8) (.held (.func (.func 89) #[] #[]))).put (.int .i64 9) (.held (.func (.func 90) #[] #[]))).put (.int .i64 10) (.held (.func (.func 91) #[] #[]))
theorem jumps_at {w : World} {b : Nat} (h : w.ownsMap Tryz.prog 28 asHeld b 8 jumpsD) :
    (Instr.lookup 94 (.map (some b)) (.int .i64 3) false).run Tryz.prog w = .ok (.func (.func 79) #[] #[]) w ∧
    (Instr.lookup 94 (.map (some b)) (.int .i64 4) false).run Tryz.prog w = .ok (.func (.func 82) #[] #[]) w ∧
    (Instr.lookup 94 (.map (some b)) (.int .i64 5) false).run Tryz.prog w = .ok (.func (.func 84) #[] #[]) w ∧
    (Instr.lookup 94 (.map (some b)) (.int .i64 6) false).run Tryz.prog w = .ok (.func (.func 87) #[] #[]) w ∧
    (Instr.lookup 94 (.map (some b)) (.int .i64 7) false).run Tryz.prog w = .ok (.func (.func 88) #[] #[]) w ∧
    (Instr.lookup 94 (.map (some b)) (.int .i64 8) false).run Tryz.prog w = .ok (.func (.func 89) #[] #[]) w ∧
    (Instr.lookup 94 (.map (some b)) (.int .i64 9) false).run Tryz.prog w = .ok (.func (.func 90) #[] #[]) w ∧
    (Instr.lookup 94 (.map (some b)) (.int .i64 10) false).run Tryz.prog w = .ok (.func (.func 91) #[] #[]) w := by
  refine ⟨?_, ?_, ?_, ?_, ?_, ?_, ?_, ?_⟩
  · obtain ⟨v, ps, hrun, hv⟩ := h.lookup lawOp Tryz.underlying94 (z := .nilFunc) (by kernel_rfl) rfl (keyOf_int_mk Tryz.underlying28 (show (Lit.int .i64 3).wf = true by decide))
    rw [show jumpsD.atKey (.int .i64 3) _ = .held (.func (.func 79) #[] #[]) from rfl] at hv
    simp only [asHeld, Option.some.injEq, Prod.mk.injEq, DataW.held.injEq] at hv
    rw [hrun, hv.1]
  · obtain ⟨v, ps, hrun, hv⟩ := h.lookup lawOp Tryz.underlying94 (z := .nilFunc) (by kernel_rfl) rfl (keyOf_int_mk Tryz.underlying28 (show (Lit.int .i64 4).wf = true by decide))
    rw [show jumpsD.atKey (.int .i64 4) _ = .held (.func (.func 82) #[] #[]) from rfl] at hv
    simp only [asHeld, Option.some.injEq, Prod.mk.injEq, DataW.held.injEq] at hv
    rw [hrun, hv.1]
  · obtain ⟨v, ps, hrun, hv⟩ := h.lookup lawOp Tryz.underlying94 (z := .nilFunc) (by kernel_rfl) rfl (keyOf_int_mk Tryz.underlying28 (show (Lit.int .i64 5).wf = true by decide))
    rw [show jumpsD.atKey (.int .i64 5) _ = .held (.func (.func 84) #[] #[]) from rfl] at hv
    simp only [asHeld, Option.some.injEq, Prod.mk.injEq, DataW.held.injEq] at hv
    rw [hrun, hv.1]
  · obtain ⟨v, ps, hrun, hv⟩ := h.lookup lawOp Tryz.underlying94 (z := .nilFunc) (by kernel_rfl) rfl (keyOf_int_mk Tryz.underlying28 (show (Lit.int .i64 6).wf = true by decide))
    rw [show jumpsD.atKey (.int .i64 6) _ = .held (.func (.func 87) #[] #[]) from rfl] at hv
    simp only [asHeld, Option.some.injEq, Prod.mk.injEq, DataW.held.injEq] at hv
    rw [hrun, hv.1]
  · obtain ⟨v, ps, hrun, hv⟩ := h.lookup lawOp Tryz.underlying94 (z := .nilFunc) (by kernel_rfl) rfl (keyOf_int_mk Tryz.underlying28 (show (Lit.int .i64 7).wf = true by decide))
    rw [show jumpsD.atKey (.int .i64 7) _ = .held (.func (.func 88) #[] #[]) from rfl] at hv
    simp only [asHeld, Option.some.injEq, Prod.mk.injEq, DataW.held.injEq] at hv
    rw [hrun, hv.1]
  · obtain ⟨v, ps, hrun, hv⟩ := h.lookup lawOp Tryz.underlying94 (z := .nilFunc) (by kernel_rfl) rfl (keyOf_int_mk Tryz.underlying28 (show (Lit.int .i64 8).wf = true by decide))
    rw [show jumpsD.atKey (.int .i64 8) _ = .held (.func (.func 89) #[] #[]) from rfl] at hv
    simp only [asHeld, Option.some.injEq, Prod.mk.injEq, DataW.held.injEq] at hv
    rw [hrun, hv.1]
  · obtain ⟨v, ps, hrun, hv⟩ := h.lookup lawOp Tryz.underlying94 (z := .nilFunc) (by kernel_rfl) rfl (keyOf_int_mk Tryz.underlying28 (show (Lit.int .i64 9).wf = true by decide))
    rw [show jumpsD.atKey (.int .i64 9) _ = .held (.func (.func 90) #[] #[]) from rfl] at hv
    simp only [asHeld, Option.some.injEq, Prod.mk.injEq, DataW.held.injEq] at hv
    rw [hrun, hv.1]
  · obtain ⟨v, ps, hrun, hv⟩ := h.lookup lawOp Tryz.underlying94 (z := .nilFunc) (by kernel_rfl) rfl (keyOf_int_mk Tryz.underlying28 (show (Lit.int .i64 10).wf = true by decide))
    rw [show jumpsD.atKey (.int .i64 10) _ = .held (.func (.func 91) #[] #[]) from rfl] at hv
    simp only [asHeld, Option.some.injEq, Prod.mk.injEq, DataW.held.injEq] at hv
    rw [hrun, hv.1]
set_option maxHeartbeats 4000000 in
theorem jumps_any (w : World) :
    Calls Tryz.prog 60 #[] w fun e w' => ∃ r, e = .returned (.map (some r)) ∧ w'.ownsMap Tryz.prog 28 asHeld r 8 jumpsD ∧ Below w.heap.size w w' := by
  have hmm := @run_makeMap Tryz.prog
  go_enter Tryz.func60, Tryz.ntmps60
  go_wp2_with (first
    | (refine wpList_insert_own (H := Value) _ rfl _ _ _ 94 rfl 28 80 lawOp Tryz.underlying94 asHeld w.heap.size 0 (.map []) rfl (World.ownsMap_made w _ _ _) (by unfold maxLen; omega) (.int .i64 3) (.func (.func 79) #[] #[]) (.int .i64 3) rfl rfl (keyOf_int_mk Tryz.underlying28 (by decide)) (.held (.func (.func 79) #[] #[])) [] rfl ?_; intro w1 hown1 hg1)
    | (refine wpList_insert_own (H := Value) _ rfl _ _ _ 94 rfl 28 80 lawOp Tryz.underlying94 asHeld w.heap.size 1 _ rfl hown1 (by unfold maxLen; omega) (.int .i64 4) (.func (.func 82) #[] #[]) (.int .i64 4) rfl rfl (keyOf_int_mk Tryz.underlying28 (by decide)) (.held (.func (.func 82) #[] #[])) [] rfl ?_; intro w2 hown2 hg2)
    | (refine wpList_insert_own (H := Value) _ rfl _ _ _ 94 rfl 28 80 lawOp Tryz.underlying94 asHeld w.heap.size 2 _ rfl hown2 (by unfold maxLen; omega) (.int .i64 5) (.func (.func 84) #[] #[]) (.int .i64 5) rfl rfl (keyOf_int_mk Tryz.underlying28 (by decide)) (.held (.func (.func 84) #[] #[])) [] rfl ?_; intro w3 hown3 hg3)
    | (refine wpList_insert_own (H := Value) _ rfl _ _ _ 94 rfl 28 80 lawOp Tryz.underlying94 asHeld w.heap.size 3 _ rfl hown3 (by unfold maxLen; omega) (.int .i64 6) (.func (.func 87) #[] #[]) (.int .i64 6) rfl rfl (keyOf_int_mk Tryz.underlying28 (by decide)) (.held (.func (.func 87) #[] #[])) [] rfl ?_; intro w4 hown4 hg4)
    | (refine wpList_insert_own (H := Value) _ rfl _ _ _ 94 rfl 28 80 lawOp Tryz.underlying94 asHeld w.heap.size 4 _ rfl hown4 (by unfold maxLen; omega) (.int .i64 7) (.func (.func 88) #[] #[]) (.int .i64 7) rfl rfl (keyOf_int_mk Tryz.underlying28 (by decide)) (.held (.func (.func 88) #[] #[])) [] rfl ?_; intro w5 hown5 hg5)
    | (refine wpList_insert_own (H := Value) _ rfl _ _ _ 94 rfl 28 80 lawOp Tryz.underlying94 asHeld w.heap.size 5 _ rfl hown5 (by unfold maxLen; omega) (.int .i64 8) (.func (.func 89) #[] #[]) (.int .i64 8) rfl rfl (keyOf_int_mk Tryz.underlying28 (by decide)) (.held (.func (.func 89) #[] #[])) [] rfl ?_; intro w6 hown6 hg6)
    | (refine wpList_insert_own (H := Value) _ rfl _ _ _ 94 rfl 28 80 lawOp Tryz.underlying94 asHeld w.heap.size 6 _ rfl hown6 (by unfold maxLen; omega) (.int .i64 9) (.func (.func 90) #[] #[]) (.int .i64 9) rfl rfl (keyOf_int_mk Tryz.underlying28 (by decide)) (.held (.func (.func 90) #[] #[])) [] rfl ?_; intro w7 hown7 hg7)
    | (refine wpList_insert_own (H := Value) _ rfl _ _ _ 94 rfl 28 80 lawOp Tryz.underlying94 asHeld w.heap.size 7 _ rfl hown7 (by unfold maxLen; omega) (.int .i64 10) (.func (.func 91) #[] #[]) (.int .i64 10) rfl rfl (keyOf_int_mk Tryz.underlying28 (by decide)) (.held (.func (.func 91) #[] #[])) [] rfl ?_; intro w8 hown8 hg8))
  go_ret
  have h0 : (w.alloc (Obj.map #[] 0)).heap.size = w.heap.size + 1 := by simp
  have h1 := hg1.size
  have h2 := hg2.size
  have h3 := hg3.size
  have h4 := hg4.size
  have h5 := hg5.size
  have h6 := hg6.size
  have h7 := hg7.size
  have h8 := hg8.size
  exact ⟨_, rfl, hown8, ((((((((((Below.refl _ _).alloc (Nat.le_refl _) _).grown hg1 (by omega) (fun k hk => by cases hk; exact Nat.le_refl _)).grown hg2 (by omega) (fun k hk => by cases hk; exact Nat.le_refl _)).grown hg3 (by omega) (fun k hk => by cases hk; exact Nat.le_refl _)).grown hg4 (by omega) (fun k hk => by cases hk; exact Nat.le_refl _)).grown hg5 (by omega) (fun k hk => by cases hk; exact Nat.le_refl _)).grown hg6 (by omega) (fun k hk => by cases hk; exact Nat.le_refl _)).grown hg7 (by omega) (fun k hk => by cases hk; exact Nat.le_refl _)).grown hg8 (by omega) (fun k hk => by cases hk; exact Nat.le_refl _))⟩
def accessesD : DataW Value := ((((((((DataW.map []).put (.int .i64 11) (.held (.func (.func 92) #[] #[]))).put (.int .i64 12) (.held (.func (.func 95) #[] #[]))).put (.int .i64 13) (.held (.func (.func 96) #[] #[]))).put (.int .i64 14) (.held (.func (.func 97) #[] #[]))).put (.int .i64 15) (.held (.func (.func 98) #[] #[]))).put (.int .i64 16) (.held (.func (.func 99) #[] #[]))).put (.int .i64 17) (.held (.func (.func 101) #[] #[]))).put (.int .i64 18) (.held (.func (.func 102) #[] #[]))
theorem accesses_at {w : World} {b : Nat} (h : w.ownsMap Tryz.prog 28 asHeld b 8 accessesD) :
    (Instr.lookup 94 (.map (some b)) (.int .i64 11) false).run Tryz.prog w = .ok (.func (.func 92) #[] #[]) w ∧
    (Instr.lookup 94 (.map (some b)) (.int .i64 12) false).run Tryz.prog w = .ok (.func (.func 95) #[] #[]) w ∧
    (Instr.lookup 94 (.map (some b)) (.int .i64 13) false).run Tryz.prog w = .ok (.func (.func 96) #[] #[]) w ∧
    (Instr.lookup 94 (.map (some b)) (.int .i64 14) false).run Tryz.prog w = .ok (.func (.func 97) #[] #[]) w ∧
    (Instr.lookup 94 (.map (some b)) (.int .i64 15) false).run Tryz.prog w = .ok (.func (.func 98) #[] #[]) w ∧
    (Instr.lookup 94 (.map (some b)) (.int .i64 16) false).run Tryz.prog w = .ok (.func (.func 99) #[] #[]) w ∧
    (Instr.lookup 94 (.map (some b)) (.int .i64 17) false).run Tryz.prog w = .ok (.func (.func 101) #[] #[]) w ∧
    (Instr.lookup 94 (.map (some b)) (.int .i64 18) false).run Tryz.prog w = .ok (.func (.func 102) #[] #[]) w := by
  refine ⟨?_, ?_, ?_, ?_, ?_, ?_, ?_, ?_⟩
  · obtain ⟨v, ps, hrun, hv⟩ := h.lookup lawOp Tryz.underlying94 (z := .nilFunc) (by kernel_rfl) rfl (keyOf_int_mk Tryz.underlying28 (show (Lit.int .i64 11).wf = true by decide))
    rw [show accessesD.atKey (.int .i64 11) _ = .held (.func (.func 92) #[] #[]) from rfl] at hv
    simp only [asHeld, Option.some.injEq, Prod.mk.injEq, DataW.held.injEq] at hv
    rw [hrun, hv.1]
  · obtain ⟨v, ps, hrun, hv⟩ := h.lookup lawOp Tryz.underlying94 (z := .nilFunc) (by kernel_rfl) rfl (keyOf_int_mk Tryz.underlying28 (show (Lit.int .i64 12).wf = true by decide))
    rw [show accessesD.atKey (.int .i64 12) _ = .held (.func (.func 95) #[] #[]) from rfl] at hv
    simp only [asHeld, Option.some.injEq, Prod.mk.injEq, DataW.held.injEq] at hv
    rw [hrun, hv.1]
  · obtain ⟨v, ps, hrun, hv⟩ := h.lookup lawOp Tryz.underlying94 (z := .nilFunc) (by kernel_rfl) rfl (keyOf_int_mk Tryz.underlying28 (show (Lit.int .i64 13).wf = true by decide))
    rw [show accessesD.atKey (.int .i64 13) _ = .held (.func (.func 96) #[] #[]) from rfl] at hv
    simp only [asHeld, Option.some.injEq, Prod.mk.injEq, DataW.held.injEq] at hv
    rw [hrun, hv.1]
  · obtain ⟨v, ps, hrun, hv⟩ := h.lookup lawOp Tryz.underlying94 (z := .nilFunc) (by kernel_rfl) rfl (keyOf_int_mk Tryz.underlying28 (show (Lit.int .i64 14).wf = true by decide))
    rw [show accessesD.atKey (.int .i64 14) _ = .held (.func (.func 97) #[] #[]) from rfl] at hv
    simp only [asHeld, Option.some.injEq, Prod.mk.injEq, DataW.held.injEq] at hv
    rw [hrun, hv.1]
  · obtain ⟨v, ps, hrun, hv⟩ := h.lookup lawOp Tryz.underlying94 (z := .nilFunc) (by kernel_rfl) rfl (keyOf_int_mk Tryz.underlying28 (show (Lit.int .i64 15).wf = true by decide))
    rw [show accessesD.atKey (.int .i64 15) _ = .held (.func (.func 98) #[] #[]) from rfl] at hv
    simp only [asHeld, Option.some.injEq, Prod.mk.injEq, DataW.held.injEq] at hv
    rw [hrun, hv.1]
  · obtain ⟨v, ps, hrun, hv⟩ := h.lookup lawOp Tryz.underlying94 (z := .nilFunc) (by kernel_rfl) rfl (keyOf_int_mk Tryz.underlying28 (show (Lit.int .i64 16).wf = true by decide))
    rw [show accessesD.atKey (.int .i64 16) _ = .held (.func (.func 99) #[] #[]) from rfl] at hv
    simp only [asHeld, Option.some.injEq, Prod.mk.injEq, DataW.held.injEq] at hv
    rw [hrun, hv.1]
  · obtain ⟨v, ps, hrun, hv⟩ := h.lookup lawOp Tryz.underlying94 (z := .nilFunc) (by kernel_rfl) rfl (keyOf_int_mk Tryz.underlying28 (show (Lit.int .i64 17).wf = true by decide))
    rw [show accessesD.atKey (.int .i64 17) _ = .held (.func (.func 101) #[] #[]) from rfl] at hv
    simp only [asHeld, Option.some.injEq, Prod.mk.injEq, DataW.held.injEq] at hv
    rw [hrun, hv.1]
  · obtain ⟨v, ps, hrun, hv⟩ := h.lookup lawOp Tryz.underlying94 (z := .nilFunc) (by kernel_rfl) rfl (keyOf_int_mk Tryz.underlying28 (show (Lit.int .i64 18).wf = true by decide))
    rw [show accessesD.atKey (.int .i64 18) _ = .held (.func (.func 102) #[] #[]) from rfl] at hv
    simp only [asHeld, Option.some.injEq, Prod.mk.injEq, DataW.held.injEq] at hv
    rw [hrun, hv.1]
set_option maxHeartbeats 4000000 in
theorem accesses_any (w : World) :
    Calls Tryz.prog 61 #[] w fun e w' => ∃ r, e = .returned (.map (some r)) ∧ w'.ownsMap Tryz.prog 28 asHeld r 8 accessesD ∧ Below w.heap.size w w' := by
  have hmm := @run_makeMap Tryz.prog
  go_enter Tryz.func61, Tryz.ntmps61
  go_wp2_with (first
    | (refine wpList_insert_own (H := Value) _ rfl _ _ _ 94 rfl 28 80 lawOp Tryz.underlying94 asHeld w.heap.size 0 (.map []) rfl (World.ownsMap_made w _ _ _) (by unfold maxLen; omega) (.int .i64 11) (.func (.func 92) #[] #[]) (.int .i64 11) rfl rfl (keyOf_int_mk Tryz.underlying28 (by decide)) (.held (.func (.func 92) #[] #[])) [] rfl ?_; intro w1 hown1 hg1)
    | (refine wpList_insert_own (H := Value) _ rfl _ _ _ 94 rfl 28 80 lawOp Tryz.underlying94 asHeld w.heap.size 1 _ rfl hown1 (by unfold maxLen; omega) (.int .i64 12) (.func (.func 95) #[] #[]) (.int .i64 12) rfl rfl (keyOf_int_mk Tryz.underlying28 (by decide)) (.held (.func (.func 95) #[] #[])) [] rfl ?_; intro w2 hown2 hg2)
    | (refine wpList_insert_own (H := Value) _ rfl _ _ _ 94 rfl 28 80 lawOp Tryz.underlying94 asHeld w.heap.size 2 _ rfl hown2 (by unfold maxLen; omega) (.int .i64 13) (.func (.func 96) #[] #[]) (.int .i64 13) rfl rfl (keyOf_int_mk Tryz.underlying28 (by decide)) (.held (.func (.func 96) #[] #[])) [] rfl ?_; intro w3 hown3 hg3)
    | (refine wpList_insert_own (H := Value) _ rfl _ _ _ 94 rfl 28 80 lawOp Tryz.underlying94 asHeld w.heap.size 3 _ rfl hown3 (by unfold maxLen; omega) (.int .i64 14) (.func (.func 97) #[] #[]) (.int .i64 14) rfl rfl (keyOf_int_mk Tryz.underlying28 (by decide)) (.held (.func (.func 97) #[] #[])) [] rfl ?_; intro w4 hown4 hg4)
    | (refine wpList_insert_own (H := Value) _ rfl _ _ _ 94 rfl 28 80 lawOp Tryz.underlying94 asHeld w.heap.size 4 _ rfl hown4 (by unfold maxLen; omega) (.int .i64 15) (.func (.func 98) #[] #[]) (.int .i64 15) rfl rfl (keyOf_int_mk Tryz.underlying28 (by decide)) (.held (.func (.func 98) #[] #[])) [] rfl ?_; intro w5 hown5 hg5)
    | (refine wpList_insert_own (H := Value) _ rfl _ _ _ 94 rfl 28 80 lawOp Tryz.underlying94 asHeld w.heap.size 5 _ rfl hown5 (by unfold maxLen; omega) (.int .i64 16) (.func (.func 99) #[] #[]) (.int .i64 16) rfl rfl (keyOf_int_mk Tryz.underlying28 (by decide)) (.held (.func (.func 99) #[] #[])) [] rfl ?_; intro w6 hown6 hg6)
    | (refine wpList_insert_own (H := Value) _ rfl _ _ _ 94 rfl 28 80 lawOp Tryz.underlying94 asHeld w.heap.size 6 _ rfl hown6 (by unfold maxLen; omega) (.int .i64 17) (.func (.func 101) #[] #[]) (.int .i64 17) rfl rfl (keyOf_int_mk Tryz.underlying28 (by decide)) (.held (.func (.func 101) #[] #[])) [] rfl ?_; intro w7 hown7 hg7)
    | (refine wpList_insert_own (H := Value) _ rfl _ _ _ 94 rfl 28 80 lawOp Tryz.underlying94 asHeld w.heap.size 7 _ rfl hown7 (by unfold maxLen; omega) (.int .i64 18) (.func (.func 102) #[] #[]) (.int .i64 18) rfl rfl (keyOf_int_mk Tryz.underlying28 (by decide)) (.held (.func (.func 102) #[] #[])) [] rfl ?_; intro w8 hown8 hg8))
  go_ret
  have h0 : (w.alloc (Obj.map #[] 0)).heap.size = w.heap.size + 1 := by simp
  have h1 := hg1.size
  have h2 := hg2.size
  have h3 := hg3.size
  have h4 := hg4.size
  have h5 := hg5.size
  have h6 := hg6.size
  have h7 := hg7.size
  have h8 := hg8.size
  exact ⟨_, rfl, hown8, ((((((((((Below.refl _ _).alloc (Nat.le_refl _) _).grown hg1 (by omega) (fun k hk => by cases hk; exact Nat.le_refl _)).grown hg2 (by omega) (fun k hk => by cases hk; exact Nat.le_refl _)).grown hg3 (by omega) (fun k hk => by cases hk; exact Nat.le_refl _)).grown hg4 (by omega) (fun k hk => by cases hk; exact Nat.le_refl _)).grown hg5 (by omega) (fun k hk => by cases hk; exact Nat.le_refl _)).grown hg6 (by omega) (fun k hk => by cases hk; exact Nat.le_refl _)).grown hg7 (by omega) (fun k hk => by cases hk; exact Nat.le_refl _)).grown hg8 (by omega) (fun k hk => by cases hk; exact Nat.le_refl _))⟩
def othersD : DataW Value := (((((((DataW.map []).put (.int .i64 1) (.held (.func (.func 143) #[] #[]))).put (.int .i64 2) (.held (.func (.func 144) #[] #[]))).put (.int .i64 38) (.held (.func (.func 145) #[] #[]))).put (.int .i64 39) (.held (.func (.func 146) #[] #[]))).put (.int .i64 48) (.held (.func (.func 147) #[] #[]))).put (.int .i64 49) (.held (.func (.func 149) #[] #[]))).put (.int .i64 59) (.held (.func (.func 150) #[] #[]))
theorem others_at {w : World} {b : Nat} (h : w.ownsMap Tryz.prog 28 asHeld b 7 othersD) :
    (Instr.lookup 94 (.map (some b)) (.int .i64 1) false).run Tryz.prog w = .ok (.func (.func 143) #[] #[]) w ∧
    (Instr.lookup 94 (.map (some b)) (.int .i64 2) false).run Tryz.prog w = .ok (.func (.func 144) #[] #[]) w ∧
    (Instr.lookup 94 (.map (some b)) (.int .i64 38) false).run Tryz.prog w = .ok (.func (.func 145) #[] #[]) w ∧
    (Instr.lookup 94 (.map (some b)) (.int .i64 39) false).run Tryz.prog w = .ok (.func (.func 146) #[] #[]) w ∧
    (Instr.lookup 94 (.map (some b)) (.int .i64 48) false).run Tryz.prog w = .ok (.func (.func 147) #[] #[]) w ∧
    (Instr.lookup 94 (.map (some b)) (.int .i64 49) false).run Tryz.prog w = .ok (.func (.func 149) #[] #[]) w ∧
    (Instr.lookup 94 (.map (some b)) (.int .i64 59) false).run Tryz.prog w = .ok (.func (.func 150) #[] #[]) w := by
  refine ⟨?_, ?_, ?_, ?_, ?_, ?_, ?_⟩
  · obtain ⟨v, ps, hrun, hv⟩ := h.lookup lawOp Tryz.underlying94 (z := .nilFunc) (by kernel_rfl) rfl (keyOf_int_mk Tryz.underlying28 (show (Lit.int .i64 1).wf = true by decide))
    rw [show othersD.atKey (.int .i64 1) _ = .held (.func (.func 143) #[] #[]) from rfl] at hv
    simp only [asHeld, Option.some.injEq, Prod.mk.injEq, DataW.held.injEq] at hv
    rw [hrun, hv.1]
  · obtain ⟨v, ps, hrun, hv⟩ := h.lookup lawOp Tryz.underlying94 (z := .nilFunc) (by kernel_rfl) rfl (keyOf_int_mk Tryz.underlying28 (show (Lit.int .i64 2).wf = true by decide))
    rw [show othersD.atKey (.int .i64 2) _ = .held (.func (.func 144) #[] #[]) from rfl] at hv
    simp only [asHeld, Option.some.injEq, Prod.mk.injEq, DataW.held.injEq] at hv
    rw [hrun, hv.1]
  · obtain ⟨v, ps, hrun, hv⟩ := h.lookup lawOp Tryz.underlying94 (z := .nilFunc) (by kernel_rfl) rfl (keyOf_int_mk Tryz.underlying28 (show (Lit.int .i64 38).wf = true by decide))
    rw [show othersD.atKey (.int .i64 38) _ = .held (.func (.func 145) #[] #[]) from rfl] at hv
    simp only [asHeld, Option.some.injEq, Prod.mk.injEq, DataW.held.injEq] at hv
    rw [hrun, hv.1]
  · obtain ⟨v, ps, hrun, hv⟩ := h.lookup lawOp Tryz.underlying94 (z := .nilFunc) (by kernel_rfl) rfl (keyOf_int_mk Tryz.underlying28 (show (Lit.int .i64 39).wf = true by decide))
    rw [show othersD.atKey (.int .i64 39) _ = .held (.func (.func 146) #[] #[]) from rfl] at hv
    simp only [asHeld, Option.some.injEq, Prod.mk.injEq, DataW.held.injEq] at hv
    rw [hrun, hv.1]
  · obtain ⟨v, ps, hrun, hv⟩ := h.lookup lawOp Tryz.underlying94 (z := .nilFunc) (by kernel_rfl) rfl (keyOf_int_mk Tryz.underlying28 (show (Lit.int .i64 48).wf = true by decide))
    rw [show othersD.atKey (.int .i64 48) _ = .held (.func (.func 147) #[] #[]) from rfl] at hv
    simp only [asHeld, Option.some.injEq, Prod.mk.injEq, DataW.held.injEq] at hv
    rw [hrun, hv.1]
  · obtain ⟨v, ps, hrun, hv⟩ := h.lookup lawOp Tryz.underlying94 (z := .nilFunc) (by kernel_rfl) rfl (keyOf_int_mk Tryz.underlying28 (show (Lit.int .i64 49).wf = true by decide))
    rw [show othersD.atKey (.int .i64 49) _ = .held (.func (.func 149) #[] #[]) from rfl] at hv
    simp only [asHeld, Option.some.injEq, Prod.mk.injEq, DataW.held.injEq] at hv
    rw [hrun, hv.1]
  · obtain ⟨v, ps, hrun, hv⟩ := h.lookup lawOp Tryz.underlying94 (z := .nilFunc) (by kernel_rfl) rfl (keyOf_int_mk Tryz.underlying28 (show (Lit.int .i64 59).wf = true by decide))
    rw [show othersD.atKey (.int .i64 59) _ = .held (.func (.func 150) #[] #[]) from rfl] at hv
    simp only [asHeld, Option.some.injEq, Prod.mk.injEq, DataW.held.injEq] at hv
    rw [hrun, hv.1]
set_option maxHeartbeats 4000000 in
theorem others_any (w : World) :
    Calls Tryz.prog 66 #[] w fun e w' => ∃ r, e = .returned (.map (some r)) ∧ w'.ownsMap Tryz.prog 28 asHeld r 7 othersD ∧ Below w.heap.size w w' := by
  have hmm := @run_makeMap Tryz.prog
  go_enter Tryz.func66, Tryz.ntmps66
  go_wp2_with (first
    | (refine wpList_insert_own (H := Value) _ rfl _ _ _ 94 rfl 28 80 lawOp Tryz.underlying94 asHeld w.heap.size 0 (.map []) rfl (World.ownsMap_made w _ _ _) (by unfold maxLen; omega) (.int .i64 1) (.func (.func 143) #[] #[]) (.int .i64 1) rfl rfl (keyOf_int_mk Tryz.underlying28 (by decide)) (.held (.func (.func 143) #[] #[])) [] rfl ?_; intro w1 hown1 hg1)
    | (refine wpList_insert_own (H := Value) _ rfl _ _ _ 94 rfl 28 80 lawOp Tryz.underlying94 asHeld w.heap.size 1 _ rfl hown1 (by unfold maxLen; omega) (.int .i64 2) (.func (.func 144) #[] #[]) (.int .i64 2) rfl rfl (keyOf_int_mk Tryz.underlying28 (by decide)) (.held (.func (.func 144) #[] #[])) [] rfl ?_; intro w2 hown2 hg2)
    | (refine wpList_insert_own (H := Value) _ rfl _ _ _ 94 rfl 28 80 lawOp Tryz.underlying94 asHeld w.heap.size 2 _ rfl hown2 (by unfold maxLen; omega) (.int .i64 38) (.func (.func 145) #[] #[]) (.int .i64 38) rfl rfl (keyOf_int_mk Tryz.underlying28 (by decide)) (.held (.func (.func 145) #[] #[])) [] rfl ?_; intro w3 hown3 hg3)
    | (refine wpList_insert_own (H := Value) _ rfl _ _ _ 94 rfl 28 80 lawOp Tryz.underlying94 asHeld w.heap.size 3 _ rfl hown3 (by unfold maxLen; omega) (.int .i64 39) (.func (.func 146) #[] #[]) (.int .i64 39) rfl rfl (keyOf_int_mk Tryz.underlying28 (by decide)) (.held (.func (.func 146) #[] #[])) [] rfl ?_; intro w4 hown4 hg4)
    | (refine wpList_insert_own (H := Value) _ rfl _ _ _ 94 rfl 28 80 lawOp Tryz.underlying94 asHeld w.heap.size 4 _ rfl hown4 (by unfold maxLen; omega) (.int .i64 48) (.func (.func 147) #[] #[]) (.int .i64 48) rfl rfl (keyOf_int_mk Tryz.underlying28 (by decide)) (.held (.func (.func 147) #[] #[])) [] rfl ?_; intro w5 hown5 hg5)
    | (refine wpList_insert_own (H := Value) _ rfl _ _ _ 94 rfl 28 80 lawOp Tryz.underlying94 asHeld w.heap.size 5 _ rfl hown5 (by unfold maxLen; omega) (.int .i64 49) (.func (.func 149) #[] #[]) (.int .i64 49) rfl rfl (keyOf_int_mk Tryz.underlying28 (by decide)) (.held (.func (.func 149) #[] #[])) [] rfl ?_; intro w6 hown6 hg6)
    | (refine wpList_insert_own (H := Value) _ rfl _ _ _ 94 rfl 28 80 lawOp Tryz.underlying94 asHeld w.heap.size 6 _ rfl hown6 (by unfold maxLen; omega) (.int .i64 59) (.func (.func 150) #[] #[]) (.int .i64 59) rfl rfl (keyOf_int_mk Tryz.underlying28 (by decide)) (.held (.func (.func 150) #[] #[])) [] rfl ?_; intro w7 hown7 hg7))
  go_ret
  have h0 : (w.alloc (Obj.map #[] 0)).heap.size = w.heap.size + 1 := by simp
  have h1 := hg1.size
  have h2 := hg2.size
  have h3 := hg3.size
  have h4 := hg4.size
  have h5 := hg5.size
  have h6 := hg6.size
  have h7 := hg7.size
  exact ⟨_, rfl, hown7, (((((((((Below.refl _ _).alloc (Nat.le_refl _) _).grown hg1 (by omega) (fun k hk => by cases hk; exact Nat.le_refl _)).grown hg2 (by omega) (fun k hk => by cases hk; exact Nat.le_refl _)).grown hg3 (by omega) (fun k hk => by cases hk; exact Nat.le_refl _)).grown hg4 (by omega) (fun k hk => by cases hk; exact Nat.le_refl _)).grown hg5 (by omega) (fun k hk => by cases hk; exact Nat.le_refl _)).grown hg6 (by omega) (fun k hk => by cases hk; exact Nat.le_refl _)).grown hg7 (by omega) (fun k hk => by cases hk; exact Nat.le_refl _))⟩
end Go.Proofs.YtaokpphlfhnleaaGreatDoor
end

section
namespace Go.Proofs.YtaokpphlfhnleaaGreatDoor
open Go.RowKit Go.Maps
set_option linter.unusedVariables false
def withImmsD : DataW Value := (((((((((DataW.map []).put (.int .i64 19) (.held (.func (.func 103) #[] #[]))).put (.int .i64 20) (.held (.func (.func 104) #[] #[]))).put (.int .i64 21) (.held (.func (.func 106) #[] #[]))).put (.int .i64 22) (.held (.func (.func 107) #[] #[]))).put (.int .i64 23) (.held (.func (.func 108) #[] #[]))).put (.int .i64 24) (.held (.func (.func 109) #[] #[]))).put (.int .i64 25) (.held (.func (.func 110) #[] #[]))).put (.int .i64 26) (.held (.func (.func 112) #[] #[]))).put (.int .i64 27) (.held (.func (.func 114) #[] #[]))
theorem withImms_at {w : World} {b : Nat} (h : w.ownsMap Tryz.prog 28 asHeld b 9 withImmsD) :
    (Instr.lookup 94 (.map (some b)) (.int .i64 19) false).run Tryz.prog w = .ok (.func (.func 103) #[] #[]) w ∧
    (Instr.lookup 94 (.map (some b)) (.int .i64 20) false).run Tryz.prog w = .ok (.func (.func 104) #[] #[]) w ∧
    (Instr.lookup 94 (.map (some b)) (.int .i64 21) false).run Tryz.prog w = .ok (.func (.func 106) #[] #[]) w ∧
    (Instr.lookup 94 (.map (some b)) (.int .i64 22) false).run Tryz.prog w = .ok (.func (.func 107) #[] #[]) w ∧
    (Instr.lookup 94 (.map (some b)) (.int .i64 23) false).run Tryz.prog w = .ok (.func (.func 108) #[] #[]) w ∧
    (Instr.lookup 94 (.map (some b)) (.int .i64 24) false).run Tryz.prog w = .ok (.func (.func 109) #[] #[]) w ∧
    (Instr.lookup 94 (.map (some b)) (.int .i64 25) false).run Tryz.prog w = .ok (.func (.func 110) #[] #[]) w ∧
    (Instr.lookup 94 (.map (some b)) (.int .i64 26) false).run Tryz.prog w = .ok (.func (.func 112) #[] #[]) w ∧
    (Instr.lookup 94 (.map (some b)) (.int .i64 27) false).run Tryz.prog w = .ok (.func (.func 114) #[] #[]) w := by
  refine ⟨?_, ?_, ?_, ?_, ?_, ?_, ?_, ?_, ?_⟩
  · obtain ⟨v, ps, hrun, hv⟩ := h.lookup lawOp Tryz.underlying94 (z := .nilFunc) (by kernel_rfl) rfl (keyOf_int_mk Tryz.underlying28 (show (Lit.int .i64 19).wf = true by decide))
    rw [show withImmsD.atKey (.int .i64 19) _ = .held (.func (.func 103) #[] #[]) from rfl] at hv
    simp only [asHeld, Option.some.injEq, Prod.mk.injEq, DataW.held.injEq] at hv
    rw [hrun, hv.1]
  · obtain ⟨v, ps, hrun, hv⟩ := h.lookup lawOp Tryz.underlying94 (z := .nilFunc) (by kernel_rfl) rfl (keyOf_int_mk Tryz.underlying28 (show (Lit.int .i64 20).wf = true by decide))
    rw [show withImmsD.atKey (.int .i64 20) _ = .held (.func (.func 104) #[] #[]) from rfl] at hv
    simp only [asHeld, Option.some.injEq, Prod.mk.injEq, DataW.held.injEq] at hv
    rw [hrun, hv.1]
  · obtain ⟨v, ps, hrun, hv⟩ := h.lookup lawOp Tryz.underlying94 (z := .nilFunc) (by kernel_rfl) rfl (keyOf_int_mk Tryz.underlying28 (show (Lit.int .i64 21).wf = true by decide))
    rw [show withImmsD.atKey (.int .i64 21) _ = .held (.func (.func 106) #[] #[]) from rfl] at hv
    simp only [asHeld, Option.some.injEq, Prod.mk.injEq, DataW.held.injEq] at hv
    rw [hrun, hv.1]
  · obtain ⟨v, ps, hrun, hv⟩ := h.lookup lawOp Tryz.underlying94 (z := .nilFunc) (by kernel_rfl) rfl (keyOf_int_mk Tryz.underlying28 (show (Lit.int .i64 22).wf = true by decide))
    rw [show withImmsD.atKey (.int .i64 22) _ = .held (.func (.func 107) #[] #[]) from rfl] at hv
    simp only [asHeld, Option.some.injEq, Prod.mk.injEq, DataW.held.injEq] at hv
    rw [hrun, hv.1]
  · obtain ⟨v, ps, hrun, hv⟩ := h.lookup lawOp Tryz.underlying94 (z := .nilFunc) (by kernel_rfl) rfl (keyOf_int_mk Tryz.underlying28 (show (Lit.int .i64 23).wf = true by decide))
    rw [show withImmsD.atKey (.int .i64 23) _ = .held (.func (.func 108) #[] #[]) from rfl] at hv
    simp only [asHeld, Option.some.injEq, Prod.mk.injEq, DataW.held.injEq] at hv
    rw [hrun, hv.1]
  · obtain ⟨v, ps, hrun, hv⟩ := h.lookup lawOp Tryz.underlying94 (z := .nilFunc) (by kernel_rfl) rfl (keyOf_int_mk Tryz.underlying28 (show (Lit.int .i64 24).wf = true by decide))
    rw [show withImmsD.atKey (.int .i64 24) _ = .held (.func (.func 109) #[] #[]) from rfl] at hv
    simp only [asHeld, Option.some.injEq, Prod.mk.injEq, DataW.held.injEq] at hv
    rw [hrun, hv.1]
  · obtain ⟨v, ps, hrun, hv⟩ := h.lookup lawOp Tryz.underlying94 (z := .nilFunc) (by kernel_rfl) rfl (keyOf_int_mk Tryz.underlying28 (show (Lit.int .i64 25).wf = true by decide))
    rw [show withImmsD.atKey (.int .i64 25) _ = .held (.func (.func 110) #[] #[]) from rfl] at hv
    simp only [asHeld, Option.some.injEq, Prod.mk.injEq, DataW.held.injEq] at hv
    rw [hrun, hv.1]
  · obtain ⟨v, ps, hrun, hv⟩ := h.lookup lawOp Tryz.underlying94 (z := .nilFunc) (by kernel_rfl) rfl (keyOf_int_mk Tryz.underlying28 (show (Lit.int .i64 26).wf = true by decide))
    rw [show withImmsD.atKey (.int .i64 26) _ = .held (.func (.func 112) #[] #[]) from rfl] at hv
    simp only [asHeld, Option.some.injEq, Prod.mk.injEq, DataW.held.injEq] at hv
    rw [hrun, hv.1]
  · obtain ⟨v, ps, hrun, hv⟩ := h.lookup lawOp Tryz.underlying94 (z := .nilFunc) (by kernel_rfl) rfl (keyOf_int_mk Tryz.underlying28 (show (Lit.int .i64 27).wf = true by decide))
    rw [show withImmsD.atKey (.int .i64 27) _ = .held (.func (.func 114) #[] #[]) from rfl] at hv
    simp only [asHeld, Option.some.injEq, Prod.mk.injEq, DataW.held.injEq] at hv
    rw [hrun, hv.1]
set_option maxHeartbeats 4000000 in
theorem withImms_any (w : World) :
    Calls Tryz.prog 62 #[] w fun e w' => ∃ r, e = .returned (.map (some r)) ∧ w'.ownsMap Tryz.prog 28 asHeld r 9 withImmsD ∧ Below w.heap.size w w' := by
  have hmm := @run_makeMap Tryz.prog
  go_enter Tryz.func62, Tryz.ntmps62
  go_wp2_with (first
    | (refine wpList_insert_own (H := Value) _ rfl _ _ _ 94 rfl 28 80 lawOp Tryz.underlying94 asHeld w.heap.size 0 (.map []) rfl (World.ownsMap_made w _ _ _) (by unfold maxLen; omega) (.int .i64 19) (.func (.func 103) #[] #[]) (.int .i64 19) rfl rfl (keyOf_int_mk Tryz.underlying28 (by decide)) (.held (.func (.func 103) #[] #[])) [] rfl ?_; intro w1 hown1 hg1)
    | (refine wpList_insert_own (H := Value) _ rfl _ _ _ 94 rfl 28 80 lawOp Tryz.underlying94 asHeld w.heap.size 1 _ rfl hown1 (by unfold maxLen; omega) (.int .i64 20) (.func (.func 104) #[] #[]) (.int .i64 20) rfl rfl (keyOf_int_mk Tryz.underlying28 (by decide)) (.held (.func (.func 104) #[] #[])) [] rfl ?_; intro w2 hown2 hg2)
    | (refine wpList_insert_own (H := Value) _ rfl _ _ _ 94 rfl 28 80 lawOp Tryz.underlying94 asHeld w.heap.size 2 _ rfl hown2 (by unfold maxLen; omega) (.int .i64 21) (.func (.func 106) #[] #[]) (.int .i64 21) rfl rfl (keyOf_int_mk Tryz.underlying28 (by decide)) (.held (.func (.func 106) #[] #[])) [] rfl ?_; intro w3 hown3 hg3)
    | (refine wpList_insert_own (H := Value) _ rfl _ _ _ 94 rfl 28 80 lawOp Tryz.underlying94 asHeld w.heap.size 3 _ rfl hown3 (by unfold maxLen; omega) (.int .i64 22) (.func (.func 107) #[] #[]) (.int .i64 22) rfl rfl (keyOf_int_mk Tryz.underlying28 (by decide)) (.held (.func (.func 107) #[] #[])) [] rfl ?_; intro w4 hown4 hg4)
    | (refine wpList_insert_own (H := Value) _ rfl _ _ _ 94 rfl 28 80 lawOp Tryz.underlying94 asHeld w.heap.size 4 _ rfl hown4 (by unfold maxLen; omega) (.int .i64 23) (.func (.func 108) #[] #[]) (.int .i64 23) rfl rfl (keyOf_int_mk Tryz.underlying28 (by decide)) (.held (.func (.func 108) #[] #[])) [] rfl ?_; intro w5 hown5 hg5)
    | (refine wpList_insert_own (H := Value) _ rfl _ _ _ 94 rfl 28 80 lawOp Tryz.underlying94 asHeld w.heap.size 5 _ rfl hown5 (by unfold maxLen; omega) (.int .i64 24) (.func (.func 109) #[] #[]) (.int .i64 24) rfl rfl (keyOf_int_mk Tryz.underlying28 (by decide)) (.held (.func (.func 109) #[] #[])) [] rfl ?_; intro w6 hown6 hg6)
    | (refine wpList_insert_own (H := Value) _ rfl _ _ _ 94 rfl 28 80 lawOp Tryz.underlying94 asHeld w.heap.size 6 _ rfl hown6 (by unfold maxLen; omega) (.int .i64 25) (.func (.func 110) #[] #[]) (.int .i64 25) rfl rfl (keyOf_int_mk Tryz.underlying28 (by decide)) (.held (.func (.func 110) #[] #[])) [] rfl ?_; intro w7 hown7 hg7)
    | (refine wpList_insert_own (H := Value) _ rfl _ _ _ 94 rfl 28 80 lawOp Tryz.underlying94 asHeld w.heap.size 7 _ rfl hown7 (by unfold maxLen; omega) (.int .i64 26) (.func (.func 112) #[] #[]) (.int .i64 26) rfl rfl (keyOf_int_mk Tryz.underlying28 (by decide)) (.held (.func (.func 112) #[] #[])) [] rfl ?_; intro w8 hown8 hg8)
    | (refine wpList_insert_own (H := Value) _ rfl _ _ _ 94 rfl 28 80 lawOp Tryz.underlying94 asHeld w.heap.size 8 _ rfl hown8 (by unfold maxLen; omega) (.int .i64 27) (.func (.func 114) #[] #[]) (.int .i64 27) rfl rfl (keyOf_int_mk Tryz.underlying28 (by decide)) (.held (.func (.func 114) #[] #[])) [] rfl ?_; intro w9 hown9 hg9))
  go_ret
  have h0 : (w.alloc (Obj.map #[] 0)).heap.size = w.heap.size + 1 := by simp
  have h1 := hg1.size
  have h2 := hg2.size
  have h3 := hg3.size
  have h4 := hg4.size
  have h5 := hg5.size
  have h6 := hg6.size
  have h7 := hg7.size
  have h8 := hg8.size
  have h9 := hg9.size
  exact ⟨_, rfl, hown9, (((((((((((Below.refl _ _).alloc (Nat.le_refl _) _).grown hg1 (by omega) (fun k hk => by cases hk; exact Nat.le_refl _)).grown hg2 (by omega) (fun k hk => by cases hk; exact Nat.le_refl _)).grown hg3 (by omega) (fun k hk => by cases hk; exact Nat.le_refl _)).grown hg4 (by omega) (fun k hk => by cases hk; exact Nat.le_refl _)).grown hg5 (by omega) (fun k hk => by cases hk; exact Nat.le_refl _)).grown hg6 (by omega) (fun k hk => by cases hk; exact Nat.le_refl _)).grown hg7 (by omega) (fun k hk => by cases hk; exact Nat.le_refl _)).grown hg8 (by omega) (fun k hk => by cases hk; exact Nat.le_refl _)).grown hg9 (by omega) (fun k hk => by cases hk; exact Nat.le_refl _))⟩
def ofRegistersD : DataW Value := ((((((((((DataW.map []).put (.int .i64 28) (.held (.func (.func 116) #[] #[]))).put (.int .i64 29) (.held (.func (.func 117) #[] #[]))).put (.int .i64 30) (.held (.func (.func 119) #[] #[]))).put (.int .i64 31) (.held (.func (.func 120) #[] #[]))).put (.int .i64 32) (.held (.func (.func 121) #[] #[]))).put (.int .i64 33) (.held (.func (.func 122) #[] #[]))).put (.int .i64 34) (.held (.func (.func 123) #[] #[]))).put (.int .i64 35) (.held (.func (.func 124) #[] #[]))).put (.int .i64 36) (.held (.func (.func 125) #[] #[]))).put (.int .i64 37) (.held (.func (.func 126) #[] #[]))
theorem ofRegisters_at {w : World} {b : Nat} (h : w.ownsMap Tryz.prog 28 asHeld b 10 ofRegistersD) :
    (Instr.lookup 94 (.map (some b)) (.int .i64 28) false).run Tryz.prog w = .ok (.func (.func 116) #[] #[]) w ∧
    (Instr.lookup 94 (.map (some b)) (.int .i64 29) false).run Tryz.prog w = .ok (.func (.func 117) #[] #[]) w ∧
    (Instr.lookup 94 (.map (some b)) (.int .i64 30) false).run Tryz.prog w = .ok (.func (.func 119) #[] #[]) w ∧
    (Instr.lookup 94 (.map (some b)) (.int .i64 31) false).run Tryz.prog w = .ok (.func (.func 120) #[] #[]) w ∧
    (Instr.lookup 94 (.map (some b)) (.int .i64 32) false).run Tryz.prog w = .ok (.func (.func 121) #[] #[]) w ∧
    (Instr.lookup 94 (.map (some b)) (.int .i64 33) false).run Tryz.prog w = .ok (.func (.func 122) #[] #[]) w ∧
    (Instr.lookup 94 (.map (some b)) (.int .i64 34) false).run Tryz.prog w = .ok (.func (.func 123) #[] #[]) w ∧
    (Instr.lookup 94 (.map (some b)) (.int .i64 35) false).run Tryz.prog w = .ok (.func (.func 124) #[] #[]) w ∧
    (Instr.lookup 94 (.map (some b)) (.int .i64 36) false).run Tryz.prog w = .ok (.func (.func 125) #[] #[]) w ∧
    (Instr.lookup 94 (.map (some b)) (.int .i64 37) false).run Tryz.prog w = .ok (.func (.func 126) #[] #[]) w := by
  refine ⟨?_, ?_, ?_, ?_, ?_, ?_, ?_, ?_, ?_, ?_⟩
  · obtain ⟨v, ps, hrun, hv⟩ := h.lookup lawOp Tryz.underlying94 (z := .nilFunc) (by kernel_rfl) rfl (keyOf_int_mk Tryz.underlying28 (show (Lit.int .i64 28).wf = true by decide))
    rw [show ofRegistersD.atKey (.int .i64 28) _ = .held (.func (.func 116) #[] #[]) from rfl] at hv
    simp only [asHeld, Option.some.injEq, Prod.mk.injEq, DataW.held.injEq] at hv
    rw [hrun, hv.1]
  · obtain ⟨v, ps, hrun, hv⟩ := h.lookup lawOp Tryz.underlying94 (z := .nilFunc) (by kernel_rfl) rfl (keyOf_int_mk Tryz.underlying28 (show (Lit.int .i64 29).wf = true by decide))
    rw [show ofRegistersD.atKey (.int .i64 29) _ = .held (.func (.func 117) #[] #[]) from rfl] at hv
    simp only [asHeld, Option.some.injEq, Prod.mk.injEq, DataW.held.injEq] at hv
    rw [hrun, hv.1]
  · obtain ⟨v, ps, hrun, hv⟩ := h.lookup lawOp Tryz.underlying94 (z := .nilFunc) (by kernel_rfl) rfl (keyOf_int_mk Tryz.underlying28 (show (Lit.int .i64 30).wf = true by decide))
    rw [show ofRegistersD.atKey (.int .i64 30) _ = .held (.func (.func 119) #[] #[]) from rfl] at hv
    simp only [asHeld, Option.some.injEq, Prod.mk.injEq, DataW.held.injEq] at hv
    rw [hrun, hv.1]
  · obtain ⟨v, ps, hrun, hv⟩ := h.lookup lawOp Tryz.underlying94 (z := .nilFunc) (by kernel_rfl) rfl (keyOf_int_mk Tryz.underlying28 (show (Lit.int .i64 31).wf = true by decide))
    rw [show ofRegistersD.atKey (.int .i64 31) _ = .held (.func (.func 120) #[] #[]) from rfl] at hv
    simp only [asHeld, Option.some.injEq, Prod.mk.injEq, DataW.held.injEq] at hv
    rw [hrun, hv.1]
  · obtain ⟨v, ps, hrun, hv⟩ := h.lookup lawOp Tryz.underlying94 (z := .nilFunc) (by kernel_rfl) rfl (keyOf_int_mk Tryz.underlying28 (show (Lit.int .i64 32).wf = true by decide))
    rw [show ofRegistersD.atKey (.int .i64 32) _ = .held (.func (.func 121) #[] #[]) from rfl] at hv
    simp only [asHeld, Option.some.injEq, Prod.mk.injEq, DataW.held.injEq] at hv
    rw [hrun, hv.1]
  · obtain ⟨v, ps, hrun, hv⟩ := h.lookup lawOp Tryz.underlying94 (z := .nilFunc) (by kernel_rfl) rfl (keyOf_int_mk Tryz.underlying28 (show (Lit.int .i64 33).wf = true by decide))
    rw [show ofRegistersD.atKey (.int .i64 33) _ = .held (.func (.func 122) #[] #[]) from rfl] at hv
    simp only [asHeld, Option.some.injEq, Prod.mk.injEq, DataW.held.injEq] at hv
    rw [hrun, hv.1]
  · obtain ⟨v, ps, hrun, hv⟩ := h.lookup lawOp Tryz.underlying94 (z := .nilFunc) (by kernel_rfl) rfl (keyOf_int_mk Tryz.underlying28 (show (Lit.int .i64 34).wf = true by decide))
    rw [show ofRegistersD.atKey (.int .i64 34) _ = .held (.func (.func 123) #[] #[]) from rfl] at hv
    simp only [asHeld, Option.some.injEq, Prod.mk.injEq, DataW.held.injEq] at hv
    rw [hrun, hv.1]
  · obtain ⟨v, ps, hrun, hv⟩ := h.lookup lawOp Tryz.underlying94 (z := .nilFunc) (by kernel_rfl) rfl (keyOf_int_mk Tryz.underlying28 (show (Lit.int .i64 35).wf = true by decide))
    rw [show ofRegistersD.atKey (.int .i64 35) _ = .held (.func (.func 124) #[] #[]) from rfl] at hv
    simp only [asHeld, Option.some.injEq, Prod.mk.injEq, DataW.held.injEq] at hv
    rw [hrun, hv.1]
  · obtain ⟨v, ps, hrun, hv⟩ := h.lookup lawOp Tryz.underlying94 (z := .nilFunc) (by kernel_rfl) rfl (keyOf_int_mk Tryz.underlying28 (show (Lit.int .i64 36).wf = true by decide))
    rw [show ofRegistersD.atKey (.int .i64 36) _ = .held (.func (.func 125) #[] #[]) from rfl] at hv
    simp only [asHeld, Option.some.injEq, Prod.mk.injEq, DataW.held.injEq] at hv
    rw [hrun, hv.1]
  · obtain ⟨v, ps, hrun, hv⟩ := h.lookup lawOp Tryz.underlying94 (z := .nilFunc) (by kernel_rfl) rfl (keyOf_int_mk Tryz.underlying28 (show (Lit.int .i64 37).wf = true by decide))
    rw [show ofRegistersD.atKey (.int .i64 37) _ = .held (.func (.func 126) #[] #[]) from rfl] at hv
    simp only [asHeld, Option.some.injEq, Prod.mk.injEq, DataW.held.injEq] at hv
    rw [hrun, hv.1]
set_option maxHeartbeats 4000000 in
theorem ofRegisters_any (w : World) :
    Calls Tryz.prog 63 #[] w fun e w' => ∃ r, e = .returned (.map (some r)) ∧ w'.ownsMap Tryz.prog 28 asHeld r 10 ofRegistersD ∧ Below w.heap.size w w' := by
  have hmm := @run_makeMap Tryz.prog
  go_enter Tryz.func63, Tryz.ntmps63
  go_wp2_with (first
    | (refine wpList_insert_own (H := Value) _ rfl _ _ _ 94 rfl 28 80 lawOp Tryz.underlying94 asHeld w.heap.size 0 (.map []) rfl (World.ownsMap_made w _ _ _) (by unfold maxLen; omega) (.int .i64 28) (.func (.func 116) #[] #[]) (.int .i64 28) rfl rfl (keyOf_int_mk Tryz.underlying28 (by decide)) (.held (.func (.func 116) #[] #[])) [] rfl ?_; intro w1 hown1 hg1)
    | (refine wpList_insert_own (H := Value) _ rfl _ _ _ 94 rfl 28 80 lawOp Tryz.underlying94 asHeld w.heap.size 1 _ rfl hown1 (by unfold maxLen; omega) (.int .i64 29) (.func (.func 117) #[] #[]) (.int .i64 29) rfl rfl (keyOf_int_mk Tryz.underlying28 (by decide)) (.held (.func (.func 117) #[] #[])) [] rfl ?_; intro w2 hown2 hg2)
    | (refine wpList_insert_own (H := Value) _ rfl _ _ _ 94 rfl 28 80 lawOp Tryz.underlying94 asHeld w.heap.size 2 _ rfl hown2 (by unfold maxLen; omega) (.int .i64 30) (.func (.func 119) #[] #[]) (.int .i64 30) rfl rfl (keyOf_int_mk Tryz.underlying28 (by decide)) (.held (.func (.func 119) #[] #[])) [] rfl ?_; intro w3 hown3 hg3)
    | (refine wpList_insert_own (H := Value) _ rfl _ _ _ 94 rfl 28 80 lawOp Tryz.underlying94 asHeld w.heap.size 3 _ rfl hown3 (by unfold maxLen; omega) (.int .i64 31) (.func (.func 120) #[] #[]) (.int .i64 31) rfl rfl (keyOf_int_mk Tryz.underlying28 (by decide)) (.held (.func (.func 120) #[] #[])) [] rfl ?_; intro w4 hown4 hg4)
    | (refine wpList_insert_own (H := Value) _ rfl _ _ _ 94 rfl 28 80 lawOp Tryz.underlying94 asHeld w.heap.size 4 _ rfl hown4 (by unfold maxLen; omega) (.int .i64 32) (.func (.func 121) #[] #[]) (.int .i64 32) rfl rfl (keyOf_int_mk Tryz.underlying28 (by decide)) (.held (.func (.func 121) #[] #[])) [] rfl ?_; intro w5 hown5 hg5)
    | (refine wpList_insert_own (H := Value) _ rfl _ _ _ 94 rfl 28 80 lawOp Tryz.underlying94 asHeld w.heap.size 5 _ rfl hown5 (by unfold maxLen; omega) (.int .i64 33) (.func (.func 122) #[] #[]) (.int .i64 33) rfl rfl (keyOf_int_mk Tryz.underlying28 (by decide)) (.held (.func (.func 122) #[] #[])) [] rfl ?_; intro w6 hown6 hg6)
    | (refine wpList_insert_own (H := Value) _ rfl _ _ _ 94 rfl 28 80 lawOp Tryz.underlying94 asHeld w.heap.size 6 _ rfl hown6 (by unfold maxLen; omega) (.int .i64 34) (.func (.func 123) #[] #[]) (.int .i64 34) rfl rfl (keyOf_int_mk Tryz.underlying28 (by decide)) (.held (.func (.func 123) #[] #[])) [] rfl ?_; intro w7 hown7 hg7)
    | (refine wpList_insert_own (H := Value) _ rfl _ _ _ 94 rfl 28 80 lawOp Tryz.underlying94 asHeld w.heap.size 7 _ rfl hown7 (by unfold maxLen; omega) (.int .i64 35) (.func (.func 124) #[] #[]) (.int .i64 35) rfl rfl (keyOf_int_mk Tryz.underlying28 (by decide)) (.held (.func (.func 124) #[] #[])) [] rfl ?_; intro w8 hown8 hg8)
    | (refine wpList_insert_own (H := Value) _ rfl _ _ _ 94 rfl 28 80 lawOp Tryz.underlying94 asHeld w.heap.size 8 _ rfl hown8 (by unfold maxLen; omega) (.int .i64 36) (.func (.func 125) #[] #[]) (.int .i64 36) rfl rfl (keyOf_int_mk Tryz.underlying28 (by decide)) (.held (.func (.func 125) #[] #[])) [] rfl ?_; intro w9 hown9 hg9)
    | (refine wpList_insert_own (H := Value) _ rfl _ _ _ 94 rfl 28 80 lawOp Tryz.underlying94 asHeld w.heap.size 9 _ rfl hown9 (by unfold maxLen; omega) (.int .i64 37) (.func (.func 126) #[] #[]) (.int .i64 37) rfl rfl (keyOf_int_mk Tryz.underlying28 (by decide)) (.held (.func (.func 126) #[] #[])) [] rfl ?_; intro w10 hown10 hg10))
  go_ret
  have h0 : (w.alloc (Obj.map #[] 0)).heap.size = w.heap.size + 1 := by simp
  have h1 := hg1.size
  have h2 := hg2.size
  have h3 := hg3.size
  have h4 := hg4.size
  have h5 := hg5.size
  have h6 := hg6.size
  have h7 := hg7.size
  have h8 := hg8.size
  have h9 := hg9.size
  have h10 := hg10.size
  exact ⟨_, rfl, hown10, ((((((((((((Below.refl _ _).alloc (Nat.le_refl _) _).grown hg1 (by omega) (fun k hk => by cases hk; exact Nat.le_refl _)).grown hg2 (by omega) (fun k hk => by cases hk; exact Nat.le_refl _)).grown hg3 (by omega) (fun k hk => by cases hk; exact Nat.le_refl _)).grown hg4 (by omega) (fun k hk => by cases hk; exact Nat.le_refl _)).grown hg5 (by omega) (fun k hk => by cases hk; exact Nat.le_refl _)).grown hg6 (by omega) (fun k hk => by cases hk; exact Nat.le_refl _)).grown hg7 (by omega) (fun k hk => by cases hk; exact Nat.le_refl _)).grown hg8 (by omega) (fun k hk => by cases hk; exact Nat.le_refl _)).grown hg9 (by omega) (fun k hk => by cases hk; exact Nat.le_refl _)).grown hg10 (by omega) (fun k hk => by cases hk; exact Nat.le_refl _))⟩
def productsD : DataW Value := ((((((((DataW.map []).put (.int .i64 40) (.held (.func (.func 127) #[] #[]))).put (.int .i64 41) (.held (.func (.func 129) #[] #[]))).put (.int .i64 42) (.held (.func (.func 131) #[] #[]))).put (.int .i64 43) (.held (.func (.func 133) #[] #[]))).put (.int .i64 44) (.held (.func (.func 135) #[] #[]))).put (.int .i64 45) (.held (.func (.func 137) #[] #[]))).put (.int .i64 46) (.held (.func (.func 139) #[] #[]))).put (.int .i64 47) (.held (.func (.func 141) #[] #[]))
theorem products_at {w : World} {b : Nat} (h : w.ownsMap Tryz.prog 28 asHeld b 8 productsD) :
    (Instr.lookup 94 (.map (some b)) (.int .i64 40) false).run Tryz.prog w = .ok (.func (.func 127) #[] #[]) w ∧
    (Instr.lookup 94 (.map (some b)) (.int .i64 41) false).run Tryz.prog w = .ok (.func (.func 129) #[] #[]) w ∧
    (Instr.lookup 94 (.map (some b)) (.int .i64 42) false).run Tryz.prog w = .ok (.func (.func 131) #[] #[]) w ∧
    (Instr.lookup 94 (.map (some b)) (.int .i64 43) false).run Tryz.prog w = .ok (.func (.func 133) #[] #[]) w ∧
    (Instr.lookup 94 (.map (some b)) (.int .i64 44) false).run Tryz.prog w = .ok (.func (.func 135) #[] #[]) w ∧
    (Instr.lookup 94 (.map (some b)) (.int .i64 45) false).run Tryz.prog w = .ok (.func (.func 137) #[] #[]) w ∧
    (Instr.lookup 94 (.map (some b)) (.int .i64 46) false).run Tryz.prog w = .ok (.func (.func 139) #[] #[]) w ∧
    (Instr.lookup 94 (.map (some b)) (.int .i64 47) false).run Tryz.prog w = .ok (.func (.func 141) #[] #[]) w := by
  refine ⟨?_, ?_, ?_, ?_, ?_, ?_, ?_, ?_⟩
  · obtain ⟨v, ps, hrun, hv⟩ := h.lookup lawOp Tryz.underlying94 (z := .nilFunc) (by kernel_rfl) rfl (keyOf_int_mk Tryz.underlying28 (show (Lit.int .i64 40).wf = true by decide))
    rw [show productsD.atKey (.int .i64 40) _ = .held (.func (.func 127) #[] #[]) from rfl] at hv
    simp only [asHeld, Option.some.injEq, Prod.mk.injEq, DataW.held.injEq] at hv
    rw [hrun, hv.1]
  · obtain ⟨v, ps, hrun, hv⟩ := h.lookup lawOp Tryz.underlying94 (z := .nilFunc) (by kernel_rfl) rfl (keyOf_int_mk Tryz.underlying28 (show (Lit.int .i64 41).wf = true by decide))
    rw [show productsD.atKey (.int .i64 41) _ = .held (.func (.func 129) #[] #[]) from rfl] at hv
    simp only [asHeld, Option.some.injEq, Prod.mk.injEq, DataW.held.injEq] at hv
    rw [hrun, hv.1]
  · obtain ⟨v, ps, hrun, hv⟩ := h.lookup lawOp Tryz.underlying94 (z := .nilFunc) (by kernel_rfl) rfl (keyOf_int_mk Tryz.underlying28 (show (Lit.int .i64 42).wf = true by decide))
    rw [show productsD.atKey (.int .i64 42) _ = .held (.func (.func 131) #[] #[]) from rfl] at hv
    simp only [asHeld, Option.some.injEq, Prod.mk.injEq, DataW.held.injEq] at hv
    rw [hrun, hv.1]
  · obtain ⟨v, ps, hrun, hv⟩ := h.lookup lawOp Tryz.underlying94 (z := .nilFunc) (by kernel_rfl) rfl (keyOf_int_mk Tryz.underlying28 (show (Lit.int .i64 43).wf = true by decide))
    rw [show productsD.atKey (.int .i64 43) _ = .held (.func (.func 133) #[] #[]) from rfl] at hv
    simp only [asHeld, Option.some.injEq, Prod.mk.injEq, DataW.held.injEq] at hv
    rw [hrun, hv.1]
  · obtain ⟨v, ps, hrun, hv⟩ := h.lookup lawOp Tryz.underlying94 (z := .nilFunc) (by kernel_rfl) rfl (keyOf_int_mk Tryz.underlying28 (show (Lit.int .i64 44).wf = true by decide))
    rw [show productsD.atKey (.int .i64 44) _ = .held (.func (.func 135) #[] #[]) from rfl] at hv
    simp only [asHeld, Option.some.injEq, Prod.mk.injEq, DataW.held.injEq] at hv
    rw [hrun, hv.1]
  · obtain ⟨v, ps, hrun, hv⟩ := h.lookup lawOp Tryz.underlying94 (z := .nilFunc) (by kernel_rfl) rfl (keyOf_int_mk Tryz.underlying28 (show (Lit.int .i64 45).wf = true by decide))
    rw [show productsD.atKey (.int .i64 45) _ = .held (.func (.func 137) #[] #[]) from rfl] at hv
    simp only [asHeld, Option.some.injEq, Prod.mk.injEq, DataW.held.injEq] at hv
    rw [hrun, hv.1]
  · obtain ⟨v, ps, hrun, hv⟩ := h.lookup lawOp Tryz.underlying94 (z := .nilFunc) (by kernel_rfl) rfl (keyOf_int_mk Tryz.underlying28 (show (Lit.int .i64 46).wf = true by decide))
    rw [show productsD.atKey (.int .i64 46) _ = .held (.func (.func 139) #[] #[]) from rfl] at hv
    simp only [asHeld, Option.some.injEq, Prod.mk.injEq, DataW.held.injEq] at hv
    rw [hrun, hv.1]
  · obtain ⟨v, ps, hrun, hv⟩ := h.lookup lawOp Tryz.underlying94 (z := .nilFunc) (by kernel_rfl) rfl (keyOf_int_mk Tryz.underlying28 (show (Lit.int .i64 47).wf = true by decide))
    rw [show productsD.atKey (.int .i64 47) _ = .held (.func (.func 141) #[] #[]) from rfl] at hv
    simp only [asHeld, Option.some.injEq, Prod.mk.injEq, DataW.held.injEq] at hv
    rw [hrun, hv.1]
set_option maxHeartbeats 4000000 in
theorem products_any (w : World) :
    Calls Tryz.prog 64 #[] w fun e w' => ∃ r, e = .returned (.map (some r)) ∧ w'.ownsMap Tryz.prog 28 asHeld r 8 productsD ∧ Below w.heap.size w w' := by
  have hmm := @run_makeMap Tryz.prog
  go_enter Tryz.func64, Tryz.ntmps64
  go_wp2_with (first
    | (refine wpList_insert_own (H := Value) _ rfl _ _ _ 94 rfl 28 80 lawOp Tryz.underlying94 asHeld w.heap.size 0 (.map []) rfl (World.ownsMap_made w _ _ _) (by unfold maxLen; omega) (.int .i64 40) (.func (.func 127) #[] #[]) (.int .i64 40) rfl rfl (keyOf_int_mk Tryz.underlying28 (by decide)) (.held (.func (.func 127) #[] #[])) [] rfl ?_; intro w1 hown1 hg1)
    | (refine wpList_insert_own (H := Value) _ rfl _ _ _ 94 rfl 28 80 lawOp Tryz.underlying94 asHeld w.heap.size 1 _ rfl hown1 (by unfold maxLen; omega) (.int .i64 41) (.func (.func 129) #[] #[]) (.int .i64 41) rfl rfl (keyOf_int_mk Tryz.underlying28 (by decide)) (.held (.func (.func 129) #[] #[])) [] rfl ?_; intro w2 hown2 hg2)
    | (refine wpList_insert_own (H := Value) _ rfl _ _ _ 94 rfl 28 80 lawOp Tryz.underlying94 asHeld w.heap.size 2 _ rfl hown2 (by unfold maxLen; omega) (.int .i64 42) (.func (.func 131) #[] #[]) (.int .i64 42) rfl rfl (keyOf_int_mk Tryz.underlying28 (by decide)) (.held (.func (.func 131) #[] #[])) [] rfl ?_; intro w3 hown3 hg3)
    | (refine wpList_insert_own (H := Value) _ rfl _ _ _ 94 rfl 28 80 lawOp Tryz.underlying94 asHeld w.heap.size 3 _ rfl hown3 (by unfold maxLen; omega) (.int .i64 43) (.func (.func 133) #[] #[]) (.int .i64 43) rfl rfl (keyOf_int_mk Tryz.underlying28 (by decide)) (.held (.func (.func 133) #[] #[])) [] rfl ?_; intro w4 hown4 hg4)
    | (refine wpList_insert_own (H := Value) _ rfl _ _ _ 94 rfl 28 80 lawOp Tryz.underlying94 asHeld w.heap.size 4 _ rfl hown4 (by unfold maxLen; omega) (.int .i64 44) (.func (.func 135) #[] #[]) (.int .i64 44) rfl rfl (keyOf_int_mk Tryz.underlying28 (by decide)) (.held (.func (.func 135) #[] #[])) [] rfl ?_; intro w5 hown5 hg5)
    | (refine wpList_insert_own (H := Value) _ rfl _ _ _ 94 rfl 28 80 lawOp Tryz.underlying94 asHeld w.heap.size 5 _ rfl hown5 (by unfold maxLen; omega) (.int .i64 45) (.func (.func 137) #[] #[]) (.int .i64 45) rfl rfl (keyOf_int_mk Tryz.underlying28 (by decide)) (.held (.func (.func 137) #[] #[])) [] rfl ?_; intro w6 hown6 hg6)
    | (refine wpList_insert_own (H := Value) _ rfl _ _ _ 94 rfl 28 80 lawOp Tryz.underlying94 asHeld w.heap.size 6 _ rfl hown6 (by unfold maxLen; omega) (.int .i64 46) (.func (.func 139) #[] #[]) (.int .i64 46) rfl rfl (keyOf_int_mk Tryz.underlying28 (by decide)) (.held (.func (.func 139) #[] #[])) [] rfl ?_; intro w7 hown7 hg7)
    | (refine wpList_insert_own (H := Value) _ rfl _ _ _ 94 rfl 28 80 lawOp Tryz.underlying94 asHeld w.heap.size 7 _ rfl hown7 (by unfold maxLen; omega) (.int .i64 47) (.func (.func 141) #[] #[]) (.int .i64 47) rfl rfl (keyOf_int_mk Tryz.underlying28 (by decide)) (.held (.func (.func 141) #[] #[])) [] rfl ?_; intro w8 hown8 hg8))
  go_ret
  have h0 : (w.alloc (Obj.map #[] 0)).heap.size = w.heap.size + 1 := by simp
  have h1 := hg1.size
  have h2 := hg2.size
  have h3 := hg3.size
  have h4 := hg4.size
  have h5 := hg5.size
  have h6 := hg6.size
  have h7 := hg7.size
  have h8 := hg8.size
  exact ⟨_, rfl, hown8, ((((((((((Below.refl _ _).alloc (Nat.le_refl _) _).grown hg1 (by omega) (fun k hk => by cases hk; exact Nat.le_refl _)).grown hg2 (by omega) (fun k hk => by cases hk; exact Nat.le_refl _)).grown hg3 (by omega) (fun k hk => by cases hk; exact Nat.le_refl _)).grown hg4 (by omega) (fun k hk => by cases hk; exact Nat.le_refl _)).grown hg5 (by omega) (fun k hk => by cases hk; exact Nat.le_refl _)).grown hg6 (by omega) (fun k hk => by cases hk; exact Nat.le_refl _)).grown hg7 (by omega) (fun k hk => by cases hk; exact Nat.le_refl _)).grown hg8 (by omega) (fun k hk => by cases hk; exact Nat.le_refl _))⟩
end Go.Proofs.YtaokpphlfhnleaaGreatDoor
end

section
namespace Go.Proofs.YtaokpphlfhnleaaGreatDoor
open Go.RowKit Go.Maps
set_option linter.unusedVariables false
theorem mo1 (w : World) : Calls Tryz.prog 35 #[.int .i64 1] w fun e w' => e = .returned (.func (.func 143) #[] #[]) ∧ Below w.heap.size w w' := by
  go_enter Tryz.func35, Tryz.ntmps35
  go_wp2_with fail
  refine (others_any _).mono ?_
  rintro e w1 ⟨r, rfl, hown, hb⟩
  have hl := (others_at hown).1
  have HB := Lib.hid hb; clear hown hb
  go_wp2
  go_ret
  exact ⟨rfl, HB.out⟩
theorem mo2 (w : World) : Calls Tryz.prog 35 #[.int .i64 2] w fun e w' => e = .returned (.func (.func 144) #[] #[]) ∧ Below w.heap.size w w' := by
  go_enter Tryz.func35, Tryz.ntmps35
  go_wp2_with fail
  refine (others_any _).mono ?_
  rintro e w1 ⟨r, rfl, hown, hb⟩
  have hl := (others_at hown).2.1
  have HB := Lib.hid hb; clear hown hb
  go_wp2
  go_ret
  exact ⟨rfl, HB.out⟩
theorem mo3 (w : World) : Calls Tryz.prog 35 #[.int .i64 3] w fun e w' => e = .returned (.func (.func 79) #[] #[]) ∧ Below w.heap.size w w' := by
  go_enter Tryz.func35, Tryz.ntmps35
  go_wp2_with fail
  refine (jumps_any _).mono ?_
  rintro e w1 ⟨r, rfl, hown, hb⟩
  have hl := (jumps_at hown).1
  have HB := Lib.hid hb; clear hown hb
  go_wp2
  go_ret
  exact ⟨rfl, HB.out⟩
theorem mo4 (w : World) : Calls Tryz.prog 35 #[.int .i64 4] w fun e w' => e = .returned (.func (.func 82) #[] #[]) ∧ Below w.heap.size w w' := by
  go_enter Tryz.func35, Tryz.ntmps35
  go_wp2_with fail
  refine (jumps_any _).mono ?_
  rintro e w1 ⟨r, rfl, hown, hb⟩
  have hl := (jumps_at hown).2.1
  have HB := Lib.hid hb; clear hown hb
  go_wp2
  go_ret
  exact ⟨rfl, HB.out⟩
theorem mo5 (w : World) : Calls Tryz.prog 35 #[.int .i64 5] w fun e w' => e = .returned (.func (.func 84) #[] #[]) ∧ Below w.heap.size w w' := by
  go_enter Tryz.func35, Tryz.ntmps35
  go_wp2_with fail
  refine (jumps_any _).mono ?_
  rintro e w1 ⟨r, rfl, hown, hb⟩
  have hl := (jumps_at hown).2.2.1
  have HB := Lib.hid hb; clear hown hb
  go_wp2
  go_ret
  exact ⟨rfl, HB.out⟩
theorem mo6 (w : World) : Calls Tryz.prog 35 #[.int .i64 6] w fun e w' => e = .returned (.func (.func 87) #[] #[]) ∧ Below w.heap.size w w' := by
  go_enter Tryz.func35, Tryz.ntmps35
  go_wp2_with fail
  refine (jumps_any _).mono ?_
  rintro e w1 ⟨r, rfl, hown, hb⟩
  have hl := (jumps_at hown).2.2.2.1
  have HB := Lib.hid hb; clear hown hb
  go_wp2
  go_ret
  exact ⟨rfl, HB.out⟩
theorem mo7 (w : World) : Calls Tryz.prog 35 #[.int .i64 7] w fun e w' => e = .returned (.func (.func 88) #[] #[]) ∧ Below w.heap.size w w' := by
  go_enter Tryz.func35, Tryz.ntmps35
  go_wp2_with fail
  refine (jumps_any _).mono ?_
  rintro e w1 ⟨r, rfl, hown, hb⟩
  have hl := (jumps_at hown).2.2.2.2.1
  have HB := Lib.hid hb; clear hown hb
  go_wp2
  go_ret
  exact ⟨rfl, HB.out⟩
theorem mo8 (w : World) : Calls Tryz.prog 35 #[.int .i64 8] w fun e w' => e = .returned (.func (.func 89) #[] #[]) ∧ Below w.heap.size w w' := by
  go_enter Tryz.func35, Tryz.ntmps35
  go_wp2_with fail
  refine (jumps_any _).mono ?_
  rintro e w1 ⟨r, rfl, hown, hb⟩
  have hl := (jumps_at hown).2.2.2.2.2.1
  have HB := Lib.hid hb; clear hown hb
  go_wp2
  go_ret
  exact ⟨rfl, HB.out⟩
theorem mo9 (w : World) : Calls Tryz.prog 35 #[.int .i64 9] w fun e w' => e = .returned (.func (.func 90) #[] #[]) ∧ Below w.heap.size w w' := by
  go_enter Tryz.func35, Tryz.ntmps35
  go_wp2_with fail
  refine (jumps_any _).mono ?_
  rintro e w1 ⟨r, rfl, hown, hb⟩
  have hl := (jumps_at hown).2.2.2.2.2.2.1
  have HB := Lib.hid hb; clear hown hb
  go_wp2
  go_ret
  exact ⟨rfl, HB.out⟩
theorem mo10 (w : World) : Calls Tryz.prog 35 #[.int .i64 10] w fun e w' => e = .returned (.func (.func 91) #[] #[]) ∧ Below w.heap.size w w' := by
  go_enter Tryz.func35, Tryz.ntmps35
  go_wp2_with fail
  refine (jumps_any _).mono ?_
  rintro e w1 ⟨r, rfl, hown, hb⟩
  have hl := (jumps_at hown).2.2.2.2.2.2.2
  have HB := Lib.hid hb; clear hown hb
  go_wp2
  go_ret
  exact ⟨rfl, HB.out⟩
theorem mo11 (w : World) : Calls Tryz.prog 35 #[.int .i64 11] w fun e w' => e = .returned (.func (.func 92) #[] #[]) ∧ Below w.heap.size w w' := by
  go_enter Tryz.func35, Tryz.ntmps35
  go_wp2_with fail
  refine (accesses_any _).mono ?_
  rintro e w1 ⟨r, rfl, hown, hb⟩
  have hl := (accesses_at hown).1
  have HB := Lib.hid hb; clear hown hb
  go_wp2
  go_ret
  exact ⟨rfl, HB.out⟩
theorem mo12 (w : World) : Calls Tryz.prog 35 #[.int .i64 12] w fun e w' => e = .returned (.func (.func 95) #[] #[]) ∧ Below w.heap.size w w' := by
  go_enter Tryz.func35, Tryz.ntmps35
  go_wp2_with fail
  refine (accesses_any _).mono ?_
  rintro e w1 ⟨r, rfl, hown, hb⟩
  have hl := (accesses_at hown).2.1
  have HB := Lib.hid hb; clear hown hb
  go_wp2
  go_ret
  exact ⟨rfl, HB.out⟩
theorem mo13 (w : World) : Calls Tryz.prog 35 #[.int .i64 13] w fun e w' => e = .returned (.func (.func 96) #[] #[]) ∧ Below w.heap.size w w' := by
  go_enter Tryz.func35, Tryz.ntmps35
  go_wp2_with fail
  refine (accesses_any _).mono ?_
  rintro e w1 ⟨r, rfl, hown, hb⟩
  have hl := (accesses_at hown).2.2.1
  have HB := Lib.hid hb; clear hown hb
  go_wp2
  go_ret
  exact ⟨rfl, HB.out⟩
theorem mo14 (w : World) : Calls Tryz.prog 35 #[.int .i64 14] w fun e w' => e = .returned (.func (.func 97) #[] #[]) ∧ Below w.heap.size w w' := by
  go_enter Tryz.func35, Tryz.ntmps35
  go_wp2_with fail
  refine (accesses_any _).mono ?_
  rintro e w1 ⟨r, rfl, hown, hb⟩
  have hl := (accesses_at hown).2.2.2.1
  have HB := Lib.hid hb; clear hown hb
  go_wp2
  go_ret
  exact ⟨rfl, HB.out⟩
theorem mo15 (w : World) : Calls Tryz.prog 35 #[.int .i64 15] w fun e w' => e = .returned (.func (.func 98) #[] #[]) ∧ Below w.heap.size w w' := by
  go_enter Tryz.func35, Tryz.ntmps35
  go_wp2_with fail
  refine (accesses_any _).mono ?_
  rintro e w1 ⟨r, rfl, hown, hb⟩
  have hl := (accesses_at hown).2.2.2.2.1
  have HB := Lib.hid hb; clear hown hb
  go_wp2
  go_ret
  exact ⟨rfl, HB.out⟩
theorem mo16 (w : World) : Calls Tryz.prog 35 #[.int .i64 16] w fun e w' => e = .returned (.func (.func 99) #[] #[]) ∧ Below w.heap.size w w' := by
  go_enter Tryz.func35, Tryz.ntmps35
  go_wp2_with fail
  refine (accesses_any _).mono ?_
  rintro e w1 ⟨r, rfl, hown, hb⟩
  have hl := (accesses_at hown).2.2.2.2.2.1
  have HB := Lib.hid hb; clear hown hb
  go_wp2
  go_ret
  exact ⟨rfl, HB.out⟩
theorem mo17 (w : World) : Calls Tryz.prog 35 #[.int .i64 17] w fun e w' => e = .returned (.func (.func 101) #[] #[]) ∧ Below w.heap.size w w' := by
  go_enter Tryz.func35, Tryz.ntmps35
  go_wp2_with fail
  refine (accesses_any _).mono ?_
  rintro e w1 ⟨r, rfl, hown, hb⟩
  have hl := (accesses_at hown).2.2.2.2.2.2.1
  have HB := Lib.hid hb; clear hown hb
  go_wp2
  go_ret
  exact ⟨rfl, HB.out⟩
theorem mo18 (w : World) : Calls Tryz.prog 35 #[.int .i64 18] w fun e w' => e = .returned (.func (.func 102) #[] #[]) ∧ Below w.heap.size w w' := by
  go_enter Tryz.func35, Tryz.ntmps35
  go_wp2_with fail
  refine (accesses_any _).mono ?_
  rintro e w1 ⟨r, rfl, hown, hb⟩
  have hl := (accesses_at hown).2.2.2.2.2.2.2
  have HB := Lib.hid hb; clear hown hb
  go_wp2
  go_ret
  exact ⟨rfl, HB.out⟩
theorem mo19 (w : World) : Calls Tryz.prog 35 #[.int .i64 19] w fun e w' => e = .returned (.func (.func 103) #[] #[]) ∧ Below w.heap.size w w' := by
  go_enter Tryz.func35, Tryz.ntmps35
  go_wp2_with fail
  refine (withImms_any _).mono ?_
  rintro e w1 ⟨r, rfl, hown, hb⟩
  have hl := (withImms_at hown).1
  have HB := Lib.hid hb; clear hown hb
  go_wp2
  go_ret
  exact ⟨rfl, HB.out⟩
end Go.Proofs.YtaokpphlfhnleaaGreatDoor
end

section
namespace Go.Proofs.YtaokpphlfhnleaaGreatDoor
open Go.RowKit Go.Maps
set_option linter.unusedVariables false
theorem mo20 (w : World) : Calls Tryz.prog 35 #[.int .i64 20] w fun e w' => e = .returned (.func (.func 104) #[] #[]) ∧ Below w.heap.size w w' := by
  go_enter Tryz.func35, Tryz.ntmps35
  go_wp2_with fail
  refine (withImms_any _).mono ?_
  rintro e w1 ⟨r, rfl, hown, hb⟩
  have hl := (withImms_at hown).2.1
  have HB := Lib.hid hb; clear hown hb
  go_wp2
  go_ret
  exact ⟨rfl, HB.out⟩
theorem mo21 (w : World) : Calls Tryz.prog 35 #[.int .i64 21] w fun e w' => e = .returned (.func (.func 106) #[] #[]) ∧ Below w.heap.size w w' := by
  go_enter Tryz.func35, Tryz.ntmps35
  go_wp2_with fail
  refine (withImms_any _).mono ?_
  rintro e w1 ⟨r, rfl, hown, hb⟩
  have hl := (withImms_at hown).2.2.1
  have HB := Lib.hid hb; clear hown hb
  go_wp2
  go_ret
  exact ⟨rfl, HB.out⟩
theorem mo22 (w : World) : Calls Tryz.prog 35 #[.int .i64 22] w fun e w' => e = .returned (.func (.func 107) #[] #[]) ∧ Below w.heap.size w w' := by
  go_enter Tryz.func35, Tryz.ntmps35
  go_wp2_with fail
  refine (withImms_any _).mono ?_
  rintro e w1 ⟨r, rfl, hown, hb⟩
  have hl := (withImms_at hown).2.2.2.1
  have HB := Lib.hid hb; clear hown hb
  go_wp2
  go_ret
  exact ⟨rfl, HB.out⟩
theorem mo23 (w : World) : Calls Tryz.prog 35 #[.int .i64 23] w fun e w' => e = .returned (.func (.func 108) #[] #[]) ∧ Below w.heap.size w w' := by
  go_enter Tryz.func35, Tryz.ntmps35
  go_wp2_with fail
  refine (withImms_any _).mono ?_
  rintro e w1 ⟨r, rfl, hown, hb⟩
  have hl := (withImms_at hown).2.2.2.2.1
  have HB := Lib.hid hb; clear hown hb
  go_wp2
  go_ret
  exact ⟨rfl, HB.out⟩
theorem mo24 (w : World) : Calls Tryz.prog 35 #[.int .i64 24] w fun e w' => e = .returned (.func (.func 109) #[] #[]) ∧ Below w.heap.size w w' := by
  go_enter Tryz.func35, Tryz.ntmps35
  go_wp2_with fail
  refine (withImms_any _).mono ?_
  rintro e w1 ⟨r, rfl, hown, hb⟩
  have hl := (withImms_at hown).2.2.2.2.2.1
  have HB := Lib.hid hb; clear hown hb
  go_wp2
  go_ret
  exact ⟨rfl, HB.out⟩
theorem mo25 (w : World) : Calls Tryz.prog 35 #[.int .i64 25] w fun e w' => e = .returned (.func (.func 110) #[] #[]) ∧ Below w.heap.size w w' := by
  go_enter Tryz.func35, Tryz.ntmps35
  go_wp2_with fail
  refine (withImms_any _).mono ?_
  rintro e w1 ⟨r, rfl, hown, hb⟩
  have hl := (withImms_at hown).2.2.2.2.2.2.1
  have HB := Lib.hid hb; clear hown hb
  go_wp2
  go_ret
  exact ⟨rfl, HB.out⟩
theorem mo26 (w : World) : Calls Tryz.prog 35 #[.int .i64 26] w fun e w' => e = .returned (.func (.func 112) #[] #[]) ∧ Below w.heap.size w w' := by
  go_enter Tryz.func35, Tryz.ntmps35
  go_wp2_with fail
  refine (withImms_any _).mono ?_
  rintro e w1 ⟨r, rfl, hown, hb⟩
  have hl := (withImms_at hown).2.2.2.2.2.2.2.1
  have HB := Lib.hid hb; clear hown hb
  go_wp2
  go_ret
  exact ⟨rfl, HB.out⟩
theorem mo27 (w : World) : Calls Tryz.prog 35 #[.int .i64 27] w fun e w' => e = .returned (.func (.func 114) #[] #[]) ∧ Below w.heap.size w w' := by
  go_enter Tryz.func35, Tryz.ntmps35
  go_wp2_with fail
  refine (withImms_any _).mono ?_
  rintro e w1 ⟨r, rfl, hown, hb⟩
  have hl := (withImms_at hown).2.2.2.2.2.2.2.2
  have HB := Lib.hid hb; clear hown hb
  go_wp2
  go_ret
  exact ⟨rfl, HB.out⟩
theorem mo28 (w : World) : Calls Tryz.prog 35 #[.int .i64 28] w fun e w' => e = .returned (.func (.func 116) #[] #[]) ∧ Below w.heap.size w w' := by
  go_enter Tryz.func35, Tryz.ntmps35
  go_wp2_with fail
  refine (ofRegisters_any _).mono ?_
  rintro e w1 ⟨r, rfl, hown, hb⟩
  have hl := (ofRegisters_at hown).1
  have HB := Lib.hid hb; clear hown hb
  go_wp2
  go_ret
  exact ⟨rfl, HB.out⟩
theorem mo29 (w : World) : Calls Tryz.prog 35 #[.int .i64 29] w fun e w' => e = .returned (.func (.func 117) #[] #[]) ∧ Below w.heap.size w w' := by
  go_enter Tryz.func35, Tryz.ntmps35
  go_wp2_with fail
  refine (ofRegisters_any _).mono ?_
  rintro e w1 ⟨r, rfl, hown, hb⟩
  have hl := (ofRegisters_at hown).2.1
  have HB := Lib.hid hb; clear hown hb
  go_wp2
  go_ret
  exact ⟨rfl, HB.out⟩
theorem mo30 (w : World) : Calls Tryz.prog 35 #[.int .i64 30] w fun e w' => e = .returned (.func (.func 119) #[] #[]) ∧ Below w.heap.size w w' := by
  go_enter Tryz.func35, Tryz.ntmps35
  go_wp2_with fail
  refine (ofRegisters_any _).mono ?_
  rintro e w1 ⟨r, rfl, hown, hb⟩
  have hl := (ofRegisters_at hown).2.2.1
  have HB := Lib.hid hb; clear hown hb
  go_wp2
  go_ret
  exact ⟨rfl, HB.out⟩
theorem mo31 (w : World) : Calls Tryz.prog 35 #[.int .i64 31] w fun e w' => e = .returned (.func (.func 120) #[] #[]) ∧ Below w.heap.size w w' := by
  go_enter Tryz.func35, Tryz.ntmps35
  go_wp2_with fail
  refine (ofRegisters_any _).mono ?_
  rintro e w1 ⟨r, rfl, hown, hb⟩
  have hl := (ofRegisters_at hown).2.2.2.1
  have HB := Lib.hid hb; clear hown hb
  go_wp2
  go_ret
  exact ⟨rfl, HB.out⟩
theorem mo32 (w : World) : Calls Tryz.prog 35 #[.int .i64 32] w fun e w' => e = .returned (.func (.func 121) #[] #[]) ∧ Below w.heap.size w w' := by
  go_enter Tryz.func35, Tryz.ntmps35
  go_wp2_with fail
  refine (ofRegisters_any _).mono ?_
  rintro e w1 ⟨r, rfl, hown, hb⟩
  have hl := (ofRegisters_at hown).2.2.2.2.1
  have HB := Lib.hid hb; clear hown hb
  go_wp2
  go_ret
  exact ⟨rfl, HB.out⟩
theorem mo33 (w : World) : Calls Tryz.prog 35 #[.int .i64 33] w fun e w' => e = .returned (.func (.func 122) #[] #[]) ∧ Below w.heap.size w w' := by
  go_enter Tryz.func35, Tryz.ntmps35
  go_wp2_with fail
  refine (ofRegisters_any _).mono ?_
  rintro e w1 ⟨r, rfl, hown, hb⟩
  have hl := (ofRegisters_at hown).2.2.2.2.2.1
  have HB := Lib.hid hb; clear hown hb
  go_wp2
  go_ret
  exact ⟨rfl, HB.out⟩
theorem mo34 (w : World) : Calls Tryz.prog 35 #[.int .i64 34] w fun e w' => e = .returned (.func (.func 123) #[] #[]) ∧ Below w.heap.size w w' := by
  go_enter Tryz.func35, Tryz.ntmps35
  go_wp2_with fail
  refine (ofRegisters_any _).mono ?_
  rintro e w1 ⟨r, rfl, hown, hb⟩
  have hl := (ofRegisters_at hown).2.2.2.2.2.2.1
  have HB := Lib.hid hb; clear hown hb
  go_wp2
  go_ret
  exact ⟨rfl, HB.out⟩
theorem mo35 (w : World) : Calls Tryz.prog 35 #[.int .i64 35] w fun e w' => e = .returned (.func (.func 124) #[] #[]) ∧ Below w.heap.size w w' := by
  go_enter Tryz.func35, Tryz.ntmps35
  go_wp2_with fail
  refine (ofRegisters_any _).mono ?_
  rintro e w1 ⟨r, rfl, hown, hb⟩
  have hl := (ofRegisters_at hown).2.2.2.2.2.2.2.1
  have HB := Lib.hid hb; clear hown hb
  go_wp2
  go_ret
  exact ⟨rfl, HB.out⟩
theorem mo36 (w : World) : Calls Tryz.prog 35 #[.int .i64 36] w fun e w' => e = .returned (.func (.func 125) #[] #[]) ∧ Below w.heap.size w w' := by
  go_enter Tryz.func35, Tryz.ntmps35
  go_wp2_with fail
  refine (ofRegisters_any _).mono ?_
  rintro e w1 ⟨r, rfl, hown, hb⟩
  have hl := (ofRegisters_at hown).2.2.2.2.2.2.2.2.1
  have HB := Lib.hid hb; clear hown hb
  go_wp2
  go_ret
  exact ⟨rfl, HB.out⟩
theorem mo37 (w : World) : Calls Tryz.prog 35 #[.int .i64 37] w fun e w' => e = .returned (.func (.func 126) #[] #[]) ∧ Below w.heap.size w w' := by
  go_enter Tryz.func35, Tryz.ntmps35
  go_wp2_with fail
  refine (ofRegisters_any _).mono ?_
  rintro e w1 ⟨r, rfl, hown, hb⟩
  have hl := (ofRegisters_at hown).2.2.2.2.2.2.2.2.2
  have HB := Lib.hid hb; clear hown hb
  go_wp2
  go_ret
  exact ⟨rfl, HB.out⟩
theorem mo38 (w : World) : Calls Tryz.prog 35 #[.int .i64 38] w fun e w' => e = .returned (.func (.func 145) #[] #[]) ∧ Below w.heap.size w w' := by
  go_enter Tryz.func35, Tryz.ntmps35
  go_wp2_with fail
  refine (others_any _).mono ?_
  rintro e w1 ⟨r, rfl, hown, hb⟩
  have hl := (others_at hown).2.2.1
  have HB := Lib.hid hb; clear hown hb
  go_wp2
  go_ret
  exact ⟨rfl, HB.out⟩
theorem mo39 (w : World) : Calls Tryz.prog 35 #[.int .i64 39] w fun e w' => e = .returned (.func (.func 146) #[] #[]) ∧ Below w.heap.size w w' := by
  go_enter Tryz.func35, Tryz.ntmps35
  go_wp2_with fail
  refine (others_any _).mono ?_
  rintro e w1 ⟨r, rfl, hown, hb⟩
  have hl := (others_at hown).2.2.2.1
  have HB := Lib.hid hb; clear hown hb
  go_wp2
  go_ret
  exact ⟨rfl, HB.out⟩
end Go.Proofs.YtaokpphlfhnleaaGreatDoor
end

section
namespace Go.Proofs.YtaokpphlfhnleaaGreatDoor
open Go.RowKit Go.Maps
set_option linter.unusedVariables false
theorem mo40 (w : World) : Calls Tryz.prog 35 #[.int .i64 40] w fun e w' => e = .returned (.func (.func 127) #[] #[]) ∧ Below w.heap.size w w' := by
  go_enter Tryz.func35, Tryz.ntmps35
  go_wp2_with fail
  refine (products_any _).mono ?_
  rintro e w1 ⟨r, rfl, hown, hb⟩
  have hl := (products_at hown).1
  have HB := Lib.hid hb; clear hown hb
  go_wp2
  go_ret
  exact ⟨rfl, HB.out⟩
theorem mo41 (w : World) : Calls Tryz.prog 35 #[.int .i64 41] w fun e w' => e = .returned (.func (.func 129) #[] #[]) ∧ Below w.heap.size w w' := by
  go_enter Tryz.func35, Tryz.ntmps35
  go_wp2_with fail
  refine (products_any _).mono ?_
  rintro e w1 ⟨r, rfl, hown, hb⟩
  have hl := (products_at hown).2.1
  have HB := Lib.hid hb; clear hown hb
  go_wp2
  go_ret
  exact ⟨rfl, HB.out⟩
theorem mo42 (w : World) : Calls Tryz.prog 35 #[.int .i64 42] w fun e w' => e = .returned (.func (.func 131) #[] #[]) ∧ Below w.heap.size w w' := by
  go_enter Tryz.func35, Tryz.ntmps35
  go_wp2_with fail
  refine (products_any _).mono ?_
  rintro e w1 ⟨r, rfl, hown, hb⟩
  have hl := (products_at hown).2.2.1
  have HB := Lib.hid hb; clear hown hb
  go_wp2
  go_ret
  exact ⟨rfl, HB.out⟩
theorem mo43 (w : World) : Calls Tryz.prog 35 #[.int .i64 43] w fun e w' => e = .returned (.func (.func 133) #[] #[]) ∧ Below w.heap.size w w' := by
  go_enter Tryz.func35, Tryz.ntmps35
  go_wp2_with fail
  refine (products_any _).mono ?_
  rintro e w1 ⟨r, rfl, hown, hb⟩
  have hl := (products_at hown).2.2.2.1
  have HB := Lib.hid hb; clear hown hb
  go_wp2
  go_ret
  exact ⟨rfl, HB.out⟩
theorem mo44 (w : World) : Calls Tryz.prog 35 #[.int .i64 44] w fun e w' => e = .returned (.func (.func 135) #[] #[]) ∧ Below w.heap.size w w' := by
  go_enter Tryz.func35, Tryz.ntmps35
  go_wp2_with fail
  refine (products_any _).mono ?_
  rintro e w1 ⟨r, rfl, hown, hb⟩
  have hl := (products_at hown).2.2.2.2.1
  have HB := Lib.hid hb; clear hown hb
  go_wp2
  go_ret
  exact ⟨rfl, HB.out⟩
theorem mo45 (w : World) : Calls Tryz.prog 35 #[.int .i64 45] w fun e w' => e = .returned (.func (.func 137) #[] #[]) ∧ Below w.heap.size w w' := by
  go_enter Tryz.func35, Tryz.ntmps35
  go_wp2_with fail
  refine (products_any _).mono ?_
  rintro e w1 ⟨r, rfl, hown, hb⟩
  have hl := (products_at hown).2.2.2.2.2.1
  have HB := Lib.hid hb; clear hown hb
  go_wp2
  go_ret
  exact ⟨rfl, HB.out⟩
theorem mo46 (w : World) : Calls Tryz.prog 35 #[.int .i64 46] w fun e w' => e = .returned (.func (.func 139) #[] #[]) ∧ Below w.heap.size w w' := by
  go_enter Tryz.func35, Tryz.ntmps35
  go_wp2_with fail
  refine (products_any _).mono ?_
  rintro e w1 ⟨r, rfl, hown, hb⟩
  have hl := (products_at hown).2.2.2.2.2.2.1
  have HB := Lib.hid hb; clear hown hb
  go_wp2
  go_ret
  exact ⟨rfl, HB.out⟩
theorem mo47 (w : World) : Calls Tryz.prog 35 #[.int .i64 47] w fun e w' => e = .returned (.func (.func 141) #[] #[]) ∧ Below w.heap.size w w' := by
  go_enter Tryz.func35, Tryz.ntmps35
  go_wp2_with fail
  refine (products_any _).mono ?_
  rintro e w1 ⟨r, rfl, hown, hb⟩
  have hl := (products_at hown).2.2.2.2.2.2.2
  have HB := Lib.hid hb; clear hown hb
  go_wp2
  go_ret
  exact ⟨rfl, HB.out⟩
theorem mo48 (w : World) : Calls Tryz.prog 35 #[.int .i64 48] w fun e w' => e = .returned (.func (.func 147) #[] #[]) ∧ Below w.heap.size w w' := by
  go_enter Tryz.func35, Tryz.ntmps35
  go_wp2_with fail
  refine (others_any _).mono ?_
  rintro e w1 ⟨r, rfl, hown, hb⟩
  have hl := (others_at hown).2.2.2.2.1
  have HB := Lib.hid hb; clear hown hb
  go_wp2
  go_ret
  exact ⟨rfl, HB.out⟩
theorem mo49 (w : World) : Calls Tryz.prog 35 #[.int .i64 49] w fun e w' => e = .returned (.func (.func 149) #[] #[]) ∧ Below w.heap.size w w' := by
  go_enter Tryz.func35, Tryz.ntmps35
  go_wp2_with fail
  refine (others_any _).mono ?_
  rintro e w1 ⟨r, rfl, hown, hb⟩
  have hl := (others_at hown).2.2.2.2.2.1
  have HB := Lib.hid hb; clear hown hb
  go_wp2
  go_ret
  exact ⟨rfl, HB.out⟩
theorem mo50 (w : World) : Calls Tryz.prog 35 #[.int .i64 50] w fun e w' => e = .returned (.func (.func 65) #[] #[]) ∧ Below w.heap.size w w' := by
  go_enter Tryz.func35, Tryz.ntmps35
  go_wp2
  go_ret
  exact ⟨rfl, Below.refl _ _⟩
theorem mo51 (w : World) : Calls Tryz.prog 35 #[.int .i64 51] w fun e w' => e = .returned (.func (.func 65) #[] #[]) ∧ Below w.heap.size w w' := by
  go_enter Tryz.func35, Tryz.ntmps35
  go_wp2
  go_ret
  exact ⟨rfl, Below.refl _ _⟩
theorem mo52 (w : World) : Calls Tryz.prog 35 #[.int .i64 52] w fun e w' => e = .returned (.func (.func 65) #[] #[]) ∧ Below w.heap.size w w' := by
  go_enter Tryz.func35, Tryz.ntmps35
  go_wp2
  go_ret
  exact ⟨rfl, Below.refl _ _⟩
theorem mo53 (w : World) : Calls Tryz.prog 35 #[.int .i64 53] w fun e w' => e = .returned (.func (.func 65) #[] #[]) ∧ Below w.heap.size w w' := by
  go_enter Tryz.func35, Tryz.ntmps35
  go_wp2
  go_ret
  exact ⟨rfl, Below.refl _ _⟩
theorem mo54 (w : World) : Calls Tryz.prog 35 #[.int .i64 54] w fun e w' => e = .returned (.func (.func 65) #[] #[]) ∧ Below w.heap.size w w' := by
  go_enter Tryz.func35, Tryz.ntmps35
  go_wp2
  go_ret
  exact ⟨rfl, Below.refl _ _⟩
theorem mo55 (w : World) : Calls Tryz.prog 35 #[.int .i64 55] w fun e w' => e = .returned (.func (.func 65) #[] #[]) ∧ Below w.heap.size w w' := by
  go_enter Tryz.func35, Tryz.ntmps35
  go_wp2
  go_ret
  exact ⟨rfl, Below.refl _ _⟩
theorem mo56 (w : World) : Calls Tryz.prog 35 #[.int .i64 56] w fun e w' => e = .returned (.func (.func 65) #[] #[]) ∧ Below w.heap.size w w' := by
  go_enter Tryz.func35, Tryz.ntmps35
  go_wp2
  go_ret
  exact ⟨rfl, Below.refl _ _⟩
theorem mo57 (w : World) : Calls Tryz.prog 35 #[.int .i64 57] w fun e w' => e = .returned (.func (.func 65) #[] #[]) ∧ Below w.heap.size w w' := by
  go_enter Tryz.func35, Tryz.ntmps35
  go_wp2
  go_ret
  exact ⟨rfl, Below.refl _ _⟩
theorem mo58 (w : World) : Calls Tryz.prog 35 #[.int .i64 58] w fun e w' => e = .returned (.func (.func 65) #[] #[]) ∧ Below w.heap.size w w' := by
  go_enter Tryz.func35, Tryz.ntmps35
  go_wp2
  go_ret
  exact ⟨rfl, Below.refl _ _⟩
theorem mo59 (w : World) : Calls Tryz.prog 35 #[.int .i64 59] w fun e w' => e = .returned (.func (.func 150) #[] #[]) ∧ Below w.heap.size w w' := by
  go_enter Tryz.func35, Tryz.ntmps35
  go_wp2_with fail
  refine (others_any _).mono ?_
  rintro e w1 ⟨r, rfl, hown, hb⟩
  have hl := (others_at hown).2.2.2.2.2.2
  have HB := Lib.hid hb; clear hown hb
  go_wp2
  go_ret
  exact ⟨rfl, HB.out⟩
end Go.Proofs.YtaokpphlfhnleaaGreatDoor
end
