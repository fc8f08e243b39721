/-
  Maps of meanings.
-/
import Derived.Test.YtccacgknmddanaaGreatDoorIsForms
import Derived.Test.YtccacgknmddanaaGreatDoorHtMapL
namespace Go.Proofs.YtccacgknmddanaaGreatDoor
open Go.RowKit Go.Maps
set_option linter.unusedVariables false
def withImmsD : DataW Value := (((((((((DataW.map []).put (.int .i64 19) (.held (.func (.func 103) #[] #[]))).put (.int .i64 20) (.held (.func (.func 104) #[] #[]))).put (.int .i64 21) (.held (.func (.func 106) #[] #[]))).put (.int .i64 22) (.held (.func (.func 107) #[] #[]))).put (.int .i64 23) (.held (.func (.func 108) #[] #[]))).put (.int .i64 24) (.held (.func (.func 109) #[] #[]))).put (.int .i64 25) (.held (.func (.func 110) #[] #[]))).put (.int .i64 26) (.held (.func (.func 112) #[] #[]))).put (.int .i64 27) (.held (.func (.func 114) #[] #[]))
theorem withImms_at {w : World} {b : Nat} (h : w.ownsMap Tryz.prog 28 asHeld b 9 withImmsD) :
    (Instr.lookup 94 (.map (some b)) (.int .i64 19) false).run Tryz.prog w = .ok (.func (.func 103) #[] #[]) w ∧
    (Instr.lookup 94 (.map (some b)) (.int .i64 20) false).run Tryz.prog w = .ok (.func (.func 104) #[] #[]) w ∧
    (Instr.lookup 94 (.map (some b)) (.int .i64 21) false).run Tryz.prog w = .ok (.func (.func 106) #[] #[]) w ∧
    (Instr.lookup 94 (.map (some b)) (.int .i64 22) false).run Tryz.prog w = .ok (.func (.func 107) #[] #[]) w ∧
    (Instr.lookup 94 (.map (some b)) (.int .i64 23) false).run Tryz.prog w = .ok (.func (.func 108) #[] #[]) w ∧
    (Instr.lookup 94 (.map (some b)) (.int .i64 24) false).run Tryz.prog w = .ok (.func (.func 109) #[] #[]) w ∧
    (Instr.lookup 94 (.map (some b)) (.int .i64 25) false).run Tryz.prog w = .ok (.func (.func 110) #[] #[]) w ∧
    (Instr.lookup 94 (.map (some b)) (.int .i64 26) false).run Tryz.prog w = .ok (.func (.func 112) #[] #[]) w ∧
    (Instr.lookup 94 (.map (some b)) (.int .i64 27) false).run Tryz.prog w = .ok (.func (.func 114) #[] #[]) w := by
  refine ⟨?_, ?_, ?_, ?_, ?_, ?_, ?_, ?_, ?_⟩
  · obtain ⟨v, ps, hrun, hv⟩ := h.lookup lawOp Tryz.underlying94 (z := .nilFunc) (by kernel_rfl) rfl (keyOf_int_mk Tryz.underlying28 (show (Lit.int .i64 19).wf = true by decide))
    rw [show withImmsD.atKey (.int .i64 19) _ = .held (.func (.func 103) #[] #[]) from rfl] at hv
    simp only [asHeld, Option.some.injEq, Prod.mk.injEq, DataW.held.injEq] at hv
    rw [hrun, hv.1]
  · obtain ⟨v, ps, hrun, hv⟩ := h.lookup lawOp Tryz.underlying94 (z := .nilFunc) (by kernel_rfl) rfl (keyOf_int_mk Tryz.underlying28 (show (Lit.int .i64 20).wf = true by decide))
    rw [show withImmsD.atKey (.int .i64 20) _ = .held (.func (.func 104) #[] #[]) from rfl] at hv
    simp only [asHeld, Option.some.injEq, Prod.mk.injEq, DataW.held.injEq] at hv
    rw [hrun, hv.1]
  · obtain ⟨v, ps, hrun, hv⟩ := h.lookup lawOp Tryz.underlying94 (z := .nilFunc) (by kernel_rfl) rfl (keyOf_int_mk Tryz.underlying28 (show (Lit.int .i64 21).wf = true by decide))
    rw [show withImmsD.atKey (.int .i64 21) _ = .held (.func (.func 106) #[] #[]) from rfl] at hv
    simp only [asHeld, Option.some.injEq, Prod.mk.injEq, DataW.held.injEq] at hv
    rw [hrun, hv.1]
  · obtain ⟨v, ps, hrun, hv⟩ := h.lookup lawOp Tryz.underlying94 (z := .nilFunc) (by kernel_rfl) rfl (keyOf_int_mk Tryz.underlying28 (show (Lit.int .i64 22).wf = true by decide))
    rw [show withImmsD.atKey (.int .i64 22) _ = .held (.func (.func 107) #[] #[]) from rfl] at hv
    simp only [asHeld, Option.some.injEq, Prod.mk.injEq, DataW.held.injEq] at hv
    rw [hrun, hv.1]
  · obtain ⟨v, ps, hrun, hv⟩ := h.lookup lawOp Tryz.underlying94 (z := .nilFunc) (by kernel_rfl) rfl (keyOf_int_mk Tryz.underlying28 (show (Lit.int .i64 23).wf = true by decide))
    rw [show withImmsD.atKey (.int .i64 23) _ = .held (.func (.func 108) #[] #[]) from rfl] at hv
    simp only [asHeld, Option.some.injEq, Prod.mk.injEq, DataW.held.injEq] at hv
    rw [hrun, hv.1]
  · obtain ⟨v, ps, hrun, hv⟩ := h.lookup lawOp Tryz.underlying94 (z := .nilFunc) (by kernel_rfl) rfl (keyOf_int_mk Tryz.underlying28 (show (Lit.int .i64 24).wf = true by decide))
    rw [show withImmsD.atKey (.int .i64 24) _ = .held (.func (.func 109) #[] #[]) from rfl] at hv
    simp only [asHeld, Option.some.injEq, Prod.mk.injEq, DataW.held.injEq] at hv
    rw [hrun, hv.1]
  · obtain ⟨v, ps, hrun, hv⟩ := h.lookup lawOp Tryz.underlying94 (z := .nilFunc) (by kernel_rfl) rfl (keyOf_int_mk Tryz.underlying28 (show (Lit.int .i64 25).wf = true by decide))
    rw [show withImmsD.atKey (.int .i64 25) _ = .held (.func (.func 110) #[] #[]) from rfl] at hv
    simp only [asHeld, Option.some.injEq, Prod.mk.injEq, DataW.held.injEq] at hv
    rw [hrun, hv.1]
  · obtain ⟨v, ps, hrun, hv⟩ := h.lookup lawOp Tryz.underlying94 (z := .nilFunc) (by kernel_rfl) rfl (keyOf_int_mk Tryz.underlying28 (show (Lit.int .i64 26).wf = true by decide))
    rw [show withImmsD.atKey (.int .i64 26) _ = .held (.func (.func 112) #[] #[]) from rfl] at hv
    simp only [asHeld, Option.some.injEq, Prod.mk.injEq, DataW.held.injEq] at hv
    rw [hrun, hv.1]
  · obtain ⟨v, ps, hrun, hv⟩ := h.lookup lawOp Tryz.underlying94 (z := .nilFunc) (by kernel_rfl) rfl (keyOf_int_mk Tryz.underlying28 (show (Lit.int .i64 27).wf = true by decide))
    rw [show withImmsD.atKey (.int .i64 27) _ = .held (.func (.func 114) #[] #[]) from rfl] at hv
    simp only [asHeld, Option.some.injEq, Prod.mk.injEq, DataW.held.injEq] at hv
    rw [hrun, hv.1]
set_option maxHeartbeats 4000000 in
theorem withImms_any (w : World) :
    Calls Tryz.prog 62 #[] w fun e w' => ∃ r, e = .returned (.map (some r)) ∧ w'.ownsMap Tryz.prog 28 asHeld r 9 withImmsD ∧ Below w.heap.size w w' := by
  have hmm := @run_makeMap Tryz.prog
  go_enter Tryz.func62, Tryz.ntmps62
  go_wp2_with (first
    | (refine wpList_insert_own (H := Value) _ rfl _ _ _ 94 rfl 28 80 lawOp Tryz.underlying94 asHeld w.heap.size 0 (.map []) rfl (World.ownsMap_made w _ _ _) (by unfold maxLen; omega) (.int .i64 19) (.func (.func 103) #[] #[]) (.int .i64 19) rfl rfl (keyOf_int_mk Tryz.underlying28 (by decide)) (.held (.func (.func 103) #[] #[])) [] rfl ?_; intro w1 hown1 hg1)
    | (refine wpList_insert_own (H := Value) _ rfl _ _ _ 94 rfl 28 80 lawOp Tryz.underlying94 asHeld w.heap.size 1 _ rfl hown1 (by unfold maxLen; omega) (.int .i64 20) (.func (.func 104) #[] #[]) (.int .i64 20) rfl rfl (keyOf_int_mk Tryz.underlying28 (by decide)) (.held (.func (.func 104) #[] #[])) [] rfl ?_; intro w2 hown2 hg2)
    | (refine wpList_insert_own (H := Value) _ rfl _ _ _ 94 rfl 28 80 lawOp Tryz.underlying94 asHeld w.heap.size 2 _ rfl hown2 (by unfold maxLen; omega) (.int .i64 21) (.func (.func 106) #[] #[]) (.int .i64 21) rfl rfl (keyOf_int_mk Tryz.underlying28 (by decide)) (.held (.func (.func 106) #[] #[])) [] rfl ?_; intro w3 hown3 hg3)
    | (refine wpList_insert_own (H := Value) _ rfl _ _ _ 94 rfl 28 80 lawOp Tryz.underlying94 asHeld w.heap.size 3 _ rfl hown3 (by unfold maxLen; omega) (.int .i64 22) (.func (.func 107) #[] #[]) (.int .i64 22) rfl rfl (keyOf_int_mk Tryz.underlying28 (by decide)) (.held (.func (.func 107) #[] #[])) [] rfl ?_; intro w4 hown4 hg4)
    | (refine wpList_insert_own (H := Value) _ rfl _ _ _ 94 rfl 28 80 lawOp Tryz.underlying94 asHeld w.heap.size 4 _ rfl hown4 (by unfold maxLen; omega) (.int .i64 23) (.func (.func 108) #[] #[]) (.int .i64 23) rfl rfl (keyOf_int_mk Tryz.underlying28 (by decide)) (.held (.func (.func 108) #[] #[])) [] rfl ?_; intro w5 hown5 hg5)
    | (refine wpList_insert_own (H := Value) _ rfl _ _ _ 94 rfl 28 80 lawOp Tryz.underlying94 asHeld w.heap.size 5 _ rfl hown5 (by unfold maxLen; omega) (.int .i64 24) (.func (.func 109) #[] #[]) (.int .i64 24) rfl rfl (keyOf_int_mk Tryz.underlying28 (by decide)) (.held (.func (.func 109) #[] #[])) [] rfl ?_; intro w6 hown6 hg6)
    | (refine wpList_insert_own (H := Value) _ rfl _ _ _ 94 rfl 28 80 lawOp Tryz.underlying94 asHeld w.heap.size 6 _ rfl hown6 (by unfold maxLen; omega) (.int .i64 25) (.func (.func 110) #[] #[]) (.int .i64 25) rfl rfl (keyOf_int_mk Tryz.underlying28 (by decide)) (.held (.func (.func 110) #[] #[])) [] rfl ?_; intro w7 hown7 hg7)
    | (refine wpList_insert_own (H := Value) _ rfl _ _ _ 94 rfl 28 80 lawOp Tryz.underlying94 asHeld w.heap.size 7 _ rfl hown7 (by unfold maxLen; omega) (.int .i64 26) (.func (.func 112) #[] #[]) (.int .i64 26) rfl rfl (keyOf_int_mk Tryz.underlying28 (by decide)) (.held (.func (.func 112) #[] #[])) [] rfl ?_; intro w8 hown8 hg8)
    | (refine wpList_insert_own (H := Value) _ rfl _ _ _ 94 rfl 28 80 lawOp Tryz.underlying94 asHeld w.heap.size 8 _ rfl hown8 (by unfold maxLen; omega) (.int .i64 27) (.func (.func 114) #[] #[]) (.int .i64 27) rfl rfl (keyOf_int_mk Tryz.underlying28 (by decide)) (.held (.func (.func 114) #[] #[])) [] rfl ?_; intro w9 hown9 hg9))
  go_ret
  have h0 : (w.alloc (Obj.map #[] 0)).heap.size = w.heap.size + 1 := by simp
  have h1 := hg1.size
  have h2 := hg2.size
  have h3 := hg3.size
  have h4 := hg4.size
  have h5 := hg5.size
  have h6 := hg6.size
  have h7 := hg7.size
  have h8 := hg8.size
  have h9 := hg9.size
  exact ⟨_, rfl, hown9, (((((((((((Below.refl _ _).alloc (Nat.le_refl _) _).grown hg1 (by omega) (fun k hk => by cases hk; exact Nat.le_refl _)).grown hg2 (by omega) (fun k hk => by cases hk; exact Nat.le_refl _)).grown hg3 (by omega) (fun k hk => by cases hk; exact Nat.le_refl _)).grown hg4 (by omega) (fun k hk => by cases hk; exact Nat.le_refl _)).grown hg5 (by omega) (fun k hk => by cases hk; exact Nat.le_refl _)).grown hg6 (by omega) (fun k hk => by cases hk; exact Nat.le_refl _)).grown hg7 (by omega) (fun k hk => by cases hk; exact Nat.le_refl _)).grown hg8 (by omega) (fun k hk => by cases hk; exact Nat.le_refl _)).grown hg9 (by omega) (fun k hk => by cases hk; exact Nat.le_refl _))⟩
def ofRegistersD : DataW Value := ((((((((((DataW.map []).put (.int .i64 28) (.held (.func (.func 116) #[] #[]))).put (.int .i64 29) (.held (.func (.func 117) #[] #[]))).put (.int .i64 30) (.held (.func (.func 119) #[] #[]))).put (.int .i64 31) (.held (.func (.func 120) #[] #[]))).put (.int .i64 32) (.held (.func (.func 121) #[] #[]))).put (.int .i64 33) (.held (.func (.func 122) #[] #[]))).put (.int .i64 34) (.held (.func (.func 123) #[] #[]))).put (.int .i64 35) (.held (.func (.func 124) #[] #[]))).put (.int .i64 36) (.held (.func (.func 125) #[] #[]))).put (.int .i64 37) (.held (.func (.func 126) #[] #[]))
theorem ofRegisters_at {w : World} {b : Nat} (h : w.ownsMap Tryz.prog 28 asHeld b 10 ofRegistersD) :
    (Instr.lookup 94 (.map (some b)) (.int .i64 28) false).run Tryz.prog w = .ok (.func (.func 116) #[] #[]) w ∧
    (Instr.lookup 94 (.map (some b)) (.int .i64 29) false).run Tryz.prog w = .ok (.func (.func 117) #[] #[]) w ∧
    (Instr.lookup 94 (.map (some b)) (.int .i64 30) false).run Tryz.prog w = .ok (.func (.func 119) #[] #[]) w ∧
    (Instr.lookup 94 (.map (some b)) (.int .i64 31) false).run Tryz.prog w = .ok (.func (.func 120) #[] #[]) w ∧
    (Instr.lookup 94 (.map (some b)) (.int .i64 32) false).run Tryz.prog w = .ok (.func (.func 121) #[] #[]) w ∧
    (Instr.lookup 94 (.map (some b)) (.int .i64 33) false).run Tryz.prog w = .ok (.func (.func 122) #[] #[]) w ∧
    (Instr.lookup 94 (.map (some b)) (.int .i64 34) false).run Tryz.prog w = .ok (.func (.func 123) #[] #[]) w ∧
    (Instr.lookup 94 (.map (some b)) (.int .i64 35) false).run Tryz.prog w = .ok (.func (.func 124) #[] #[]) w ∧
    (Instr.lookup 94 (.map (some b)) (.int .i64 36) false).run Tryz.prog w = .ok (.func (.func 125) #[] #[]) w ∧
    (Instr.lookup 94 (.map (some b)) (.int .i64 37) false).run Tryz.prog w = .ok (.func (.func 126) #[] #[]) w := by
  refine ⟨?_, ?_, ?_, ?_, ?_, ?_, ?_, ?_, ?_, ?_⟩
  · obtain ⟨v, ps, hrun, hv⟩ := h.lookup lawOp Tryz.underlying94 (z := .nilFunc) (by kernel_rfl) rfl (keyOf_int_mk Tryz.underlying28 (show (Lit.int .i64 28).wf = true by decide))
    rw [show ofRegistersD.atKey (.int .i64 28) _ = .held (.func (.func 116) #[] #[]) from rfl] at hv
    simp only [asHeld, Option.some.injEq, Prod.mk.injEq, DataW.held.injEq] at hv
    rw [hrun, hv.1]
  · obtain ⟨v, ps, hrun, hv⟩ := h.lookup lawOp Tryz.underlying94 (z := .nilFunc) (by kernel_rfl) rfl (keyOf_int_mk Tryz.underlying28 (show (Lit.int .i64 29).wf = true by decide))
    rw [show ofRegistersD.atKey (.int .i64 29) _ = .held (.func (.func 117) #[] #[]) from rfl] at hv
    simp only [asHeld, Option.some.injEq, Prod.mk.injEq, DataW.held.injEq] at hv
    rw [hrun, hv.1]
  · obtain ⟨v, ps, hrun, hv⟩ := h.lookup lawOp Tryz.underlying94 (z := .nilFunc) (by kernel_rfl) rfl (keyOf_int_mk Tryz.underlying28 (show (Lit.int .i64 30).wf = true by decide))
    rw [show ofRegistersD.atKey (.int .i64 30) _ = .held (.func (.func 119) #[] #[]) from rfl] at hv
    simp only [asHeld, Option.some.injEq, Prod.mk.injEq, DataW.held.injEq] at hv
    rw [hrun, hv.1]
  · obtain ⟨v, ps, hrun, hv⟩ := h.lookup lawOp Tryz.underlying94 (z := .nilFunc) (by kernel_rfl) rfl (keyOf_int_mk Tryz.underlying28 (show (Lit.int .i64 31).wf = true by decide))
    rw [show ofRegistersD.atKey (.int .i64 31) _ = .held (.func (.func 120) #[] #[]) from rfl] at hv
    simp only [asHeld, Option.some.injEq, Prod.mk.injEq, DataW.held.injEq] at hv
    rw [hrun, hv.1]
  · obtain ⟨v, ps, hrun, hv⟩ := h.lookup lawOp Tryz.underlying94 (z := .nilFunc) (by kernel_rfl) rfl (keyOf_int_mk Tryz.underlying28 (show (Lit.int .i64 32).wf = true by decide))
    rw [show ofRegistersD.atKey (.int .i64 32) _ = .held (.func (.func 121) #[] #[]) from rfl] at hv
    simp only [asHeld, Option.some.injEq, Prod.mk.injEq, DataW.held.injEq] at hv
    rw [hrun, hv.1]
  · obtain ⟨v, ps, hrun, hv⟩ := h.lookup lawOp Tryz.underlying94 (z := .nilFunc) (by kernel_rfl) rfl (keyOf_int_mk Tryz.underlying28 (show (Lit.int .i64 33).wf = true by decide))
    rw [show ofRegistersD.atKey (.int .i64 33) _ = .held (.func (.func 122) #[] #[]) from rfl] at hv
    simp only [asHeld, Option.some.injEq, Prod.mk.injEq, DataW.held.injEq] at hv
    rw [hrun, hv.1]
  · obtain ⟨v, ps, hrun, hv⟩ := h.lookup lawOp Tryz.underlying94 (z := .nilFunc) (by kernel_rfl) rfl (keyOf_int_mk Tryz.underlying28 (show (Lit.int .i64 34).wf = true by decide))
    rw [show ofRegistersD.atKey (.int .i64 34) _ = .held (.func (.func 123) #[] #[]) from rfl] at hv
    simp only [asHeld, Option.some.injEq, Prod.mk.injEq, DataW.held.injEq] at hv
    rw [hrun, hv.1]
  · obtain ⟨v, ps, hrun, hv⟩ := h.lookup lawOp Tryz.underlying94 (z := .nilFunc) (by kernel_rfl) rfl (keyOf_int_mk Tryz.underlying28 (show (Lit.int .i64 35).wf = true by decide))
    rw [show ofRegistersD.atKey (.int .i64 35) _ = .held (.func (.func 124) #[] #[]) from rfl] at hv
    simp only [asHeld, Option.some.injEq, Prod.mk.injEq, DataW.held.injEq] at hv
    rw [hrun, hv.1]
  · obtain ⟨v, ps, hrun, hv⟩ := h.lookup lawOp Tryz.underlying94 (z := .nilFunc) (by kernel_rfl) rfl (keyOf_int_mk Tryz.underlying28 (show (Lit.int .i64 36).wf = true by decide))
    rw [show ofRegistersD.atKey (.int .i64 36) _ = .held (.func (.func 125) #[] #[]) from rfl] at hv
    simp only [asHeld, Option.some.injEq, Prod.mk.injEq, DataW.held.injEq] at hv
    rw [hrun, hv.1]
  · obtain ⟨v, ps, hrun, hv⟩ := h.lookup lawOp Tryz.underlying94 (z := .nilFunc) (by kernel_rfl) rfl (keyOf_int_mk Tryz.underlying28 (show (Lit.int .i64 37).wf = true by decide))
    rw [show ofRegistersD.atKey (.int .i64 37) _ = .held (.func (.func 126) #[] #[]) from rfl] at hv
    simp only [asHeld, Option.some.injEq, Prod.mk.injEq, DataW.held.injEq] at hv
    rw [hrun, hv.1]
set_option maxHeartbeats 4000000 in
theorem ofRegisters_any (w : World) :
    Calls Tryz.prog 63 #[] w fun e w' => ∃ r, e = .returned (.map (some r)) ∧ w'.ownsMap Tryz.prog 28 asHeld r 10 ofRegistersD ∧ Below w.heap.size w w' := by
  have hmm := @run_makeMap Tryz.prog
  go_enter Tryz.func63, Tryz.ntmps63
  go_wp2_with (first
    | (refine wpList_insert_own (H := Value) _ rfl _ _ _ 94 rfl 28 80 lawOp Tryz.underlying94 asHeld w.heap.size 0 (.map []) rfl (World.ownsMap_made w _ _ _) (by unfold maxLen; omega) (.int .i64 28) (.func (.func 116) #[] #[]) (.int .i64 28) rfl rfl (keyOf_int_mk Tryz.underlying28 (by decide)) (.held (.func (.func 116) #[] #[])) [] rfl ?_; intro w1 hown1 hg1)
    | (refine wpList_insert_own (H := Value) _ rfl _ _ _ 94 rfl 28 80 lawOp Tryz.underlying94 asHeld w.heap.size 1 _ rfl hown1 (by unfold maxLen; omega) (.int .i64 29) (.func (.func 117) #[] #[]) (.int .i64 29) rfl rfl (keyOf_int_mk Tryz.underlying28 (by decide)) (.held (.func (.func 117) #[] #[])) [] rfl ?_; intro w2 hown2 hg2)
    | (refine wpList_insert_own (H := Value) _ rfl _ _ _ 94 rfl 28 80 lawOp Tryz.underlying94 asHeld w.heap.size 2 _ rfl hown2 (by unfold maxLen; omega) (.int .i64 30) (.func (.func 119) #[] #[]) (.int .i64 30) rfl rfl (keyOf_int_mk Tryz.underlying28 (by decide)) (.held (.func (.func 119) #[] #[])) [] rfl ?_; intro w3 hown3 hg3)
    | (refine wpList_insert_own (H := Value) _ rfl _ _ _ 94 rfl 28 80 lawOp Tryz.underlying94 asHeld w.heap.size 3 _ rfl hown3 (by unfold maxLen; omega) (.int .i64 31) (.func (.func 120) #[] #[]) (.int .i64 31) rfl rfl (keyOf_int_mk Tryz.underlying28 (by decide)) (.held (.func (.func 120) #[] #[])) [] rfl ?_; intro w4 hown4 hg4)
    | (refine wpList_insert_own (H := Value) _ rfl _ _ _ 94 rfl 28 80 lawOp Tryz.underlying94 asHeld w.heap.size 4 _ rfl hown4 (by unfold maxLen; omega) (.int .i64 32) (.func (.func 121) #[] #[]) (.int .i64 32) rfl rfl (keyOf_int_mk Tryz.underlying28 (by decide)) (.held (.func (.func 121) #[] #[])) [] rfl ?_; intro w5 hown5 hg5)
    | (refine wpList_insert_own (H := Value) _ rfl _ _ _ 94 rfl 28 80 lawOp Tryz.underlying94 asHeld w.heap.size 5 _ rfl hown5 (by unfold maxLen; omega) (.int .i64 33) (.func (.func 122) #[] #[]) (.int .i64 33) rfl rfl (keyOf_int_mk Tryz.underlying28 (by decide)) (.held (.func (.func 122) #[] #[])) [] rfl ?_; intro w6 hown6 hg6)
    | (refine wpList_insert_own (H := Value) _ rfl _ _ _ 94 rfl 28 80 lawOp Tryz.underlying94 asHeld w.heap.size 6 _ rfl hown6 (by unfold maxLen; omega) (.int .i64 34) (.func (.func 123) #[] #[]) (.int .i64 34) rfl rfl (keyOf_int_mk Tryz.underlying28 (by decide)) (.held (.func (.func 123) #[] #[])) [] rfl ?_; intro w7 hown7 hg7)
    | (refine wpList_insert_own (H := Value) _ rfl _ _ _ 94 rfl 28 80 lawOp Tryz.underlying94 asHeld w.heap.size 7 _ rfl hown7 (by unfold maxLen; omega) (.int .i64 35) (.func (.func 124) #[] #[]) (.int .i64 35) rfl rfl (keyOf_int_mk Tryz.underlying28 (by decide)) (.held (.func (.func 124) #[] #[])) [] rfl ?_; intro w8 hown8 hg8)
    | (refine wpList_insert_own (H := Value) _ rfl _ _ _ 94 rfl 28 80 lawOp Tryz.underlying94 asHeld w.heap.size 8 _ rfl hown8 (by unfold maxLen; omega) (.int .i64 36) (.func (.func 125) #[] #[]) (.int .i64 36) rfl rfl (keyOf_int_mk Tryz.underlying28 (by decide)) (.held (.func (.func 125) #[] #[])) [] rfl ?_; intro w9 hown9 hg9)
    | (refine wpList_insert_own (H := Value) _ rfl _ _ _ 94 rfl 28 80 lawOp Tryz.underlying94 asHeld w.heap.size 9 _ rfl hown9 (by unfold maxLen; omega) (.int .i64 37) (.func (.func 126) #[] #[]) (.int .i64 37) rfl rfl (keyOf_int_mk Tryz.underlying28 (by decide)) (.held (.func (.func 126) #[] #[])) [] rfl ?_; intro w10 hown10 hg10))
  go_ret
  have h0 : (w.alloc (Obj.map #[] 0)).heap.size = w.heap.size + 1 := by simp
  have h1 := hg1.size
  have h2 := hg2.size
  have h3 := hg3.size
  have h4 := hg4.size
  have h5 := hg5.size
  have h6 := hg6.size
  have h7 := hg7.size
  have h8 := hg8.size
  have h9 := hg9.size
  have h10 := hg10.size
  exact ⟨_, rfl, hown10, ((((((((((((Below.refl _ _).alloc (Nat.le_refl _) _).grown hg1 (by omega) (fun k hk => by cases hk; exact Nat.le_refl _)).grown hg2 (by omega) (fun k hk => by cases hk; exact Nat.le_refl _)).grown hg3 (by omega) (fun k hk => by cases hk; exact Nat.le_refl _)).grown hg4 (by omega) (fun k hk => by cases hk; exact Nat.le_refl _)).grown hg5 (by omega) (fun k hk => by cases hk; exact Nat.le_refl _)).grown hg6 (by omega) (fun k hk => by cases hk; exact Nat.le_refl _)).grown hg7 (by omega) (fun k hk => by cases hk; exact Nat.le_refl _)).grown hg8 (by omega) (fun k hk => by cases hk; exact Nat.le_refl _)).grown hg9 (by omega) (fun k hk => by cases hk; exact Nat.le_refl _)).grown hg10 (by omega) (fun k hk => by cases hk; exact Nat.le_refl _))⟩
def productsD : DataW Value := ((((((((DataW.map []).put (.int .i64 40) (.held (.func (.func 127) #[] #[]))).put (.int .i64 41) (.held (.func (.func 129) #[] #[]))).put (.int .i64 42) (.held (.func (.func 131) #[] #[]))).put (.int .i64 43) (.held (.func (.func 133) #[] #[]))).put (.int .i64 44) (.held (.func (.func 135) #[] #[]))).put (.int .i64 45) (.held (.func (.func 137) #[] #[]))).put (.int .i64 46) (.held (.func (.func 139) #[] #[]))).put (.int .i64 47) (.held (.func (.func 141) #[] #[]))
theorem products_at {w : World} {b : Nat} (h : w.ownsMap Tryz.prog 28 asHeld b 8 productsD) :
    (Instr.lookup 94 (.map (some b)) (.int .i64 40) false).run Tryz.prog w = .ok (.func (.func 127) #[] #[]) w ∧
    (Instr.lookup 94 (.map (some b)) (.int .i64 41) false).run Tryz.prog w = .ok (.func (.func 129) #[] #[]) w ∧
    (Instr.lookup 94 (.map (some b)) (.int .i64 42) false).run Tryz.prog w = .ok (.func (.func 131) #[] #[]) w ∧
    (Instr.lookup 94 (.map (some b)) (.int .i64 43) false).run Tryz.prog w = .ok (.func (.func 133) #[] #[]) w ∧
    (Instr.lookup 94 (.map (some b)) (.int .i64 44) false).run Tryz.prog w = .ok (.func (.func 135) #[] #[]) w ∧
    (Instr.lookup 94 (.map (some b)) (.int .i64 45) false).run Tryz.prog w = .ok (.func (.func 137) #[] #[]) w ∧
    (Instr.lookup 94 (.map (some b)) (.int .i64 46) false).run Tryz.prog w = .ok (.func (.func 139) #[] #[]) w ∧
    (Instr.lookup 94 (.map (some b)) (.int .i64 47) false).run Tryz.prog w = .ok (.func (.func 141) #[] #[]) w := by
  refine ⟨?_, ?_, ?_, ?_, ?_, ?_, ?_, ?_⟩
  · obtain ⟨v, ps, hrun, hv⟩ := h.lookup lawOp Tryz.underlying94 (z := .nilFunc) (by kernel_rfl) rfl (keyOf_int_mk Tryz.underlying28 (show (Lit.int .i64 40).wf = true by decide))
    rw [show productsD.atKey (.int .i64 40) _ = .held (.func (.func 127) #[] #[]) from rfl] at hv
    simp only [asHeld, Option.some.injEq, Prod.mk.injEq, DataW.held.injEq] at hv
    rw [hrun, hv.1]
  · obtain ⟨v, ps, hrun, hv⟩ := h.lookup lawOp Tryz.underlying94 (z := .nilFunc) (by kernel_rfl) rfl (keyOf_int_mk Tryz.underlying28 (show (Lit.int .i64 41).wf = true by decide))
    rw [show productsD.atKey (.int .i64 41) _ = .held (.func (.func 129) #[] #[]) from rfl] at hv
    simp only [asHeld, Option.some.injEq, Prod.mk.injEq, DataW.held.injEq] at hv
    rw [hrun, hv.1]
  · obtain ⟨v, ps, hrun, hv⟩ := h.lookup lawOp Tryz.underlying94 (z := .nilFunc) (by kernel_rfl) rfl (keyOf_int_mk Tryz.underlying28 (show (Lit.int .i64 42).wf = true by decide))
    rw [show productsD.atKey (.int .i64 42) _ = .held (.func (.func 131) #[] #[]) from rfl] at hv
    simp only [asHeld, Option.some.injEq, Prod.mk.injEq, DataW.held.injEq] at hv
    rw [hrun, hv.1]
  · obtain ⟨v, ps, hrun, hv⟩ := h.lookup lawOp Tryz.underlying94 (z := .nilFunc) (by kernel_rfl) rfl (keyOf_int_mk Tryz.underlying28 (show (Lit.int .i64 43).wf = true by decide))
    rw [show productsD.atKey (.int .i64 43) _ = .held (.func (.func 133) #[] #[]) from rfl] at hv
    simp only [asHeld, Option.some.injEq, Prod.mk.injEq, DataW.held.injEq] at hv
    rw [hrun, hv.1]
  · obtain ⟨v, ps, hrun, hv⟩ := h.lookup lawOp Tryz.underlying94 (z := .nilFunc) (by kernel_rfl) rfl (keyOf_int_mk Tryz.underlying28 (show (Lit.int .i64 44).wf = true by decide))
    rw [show productsD.atKey (.int .i64 44) _ = .held (.func (.func 135) #[] #[]) from rfl] at hv
    simp only [asHeld, Option.some.injEq, Prod.mk.injEq, DataW.held.injEq] at hv
    rw [hrun, hv.1]
  · obtain ⟨v, ps, hrun, hv⟩ := h.lookup lawOp Tryz.underlying94 (z := .nilFunc) (by kernel_rfl) rfl (keyOf_int_mk Tryz.underlying28 (show (Lit.int .i64 45).wf = true by decide))
    rw [show productsD.atKey (.int .i64 45) _ = .held (.func (.func 137) #[] #[]) from rfl] at hv
    simp only [asHeld, Option.some.injEq, Prod.mk.injEq, DataW.held.injEq] at hv
    rw [hrun, hv.1]
  · obtain ⟨v, ps, hrun, hv⟩ := h.lookup lawOp Tryz.underlying94 (z := .nilFunc) (by kernel_rfl) rfl (keyOf_int_mk Tryz.underlying28 (show (Lit.int .i64 46).wf = true by decide))
    rw [show productsD.atKey (.int .i64 46) _ = .held (.func (.func 139) #[] #[]) from rfl] at hv
    simp only [asHeld, Option.some.injEq, Prod.mk.injEq, DataW.held.injEq] at hv
    rw [hrun, hv.1]
  · obtain ⟨v, ps, hrun, hv⟩ := h.lookup lawOp Tryz.underlying94 (z := .nilFunc) (by kernel_rfl) rfl (keyOf_int_mk Tryz.underlying28 (show (Lit.int .i64 47).wf = true by decide))
    rw [show productsD.atKey (.int .i64 47) _ = .held (.func (.func 141) #[] #[]) from rfl] at hv
    simp only [asHeld, Option.some.injEq, Prod.mk.injEq, DataW.held.injEq] at hv
    rw [hrun, hv.1]
set_option maxHeartbeats 4000000 in
theorem products_any (w : World) :
    Calls Tryz.prog 64 #[] w fun e w' => ∃ r, e = .returned (.map (some r)) ∧ w'.ownsMap Tryz.prog 28 asHeld r 8 productsD ∧ Below w.heap.size w w' := by
  have hmm := @run_makeMap Tryz.prog
  go_enter Tryz.func64, Tryz.ntmps64
  go_wp2_with (first
    | (refine wpList_insert_own (H := Value) _ rfl _ _ _ 94 rfl 28 80 lawOp Tryz.underlying94 asHeld w.heap.size 0 (.map []) rfl (World.ownsMap_made w _ _ _) (by unfold maxLen; omega) (.int .i64 40) (.func (.func 127) #[] #[]) (.int .i64 40) rfl rfl (keyOf_int_mk Tryz.underlying28 (by decide)) (.held (.func (.func 127) #[] #[])) [] rfl ?_; intro w1 hown1 hg1)
    | (refine wpList_insert_own (H := Value) _ rfl _ _ _ 94 rfl 28 80 lawOp Tryz.underlying94 asHeld w.heap.size 1 _ rfl hown1 (by unfold maxLen; omega) (.int .i64 41) (.func (.func 129) #[] #[]) (.int .i64 41) rfl rfl (keyOf_int_mk Tryz.underlying28 (by decide)) (.held (.func (.func 129) #[] #[])) [] rfl ?_; intro w2 hown2 hg2)
    | (refine wpList_insert_own (H := Value) _ rfl _ _ _ 94 rfl 28 80 lawOp Tryz.underlying94 asHeld w.heap.size 2 _ rfl hown2 (by unfold maxLen; omega) (.int .i64 42) (.func (.func 131) #[] #[]) (.int .i64 42) rfl rfl (keyOf_int_mk Tryz.underlying28 (by decide)) (.held (.func (.func 131) #[] #[])) [] rfl ?_; intro w3 hown3 hg3)
    | (refine wpList_insert_own (H := Value) _ rfl _ _ _ 94 rfl 28 80 lawOp Tryz.underlying94 asHeld w.heap.size 3 _ rfl hown3 (by unfold maxLen; omega) (.int .i64 43) (.func (.func 133) #[] #[]) (.int .i64 43) rfl rfl (keyOf_int_mk Tryz.underlying28 (by decide)) (.held (.func (.func 133) #[] #[])) [] rfl ?_; intro w4 hown4 hg4)
    | (refine wpList_insert_own (H := Value) _ rfl _ _ _ 94 rfl 28 80 lawOp Tryz.underlying94 asHeld w.heap.size 4 _ rfl hown4 (by unfold maxLen; omega) (.int .i64 44) (.func (.func 135) #[] #[]) (.int .i64 44) rfl rfl (keyOf_int_mk Tryz.underlying28 (by decide)) (.held (.func (.func 135) #[] #[])) [] rfl ?_; intro w5 hown5 hg5)
    | (refine wpList_insert_own (H := Value) _ rfl _ _ _ 94 rfl 28 80 lawOp Tryz.underlying94 asHeld w.heap.size 5 _ rfl hown5 (by unfold maxLen; omega) (.int .i64 45) (.func (.func 137) #[] #[]) (.int .i64 45) rfl rfl (keyOf_int_mk Tryz.underlying28 (by decide)) (.held (.func (.func 137) #[] #[])) [] rfl ?_; intro w6 hown6 hg6)
    | (refine wpList_insert_own (H := Value) _ rfl _ _ _ 94 rfl 28 80 lawOp Tryz.underlying94 asHeld w.heap.size 6 _ rfl hown6 (by unfold maxLen; omega) (.int .i64 46) (.func (.func 139) #[] #[]) (.int .i64 46) rfl rfl (keyOf_int_mk Tryz.underlying28 (by decide)) (.held (.func (.func 139) #[] #[])) [] rfl ?_; intro w7 hown7 hg7)
    | (refine wpList_insert_own (H := Value) _ rfl _ _ _ 94 rfl 28 80 lawOp Tryz.underlying94 asHeld w.heap.size 7 _ rfl hown7 (by unfold maxLen; omega) (.int .i64 47) (.func (.func 141) #[] #[]) (.int .i64 47) rfl rfl (keyOf_int_mk Tryz.underlying28 (by decide)) (.held (.func (.func 141) #[] #[])) [] rfl ?_; intro w8 hown8 hg8))
  go_ret
  have h0 : (w.alloc (Obj.map #[] 0)).heap.size = w.heap.size + 1 := by simp
  have h1 := hg1.size
  have h2 := hg2.size
  have h3 := hg3.size
  have h4 := hg4.size
  have h5 := hg5.size
  have h6 := hg6.size
  have h7 := hg7.size
  have h8 := hg8.size
  exact ⟨_, rfl, hown8, ((((((((((Below.refl _ _).alloc (Nat.le_refl _) _).grown hg1 (by omega) (fun k hk => by cases hk; exact Nat.le_refl _)).grown hg2 (by omega) (fun k hk => by cases hk; exact Nat.le_refl _)).grown hg3 (by omega) (fun k hk => by cases hk; exact Nat.le_refl _)).grown hg4 (by omega) (fun k hk => by cases hk; exact Nat.le_refl _)).grown hg5 (by omega) (fun k hk => by cases hk; exact Nat.le_refl _)).grown hg6 (by omega) (fun k hk => by cases hk; exact Nat.le_refl _)).grown hg7 (by omega) (fun k hk => by cases hk; exact Nat.le_refl _)).grown hg8 (by omega) (fun k hk => by cases hk; exact Nat.le_refl _))⟩
end Go.Proofs.YtccacgknmddanaaGreatDoor
