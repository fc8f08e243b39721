/-
  Maps of meanings.
-/
import Derived.Test.YtccacgknmddanaaGreatDoorIsForms
import Derived.Test.YtccacgknmddanaaGreatDoorHtMapL
namespace Go.Proofs.YtccacgknmddanaaGreatDoor
open Go.RowKit Go.Maps
set_option linter.unusedVariables false
def jumpsD : DataW Value := ((((((((DataW.map []).put (.int .i64 3) (.held (.func (.func 79) #[] #[]))).put (.int .i64 4) (.held (.func (.func 82) #[] #[]))).put (.int .i64 5) (.held (.func (.func 84) #[] #[]))).put (.int .i64 6) (.held (.func (.func 87) #[] #[]))).put (.int .i64 7) (.held (.func (.func 88) #[] #[]))).put (.int .i64 8) (.held (.func (.func 89) #[] #[]))).put (.int .i64 9) (.held (.func (.func 90) #[] #[]))).put (.int .i64 10) (.held (.func (.func 91) #[] #[]))
theorem jumps_at {w : World} {b : Nat} (h : w.ownsMap Tryz.prog 28 asHeld b 8 jumpsD) :
    (Instr.lookup 94 (.map (some b)) (.int .i64 3) false).run Tryz.prog w = .ok (.func (.func 79) #[] #[]) w ∧
    (Instr.lookup 94 (.map (some b)) (.int .i64 4) false).run Tryz.prog w = .ok (.func (.func 82) #[] #[]) w ∧
    (Instr.lookup 94 (.map (some b)) (.int .i64 5) false).run Tryz.prog w = .ok (.func (.func 84) #[] #[]) w ∧
    (Instr.lookup 94 (.map (some b)) (.int .i64 6) false).run Tryz.prog w = .ok (.func (.func 87) #[] #[]) w ∧
    (Instr.lookup 94 (.map (some b)) (.int .i64 7) false).run Tryz.prog w = .ok (.func (.func 88) #[] #[]) w ∧
    (Instr.lookup 94 (.map (some b)) (.int .i64 8) false).run Tryz.prog w = .ok (.func (.func 89) #[] #[]) w ∧
    (Instr.lookup 94 (.map (some b)) (.int .i64 9) false).run Tryz.prog w = .ok (.func (.func 90) #[] #[]) w ∧
    (Instr.lookup 94 (.map (some b)) (.int .i64 10) false).run Tryz.prog w = .ok (.func (.func 91) #[] #[]) w := by
  refine ⟨?_, ?_, ?_, ?_, ?_, ?_, ?_, ?_⟩
  · obtain ⟨v, ps, hrun, hv⟩ := h.lookup lawOp Tryz.underlying94 (z := .nilFunc) (by kernel_rfl) rfl (keyOf_int_mk Tryz.underlying28 (show (Lit.int .i64 3).wf = true by decide))
    rw [show jumpsD.atKey (.int .i64 3) _ = .held (.func (.func 79) #[] #[]) from rfl] at hv
    simp only [asHeld, Option.some.injEq, Prod.mk.injEq, DataW.held.injEq] at hv
    rw [hrun, hv.1]
  · obtain ⟨v, ps, hrun, hv⟩ := h.lookup lawOp Tryz.underlying94 (z := .nilFunc) (by kernel_rfl) rfl (keyOf_int_mk Tryz.underlying28 (show (Lit.int .i64 4).wf = true by decide))
    rw [show jumpsD.atKey (.int .i64 4) _ = .held (.func (.func 82) #[] #[]) from rfl] at hv
    simp only [asHeld, Option.some.injEq, Prod.mk.injEq, DataW.held.injEq] at hv
    rw [hrun, hv.1]
  · obtain ⟨v, ps, hrun, hv⟩ := h.lookup lawOp Tryz.underlying94 (z := .nilFunc) (by kernel_rfl) rfl (keyOf_int_mk Tryz.underlying28 (show (Lit.int .i64 5).wf = true by decide))
    rw [show jumpsD.atKey (.int .i64 5) _ = .held (.func (.func 84) #[] #[]) from rfl] at hv
    simp only [asHeld, Option.some.injEq, Prod.mk.injEq, DataW.held.injEq] at hv
    rw [hrun, hv.1]
  · obtain ⟨v, ps, hrun, hv⟩ := h.lookup lawOp Tryz.underlying94 (z := .nilFunc) (by kernel_rfl) rfl (keyOf_int_mk Tryz.underlying28 (show (Lit.int .i64 6).wf = true by decide))
    rw [show jumpsD.atKey (.int .i64 6) _ = .held (.func (.func 87) #[] #[]) from rfl] at hv
    simp only [asHeld, Option.some.injEq, Prod.mk.injEq, DataW.held.injEq] at hv
    rw [hrun, hv.1]
  · obtain ⟨v, ps, hrun, hv⟩ := h.lookup lawOp Tryz.underlying94 (z := .nilFunc) (by kernel_rfl) rfl (keyOf_int_mk Tryz.underlying28 (show (Lit.int .i64 7).wf = true by decide))
    rw [show jumpsD.atKey (.int .i64 7) _ = .held (.func (.func 88) #[] #[]) from rfl] at hv
    simp only [asHeld, Option.some.injEq, Prod.mk.injEq, DataW.held.injEq] at hv
    rw [hrun, hv.1]
  · obtain ⟨v, ps, hrun, hv⟩ := h.lookup lawOp Tryz.underlying94 (z := .nilFunc) (by kernel_rfl) rfl (keyOf_int_mk Tryz.underlying28 (show (Lit.int .i64 8).wf = true by decide))
    rw [show jumpsD.atKey (.int .i64 8) _ = .held (.func (.func 89) #[] #[]) from rfl] at hv
    simp only [asHeld, Option.some.injEq, Prod.mk.injEq, DataW.held.injEq] at hv
    rw [hrun, hv.1]
  · obtain ⟨v, ps, hrun, hv⟩ := h.lookup lawOp Tryz.underlying94 (z := .nilFunc) (by kernel_rfl) rfl (keyOf_int_mk Tryz.underlying28 (show (Lit.int .i64 9).wf = true by decide))
    rw [show jumpsD.atKey (.int .i64 9) _ = .held (.func (.func 90) #[] #[]) from rfl] at hv
    simp only [asHeld, Option.some.injEq, Prod.mk.injEq, DataW.held.injEq] at hv
    rw [hrun, hv.1]
  · obtain ⟨v, ps, hrun, hv⟩ := h.lookup lawOp Tryz.underlying94 (z := .nilFunc) (by kernel_rfl) rfl (keyOf_int_mk Tryz.underlying28 (show (Lit.int .i64 10).wf = true by decide))
    rw [show jumpsD.atKey (.int .i64 10) _ = .held (.func (.func 91) #[] #[]) from rfl] at hv
    simp only [asHeld, Option.some.injEq, Prod.mk.injEq, DataW.held.injEq] at hv
    rw [hrun, hv.1]
set_option maxHeartbeats 4000000 in
theorem jumps_any (w : World) :
    Calls Tryz.prog 60 #[] w fun e w' => ∃ r, e = .returned (.map (some r)) ∧ w'.ownsMap Tryz.prog 28 asHeld r 8 jumpsD ∧ Below w.heap.size w w' := by
  have hmm := @run_makeMap Tryz.prog
  go_enter Tryz.func60, Tryz.ntmps60
  go_wp2_with (first
    | (refine wpList_insert_own (H := Value) _ rfl _ _ _ 94 rfl 28 80 lawOp Tryz.underlying94 asHeld w.heap.size 0 (.map []) rfl (World.ownsMap_made w _ _ _) (by unfold maxLen; omega) (.int .i64 3) (.func (.func 79) #[] #[]) (.int .i64 3) rfl rfl (keyOf_int_mk Tryz.underlying28 (by decide)) (.held (.func (.func 79) #[] #[])) [] rfl ?_; intro w1 hown1 hg1)
    | (refine wpList_insert_own (H := Value) _ rfl _ _ _ 94 rfl 28 80 lawOp Tryz.underlying94 asHeld w.heap.size 1 _ rfl hown1 (by unfold maxLen; omega) (.int .i64 4) (.func (.func 82) #[] #[]) (.int .i64 4) rfl rfl (keyOf_int_mk Tryz.underlying28 (by decide)) (.held (.func (.func 82) #[] #[])) [] rfl ?_; intro w2 hown2 hg2)
    | (refine wpList_insert_own (H := Value) _ rfl _ _ _ 94 rfl 28 80 lawOp Tryz.underlying94 asHeld w.heap.size 2 _ rfl hown2 (by unfold maxLen; omega) (.int .i64 5) (.func (.func 84) #[] #[]) (.int .i64 5) rfl rfl (keyOf_int_mk Tryz.underlying28 (by decide)) (.held (.func (.func 84) #[] #[])) [] rfl ?_; intro w3 hown3 hg3)
    | (refine wpList_insert_own (H := Value) _ rfl _ _ _ 94 rfl 28 80 lawOp Tryz.underlying94 asHeld w.heap.size 3 _ rfl hown3 (by unfold maxLen; omega) (.int .i64 6) (.func (.func 87) #[] #[]) (.int .i64 6) rfl rfl (keyOf_int_mk Tryz.underlying28 (by decide)) (.held (.func (.func 87) #[] #[])) [] rfl ?_; intro w4 hown4 hg4)
    | (refine wpList_insert_own (H := Value) _ rfl _ _ _ 94 rfl 28 80 lawOp Tryz.underlying94 asHeld w.heap.size 4 _ rfl hown4 (by unfold maxLen; omega) (.int .i64 7) (.func (.func 88) #[] #[]) (.int .i64 7) rfl rfl (keyOf_int_mk Tryz.underlying28 (by decide)) (.held (.func (.func 88) #[] #[])) [] rfl ?_; intro w5 hown5 hg5)
    | (refine wpList_insert_own (H := Value) _ rfl _ _ _ 94 rfl 28 80 lawOp Tryz.underlying94 asHeld w.heap.size 5 _ rfl hown5 (by unfold maxLen; omega) (.int .i64 8) (.func (.func 89) #[] #[]) (.int .i64 8) rfl rfl (keyOf_int_mk Tryz.underlying28 (by decide)) (.held (.func (.func 89) #[] #[])) [] rfl ?_; intro w6 hown6 hg6)
    | (refine wpList_insert_own (H := Value) _ rfl _ _ _ 94 rfl 28 80 lawOp Tryz.underlying94 asHeld w.heap.size 6 _ rfl hown6 (by unfold maxLen; omega) (.int .i64 9) (.func (.func 90) #[] #[]) (.int .i64 9) rfl rfl (keyOf_int_mk Tryz.underlying28 (by decide)) (.held (.func (.func 90) #[] #[])) [] rfl ?_; intro w7 hown7 hg7)
    | (refine wpList_insert_own (H := Value) _ rfl _ _ _ 94 rfl 28 80 lawOp Tryz.underlying94 asHeld w.heap.size 7 _ rfl hown7 (by unfold maxLen; omega) (.int .i64 10) (.func (.func 91) #[] #[]) (.int .i64 10) rfl rfl (keyOf_int_mk Tryz.underlying28 (by decide)) (.held (.func (.func 91) #[] #[])) [] rfl ?_; intro w8 hown8 hg8))
  go_ret
  have h0 : (w.alloc (Obj.map #[] 0)).heap.size = w.heap.size + 1 := by simp
  have h1 := hg1.size
  have h2 := hg2.size
  have h3 := hg3.size
  have h4 := hg4.size
  have h5 := hg5.size
  have h6 := hg6.size
  have h7 := hg7.size
  have h8 := hg8.size
  exact ⟨_, rfl, hown8, ((((((((((Below.refl _ _).alloc (Nat.le_refl _) _).grown hg1 (by omega) (fun k hk => by cases hk; exact Nat.le_refl _)).grown hg2 (by omega) (fun k hk => by cases hk; exact Nat.le_refl _)).grown hg3 (by omega) (fun k hk => by cases hk; exact Nat.le_refl _)).grown hg4 (by omega) (fun k hk => by cases hk; exact Nat.le_refl _)).grown hg5 (by omega) (fun k hk => by cases hk; exact Nat.le_refl _)).grown hg6 (by omega) (fun k hk => by cases hk; exact Nat.le_refl _)).grown hg7 (by omega) (fun k hk => by cases hk; exact Nat.le_refl _)).grown hg8 (by omega) (fun k hk => by cases hk; exact Nat.le_refl _))⟩
def accessesD : DataW Value := ((((((((DataW.map []).put (.int .i64 11) (.held (.func (.func 92) #[] #[]))).put (.int .i64 12) (.held (.func (.func 95) #[] #[]))).put (.int .i64 13) (.held (.func (.func 96) #[] #[]))).put (.int .i64 14) (.held (.func (.func 97) #[] #[]))).put (.int .i64 15) (.held (.func (.func 98) #[] #[]))).put (.int .i64 16) (.held (.func (.func 99) #[] #[]))).put (.int .i64 17) (.held (.func (.func 101) #[] #[]))).put (.int .i64 18) (.held (.func (.func 102) #[] #[]))
theorem accesses_at {w : World} {b : Nat} (h : w.ownsMap Tryz.prog 28 asHeld b 8 accessesD) :
    (Instr.lookup 94 (.map (some b)) (.int .i64 11) false).run Tryz.prog w = .ok (.func (.func 92) #[] #[]) w ∧
    (Instr.lookup 94 (.map (some b)) (.int .i64 12) false).run Tryz.prog w = .ok (.func (.func 95) #[] #[]) w ∧
    (Instr.lookup 94 (.map (some b)) (.int .i64 13) false).run Tryz.prog w = .ok (.func (.func 96) #[] #[]) w ∧
    (Instr.lookup 94 (.map (some b)) (.int .i64 14) false).run Tryz.prog w = .ok (.func (.func 97) #[] #[]) w ∧
    (Instr.lookup 94 (.map (some b)) (.int .i64 15) false).run Tryz.prog w = .ok (.func (.func 98) #[] #[]) w ∧
    (Instr.lookup 94 (.map (some b)) (.int .i64 16) false).run Tryz.prog w = .ok (.func (.func 99) #[] #[]) w ∧
    (Instr.lookup 94 (.map (some b)) (.int .i64 17) false).run Tryz.prog w = .ok (.func (.func 101) #[] #[]) w ∧
    (Instr.lookup 94 (.map (some b)) (.int .i64 18) false).run Tryz.prog w = .ok (.func (.func 102) #[] #[]) w := by
  refine ⟨?_, ?_, ?_, ?_, ?_, ?_, ?_, ?_⟩
  · obtain ⟨v, ps, hrun, hv⟩ := h.lookup lawOp Tryz.underlying94 (z := .nilFunc) (by kernel_rfl) rfl (keyOf_int_mk Tryz.underlying28 (show (Lit.int .i64 11).wf = true by decide))
    rw [show accessesD.atKey (.int .i64 11) _ = .held (.func (.func 92) #[] #[]) from rfl] at hv
    simp only [asHeld, Option.some.injEq, Prod.mk.injEq, DataW.held.injEq] at hv
    rw [hrun, hv.1]
  · obtain ⟨v, ps, hrun, hv⟩ := h.lookup lawOp Tryz.underlying94 (z := .nilFunc) (by kernel_rfl) rfl (keyOf_int_mk Tryz.underlying28 (show (Lit.int .i64 12).wf = true by decide))
    rw [show accessesD.atKey (.int .i64 12) _ = .held (.func (.func 95) #[] #[]) from rfl] at hv
    simp only [asHeld, Option.some.injEq, Prod.mk.injEq, DataW.held.injEq] at hv
    rw [hrun, hv.1]
  · obtain ⟨v, ps, hrun, hv⟩ := h.lookup lawOp Tryz.underlying94 (z := .nilFunc) (by kernel_rfl) rfl (keyOf_int_mk Tryz.underlying28 (show (Lit.int .i64 13).wf = true by decide))
    rw [show accessesD.atKey (.int .i64 13) _ = .held (.func (.func 96) #[] #[]) from rfl] at hv
    simp only [asHeld, Option.some.injEq, Prod.mk.injEq, DataW.held.injEq] at hv
    rw [hrun, hv.1]
  · obtain ⟨v, ps, hrun, hv⟩ := h.lookup lawOp Tryz.underlying94 (z := .nilFunc) (by kernel_rfl) rfl (keyOf_int_mk Tryz.underlying28 (show (Lit.int .i64 14).wf = true by decide))
    rw [show accessesD.atKey (.int .i64 14) _ = .held (.func (.func 97) #[] #[]) from rfl] at hv
    simp only [asHeld, Option.some.injEq, Prod.mk.injEq, DataW.held.injEq] at hv
    rw [hrun, hv.1]
  · obtain ⟨v, ps, hrun, hv⟩ := h.lookup lawOp Tryz.underlying94 (z := .nilFunc) (by kernel_rfl) rfl (keyOf_int_mk Tryz.underlying28 (show (Lit.int .i64 15).wf = true by decide))
    rw [show accessesD.atKey (.int .i64 15) _ = .held (.func (.func 98) #[] #[]) from rfl] at hv
    simp only [asHeld, Option.some.injEq, Prod.mk.injEq, DataW.held.injEq] at hv
    rw [hrun, hv.1]
  · obtain ⟨v, ps, hrun, hv⟩ := h.lookup lawOp Tryz.underlying94 (z := .nilFunc) (by kernel_rfl) rfl (keyOf_int_mk Tryz.underlying28 (show (Lit.int .i64 16).wf = true by decide))
    rw [show accessesD.atKey (.int .i64 16) _ = .held (.func (.func 99) #[] #[]) from rfl] at hv
    simp only [asHeld, Option.some.injEq, Prod.mk.injEq, DataW.held.injEq] at hv
    rw [hrun, hv.1]
  · obtain ⟨v, ps, hrun, hv⟩ := h.lookup lawOp Tryz.underlying94 (z := .nilFunc) (by kernel_rfl) rfl (keyOf_int_mk Tryz.underlying28 (show (Lit.int .i64 17).wf = true by decide))
    rw [show accessesD.atKey (.int .i64 17) _ = .held (.func (.func 101) #[] #[]) from rfl] at hv
    simp only [asHeld, Option.some.injEq, Prod.mk.injEq, DataW.held.injEq] at hv
    rw [hrun, hv.1]
  · obtain ⟨v, ps, hrun, hv⟩ := h.lookup lawOp Tryz.underlying94 (z := .nilFunc) (by kernel_rfl) rfl (keyOf_int_mk Tryz.underlying28 (show (Lit.int .i64 18).wf = true by decide))
    rw [show accessesD.atKey (.int .i64 18) _ = .held (.func (.func 102) #[] #[]) from rfl] at hv
    simp only [asHeld, Option.some.injEq, Prod.mk.injEq, DataW.held.injEq] at hv
    rw [hrun, hv.1]
set_option maxHeartbeats 4000000 in
theorem accesses_any (w : World) :
    Calls Tryz.prog 61 #[] w fun e w' => ∃ r, e = .returned (.map (some r)) ∧ w'.ownsMap Tryz.prog 28 asHeld r 8 accessesD ∧ Below w.heap.size w w' := by
  have hmm := @run_makeMap Tryz.prog
  go_enter Tryz.func61, Tryz.ntmps61
  go_wp2_with (first
    | (refine wpList_insert_own (H := Value) _ rfl _ _ _ 94 rfl 28 80 lawOp Tryz.underlying94 asHeld w.heap.size 0 (.map []) rfl (World.ownsMap_made w _ _ _) (by unfold maxLen; omega) (.int .i64 11) (.func (.func 92) #[] #[]) (.int .i64 11) rfl rfl (keyOf_int_mk Tryz.underlying28 (by decide)) (.held (.func (.func 92) #[] #[])) [] rfl ?_; intro w1 hown1 hg1)
    | (refine wpList_insert_own (H := Value) _ rfl _ _ _ 94 rfl 28 80 lawOp Tryz.underlying94 asHeld w.heap.size 1 _ rfl hown1 (by unfold maxLen; omega) (.int .i64 12) (.func (.func 95) #[] #[]) (.int .i64 12) rfl rfl (keyOf_int_mk Tryz.underlying28 (by decide)) (.held (.func (.func 95) #[] #[])) [] rfl ?_; intro w2 hown2 hg2)
    | (refine wpList_insert_own (H := Value) _ rfl _ _ _ 94 rfl 28 80 lawOp Tryz.underlying94 asHeld w.heap.size 2 _ rfl hown2 (by unfold maxLen; omega) (.int .i64 13) (.func (.func 96) #[] #[]) (.int .i64 13) rfl rfl (keyOf_int_mk Tryz.underlying28 (by decide)) (.held (.func (.func 96) #[] #[])) [] rfl ?_; intro w3 hown3 hg3)
    | (refine wpList_insert_own (H := Value) _ rfl _ _ _ 94 rfl 28 80 lawOp Tryz.underlying94 asHeld w.heap.size 3 _ rfl hown3 (by unfold maxLen; omega) (.int .i64 14) (.func (.func 97) #[] #[]) (.int .i64 14) rfl rfl (keyOf_int_mk Tryz.underlying28 (by decide)) (.held (.func (.func 97) #[] #[])) [] rfl ?_; intro w4 hown4 hg4)
    | (refine wpList_insert_own (H := Value) _ rfl _ _ _ 94 rfl 28 80 lawOp Tryz.underlying94 asHeld w.heap.size 4 _ rfl hown4 (by unfold maxLen; omega) (.int .i64 15) (.func (.func 98) #[] #[]) (.int .i64 15) rfl rfl (keyOf_int_mk Tryz.underlying28 (by decide)) (.held (.func (.func 98) #[] #[])) [] rfl ?_; intro w5 hown5 hg5)
    | (refine wpList_insert_own (H := Value) _ rfl _ _ _ 94 rfl 28 80 lawOp Tryz.underlying94 asHeld w.heap.size 5 _ rfl hown5 (by unfold maxLen; omega) (.int .i64 16) (.func (.func 99) #[] #[]) (.int .i64 16) rfl rfl (keyOf_int_mk Tryz.underlying28 (by decide)) (.held (.func (.func 99) #[] #[])) [] rfl ?_; intro w6 hown6 hg6)
    | (refine wpList_insert_own (H := Value) _ rfl _ _ _ 94 rfl 28 80 lawOp Tryz.underlying94 asHeld w.heap.size 6 _ rfl hown6 (by unfold maxLen; omega) (.int .i64 17) (.func (.func 101) #[] #[]) (.int .i64 17) rfl rfl (keyOf_int_mk Tryz.underlying28 (by decide)) (.held (.func (.func 101) #[] #[])) [] rfl ?_; intro w7 hown7 hg7)
    | (refine wpList_insert_own (H := Value) _ rfl _ _ _ 94 rfl 28 80 lawOp Tryz.underlying94 asHeld w.heap.size 7 _ rfl hown7 (by unfold maxLen; omega) (.int .i64 18) (.func (.func 102) #[] #[]) (.int .i64 18) rfl rfl (keyOf_int_mk Tryz.underlying28 (by decide)) (.held (.func (.func 102) #[] #[])) [] rfl ?_; intro w8 hown8 hg8))
  go_ret
  have h0 : (w.alloc (Obj.map #[] 0)).heap.size = w.heap.size + 1 := by simp
  have h1 := hg1.size
  have h2 := hg2.size
  have h3 := hg3.size
  have h4 := hg4.size
  have h5 := hg5.size
  have h6 := hg6.size
  have h7 := hg7.size
  have h8 := hg8.size
  exact ⟨_, rfl, hown8, ((((((((((Below.refl _ _).alloc (Nat.le_refl _) _).grown hg1 (by omega) (fun k hk => by cases hk; exact Nat.le_refl _)).grown hg2 (by omega) (fun k hk => by cases hk; exact Nat.le_refl _)).grown hg3 (by omega) (fun k hk => by cases hk; exact Nat.le_refl _)).grown hg4 (by omega) (fun k hk => by cases hk; exact Nat.le_refl _)).grown hg5 (by omega) (fun k hk => by cases hk; exact Nat.le_refl _)).grown hg6 (by omega) (fun k hk => by cases hk; exact Nat.le_refl _)).grown hg7 (by omega) (fun k hk => by cases hk; exact Nat.le_refl _)).grown hg8 (by omega) (fun k hk => by cases hk; exact Nat.le_refl _))⟩
def othersD : DataW Value := (((((((DataW.map []).put (.int .i64 1) (.held (.func (.func 143) #[] #[]))).put (.int .i64 2) (.held (.func (.func 144) #[] #[]))).put (.int .i64 38) (.held (.func (.func 145) #[] #[]))).put (.int .i64 39) (.held (.func (.func 146) #[] #[]))).put (.int .i64 48) (.held (.func (.func 147) #[] #[]))).put (.int .i64 49) (.held (.func (.func 149) #[] #[]))).put (.int .i64 59) (.held (.func (.func 150) #[] #[]))
theorem others_at {w : World} {b : Nat} (h : w.ownsMap Tryz.prog 28 asHeld b 7 othersD) :
    (Instr.lookup 94 (.map (some b)) (.int .i64 1) false).run Tryz.prog w = .ok (.func (.func 143) #[] #[]) w ∧
    (Instr.lookup 94 (.map (some b)) (.int .i64 2) false).run Tryz.prog w = .ok (.func (.func 144) #[] #[]) w ∧
    (Instr.lookup 94 (.map (some b)) (.int .i64 38) false).run Tryz.prog w = .ok (.func (.func 145) #[] #[]) w ∧
    (Instr.lookup 94 (.map (some b)) (.int .i64 39) false).run Tryz.prog w = .ok (.func (.func 146) #[] #[]) w ∧
    (Instr.lookup 94 (.map (some b)) (.int .i64 48) false).run Tryz.prog w = .ok (.func (.func 147) #[] #[]) w ∧
    (Instr.lookup 94 (.map (some b)) (.int .i64 49) false).run Tryz.prog w = .ok (.func (.func 149) #[] #[]) w ∧
    (Instr.lookup 94 (.map (some b)) (.int .i64 59) false).run Tryz.prog w = .ok (.func (.func 150) #[] #[]) w := by
  refine ⟨?_, ?_, ?_, ?_, ?_, ?_, ?_⟩
  · obtain ⟨v, ps, hrun, hv⟩ := h.lookup lawOp Tryz.underlying94 (z := .nilFunc) (by kernel_rfl) rfl (keyOf_int_mk Tryz.underlying28 (show (Lit.int .i64 1).wf = true by decide))
    rw [show othersD.atKey (.int .i64 1) _ = .held (.func (.func 143) #[] #[]) from rfl] at hv
    simp only [asHeld, Option.some.injEq, Prod.mk.injEq, DataW.held.injEq] at hv
    rw [hrun, hv.1]
  · obtain ⟨v, ps, hrun, hv⟩ := h.lookup lawOp Tryz.underlying94 (z := .nilFunc) (by kernel_rfl) rfl (keyOf_int_mk Tryz.underlying28 (show (Lit.int .i64 2).wf = true by decide))
    rw [show othersD.atKey (.int .i64 2) _ = .held (.func (.func 144) #[] #[]) from rfl] at hv
    simp only [asHeld, Option.some.injEq, Prod.mk.injEq, DataW.held.injEq] at hv
    rw [hrun, hv.1]
  · obtain ⟨v, ps, hrun, hv⟩ := h.lookup lawOp Tryz.underlying94 (z := .nilFunc) (by kernel_rfl) rfl (keyOf_int_mk Tryz.underlying28 (show (Lit.int .i64 38).wf = true by decide))
    rw [show othersD.atKey (.int .i64 38) _ = .held (.func (.func 145) #[] #[]) from rfl] at hv
    simp only [asHeld, Option.some.injEq, Prod.mk.injEq, DataW.held.injEq] at hv
    rw [hrun, hv.1]
  · obtain ⟨v, ps, hrun, hv⟩ := h.lookup lawOp Tryz.underlying94 (z := .nilFunc) (by kernel_rfl) rfl (keyOf_int_mk Tryz.underlying28 (show (Lit.int .i64 39).wf = true by decide))
    rw [show othersD.atKey (.int .i64 39) _ = .held (.func (.func 146) #[] #[]) from rfl] at hv
    simp only [asHeld, Option.some.injEq, Prod.mk.injEq, DataW.held.injEq] at hv
    rw [hrun, hv.1]
  · obtain ⟨v, ps, hrun, hv⟩ := h.lookup lawOp Tryz.underlying94 (z := .nilFunc) (by kernel_rfl) rfl (keyOf_int_mk Tryz.underlying28 (show (Lit.int .i64 48).wf = true by decide))
    rw [show othersD.atKey (.int .i64 48) _ = .held (.func (.func 147) #[] #[]) from rfl] at hv
    simp only [asHeld, Option.some.injEq, Prod.mk.injEq, DataW.held.injEq] at hv
    rw [hrun, hv.1]
  · obtain ⟨v, ps, hrun, hv⟩ := h.lookup lawOp Tryz.underlying94 (z := .nilFunc) (by kernel_rfl) rfl (keyOf_int_mk Tryz.underlying28 (show (Lit.int .i64 49).wf = true by decide))
    rw [show othersD.atKey (.int .i64 49) _ = .held (.func (.func 149) #[] #[]) from rfl] at hv
    simp only [asHeld, Option.some.injEq, Prod.mk.injEq, DataW.held.injEq] at hv
    rw [hrun, hv.1]
  · obtain ⟨v, ps, hrun, hv⟩ := h.lookup lawOp Tryz.underlying94 (z := .nilFunc) (by kernel_rfl) rfl (keyOf_int_mk Tryz.underlying28 (show (Lit.int .i64 59).wf = true by decide))
    rw [show othersD.atKey (.int .i64 59) _ = .held (.func (.func 150) #[] #[]) from rfl] at hv
    simp only [asHeld, Option.some.injEq, Prod.mk.injEq, DataW.held.injEq] at hv
    rw [hrun, hv.1]
set_option maxHeartbeats 4000000 in
theorem others_any (w : World) :
    Calls Tryz.prog 66 #[] w fun e w' => ∃ r, e = .returned (.map (some r)) ∧ w'.ownsMap Tryz.prog 28 asHeld r 7 othersD ∧ Below w.heap.size w w' := by
  have hmm := @run_makeMap Tryz.prog
  go_enter Tryz.func66, Tryz.ntmps66
  go_wp2_with (first
    | (refine wpList_insert_own (H := Value) _ rfl _ _ _ 94 rfl 28 80 lawOp Tryz.underlying94 asHeld w.heap.size 0 (.map []) rfl (World.ownsMap_made w _ _ _) (by unfold maxLen; omega) (.int .i64 1) (.func (.func 143) #[] #[]) (.int .i64 1) rfl rfl (keyOf_int_mk Tryz.underlying28 (by decide)) (.held (.func (.func 143) #[] #[])) [] rfl ?_; intro w1 hown1 hg1)
    | (refine wpList_insert_own (H := Value) _ rfl _ _ _ 94 rfl 28 80 lawOp Tryz.underlying94 asHeld w.heap.size 1 _ rfl hown1 (by unfold maxLen; omega) (.int .i64 2) (.func (.func 144) #[] #[]) (.int .i64 2) rfl rfl (keyOf_int_mk Tryz.underlying28 (by decide)) (.held (.func (.func 144) #[] #[])) [] rfl ?_; intro w2 hown2 hg2)
    | (refine wpList_insert_own (H := Value) _ rfl _ _ _ 94 rfl 28 80 lawOp Tryz.underlying94 asHeld w.heap.size 2 _ rfl hown2 (by unfold maxLen; omega) (.int .i64 38) (.func (.func 145) #[] #[]) (.int .i64 38) rfl rfl (keyOf_int_mk Tryz.underlying28 (by decide)) (.held (.func (.func 145) #[] #[])) [] rfl ?_; intro w3 hown3 hg3)
    | (refine wpList_insert_own (H := Value) _ rfl _ _ _ 94 rfl 28 80 lawOp Tryz.underlying94 asHeld w.heap.size 3 _ rfl hown3 (by unfold maxLen; omega) (.int .i64 39) (.func (.func 146) #[] #[]) (.int .i64 39) rfl rfl (keyOf_int_mk Tryz.underlying28 (by decide)) (.held (.func (.func 146) #[] #[])) [] rfl ?_; intro w4 hown4 hg4)
    | (refine wpList_insert_own (H := Value) _ rfl _ _ _ 94 rfl 28 80 lawOp Tryz.underlying94 asHeld w.heap.size 4 _ rfl hown4 (by unfold maxLen; omega) (.int .i64 48) (.func (.func 147) #[] #[]) (.int .i64 48) rfl rfl (keyOf_int_mk Tryz.underlying28 (by decide)) (.held (.func (.func 147) #[] #[])) [] rfl ?_; intro w5 hown5 hg5)
    | (refine wpList_insert_own (H := Value) _ rfl _ _ _ 94 rfl 28 80 lawOp Tryz.underlying94 asHeld w.heap.size 5 _ rfl hown5 (by unfold maxLen; omega) (.int .i64 49) (.func (.func 149) #[] #[]) (.int .i64 49) rfl rfl (keyOf_int_mk Tryz.underlying28 (by decide)) (.held (.func (.func 149) #[] #[])) [] rfl ?_; intro w6 hown6 hg6)
    | (refine wpList_insert_own (H := Value) _ rfl _ _ _ 94 rfl 28 80 lawOp Tryz.underlying94 asHeld w.heap.size 6 _ rfl hown6 (by unfold maxLen; omega) (.int .i64 59) (.func (.func 150) #[] #[]) (.int .i64 59) rfl rfl (keyOf_int_mk Tryz.underlying28 (by decide)) (.held (.func (.func 150) #[] #[])) [] rfl ?_; intro w7 hown7 hg7))
  go_ret
  have h0 : (w.alloc (Obj.map #[] 0)).heap.size = w.heap.size + 1 := by simp
  have h1 := hg1.size
  have h2 := hg2.size
  have h3 := hg3.size
  have h4 := hg4.size
  have h5 := hg5.size
  have h6 := hg6.size
  have h7 := hg7.size
  exact ⟨_, rfl, hown7, (((((((((Below.refl _ _).alloc (Nat.le_refl _) _).grown hg1 (by omega) (fun k hk => by cases hk; exact Nat.le_refl _)).grown hg2 (by omega) (fun k hk => by cases hk; exact Nat.le_refl _)).grown hg3 (by omega) (fun k hk => by cases hk; exact Nat.le_refl _)).grown hg4 (by omega) (fun k hk => by cases hk; exact Nat.le_refl _)).grown hg5 (by omega) (fun k hk => by cases hk; exact Nat.le_refl _)).grown hg6 (by omega) (fun k hk => by cases hk; exact Nat.le_refl _)).grown hg7 (by omega) (fun k hk => by cases hk; exact Nat.le_refl _))⟩
end Go.Proofs.YtccacgknmddanaaGreatDoor
