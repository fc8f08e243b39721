/-
  HtMapM: HtMapL, HtMapA, HtMapB, HtMoA, HtMoB, HtMoC in one text.
-/
import Derived.Test.YtianojbdabeoeaaGreatDoorIsForms

section
namespace Go.Proofs.YtianojbdabeoeaaGreatDoor
open Go.RowKit Go.Maps
set_option linter.unusedVariables false
theorem lawOp : Keyed Tryz.prog 35 := int_keyed Tryz.underlying35
end Go.Proofs.YtianojbdabeoeaaGreatDoor
end

section
namespace Go.Proofs.YtianojbdabeoeaaGreatDoor
open Go.RowKit Go.Maps
set_option linter.unusedVariables false
def jumpsD : DataW Value := ((((((((DataW.map []).put (.int .i64 3) (.held (.func (.func 106) #[] #[]))).put (.int .i64 4) (.held (.func (.func 109) #[] #[]))).put (.int .i64 5) (.held (.func (.func 111) #[] #[]))).put (.int .i64 6) (.held (.func (.func 114) #[] #[]))).put (.int .i64 7) (.held (.func (.func 115) #[] #[]))).put (.int .i64 8) (.held (.func (.func 117) #[] #[]))).put (.int .i64 9) (.held (.func (.func 118) #[] #[]))).put (.int .i64 10) (.held (.func (.func 120) #[] #[]))
theorem jumps_at {w : World} {b : Nat} (h : w.ownsMap Tryz.prog 35 asHeld b 8 jumpsD) :
    (Instr.lookup 147 (.map (some b)) (.int .i64 3) false).run Tryz.prog w = .ok (.func (.func 106) #[] #[]) w ∧
    (Instr.lookup 147 (.map (some b)) (.int .i64 4) false).run Tryz.prog w = .ok (.func (.func 109) #[] #[]) w ∧
    (Instr.lookup 147 (.map (some b)) (.int .i64 5) false).run Tryz.prog w = .ok (.func (.func 111) #[] #[]) w ∧
    (Instr.lookup 147 (.map (some b)) (.int .i64 6) false).run Tryz.prog w = .ok (.func (.func 114) #[] #[]) w ∧
    (Instr.lookup 147 (.map (some b)) (.int .i64 7) false).run Tryz.prog w = .ok (.func (.func 115) #[] #[]) w ∧
    (Instr.lookup 147 (.map (some b)) (.int .i64 8) false).run Tryz.prog w = .ok (.func (.func 117) #[] #[]) w ∧
    (Instr.lookup 147 (.map (some b)) (.int .i64 9) false).run Tryz.prog w = .ok (.func (.func 118) #[] #[]) w ∧
    (Instr.lookup 147 (.map (some b)) (.int .i64 10) false).run Tryz.prog w = .ok (.func (.func 120) #[] #[]) w := by
  refine ⟨?_, ?_, ?_, ?_, ?_, ?_, ?_, ?_⟩
  · obtain ⟨v, ps, hrun, hv⟩ := h.lookup lawOp Tryz.underlying147 (z := .nilFunc) (by kernel_rfl) rfl (keyOf_int_mk Tryz.underlying35 (show (Lit.int .i64 3).wf = true by decide))
    rw [show jumpsD.atKey (.int .i64 3) _ = .held (.func (.func 106) #[] #[]) from rfl] at hv
    simp only [asHeld, Option.some.injEq, Prod.mk.injEq, DataW.held.injEq] at hv
    rw [hrun, hv.1]
  · obtain ⟨v, ps, hrun, hv⟩ := h.lookup lawOp Tryz.underlying147 (z := .nilFunc) (by kernel_rfl) rfl (keyOf_int_mk Tryz.underlying35 (show (Lit.int .i64 4).wf = true by decide))
    rw [show jumpsD.atKey (.int .i64 4) _ = .held (.func (.func 109) #[] #[]) from rfl] at hv
    simp only [asHeld, Option.some.injEq, Prod.mk.injEq, DataW.held.injEq] at hv
    rw [hrun, hv.1]
  · obtain ⟨v, ps, hrun, hv⟩ := h.lookup lawOp Tryz.underlying147 (z := .nilFunc) (by kernel_rfl) rfl (keyOf_int_mk Tryz.underlying35 (show (Lit.int .i64 5).wf = true by decide))
    rw [show jumpsD.atKey (.int .i64 5) _ = .held (.func (.func 111) #[] #[]) from rfl] at hv
    simp only [asHeld, Option.some.injEq, Prod.mk.injEq, DataW.held.injEq] at hv
    rw [hrun, hv.1]
  · obtain ⟨v, ps, hrun, hv⟩ := h.lookup lawOp Tryz.underlying147 (z := .nilFunc) (by kernel_rfl) rfl (keyOf_int_mk Tryz.underlying35 (show (Lit.int .i64 6).wf = true by decide))
    rw [show jumpsD.atKey (.int .i64 6) _ = .held (.func (.func 114) #[] #[]) from rfl] at hv
    simp only [asHeld, Option.some.injEq, Prod.mk.injEq, DataW.held.injEq] at hv
    rw [hrun, hv.1]
  · obtain ⟨v, ps, hrun, hv⟩ := h.lookup lawOp Tryz.underlying147 (z := .nilFunc) (by kernel_rfl) rfl (keyOf_int_mk Tryz.underlying35 (show (Lit.int .i64 7).wf = true by decide))
    rw [show jumpsD.atKey (.int .i64 7) _ = .held (.func (.func 115) #[] #[]) from rfl] at hv
    simp only [asHeld, Option.some.injEq, Prod.mk.injEq, DataW.held.injEq] at hv
    rw [hrun, hv.1]
  · obtain ⟨v, ps, hrun, hv⟩ := h.lookup lawOp Tryz.underlying147 (z := .nilFunc) (by kernel_rfl) rfl (keyOf_int_mk Tryz.underlying35 (show (Lit.int .i64 8).wf = true by decide))
    rw [show jumpsD.atKey (.int .i64 8) _ = .held (.func (.func 117) #[] #[]) from rfl] at hv
    simp only [asHeld, Option.some.injEq, Prod.mk.injEq, DataW.held.injEq] at hv
    rw [hrun, hv.1]
  · obtain ⟨v, ps, hrun, hv⟩ := h.lookup lawOp Tryz.underlying147 (z := .nilFunc) (by kernel_rfl) rfl (keyOf_int_mk Tryz.underlying35 (show (Lit.int .i64 9).wf = true by decide))
    rw [show jumpsD.atKey (.int .i64 9) _ = .held (.func (.func 118) #[] #[]) from rfl] at hv
    simp only [asHeld, Option.some.injEq, Prod.mk.injEq, DataW.held.injEq] at hv
    rw [hrun, hv.1]
  · obtain ⟨v, ps, hrun, hv⟩ := h.lookup lawOp Tryz.underlying147 (z := .nilFunc) (by kernel_rfl) rfl (keyOf_int_mk Tryz.underlying35 (show (Lit.int .i64 10).wf = true by decide))
    rw [show jumpsD.atKey (.int .i64 10) _ = .held (.func (.func 120) #[] #[]) from rfl] at hv
    simp only [asHeld, Option.some.injEq, Prod.mk.injEq, DataW.held.injEq] at hv
    rw [hrun, hv.1]
set_option maxHeartbeats 4000000 in
theorem jumps_any (w : World) :
    Calls Tryz.prog 81 #[] w fun e w' => ∃ r, e = .returned (.map (some r)) ∧ w'.ownsMap Tryz.prog 35 asHeld r 8 jumpsD ∧ Below w.heap.size w w' := by
  have hmm := @run_makeMap Tryz.prog
  go_enter Tryz.func81, Tryz.ntmps81
  go_wp2_with (first
    | (refine wpList_insert_own (H := Value) _ rfl _ _ _ 147 rfl 35 115 lawOp Tryz.underlying147 asHeld w.heap.size 0 (.map []) rfl (World.ownsMap_made w _ _ _) (by unfold maxLen; omega) (.int .i64 3) (.func (.func 106) #[] #[]) (.int .i64 3) rfl rfl (keyOf_int_mk Tryz.underlying35 (by decide)) (.held (.func (.func 106) #[] #[])) [] rfl ?_; intro w1 hown1 hg1)
    | (refine wpList_insert_own (H := Value) _ rfl _ _ _ 147 rfl 35 115 lawOp Tryz.underlying147 asHeld w.heap.size 1 _ rfl hown1 (by unfold maxLen; omega) (.int .i64 4) (.func (.func 109) #[] #[]) (.int .i64 4) rfl rfl (keyOf_int_mk Tryz.underlying35 (by decide)) (.held (.func (.func 109) #[] #[])) [] rfl ?_; intro w2 hown2 hg2)
    | (refine wpList_insert_own (H := Value) _ rfl _ _ _ 147 rfl 35 115 lawOp Tryz.underlying147 asHeld w.heap.size 2 _ rfl hown2 (by unfold maxLen; omega) (.int .i64 5) (.func (.func 111) #[] #[]) (.int .i64 5) rfl rfl (keyOf_int_mk Tryz.underlying35 (by decide)) (.held (.func (.func 111) #[] #[])) [] rfl ?_; intro w3 hown3 hg3)
    | (refine wpList_insert_own (H := Value) _ rfl _ _ _ 147 rfl 35 115 lawOp Tryz.underlying147 asHeld w.heap.size 3 _ rfl hown3 (by unfold maxLen; omega) (.int .i64 6) (.func (.func 114) #[] #[]) (.int .i64 6) rfl rfl (keyOf_int_mk Tryz.underlying35 (by decide)) (.held (.func (.func 114) #[] #[])) [] rfl ?_; intro w4 hown4 hg4)
    | (refine wpList_insert_own (H := Value) _ rfl _ _ _ 147 rfl 35 115 lawOp Tryz.underlying147 asHeld w.heap.size 4 _ rfl hown4 (by unfold maxLen; omega) (.int .i64 7) (.func (.func 115) #[] #[]) (.int .i64 7) rfl rfl (keyOf_int_mk Tryz.underlying35 (by decide)) (.held (.func (.func 115) #[] #[])) [] rfl ?_; intro w5 hown5 hg5)
    | (refine wpList_insert_own (H := Value) _ rfl _ _ _ 147 rfl 35 115 lawOp Tryz.underlying147 asHeld w.heap.size 5 _ rfl hown5 (by unfold maxLen; omega) (.int .i64 8) (.func (.func 117) #[] #[]) (.int .i64 8) rfl rfl (keyOf_int_mk Tryz.underlying35 (by decide)) (.held (.func (.func 117) #[] #[])) [] rfl ?_; intro w6 hown6 hg6)
    | (refine wpList_insert_own (H := Value) _ rfl _ _ _ 147 rfl 35 115 lawOp Tryz.underlying147 asHeld w.heap.size 6 _ rfl hown6 (by unfold maxLen; omega) (.int .i64 9) (.func (.func 118) #[] #[]) (.int .i64 9) rfl rfl (keyOf_int_mk Tryz.underlying35 (by decide)) (.held (.func (.func 118) #[] #[])) [] rfl ?_; intro w7 hown7 hg7)
    | (refine wpList_insert_own (H := Value) _ rfl _ _ _ 147 rfl 35 115 lawOp Tryz.underlying147 asHeld w.heap.size 7 _ rfl hown7 (by unfold maxLen; omega) (.int .i64 10) (.func (.func 120) #[] #[]) (.int .i64 10) rfl rfl (keyOf_int_mk Tryz.underlying35 (by decide)) (.held (.func (.func 120) #[] #[])) [] rfl ?_; intro w8 hown8 hg8))
  go_ret
  have h0 : (w.alloc (Obj.map #[] 0)).heap.size = w.heap.size + 1 := by simp
  have h1 := hg1.size
  have h2 := hg2.size
  have h3 := hg3.size
  have h4 := hg4.size
  have h5 := hg5.size
  have h6 := hg6.size
  have h7 := hg7.size
  have h8 := hg8.size
  exact ⟨_, rfl, hown8, ((((((((((Below.refl _ _).alloc (Nat.le_refl _) _).grown hg1 (by omega) (fun k hk => by cases hk; exact Nat.le_refl _)).grown hg2 (by omega) (fun k hk => by cases hk; exact Nat.le_refl _)).grown hg3 (by omega) (fun k hk => by cases hk; exact Nat.le_refl _)).grown hg4 (by omega) (fun k hk => by cases hk; exact Nat.le_refl _)).grown hg5 (by omega) (fun k hk => by cases hk; exact Nat.le_refl _)).grown hg6 (by omega) (fun k hk => by cases hk; exact Nat.le_refl _)).grown hg7 (by omega) (fun k hk => by cases hk; exact Nat.le_refl _)).grown hg8 (by omega) (fun k hk => by cases hk; exact Nat.le_refl _))⟩
def accessesD : DataW Value := ((((((((DataW.map []).put (.int .i64 11) (.held (.func (.func 121) #[] #[]))).put (.int .i64 12) (.held (.func (.func 124) #[] #[]))).put (.int .i64 13) (.held (.func (.func 125) #[] #[]))).put (.int .i64 14) (.held (.func (.func 126) #[] #[]))).put (.int .i64 15) (.held (.func (.func 127) #[] #[]))).put (.int .i64 16) (.held (.func (.func 128) #[] #[]))).put (.int .i64 17) (.held (.func (.func 130) #[] #[]))).put (.int .i64 18) (.held (.func (.func 131) #[] #[]))
theorem accesses_at {w : World} {b : Nat} (h : w.ownsMap Tryz.prog 35 asHeld b 8 accessesD) :
    (Instr.lookup 147 (.map (some b)) (.int .i64 11) false).run Tryz.prog w = .ok (.func (.func 121) #[] #[]) w ∧
    (Instr.lookup 147 (.map (some b)) (.int .i64 12) false).run Tryz.prog w = .ok (.func (.func 124) #[] #[]) w ∧
    (Instr.lookup 147 (.map (some b)) (.int .i64 13) false).run Tryz.prog w = .ok (.func (.func 125) #[] #[]) w ∧
    (Instr.lookup 147 (.map (some b)) (.int .i64 14) false).run Tryz.prog w = .ok (.func (.func 126) #[] #[]) w ∧
    (Instr.lookup 147 (.map (some b)) (.int .i64 15) false).run Tryz.prog w = .ok (.func (.func 127) #[] #[]) w ∧
    (Instr.lookup 147 (.map (some b)) (.int .i64 16) false).run Tryz.prog w = .ok (.func (.func 128) #[] #[]) w ∧
    (Instr.lookup 147 (.map (some b)) (.int .i64 17) false).run Tryz.prog w = .ok (.func (.func 130) #[] #[]) w ∧
    (Instr.lookup 147 (.map (some b)) (.int .i64 18) false).run Tryz.prog w = .ok (.func (.func 131) #[] #[]) w := by
  refine ⟨?_, ?_, ?_, ?_, ?_, ?_, ?_, ?_⟩
  · obtain ⟨v, ps, hrun, hv⟩ := h.lookup lawOp Tryz.underlying147 (z := .nilFunc) (by kernel_rfl) rfl (keyOf_int_mk Tryz.underlying35 (show (Lit.int .i64 11).wf = true by decide))
    rw [show accessesD.atKey (.int .i64 11) _ = .held (.func (.func 121) #[] #[]) from rfl] at hv
    simp only [asHeld, Option.some.injEq, Prod.mk.injEq, DataW.held.injEq] at hv
    rw [hrun, hv.1]
  · obtain ⟨v, ps, hrun, hv⟩ := h.lookup lawOp Tryz.underlying147 (z := .nilFunc) (by kernel_rfl) rfl (keyOf_int_mk Tryz.underlying35 (show (Lit.int .i64 12).wf = true by decide))
    rw [show accessesD.atKey (.int .i64 12) _ = .held (.func (.func 124) #[] #[]) from rfl] at hv
    simp only [asHeld, Option.some.injEq, Prod.mk.injEq, DataW.held.injEq] at hv
    rw [hrun, hv.1]
  · obtain ⟨v, ps, hrun, hv⟩ := h.lookup lawOp Tryz.underlying147 (z := .nilFunc) (by kernel_rfl) rfl (keyOf_int_mk Tryz.underlying35 (show (Lit.int .i64 13).wf = true by decide))
    rw [show accessesD.atKey (.int .i64 13) _ = .held (.func (.func 125) #[] #[]) from rfl] at hv
    simp only [asHeld, Option.some.injEq, Prod.mk.injEq, DataW.held.injEq] at hv
    rw [hrun, hv.1]
  · obtain ⟨v, ps, hrun, hv⟩ := h.lookup lawOp Tryz.underlying147 (z := .nilFunc) (by kernel_rfl) rfl (keyOf_int_mk Tryz.underlying35 (show (Lit.int .i64 14).wf = true by decide))
    rw [show accessesD.atKey (.int .i64 14) _ = .held (.func (.func 126) #[] #[]) from rfl] at hv
    simp only [asHeld, Option.some.injEq, Prod.mk.injEq, DataW.held.injEq] at hv
    rw [hrun, hv.1]
  · obtain ⟨v, ps, hrun, hv⟩ := h.lookup lawOp Tryz.underlying147 (z := .nilFunc) (by kernel_rfl) rfl (keyOf_int_mk Tryz.underlying35 (show (Lit.int .i64 15).wf = true by decide))
    rw [show accessesD.atKey (.int .i64 15) _ = .held (.func (.func 127) #[] #[]) from rfl] at hv
    simp only [asHeld, Option.some.injEq, Prod.mk.injEq, DataW.held.injEq] at hv
    rw [hrun, hv.1]
  · obtain ⟨v, ps, hrun, hv⟩ := h.lookup lawOp Tryz.underlying147 (z := .nilFunc) (by kernel_rfl) rfl (keyOf_int_mk Tryz.underlying35 (show (Lit.int .i64 16).wf = true by decide))
    rw [show accessesD.atKey (.int .i64 16) _ = .held (.func (.func 128) #[] #[]) from rfl] at hv
    simp only [asHeld, Option.some.injEq, Prod.mk.injEq, DataW.held.injEq] at hv
    rw [hrun, hv.1]
  · obtain ⟨v, ps, hrun, hv⟩ := h.lookup lawOp Tryz.underlying147 (z := .nilFunc) (by kernel_rfl) rfl (keyOf_int_mk Tryz.underlying35 (show (Lit.int .i64 17).wf = true by decide))
    rw [show accessesD.atKey (.int .i64 17) _ = .held (.func (.func 130) #[] #[]) from rfl] at hv
    simp only [asHeld, Option.some.injEq, Prod.mk.injEq, DataW.held.injEq] at hv
    rw [hrun, hv.1]
  · obtain ⟨v, ps, hrun, hv⟩ := h.lookup lawOp Tryz.underlying147 (z := .nilFunc) (by kernel_rfl) rfl (keyOf_int_mk Tryz.underlying35 (show (Lit.int .i64 18).wf = true by decide))
    rw [show accessesD.atKey (.int .i64 18) _ = .held (.func (.func 131) #[] #[]) from rfl] at hv
    simp only [asHeld, Option.some.injEq, Prod.mk.injEq, DataW.held.injEq] at hv
    rw [hrun, hv.1]
set_option maxHeartbeats 4000000 in
theorem accesses_any (w : World) :
    Calls Tryz.prog 82 #[] w fun e w' => ∃ r, e = .returned (.map (some r)) ∧ w'.ownsMap Tryz.prog 35 asHeld r 8 accessesD ∧ Below w.heap.size w w' := by
  have hmm := @run_makeMap Tryz.prog
  go_enter Tryz.func82, Tryz.ntmps82
  go_wp2_with (first
    | (refine wpList_insert_own (H := Value) _ rfl _ _ _ 147 rfl 35 115 lawOp Tryz.underlying147 asHeld w.heap.size 0 (.map []) rfl (World.ownsMap_made w _ _ _) (by unfold maxLen; omega) (.int .i64 11) (.func (.func 121) #[] #[]) (.int .i64 11) rfl rfl (keyOf_int_mk Tryz.underlying35 (by decide)) (.held (.func (.func 121) #[] #[])) [] rfl ?_; intro w1 hown1 hg1)
    | (refine wpList_insert_own (H := Value) _ rfl _ _ _ 147 rfl 35 115 lawOp Tryz.underlying147 asHeld w.heap.size 1 _ rfl hown1 (by unfold maxLen; omega) (.int .i64 12) (.func (.func 124) #[] #[]) (.int .i64 12) rfl rfl (keyOf_int_mk Tryz.underlying35 (by decide)) (.held (.func (.func 124) #[] #[])) [] rfl ?_; intro w2 hown2 hg2)
    | (refine wpList_insert_own (H := Value) _ rfl _ _ _ 147 rfl 35 115 lawOp Tryz.underlying147 asHeld w.heap.size 2 _ rfl hown2 (by unfold maxLen; omega) (.int .i64 13) (.func (.func 125) #[] #[]) (.int .i64 13) rfl rfl (keyOf_int_mk Tryz.underlying35 (by decide)) (.held (.func (.func 125) #[] #[])) [] rfl ?_; intro w3 hown3 hg3)
    | (refine wpList_insert_own (H := Value) _ rfl _ _ _ 147 rfl 35 115 lawOp Tryz.underlying147 asHeld w.heap.size 3 _ rfl hown3 (by unfold maxLen; omega) (.int .i64 14) (.func (.func 126) #[] #[]) (.int .i64 14) rfl rfl (keyOf_int_mk Tryz.underlying35 (by decide)) (.held (.func (.func 126) #[] #[])) [] rfl ?_; intro w4 hown4 hg4)
    | (refine wpList_insert_own (H := Value) _ rfl _ _ _ 147 rfl 35 115 lawOp Tryz.underlying147 asHeld w.heap.size 4 _ rfl hown4 (by unfold maxLen; omega) (.int .i64 15) (.func (.func 127) #[] #[]) (.int .i64 15) rfl rfl (keyOf_int_mk Tryz.underlying35 (by decide)) (.held (.func (.func 127) #[] #[])) [] rfl ?_; intro w5 hown5 hg5)
    | (refine wpList_insert_own (H := Value) _ rfl _ _ _ 147 rfl 35 115 lawOp Tryz.underlying147 asHeld w.heap.size 5 _ rfl hown5 (by unfold maxLen; omega) (.int .i64 16) (.func (.func 128) #[] #[]) (.int .i64 16) rfl rfl (keyOf_int_mk Tryz.underlying35 (by decide)) (.held (.func (.func 128) #[] #[])) [] rfl ?_; intro w6 hown6 hg6)
    | (refine wpList_insert_own (H := Value) _ rfl _ _ _ 147 rfl 35 115 lawOp Tryz.underlying147 asHeld w.heap.size 6 _ rfl hown6 (by unfold maxLen; omega) (.int .i64 17) (.func (.func 130) #[] #[]) (.int .i64 17) rfl rfl (keyOf_int_mk Tryz.underlying35 (by decide)) (.held (.func (.func 130) #[] #[])) [] rfl ?_; intro w7 hown7 hg7)
    | (refine wpList_insert_own (H := Value) _ rfl _ _ _ 147 rfl 35 115 lawOp Tryz.underlying147 asHeld w.heap.size 7 _ rfl hown7 (by unfold maxLen; omega) (.int .i64 18) (.func (.func 131) #[] #[]) (.int .i64 18) rfl rfl (keyOf_int_mk Tryz.underlying35 (by decide)) (.held (.func (.func 131) #[] #[])) [] rfl ?_; intro w8 hown8 hg8))
  go_ret
  have h0 : (w.alloc (Obj.map #[] 0)).heap.size = w.heap.size + 1 := by simp
  have h1 := hg1.size
  have h2 := hg2.size
  have h3 := hg3.size
  have h4 := hg4.size
  have h5 := hg5.size
  have h6 := hg6.size
  have h7 := hg7.size
  have h8 := hg8.size
  exact ⟨_, rfl, hown8, ((((((((((Below.refl _ _).alloc (Nat.le_refl _) _).grown hg1 (by omega) (fun k hk => by cases hk; exact Nat.le_refl _)).grown hg2 (by omega) (fun k hk => by cases hk; exact Nat.le_refl _)).grown hg3 (by omega) (fun k hk => by cases hk; exact Nat.le_refl _)).grown hg4 (by omega) (fun k hk => by cases hk; exact Nat.le_refl _)).grown hg5 (by omega) (fun k hk => by cases hk; exact Nat.le_refl _)).grown hg6 (by omega) (fun k hk => by cases hk; exact Nat.le_refl _)).grown hg7 (by omega) (fun k hk => by cases hk; exact Nat.le_refl _)).grown hg8 (by omega) (fun k hk => by cases hk; exact Nat.le_refl _))⟩
def othersD : DataW Value := (((((((DataW.map []).put (.int .i64 1) (.held (.func (.func 173) #[] #[]))).put (.int .i64 2) (.held (.func (.func 174) #[] #[]))).put (.int .i64 38) (.held (.func (.func 175) #[] #[]))).put (.int .i64 39) (.held (.func (.func 176) #[] #[]))).put (.int .i64 48) (.held (.func (.func 177) #[] #[]))).put (.int .i64 49) (.held (.func (.func 179) #[] #[]))).put (.int .i64 59) (.held (.func (.func 180) #[] #[]))
theorem others_at {w : World} {b : Nat} (h : w.ownsMap Tryz.prog 35 asHeld b 7 othersD) :
    (Instr.lookup 147 (.map (some b)) (.int .i64 1) false).run Tryz.prog w = .ok (.func (.func 173) #[] #[]) w ∧
    (Instr.lookup 147 (.map (some b)) (.int .i64 2) false).run Tryz.prog w = .ok (.func (.func 174) #[] #[]) w ∧
    (Instr.lookup 147 (.map (some b)) (.int .i64 38) false).run Tryz.prog w = .ok (.func (.func 175) #[] #[]) w ∧
    (Instr.lookup 147 (.map (some b)) (.int .i64 39) false).run Tryz.prog w = .ok (.func (.func 176) #[] #[]) w ∧
    (Instr.lookup 147 (.map (some b)) (.int .i64 48) false).run Tryz.prog w = .ok (.func (.func 177) #[] #[]) w ∧
    (Instr.lookup 147 (.map (some b)) (.int .i64 49) false).run Tryz.prog w = .ok (.func (.func 179) #[] #[]) w ∧
    (Instr.lookup 147 (.map (some b)) (.int .i64 59) false).run Tryz.prog w = .ok (.func (.func 180) #[] #[]) w := by
  refine ⟨?_, ?_, ?_, ?_, ?_, ?_, ?_⟩
  · obtain ⟨v, ps, hrun, hv⟩ := h.lookup lawOp Tryz.underlying147 (z := .nilFunc) (by kernel_rfl) rfl (keyOf_int_mk Tryz.underlying35 (show (Lit.int .i64 1).wf = true by decide))
    rw [show othersD.atKey (.int .i64 1) _ = .held (.func (.func 173) #[] #[]) from rfl] at hv
    simp only [asHeld, Option.some.injEq, Prod.mk.injEq, DataW.held.injEq] at hv
    rw [hrun, hv.1]
  · obtain ⟨v, ps, hrun, hv⟩ := h.lookup lawOp Tryz.underlying147 (z := .nilFunc) (by kernel_rfl) rfl (keyOf_int_mk Tryz.underlying35 (show (Lit.int .i64 2).wf = true by decide))
    rw [show othersD.atKey (.int .i64 2) _ = .held (.func (.func 174) #[] #[]) from rfl] at hv
    simp only [asHeld, Option.some.injEq, Prod.mk.injEq, DataW.held.injEq] at hv
    rw [hrun, hv.1]
  · obtain ⟨v, ps, hrun, hv⟩ := h.lookup lawOp Tryz.underlying147 (z := .nilFunc) (by kernel_rfl) rfl (keyOf_int_mk Tryz.underlying35 (show (Lit.int .i64 38).wf = true by decide))
    rw [show othersD.atKey (.int .i64 38) _ = .held (.func (.func 175) #[] #[]) from rfl] at hv
    simp only [asHeld, Option.some.injEq, Prod.mk.injEq, DataW.held.injEq] at hv
    rw [hrun, hv.1]
  · obtain ⟨v, ps, hrun, hv⟩ := h.lookup lawOp Tryz.underlying147 (z := .nilFunc) (by kernel_rfl) rfl (keyOf_int_mk Tryz.underlying35 (show (Lit.int .i64 39).wf = true by decide))
    rw [show othersD.atKey (.int .i64 39) _ = .held (.func (.func 176) #[] #[]) from rfl] at hv
    simp only [asHeld, Option.some.injEq, Prod.mk.injEq, DataW.held.injEq] at hv
    rw [hrun, hv.1]
  · obtain ⟨v, ps, hrun, hv⟩ := h.lookup lawOp Tryz.underlying147 (z := .nilFunc) (by kernel_rfl) rfl (keyOf_int_mk Tryz.underlying35 (show (Lit.int .i64 48).wf = true by decide))
    rw [show othersD.atKey (.int .i64 48) _ = .held (.func (.func 177) #[] #[]) from rfl] at hv
    simp only [asHeld, Option.some.injEq, Prod.mk.injEq, DataW.held.injEq] at hv
    rw [hrun, hv.1]
  · obtain ⟨v, ps, hrun, hv⟩ := h.lookup lawOp Tryz.underlying147 (z := .nilFunc) (by kernel_rfl) rfl (keyOf_int_mk Tryz.underlying35 (show (Lit.int .i64 49).wf = true by decide))
    rw [show othersD.atKey (.int .i64 49) _ = .held (.func (.func 179) #[] #[]) from rfl] at hv
    simp only [asHeld, Option.some.injEq, Prod.mk.injEq, DataW.held.injEq] at hv
    rw [hrun, hv.1]
  · obtain ⟨v, ps, hrun, hv⟩ := h.lookup lawOp Tryz.underlying147 (z := .nilFunc) (by kernel_rfl) rfl (keyOf_int_mk Tryz.underlying35 (show (Lit.int .i64 59).wf = true by decide))
    rw [show othersD.atKey (.int .i64 59) _ = .held (.func (.func 180) #[] #[]) from rfl] at hv
    simp only [asHeld, Option.some.injEq, Prod.mk.injEq, DataW.held.injEq] at hv
    rw [hrun, hv.1]
set_option maxHeartbeats 4000000 in
theorem others_any (w : World) :
    Calls Tryz.prog 87 #[] w fun e w' => ∃ r, e = .returned (.map (some r)) ∧ w'.ownsMap Tryz.prog 35 asHeld r 7 othersD ∧ Below w.heap.size w w' := by
  have hmm := @run_makeMap Tryz.prog
  go_enter Tryz.func87, Tryz.ntmps87
  go_wp2_with (first
    | (refine wpList_insert_own (H := Value) _ rfl _ _ _ 147 rfl 35 115 lawOp Tryz.underlying147 asHeld w.heap.size 0 (.map []) rfl (World.ownsMap_made w _ _ _) (by unfold maxLen; omega) (.int .i64 1) (.func (.func 173) #[] #[]) (.int .i64 1) rfl rfl (keyOf_int_mk Tryz.underlying35 (by decide)) (.held (.func (.func 173) #[] #[])) [] rfl ?_; intro w1 hown1 hg1)
    | (refine wpList_insert_own (H := Value) _ rfl _ _ _ 147 rfl 35 115 lawOp Tryz.underlying147 asHeld w.heap.size 1 _ rfl hown1 (by unfold maxLen; omega) (.int .i64 2) (.func (.func 174) #[] #[]) (.int .i64 2) rfl rfl (keyOf_int_mk Tryz.underlying35 (by decide)) (.held (.func (.func 174) #[] #[])) [] rfl ?_; intro w2 hown2 hg2)
    | (refine wpList_insert_own (H := Value) _ rfl _ _ _ 147 rfl 35 115 lawOp Tryz.underlying147 asHeld w.heap.size 2 _ rfl hown2 (by unfold maxLen; omega) (.int .i64 38) (.func (.func 175) #[] #[]) (.int .i64 38) rfl rfl (keyOf_int_mk Tryz.underlying35 (by decide)) (.held (.func (.func 175) #[] #[])) [] rfl ?_; intro w3 hown3 hg3)
    | (refine wpList_insert_own (H := Value) _ rfl _ _ _ 147 rfl 35 115 lawOp Tryz.underlying147 asHeld w.heap.size 3 _ rfl hown3 (by unfold maxLen; omega) (.int .i64 39) (.func (.func 176) #[] #[]) (.int .i64 39) rfl rfl (keyOf_int_mk Tryz.underlying35 (by decide)) (.held (.func (.func 176) #[] #[])) [] rfl ?_; intro w4 hown4 hg4)
    | (refine wpList_insert_own (H := Value) _ rfl _ _ _ 147 rfl 35 115 lawOp Tryz.underlying147 asHeld w.heap.size 4 _ rfl hown4 (by unfold maxLen; omega) (.int .i64 48) (.func (.func 177) #[] #[]) (.int .i64 48) rfl rfl (keyOf_int_mk Tryz.underlying35 (by decide)) (.held (.func (.func 177) #[] #[])) [] rfl ?_; intro w5 hown5 hg5)
    | (refine wpList_insert_own (H := Value) _ rfl _ _ _ 147 rfl 35 115 lawOp Tryz.underlying147 asHeld w.heap.size 5 _ rfl hown5 (by unfold maxLen; omega) (.int .i64 49) (.func (.func 179) #[] #[]) (.int .i64 49) rfl rfl (keyOf_int_mk Tryz.underlying35 (by decide)) (.held (.func (.func 179) #[] #[])) [] rfl ?_; intro w6 hown6 hg6)
    | (refine wpList_insert_own (H := Value) _ rfl _ _ _ 147 rfl 35 115 lawOp Tryz.underlying147 asHeld w.heap.size 6 _ rfl hown6 (by unfold maxLen; omega) (.int .i64 59) (.func (.func 180) #[] #[]) (.int .i64 59) rfl rfl (keyOf_int_mk Tryz.underlying35 (by decide)) (.held (.func (.func 180) #[] #[])) [] rfl ?_; intro w7 hown7 hg7))
  go_ret
  have h0 : (w.alloc (Obj.map #[] 0)).heap.size = w.heap.size + 1 := by simp
  have h1 := hg1.size
  have h2 := hg2.size
  have h3 := hg3.size
  have h4 := hg4.size
  have h5 := hg5.size
  have h6 := hg6.size
  have h7 := hg7.size
  exact ⟨_, rfl, hown7, (((((((((Below.refl _ _).alloc (Nat.le_refl _) _).grown hg1 (by omega) (fun k hk => by cases hk; exact Nat.le_refl _)).grown hg2 (by omega) (fun k hk => by cases hk; exact Nat.le_refl _)).grown hg3 (by omega) (fun k hk => by cases hk; exact Nat.le_refl _)).grown hg4 (by omega) (fun k hk => by cases hk; exact Nat.le_refl _)).grown hg5 (by omega) (fun k hk => by cases hk; exact Nat.le_refl _)).grown hg6 (by omega) (fun k hk => by cases hk; exact Nat.le_refl _)).grown hg7 (by omega) (fun k hk => by cases hk; exact Nat.le_refl _))⟩
end Go.Proofs.YtianojbdabeoeaaGreatDoor
end

section
namespace Go.Proofs.YtianojbdabeoeaaGreatDoor
open Go.RowKit Go.Maps
set_option linter.unusedVariables false
def withImmsD : DataW Value := (((((((((DataW.map []).put (.int .i64 19) (.held (.func (.func 132) #[] #[]))).put (.int .i64 20) (.held (.func (.func 134) #[] #[]))).put (.int .i64 21) (.held (.func (.func 136) #[] #[]))).put (.int .i64 22) (.held (.func (.func 137) #[] #[]))).put (.int .i64 23) (.held (.func (.func 138) #[] #[]))).put (.int .i64 24) (.held (.func (.func 139) #[] #[]))).put (.int .i64 25) (.held (.func (.func 140) #[] #[]))).put (.int .i64 26) (.held (.func (.func 142) #[] #[]))).put (.int .i64 27) (.held (.func (.func 144) #[] #[]))
theorem withImms_at {w : World} {b : Nat} (h : w.ownsMap Tryz.prog 35 asHeld b 9 withImmsD) :
    (Instr.lookup 147 (.map (some b)) (.int .i64 19) false).run Tryz.prog w = .ok (.func (.func 132) #[] #[]) w ∧
    (Instr.lookup 147 (.map (some b)) (.int .i64 20) false).run Tryz.prog w = .ok (.func (.func 134) #[] #[]) w ∧
    (Instr.lookup 147 (.map (some b)) (.int .i64 21) false).run Tryz.prog w = .ok (.func (.func 136) #[] #[]) w ∧
    (Instr.lookup 147 (.map (some b)) (.int .i64 22) false).run Tryz.prog w = .ok (.func (.func 137) #[] #[]) w ∧
    (Instr.lookup 147 (.map (some b)) (.int .i64 23) false).run Tryz.prog w = .ok (.func (.func 138) #[] #[]) w ∧
    (Instr.lookup 147 (.map (some b)) (.int .i64 24) false).run Tryz.prog w = .ok (.func (.func 139) #[] #[]) w ∧
    (Instr.lookup 147 (.map (some b)) (.int .i64 25) false).run Tryz.prog w = .ok (.func (.func 140) #[] #[]) w ∧
    (Instr.lookup 147 (.map (some b)) (.int .i64 26) false).run Tryz.prog w = .ok (.func (.func 142) #[] #[]) w ∧
    (Instr.lookup 147 (.map (some b)) (.int .i64 27) false).run Tryz.prog w = .ok (.func (.func 144) #[] #[]) w := by
  refine ⟨?_, ?_, ?_, ?_, ?_, ?_, ?_, ?_, ?_⟩
  · obtain ⟨v, ps, hrun, hv⟩ := h.lookup lawOp Tryz.underlying147 (z := .nilFunc) (by kernel_rfl) rfl (keyOf_int_mk Tryz.underlying35 (show (Lit.int .i64 19).wf = true by decide))
    rw [show withImmsD.atKey (.int .i64 19) _ = .held (.func (.func 132) #[] #[]) from rfl] at hv
    simp only [asHeld, Option.some.injEq, Prod.mk.injEq, DataW.held.injEq] at hv
    rw [hrun, hv.1]
  · obtain ⟨v, ps, hrun, hv⟩ := h.lookup lawOp Tryz.underlying147 (z := .nilFunc) (by kernel_rfl) rfl (keyOf_int_mk Tryz.underlying35 (show (Lit.int .i64 20).wf = true by decide))
    rw [show withImmsD.atKey (.int .i64 20) _ = .held (.func (.func 134) #[] #[]) from rfl] at hv
    simp only [asHeld, Option.some.injEq, Prod.mk.injEq, DataW.held.injEq] at hv
    rw [hrun, hv.1]
  · obtain ⟨v, ps, hrun, hv⟩ := h.lookup lawOp Tryz.underlying147 (z := .nilFunc) (by kernel_rfl) rfl (keyOf_int_mk Tryz.underlying35 (show (Lit.int .i64 21).wf = true by decide))
    rw [show withImmsD.atKey (.int .i64 21) _ = .held (.func (.func 136) #[] #[]) from rfl] at hv
    simp only [asHeld, Option.some.injEq, Prod.mk.injEq, DataW.held.injEq] at hv
    rw [hrun, hv.1]
  · obtain ⟨v, ps, hrun, hv⟩ := h.lookup lawOp Tryz.underlying147 (z := .nilFunc) (by kernel_rfl) rfl (keyOf_int_mk Tryz.underlying35 (show (Lit.int .i64 22).wf = true by decide))
    rw [show withImmsD.atKey (.int .i64 22) _ = .held (.func (.func 137) #[] #[]) from rfl] at hv
    simp only [asHeld, Option.some.injEq, Prod.mk.injEq, DataW.held.injEq] at hv
    rw [hrun, hv.1]
  · obtain ⟨v, ps, hrun, hv⟩ := h.lookup lawOp Tryz.underlying147 (z := .nilFunc) (by kernel_rfl) rfl (keyOf_int_mk Tryz.underlying35 (show (Lit.int .i64 23).wf = true by decide))
    rw [show withImmsD.atKey (.int .i64 23) _ = .held (.func (.func 138) #[] #[]) from rfl] at hv
    simp only [asHeld, Option.some.injEq, Prod.mk.injEq, DataW.held.injEq] at hv
    rw [hrun, hv.1]
  · obtain ⟨v, ps, hrun, hv⟩ := h.lookup lawOp Tryz.underlying147 (z := .nilFunc) (by kernel_rfl) rfl (keyOf_int_mk Tryz.underlying35 (show (Lit.int .i64 24).wf = true by decide))
    rw [show withImmsD.atKey (.int .i64 24) _ = .held (.func (.func 139) #[] #[]) from rfl] at hv
    simp only [asHeld, Option.some.injEq, Prod.mk.injEq, DataW.held.injEq] at hv
    rw [hrun, hv.1]
  · obtain ⟨v, ps, hrun, hv⟩ := h.lookup lawOp Tryz.underlying147 (z := .nilFunc) (by kernel_rfl) rfl (keyOf_int_mk Tryz.underlying35 (show (Lit.int .i64 25).wf = true by decide))
    rw [show withImmsD.atKey (.int .i64 25) _ = .held (.func (.func 140) #[] #[]) from rfl] at hv
    simp only [asHeld, Option.some.injEq, Prod.mk.injEq, DataW.held.injEq] at hv
    rw [hrun, hv.1]
  · obtain ⟨v, ps, hrun, hv⟩ := h.lookup lawOp Tryz.underlying147 (z := .nilFunc) (by kernel_rfl) rfl (keyOf_int_mk Tryz.underlying35 (show (Lit.int .i64 26).wf = true by decide))
    rw [show withImmsD.atKey (.int .i64 26) _ = .held (.func (.func 142) #[] #[]) from rfl] at hv
    simp only [asHeld, Option.some.injEq, Prod.mk.injEq, DataW.held.injEq] at hv
    rw [hrun, hv.1]
  · obtain ⟨v, ps, hrun, hv⟩ := h.lookup lawOp Tryz.underlying147 (z := .nilFunc) (by kernel_rfl) rfl (keyOf_int_mk Tryz.underlying35 (show (Lit.int .i64 27).wf = true by decide))
    rw [show withImmsD.atKey (.int .i64 27) _ = .held (.func (.func 144) #[] #[]) from rfl] at hv
    simp only [asHeld, Option.some.injEq, Prod.mk.injEq, DataW.held.injEq] at hv
    rw [hrun, hv.1]
set_option maxHeartbeats 4000000 in
theorem withImms_any (w : World) :
    Calls Tryz.prog 83 #[] w fun e w' => ∃ r, e = .returned (.map (some r)) ∧ w'.ownsMap Tryz.prog 35 asHeld r 9 withImmsD ∧ Below w.heap.size w w' := by
  have hmm := @run_makeMap Tryz.prog
  go_enter Tryz.func83, Tryz.ntmps83
  go_wp2_with (first
    | (refine wpList_insert_own (H := Value) _ rfl _ _ _ 147 rfl 35 115 lawOp Tryz.underlying147 asHeld w.heap.size 0 (.map []) rfl (World.ownsMap_made w _ _ _) (by unfold maxLen; omega) (.int .i64 19) (.func (.func 132) #[] #[]) (.int .i64 19) rfl rfl (keyOf_int_mk Tryz.underlying35 (by decide)) (.held (.func (.func 132) #[] #[])) [] rfl ?_; intro w1 hown1 hg1)
    | (refine wpList_insert_own (H := Value) _ rfl _ _ _ 147 rfl 35 115 lawOp Tryz.underlying147 asHeld w.heap.size 1 _ rfl hown1 (by unfold maxLen; omega) (.int .i64 20) (.func (.func 134) #[] #[]) (.int .i64 20) rfl rfl (keyOf_int_mk Tryz.underlying35 (by decide)) (.held (.func (.func 134) #[] #[])) [] rfl ?_; intro w2 hown2 hg2)
    | (refine wpList_insert_own (H := Value) _ rfl _ _ _ 147 rfl 35 115 lawOp Tryz.underlying147 asHeld w.heap.size 2 _ rfl hown2 (by unfold maxLen; omega) (.int .i64 21) (.func (.func 136) #[] #[]) (.int .i64 21) rfl rfl (keyOf_int_mk Tryz.underlying35 (by decide)) (.held (.func (.func 136) #[] #[])) [] rfl ?_; intro w3 hown3 hg3)
    | (refine wpList_insert_own (H := Value) _ rfl _ _ _ 147 rfl 35 115 lawOp Tryz.underlying147 asHeld w.heap.size 3 _ rfl hown3 (by unfold maxLen; omega) (.int .i64 22) (.func (.func 137) #[] #[]) (.int .i64 22) rfl rfl (keyOf_int_mk Tryz.underlying35 (by decide)) (.held (.func (.func 137) #[] #[])) [] rfl ?_; intro w4 hown4 hg4)
    | (refine wpList_insert_own (H := Value) _ rfl _ _ _ 147 rfl 35 115 lawOp Tryz.underlying147 asHeld w.heap.size 4 _ rfl hown4 (by unfold maxLen; omega) (.int .i64 23) (.func (.func 138) #[] #[]) (.int .i64 23) rfl rfl (keyOf_int_mk Tryz.underlying35 (by decide)) (.held (.func (.func 138) #[] #[])) [] rfl ?_; intro w5 hown5 hg5)
    | (refine wpList_insert_own (H := Value) _ rfl _ _ _ 147 rfl 35 115 lawOp Tryz.underlying147 asHeld w.heap.size 5 _ rfl hown5 (by unfold maxLen; omega) (.int .i64 24) (.func (.func 139) #[] #[]) (.int .i64 24) rfl rfl (keyOf_int_mk Tryz.underlying35 (by decide)) (.held (.func (.func 139) #[] #[])) [] rfl ?_; intro w6 hown6 hg6)
    | (refine wpList_insert_own (H := Value) _ rfl _ _ _ 147 rfl 35 115 lawOp Tryz.underlying147 asHeld w.heap.size 6 _ rfl hown6 (by unfold maxLen; omega) (.int .i64 25) (.func (.func 140) #[] #[]) (.int .i64 25) rfl rfl (keyOf_int_mk Tryz.underlying35 (by decide)) (.held (.func (.func 140) #[] #[])) [] rfl ?_; intro w7 hown7 hg7)
    | (refine wpList_insert_own (H := Value) _ rfl _ _ _ 147 rfl 35 115 lawOp Tryz.underlying147 asHeld w.heap.size 7 _ rfl hown7 (by unfold maxLen; omega) (.int .i64 26) (.func (.func 142) #[] #[]) (.int .i64 26) rfl rfl (keyOf_int_mk Tryz.underlying35 (by decide)) (.held (.func (.func 142) #[] #[])) [] rfl ?_; intro w8 hown8 hg8)
    | (refine wpList_insert_own (H := Value) _ rfl _ _ _ 147 rfl 35 115 lawOp Tryz.underlying147 asHeld w.heap.size 8 _ rfl hown8 (by unfold maxLen; omega) (.int .i64 27) (.func (.func 144) #[] #[]) (.int .i64 27) rfl rfl (keyOf_int_mk Tryz.underlying35 (by decide)) (.held (.func (.func 144) #[] #[])) [] rfl ?_; intro w9 hown9 hg9))
  go_ret
  have h0 : (w.alloc (Obj.map #[] 0)).heap.size = w.heap.size + 1 := by simp
  have h1 := hg1.size
  have h2 := hg2.size
  have h3 := hg3.size
  have h4 := hg4.size
  have h5 := hg5.size
  have h6 := hg6.size
  have h7 := hg7.size
  have h8 := hg8.size
  have h9 := hg9.size
  exact ⟨_, rfl, hown9, (((((((((((Below.refl _ _).alloc (Nat.le_refl _) _).grown hg1 (by omega) (fun k hk => by cases hk; exact Nat.le_refl _)).grown hg2 (by omega) (fun k hk => by cases hk; exact Nat.le_refl _)).grown hg3 (by omega) (fun k hk => by cases hk; exact Nat.le_refl _)).grown hg4 (by omega) (fun k hk => by cases hk; exact Nat.le_refl _)).grown hg5 (by omega) (fun k hk => by cases hk; exact Nat.le_refl _)).grown hg6 (by omega) (fun k hk => by cases hk; exact Nat.le_refl _)).grown hg7 (by omega) (fun k hk => by cases hk; exact Nat.le_refl _)).grown hg8 (by omega) (fun k hk => by cases hk; exact Nat.le_refl _)).grown hg9 (by omega) (fun k hk => by cases hk; exact Nat.le_refl _))⟩
def ofRegistersD : DataW Value := ((((((((((DataW.map []).put (.int .i64 28) (.held (.func (.func 146) #[] #[]))).put (.int .i64 29) (.held (.func (.func 147) #[] #[]))).put (.int .i64 30) (.held (.func (.func 149) #[] #[]))).put (.int .i64 31) (.held (.func (.func 150) #[] #[]))).put (.int .i64 32) (.held (.func (.func 151) #[] #[]))).put (.int .i64 33) (.held (.func (.func 152) #[] #[]))).put (.int .i64 34) (.held (.func (.func 153) #[] #[]))).put (.int .i64 35) (.held (.func (.func 154) #[] #[]))).put (.int .i64 36) (.held (.func (.func 155) #[] #[]))).put (.int .i64 37) (.held (.func (.func 156) #[] #[]))
theorem ofRegisters_at {w : World} {b : Nat} (h : w.ownsMap Tryz.prog 35 asHeld b 10 ofRegistersD) :
    (Instr.lookup 147 (.map (some b)) (.int .i64 28) false).run Tryz.prog w = .ok (.func (.func 146) #[] #[]) w ∧
    (Instr.lookup 147 (.map (some b)) (.int .i64 29) false).run Tryz.prog w = .ok (.func (.func 147) #[] #[]) w ∧
    (Instr.lookup 147 (.map (some b)) (.int .i64 30) false).run Tryz.prog w = .ok (.func (.func 149) #[] #[]) w ∧
    (Instr.lookup 147 (.map (some b)) (.int .i64 31) false).run Tryz.prog w = .ok (.func (.func 150) #[] #[]) w ∧
    (Instr.lookup 147 (.map (some b)) (.int .i64 32) false).run Tryz.prog w = .ok (.func (.func 151) #[] #[]) w ∧
    (Instr.lookup 147 (.map (some b)) (.int .i64 33) false).run Tryz.prog w = .ok (.func (.func 152) #[] #[]) w ∧
    (Instr.lookup 147 (.map (some b)) (.int .i64 34) false).run Tryz.prog w = .ok (.func (.func 153) #[] #[]) w ∧
    (Instr.lookup 147 (.map (some b)) (.int .i64 35) false).run Tryz.prog w = .ok (.func (.func 154) #[] #[]) w ∧
    (Instr.lookup 147 (.map (some b)) (.int .i64 36) false).run Tryz.prog w = .ok (.func (.func 155) #[] #[]) w ∧
    (Instr.lookup 147 (.map (some b)) (.int .i64 37) false).run Tryz.prog w = .ok (.func (.func 156) #[] #[]) w := by
  refine ⟨?_, ?_, ?_, ?_, ?_, ?_, ?_, ?_, ?_, ?_⟩
  · obtain ⟨v, ps, hrun, hv⟩ := h.lookup lawOp Tryz.underlying147 (z := .nilFunc) (by kernel_rfl) rfl (keyOf_int_mk Tryz.underlying35 (show (Lit.int .i64 28).wf = true by decide))
    rw [show ofRegistersD.atKey (.int .i64 28) _ = .held (.func (.func 146) #[] #[]) from rfl] at hv
    simp only [asHeld, Option.some.injEq, Prod.mk.injEq, DataW.held.injEq] at hv
    rw [hrun, hv.1]
  · obtain ⟨v, ps, hrun, hv⟩ := h.lookup lawOp Tryz.underlying147 (z := .nilFunc) (by kernel_rfl) rfl (keyOf_int_mk Tryz.underlying35 (show (Lit.int .i64 29).wf = true by decide))
    rw [show ofRegistersD.atKey (.int .i64 29) _ = .held (.func (.func 147) #[] #[]) from rfl] at hv
    simp only [asHeld, Option.some.injEq, Prod.mk.injEq, DataW.held.injEq] at hv
    rw [hrun, hv.1]
  · obtain ⟨v, ps, hrun, hv⟩ := h.lookup lawOp Tryz.underlying147 (z := .nilFunc) (by kernel_rfl) rfl (keyOf_int_mk Tryz.underlying35 (show (Lit.int .i64 30).wf = true by decide))
    rw [show ofRegistersD.atKey (.int .i64 30) _ = .held (.func (.func 149) #[] #[]) from rfl] at hv
    simp only [asHeld, Option.some.injEq, Prod.mk.injEq, DataW.held.injEq] at hv
    rw [hrun, hv.1]
  · obtain ⟨v, ps, hrun, hv⟩ := h.lookup lawOp Tryz.underlying147 (z := .nilFunc) (by kernel_rfl) rfl (keyOf_int_mk Tryz.underlying35 (show (Lit.int .i64 31).wf = true by decide))
    rw [show ofRegistersD.atKey (.int .i64 31) _ = .held (.func (.func 150) #[] #[]) from rfl] at hv
    simp only [asHeld, Option.some.injEq, Prod.mk.injEq, DataW.held.injEq] at hv
    rw [hrun, hv.1]
  · obtain ⟨v, ps, hrun, hv⟩ := h.lookup lawOp Tryz.underlying147 (z := .nilFunc) (by kernel_rfl) rfl (keyOf_int_mk Tryz.underlying35 (show (Lit.int .i64 32).wf = true by decide))
    rw [show ofRegistersD.atKey (.int .i64 32) _ = .held (.func (.func 151) #[] #[]) from rfl] at hv
    simp only [asHeld, Option.some.injEq, Prod.mk.injEq, DataW.held.injEq] at hv
    rw [hrun, hv.1]
  · obtain ⟨v, ps, hrun, hv⟩ := h.lookup lawOp Tryz.underlying147 (z := .nilFunc) (by kernel_rfl) rfl (keyOf_int_mk Tryz.underlying35 (show (Lit.int .i64 33).wf = true by decide))
    rw [show ofRegistersD.atKey (.int .i64 33) _ = .held (.func (.func 152) #[] #[]) from rfl] at hv
    simp only [asHeld, Option.some.injEq, Prod.mk.injEq, DataW.held.injEq] at hv
    rw [hrun, hv.1]
  · obtain ⟨v, ps, hrun, hv⟩ := h.lookup lawOp Tryz.underlying147 (z := .nilFunc) (by kernel_rfl) rfl (keyOf_int_mk Tryz.underlying35 (show (Lit.int .i64 34).wf = true by decide))
    rw [show ofRegistersD.atKey (.int .i64 34) _ = .held (.func (.func 153) #[] #[]) from rfl] at hv
    simp only [asHeld, Option.some.injEq, Prod.mk.injEq, DataW.held.injEq] at hv
    rw [hrun, hv.1]
  · obtain ⟨v, ps, hrun, hv⟩ := h.lookup lawOp Tryz.underlying147 (z := .nilFunc) (by kernel_rfl) rfl (keyOf_int_mk Tryz.underlying35 (show (Lit.int .i64 35).wf = true by decide))
    rw [show ofRegistersD.atKey (.int .i64 35) _ = .held (.func (.func 154) #[] #[]) from rfl] at hv
    simp only [asHeld, Option.some.injEq, Prod.mk.injEq, DataW.held.injEq] at hv
    rw [hrun, hv.1]
  · obtain ⟨v, ps, hrun, hv⟩ := h.lookup lawOp Tryz.underlying147 (z := .nilFunc) (by kernel_rfl) rfl (keyOf_int_mk Tryz.underlying35 (show (Lit.int .i64 36).wf = true by decide))
    rw [show ofRegistersD.atKey (.int .i64 36) _ = .held (.func (.func 155) #[] #[]) from rfl] at hv
    simp only [asHeld, Option.some.injEq, Prod.mk.injEq, DataW.held.injEq] at hv
    rw [hrun, hv.1]
  · obtain ⟨v, ps, hrun, hv⟩ := h.lookup lawOp Tryz.underlying147 (z := .nilFunc) (by kernel_rfl) rfl (keyOf_int_mk Tryz.underlying35 (show (Lit.int .i64 37).wf = true by decide))
    rw [show ofRegistersD.atKey (.int .i64 37) _ = .held (.func (.func 156) #[] #[]) from rfl] at hv
    simp only [asHeld, Option.some.injEq, Prod.mk.injEq, DataW.held.injEq] at hv
    rw [hrun, hv.1]
set_option maxHeartbeats 4000000 in
theorem ofRegisters_any (w : World) :
    Calls Tryz.prog 84 #[] w fun e w' => ∃ r, e = .returned (.map (some r)) ∧ w'.ownsMap Tryz.prog 35 asHeld r 10 ofRegistersD ∧ Below w.heap.size w w' := by
  have hmm := @run_makeMap Tryz.prog
  go_enter Tryz.func84, Tryz.ntmps84
  go_wp2_with (first
    | (refine wpList_insert_own (H := Value) _ rfl _ _ _ 147 rfl 35 115 lawOp Tryz.underlying147 asHeld w.heap.size 0 (.map []) rfl (World.ownsMap_made w _ _ _) (by unfold maxLen; omega) (.int .i64 28) (.func (.func 146) #[] #[]) (.int .i64 28) rfl rfl (keyOf_int_mk Tryz.underlying35 (by decide)) (.held (.func (.func 146) #[] #[])) [] rfl ?_; intro w1 hown1 hg1)
    | (refine wpList_insert_own (H := Value) _ rfl _ _ _ 147 rfl 35 115 lawOp Tryz.underlying147 asHeld w.heap.size 1 _ rfl hown1 (by unfold maxLen; omega) (.int .i64 29) (.func (.func 147) #[] #[]) (.int .i64 29) rfl rfl (keyOf_int_mk Tryz.underlying35 (by decide)) (.held (.func (.func 147) #[] #[])) [] rfl ?_; intro w2 hown2 hg2)
    | (refine wpList_insert_own (H := Value) _ rfl _ _ _ 147 rfl 35 115 lawOp Tryz.underlying147 asHeld w.heap.size 2 _ rfl hown2 (by unfold maxLen; omega) (.int .i64 30) (.func (.func 149) #[] #[]) (.int .i64 30) rfl rfl (keyOf_int_mk Tryz.underlying35 (by decide)) (.held (.func (.func 149) #[] #[])) [] rfl ?_; intro w3 hown3 hg3)
    | (refine wpList_insert_own (H := Value) _ rfl _ _ _ 147 rfl 35 115 lawOp Tryz.underlying147 asHeld w.heap.size 3 _ rfl hown3 (by unfold maxLen; omega) (.int .i64 31) (.func (.func 150) #[] #[]) (.int .i64 31) rfl rfl (keyOf_int_mk Tryz.underlying35 (by decide)) (.held (.func (.func 150) #[] #[])) [] rfl ?_; intro w4 hown4 hg4)
    | (refine wpList_insert_own (H := Value) _ rfl _ _ _ 147 rfl 35 115 lawOp Tryz.underlying147 asHeld w.heap.size 4 _ rfl hown4 (by unfold maxLen; omega) (.int .i64 32) (.func (.func 151) #[] #[]) (.int .i64 32) rfl rfl (keyOf_int_mk Tryz.underlying35 (by decide)) (.held (.func (.func 151) #[] #[])) [] rfl ?_; intro w5 hown5 hg5)
    | (refine wpList_insert_own (H := Value) _ rfl _ _ _ 147 rfl 35 115 lawOp Tryz.underlying147 asHeld w.heap.size 5 _ rfl hown5 (by unfold maxLen; omega) (.int .i64 33) (.func (.func 152) #[] #[]) (.int .i64 33) rfl rfl (keyOf_int_mk Tryz.underlying35 (by decide)) (.held (.func (.func 152) #[] #[])) [] rfl ?_; intro w6 hown6 hg6)
    | (refine wpList_insert_own (H := Value) _ rfl _ _ _ 147 rfl 35 115 lawOp Tryz.underlying147 asHeld w.heap.size 6 _ rfl hown6 (by unfold maxLen; omega) (.int .i64 34) (.func (.func 153) #[] #[]) (.int .i64 34) rfl rfl (keyOf_int_mk Tryz.underlying35 (by decide)) (.held (.func (.func 153) #[] #[])) [] rfl ?_; intro w7 hown7 hg7)
    | (refine wpList_insert_own (H := Value) _ rfl _ _ _ 147 rfl 35 115 lawOp Tryz.underlying147 asHeld w.heap.size 7 _ rfl hown7 (by unfold maxLen; omega) (.int .i64 35) (.func (.func 154) #[] #[]) (.int .i64 35) rfl rfl (keyOf_int_mk Tryz.underlying35 (by decide)) (.held (.func (.func 154) #[] #[])) [] rfl ?_; intro w8 hown8 hg8)
    | (refine wpList_insert_own (H := Value) _ rfl _ _ _ 147 rfl 35 115 lawOp Tryz.underlying147 asHeld w.heap.size 8 _ rfl hown8 (by unfold maxLen; omega) (.int .i64 36) (.func (.func 155) #[] #[]) (.int .i64 36) rfl rfl (keyOf_int_mk Tryz.underlying35 (by decide)) (.held (.func (.func 155) #[] #[])) [] rfl ?_; intro w9 hown9 hg9)
    | (refine wpList_insert_own (H := Value) _ rfl _ _ _ 147 rfl 35 115 lawOp Tryz.underlying147 asHeld w.heap.size 9 _ rfl hown9 (by unfold maxLen; omega) (.int .i64 37) (.func (.func 156) #[] #[]) (.int .i64 37) rfl rfl (keyOf_int_mk Tryz.underlying35 (by decide)) (.held (.func (.func 156) #[] #[])) [] rfl ?_; intro w10 hown10 hg10))
  go_ret
  have h0 : (w.alloc (Obj.map #[] 0)).heap.size = w.heap.size + 1 := by simp
  have h1 := hg1.size
  have h2 := hg2.size
  have h3 := hg3.size
  have h4 := hg4.size
  have h5 := hg5.size
  have h6 := hg6.size
  have h7 := hg7.size
  have h8 := hg8.size
  have h9 := hg9.size
  have h10 := hg10.size
  exact ⟨_, rfl, hown10, ((((((((((((Below.refl _ _).alloc (Nat.le_refl _) _).grown hg1 (by omega) (fun k hk => by cases hk; exact Nat.le_refl _)).grown hg2 (by omega) (fun k hk => by cases hk; exact Nat.le_refl _)).grown hg3 (by omega) (fun k hk => by cases hk; exact Nat.le_refl _)).grown hg4 (by omega) (fun k hk => by cases hk; exact Nat.le_refl _)).grown hg5 (by omega) (fun k hk => by cases hk; exact Nat.le_refl _)).grown hg6 (by omega) (fun k hk => by cases hk; exact Nat.le_refl _)).grown hg7 (by omega) (fun k hk => by cases hk; exact Nat.le_refl _)).grown hg8 (by omega) (fun k hk => by cases hk; exact Nat.le_refl _)).grown hg9 (by omega) (fun k hk => by cases hk; exact Nat.le_refl _)).grown hg10 (by omega) (fun k hk => by cases hk; exact Nat.le_refl _))⟩
def productsD : DataW Value := ((((((((DataW.map []).put (.int .i64 40) (.held (.func (.func 157) #[] #[]))).put (.int .i64 41) (.held (.func (.func 159) #[] #[]))).put (.int .i64 42) (.held (.func (.func 161) #[] #[]))).put (.int .i64 43) (.held (.func (.func 163) #[] #[]))).put (.int .i64 44) (.held (.func (.func 165) #[] #[]))).put (.int .i64 45) (.held (.func (.func 167) #[] #[]))).put (.int .i64 46) (.held (.func (.func 169) #[] #[]))).put (.int .i64 47) (.held (.func (.func 171) #[] #[]))
theorem products_at {w : World} {b : Nat} (h : w.ownsMap Tryz.prog 35 asHeld b 8 productsD) :
    (Instr.lookup 147 (.map (some b)) (.int .i64 40) false).run Tryz.prog w = .ok (.func (.func 157) #[] #[]) w ∧
    (Instr.lookup 147 (.map (some b)) (.int .i64 41) false).run Tryz.prog w = .ok (.func (.func 159) #[] #[]) w ∧
    (Instr.lookup 147 (.map (some b)) (.int .i64 42) false).run Tryz.prog w = .ok (.func (.func 161) #[] #[]) w ∧
    (Instr.lookup 147 (.map (some b)) (.int .i64 43) false).run Tryz.prog w = .ok (.func (.func 163) #[] #[]) w ∧
    (Instr.lookup 147 (.map (some b)) (.int .i64 44) false).run Tryz.prog w = .ok (.func (.func 165) #[] #[]) w ∧
    (Instr.lookup 147 (.map (some b)) (.int .i64 45) false).run Tryz.prog w = .ok (.func (.func 167) #[] #[]) w ∧
    (Instr.lookup 147 (.map (some b)) (.int .i64 46) false).run Tryz.prog w = .ok (.func (.func 169) #[] #[]) w ∧
    (Instr.lookup 147 (.map (some b)) (.int .i64 47) false).run Tryz.prog w = .ok (.func (.func 171) #[] #[]) w := by
  refine ⟨?_, ?_, ?_, ?_, ?_, ?_, ?_, ?_⟩
  · obtain ⟨v, ps, hrun, hv⟩ := h.lookup lawOp Tryz.underlying147 (z := .nilFunc) (by kernel_rfl) rfl (keyOf_int_mk Tryz.underlying35 (show (Lit.int .i64 40).wf = true by decide))
    rw [show productsD.atKey (.int .i64 40) _ = .held (.func (.func 157) #[] #[]) from rfl] at hv
    simp only [asHeld, Option.some.injEq, Prod.mk.injEq, DataW.held.injEq] at hv
    rw [hrun, hv.1]
  · obtain ⟨v, ps, hrun, hv⟩ := h.lookup lawOp Tryz.underlying147 (z := .nilFunc) (by kernel_rfl) rfl (keyOf_int_mk Tryz.underlying35 (show (Lit.int .i64 41).wf = true by decide))
    rw [show productsD.atKey (.int .i64 41) _ = .held (.func (.func 159) #[] #[]) from rfl] at hv
    simp only [asHeld, Option.some.injEq, Prod.mk.injEq, DataW.held.injEq] at hv
    rw [hrun, hv.1]
  · obtain ⟨v, ps, hrun, hv⟩ := h.lookup lawOp Tryz.underlying147 (z := .nilFunc) (by kernel_rfl) rfl (keyOf_int_mk Tryz.underlying35 (show (Lit.int .i64 42).wf = true by decide))
    rw [show productsD.atKey (.int .i64 42) _ = .held (.func (.func 161) #[] #[]) from rfl] at hv
    simp only [asHeld, Option.some.injEq, Prod.mk.injEq, DataW.held.injEq] at hv
    rw [hrun, hv.1]
  · obtain ⟨v, ps, hrun, hv⟩ := h.lookup lawOp Tryz.underlying147 (z := .nilFunc) (by kernel_rfl) rfl (keyOf_int_mk Tryz.underlying35 (show (Lit.int .i64 43).wf = true by decide))
    rw [show productsD.atKey (.int .i64 43) _ = .held (.func (.func 163) #[] #[]) from rfl] at hv
    simp only [asHeld, Option.some.injEq, Prod.mk.injEq, DataW.held.injEq] at hv
    rw [hrun, hv.1]
  · obtain ⟨v, ps, hrun, hv⟩ := h.lookup lawOp Tryz.underlying147 (z := .nilFunc) (by kernel_rfl) rfl (keyOf_int_mk Tryz.underlying35 (show (Lit.int .i64 44).wf = true by decide))
    rw [show productsD.atKey (.int .i64 44) _ = .held (.func (.func 165) #[] #[]) from rfl] at hv
    simp only [asHeld, Option.some.injEq, Prod.mk.injEq, DataW.held.injEq] at hv
    rw [hrun, hv.1]
  · obtain ⟨v, ps, hrun, hv⟩ := h.lookup lawOp Tryz.underlying147 (z := .nilFunc) (by kernel_rfl) rfl (keyOf_int_mk Tryz.underlying35 (show (Lit.int .i64 45).wf = true by decide))
    rw [show productsD.atKey (.int .i64 45) _ = .held (.func (.func 167) #[] #[]) from rfl] at hv
    simp only [asHeld, Option.some.injEq, Prod.mk.injEq, DataW.held.injEq] at hv
    rw [hrun, hv.1]
  · obtain ⟨v, ps, hrun, hv⟩ := h.lookup lawOp Tryz.underlying147 (z := .nilFunc) (by kernel_rfl) rfl (keyOf_int_mk Tryz.underlying35 (show (Lit.int .i64 46).wf = true by decide))
    rw [show productsD.atKey (.int .i64 46) _ = .held (.func (.func 169) #[] #[]) from rfl] at hv
    simp only [asHeld, Option.some.injEq, Prod.mk.injEq, DataW.held.injEq] at hv
    rw [hrun, hv.1]
  · obtain ⟨v, ps, hrun, hv⟩ := h.lookup lawOp Tryz.underlying147 (z := .nilFunc) (by kernel_rfl) rfl (keyOf_int_mk Tryz.underlying35 (show (Lit.int .i64 47).wf = true by decide))
    rw [show productsD.atKey (.int .i64 47) _ = .held (.func (.func 171) #[] #[]) from rfl] at hv
    simp only [asHeld, Option.some.injEq, Prod.mk.injEq, DataW.held.injEq] at hv
    rw [hrun, hv.1]
set_option maxHeartbeats 4000000 in
theorem products_any (w : World) :
    Calls Tryz.prog 85 #[] w fun e w' => ∃ r, e = .returned (.map (some r)) ∧ w'.ownsMap Tryz.prog 35 asHeld r 8 productsD ∧ Below w.heap.size w w' := by
  have hmm := @run_makeMap Tryz.prog
  go_enter Tryz.func85, Tryz.ntmps85
  go_wp2_with (first
    | (refine wpList_insert_own (H := Value) _ rfl _ _ _ 147 rfl 35 115 lawOp Tryz.underlying147 asHeld w.heap.size 0 (.map []) rfl (World.ownsMap_made w _ _ _) (by unfold maxLen; omega) (.int .i64 40) (.func (.func 157) #[] #[]) (.int .i64 40) rfl rfl (keyOf_int_mk Tryz.underlying35 (by decide)) (.held (.func (.func 157) #[] #[])) [] rfl ?_; intro w1 hown1 hg1)
    | (refine wpList_insert_own (H := Value) _ rfl _ _ _ 147 rfl 35 115 lawOp Tryz.underlying147 asHeld w.heap.size 1 _ rfl hown1 (by unfold maxLen; omega) (.int .i64 41) (.func (.func 159) #[] #[]) (.int .i64 41) rfl rfl (keyOf_int_mk Tryz.underlying35 (by decide)) (.held (.func (.func 159) #[] #[])) [] rfl ?_; intro w2 hown2 hg2)
    | (refine wpList_insert_own (H := Value) _ rfl _ _ _ 147 rfl 35 115 lawOp Tryz.underlying147 asHeld w.heap.size 2 _ rfl hown2 (by unfold maxLen; omega) (.int .i64 42) (.func (.func 161) #[] #[]) (.int .i64 42) rfl rfl (keyOf_int_mk Tryz.underlying35 (by decide)) (.held (.func (.func 161) #[] #[])) [] rfl ?_; intro w3 hown3 hg3)
    | (refine wpList_insert_own (H := Value) _ rfl _ _ _ 147 rfl 35 115 lawOp Tryz.underlying147 asHeld w.heap.size 3 _ rfl hown3 (by unfold maxLen; omega) (.int .i64 43) (.func (.func 163) #[] #[]) (.int .i64 43) rfl rfl (keyOf_int_mk Tryz.underlying35 (by decide)) (.held (.func (.func 163) #[] #[])) [] rfl ?_; intro w4 hown4 hg4)
    | (refine wpList_insert_own (H := Value) _ rfl _ _ _ 147 rfl 35 115 lawOp Tryz.underlying147 asHeld w.heap.size 4 _ rfl hown4 (by unfold maxLen; omega) (.int .i64 44) (.func (.func 165) #[] #[]) (.int .i64 44) rfl rfl (keyOf_int_mk Tryz.underlying35 (by decide)) (.held (.func (.func 165) #[] #[])) [] rfl ?_; intro w5 hown5 hg5)
    | (refine wpList_insert_own (H := Value) _ rfl _ _ _ 147 rfl 35 115 lawOp Tryz.underlying147 asHeld w.heap.size 5 _ rfl hown5 (by unfold maxLen; omega) (.int .i64 45) (.func (.func 167) #[] #[]) (.int .i64 45) rfl rfl (keyOf_int_mk Tryz.underlying35 (by decide)) (.held (.func (.func 167) #[] #[])) [] rfl ?_; intro w6 hown6 hg6)
    | (refine wpList_insert_own (H := Value) _ rfl _ _ _ 147 rfl 35 115 lawOp Tryz.underlying147 asHeld w.heap.size 6 _ rfl hown6 (by unfold maxLen; omega) (.int .i64 46) (.func (.func 169) #[] #[]) (.int .i64 46) rfl rfl (keyOf_int_mk Tryz.underlying35 (by decide)) (.held (.func (.func 169) #[] #[])) [] rfl ?_; intro w7 hown7 hg7)
    | (refine wpList_insert_own (H := Value) _ rfl _ _ _ 147 rfl 35 115 lawOp Tryz.underlying147 asHeld w.heap.size 7 _ rfl hown7 (by unfold maxLen; omega) (.int .i64 47) (.func (.func 171) #[] #[]) (.int .i64 47) rfl rfl (keyOf_int_mk Tryz.underlying35 (by decide)) (.held (.func (.func 171) #[] #[])) [] rfl ?_; intro w8 hown8 hg8))
  go_ret
  have h0 : (w.alloc (Obj.map #[] 0)).heap.size = w.heap.size + 1 := by simp
  have h1 := hg1.size
  have h2 := hg2.size
  have h3 := hg3.size
  have h4 := hg4.size
  have h5 := hg5.size
  have h6 := hg6.size
  have h7 := hg7.size
  have h8 := hg8.size
  exact ⟨_, rfl, hown8, ((((((((((Below.refl _ _).alloc (Nat.le_refl _) _).grown hg1 (by omega) (fun k hk => by cases hk; exact Nat.le_refl _)).grown hg2 (by omega) (fun k hk => by cases hk; exact Nat.le_refl _)).grown hg3 (by omega) (fun k hk => by cases hk; exact Nat.le_refl _)).grown hg4 (by omega) (fun k hk => by cases hk; exact Nat.le_refl _)).grown hg5 (by omega) (fun k hk => by cases hk; exact Nat.le_refl _)).grown hg6 (by omega) (fun k hk => by cases hk; exact Nat.le_refl _)).grown hg7 (by omega) (fun k hk => by cases hk; exact Nat.le_refl _)).grown hg8 (by omega) (fun k hk => by cases hk; exact Nat.le_refl _))⟩
end Go.Proofs.YtianojbdabeoeaaGreatDoor
end

section
namespace Go.Proofs.YtianojbdabeoeaaGreatDoor
open Go.RowKit Go.Maps
set_option linter.unusedVariables false
theorem mo1 (w : World) : Calls Tryz.prog 54 #[.int .i64 1] w fun e w' => e = .returned (.func (.func 173) #[] #[]) ∧ Below w.heap.size w w' := by
  go_enter Tryz.func54, Tryz.ntmps54
  go_wp2_with fail
  refine (others_any _).mono ?_
  rintro e w1 ⟨r, rfl, hown, hb⟩
  have hl := (others_at hown).1
  have HB := Lib.hid hb; clear hown hb
  go_wp2
  go_ret
  exact ⟨rfl, HB.out⟩
theorem mo2 (w : World) : Calls Tryz.prog 54 #[.int .i64 2] w fun e w' => e = .returned (.func (.func 174) #[] #[]) ∧ Below w.heap.size w w' := by
  go_enter Tryz.func54, Tryz.ntmps54
  go_wp2_with fail
  refine (others_any _).mono ?_
  rintro e w1 ⟨r, rfl, hown, hb⟩
  have hl := (others_at hown).2.1
  have HB := Lib.hid hb; clear hown hb
  go_wp2
  go_ret
  exact ⟨rfl, HB.out⟩
theorem mo3 (w : World) : Calls Tryz.prog 54 #[.int .i64 3] w fun e w' => e = .returned (.func (.func 106) #[] #[]) ∧ Below w.heap.size w w' := by
  go_enter Tryz.func54, Tryz.ntmps54
  go_wp2_with fail
  refine (jumps_any _).mono ?_
  rintro e w1 ⟨r, rfl, hown, hb⟩
  have hl := (jumps_at hown).1
  have HB := Lib.hid hb; clear hown hb
  go_wp2
  go_ret
  exact ⟨rfl, HB.out⟩
theorem mo4 (w : World) : Calls Tryz.prog 54 #[.int .i64 4] w fun e w' => e = .returned (.func (.func 109) #[] #[]) ∧ Below w.heap.size w w' := by
  go_enter Tryz.func54, Tryz.ntmps54
  go_wp2_with fail
  refine (jumps_any _).mono ?_
  rintro e w1 ⟨r, rfl, hown, hb⟩
  have hl := (jumps_at hown).2.1
  have HB := Lib.hid hb; clear hown hb
  go_wp2
  go_ret
  exact ⟨rfl, HB.out⟩
theorem mo5 (w : World) : Calls Tryz.prog 54 #[.int .i64 5] w fun e w' => e = .returned (.func (.func 111) #[] #[]) ∧ Below w.heap.size w w' := by
  go_enter Tryz.func54, Tryz.ntmps54
  go_wp2_with fail
  refine (jumps_any _).mono ?_
  rintro e w1 ⟨r, rfl, hown, hb⟩
  have hl := (jumps_at hown).2.2.1
  have HB := Lib.hid hb; clear hown hb
  go_wp2
  go_ret
  exact ⟨rfl, HB.out⟩
theorem mo6 (w : World) : Calls Tryz.prog 54 #[.int .i64 6] w fun e w' => e = .returned (.func (.func 114) #[] #[]) ∧ Below w.heap.size w w' := by
  go_enter Tryz.func54, Tryz.ntmps54
  go_wp2_with fail
  refine (jumps_any _).mono ?_
  rintro e w1 ⟨r, rfl, hown, hb⟩
  have hl := (jumps_at hown).2.2.2.1
  have HB := Lib.hid hb; clear hown hb
  go_wp2
  go_ret
  exact ⟨rfl, HB.out⟩
theorem mo7 (w : World) : Calls Tryz.prog 54 #[.int .i64 7] w fun e w' => e = .returned (.func (.func 115) #[] #[]) ∧ Below w.heap.size w w' := by
  go_enter Tryz.func54, Tryz.ntmps54
  go_wp2_with fail
  refine (jumps_any _).mono ?_
  rintro e w1 ⟨r, rfl, hown, hb⟩
  have hl := (jumps_at hown).2.2.2.2.1
  have HB := Lib.hid hb; clear hown hb
  go_wp2
  go_ret
  exact ⟨rfl, HB.out⟩
theorem mo8 (w : World) : Calls Tryz.prog 54 #[.int .i64 8] w fun e w' => e = .returned (.func (.func 117) #[] #[]) ∧ Below w.heap.size w w' := by
  go_enter Tryz.func54, Tryz.ntmps54
  go_wp2_with fail
  refine (jumps_any _).mono ?_
  rintro e w1 ⟨r, rfl, hown, hb⟩
  have hl := (jumps_at hown).2.2.2.2.2.1
  have HB := Lib.hid hb; clear hown hb
  go_wp2
  go_ret
  exact ⟨rfl, HB.out⟩
theorem mo9 (w : World) : Calls Tryz.prog 54 #[.int .i64 9] w fun e w' => e = .returned (.func (.func 118) #[] #[]) ∧ Below w.heap.size w w' := by
  go_enter Tryz.func54, Tryz.ntmps54
  go_wp2_with fail
  refine (jumps_any _).mono ?_
  rintro e w1 ⟨r, rfl, hown, hb⟩
  have hl := (jumps_at hown).2.2.2.2.2.2.1
  have HB := Lib.hid hb; clear hown hb
  go_wp2
  go_ret
  exact ⟨rfl, HB.out⟩
theorem mo10 (w : World) : Calls Tryz.prog 54 #[.int .i64 10] w fun e w' => e = .returned (.func (.func 120) #[] #[]) ∧ Below w.heap.size w w' := by
  go_enter Tryz.func54, Tryz.ntmps54
  go_wp2_with fail
  refine (jumps_any _).mono ?_
  rintro e w1 ⟨r, rfl, hown, hb⟩
  have hl := (jumps_at hown).2.2.2.2.2.2.2
  have HB := Lib.hid hb; clear hown hb
  go_wp2
  go_ret
  exact ⟨rfl, HB.out⟩
theorem mo11 (w : World) : Calls Tryz.prog 54 #[.int .i64 11] w fun e w' => e = .returned (.func (.func 121) #[] #[]) ∧ Below w.heap.size w w' := by
  go_enter Tryz.func54, Tryz.ntmps54
  go_wp2_with fail
  refine (accesses_any _).mono ?_
  rintro e w1 ⟨r, rfl, hown, hb⟩
  have hl := (accesses_at hown).1
  have HB := Lib.hid hb; clear hown hb
  go_wp2
  go_ret
  exact ⟨rfl, HB.out⟩
theorem mo12 (w : World) : Calls Tryz.prog 54 #[.int .i64 12] w fun e w' => e = .returned (.func (.func 124) #[] #[]) ∧ Below w.heap.size w w' := by
  go_enter Tryz.func54, Tryz.ntmps54
  go_wp2_with fail
  refine (accesses_any _).mono ?_
  rintro e w1 ⟨r, rfl, hown, hb⟩
  have hl := (accesses_at hown).2.1
  have HB := Lib.hid hb; clear hown hb
  go_wp2
  go_ret
  exact ⟨rfl, HB.out⟩
theorem mo13 (w : World) : Calls Tryz.prog 54 #[.int .i64 13] w fun e w' => e = .returned (.func (.func 125) #[] #[]) ∧ Below w.heap.size w w' := by
  go_enter Tryz.func54, Tryz.ntmps54
  go_wp2_with fail
  refine (accesses_any _).mono ?_
  rintro e w1 ⟨r, rfl, hown, hb⟩
  have hl := (accesses_at hown).2.2.1
  have HB := Lib.hid hb; clear hown hb
  go_wp2
  go_ret
  exact ⟨rfl, HB.out⟩
theorem mo14 (w : World) : Calls Tryz.prog 54 #[.int .i64 14] w fun e w' => e = .returned (.func (.func 126) #[] #[]) ∧ Below w.heap.size w w' := by
  go_enter Tryz.func54, Tryz.ntmps54
  go_wp2_with fail
  refine (accesses_any _).mono ?_
  rintro e w1 ⟨r, rfl, hown, hb⟩
  have hl := (accesses_at hown).2.2.2.1
  have HB := Lib.hid hb; clear hown hb
  go_wp2
  go_ret
  exact ⟨rfl, HB.out⟩
theorem mo15 (w : World) : Calls Tryz.prog 54 #[.int .i64 15] w fun e w' => e = .returned (.func (.func 127) #[] #[]) ∧ Below w.heap.size w w' := by
  go_enter Tryz.func54, Tryz.ntmps54
  go_wp2_with fail
  refine (accesses_any _).mono ?_
  rintro e w1 ⟨r, rfl, hown, hb⟩
  have hl := (accesses_at hown).2.2.2.2.1
  have HB := Lib.hid hb; clear hown hb
  go_wp2
  go_ret
  exact ⟨rfl, HB.out⟩
theorem mo16 (w : World) : Calls Tryz.prog 54 #[.int .i64 16] w fun e w' => e = .returned (.func (.func 128) #[] #[]) ∧ Below w.heap.size w w' := by
  go_enter Tryz.func54, Tryz.ntmps54
  go_wp2_with fail
  refine (accesses_any _).mono ?_
  rintro e w1 ⟨r, rfl, hown, hb⟩
  have hl := (accesses_at hown).2.2.2.2.2.1
  have HB := Lib.hid hb; clear hown hb
  go_wp2
  go_ret
  exact ⟨rfl, HB.out⟩
theorem mo17 (w : World) : Calls Tryz.prog 54 #[.int .i64 17] w fun e w' => e = .returned (.func (.func 130) #[] #[]) ∧ Below w.heap.size w w' := by
  go_enter Tryz.func54, Tryz.ntmps54
  go_wp2_with fail
  refine (accesses_any _).mono ?_
  rintro e w1 ⟨r, rfl, hown, hb⟩
  have hl := (accesses_at hown).2.2.2.2.2.2.1
  have HB := Lib.hid hb; clear hown hb
  go_wp2
  go_ret
  exact ⟨rfl, HB.out⟩
theorem mo18 (w : World) : Calls Tryz.prog 54 #[.int .i64 18] w fun e w' => e = .returned (.func (.func 131) #[] #[]) ∧ Below w.heap.size w w' := by
  go_enter Tryz.func54, Tryz.ntmps54
  go_wp2_with fail
  refine (accesses_any _).mono ?_
  rintro e w1 ⟨r, rfl, hown, hb⟩
  have hl := (accesses_at hown).2.2.2.2.2.2.2
  have HB := Lib.hid hb; clear hown hb
  go_wp2
  go_ret
  exact ⟨rfl, HB.out⟩
theorem mo19 (w : World) : Calls Tryz.prog 54 #[.int .i64 19] w fun e w' => e = .returned (.func (.func 132) #[] #[]) ∧ Below w.heap.size w w' := by
  go_enter Tryz.func54, Tryz.ntmps54
  go_wp2_with fail
  refine (withImms_any _).mono ?_
  rintro e w1 ⟨r, rfl, hown, hb⟩
  have hl := (withImms_at hown).1
  have HB := Lib.hid hb; clear hown hb
  go_wp2
  go_ret
  exact ⟨rfl, HB.out⟩
end Go.Proofs.YtianojbdabeoeaaGreatDoor
end

section
namespace Go.Proofs.YtianojbdabeoeaaGreatDoor
open Go.RowKit Go.Maps
set_option linter.unusedVariables false
theorem mo20 (w : World) : Calls Tryz.prog 54 #[.int .i64 20] w fun e w' => e = .returned (.func (.func 134) #[] #[]) ∧ Below w.heap.size w w' := by
  go_enter Tryz.func54, Tryz.ntmps54
  go_wp2_with fail
  refine (withImms_any _).mono ?_
  rintro e w1 ⟨r, rfl, hown, hb⟩
  have hl := (withImms_at hown).2.1
  have HB := Lib.hid hb; clear hown hb
  go_wp2
  go_ret
  exact ⟨rfl, HB.out⟩
theorem mo21 (w : World) : Calls Tryz.prog 54 #[.int .i64 21] w fun e w' => e = .returned (.func (.func 136) #[] #[]) ∧ Below w.heap.size w w' := by
  go_enter Tryz.func54, Tryz.ntmps54
  go_wp2_with fail
  refine (withImms_any _).mono ?_
  rintro e w1 ⟨r, rfl, hown, hb⟩
  have hl := (withImms_at hown).2.2.1
  have HB := Lib.hid hb; clear hown hb
  go_wp2
  go_ret
  exact ⟨rfl, HB.out⟩
theorem mo22 (w : World) : Calls Tryz.prog 54 #[.int .i64 22] w fun e w' => e = .returned (.func (.func 137) #[] #[]) ∧ Below w.heap.size w w' := by
  go_enter Tryz.func54, Tryz.ntmps54
  go_wp2_with fail
  refine (withImms_any _).mono ?_
  rintro e w1 ⟨r, rfl, hown, hb⟩
  have hl := (withImms_at hown).2.2.2.1
  have HB := Lib.hid hb; clear hown hb
  go_wp2
  go_ret
  exact ⟨rfl, HB.out⟩
theorem mo23 (w : World) : Calls Tryz.prog 54 #[.int .i64 23] w fun e w' => e = .returned (.func (.func 138) #[] #[]) ∧ Below w.heap.size w w' := by
  go_enter Tryz.func54, Tryz.ntmps54
  go_wp2_with fail
  refine (withImms_any _).mono ?_
  rintro e w1 ⟨r, rfl, hown, hb⟩
  have hl := (withImms_at hown).2.2.2.2.1
  have HB := Lib.hid hb; clear hown hb
  go_wp2
  go_ret
  exact ⟨rfl, HB.out⟩
theorem mo24 (w : World) : Calls Tryz.prog 54 #[.int .i64 24] w fun e w' => e = .returned (.func (.func 139) #[] #[]) ∧ Below w.heap.size w w' := by
  go_enter Tryz.func54, Tryz.ntmps54
  go_wp2_with fail
  refine (withImms_any _).mono ?_
  rintro e w1 ⟨r, rfl, hown, hb⟩
  have hl := (withImms_at hown).2.2.2.2.2.1
  have HB := Lib.hid hb; clear hown hb
  go_wp2
  go_ret
  exact ⟨rfl, HB.out⟩
theorem mo25 (w : World) : Calls Tryz.prog 54 #[.int .i64 25] w fun e w' => e = .returned (.func (.func 140) #[] #[]) ∧ Below w.heap.size w w' := by
  go_enter Tryz.func54, Tryz.ntmps54
  go_wp2_with fail
  refine (withImms_any _).mono ?_
  rintro e w1 ⟨r, rfl, hown, hb⟩
  have hl := (withImms_at hown).2.2.2.2.2.2.1
  have HB := Lib.hid hb; clear hown hb
  go_wp2
  go_ret
  exact ⟨rfl, HB.out⟩
theorem mo26 (w : World) : Calls Tryz.prog 54 #[.int .i64 26] w fun e w' => e = .returned (.func (.func 142) #[] #[]) ∧ Below w.heap.size w w' := by
  go_enter Tryz.func54, Tryz.ntmps54
  go_wp2_with fail
  refine (withImms_any _).mono ?_
  rintro e w1 ⟨r, rfl, hown, hb⟩
  have hl := (withImms_at hown).2.2.2.2.2.2.2.1
  have HB := Lib.hid hb; clear hown hb
  go_wp2
  go_ret
  exact ⟨rfl, HB.out⟩
theorem mo27 (w : World) : Calls Tryz.prog 54 #[.int .i64 27] w fun e w' => e = .returned (.func (.func 144) #[] #[]) ∧ Below w.heap.size w w' := by
  go_enter Tryz.func54, Tryz.ntmps54
  go_wp2_with fail
  refine (withImms_any _).mono ?_
  rintro e w1 ⟨r, rfl, hown, hb⟩
  have hl := (withImms_at hown).2.2.2.2.2.2.2.2
  have HB := Lib.hid hb; clear hown hb
  go_wp2
  go_ret
  exact ⟨rfl, HB.out⟩
theorem mo28 (w : World) : Calls Tryz.prog 54 #[.int .i64 28] w fun e w' => e = .returned (.func (.func 146) #[] #[]) ∧ Below w.heap.size w w' := by
  go_enter Tryz.func54, Tryz.ntmps54
  go_wp2_with fail
  refine (ofRegisters_any _).mono ?_
  rintro e w1 ⟨r, rfl, hown, hb⟩
  have hl := (ofRegisters_at hown).1
  have HB := Lib.hid hb; clear hown hb
  go_wp2
  go_ret
  exact ⟨rfl, HB.out⟩
theorem mo29 (w : World) : Calls Tryz.prog 54 #[.int .i64 29] w fun e w' => e = .returned (.func (.func 147) #[] #[]) ∧ Below w.heap.size w w' := by
  go_enter Tryz.func54, Tryz.ntmps54
  go_wp2_with fail
  refine (ofRegisters_any _).mono ?_
  rintro e w1 ⟨r, rfl, hown, hb⟩
  have hl := (ofRegisters_at hown).2.1
  have HB := Lib.hid hb; clear hown hb
  go_wp2
  go_ret
  exact ⟨rfl, HB.out⟩
theorem mo30 (w : World) : Calls Tryz.prog 54 #[.int .i64 30] w fun e w' => e = .returned (.func (.func 149) #[] #[]) ∧ Below w.heap.size w w' := by
  go_enter Tryz.func54, Tryz.ntmps54
  go_wp2_with fail
  refine (ofRegisters_any _).mono ?_
  rintro e w1 ⟨r, rfl, hown, hb⟩
  have hl := (ofRegisters_at hown).2.2.1
  have HB := Lib.hid hb; clear hown hb
  go_wp2
  go_ret
  exact ⟨rfl, HB.out⟩
theorem mo31 (w : World) : Calls Tryz.prog 54 #[.int .i64 31] w fun e w' => e = .returned (.func (.func 150) #[] #[]) ∧ Below w.heap.size w w' := by
  go_enter Tryz.func54, Tryz.ntmps54
  go_wp2_with fail
  refine (ofRegisters_any _).mono ?_
  rintro e w1 ⟨r, rfl, hown, hb⟩
  have hl := (ofRegisters_at hown).2.2.2.1
  have HB := Lib.hid hb; clear hown hb
  go_wp2
  go_ret
  exact ⟨rfl, HB.out⟩
theorem mo32 (w : World) : Calls Tryz.prog 54 #[.int .i64 32] w fun e w' => e = .returned (.func (.func 151) #[] #[]) ∧ Below w.heap.size w w' := by
  go_enter Tryz.func54, Tryz.ntmps54
  go_wp2_with fail
  refine (ofRegisters_any _).mono ?_
  rintro e w1 ⟨r, rfl, hown, hb⟩
  have hl := (ofRegisters_at hown).2.2.2.2.1
  have HB := Lib.hid hb; clear hown hb
  go_wp2
  go_ret
  exact ⟨rfl, HB.out⟩
theorem mo33 (w : World) : Calls Tryz.prog 54 #[.int .i64 33] w fun e w' => e = .returned (.func (.func 152) #[] #[]) ∧ Below w.heap.size w w' := by
  go_enter Tryz.func54, Tryz.ntmps54
  go_wp2_with fail
  refine (ofRegisters_any _).mono ?_
  rintro e w1 ⟨r, rfl, hown, hb⟩
  have hl := (ofRegisters_at hown).2.2.2.2.2.1
  have HB := Lib.hid hb; clear hown hb
  go_wp2
  go_ret
  exact ⟨rfl, HB.out⟩
theorem mo34 (w : World) : Calls Tryz.prog 54 #[.int .i64 34] w fun e w' => e = .returned (.func (.func 153) #[] #[]) ∧ Below w.heap.size w w' := by
  go_enter Tryz.func54, Tryz.ntmps54
  go_wp2_with fail
  refine (ofRegisters_any _).mono ?_
  rintro e w1 ⟨r, rfl, hown, hb⟩
  have hl := (ofRegisters_at hown).2.2.2.2.2.2.1
  have HB := Lib.hid hb; clear hown hb
  go_wp2
  go_ret
  exact ⟨rfl, HB.out⟩
theorem mo35 (w : World) : Calls Tryz.prog 54 #[.int .i64 35] w fun e w' => e = .returned (.func (.func 154) #[] #[]) ∧ Below w.heap.size w w' := by
  go_enter Tryz.func54, Tryz.ntmps54
  go_wp2_with fail
  refine (ofRegisters_any _).mono ?_
  rintro e w1 ⟨r, rfl, hown, hb⟩
  have hl := (ofRegisters_at hown).2.2.2.2.2.2.2.1
  have HB := Lib.hid hb; clear hown hb
  go_wp2
  go_ret
  exact ⟨rfl, HB.out⟩
theorem mo36 (w : World) : Calls Tryz.prog 54 #[.int .i64 36] w fun e w' => e = .returned (.func (.func 155) #[] #[]) ∧ Below w.heap.size w w' := by
  go_enter Tryz.func54, Tryz.ntmps54
  go_wp2_with fail
  refine (ofRegisters_any _).mono ?_
  rintro e w1 ⟨r, rfl, hown, hb⟩
  have hl := (ofRegisters_at hown).2.2.2.2.2.2.2.2.1
  have HB := Lib.hid hb; clear hown hb
  go_wp2
  go_ret
  exact ⟨rfl, HB.out⟩
theorem mo37 (w : World) : Calls Tryz.prog 54 #[.int .i64 37] w fun e w' => e = .returned (.func (.func 156) #[] #[]) ∧ Below w.heap.size w w' := by
  go_enter Tryz.func54, Tryz.ntmps54
  go_wp2_with fail
  refine (ofRegisters_any _).mono ?_
  rintro e w1 ⟨r, rfl, hown, hb⟩
  have hl := (ofRegisters_at hown).2.2.2.2.2.2.2.2.2
  have HB := Lib.hid hb; clear hown hb
  go_wp2
  go_ret
  exact ⟨rfl, HB.out⟩
theorem mo38 (w : World) : Calls Tryz.prog 54 #[.int .i64 38] w fun e w' => e = .returned (.func (.func 175) #[] #[]) ∧ Below w.heap.size w w' := by
  go_enter Tryz.func54, Tryz.ntmps54
  go_wp2_with fail
  refine (others_any _).mono ?_
  rintro e w1 ⟨r, rfl, hown, hb⟩
  have hl := (others_at hown).2.2.1
  have HB := Lib.hid hb; clear hown hb
  go_wp2
  go_ret
  exact ⟨rfl, HB.out⟩
theorem mo39 (w : World) : Calls Tryz.prog 54 #[.int .i64 39] w fun e w' => e = .returned (.func (.func 176) #[] #[]) ∧ Below w.heap.size w w' := by
  go_enter Tryz.func54, Tryz.ntmps54
  go_wp2_with fail
  refine (others_any _).mono ?_
  rintro e w1 ⟨r, rfl, hown, hb⟩
  have hl := (others_at hown).2.2.2.1
  have HB := Lib.hid hb; clear hown hb
  go_wp2
  go_ret
  exact ⟨rfl, HB.out⟩
end Go.Proofs.YtianojbdabeoeaaGreatDoor
end

section
namespace Go.Proofs.YtianojbdabeoeaaGreatDoor
open Go.RowKit Go.Maps
set_option linter.unusedVariables false
theorem mo40 (w : World) : Calls Tryz.prog 54 #[.int .i64 40] w fun e w' => e = .returned (.func (.func 157) #[] #[]) ∧ Below w.heap.size w w' := by
  go_enter Tryz.func54, Tryz.ntmps54
  go_wp2_with fail
  refine (products_any _).mono ?_
  rintro e w1 ⟨r, rfl, hown, hb⟩
  have hl := (products_at hown).1
  have HB := Lib.hid hb; clear hown hb
  go_wp2
  go_ret
  exact ⟨rfl, HB.out⟩
theorem mo41 (w : World) : Calls Tryz.prog 54 #[.int .i64 41] w fun e w' => e = .returned (.func (.func 159) #[] #[]) ∧ Below w.heap.size w w' := by
  go_enter Tryz.func54, Tryz.ntmps54
  go_wp2_with fail
  refine (products_any _).mono ?_
  rintro e w1 ⟨r, rfl, hown, hb⟩
  have hl := (products_at hown).2.1
  have HB := Lib.hid hb; clear hown hb
  go_wp2
  go_ret
  exact ⟨rfl, HB.out⟩
theorem mo42 (w : World) : Calls Tryz.prog 54 #[.int .i64 42] w fun e w' => e = .returned (.func (.func 161) #[] #[]) ∧ Below w.heap.size w w' := by
  go_enter Tryz.func54, Tryz.ntmps54
  go_wp2_with fail
  refine (products_any _).mono ?_
  rintro e w1 ⟨r, rfl, hown, hb⟩
  have hl := (products_at hown).2.2.1
  have HB := Lib.hid hb; clear hown hb
  go_wp2
  go_ret
  exact ⟨rfl, HB.out⟩
theorem mo43 (w : World) : Calls Tryz.prog 54 #[.int .i64 43] w fun e w' => e = .returned (.func (.func 163) #[] #[]) ∧ Below w.heap.size w w' := by
  go_enter Tryz.func54, Tryz.ntmps54
  go_wp2_with fail
  refine (products_any _).mono ?_
  rintro e w1 ⟨r, rfl, hown, hb⟩
  have hl := (products_at hown).2.2.2.1
  have HB := Lib.hid hb; clear hown hb
  go_wp2
  go_ret
  exact ⟨rfl, HB.out⟩
theorem mo44 (w : World) : Calls Tryz.prog 54 #[.int .i64 44] w fun e w' => e = .returned (.func (.func 165) #[] #[]) ∧ Below w.heap.size w w' := by
  go_enter Tryz.func54, Tryz.ntmps54
  go_wp2_with fail
  refine (products_any _).mono ?_
  rintro e w1 ⟨r, rfl, hown, hb⟩
  have hl := (products_at hown).2.2.2.2.1
  have HB := Lib.hid hb; clear hown hb
  go_wp2
  go_ret
  exact ⟨rfl, HB.out⟩
theorem mo45 (w : World) : Calls Tryz.prog 54 #[.int .i64 45] w fun e w' => e = .returned (.func (.func 167) #[] #[]) ∧ Below w.heap.size w w' := by
  go_enter Tryz.func54, Tryz.ntmps54
  go_wp2_with fail
  refine (products_any _).mono ?_
  rintro e w1 ⟨r, rfl, hown, hb⟩
  have hl := (products_at hown).2.2.2.2.2.1
  have HB := Lib.hid hb; clear hown hb
  go_wp2
  go_ret
  exact ⟨rfl, HB.out⟩
theorem mo46 (w : World) : Calls Tryz.prog 54 #[.int .i64 46] w fun e w' => e = .returned (.func (.func 169) #[] #[]) ∧ Below w.heap.size w w' := by
  go_enter Tryz.func54, Tryz.ntmps54
  go_wp2_with fail
  refine (products_any _).mono ?_
  rintro e w1 ⟨r, rfl, hown, hb⟩
  have hl := (products_at hown).2.2.2.2.2.2.1
  have HB := Lib.hid hb; clear hown hb
  go_wp2
  go_ret
  exact ⟨rfl, HB.out⟩
theorem mo47 (w : World) : Calls Tryz.prog 54 #[.int .i64 47] w fun e w' => e = .returned (.func (.func 171) #[] #[]) ∧ Below w.heap.size w w' := by
  go_enter Tryz.func54, Tryz.ntmps54
  go_wp2_with fail
  refine (products_any _).mono ?_
  rintro e w1 ⟨r, rfl, hown, hb⟩
  have hl := (products_at hown).2.2.2.2.2.2.2
  have HB := Lib.hid hb; clear hown hb
  go_wp2
  go_ret
  exact ⟨rfl, HB.out⟩
theorem mo48 (w : World) : Calls Tryz.prog 54 #[.int .i64 48] w fun e w' => e = .returned (.func (.func 177) #[] #[]) ∧ Below w.heap.size w w' := by
  go_enter Tryz.func54, Tryz.ntmps54
  go_wp2_with fail
  refine (others_any _).mono ?_
  rintro e w1 ⟨r, rfl, hown, hb⟩
  have hl := (others_at hown).2.2.2.2.1
  have HB := Lib.hid hb; clear hown hb
  go_wp2
  go_ret
  exact ⟨rfl, HB.out⟩
theorem mo49 (w : World) : Calls Tryz.prog 54 #[.int .i64 49] w fun e w' => e = .returned (.func (.func 179) #[] #[]) ∧ Below w.heap.size w w' := by
  go_enter Tryz.func54, Tryz.ntmps54
  go_wp2_with fail
  refine (others_any _).mono ?_
  rintro e w1 ⟨r, rfl, hown, hb⟩
  have hl := (others_at hown).2.2.2.2.2.1
  have HB := Lib.hid hb; clear hown hb
  go_wp2
  go_ret
  exact ⟨rfl, HB.out⟩
theorem mo50 (w : World) : Calls Tryz.prog 54 #[.int .i64 50] w fun e w' => e = .returned (.func (.func 86) #[] #[]) ∧ Below w.heap.size w w' := by
  go_enter Tryz.func54, Tryz.ntmps54
  go_wp2
  go_ret
  exact ⟨rfl, Below.refl _ _⟩
theorem mo51 (w : World) : Calls Tryz.prog 54 #[.int .i64 51] w fun e w' => e = .returned (.func (.func 86) #[] #[]) ∧ Below w.heap.size w w' := by
  go_enter Tryz.func54, Tryz.ntmps54
  go_wp2
  go_ret
  exact ⟨rfl, Below.refl _ _⟩
theorem mo52 (w : World) : Calls Tryz.prog 54 #[.int .i64 52] w fun e w' => e = .returned (.func (.func 86) #[] #[]) ∧ Below w.heap.size w w' := by
  go_enter Tryz.func54, Tryz.ntmps54
  go_wp2
  go_ret
  exact ⟨rfl, Below.refl _ _⟩
theorem mo53 (w : World) : Calls Tryz.prog 54 #[.int .i64 53] w fun e w' => e = .returned (.func (.func 86) #[] #[]) ∧ Below w.heap.size w w' := by
  go_enter Tryz.func54, Tryz.ntmps54
  go_wp2
  go_ret
  exact ⟨rfl, Below.refl _ _⟩
theorem mo54 (w : World) : Calls Tryz.prog 54 #[.int .i64 54] w fun e w' => e = .returned (.func (.func 86) #[] #[]) ∧ Below w.heap.size w w' := by
  go_enter Tryz.func54, Tryz.ntmps54
  go_wp2
  go_ret
  exact ⟨rfl, Below.refl _ _⟩
theorem mo55 (w : World) : Calls Tryz.prog 54 #[.int .i64 55] w fun e w' => e = .returned (.func (.func 86) #[] #[]) ∧ Below w.heap.size w w' := by
  go_enter Tryz.func54, Tryz.ntmps54
  go_wp2
  go_ret
  exact ⟨rfl, Below.refl _ _⟩
theorem mo56 (w : World) : Calls Tryz.prog 54 #[.int .i64 56] w fun e w' => e = .returned (.func (.func 86) #[] #[]) ∧ Below w.heap.size w w' := by
  go_enter Tryz.func54, Tryz.ntmps54
  go_wp2
  go_ret
  exact ⟨rfl, Below.refl _ _⟩
theorem mo57 (w : World) : Calls Tryz.prog 54 #[.int .i64 57] w fun e w' => e = .returned (.func (.func 86) #[] #[]) ∧ Below w.heap.size w w' := by
  go_enter Tryz.func54, Tryz.ntmps54
  go_wp2
  go_ret
  exact ⟨rfl, Below.refl _ _⟩
theorem mo58 (w : World) : Calls Tryz.prog 54 #[.int .i64 58] w fun e w' => e = .returned (.func (.func 86) #[] #[]) ∧ Below w.heap.size w w' := by
  go_enter Tryz.func54, Tryz.ntmps54
  go_wp2
  go_ret
  exact ⟨rfl, Below.refl _ _⟩
theorem mo59 (w : World) : Calls Tryz.prog 54 #[.int .i64 59] w fun e w' => e = .returned (.func (.func 180) #[] #[]) ∧ Below w.heap.size w w' := by
  go_enter Tryz.func54, Tryz.ntmps54
  go_wp2_with fail
  refine (others_any _).mono ?_
  rintro e w1 ⟨r, rfl, hown, hb⟩
  have hl := (others_at hown).2.2.2.2.2.2
  have HB := Lib.hid hb; clear hown hb
  go_wp2
  go_ret
  exact ⟨rfl, HB.out⟩
end Go.Proofs.YtianojbdabeoeaaGreatDoor
end
