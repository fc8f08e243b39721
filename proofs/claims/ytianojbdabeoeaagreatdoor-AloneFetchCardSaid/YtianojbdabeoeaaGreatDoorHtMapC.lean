/-
  Maps of meanings.
-/
import Derived.Test.YtianojbdabeoeaaGreatDoorIsForms
import Derived.Test.YtianojbdabeoeaaGreatDoorHtMapM
namespace Go.Proofs.YtianojbdabeoeaaGreatDoor
open Go.RowKit Go.Maps
set_option linter.unusedVariables false
theorem look_ok {w : World} {b n : Nat} {D : DataW Value} (h : w.ownsMap Tryz.prog 35 asHeld b n D) (op : Int) (hw : (Lit.int .i64 op).wf = true) :
    (∃ v, (Instr.lookup 185 (.map (some b)) (.int .i64 op) true).run Tryz.prog w = .ok (.tuple #[v, .bool true]) w ∧ ∀ z, D.atKey (.int .i64 op) z = .held v) ∨
    ((Instr.lookup 185 (.map (some b)) (.int .i64 op) true).run Tryz.prog w = .ok (.tuple #[.nilFunc, .bool false]) w ∧ ∀ z, D.atKey (.int .i64 op) z = z) := by
  obtain ⟨es, clock, hb, F, _, rfl⟩ := h
  have hz : (zeroValue 111).run Tryz.prog w = .ok .nilFunc w := by kernel_rfl
  rcases Maps.fit_look true lawOp Tryz.underlying185 hz hb F (keyOf_int_mk Tryz.underlying35 hw) with ⟨hrun, _, hat⟩ | ⟨e0, y, _, _, hrun, hRv, hat, _⟩
  · exact .inr ⟨hrun, hat⟩
  · refine .inl ⟨e0.val, hrun, fun z => ?_⟩
    rw [hat z]
    simp only [asHeld, Option.some.injEq] at hRv
    rw [← hRv]
theorem look_held {w : World} {b n : Nat} {D : DataW Value} {op : Int} (hw : (Lit.int .i64 op).wf = true) (h : w.ownsMap Tryz.prog 35 asHeld b n D) (f : Value) (hf : ∀ z, D.atKey (.int .i64 op) z = .held f) :
    (Instr.lookup 185 (.map (some b)) (.int .i64 op) true).run Tryz.prog w = .ok (.tuple #[f, .bool true]) w := by
  rcases look_ok h op hw with ⟨v, hr, hv⟩ | ⟨hr, hv⟩
  · have := (hf (.map [])).symm.trans (hv (.map []))
    cases this
    exact hr
  · have := (hf (.map [])).symm.trans (hv (.map []))
    cases this
def amoStoresD : DataW Value := (((((((((DataW.map []).put (.int .i64 50) (.held (.func (.func 220) #[] #[]))).put (.int .i64 51) (.held (.func (.func 133) #[] #[]))).put (.int .i64 52) (.held (.func (.func 221) #[] #[]))).put (.int .i64 53) (.held (.func (.func 222) #[] #[]))).put (.int .i64 54) (.held (.func (.func 223) #[] #[]))).put (.int .i64 55) (.held (.func (.func 224) #[] #[]))).put (.int .i64 56) (.held (.func (.func 226) #[] #[]))).put (.int .i64 57) (.held (.func (.func 228) #[] #[]))).put (.int .i64 58) (.held (.func (.func 229) #[] #[]))
theorem amoStores_at {w : World} {b : Nat} (h : w.ownsMap Tryz.prog 35 asHeld b 9 amoStoresD) :
    (Instr.lookup 185 (.map (some b)) (.int .i64 50) true).run Tryz.prog w = .ok (.tuple #[.func (.func 220) #[] #[], .bool true]) w ∧
    (Instr.lookup 185 (.map (some b)) (.int .i64 51) true).run Tryz.prog w = .ok (.tuple #[.func (.func 133) #[] #[], .bool true]) w ∧
    (Instr.lookup 185 (.map (some b)) (.int .i64 52) true).run Tryz.prog w = .ok (.tuple #[.func (.func 221) #[] #[], .bool true]) w ∧
    (Instr.lookup 185 (.map (some b)) (.int .i64 53) true).run Tryz.prog w = .ok (.tuple #[.func (.func 222) #[] #[], .bool true]) w ∧
    (Instr.lookup 185 (.map (some b)) (.int .i64 54) true).run Tryz.prog w = .ok (.tuple #[.func (.func 223) #[] #[], .bool true]) w ∧
    (Instr.lookup 185 (.map (some b)) (.int .i64 55) true).run Tryz.prog w = .ok (.tuple #[.func (.func 224) #[] #[], .bool true]) w ∧
    (Instr.lookup 185 (.map (some b)) (.int .i64 56) true).run Tryz.prog w = .ok (.tuple #[.func (.func 226) #[] #[], .bool true]) w ∧
    (Instr.lookup 185 (.map (some b)) (.int .i64 57) true).run Tryz.prog w = .ok (.tuple #[.func (.func 228) #[] #[], .bool true]) w ∧
    (Instr.lookup 185 (.map (some b)) (.int .i64 58) true).run Tryz.prog w = .ok (.tuple #[.func (.func 229) #[] #[], .bool true]) w := by
  refine ⟨?_, ?_, ?_, ?_, ?_, ?_, ?_, ?_, ?_⟩
  · exact look_held (by kernel_rfl) h (.func (.func 220) #[] #[]) (fun z => rfl)
  · exact look_held (by kernel_rfl) h (.func (.func 133) #[] #[]) (fun z => rfl)
  · exact look_held (by kernel_rfl) h (.func (.func 221) #[] #[]) (fun z => rfl)
  · exact look_held (by kernel_rfl) h (.func (.func 222) #[] #[]) (fun z => rfl)
  · exact look_held (by kernel_rfl) h (.func (.func 223) #[] #[]) (fun z => rfl)
  · exact look_held (by kernel_rfl) h (.func (.func 224) #[] #[]) (fun z => rfl)
  · exact look_held (by kernel_rfl) h (.func (.func 226) #[] #[]) (fun z => rfl)
  · exact look_held (by kernel_rfl) h (.func (.func 228) #[] #[]) (fun z => rfl)
  · exact look_held (by kernel_rfl) h (.func (.func 229) #[] #[]) (fun z => rfl)
set_option maxHeartbeats 4000000 in
theorem amoStores_any (w : World) :
    Calls Tryz.prog 197 #[] w fun e w' => ∃ r, e = .returned (.map (some r)) ∧ w'.ownsMap Tryz.prog 35 asHeld r 9 amoStoresD ∧ Below w.heap.size w w' := by
  have hmm := @run_makeMap Tryz.prog
  go_enter Tryz.func197, Tryz.ntmps197
  go_wp2_with (first
    | (refine wpList_insert_own (H := Value) _ rfl _ _ _ 185 rfl 35 111 lawOp Tryz.underlying185 asHeld w.heap.size 0 (.map []) rfl (World.ownsMap_made w _ _ _) (by unfold maxLen; omega) (.int .i64 50) (.func (.func 220) #[] #[]) (.int .i64 50) rfl rfl (keyOf_int_mk Tryz.underlying35 (by decide)) (.held (.func (.func 220) #[] #[])) [] rfl ?_; intro w1 hown1 hg1)
    | (refine wpList_insert_own (H := Value) _ rfl _ _ _ 185 rfl 35 111 lawOp Tryz.underlying185 asHeld w.heap.size 1 _ rfl hown1 (by unfold maxLen; omega) (.int .i64 51) (.func (.func 133) #[] #[]) (.int .i64 51) rfl rfl (keyOf_int_mk Tryz.underlying35 (by decide)) (.held (.func (.func 133) #[] #[])) [] rfl ?_; intro w2 hown2 hg2)
    | (refine wpList_insert_own (H := Value) _ rfl _ _ _ 185 rfl 35 111 lawOp Tryz.underlying185 asHeld w.heap.size 2 _ rfl hown2 (by unfold maxLen; omega) (.int .i64 52) (.func (.func 221) #[] #[]) (.int .i64 52) rfl rfl (keyOf_int_mk Tryz.underlying35 (by decide)) (.held (.func (.func 221) #[] #[])) [] rfl ?_; intro w3 hown3 hg3)
    | (refine wpList_insert_own (H := Value) _ rfl _ _ _ 185 rfl 35 111 lawOp Tryz.underlying185 asHeld w.heap.size 3 _ rfl hown3 (by unfold maxLen; omega) (.int .i64 53) (.func (.func 222) #[] #[]) (.int .i64 53) rfl rfl (keyOf_int_mk Tryz.underlying35 (by decide)) (.held (.func (.func 222) #[] #[])) [] rfl ?_; intro w4 hown4 hg4)
    | (refine wpList_insert_own (H := Value) _ rfl _ _ _ 185 rfl 35 111 lawOp Tryz.underlying185 asHeld w.heap.size 4 _ rfl hown4 (by unfold maxLen; omega) (.int .i64 54) (.func (.func 223) #[] #[]) (.int .i64 54) rfl rfl (keyOf_int_mk Tryz.underlying35 (by decide)) (.held (.func (.func 223) #[] #[])) [] rfl ?_; intro w5 hown5 hg5)
    | (refine wpList_insert_own (H := Value) _ rfl _ _ _ 185 rfl 35 111 lawOp Tryz.underlying185 asHeld w.heap.size 5 _ rfl hown5 (by unfold maxLen; omega) (.int .i64 55) (.func (.func 224) #[] #[]) (.int .i64 55) rfl rfl (keyOf_int_mk Tryz.underlying35 (by decide)) (.held (.func (.func 224) #[] #[])) [] rfl ?_; intro w6 hown6 hg6)
    | (refine wpList_insert_own (H := Value) _ rfl _ _ _ 185 rfl 35 111 lawOp Tryz.underlying185 asHeld w.heap.size 6 _ rfl hown6 (by unfold maxLen; omega) (.int .i64 56) (.func (.func 226) #[] #[]) (.int .i64 56) rfl rfl (keyOf_int_mk Tryz.underlying35 (by decide)) (.held (.func (.func 226) #[] #[])) [] rfl ?_; intro w7 hown7 hg7)
    | (refine wpList_insert_own (H := Value) _ rfl _ _ _ 185 rfl 35 111 lawOp Tryz.underlying185 asHeld w.heap.size 7 _ rfl hown7 (by unfold maxLen; omega) (.int .i64 57) (.func (.func 228) #[] #[]) (.int .i64 57) rfl rfl (keyOf_int_mk Tryz.underlying35 (by decide)) (.held (.func (.func 228) #[] #[])) [] rfl ?_; intro w8 hown8 hg8)
    | (refine wpList_insert_own (H := Value) _ rfl _ _ _ 185 rfl 35 111 lawOp Tryz.underlying185 asHeld w.heap.size 8 _ rfl hown8 (by unfold maxLen; omega) (.int .i64 58) (.func (.func 229) #[] #[]) (.int .i64 58) rfl rfl (keyOf_int_mk Tryz.underlying35 (by decide)) (.held (.func (.func 229) #[] #[])) [] rfl ?_; intro w9 hown9 hg9))
  go_ret
  have h0 : (w.alloc (Obj.map #[] 0)).heap.size = w.heap.size + 1 := by simp
  have h1 := hg1.size
  have h2 := hg2.size
  have h3 := hg3.size
  have h4 := hg4.size
  have h5 := hg5.size
  have h6 := hg6.size
  have h7 := hg7.size
  have h8 := hg8.size
  have h9 := hg9.size
  exact ⟨_, rfl, hown9, (((((((((((Below.refl _ _).alloc (Nat.le_refl _) _).grown hg1 (by omega) (fun k hk => by cases hk; exact Nat.le_refl _)).grown hg2 (by omega) (fun k hk => by cases hk; exact Nat.le_refl _)).grown hg3 (by omega) (fun k hk => by cases hk; exact Nat.le_refl _)).grown hg4 (by omega) (fun k hk => by cases hk; exact Nat.le_refl _)).grown hg5 (by omega) (fun k hk => by cases hk; exact Nat.le_refl _)).grown hg6 (by omega) (fun k hk => by cases hk; exact Nat.le_refl _)).grown hg7 (by omega) (fun k hk => by cases hk; exact Nat.le_refl _)).grown hg8 (by omega) (fun k hk => by cases hk; exact Nat.le_refl _)).grown hg9 (by omega) (fun k hk => by cases hk; exact Nat.le_refl _))⟩
end Go.Proofs.YtianojbdabeoeaaGreatDoor
