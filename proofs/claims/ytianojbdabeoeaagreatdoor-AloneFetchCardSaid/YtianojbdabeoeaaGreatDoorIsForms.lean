/-
  The map of forms; rows of the table by number.
-/
import Derived.Test.YtianojbdabeoeaaGreatDoorIsTab
import Derived.Test.YtianojbdabeoeaaGreatDoorIsLow
import Derived.Maps.OwnOps
namespace Go.Proofs.YtianojbdabeoeaaGreatDoor
open Go.RowKit Go.Maps
set_option linter.unusedVariables false

theorem wpList_insert_own {H : Type} {P : Program} (w : World) {ops : Array Oper} {rest : List Oper} {o : Oper} {a : Act} {Q : Exit → Act → World → Prop}
    (hg : o.guard = none) (m x v : Operand) (t : TypeId) (hop : o.op = Op.insert t m x v)
    (k e : TypeId) (K : Keyed P k) (ht : P.underlying t = some (.map k e)) (R : Value → Option (DataW H × List MemPlace)) (b n : Nat) (D : DataW H)
    (hm : a.eval m = .map (some b)) (hown : w.ownsMap P k R b n D) (hn : n < maxLen) (key val : Value) (kl : Lit) (hx : a.eval x = key) (hv : a.eval v = val) (hkey : keyOf P k key = some kl)
    (d : DataW H) (ps : List MemPlace) (hval : R val = some (d, ps))
    (hK : ∀ w', w'.ownsMap P k R b (n + 1) (D.put kl d) → w.grownBy w' (some b) → wpList P ops Q rest (a.put o.dst undef) w') :
    wpList P ops Q (o :: rest) a w := by
  refine wpList_plain hg fun K' hK' => ?_
  obtain ⟨w', hrun, r1, r2⟩ := hown.update K ht hn hkey hval
  unfold Oper.wp
  simp [execOp, hop, hm, hx, hv, hrun, Result.andThen]
  exact hK' _ _ (hK w' r1 r2)

/-- an element of a map as it is, whatever it is -/
def asHeld (v : Value) : Option (DataW Value × List MemPlace) := some (.held v, [])
theorem lawKind : Keyed Tryz.prog 164 := int_keyed Tryz.underlying164
/-- the forms, by number -/
def foL : List Value := [undef, .agg #[.int .i64 1, .func (.func 230) #[] #[], .func (.func 230) #[] #[], .func (.func 231) #[] #[]], .agg #[.int .i64 1, .func (.func 232) #[] #[], .func (.func 233) #[] #[], .func (.func 234) #[] #[]], .agg #[.int .i64 3, .func (.func 235) #[] #[], .func (.func 236) #[] #[], .func (.func 237) #[] #[]], .agg #[.int .i64 3, .func (.func 235) #[] #[], .func (.func 236) #[] #[], .func (.func 238) #[] #[]], .agg #[.int .i64 3, .func (.func 239) #[] #[], .func (.func 240) #[] #[], .func (.func 237) #[] #[]], .agg #[.int .i64 6, .func (.func 241) #[] #[], .func (.func 242) #[] #[], .func (.func 243) #[] #[]], .agg #[.int .i64 6, .func (.func 244) #[] #[], .func (.func 245) #[] #[], .func (.func 246) #[] #[]], .agg #[.int .i64 7, .func (.func 247) #[] #[], .func (.func 247) #[] #[], .func (.func 248) #[] #[]], .agg #[.int .i64 0, .func (.func 249) #[] #[], .func (.func 250) #[] #[], .func (.func 251) #[] #[]], .agg #[.int .i64 0, .func (.func 247) #[] #[], .func (.func 247) #[] #[], .func (.func 252) #[] #[]], .agg #[.int .i64 15, .func (.func 247) #[] #[], .func (.func 247) #[] #[], .func (.func 253) #[] #[]], .agg #[.int .i64 11, .func (.func 247) #[] #[], .func (.func 247) #[] #[], .func (.func 254) #[] #[]], .agg #[.int .i64 1, .func (.func 247) #[] #[], .func (.func 247) #[] #[], .func (.func 255) #[] #[]]]
def fo (k : Nat) : Value := foL.getD k undef
theorem fo1 : fo 1 = .agg #[.int .i64 1, .func (.func 230) #[] #[], .func (.func 230) #[] #[], .func (.func 231) #[] #[]] := rfl
theorem fo2 : fo 2 = .agg #[.int .i64 1, .func (.func 232) #[] #[], .func (.func 233) #[] #[], .func (.func 234) #[] #[]] := rfl
theorem fo3 : fo 3 = .agg #[.int .i64 3, .func (.func 235) #[] #[], .func (.func 236) #[] #[], .func (.func 237) #[] #[]] := rfl
theorem fo4 : fo 4 = .agg #[.int .i64 3, .func (.func 235) #[] #[], .func (.func 236) #[] #[], .func (.func 238) #[] #[]] := rfl
theorem fo5 : fo 5 = .agg #[.int .i64 3, .func (.func 239) #[] #[], .func (.func 240) #[] #[], .func (.func 237) #[] #[]] := rfl
theorem fo6 : fo 6 = .agg #[.int .i64 6, .func (.func 241) #[] #[], .func (.func 242) #[] #[], .func (.func 243) #[] #[]] := rfl
theorem fo7 : fo 7 = .agg #[.int .i64 6, .func (.func 244) #[] #[], .func (.func 245) #[] #[], .func (.func 246) #[] #[]] := rfl
theorem fo8 : fo 8 = .agg #[.int .i64 7, .func (.func 247) #[] #[], .func (.func 247) #[] #[], .func (.func 248) #[] #[]] := rfl
theorem fo9 : fo 9 = .agg #[.int .i64 0, .func (.func 249) #[] #[], .func (.func 250) #[] #[], .func (.func 251) #[] #[]] := rfl
theorem fo10 : fo 10 = .agg #[.int .i64 0, .func (.func 247) #[] #[], .func (.func 247) #[] #[], .func (.func 252) #[] #[]] := rfl
theorem fo11 : fo 11 = .agg #[.int .i64 15, .func (.func 247) #[] #[], .func (.func 247) #[] #[], .func (.func 253) #[] #[]] := rfl
theorem fo12 : fo 12 = .agg #[.int .i64 11, .func (.func 247) #[] #[], .func (.func 247) #[] #[], .func (.func 254) #[] #[]] := rfl
theorem fo13 : fo 13 = .agg #[.int .i64 1, .func (.func 247) #[] #[], .func (.func 247) #[] #[], .func (.func 255) #[] #[]] := rfl
/-- what the map of forms holds -/
def FD : DataW Value := (((((((((((((DataW.map []).put (.int .i64 1) (.held (fo 1))).put (.int .i64 2) (.held (fo 2))).put (.int .i64 3) (.held (fo 3))).put (.int .i64 4) (.held (fo 4))).put (.int .i64 5) (.held (fo 5))).put (.int .i64 6) (.held (fo 6))).put (.int .i64 7) (.held (fo 7))).put (.int .i64 8) (.held (fo 8))).put (.int .i64 9) (.held (fo 9))).put (.int .i64 10) (.held (fo 10))).put (.int .i64 11) (.held (fo 11))).put (.int .i64 12) (.held (fo 12))).put (.int .i64 13) (.held (fo 13))
theorem fd_at (k : Nat) (h1 : 1 ≤ k) (h2 : k ≤ 13) (z : DataW Value) : FD.atKey (.int .i64 (k : Int)) z = .held (fo k) := by
  have h : k = 1 ∨ k = 2 ∨ k = 3 ∨ k = 4 ∨ k = 5 ∨ k = 6 ∨ k = 7 ∨ k = 8 ∨ k = 9 ∨ k = 10 ∨ k = 11 ∨ k = 12 ∨ k = 13 := by omega
  rcases h with rfl | rfl | rfl | rfl | rfl | rfl | rfl | rfl | rfl | rfl | rfl | rfl | rfl <;> rfl

set_option maxHeartbeats 4000000 in
theorem forms_any (w : World) :
    Calls Tryz.prog 199 #[] w fun e w' => ∃ r, e = .returned (.map (some r)) ∧ w'.ownsMap Tryz.prog 164 asHeld r 13 FD ∧ Below w.heap.size w w' := by
  have hmm := @run_makeMap Tryz.prog
  go_enter Tryz.func199, Tryz.ntmps199
  go_wp2_with (first
    | (refine wpList_insert_own (H := Value) _ rfl _ _ _ 188 rfl 164 169 lawKind Tryz.underlying188 asHeld w.heap.size 0 (.map []) rfl (World.ownsMap_made w _ _ _) (by unfold maxLen; omega) (.int .i64 1) (fo 1) (.int .i64 1) rfl rfl (keyOf_int_mk Tryz.underlying164 (by decide)) (.held (fo 1)) [] rfl ?_; intro w1 hown1 hg1)
    | (refine wpList_insert_own (H := Value) _ rfl _ _ _ 188 rfl 164 169 lawKind Tryz.underlying188 asHeld w.heap.size 1 _ rfl hown1 (by unfold maxLen; omega) (.int .i64 2) (fo 2) (.int .i64 2) rfl rfl (keyOf_int_mk Tryz.underlying164 (by decide)) (.held (fo 2)) [] rfl ?_; intro w2 hown2 hg2)
    | (refine wpList_insert_own (H := Value) _ rfl _ _ _ 188 rfl 164 169 lawKind Tryz.underlying188 asHeld w.heap.size 2 _ rfl hown2 (by unfold maxLen; omega) (.int .i64 3) (fo 3) (.int .i64 3) rfl rfl (keyOf_int_mk Tryz.underlying164 (by decide)) (.held (fo 3)) [] rfl ?_; intro w3 hown3 hg3)
    | (refine wpList_insert_own (H := Value) _ rfl _ _ _ 188 rfl 164 169 lawKind Tryz.underlying188 asHeld w.heap.size 3 _ rfl hown3 (by unfold maxLen; omega) (.int .i64 4) (fo 4) (.int .i64 4) rfl rfl (keyOf_int_mk Tryz.underlying164 (by decide)) (.held (fo 4)) [] rfl ?_; intro w4 hown4 hg4)
    | (refine wpList_insert_own (H := Value) _ rfl _ _ _ 188 rfl 164 169 lawKind Tryz.underlying188 asHeld w.heap.size 4 _ rfl hown4 (by unfold maxLen; omega) (.int .i64 5) (fo 5) (.int .i64 5) rfl rfl (keyOf_int_mk Tryz.underlying164 (by decide)) (.held (fo 5)) [] rfl ?_; intro w5 hown5 hg5)
    | (refine wpList_insert_own (H := Value) _ rfl _ _ _ 188 rfl 164 169 lawKind Tryz.underlying188 asHeld w.heap.size 5 _ rfl hown5 (by unfold maxLen; omega) (.int .i64 6) (fo 6) (.int .i64 6) rfl rfl (keyOf_int_mk Tryz.underlying164 (by decide)) (.held (fo 6)) [] rfl ?_; intro w6 hown6 hg6)
    | (refine wpList_insert_own (H := Value) _ rfl _ _ _ 188 rfl 164 169 lawKind Tryz.underlying188 asHeld w.heap.size 6 _ rfl hown6 (by unfold maxLen; omega) (.int .i64 7) (fo 7) (.int .i64 7) rfl rfl (keyOf_int_mk Tryz.underlying164 (by decide)) (.held (fo 7)) [] rfl ?_; intro w7 hown7 hg7)
    | (refine wpList_insert_own (H := Value) _ rfl _ _ _ 188 rfl 164 169 lawKind Tryz.underlying188 asHeld w.heap.size 7 _ rfl hown7 (by unfold maxLen; omega) (.int .i64 8) (fo 8) (.int .i64 8) rfl rfl (keyOf_int_mk Tryz.underlying164 (by decide)) (.held (fo 8)) [] rfl ?_; intro w8 hown8 hg8)
    | (refine wpList_insert_own (H := Value) _ rfl _ _ _ 188 rfl 164 169 lawKind Tryz.underlying188 asHeld w.heap.size 8 _ rfl hown8 (by unfold maxLen; omega) (.int .i64 9) (fo 9) (.int .i64 9) rfl rfl (keyOf_int_mk Tryz.underlying164 (by decide)) (.held (fo 9)) [] rfl ?_; intro w9 hown9 hg9)
    | (refine wpList_insert_own (H := Value) _ rfl _ _ _ 188 rfl 164 169 lawKind Tryz.underlying188 asHeld w.heap.size 9 _ rfl hown9 (by unfold maxLen; omega) (.int .i64 10) (fo 10) (.int .i64 10) rfl rfl (keyOf_int_mk Tryz.underlying164 (by decide)) (.held (fo 10)) [] rfl ?_; intro w10 hown10 hg10)
    | (refine wpList_insert_own (H := Value) _ rfl _ _ _ 188 rfl 164 169 lawKind Tryz.underlying188 asHeld w.heap.size 10 _ rfl hown10 (by unfold maxLen; omega) (.int .i64 11) (fo 11) (.int .i64 11) rfl rfl (keyOf_int_mk Tryz.underlying164 (by decide)) (.held (fo 11)) [] rfl ?_; intro w11 hown11 hg11)
    | (refine wpList_insert_own (H := Value) _ rfl _ _ _ 188 rfl 164 169 lawKind Tryz.underlying188 asHeld w.heap.size 11 _ rfl hown11 (by unfold maxLen; omega) (.int .i64 12) (fo 12) (.int .i64 12) rfl rfl (keyOf_int_mk Tryz.underlying164 (by decide)) (.held (fo 12)) [] rfl ?_; intro w12 hown12 hg12)
    | (refine wpList_insert_own (H := Value) _ rfl _ _ _ 188 rfl 164 169 lawKind Tryz.underlying188 asHeld w.heap.size 12 _ rfl hown12 (by unfold maxLen; omega) (.int .i64 13) (fo 13) (.int .i64 13) rfl rfl (keyOf_int_mk Tryz.underlying164 (by decide)) (.held (fo 13)) [] rfl ?_; intro w13 hown13 hg13))
  go_ret
  have h0 : (w.alloc (Obj.map #[] 0)).heap.size = w.heap.size + 1 := by simp
  have h1 := hg1.size
  have h2 := hg2.size
  have h3 := hg3.size
  have h4 := hg4.size
  have h5 := hg5.size
  have h6 := hg6.size
  have h7 := hg7.size
  have h8 := hg8.size
  have h9 := hg9.size
  have h10 := hg10.size
  have h11 := hg11.size
  have h12 := hg12.size
  have h13 := hg13.size
  exact ⟨_, rfl, hown13, (((((((((((((((Below.refl _ _).alloc (Nat.le_refl _) _).grown hg1 (by omega) (fun k hk => by cases hk; exact Nat.le_refl _)).grown hg2 (by omega) (fun k hk => by cases hk; exact Nat.le_refl _)).grown hg3 (by omega) (fun k hk => by cases hk; exact Nat.le_refl _)).grown hg4 (by omega) (fun k hk => by cases hk; exact Nat.le_refl _)).grown hg5 (by omega) (fun k hk => by cases hk; exact Nat.le_refl _)).grown hg6 (by omega) (fun k hk => by cases hk; exact Nat.le_refl _)).grown hg7 (by omega) (fun k hk => by cases hk; exact Nat.le_refl _)).grown hg8 (by omega) (fun k hk => by cases hk; exact Nat.le_refl _)).grown hg9 (by omega) (fun k hk => by cases hk; exact Nat.le_refl _)).grown hg10 (by omega) (fun k hk => by cases hk; exact Nat.le_refl _)).grown hg11 (by omega) (fun k hk => by cases hk; exact Nat.le_refl _)).grown hg12 (by omega) (fun k hk => by cases hk; exact Nat.le_refl _)).grown hg13 (by omega) (fun k hk => by cases hk; exact Nat.le_refl _))⟩
end Go.Proofs.YtianojbdabeoeaaGreatDoor
