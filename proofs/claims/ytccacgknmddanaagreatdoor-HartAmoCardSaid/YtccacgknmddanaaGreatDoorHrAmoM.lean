/-
  HrAmoM: HtMapC, HtAmo, HrAmo in one text.
-/
import Derived.Test.YtccacgknmddanaaGreatDoorIsForms
import Derived.Test.YtccacgknmddanaaGreatDoorHtMapL
import Derived.Test.YtccacgknmddanaaGreatDoorHtMeans
import Derived.Maps.Views
import Derived.Test.YtccacgknmddanaaGreatDoorHrM

section
namespace Go.Proofs.YtccacgknmddanaaGreatDoor
open Go.RowKit Go.Maps
set_option linter.unusedVariables false
theorem look_ok {w : World} {b n : Nat} {D : DataW Value} (h : w.ownsMap Tryz.prog 28 asHeld b n D) (op : Int) (hw : (Lit.int .i64 op).wf = true) :
    (∃ v, (Instr.lookup 74 (.map (some b)) (.int .i64 op) true).run Tryz.prog w = .ok (.tuple #[v, .bool true]) w ∧ ∀ z, D.atKey (.int .i64 op) z = .held v) ∨
    ((Instr.lookup 74 (.map (some b)) (.int .i64 op) true).run Tryz.prog w = .ok (.tuple #[.nilFunc, .bool false]) w ∧ ∀ z, D.atKey (.int .i64 op) z = z) := by
  obtain ⟨es, clock, hb, F, _, rfl⟩ := h
  have hz : (zeroValue 72).run Tryz.prog w = .ok .nilFunc w := by kernel_rfl
  rcases Maps.fit_look true lawOp Tryz.underlying74 hz hb F (keyOf_int_mk Tryz.underlying28 hw) with ⟨hrun, _, hat⟩ | ⟨e0, y, _, _, hrun, hRv, hat, _⟩
  · exact .inr ⟨hrun, hat⟩
  · refine .inl ⟨e0.val, hrun, fun z => ?_⟩
    rw [hat z]
    simp only [asHeld, Option.some.injEq] at hRv
    rw [← hRv]
theorem look_held {w : World} {b n : Nat} {D : DataW Value} {op : Int} (hw : (Lit.int .i64 op).wf = true) (h : w.ownsMap Tryz.prog 28 asHeld b n D) (f : Value) (hf : ∀ z, D.atKey (.int .i64 op) z = .held f) :
    (Instr.lookup 74 (.map (some b)) (.int .i64 op) true).run Tryz.prog w = .ok (.tuple #[f, .bool true]) w := by
  rcases look_ok h op hw with ⟨v, hr, hv⟩ | ⟨hr, hv⟩
  · have := (hf (.map [])).symm.trans (hv (.map []))
    cases this
    exact hr
  · have := (hf (.map [])).symm.trans (hv (.map []))
    cases this
def amoStoresD : DataW Value := (((((((((DataW.map []).put (.int .i64 50) (.held (.func (.func 45) #[] #[]))).put (.int .i64 51) (.held (.func (.func 46) #[] #[]))).put (.int .i64 52) (.held (.func (.func 47) #[] #[]))).put (.int .i64 53) (.held (.func (.func 48) #[] #[]))).put (.int .i64 54) (.held (.func (.func 49) #[] #[]))).put (.int .i64 55) (.held (.func (.func 50) #[] #[]))).put (.int .i64 56) (.held (.func (.func 53) #[] #[]))).put (.int .i64 57) (.held (.func (.func 55) #[] #[]))).put (.int .i64 58) (.held (.func (.func 57) #[] #[]))
theorem amoStores_at {w : World} {b : Nat} (h : w.ownsMap Tryz.prog 28 asHeld b 9 amoStoresD) :
    (Instr.lookup 74 (.map (some b)) (.int .i64 50) true).run Tryz.prog w = .ok (.tuple #[.func (.func 45) #[] #[], .bool true]) w ∧
    (Instr.lookup 74 (.map (some b)) (.int .i64 51) true).run Tryz.prog w = .ok (.tuple #[.func (.func 46) #[] #[], .bool true]) w ∧
    (Instr.lookup 74 (.map (some b)) (.int .i64 52) true).run Tryz.prog w = .ok (.tuple #[.func (.func 47) #[] #[], .bool true]) w ∧
    (Instr.lookup 74 (.map (some b)) (.int .i64 53) true).run Tryz.prog w = .ok (.tuple #[.func (.func 48) #[] #[], .bool true]) w ∧
    (Instr.lookup 74 (.map (some b)) (.int .i64 54) true).run Tryz.prog w = .ok (.tuple #[.func (.func 49) #[] #[], .bool true]) w ∧
    (Instr.lookup 74 (.map (some b)) (.int .i64 55) true).run Tryz.prog w = .ok (.tuple #[.func (.func 50) #[] #[], .bool true]) w ∧
    (Instr.lookup 74 (.map (some b)) (.int .i64 56) true).run Tryz.prog w = .ok (.tuple #[.func (.func 53) #[] #[], .bool true]) w ∧
    (Instr.lookup 74 (.map (some b)) (.int .i64 57) true).run Tryz.prog w = .ok (.tuple #[.func (.func 55) #[] #[], .bool true]) w ∧
    (Instr.lookup 74 (.map (some b)) (.int .i64 58) true).run Tryz.prog w = .ok (.tuple #[.func (.func 57) #[] #[], .bool true]) w := by
  refine ⟨?_, ?_, ?_, ?_, ?_, ?_, ?_, ?_, ?_⟩
  · exact look_held (by kernel_rfl) h (.func (.func 45) #[] #[]) (fun z => rfl)
  · exact look_held (by kernel_rfl) h (.func (.func 46) #[] #[]) (fun z => rfl)
  · exact look_held (by kernel_rfl) h (.func (.func 47) #[] #[]) (fun z => rfl)
  · exact look_held (by kernel_rfl) h (.func (.func 48) #[] #[]) (fun z => rfl)
  · exact look_held (by kernel_rfl) h (.func (.func 49) #[] #[]) (fun z => rfl)
  · exact look_held (by kernel_rfl) h (.func (.func 50) #[] #[]) (fun z => rfl)
  · exact look_held (by kernel_rfl) h (.func (.func 53) #[] #[]) (fun z => rfl)
  · exact look_held (by kernel_rfl) h (.func (.func 55) #[] #[]) (fun z => rfl)
  · exact look_held (by kernel_rfl) h (.func (.func 57) #[] #[]) (fun z => rfl)
set_option maxHeartbeats 4000000 in
theorem amoStores_any (w : World) :
    Calls Tryz.prog 29 #[] w fun e w' => ∃ r, e = .returned (.map (some r)) ∧ w'.ownsMap Tryz.prog 28 asHeld r 9 amoStoresD ∧ Below w.heap.size w w' := by
  have hmm := @run_makeMap Tryz.prog
  go_enter Tryz.func29, Tryz.ntmps29
  go_wp2_with (first
    | (refine wpList_insert_own (H := Value) _ rfl _ _ _ 74 rfl 28 72 lawOp Tryz.underlying74 asHeld w.heap.size 0 (.map []) rfl (World.ownsMap_made w _ _ _) (by unfold maxLen; omega) (.int .i64 50) (.func (.func 45) #[] #[]) (.int .i64 50) rfl rfl (keyOf_int_mk Tryz.underlying28 (by decide)) (.held (.func (.func 45) #[] #[])) [] rfl ?_; intro w1 hown1 hg1)
    | (refine wpList_insert_own (H := Value) _ rfl _ _ _ 74 rfl 28 72 lawOp Tryz.underlying74 asHeld w.heap.size 1 _ rfl hown1 (by unfold maxLen; omega) (.int .i64 51) (.func (.func 46) #[] #[]) (.int .i64 51) rfl rfl (keyOf_int_mk Tryz.underlying28 (by decide)) (.held (.func (.func 46) #[] #[])) [] rfl ?_; intro w2 hown2 hg2)
    | (refine wpList_insert_own (H := Value) _ rfl _ _ _ 74 rfl 28 72 lawOp Tryz.underlying74 asHeld w.heap.size 2 _ rfl hown2 (by unfold maxLen; omega) (.int .i64 52) (.func (.func 47) #[] #[]) (.int .i64 52) rfl rfl (keyOf_int_mk Tryz.underlying28 (by decide)) (.held (.func (.func 47) #[] #[])) [] rfl ?_; intro w3 hown3 hg3)
    | (refine wpList_insert_own (H := Value) _ rfl _ _ _ 74 rfl 28 72 lawOp Tryz.underlying74 asHeld w.heap.size 3 _ rfl hown3 (by unfold maxLen; omega) (.int .i64 53) (.func (.func 48) #[] #[]) (.int .i64 53) rfl rfl (keyOf_int_mk Tryz.underlying28 (by decide)) (.held (.func (.func 48) #[] #[])) [] rfl ?_; intro w4 hown4 hg4)
    | (refine wpList_insert_own (H := Value) _ rfl _ _ _ 74 rfl 28 72 lawOp Tryz.underlying74 asHeld w.heap.size 4 _ rfl hown4 (by unfold maxLen; omega) (.int .i64 54) (.func (.func 49) #[] #[]) (.int .i64 54) rfl rfl (keyOf_int_mk Tryz.underlying28 (by decide)) (.held (.func (.func 49) #[] #[])) [] rfl ?_; intro w5 hown5 hg5)
    | (refine wpList_insert_own (H := Value) _ rfl _ _ _ 74 rfl 28 72 lawOp Tryz.underlying74 asHeld w.heap.size 5 _ rfl hown5 (by unfold maxLen; omega) (.int .i64 55) (.func (.func 50) #[] #[]) (.int .i64 55) rfl rfl (keyOf_int_mk Tryz.underlying28 (by decide)) (.held (.func (.func 50) #[] #[])) [] rfl ?_; intro w6 hown6 hg6)
    | (refine wpList_insert_own (H := Value) _ rfl _ _ _ 74 rfl 28 72 lawOp Tryz.underlying74 asHeld w.heap.size 6 _ rfl hown6 (by unfold maxLen; omega) (.int .i64 56) (.func (.func 53) #[] #[]) (.int .i64 56) rfl rfl (keyOf_int_mk Tryz.underlying28 (by decide)) (.held (.func (.func 53) #[] #[])) [] rfl ?_; intro w7 hown7 hg7)
    | (refine wpList_insert_own (H := Value) _ rfl _ _ _ 74 rfl 28 72 lawOp Tryz.underlying74 asHeld w.heap.size 7 _ rfl hown7 (by unfold maxLen; omega) (.int .i64 57) (.func (.func 55) #[] #[]) (.int .i64 57) rfl rfl (keyOf_int_mk Tryz.underlying28 (by decide)) (.held (.func (.func 55) #[] #[])) [] rfl ?_; intro w8 hown8 hg8)
    | (refine wpList_insert_own (H := Value) _ rfl _ _ _ 74 rfl 28 72 lawOp Tryz.underlying74 asHeld w.heap.size 8 _ rfl hown8 (by unfold maxLen; omega) (.int .i64 58) (.func (.func 57) #[] #[]) (.int .i64 58) rfl rfl (keyOf_int_mk Tryz.underlying28 (by decide)) (.held (.func (.func 57) #[] #[])) [] rfl ?_; intro w9 hown9 hg9))
  go_ret
  have h0 : (w.alloc (Obj.map #[] 0)).heap.size = w.heap.size + 1 := by simp
  have h1 := hg1.size
  have h2 := hg2.size
  have h3 := hg3.size
  have h4 := hg4.size
  have h5 := hg5.size
  have h6 := hg6.size
  have h7 := hg7.size
  have h8 := hg8.size
  have h9 := hg9.size
  exact ⟨_, rfl, hown9, (((((((((((Below.refl _ _).alloc (Nat.le_refl _) _).grown hg1 (by omega) (fun k hk => by cases hk; exact Nat.le_refl _)).grown hg2 (by omega) (fun k hk => by cases hk; exact Nat.le_refl _)).grown hg3 (by omega) (fun k hk => by cases hk; exact Nat.le_refl _)).grown hg4 (by omega) (fun k hk => by cases hk; exact Nat.le_refl _)).grown hg5 (by omega) (fun k hk => by cases hk; exact Nat.le_refl _)).grown hg6 (by omega) (fun k hk => by cases hk; exact Nat.le_refl _)).grown hg7 (by omega) (fun k hk => by cases hk; exact Nat.le_refl _)).grown hg8 (by omega) (fun k hk => by cases hk; exact Nat.le_refl _)).grown hg9 (by omega) (fun k hk => by cases hk; exact Nat.le_refl _))⟩
end Go.Proofs.YtccacgknmddanaaGreatDoor
end

section
namespace Go.Proofs.YtccacgknmddanaaGreatDoor
open Go.RowKit Go.Maps Ht
set_option linter.unusedVariables false
def Ht.pk (c : Bool) (a b : Int) : Int := if c then a else b
/-- what an AMO stores -/
def Ht.amoP (op : Nat) (a b : Int) : Int := match op with
  | 51 => Ar.add a b
  | 52 => bits .xor .u32 a b
  | 53 => bits .and .u32 a b
  | 54 => bits .or .u32 a b
  | 55 => pk (Ar.less a b) a b
  | 56 => pk (Ar.less a b) b a
  | 57 => pk (Ar.lessu a b) a b
  | 58 => pk (Ar.lessu a b) b a
  | _ => b
theorem lesser_Less (a b : Int) (ha : Ar.Wd a) (hb : Ar.Wd b) (w : World) :
    Calls Tryz.prog 51 #[.int .u32 a, .int .u32 b, .func (.func 52) #[] #[]] w fun e w' => e = .returned (.int .u32 (pk (Ar.less a b) a b)) ∧ w = w' := by
  have HA := Lib.hid ha; have HB := Lib.hid hb; clear ha hb
  by_cases hl : Ar.less a b = true
  · rw [show pk (Ar.less a b) a b = a by rw [hl]; rfl]
    have HL := Lib.hid hl; clear hl
    go_enter Tryz.func51, Tryz.ntmps51
    go_wp2_with fail
    refine (less_any _ _ HA.out HB.out _).mono ?_
    rintro e w1 ⟨rfl, rfl⟩
    rw [HL.out]
    go_wp2
    go_ret
    exact ⟨rfl, rfl⟩
  · rw [show pk (Ar.less a b) a b = b by rw [show Ar.less a b = false by simpa using hl]; rfl]
    have hl' : Ar.less a b = false := by simpa using hl
    have HL := Lib.hid hl'; clear hl hl'
    go_enter Tryz.func51, Tryz.ntmps51
    go_wp2_with fail
    refine (less_any _ _ HA.out HB.out _).mono ?_
    rintro e w1 ⟨rfl, rfl⟩
    rw [HL.out]
    go_wp2
    go_ret
    exact ⟨rfl, rfl⟩
theorem lesser_LessU (a b : Int) (ha : Ar.Wd a) (hb : Ar.Wd b) (w : World) :
    Calls Tryz.prog 51 #[.int .u32 a, .int .u32 b, .func (.func 56) #[] #[]] w fun e w' => e = .returned (.int .u32 (pk (Ar.lessu a b) a b)) ∧ w = w' := by
  have HA := Lib.hid ha; have HB := Lib.hid hb; clear ha hb
  by_cases hl : Ar.lessu a b = true
  · rw [show pk (Ar.lessu a b) a b = a by rw [hl]; rfl]
    have HL := Lib.hid hl; clear hl
    go_enter Tryz.func51, Tryz.ntmps51
    go_wp2_with fail
    refine (lessu_any _ _ _).mono ?_
    rintro e w1 ⟨rfl, rfl⟩
    rw [HL.out]
    go_wp2
    go_ret
    exact ⟨rfl, rfl⟩
  · rw [show pk (Ar.lessu a b) a b = b by rw [show Ar.lessu a b = false by simpa using hl]; rfl]
    have hl' : Ar.lessu a b = false := by simpa using hl
    have HL := Lib.hid hl'; clear hl hl'
    go_enter Tryz.func51, Tryz.ntmps51
    go_wp2_with fail
    refine (lessu_any _ _ _).mono ?_
    rintro e w1 ⟨rfl, rfl⟩
    rw [HL.out]
    go_wp2
    go_ret
    exact ⟨rfl, rfl⟩
theorem greater_Less (a b : Int) (ha : Ar.Wd a) (hb : Ar.Wd b) (w : World) :
    Calls Tryz.prog 54 #[.int .u32 a, .int .u32 b, .func (.func 52) #[] #[]] w fun e w' => e = .returned (.int .u32 (pk (Ar.less a b) b a)) ∧ w = w' := by
  have HA := Lib.hid ha; have HB := Lib.hid hb; clear ha hb
  by_cases hl : Ar.less a b = true
  · rw [show pk (Ar.less a b) b a = b by rw [hl]; rfl]
    have HL := Lib.hid hl; clear hl
    go_enter Tryz.func54, Tryz.ntmps54
    go_wp2_with fail
    refine (less_any _ _ HA.out HB.out _).mono ?_
    rintro e w1 ⟨rfl, rfl⟩
    rw [HL.out]
    go_wp2
    go_ret
    exact ⟨rfl, rfl⟩
  · rw [show pk (Ar.less a b) b a = a by rw [show Ar.less a b = false by simpa using hl]; rfl]
    have hl' : Ar.less a b = false := by simpa using hl
    have HL := Lib.hid hl'; clear hl hl'
    go_enter Tryz.func54, Tryz.ntmps54
    go_wp2_with fail
    refine (less_any _ _ HA.out HB.out _).mono ?_
    rintro e w1 ⟨rfl, rfl⟩
    rw [HL.out]
    go_wp2
    go_ret
    exact ⟨rfl, rfl⟩
theorem greater_LessU (a b : Int) (ha : Ar.Wd a) (hb : Ar.Wd b) (w : World) :
    Calls Tryz.prog 54 #[.int .u32 a, .int .u32 b, .func (.func 56) #[] #[]] w fun e w' => e = .returned (.int .u32 (pk (Ar.lessu a b) b a)) ∧ w = w' := by
  have HA := Lib.hid ha; have HB := Lib.hid hb; clear ha hb
  by_cases hl : Ar.lessu a b = true
  · rw [show pk (Ar.lessu a b) b a = b by rw [hl]; rfl]
    have HL := Lib.hid hl; clear hl
    go_enter Tryz.func54, Tryz.ntmps54
    go_wp2_with fail
    refine (lessu_any _ _ _).mono ?_
    rintro e w1 ⟨rfl, rfl⟩
    rw [HL.out]
    go_wp2
    go_ret
    exact ⟨rfl, rfl⟩
  · rw [show pk (Ar.lessu a b) b a = a by rw [show Ar.lessu a b = false by simpa using hl]; rfl]
    have hl' : Ar.lessu a b = false := by simpa using hl
    have HL := Lib.hid hl'; clear hl hl'
    go_enter Tryz.func54, Tryz.ntmps54
    go_wp2_with fail
    refine (lessu_any _ _ _).mono ?_
    rintro e w1 ⟨rfl, rfl⟩
    rw [HL.out]
    go_wp2
    go_ret
    exact ⟨rfl, rfl⟩
theorem as50 (a b : Int) (ha : Ar.Wd a) (hb : Ar.Wd b) (w : World) :
    Calls Tryz.prog 45 #[.int .u32 a, .int .u32 b] w fun e w' => e = .returned (.int .u32 (amoP 50 a b)) ∧ w = w' := by
  have HA := Lib.hid ha; have HB := Lib.hid hb; clear ha hb
  go_enter Tryz.func45, Tryz.ntmps45
  go_wp2
  go_ret
  exact ⟨rfl, rfl⟩
theorem as52 (a b : Int) (ha : Ar.Wd a) (hb : Ar.Wd b) (w : World) :
    Calls Tryz.prog 47 #[.int .u32 a, .int .u32 b] w fun e w' => e = .returned (.int .u32 (amoP 52 a b)) ∧ w = w' := by
  have HA := Lib.hid ha; have HB := Lib.hid hb; clear ha hb
  go_enter Tryz.func47, Tryz.ntmps47
  go_wp2
  go_ret
  exact ⟨rfl, rfl⟩
theorem as53 (a b : Int) (ha : Ar.Wd a) (hb : Ar.Wd b) (w : World) :
    Calls Tryz.prog 48 #[.int .u32 a, .int .u32 b] w fun e w' => e = .returned (.int .u32 (amoP 53 a b)) ∧ w = w' := by
  have HA := Lib.hid ha; have HB := Lib.hid hb; clear ha hb
  go_enter Tryz.func48, Tryz.ntmps48
  go_wp2
  go_ret
  exact ⟨rfl, rfl⟩
theorem as54 (a b : Int) (ha : Ar.Wd a) (hb : Ar.Wd b) (w : World) :
    Calls Tryz.prog 49 #[.int .u32 a, .int .u32 b] w fun e w' => e = .returned (.int .u32 (amoP 54 a b)) ∧ w = w' := by
  have HA := Lib.hid ha; have HB := Lib.hid hb; clear ha hb
  go_enter Tryz.func49, Tryz.ntmps49
  go_wp2
  go_ret
  exact ⟨rfl, rfl⟩
theorem as55 (a b : Int) (ha : Ar.Wd a) (hb : Ar.Wd b) (w : World) :
    Calls Tryz.prog 50 #[.int .u32 a, .int .u32 b] w fun e w' => e = .returned (.int .u32 (amoP 55 a b)) ∧ w = w' := by
  have HA := Lib.hid ha; have HB := Lib.hid hb; clear ha hb
  go_enter Tryz.func50, Tryz.ntmps50
  go_wp2_with fail
  refine (lesser_Less _ _ HA.out HB.out _).mono ?_
  rintro e w1 ⟨rfl, rfl⟩
  go_wp2
  go_ret
  exact ⟨rfl, rfl⟩
theorem as56 (a b : Int) (ha : Ar.Wd a) (hb : Ar.Wd b) (w : World) :
    Calls Tryz.prog 53 #[.int .u32 a, .int .u32 b] w fun e w' => e = .returned (.int .u32 (amoP 56 a b)) ∧ w = w' := by
  have HA := Lib.hid ha; have HB := Lib.hid hb; clear ha hb
  go_enter Tryz.func53, Tryz.ntmps53
  go_wp2_with fail
  refine (greater_Less _ _ HA.out HB.out _).mono ?_
  rintro e w1 ⟨rfl, rfl⟩
  go_wp2
  go_ret
  exact ⟨rfl, rfl⟩
theorem as57 (a b : Int) (ha : Ar.Wd a) (hb : Ar.Wd b) (w : World) :
    Calls Tryz.prog 55 #[.int .u32 a, .int .u32 b] w fun e w' => e = .returned (.int .u32 (amoP 57 a b)) ∧ w = w' := by
  have HA := Lib.hid ha; have HB := Lib.hid hb; clear ha hb
  go_enter Tryz.func55, Tryz.ntmps55
  go_wp2_with fail
  refine (lesser_LessU _ _ HA.out HB.out _).mono ?_
  rintro e w1 ⟨rfl, rfl⟩
  go_wp2
  go_ret
  exact ⟨rfl, rfl⟩
theorem as58 (a b : Int) (ha : Ar.Wd a) (hb : Ar.Wd b) (w : World) :
    Calls Tryz.prog 57 #[.int .u32 a, .int .u32 b] w fun e w' => e = .returned (.int .u32 (amoP 58 a b)) ∧ w = w' := by
  have HA := Lib.hid ha; have HB := Lib.hid hb; clear ha hb
  go_enter Tryz.func57, Tryz.ntmps57
  go_wp2_with fail
  refine (greater_LessU _ _ HA.out HB.out _).mono ?_
  rintro e w1 ⟨rfl, rfl⟩
  go_wp2
  go_ret
  exact ⟨rfl, rfl⟩
theorem amo_50 (a b : Int) (ha : Ar.Wd a) (hb : Ar.Wd b) (w : World) :
    Calls Tryz.prog 19 #[.int .i64 50, .int .u32 a, .int .u32 b] w fun e w' => e = .returned (.tuple #[.int .u32 (amoP 50 a b), .int .i64 0]) ∧ Below w.heap.size w w' := by
  have HA := Lib.hid ha; have HB := Lib.hid hb; clear ha hb
  go_enter Tryz.func19, Tryz.ntmps19
  go_wp2_with fail
  refine (amoStores_any _).mono ?_
  rintro e w1 ⟨r, rfl, hown, hb⟩
  have hl := (amoStores_at hown).1
  have HB1 := Lib.hid hb; clear hown hb
  go_wp2_with fail
  refine (as50 _ _ HA.out HB.out _).mono ?_
  rintro e w2 ⟨rfl, rfl⟩
  go_wp2
  go_ret2
  exact ⟨rfl, HB1.out⟩
theorem amo_51 (a b : Int) (ha : Ar.Wd a) (hb : Ar.Wd b) (w : World) :
    Calls Tryz.prog 19 #[.int .i64 51, .int .u32 a, .int .u32 b] w fun e w' => e = .returned (.tuple #[.int .u32 (amoP 51 a b), .int .i64 0]) ∧ Below w.heap.size w w' := by
  have HA := Lib.hid ha; have HB := Lib.hid hb; clear ha hb
  go_enter Tryz.func19, Tryz.ntmps19
  go_wp2_with fail
  refine (amoStores_any _).mono ?_
  rintro e w1 ⟨r, rfl, hown, hb⟩
  have hl := (amoStores_at hown).2.1
  have HB1 := Lib.hid hb; clear hown hb
  go_wp2_with fail
  refine (add_any _ _ _).mono ?_
  rintro e w2 ⟨rfl, rfl⟩
  go_wp2
  go_ret2
  exact ⟨rfl, HB1.out⟩
theorem amo_52 (a b : Int) (ha : Ar.Wd a) (hb : Ar.Wd b) (w : World) :
    Calls Tryz.prog 19 #[.int .i64 52, .int .u32 a, .int .u32 b] w fun e w' => e = .returned (.tuple #[.int .u32 (amoP 52 a b), .int .i64 0]) ∧ Below w.heap.size w w' := by
  have HA := Lib.hid ha; have HB := Lib.hid hb; clear ha hb
  go_enter Tryz.func19, Tryz.ntmps19
  go_wp2_with fail
  refine (amoStores_any _).mono ?_
  rintro e w1 ⟨r, rfl, hown, hb⟩
  have hl := (amoStores_at hown).2.2.1
  have HB1 := Lib.hid hb; clear hown hb
  go_wp2_with fail
  refine (as52 _ _ HA.out HB.out _).mono ?_
  rintro e w2 ⟨rfl, rfl⟩
  go_wp2
  go_ret2
  exact ⟨rfl, HB1.out⟩
theorem amo_53 (a b : Int) (ha : Ar.Wd a) (hb : Ar.Wd b) (w : World) :
    Calls Tryz.prog 19 #[.int .i64 53, .int .u32 a, .int .u32 b] w fun e w' => e = .returned (.tuple #[.int .u32 (amoP 53 a b), .int .i64 0]) ∧ Below w.heap.size w w' := by
  have HA := Lib.hid ha; have HB := Lib.hid hb; clear ha hb
  go_enter Tryz.func19, Tryz.ntmps19
  go_wp2_with fail
  refine (amoStores_any _).mono ?_
  rintro e w1 ⟨r, rfl, hown, hb⟩
  have hl := (amoStores_at hown).2.2.2.1
  have HB1 := Lib.hid hb; clear hown hb
  go_wp2_with fail
  refine (as53 _ _ HA.out HB.out _).mono ?_
  rintro e w2 ⟨rfl, rfl⟩
  go_wp2
  go_ret2
  exact ⟨rfl, HB1.out⟩
theorem amo_54 (a b : Int) (ha : Ar.Wd a) (hb : Ar.Wd b) (w : World) :
    Calls Tryz.prog 19 #[.int .i64 54, .int .u32 a, .int .u32 b] w fun e w' => e = .returned (.tuple #[.int .u32 (amoP 54 a b), .int .i64 0]) ∧ Below w.heap.size w w' := by
  have HA := Lib.hid ha; have HB := Lib.hid hb; clear ha hb
  go_enter Tryz.func19, Tryz.ntmps19
  go_wp2_with fail
  refine (amoStores_any _).mono ?_
  rintro e w1 ⟨r, rfl, hown, hb⟩
  have hl := (amoStores_at hown).2.2.2.2.1
  have HB1 := Lib.hid hb; clear hown hb
  go_wp2_with fail
  refine (as54 _ _ HA.out HB.out _).mono ?_
  rintro e w2 ⟨rfl, rfl⟩
  go_wp2
  go_ret2
  exact ⟨rfl, HB1.out⟩
theorem amo_55 (a b : Int) (ha : Ar.Wd a) (hb : Ar.Wd b) (w : World) :
    Calls Tryz.prog 19 #[.int .i64 55, .int .u32 a, .int .u32 b] w fun e w' => e = .returned (.tuple #[.int .u32 (amoP 55 a b), .int .i64 0]) ∧ Below w.heap.size w w' := by
  have HA := Lib.hid ha; have HB := Lib.hid hb; clear ha hb
  go_enter Tryz.func19, Tryz.ntmps19
  go_wp2_with fail
  refine (amoStores_any _).mono ?_
  rintro e w1 ⟨r, rfl, hown, hb⟩
  have hl := (amoStores_at hown).2.2.2.2.2.1
  have HB1 := Lib.hid hb; clear hown hb
  go_wp2_with fail
  refine (as55 _ _ HA.out HB.out _).mono ?_
  rintro e w2 ⟨rfl, rfl⟩
  go_wp2
  go_ret2
  exact ⟨rfl, HB1.out⟩
theorem amo_56 (a b : Int) (ha : Ar.Wd a) (hb : Ar.Wd b) (w : World) :
    Calls Tryz.prog 19 #[.int .i64 56, .int .u32 a, .int .u32 b] w fun e w' => e = .returned (.tuple #[.int .u32 (amoP 56 a b), .int .i64 0]) ∧ Below w.heap.size w w' := by
  have HA := Lib.hid ha; have HB := Lib.hid hb; clear ha hb
  go_enter Tryz.func19, Tryz.ntmps19
  go_wp2_with fail
  refine (amoStores_any _).mono ?_
  rintro e w1 ⟨r, rfl, hown, hb⟩
  have hl := (amoStores_at hown).2.2.2.2.2.2.1
  have HB1 := Lib.hid hb; clear hown hb
  go_wp2_with fail
  refine (as56 _ _ HA.out HB.out _).mono ?_
  rintro e w2 ⟨rfl, rfl⟩
  go_wp2
  go_ret2
  exact ⟨rfl, HB1.out⟩
theorem amo_57 (a b : Int) (ha : Ar.Wd a) (hb : Ar.Wd b) (w : World) :
    Calls Tryz.prog 19 #[.int .i64 57, .int .u32 a, .int .u32 b] w fun e w' => e = .returned (.tuple #[.int .u32 (amoP 57 a b), .int .i64 0]) ∧ Below w.heap.size w w' := by
  have HA := Lib.hid ha; have HB := Lib.hid hb; clear ha hb
  go_enter Tryz.func19, Tryz.ntmps19
  go_wp2_with fail
  refine (amoStores_any _).mono ?_
  rintro e w1 ⟨r, rfl, hown, hb⟩
  have hl := (amoStores_at hown).2.2.2.2.2.2.2.1
  have HB1 := Lib.hid hb; clear hown hb
  go_wp2_with fail
  refine (as57 _ _ HA.out HB.out _).mono ?_
  rintro e w2 ⟨rfl, rfl⟩
  go_wp2
  go_ret2
  exact ⟨rfl, HB1.out⟩
theorem amo_58 (a b : Int) (ha : Ar.Wd a) (hb : Ar.Wd b) (w : World) :
    Calls Tryz.prog 19 #[.int .i64 58, .int .u32 a, .int .u32 b] w fun e w' => e = .returned (.tuple #[.int .u32 (amoP 58 a b), .int .i64 0]) ∧ Below w.heap.size w w' := by
  have HA := Lib.hid ha; have HB := Lib.hid hb; clear ha hb
  go_enter Tryz.func19, Tryz.ntmps19
  go_wp2_with fail
  refine (amoStores_any _).mono ?_
  rintro e w1 ⟨r, rfl, hown, hb⟩
  have hl := (amoStores_at hown).2.2.2.2.2.2.2.2
  have HB1 := Lib.hid hb; clear hown hb
  go_wp2_with fail
  refine (as58 _ _ HA.out HB.out _).mono ?_
  rintro e w2 ⟨rfl, rfl⟩
  go_wp2
  go_ret2
  exact ⟨rfl, HB1.out⟩
theorem amo_none (op : Int) (hop : op < 50 ∨ 58 < op) (hw : (Lit.int .i64 op).wf = true) (a b : Int) (w : World) :
    Calls Tryz.prog 19 #[.int .i64 op, .int .u32 a, .int .u32 b] w fun e w' => e = .returned (.tuple #[.int .u32 0, .int .i64 2]) ∧ Below w.heap.size w w' := by
  have hno : ∀ z, amoStoresD.atKey (.int .i64 op) z = z := by
    intro z
    have ne : ∀ k : Int, 50 ≤ k ∧ k ≤ 58 → Lit.int .i64 op ≠ Lit.int .i64 k := by
      intro k hk e
      injection e with _ e
      omega
    unfold amoStoresD
    rw [atKey_put_other (ne 58 (by omega)), atKey_put_other (ne 57 (by omega)), atKey_put_other (ne 56 (by omega)), atKey_put_other (ne 55 (by omega)), atKey_put_other (ne 54 (by omega)), atKey_put_other (ne 53 (by omega)), atKey_put_other (ne 52 (by omega)), atKey_put_other (ne 51 (by omega)), atKey_put_other (ne 50 (by omega))]
    rfl
  have HNO := Lib.hid hno; have HW := Lib.hid hw; clear hno hw hop
  go_enter Tryz.func19, Tryz.ntmps19
  go_wp2_with fail
  refine (amoStores_any _).mono ?_
  rintro e w1 ⟨r, rfl, hown, hb⟩
  have hl : (Instr.lookup 74 (.map (some r)) (.int .i64 op) true).run Tryz.prog w1 = .ok (.tuple #[.nilFunc, .bool false]) w1 := by
    rcases look_ok hown op HW.out with ⟨v, hr, hv⟩ | ⟨hr, hv⟩
    · have := (HNO.out (.map [])).symm.trans (hv (.map []))
      cases this
    · exact hr
  have HB1 := Lib.hid hb; clear hown hb
  go_wp2
  go_ret2
  exact ⟨rfl, HB1.out⟩
end Go.Proofs.YtccacgknmddanaaGreatDoor
end

section
namespace Go.Proofs.YtccacgknmddanaaGreatDoor
open Go.RowKit Ht
set_option linter.unusedVariables false
theorem Ht.pk_t {c : Bool} (h : c = true) (a b : Int) : pk c a b = a := by rw [h]; rfl
theorem Ht.pk_f {c : Bool} (h : c = false) (a b : Int) : pk c a b = b := by rw [h]; rfl
set_option maxRecDepth 100000 in
set_option maxHeartbeats 1000000 in
theorem ramo_50 (a b : Int) (ha : Ar.Wd a) (hb : Ar.Wd b) (w : World) :
    Calls Tryz.prog 20 #[.int .i64 50, .int .u32 a, .int .u32 b] w fun e w' => e = .returned (.int .u32 (amoP 50 a b)) ∧ Below w.heap.size w w' := by
  have HA := Lib.hid ha; have HB := Lib.hid hb; clear ha hb
  go_enter Tryz.func20, Tryz.ntmps20
  go_wp2_with fail
  refine (rsigned_any _ HA.out _).mono ?_
  rintro e w1 ⟨rfl, rfl⟩
  go_wp2_with fail
  refine (rsigned_any _ HB.out _).mono ?_
  rintro e w1 ⟨rfl, rfl⟩
  go_wp2
  go_ret
  exact ⟨rfl, Below.refl _ _⟩
set_option maxRecDepth 100000 in
set_option maxHeartbeats 1000000 in
theorem ramo_51 (a b : Int) (ha : Ar.Wd a) (hb : Ar.Wd b) (w : World) :
    Calls Tryz.prog 20 #[.int .i64 51, .int .u32 a, .int .u32 b] w fun e w' => e = .returned (.int .u32 (amoP 51 a b)) ∧ Below w.heap.size w w' := by
  have HA := Lib.hid ha; have HB := Lib.hid hb; clear ha hb
  go_enter Tryz.func20, Tryz.ntmps20
  go_wp2_with fail
  refine (rsigned_any _ HA.out _).mono ?_
  rintro e w1 ⟨rfl, rfl⟩
  go_wp2_with fail
  refine (rsigned_any _ HB.out _).mono ?_
  rintro e w1 ⟨rfl, rfl⟩
  go_wp2_with fail
  refine (radd_any _ _ HA.out HB.out _).mono ?_
  rintro e w1 ⟨rfl, rfl⟩
  go_wp2
  go_ret
  exact ⟨rfl, Below.refl _ _⟩
set_option maxRecDepth 100000 in
set_option maxHeartbeats 1000000 in
theorem ramo_52 (a b : Int) (ha : Ar.Wd a) (hb : Ar.Wd b) (w : World) :
    Calls Tryz.prog 20 #[.int .i64 52, .int .u32 a, .int .u32 b] w fun e w' => e = .returned (.int .u32 (amoP 52 a b)) ∧ Below w.heap.size w w' := by
  have HA := Lib.hid ha; have HB := Lib.hid hb; clear ha hb
  go_enter Tryz.func20, Tryz.ntmps20
  go_wp2_with fail
  refine (rsigned_any _ HA.out _).mono ?_
  rintro e w1 ⟨rfl, rfl⟩
  go_wp2_with fail
  refine (rsigned_any _ HB.out _).mono ?_
  rintro e w1 ⟨rfl, rfl⟩
  go_wp2_with fail
  refine (rbw 0 .xor (by simp) _ _ HA.out HB.out _).mono ?_
  rintro e w1 ⟨rfl, hbb⟩
  have HBB := Lib.hid hbb; clear hbb
  go_wp2
  go_ret
  exact ⟨rfl, HBB.out⟩
set_option maxRecDepth 100000 in
set_option maxHeartbeats 1000000 in
theorem ramo_53 (a b : Int) (ha : Ar.Wd a) (hb : Ar.Wd b) (w : World) :
    Calls Tryz.prog 20 #[.int .i64 53, .int .u32 a, .int .u32 b] w fun e w' => e = .returned (.int .u32 (amoP 53 a b)) ∧ Below w.heap.size w w' := by
  have HA := Lib.hid ha; have HB := Lib.hid hb; clear ha hb
  go_enter Tryz.func20, Tryz.ntmps20
  go_wp2_with fail
  refine (rsigned_any _ HA.out _).mono ?_
  rintro e w1 ⟨rfl, rfl⟩
  go_wp2_with fail
  refine (rsigned_any _ HB.out _).mono ?_
  rintro e w1 ⟨rfl, rfl⟩
  go_wp2_with fail
  refine (rbw 2 .and (by simp) _ _ HA.out HB.out _).mono ?_
  rintro e w1 ⟨rfl, hbb⟩
  have HBB := Lib.hid hbb; clear hbb
  go_wp2
  go_ret
  exact ⟨rfl, HBB.out⟩
set_option maxRecDepth 100000 in
set_option maxHeartbeats 1000000 in
theorem ramo_54 (a b : Int) (ha : Ar.Wd a) (hb : Ar.Wd b) (w : World) :
    Calls Tryz.prog 20 #[.int .i64 54, .int .u32 a, .int .u32 b] w fun e w' => e = .returned (.int .u32 (amoP 54 a b)) ∧ Below w.heap.size w w' := by
  have HA := Lib.hid ha; have HB := Lib.hid hb; clear ha hb
  go_enter Tryz.func20, Tryz.ntmps20
  go_wp2_with fail
  refine (rsigned_any _ HA.out _).mono ?_
  rintro e w1 ⟨rfl, rfl⟩
  go_wp2_with fail
  refine (rsigned_any _ HB.out _).mono ?_
  rintro e w1 ⟨rfl, rfl⟩
  go_wp2_with fail
  refine (rbw 1 .or (by simp) _ _ HA.out HB.out _).mono ?_
  rintro e w1 ⟨rfl, hbb⟩
  have HBB := Lib.hid hbb; clear hbb
  go_wp2
  go_ret
  exact ⟨rfl, HBB.out⟩
set_option maxRecDepth 100000 in
set_option maxHeartbeats 1000000 in
theorem ramo_55 (a b : Int) (ha : Ar.Wd a) (hb : Ar.Wd b) (w : World) :
    Calls Tryz.prog 20 #[.int .i64 55, .int .u32 a, .int .u32 b] w fun e w' => e = .returned (.int .u32 (amoP 55 a b)) ∧ Below w.heap.size w w' := by
  have HA := Lib.hid ha; have HB := Lib.hid hb; clear ha hb
  by_cases hl : Is.sg a < Is.sg b
  · have e1 : amoP 55 a b = a := pk_t (decide_eq_true (show Ar.sg a < Ar.sg b from hl)) _ _
    rw [e1]
    clear e1
    go_enter Tryz.func20, Tryz.ntmps20
    go_wp2_with fail
    refine (rsigned_any _ HA.out _).mono ?_
    rintro e w1 ⟨rfl, rfl⟩
    go_wp2_with fail
    refine (rsigned_any _ HB.out _).mono ?_
    rintro e w1 ⟨rfl, rfl⟩
    go_wp2
    go_ret
    exact ⟨rfl, Below.refl _ _⟩
  · have e1 : amoP 55 a b = b := pk_f (decide_eq_false (show ¬ Ar.sg a < Ar.sg b from hl)) _ _
    rw [e1]
    clear e1
    go_enter Tryz.func20, Tryz.ntmps20
    go_wp2_with fail
    refine (rsigned_any _ HA.out _).mono ?_
    rintro e w1 ⟨rfl, rfl⟩
    go_wp2_with fail
    refine (rsigned_any _ HB.out _).mono ?_
    rintro e w1 ⟨rfl, rfl⟩
    go_wp2
    go_ret
    exact ⟨rfl, Below.refl _ _⟩
set_option maxRecDepth 100000 in
set_option maxHeartbeats 1000000 in
theorem ramo_56 (a b : Int) (ha : Ar.Wd a) (hb : Ar.Wd b) (w : World) :
    Calls Tryz.prog 20 #[.int .i64 56, .int .u32 a, .int .u32 b] w fun e w' => e = .returned (.int .u32 (amoP 56 a b)) ∧ Below w.heap.size w w' := by
  have HA := Lib.hid ha; have HB := Lib.hid hb; clear ha hb
  by_cases hl : Is.sg a < Is.sg b
  · have e1 : amoP 56 a b = b := pk_t (decide_eq_true (show Ar.sg a < Ar.sg b from hl)) _ _
    rw [e1]
    clear e1
    go_enter Tryz.func20, Tryz.ntmps20
    go_wp2_with fail
    refine (rsigned_any _ HA.out _).mono ?_
    rintro e w1 ⟨rfl, rfl⟩
    go_wp2_with fail
    refine (rsigned_any _ HB.out _).mono ?_
    rintro e w1 ⟨rfl, rfl⟩
    go_wp2
    go_ret
    exact ⟨rfl, Below.refl _ _⟩
  · have e1 : amoP 56 a b = a := pk_f (decide_eq_false (show ¬ Ar.sg a < Ar.sg b from hl)) _ _
    rw [e1]
    clear e1
    by_cases hg : Is.sg b < Is.sg a
    · go_enter Tryz.func20, Tryz.ntmps20
      go_wp2_with fail
      refine (rsigned_any _ HA.out _).mono ?_
      rintro e w1 ⟨rfl, rfl⟩
      go_wp2_with fail
      refine (rsigned_any _ HB.out _).mono ?_
      rintro e w1 ⟨rfl, rfl⟩
      go_wp2
      go_ret
      exact ⟨rfl, Below.refl _ _⟩
    · have heq : Is.sg a = Is.sg b := by omega
      obtain rfl : a = b := Ar.sg_inj HA.out HB.out (show Ar.sg a = Ar.sg b from heq)
      go_enter Tryz.func20, Tryz.ntmps20
      go_wp2_with fail
      refine (rsigned_any _ HA.out _).mono ?_
      rintro e w1 ⟨rfl, rfl⟩
      go_wp2_with fail
      refine (rsigned_any _ HB.out _).mono ?_
      rintro e w1 ⟨rfl, rfl⟩
      go_wp2
      go_ret
      exact ⟨rfl, Below.refl _ _⟩
set_option maxRecDepth 100000 in
set_option maxHeartbeats 1000000 in
theorem ramo_57 (a b : Int) (ha : Ar.Wd a) (hb : Ar.Wd b) (w : World) :
    Calls Tryz.prog 20 #[.int .i64 57, .int .u32 a, .int .u32 b] w fun e w' => e = .returned (.int .u32 (amoP 57 a b)) ∧ Below w.heap.size w w' := by
  have HA := Lib.hid ha; have HB := Lib.hid hb; clear ha hb
  by_cases hl : a < b
  · have e1 : amoP 57 a b = a := pk_t (decide_eq_true (show a < b from hl)) _ _
    rw [e1]
    clear e1
    go_enter Tryz.func20, Tryz.ntmps20
    go_wp2_with fail
    refine (rsigned_any _ HA.out _).mono ?_
    rintro e w1 ⟨rfl, rfl⟩
    go_wp2_with fail
    refine (rsigned_any _ HB.out _).mono ?_
    rintro e w1 ⟨rfl, rfl⟩
    go_wp2
    go_ret
    exact ⟨rfl, Below.refl _ _⟩
  · have e1 : amoP 57 a b = b := pk_f (decide_eq_false (show ¬ a < b from hl)) _ _
    rw [e1]
    clear e1
    go_enter Tryz.func20, Tryz.ntmps20
    go_wp2_with fail
    refine (rsigned_any _ HA.out _).mono ?_
    rintro e w1 ⟨rfl, rfl⟩
    go_wp2_with fail
    refine (rsigned_any _ HB.out _).mono ?_
    rintro e w1 ⟨rfl, rfl⟩
    go_wp2
    go_ret
    exact ⟨rfl, Below.refl _ _⟩
set_option maxRecDepth 100000 in
set_option maxHeartbeats 1000000 in
theorem ramo_58 (a b : Int) (ha : Ar.Wd a) (hb : Ar.Wd b) (w : World) :
    Calls Tryz.prog 20 #[.int .i64 58, .int .u32 a, .int .u32 b] w fun e w' => e = .returned (.int .u32 (amoP 58 a b)) ∧ Below w.heap.size w w' := by
  have HA := Lib.hid ha; have HB := Lib.hid hb; clear ha hb
  by_cases hl : a < b
  · have e1 : amoP 58 a b = b := pk_t (decide_eq_true (show a < b from hl)) _ _
    rw [e1]
    clear e1
    go_enter Tryz.func20, Tryz.ntmps20
    go_wp2_with fail
    refine (rsigned_any _ HA.out _).mono ?_
    rintro e w1 ⟨rfl, rfl⟩
    go_wp2_with fail
    refine (rsigned_any _ HB.out _).mono ?_
    rintro e w1 ⟨rfl, rfl⟩
    go_wp2
    go_ret
    exact ⟨rfl, Below.refl _ _⟩
  · have e1 : amoP 58 a b = a := pk_f (decide_eq_false (show ¬ a < b from hl)) _ _
    rw [e1]
    clear e1
    by_cases hg : b < a
    · go_enter Tryz.func20, Tryz.ntmps20
      go_wp2_with fail
      refine (rsigned_any _ HA.out _).mono ?_
      rintro e w1 ⟨rfl, rfl⟩
      go_wp2_with fail
      refine (rsigned_any _ HB.out _).mono ?_
      rintro e w1 ⟨rfl, rfl⟩
      go_wp2
      go_ret
      exact ⟨rfl, Below.refl _ _⟩
    · have heq : a = b := by omega
      obtain rfl : a = b := heq
      go_enter Tryz.func20, Tryz.ntmps20
      go_wp2_with fail
      refine (rsigned_any _ HA.out _).mono ?_
      rintro e w1 ⟨rfl, rfl⟩
      go_wp2_with fail
      refine (rsigned_any _ HB.out _).mono ?_
      rintro e w1 ⟨rfl, rfl⟩
      go_wp2
      go_ret
      exact ⟨rfl, Below.refl _ _⟩
end Go.Proofs.YtccacgknmddanaaGreatDoor
end
