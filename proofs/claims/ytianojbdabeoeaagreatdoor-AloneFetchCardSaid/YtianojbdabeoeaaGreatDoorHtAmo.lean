/-
  What an AMO stores: the program's own answer.
-/
import Derived.Test.YtianojbdabeoeaaGreatDoorHtMapC
import Derived.Test.YtianojbdabeoeaaGreatDoorHtMeans
import Derived.Maps.Views
namespace Go.Proofs.YtianojbdabeoeaaGreatDoor
open Go.RowKit Go.Maps Ht
set_option linter.unusedVariables false
def Ht.pk (c : Bool) (a b : Int) : Int := if c then a else b
/-- what an AMO stores -/
def Ht.amoP (op : Nat) (a b : Int) : Int := match op with
  | 51 => Ar.add a b
  | 52 => bits .xor .u32 a b
  | 53 => bits .and .u32 a b
  | 54 => bits .or .u32 a b
  | 55 => pk (Ar.less a b) a b
  | 56 => pk (Ar.less a b) b a
  | 57 => pk (Ar.lessu a b) a b
  | 58 => pk (Ar.lessu a b) b a
  | _ => b
theorem lesser_Less (a b : Int) (ha : Ar.Wd a) (hb : Ar.Wd b) (w : World) :
    Calls Tryz.prog 225 #[.int .u32 a, .int .u32 b, .func (.func 116) #[] #[]] w fun e w' => e = .returned (.int .u32 (pk (Ar.less a b) a b)) ∧ w = w' := by
  have HA := Lib.hid ha; have HB := Lib.hid hb; clear ha hb
  by_cases hl : Ar.less a b = true
  · rw [show pk (Ar.less a b) a b = a by rw [hl]; rfl]
    have HL := Lib.hid hl; clear hl
    go_enter Tryz.func225, Tryz.ntmps225
    go_wp2_with fail
    refine (less_any _ _ HA.out HB.out _).mono ?_
    rintro e w1 ⟨rfl, rfl⟩
    rw [HL.out]
    go_wp2
    go_ret
    exact ⟨rfl, rfl⟩
  · rw [show pk (Ar.less a b) a b = b by rw [show Ar.less a b = false by simpa using hl]; rfl]
    have hl' : Ar.less a b = false := by simpa using hl
    have HL := Lib.hid hl'; clear hl hl'
    go_enter Tryz.func225, Tryz.ntmps225
    go_wp2_with fail
    refine (less_any _ _ HA.out HB.out _).mono ?_
    rintro e w1 ⟨rfl, rfl⟩
    rw [HL.out]
    go_wp2
    go_ret
    exact ⟨rfl, rfl⟩
theorem lesser_LessU (a b : Int) (ha : Ar.Wd a) (hb : Ar.Wd b) (w : World) :
    Calls Tryz.prog 225 #[.int .u32 a, .int .u32 b, .func (.func 119) #[] #[]] w fun e w' => e = .returned (.int .u32 (pk (Ar.lessu a b) a b)) ∧ w = w' := by
  have HA := Lib.hid ha; have HB := Lib.hid hb; clear ha hb
  by_cases hl : Ar.lessu a b = true
  · rw [show pk (Ar.lessu a b) a b = a by rw [hl]; rfl]
    have HL := Lib.hid hl; clear hl
    go_enter Tryz.func225, Tryz.ntmps225
    go_wp2_with fail
    refine (lessu_any _ _ _).mono ?_
    rintro e w1 ⟨rfl, rfl⟩
    rw [HL.out]
    go_wp2
    go_ret
    exact ⟨rfl, rfl⟩
  · rw [show pk (Ar.lessu a b) a b = b by rw [show Ar.lessu a b = false by simpa using hl]; rfl]
    have hl' : Ar.lessu a b = false := by simpa using hl
    have HL := Lib.hid hl'; clear hl hl'
    go_enter Tryz.func225, Tryz.ntmps225
    go_wp2_with fail
    refine (lessu_any _ _ _).mono ?_
    rintro e w1 ⟨rfl, rfl⟩
    rw [HL.out]
    go_wp2
    go_ret
    exact ⟨rfl, rfl⟩
theorem greater_Less (a b : Int) (ha : Ar.Wd a) (hb : Ar.Wd b) (w : World) :
    Calls Tryz.prog 227 #[.int .u32 a, .int .u32 b, .func (.func 116) #[] #[]] w fun e w' => e = .returned (.int .u32 (pk (Ar.less a b) b a)) ∧ w = w' := by
  have HA := Lib.hid ha; have HB := Lib.hid hb; clear ha hb
  by_cases hl : Ar.less a b = true
  · rw [show pk (Ar.less a b) b a = b by rw [hl]; rfl]
    have HL := Lib.hid hl; clear hl
    go_enter Tryz.func227, Tryz.ntmps227
    go_wp2_with fail
    refine (less_any _ _ HA.out HB.out _).mono ?_
    rintro e w1 ⟨rfl, rfl⟩
    rw [HL.out]
    go_wp2
    go_ret
    exact ⟨rfl, rfl⟩
  · rw [show pk (Ar.less a b) b a = a by rw [show Ar.less a b = false by simpa using hl]; rfl]
    have hl' : Ar.less a b = false := by simpa using hl
    have HL := Lib.hid hl'; clear hl hl'
    go_enter Tryz.func227, Tryz.ntmps227
    go_wp2_with fail
    refine (less_any _ _ HA.out HB.out _).mono ?_
    rintro e w1 ⟨rfl, rfl⟩
    rw [HL.out]
    go_wp2
    go_ret
    exact ⟨rfl, rfl⟩
theorem greater_LessU (a b : Int) (ha : Ar.Wd a) (hb : Ar.Wd b) (w : World) :
    Calls Tryz.prog 227 #[.int .u32 a, .int .u32 b, .func (.func 119) #[] #[]] w fun e w' => e = .returned (.int .u32 (pk (Ar.lessu a b) b a)) ∧ w = w' := by
  have HA := Lib.hid ha; have HB := Lib.hid hb; clear ha hb
  by_cases hl : Ar.lessu a b = true
  · rw [show pk (Ar.lessu a b) b a = b by rw [hl]; rfl]
    have HL := Lib.hid hl; clear hl
    go_enter Tryz.func227, Tryz.ntmps227
    go_wp2_with fail
    refine (lessu_any _ _ _).mono ?_
    rintro e w1 ⟨rfl, rfl⟩
    rw [HL.out]
    go_wp2
    go_ret
    exact ⟨rfl, rfl⟩
  · rw [show pk (Ar.lessu a b) b a = a by rw [show Ar.lessu a b = false by simpa using hl]; rfl]
    have hl' : Ar.lessu a b = false := by simpa using hl
    have HL := Lib.hid hl'; clear hl hl'
    go_enter Tryz.func227, Tryz.ntmps227
    go_wp2_with fail
    refine (lessu_any _ _ _).mono ?_
    rintro e w1 ⟨rfl, rfl⟩
    rw [HL.out]
    go_wp2
    go_ret
    exact ⟨rfl, rfl⟩
theorem as50 (a b : Int) (ha : Ar.Wd a) (hb : Ar.Wd b) (w : World) :
    Calls Tryz.prog 220 #[.int .u32 a, .int .u32 b] w fun e w' => e = .returned (.int .u32 (amoP 50 a b)) ∧ w = w' := by
  have HA := Lib.hid ha; have HB := Lib.hid hb; clear ha hb
  go_enter Tryz.func220, Tryz.ntmps220
  go_wp2
  go_ret
  exact ⟨rfl, rfl⟩
theorem as52 (a b : Int) (ha : Ar.Wd a) (hb : Ar.Wd b) (w : World) :
    Calls Tryz.prog 221 #[.int .u32 a, .int .u32 b] w fun e w' => e = .returned (.int .u32 (amoP 52 a b)) ∧ w = w' := by
  have HA := Lib.hid ha; have HB := Lib.hid hb; clear ha hb
  go_enter Tryz.func221, Tryz.ntmps221
  go_wp2
  go_ret
  exact ⟨rfl, rfl⟩
theorem as53 (a b : Int) (ha : Ar.Wd a) (hb : Ar.Wd b) (w : World) :
    Calls Tryz.prog 222 #[.int .u32 a, .int .u32 b] w fun e w' => e = .returned (.int .u32 (amoP 53 a b)) ∧ w = w' := by
  have HA := Lib.hid ha; have HB := Lib.hid hb; clear ha hb
  go_enter Tryz.func222, Tryz.ntmps222
  go_wp2
  go_ret
  exact ⟨rfl, rfl⟩
theorem as54 (a b : Int) (ha : Ar.Wd a) (hb : Ar.Wd b) (w : World) :
    Calls Tryz.prog 223 #[.int .u32 a, .int .u32 b] w fun e w' => e = .returned (.int .u32 (amoP 54 a b)) ∧ w = w' := by
  have HA := Lib.hid ha; have HB := Lib.hid hb; clear ha hb
  go_enter Tryz.func223, Tryz.ntmps223
  go_wp2
  go_ret
  exact ⟨rfl, rfl⟩
theorem as55 (a b : Int) (ha : Ar.Wd a) (hb : Ar.Wd b) (w : World) :
    Calls Tryz.prog 224 #[.int .u32 a, .int .u32 b] w fun e w' => e = .returned (.int .u32 (amoP 55 a b)) ∧ w = w' := by
  have HA := Lib.hid ha; have HB := Lib.hid hb; clear ha hb
  go_enter Tryz.func224, Tryz.ntmps224
  go_wp2_with fail
  refine (lesser_Less _ _ HA.out HB.out _).mono ?_
  rintro e w1 ⟨rfl, rfl⟩
  go_wp2
  go_ret
  exact ⟨rfl, rfl⟩
theorem as56 (a b : Int) (ha : Ar.Wd a) (hb : Ar.Wd b) (w : World) :
    Calls Tryz.prog 226 #[.int .u32 a, .int .u32 b] w fun e w' => e = .returned (.int .u32 (amoP 56 a b)) ∧ w = w' := by
  have HA := Lib.hid ha; have HB := Lib.hid hb; clear ha hb
  go_enter Tryz.func226, Tryz.ntmps226
  go_wp2_with fail
  refine (greater_Less _ _ HA.out HB.out _).mono ?_
  rintro e w1 ⟨rfl, rfl⟩
  go_wp2
  go_ret
  exact ⟨rfl, rfl⟩
theorem as57 (a b : Int) (ha : Ar.Wd a) (hb : Ar.Wd b) (w : World) :
    Calls Tryz.prog 228 #[.int .u32 a, .int .u32 b] w fun e w' => e = .returned (.int .u32 (amoP 57 a b)) ∧ w = w' := by
  have HA := Lib.hid ha; have HB := Lib.hid hb; clear ha hb
  go_enter Tryz.func228, Tryz.ntmps228
  go_wp2_with fail
  refine (lesser_LessU _ _ HA.out HB.out _).mono ?_
  rintro e w1 ⟨rfl, rfl⟩
  go_wp2
  go_ret
  exact ⟨rfl, rfl⟩
theorem as58 (a b : Int) (ha : Ar.Wd a) (hb : Ar.Wd b) (w : World) :
    Calls Tryz.prog 229 #[.int .u32 a, .int .u32 b] w fun e w' => e = .returned (.int .u32 (amoP 58 a b)) ∧ w = w' := by
  have HA := Lib.hid ha; have HB := Lib.hid hb; clear ha hb
  go_enter Tryz.func229, Tryz.ntmps229
  go_wp2_with fail
  refine (greater_LessU _ _ HA.out HB.out _).mono ?_
  rintro e w1 ⟨rfl, rfl⟩
  go_wp2
  go_ret
  exact ⟨rfl, rfl⟩
theorem amo_50 (a b : Int) (ha : Ar.Wd a) (hb : Ar.Wd b) (w : World) :
    Calls Tryz.prog 100 #[.int .i64 50, .int .u32 a, .int .u32 b] w fun e w' => e = .returned (.tuple #[.int .u32 (amoP 50 a b), .int .i64 0]) ∧ Below w.heap.size w w' := by
  have HA := Lib.hid ha; have HB := Lib.hid hb; clear ha hb
  go_enter Tryz.func100, Tryz.ntmps100
  go_wp2_with fail
  refine (amoStores_any _).mono ?_
  rintro e w1 ⟨r, rfl, hown, hb⟩
  have hl := (amoStores_at hown).1
  have HB1 := Lib.hid hb; clear hown hb
  go_wp2_with fail
  refine (as50 _ _ HA.out HB.out _).mono ?_
  rintro e w2 ⟨rfl, rfl⟩
  go_wp2
  go_ret2
  exact ⟨rfl, HB1.out⟩
theorem amo_51 (a b : Int) (ha : Ar.Wd a) (hb : Ar.Wd b) (w : World) :
    Calls Tryz.prog 100 #[.int .i64 51, .int .u32 a, .int .u32 b] w fun e w' => e = .returned (.tuple #[.int .u32 (amoP 51 a b), .int .i64 0]) ∧ Below w.heap.size w w' := by
  have HA := Lib.hid ha; have HB := Lib.hid hb; clear ha hb
  go_enter Tryz.func100, Tryz.ntmps100
  go_wp2_with fail
  refine (amoStores_any _).mono ?_
  rintro e w1 ⟨r, rfl, hown, hb⟩
  have hl := (amoStores_at hown).2.1
  have HB1 := Lib.hid hb; clear hown hb
  go_wp2_with fail
  refine (add_any _ _ _).mono ?_
  rintro e w2 ⟨rfl, rfl⟩
  go_wp2
  go_ret2
  exact ⟨rfl, HB1.out⟩
theorem amo_52 (a b : Int) (ha : Ar.Wd a) (hb : Ar.Wd b) (w : World) :
    Calls Tryz.prog 100 #[.int .i64 52, .int .u32 a, .int .u32 b] w fun e w' => e = .returned (.tuple #[.int .u32 (amoP 52 a b), .int .i64 0]) ∧ Below w.heap.size w w' := by
  have HA := Lib.hid ha; have HB := Lib.hid hb; clear ha hb
  go_enter Tryz.func100, Tryz.ntmps100
  go_wp2_with fail
  refine (amoStores_any _).mono ?_
  rintro e w1 ⟨r, rfl, hown, hb⟩
  have hl := (amoStores_at hown).2.2.1
  have HB1 := Lib.hid hb; clear hown hb
  go_wp2_with fail
  refine (as52 _ _ HA.out HB.out _).mono ?_
  rintro e w2 ⟨rfl, rfl⟩
  go_wp2
  go_ret2
  exact ⟨rfl, HB1.out⟩
theorem amo_53 (a b : Int) (ha : Ar.Wd a) (hb : Ar.Wd b) (w : World) :
    Calls Tryz.prog 100 #[.int .i64 53, .int .u32 a, .int .u32 b] w fun e w' => e = .returned (.tuple #[.int .u32 (amoP 53 a b), .int .i64 0]) ∧ Below w.heap.size w w' := by
  have HA := Lib.hid ha; have HB := Lib.hid hb; clear ha hb
  go_enter Tryz.func100, Tryz.ntmps100
  go_wp2_with fail
  refine (amoStores_any _).mono ?_
  rintro e w1 ⟨r, rfl, hown, hb⟩
  have hl := (amoStores_at hown).2.2.2.1
  have HB1 := Lib.hid hb; clear hown hb
  go_wp2_with fail
  refine (as53 _ _ HA.out HB.out _).mono ?_
  rintro e w2 ⟨rfl, rfl⟩
  go_wp2
  go_ret2
  exact ⟨rfl, HB1.out⟩
theorem amo_54 (a b : Int) (ha : Ar.Wd a) (hb : Ar.Wd b) (w : World) :
    Calls Tryz.prog 100 #[.int .i64 54, .int .u32 a, .int .u32 b] w fun e w' => e = .returned (.tuple #[.int .u32 (amoP 54 a b), .int .i64 0]) ∧ Below w.heap.size w w' := by
  have HA := Lib.hid ha; have HB := Lib.hid hb; clear ha hb
  go_enter Tryz.func100, Tryz.ntmps100
  go_wp2_with fail
  refine (amoStores_any _).mono ?_
  rintro e w1 ⟨r, rfl, hown, hb⟩
  have hl := (amoStores_at hown).2.2.2.2.1
  have HB1 := Lib.hid hb; clear hown hb
  go_wp2_with fail
  refine (as54 _ _ HA.out HB.out _).mono ?_
  rintro e w2 ⟨rfl, rfl⟩
  go_wp2
  go_ret2
  exact ⟨rfl, HB1.out⟩
theorem amo_55 (a b : Int) (ha : Ar.Wd a) (hb : Ar.Wd b) (w : World) :
    Calls Tryz.prog 100 #[.int .i64 55, .int .u32 a, .int .u32 b] w fun e w' => e = .returned (.tuple #[.int .u32 (amoP 55 a b), .int .i64 0]) ∧ Below w.heap.size w w' := by
  have HA := Lib.hid ha; have HB := Lib.hid hb; clear ha hb
  go_enter Tryz.func100, Tryz.ntmps100
  go_wp2_with fail
  refine (amoStores_any _).mono ?_
  rintro e w1 ⟨r, rfl, hown, hb⟩
  have hl := (amoStores_at hown).2.2.2.2.2.1
  have HB1 := Lib.hid hb; clear hown hb
  go_wp2_with fail
  refine (as55 _ _ HA.out HB.out _).mono ?_
  rintro e w2 ⟨rfl, rfl⟩
  go_wp2
  go_ret2
  exact ⟨rfl, HB1.out⟩
theorem amo_56 (a b : Int) (ha : Ar.Wd a) (hb : Ar.Wd b) (w : World) :
    Calls Tryz.prog 100 #[.int .i64 56, .int .u32 a, .int .u32 b] w fun e w' => e = .returned (.tuple #[.int .u32 (amoP 56 a b), .int .i64 0]) ∧ Below w.heap.size w w' := by
  have HA := Lib.hid ha; have HB := Lib.hid hb; clear ha hb
  go_enter Tryz.func100, Tryz.ntmps100
  go_wp2_with fail
  refine (amoStores_any _).mono ?_
  rintro e w1 ⟨r, rfl, hown, hb⟩
  have hl := (amoStores_at hown).2.2.2.2.2.2.1
  have HB1 := Lib.hid hb; clear hown hb
  go_wp2_with fail
  refine (as56 _ _ HA.out HB.out _).mono ?_
  rintro e w2 ⟨rfl, rfl⟩
  go_wp2
  go_ret2
  exact ⟨rfl, HB1.out⟩
theorem amo_57 (a b : Int) (ha : Ar.Wd a) (hb : Ar.Wd b) (w : World) :
    Calls Tryz.prog 100 #[.int .i64 57, .int .u32 a, .int .u32 b] w fun e w' => e = .returned (.tuple #[.int .u32 (amoP 57 a b), .int .i64 0]) ∧ Below w.heap.size w w' := by
  have HA := Lib.hid ha; have HB := Lib.hid hb; clear ha hb
  go_enter Tryz.func100, Tryz.ntmps100
  go_wp2_with fail
  refine (amoStores_any _).mono ?_
  rintro e w1 ⟨r, rfl, hown, hb⟩
  have hl := (amoStores_at hown).2.2.2.2.2.2.2.1
  have HB1 := Lib.hid hb; clear hown hb
  go_wp2_with fail
  refine (as57 _ _ HA.out HB.out _).mono ?_
  rintro e w2 ⟨rfl, rfl⟩
  go_wp2
  go_ret2
  exact ⟨rfl, HB1.out⟩
theorem amo_58 (a b : Int) (ha : Ar.Wd a) (hb : Ar.Wd b) (w : World) :
    Calls Tryz.prog 100 #[.int .i64 58, .int .u32 a, .int .u32 b] w fun e w' => e = .returned (.tuple #[.int .u32 (amoP 58 a b), .int .i64 0]) ∧ Below w.heap.size w w' := by
  have HA := Lib.hid ha; have HB := Lib.hid hb; clear ha hb
  go_enter Tryz.func100, Tryz.ntmps100
  go_wp2_with fail
  refine (amoStores_any _).mono ?_
  rintro e w1 ⟨r, rfl, hown, hb⟩
  have hl := (amoStores_at hown).2.2.2.2.2.2.2.2
  have HB1 := Lib.hid hb; clear hown hb
  go_wp2_with fail
  refine (as58 _ _ HA.out HB.out _).mono ?_
  rintro e w2 ⟨rfl, rfl⟩
  go_wp2
  go_ret2
  exact ⟨rfl, HB1.out⟩
theorem amo_none (op : Int) (hop : op < 50 ∨ 58 < op) (hw : (Lit.int .i64 op).wf = true) (a b : Int) (w : World) :
    Calls Tryz.prog 100 #[.int .i64 op, .int .u32 a, .int .u32 b] w fun e w' => e = .returned (.tuple #[.int .u32 0, .int .i64 2]) ∧ Below w.heap.size w w' := by
  have hno : ∀ z, amoStoresD.atKey (.int .i64 op) z = z := by
    intro z
    have ne : ∀ k : Int, 50 ≤ k ∧ k ≤ 58 → Lit.int .i64 op ≠ Lit.int .i64 k := by
      intro k hk e
      injection e with _ e
      omega
    unfold amoStoresD
    rw [atKey_put_other (ne 58 (by omega)), atKey_put_other (ne 57 (by omega)), atKey_put_other (ne 56 (by omega)), atKey_put_other (ne 55 (by omega)), atKey_put_other (ne 54 (by omega)), atKey_put_other (ne 53 (by omega)), atKey_put_other (ne 52 (by omega)), atKey_put_other (ne 51 (by omega)), atKey_put_other (ne 50 (by omega))]
    rfl
  have HNO := Lib.hid hno; have HW := Lib.hid hw; clear hno hw hop
  go_enter Tryz.func100, Tryz.ntmps100
  go_wp2_with fail
  refine (amoStores_any _).mono ?_
  rintro e w1 ⟨r, rfl, hown, hb⟩
  have hl : (Instr.lookup 185 (.map (some r)) (.int .i64 op) true).run Tryz.prog w1 = .ok (.tuple #[.nilFunc, .bool false]) w1 := by
    rcases look_ok hown op HW.out with ⟨v, hr, hv⟩ | ⟨hr, hv⟩
    · have := (HNO.out (.map [])).symm.trans (hv (.map []))
      cases this
    · exact hr
  have HB1 := Lib.hid hb; clear hown hb
  go_wp2
  go_ret2
  exact ⟨rfl, HB1.out⟩
end Go.Proofs.YtianojbdabeoeaaGreatDoor
