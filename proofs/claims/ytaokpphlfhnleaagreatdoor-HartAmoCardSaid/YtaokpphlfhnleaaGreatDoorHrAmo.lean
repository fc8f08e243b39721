/-
  What an AMO stores: the document's own answer.
-/
import Derived.Test.YtaokpphlfhnleaaGreatDoorHrM
import Derived.Test.YtaokpphlfhnleaaGreatDoorHtAmo
namespace Go.Proofs.YtaokpphlfhnleaaGreatDoor
open Go.RowKit Ht
set_option linter.unusedVariables false
theorem Ht.pk_t {c : Bool} (h : c = true) (a b : Int) : pk c a b = a := by rw [h]; rfl
theorem Ht.pk_f {c : Bool} (h : c = false) (a b : Int) : pk c a b = b := by rw [h]; rfl
set_option maxRecDepth 100000 in
set_option maxHeartbeats 1000000 in
theorem ramo_50 (a b : Int) (ha : Ar.Wd a) (hb : Ar.Wd b) (w : World) :
    Calls Tryz.prog 20 #[.int .i64 50, .int .u32 a, .int .u32 b] w fun e w' => e = .returned (.int .u32 (amoP 50 a b)) ∧ Below w.heap.size w w' := by
  have HA := Lib.hid ha; have HB := Lib.hid hb; clear ha hb
  go_enter Tryz.func20, Tryz.ntmps20
  go_wp2_with fail
  refine (rsigned_any _ HA.out _).mono ?_
  rintro e w1 ⟨rfl, rfl⟩
  go_wp2_with fail
  refine (rsigned_any _ HB.out _).mono ?_
  rintro e w1 ⟨rfl, rfl⟩
  go_wp2
  go_ret
  exact ⟨rfl, Below.refl _ _⟩
set_option maxRecDepth 100000 in
set_option maxHeartbeats 1000000 in
theorem ramo_51 (a b : Int) (ha : Ar.Wd a) (hb : Ar.Wd b) (w : World) :
    Calls Tryz.prog 20 #[.int .i64 51, .int .u32 a, .int .u32 b] w fun e w' => e = .returned (.int .u32 (amoP 51 a b)) ∧ Below w.heap.size w w' := by
  have HA := Lib.hid ha; have HB := Lib.hid hb; clear ha hb
  go_enter Tryz.func20, Tryz.ntmps20
  go_wp2_with fail
  refine (rsigned_any _ HA.out _).mono ?_
  rintro e w1 ⟨rfl, rfl⟩
  go_wp2_with fail
  refine (rsigned_any _ HB.out _).mono ?_
  rintro e w1 ⟨rfl, rfl⟩
  go_wp2_with fail
  refine (radd_any _ _ HA.out HB.out _).mono ?_
  rintro e w1 ⟨rfl, rfl⟩
  go_wp2
  go_ret
  exact ⟨rfl, Below.refl _ _⟩
set_option maxRecDepth 100000 in
set_option maxHeartbeats 1000000 in
theorem ramo_52 (a b : Int) (ha : Ar.Wd a) (hb : Ar.Wd b) (w : World) :
    Calls Tryz.prog 20 #[.int .i64 52, .int .u32 a, .int .u32 b] w fun e w' => e = .returned (.int .u32 (amoP 52 a b)) ∧ Below w.heap.size w w' := by
  have HA := Lib.hid ha; have HB := Lib.hid hb; clear ha hb
  go_enter Tryz.func20, Tryz.ntmps20
  go_wp2_with fail
  refine (rsigned_any _ HA.out _).mono ?_
  rintro e w1 ⟨rfl, rfl⟩
  go_wp2_with fail
  refine (rsigned_any _ HB.out _).mono ?_
  rintro e w1 ⟨rfl, rfl⟩
  go_wp2_with fail
  refine (rbw 0 .xor (by simp) _ _ HA.out HB.out _).mono ?_
  rintro e w1 ⟨rfl, hbb⟩
  have HBB := Lib.hid hbb; clear hbb
  go_wp2
  go_ret
  exact ⟨rfl, HBB.out⟩
set_option maxRecDepth 100000 in
set_option maxHeartbeats 1000000 in
theorem ramo_53 (a b : Int) (ha : Ar.Wd a) (hb : Ar.Wd b) (w : World) :
    Calls Tryz.prog 20 #[.int .i64 53, .int .u32 a, .int .u32 b] w fun e w' => e = .returned (.int .u32 (amoP 53 a b)) ∧ Below w.heap.size w w' := by
  have HA := Lib.hid ha; have HB := Lib.hid hb; clear ha hb
  go_enter Tryz.func20, Tryz.ntmps20
  go_wp2_with fail
  refine (rsigned_any _ HA.out _).mono ?_
  rintro e w1 ⟨rfl, rfl⟩
  go_wp2_with fail
  refine (rsigned_any _ HB.out _).mono ?_
  rintro e w1 ⟨rfl, rfl⟩
  go_wp2_with fail
  refine (rbw 2 .and (by simp) _ _ HA.out HB.out _).mono ?_
  rintro e w1 ⟨rfl, hbb⟩
  have HBB := Lib.hid hbb; clear hbb
  go_wp2
  go_ret
  exact ⟨rfl, HBB.out⟩
set_option maxRecDepth 100000 in
set_option maxHeartbeats 1000000 in
theorem ramo_54 (a b : Int) (ha : Ar.Wd a) (hb : Ar.Wd b) (w : World) :
    Calls Tryz.prog 20 #[.int .i64 54, .int .u32 a, .int .u32 b] w fun e w' => e = .returned (.int .u32 (amoP 54 a b)) ∧ Below w.heap.size w w' := by
  have HA := Lib.hid ha; have HB := Lib.hid hb; clear ha hb
  go_enter Tryz.func20, Tryz.ntmps20
  go_wp2_with fail
  refine (rsigned_any _ HA.out _).mono ?_
  rintro e w1 ⟨rfl, rfl⟩
  go_wp2_with fail
  refine (rsigned_any _ HB.out _).mono ?_
  rintro e w1 ⟨rfl, rfl⟩
  go_wp2_with fail
  refine (rbw 1 .or (by simp) _ _ HA.out HB.out _).mono ?_
  rintro e w1 ⟨rfl, hbb⟩
  have HBB := Lib.hid hbb; clear hbb
  go_wp2
  go_ret
  exact ⟨rfl, HBB.out⟩
set_option maxRecDepth 100000 in
set_option maxHeartbeats 1000000 in
theorem ramo_55 (a b : Int) (ha : Ar.Wd a) (hb : Ar.Wd b) (w : World) :
    Calls Tryz.prog 20 #[.int .i64 55, .int .u32 a, .int .u32 b] w fun e w' => e = .returned (.int .u32 (amoP 55 a b)) ∧ Below w.heap.size w w' := by
  have HA := Lib.hid ha; have HB := Lib.hid hb; clear ha hb
  by_cases hl : Is.sg a < Is.sg b
  · have e1 : amoP 55 a b = a := pk_t (decide_eq_true (show Ar.sg a < Ar.sg b from hl)) _ _
    rw [e1]
    clear e1
    go_enter Tryz.func20, Tryz.ntmps20
    go_wp2_with fail
    refine (rsigned_any _ HA.out _).mono ?_
    rintro e w1 ⟨rfl, rfl⟩
    go_wp2_with fail
    refine (rsigned_any _ HB.out _).mono ?_
    rintro e w1 ⟨rfl, rfl⟩
    go_wp2
    go_ret
    exact ⟨rfl, Below.refl _ _⟩
  · have e1 : amoP 55 a b = b := pk_f (decide_eq_false (show ¬ Ar.sg a < Ar.sg b from hl)) _ _
    rw [e1]
    clear e1
    go_enter Tryz.func20, Tryz.ntmps20
    go_wp2_with fail
    refine (rsigned_any _ HA.out _).mono ?_
    rintro e w1 ⟨rfl, rfl⟩
    go_wp2_with fail
    refine (rsigned_any _ HB.out _).mono ?_
    rintro e w1 ⟨rfl, rfl⟩
    go_wp2
    go_ret
    exact ⟨rfl, Below.refl _ _⟩
set_option maxRecDepth 100000 in
set_option maxHeartbeats 1000000 in
theorem ramo_56 (a b : Int) (ha : Ar.Wd a) (hb : Ar.Wd b) (w : World) :
    Calls Tryz.prog 20 #[.int .i64 56, .int .u32 a, .int .u32 b] w fun e w' => e = .returned (.int .u32 (amoP 56 a b)) ∧ Below w.heap.size w w' := by
  have HA := Lib.hid ha; have HB := Lib.hid hb; clear ha hb
  by_cases hl : Is.sg a < Is.sg b
  · have e1 : amoP 56 a b = b := pk_t (decide_eq_true (show Ar.sg a < Ar.sg b from hl)) _ _
    rw [e1]
    clear e1
    go_enter Tryz.func20, Tryz.ntmps20
    go_wp2_with fail
    refine (rsigned_any _ HA.out _).mono ?_
    rintro e w1 ⟨rfl, rfl⟩
    go_wp2_with fail
    refine (rsigned_any _ HB.out _).mono ?_
    rintro e w1 ⟨rfl, rfl⟩
    go_wp2
    go_ret
    exact ⟨rfl, Below.refl _ _⟩
  · have e1 : amoP 56 a b = a := pk_f (decide_eq_false (show ¬ Ar.sg a < Ar.sg b from hl)) _ _
    rw [e1]
    clear e1
    by_cases hg : Is.sg b < Is.sg a
    · go_enter Tryz.func20, Tryz.ntmps20
      go_wp2_with fail
      refine (rsigned_any _ HA.out _).mono ?_
      rintro e w1 ⟨rfl, rfl⟩
      go_wp2_with fail
      refine (rsigned_any _ HB.out _).mono ?_
      rintro e w1 ⟨rfl, rfl⟩
      go_wp2
      go_ret
      exact ⟨rfl, Below.refl _ _⟩
    · have heq : Is.sg a = Is.sg b := by omega
      obtain rfl : a = b := Ar.sg_inj HA.out HB.out (show Ar.sg a = Ar.sg b from heq)
      go_enter Tryz.func20, Tryz.ntmps20
      go_wp2_with fail
      refine (rsigned_any _ HA.out _).mono ?_
      rintro e w1 ⟨rfl, rfl⟩
      go_wp2_with fail
      refine (rsigned_any _ HB.out _).mono ?_
      rintro e w1 ⟨rfl, rfl⟩
      go_wp2
      go_ret
      exact ⟨rfl, Below.refl _ _⟩
set_option maxRecDepth 100000 in
set_option maxHeartbeats 1000000 in
theorem ramo_57 (a b : Int) (ha : Ar.Wd a) (hb : Ar.Wd b) (w : World) :
    Calls Tryz.prog 20 #[.int .i64 57, .int .u32 a, .int .u32 b] w fun e w' => e = .returned (.int .u32 (amoP 57 a b)) ∧ Below w.heap.size w w' := by
  have HA := Lib.hid ha; have HB := Lib.hid hb; clear ha hb
  by_cases hl : a < b
  · have e1 : amoP 57 a b = a := pk_t (decide_eq_true (show a < b from hl)) _ _
    rw [e1]
    clear e1
    go_enter Tryz.func20, Tryz.ntmps20
    go_wp2_with fail
    refine (rsigned_any _ HA.out _).mono ?_
    rintro e w1 ⟨rfl, rfl⟩
    go_wp2_with fail
    refine (rsigned_any _ HB.out _).mono ?_
    rintro e w1 ⟨rfl, rfl⟩
    go_wp2
    go_ret
    exact ⟨rfl, Below.refl _ _⟩
  · have e1 : amoP 57 a b = b := pk_f (decide_eq_false (show ¬ a < b from hl)) _ _
    rw [e1]
    clear e1
    go_enter Tryz.func20, Tryz.ntmps20
    go_wp2_with fail
    refine (rsigned_any _ HA.out _).mono ?_
    rintro e w1 ⟨rfl, rfl⟩
    go_wp2_with fail
    refine (rsigned_any _ HB.out _).mono ?_
    rintro e w1 ⟨rfl, rfl⟩
    go_wp2
    go_ret
    exact ⟨rfl, Below.refl _ _⟩
set_option maxRecDepth 100000 in
set_option maxHeartbeats 1000000 in
theorem ramo_58 (a b : Int) (ha : Ar.Wd a) (hb : Ar.Wd b) (w : World) :
    Calls Tryz.prog 20 #[.int .i64 58, .int .u32 a, .int .u32 b] w fun e w' => e = .returned (.int .u32 (amoP 58 a b)) ∧ Below w.heap.size w w' := by
  have HA := Lib.hid ha; have HB := Lib.hid hb; clear ha hb
  by_cases hl : a < b
  · have e1 : amoP 58 a b = b := pk_t (decide_eq_true (show a < b from hl)) _ _
    rw [e1]
    clear e1
    go_enter Tryz.func20, Tryz.ntmps20
    go_wp2_with fail
    refine (rsigned_any _ HA.out _).mono ?_
    rintro e w1 ⟨rfl, rfl⟩
    go_wp2_with fail
    refine (rsigned_any _ HB.out _).mono ?_
    rintro e w1 ⟨rfl, rfl⟩
    go_wp2
    go_ret
    exact ⟨rfl, Below.refl _ _⟩
  · have e1 : amoP 58 a b = a := pk_f (decide_eq_false (show ¬ a < b from hl)) _ _
    rw [e1]
    clear e1
    by_cases hg : b < a
    · go_enter Tryz.func20, Tryz.ntmps20
      go_wp2_with fail
      refine (rsigned_any _ HA.out _).mono ?_
      rintro e w1 ⟨rfl, rfl⟩
      go_wp2_with fail
      refine (rsigned_any _ HB.out _).mono ?_
      rintro e w1 ⟨rfl, rfl⟩
      go_wp2
      go_ret
      exact ⟨rfl, Below.refl _ _⟩
    · have heq : a = b := by omega
      obtain rfl : a = b := heq
      go_enter Tryz.func20, Tryz.ntmps20
      go_wp2_with fail
      refine (rsigned_any _ HA.out _).mono ?_
      rintro e w1 ⟨rfl, rfl⟩
      go_wp2_with fail
      refine (rsigned_any _ HB.out _).mono ?_
      rintro e w1 ⟨rfl, rfl⟩
      go_wp2
      go_ret
      exact ⟨rfl, Below.refl _ _⟩
end Go.Proofs.YtaokpphlfhnleaaGreatDoor
