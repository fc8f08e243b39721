/-
  The program's test whether two executions are the same.
-/
import Derived.Test.YtnlfdepeimjliaaEvSameF
import Derived.Test.YtnlfdepeimjliaaEvEq
import Derived.Test.YtnlfdepeimjliaaEvDeps
namespace Go.Proofs.Ytnlfdepeimjliaa
open Go.RowKit
set_option linter.unusedVariables false
set_option linter.unusedSimpArgs false
namespace Ev
def sameEvs (xs ys : List R) : Bool := xs.length == ys.length && (List.range xs.length).all fun k => sameR (nth xs k) (nth ys k)
def rowAt (od : List Sl) (k : Nat) : List Int := (od.map Sl.l).getD k []
def sameOd (xs ys : List Sl) : Bool := xs.length == ys.length && (List.range xs.length).all fun k => decide (rowAt xs k = rowAt ys k)
theorem rowAt_some {od : List Sl} {k : Nat} {s : Sl} (h : od[k]? = some s) : rowAt od k = s.l := by unfold rowAt; simp [List.getD, h]
def same (x y : X) : Bool := sameEvs x.ev y.ev && decide (x.fr.l = y.fr.l) && sameOd x.od y.od
theorem all_no {n k : Nat} {f : Nat → Bool} (hk : k < n) (h : f k = false) : (List.range n).all f = false := by
  rw [List.all_eq_false]; exact ⟨k, List.mem_range.2 hk, by rw [h]; simp⟩
theorem all_yes {n : Nat} {f : Nat → Bool} (h : ∀ k, k < n → f k = true) : (List.range n).all f = true := by
  rw [List.all_eq_true]; exact fun k hk => h k (List.mem_range.1 hk)
end Ev
theorem sameEvent_is {x y : Ev.R} {v : Bool} (h : Ev.sameR x y = v) (w : World) (hx : Ev.ROk w x) (hy : Ev.ROk w y) : Calls Try.prog 48 #[.agg (Ev.cells x).toArray, .agg (Ev.cells y).toArray] w fun e w' => e = .returned (.bool v) ∧ Below w.heap.size w w' := h ▸ sameEvent_any x y w hx hy
theorem equal_is {s t : Ev.Sl} {v : Bool} (h : decide (s.l = t.l) = v) (w : World) (hs : Ev.IntsIn w s) (ht : Ev.IntsIn w t) : Calls Try.prog 49 #[.slice s.a s.l.length s.c, .slice t.a t.l.length t.c] w fun e w' => e = .returned (.bool v) ∧ Below w.heap.size w w' :=
  (equal_any s t w hs ht).mono fun e w' ⟨he, n, hw⟩ => ⟨by rw [he, h], by rw [hw]; exact below_drewN (Below.refl _ _) n⟩
set_option maxRecDepth 100000 in
set_option maxHeartbeats 4000000 in
theorem eqEvs_any (a b : Option Addr) (c d : Nat) (xs ys : List Ev.R) (w : World) (ha : Ev.EvsIn w a c xs) (hb : Ev.EvsIn w b d ys) :
    Calls Try.prog 47 #[.slice a xs.length c, .slice b ys.length d, .func (.func 48) #[] #[]] w fun e w' => e = .returned (.bool (Ev.sameEvs xs ys)) ∧ Below w.heap.size w w' := by
  have HA := Lib.hid ha; have HB := Lib.hid hb
  have h1 := ha.le; have h2 := ha.max; have h3 := hb.le; have h4 := hb.max
  clear ha hb
  by_cases hl : xs.length = ys.length
  case neg =>
    have t1 : ((xs.length : Int) != (ys.length : Int)) = true := by simp; omega
    have t1' : (xs.length != ys.length) = true := by simpa using hl
    have HF := Lib.hid (show Ev.sameEvs xs ys = false by unfold Ev.sameEvs; rw [show (xs.length == ys.length) = false by simpa using hl]; rfl)
    clear hl
    go_enter Try.func47, Try.ntmps47
    go_wp2
    go_ret
    exact ⟨by rw [HF.out]; rfl, Below.refl _ _⟩
  have t1 : ((xs.length : Int) != (ys.length : Int)) = false := by simp [hl]
  have t1' : (xs.length != ys.length) = false := by simpa using hl
  have HS := Lib.hid (show Ev.sameEvs xs ys = (List.range xs.length).all fun k => Ev.sameR (Ev.nth xs k) (Ev.nth ys k) by unfold Ev.sameEvs; rw [show (xs.length == ys.length) = true by simpa using hl]; rfl)
  have HL := Lib.hid hl
  clear hl
  go_enter Try.func47, Try.ntmps47
  go_wp2
  go_loopw [7, 17] (fun _ i wr => ∃ k : Nat, k ≤ xs.length ∧ i = .int .i64 (k : Int) ∧ (∀ j : Nat, j < k → Ev.sameR (Ev.nth xs j) (Ev.nth ys j) = true) ∧ Below w.heap.size w wr) (fun _ i _ => xs.length - (intOf i).toNat)
  case atStart => exact ⟨0, Nat.zero_le _, rfl, fun j hj => absurd hj (by omega), Below.refl _ _⟩
  case round =>
    obtain ⟨k, hk, rfl, hall, hbr⟩ := hrel
    have HALL := Lib.hid hall; have HBR := Lib.hid hbr; clear hall hbr
    by_cases hlt : k < xs.length
    · have hly := HL.out
      obtain ⟨x, hx⟩ : ∃ x, xs[k]? = some x := ⟨_, List.getElem?_eq_getElem hlt⟩
      obtain ⟨y, hy⟩ : ∃ y, ys[k]? = some y := ⟨_, List.getElem?_eq_getElem (by omega)⟩
      obtain ⟨g, o, ea, hcx⟩ := (HA.out.kp (Ev.kp_below HBR.out)).at_ hx
      obtain ⟨g2, o2, eb, hcy⟩ := (HB.out.kp (Ev.kp_below HBR.out)).at_ hy
      have HXO := Lib.hid ((HA.out.kp (Ev.kp_below HBR.out)).ok_ hx); have HYO := Lib.hid ((HB.out.kp (Ev.kp_below HBR.out)).ok_ hy)
      have hki : (k : Int) < (xs.length : Int) := by omega
      have hkj : (k : Int) < (ys.length : Int) := by omega
      obtain ⟨v, hv⟩ : ∃ v, Ev.sameR x y = v := ⟨_, rfl⟩
      have HV := Lib.hid hv
      have HN := Lib.hid (show Ev.sameR (Ev.nth xs (k : Int)) (Ev.nth ys (k : Int)) = v by rw [Ev.nth_some hx, Ev.nth_some hy]; exact hv)
      have HCX := Lib.hid hcx; have HCY := Lib.hid hcy
      rw [ea, eb]
      clear hx hy ea eb hcx hcy hv hly
      go_wp2_with (first
        | ((with_reducible show wpList _ _ _ (Oper.mk (some 21) _ _ _ _ _ :: _) _ _); refine wpList_load_at rfl 44 (.tmp 20) rfl g (o + k * 13) (by kernel_rfl) (Ev.cells x) _ HCX.out Try.underlying44 rfl (by kernel_rfl) ?_)
        | ((with_reducible show wpList _ _ _ (Oper.mk none (Op.store 44 (Operand.tmp 8) _) _ _ _ _ :: _) _ _); refine wpList_store_own rfl 44 (.tmp 8) (.tmp 21) rfl wr.heap.size (Ev.cells x).toArray rfl rfl 44 (Ev.cells Ev.R0).toArray (heap_alloc_new _ _) (by kernel_rfl) (by kernel_rfl) (by kernel_rfl) ?_
           intro W2 HW
           have B2 := Lib.hid (((Below.refl wr.heap.size wr).alloc (Nat.le_refl _) _).trans HW.below)
           have RW := Lib.hid HW.row
           have HCY2 := Lib.hid (fun i c hi => Ev.kp_below B2.out _ _ (HCY.out i c hi))
           clear HW)
        | ((with_reducible show wpList _ _ _ (Oper.mk (some 25) _ _ _ _ _ :: _) _ _); refine wpList_load_at rfl 44 (.tmp 24) rfl g2 (o2 + k * 13) (by kernel_rfl) (Ev.cells y) _ HCY2.out Try.underlying44 rfl (by kernel_rfl) ?_)
        | ((with_reducible show wpList _ _ _ (Oper.mk none (Op.store 44 (Operand.tmp 9) _) _ _ _ _ :: _) _ _); refine wpList_store_own rfl 44 (.tmp 9) (.tmp 25) rfl W2.heap.size (Ev.cells y).toArray rfl rfl 44 (Ev.cells Ev.R0).toArray (heap_alloc_new _ _) (by kernel_rfl) (by kernel_rfl) (by kernel_rfl) ?_
           intro W3 HW
           have B3 := Lib.hid (((Below.refl W2.heap.size W2).alloc (Nat.le_refl _) _).trans HW.below)
           have RW2 := Lib.hid HW.row
           have RW1 := Lib.hid ((B3.out.block wr.heap.size (Array.getElem?_eq_some_iff.1 RW.out).1).trans RW.out)
           have B23 := Lib.hid (B2.out.trans (B3.out.mono B2.out.size))
           clear HW)
        | ((with_reducible show wpList _ _ _ (Oper.mk (some 27) _ _ _ _ _ :: _) _ _); refine wpList_load_row rfl 44 (.tmp 8) rfl wr.heap.size (by kernel_rfl) 44 (Ev.cells x).toArray (0, 0) _ RW1.out Try.underlying44 rfl (by kernel_rfl) ?_)
        | ((with_reducible show wpList _ _ _ (Oper.mk (some 28) _ _ _ _ _ :: _) _ _); refine wpList_load_row rfl 44 (.tmp 9) rfl W2.heap.size (by kernel_rfl) 44 (Ev.cells y).toArray (0, 0) _ RW2.out Try.underlying44 rfl (by kernel_rfl) ?_))
      refine (sameEvent_is HV.out _ (HXO.out.kp (Ev.kp_below B23.out)) (HYO.out.kp (Ev.kp_below B23.out))).mono ?_
      rintro e W4 ⟨rfl, hb⟩
      have HEND := Lib.hid (HBR.out.trans ((B23.out.trans (hb.mono B23.out.size)).mono HBR.out.size)); clear hb
      cases v
      · have HF := Lib.hid (show Ev.sameEvs xs ys = false by rw [HS.out]; exact Ev.all_no hlt HN.out)
        go_wp2_with fail
        go_ret
        exact ⟨by rw [HF.out]; rfl, HEND.out⟩
      · go_wp2_with fail
        go_roundw
        case rel =>
          refine ⟨k + 1, by omega, by go_num, fun j hj => ?_, HEND.out⟩
          rcases Nat.lt_or_eq_of_le (Nat.le_of_lt_succ hj) with h | h
          · exact HALL.out j h
          · subst h; exact HN.out
        case measure => simp [intOf]; omega
    · have hki : ¬ (k : Int) < (xs.length : Int) := by omega
      have HF := Lib.hid (show Ev.sameEvs xs ys = true by rw [HS.out]; exact Ev.all_yes fun j hj => HALL.out j (by omega))
      go_wp2
      go_ret
      exact ⟨by rw [HF.out]; rfl, HBR.out⟩
set_option maxRecDepth 100000 in
set_option maxHeartbeats 4000000 in
theorem eqOd_any (a b : Option Addr) (c d : Nat) (xs ys : List Ev.Sl) (w : World) (ha : Ev.OdIn w a c xs) (hb : Ev.OdIn w b d ys) :
    Calls Try.prog 50 #[.slice a xs.length c, .slice b ys.length d, .func (.func 49) #[] #[]] w fun e w' => e = .returned (.bool (Ev.sameOd xs ys)) ∧ Below w.heap.size w w' := by
  have HA := Lib.hid ha; have HB := Lib.hid hb
  have h1 := ha.le; have h2 := ha.max; have h3 := hb.le; have h4 := hb.max
  clear ha hb
  by_cases hl : xs.length = ys.length
  case neg =>
    have t1 : ((xs.length : Int) != (ys.length : Int)) = true := by simp; omega
    have t1' : (xs.length != ys.length) = true := by simpa using hl
    have HF := Lib.hid (show Ev.sameOd xs ys = false by unfold Ev.sameOd; rw [show (xs.length == ys.length) = false by simpa using hl]; rfl)
    clear hl
    go_enter Try.func50, Try.ntmps50
    go_wp2
    go_ret
    exact ⟨by rw [HF.out]; rfl, Below.refl _ _⟩
  have t1 : ((xs.length : Int) != (ys.length : Int)) = false := by simp [hl]
  have t1' : (xs.length != ys.length) = false := by simpa using hl
  have HS := Lib.hid (show Ev.sameOd xs ys = (List.range xs.length).all fun k => decide (Ev.rowAt xs k = Ev.rowAt ys k) by unfold Ev.sameOd; rw [show (xs.length == ys.length) = true by simpa using hl]; rfl)
  have HL := Lib.hid hl
  clear hl
  go_enter Try.func50, Try.ntmps50
  go_wp2
  go_loopw [7, 8, 9, 17] (fun _ _ _ i wr => ∃ k : Nat, k ≤ xs.length ∧ i = .int .i64 (k : Int) ∧ (∀ j : Nat, j < k → decide (Ev.rowAt xs j = Ev.rowAt ys j) = true) ∧ Below w.heap.size w wr) (fun _ _ _ i _ => xs.length - (intOf i).toNat)
  case atStart => exact ⟨0, Nat.zero_le _, rfl, fun j hj => absurd hj (by omega), Below.refl _ _⟩
  case round =>
    obtain ⟨k, hk, rfl, hall, hbr⟩ := hrel
    have HALL := Lib.hid hall; have HBR := Lib.hid hbr; clear hall hbr
    by_cases hlt : k < xs.length
    · have hly := HL.out
      obtain ⟨x, hx⟩ : ∃ x, xs[k]? = some x := ⟨_, List.getElem?_eq_getElem hlt⟩
      obtain ⟨y, hy⟩ : ∃ y, ys[k]? = some y := ⟨_, List.getElem?_eq_getElem (by omega)⟩
      obtain ⟨g, o, ea, hcx⟩ := (HA.out.kp (Ev.kp_below HBR.out)).at_ hx
      obtain ⟨g2, o2, eb, hcy⟩ := (HB.out.kp (Ev.kp_below HBR.out)).at_ hy
      have HXO := Lib.hid ((HA.out.kp (Ev.kp_below HBR.out)).ok_ hx); have HYO := Lib.hid ((HB.out.kp (Ev.kp_below HBR.out)).ok_ hy)
      have hki : (k : Int) < (xs.length : Int) := by omega
      have hkj : (k : Int) < (ys.length : Int) := by omega
      obtain ⟨v, hv⟩ : ∃ v, decide (x.l = y.l) = v := ⟨_, rfl⟩
      have HV := Lib.hid hv
      have HN := Lib.hid (show decide (Ev.rowAt xs k = Ev.rowAt ys k) = v by rw [Ev.rowAt_some hx, Ev.rowAt_some hy]; exact hv)
      rw [ea, eb]
      clear hx hy ea eb hv hly
      go_wp2_with fail
      refine (equal_is HV.out _ HXO.out HYO.out).mono ?_
      rintro e W4 ⟨rfl, hb⟩
      have HEND := Lib.hid (HBR.out.trans (hb.mono HBR.out.size)); clear hb hcx hcy
      cases v
      · have HF := Lib.hid (show Ev.sameOd xs ys = false by rw [HS.out]; exact Ev.all_no hlt HN.out)
        go_wp2_with fail
        go_ret
        exact ⟨by rw [HF.out]; rfl, HEND.out⟩
      · go_wp2_with fail
        go_roundw
        case rel =>
          refine ⟨k + 1, by omega, by go_num, fun j hj => ?_, HEND.out⟩
          rcases Nat.lt_or_eq_of_le (Nat.le_of_lt_succ hj) with h | h
          · exact HALL.out j h
          · subst h; exact HN.out
        case measure => simp [intOf]; omega
    · have hki : ¬ (k : Int) < (xs.length : Int) := by omega
      have HF := Lib.hid (show Ev.sameOd xs ys = true by rw [HS.out]; exact Ev.all_yes fun j hj => HALL.out j (by omega))
      go_wp2
      go_ret
      exact ⟨by rw [HF.out]; rfl, HBR.out⟩
end Go.Proofs.Ytnlfdepeimjliaa
