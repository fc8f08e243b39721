import Derived.Test.YtnjnpbabgefaeaaGreatKg12
import Derived.Test.YtnjnpbabgefaeaaGreatKg13
import Derived.Test.YtnjnpbabgefaeaaGreatKg14
import Derived.Test.YtnjnpbabgefaeaaGreatKg15
import Derived.Test.YtnjnpbabgefaeaaGreatKg11
import Derived.Test.YtnjnpbabgefaeaaGreatKg10
set_option linter.unusedVariables false
set_option linter.unusedSimpArgs false

section
namespace Go.Proofs.YtnjnpbabgefaeaaGreat
open Go.RowKit
namespace Ev
def bareK (x : R) : Bool := (x.k == 4 || (x.p == 0 && x.s == 0)) && (!(x.k == 4 || x.k == 5) || (!x.q && !x.l)) && (x.k == 1 || x.k == 2 || !x.z) && (stores x.k || x.v == 0) && (loads x.k || x.r == 0) && (x.k != 4 || x.a == 0) && (x.k == 2 || x.k == 3 || x.d2.l.isEmpty) && (decide (x.k < 4) || x.d1.l.isEmpty) && (decide (x.k < 5) || (x.d3.l.isEmpty && x.h == -1))
def bare (x : R) : Bool := decide (1 ≤ x.k) && decide (x.k ≤ 5) && inB x.p 4 && inB x.s 4 && bareK x
end Ev
theorem rbare_any (x : Ev.R) (w : World) : Calls Tryz.prog 29 #[Ev.evV x] w fun e w' => e = .returned (.bool (Ev.bare x)) ∧ Below w.heap.size w w' := by
  obtain ⟨h, k, a, v, r, q, l, p, s, z, d1, d2, d3⟩ := x
  have key : ∀ b : Bool, Ev.bare ⟨h, k, a, v, r, q, l, p, s, z, d1, d2, d3⟩ = b → (Calls Tryz.prog 29 #[Ev.evV ⟨h, k, a, v, r, q, l, p, s, z, d1, d2, d3⟩] w fun e w' => e = .returned (.bool b) ∧ Below w.heap.size w w') → Calls Tryz.prog 29 #[Ev.evV ⟨h, k, a, v, r, q, l, p, s, z, d1, d2, d3⟩] w fun e w' => e = .returned (.bool (Ev.bare ⟨h, k, a, v, r, q, l, p, s, z, d1, d2, d3⟩)) ∧ Below w.heap.size w w' := fun b e hc => e ▸ hc
  by_cases k0 : k < 1
  · exact key false (by simp [Ev.bare, show ¬ 1 ≤ k by omega]) (bare_k0 w h k a v r q l p s z d1 d2 d3 (decide_eq_true k0))
  have f0 : decide (k < 1) = false := decide_eq_false k0
  by_cases k6 : 5 < k
  · exact key false (by simp [Ev.bare, show ¬ k ≤ 5 by omega]) (bare_k6 w h k a v r q l p s z d1 d2 d3 f0 (decide_eq_true k6))
  have f1 : decide (5 < k) = false := decide_eq_false k6
  by_cases p0 : p < 0
  · exact key false (by simp [Ev.bare, Ev.inB, show ¬ 0 ≤ p by omega]) (bare_p0 w h k a v r q l p s z d1 d2 d3 f0 f1 (decide_eq_true p0))
  have f2 : decide (p < 0) = false := decide_eq_false p0
  by_cases p4 : 3 < p
  · exact key false (by simp [Ev.bare, Ev.inB, show ¬ p < 4 by omega]) (bare_p4 w h k a v r q l p s z d1 d2 d3 f0 f1 f2 (decide_eq_true p4))
  have f3 : decide (3 < p) = false := decide_eq_false p4
  by_cases s0 : s < 0
  · exact key false (by simp [Ev.bare, Ev.inB, show ¬ 0 ≤ s by omega]) (bare_s0 w h k a v r q l p s z d1 d2 d3 f0 f1 f2 f3 (decide_eq_true s0))
  have f4 : decide (s < 0) = false := decide_eq_false s0
  by_cases s4 : 3 < s
  · exact key false (by simp [Ev.bare, Ev.inB, show ¬ s < 4 by omega]) (bare_s4 w h k a v r q l p s z d1 d2 d3 f0 f1 f2 f3 f4 (decide_eq_true s4))
  have f5 : decide (3 < s) = false := decide_eq_false s4
  have hp : Ev.inB p 4 = true := by unfold Ev.inB; simp; omega
  have hs : Ev.inB s 4 = true := by unfold Ev.inB; simp; omega
  have hk : k = 1 ∨ k = 2 ∨ k = 3 ∨ k = 4 ∨ k = 5 := by omega
  rcases hk with rfl | rfl | rfl | rfl | rfl
  · by_cases t : p = 0
    case neg => exact key false (by simp [Ev.bare, Ev.bareK, hp, hs, Ev.stores, Ev.loads, t]) (bare1_p w h a v r q l p s z d1 d2 d3 f2 f3 f4 f5 (by simpa using t))
    subst t
    by_cases t : s = 0
    case neg => exact key false (by simp [Ev.bare, Ev.bareK, hp, hs, Ev.stores, Ev.loads, t]) (bare1_s w h a v r q l s z d1 d2 d3 f4 f5 (by simpa using t))
    subst t
    by_cases t : v = 0
    case neg => exact key false (by simp [Ev.bare, Ev.bareK, hp, hs, Ev.stores, Ev.loads, t]) (bare1_v w h a v r q l z d1 d2 d3 (by simpa using t))
    subst t
    obtain ⟨d2a, d2c, d2l⟩ := d2
    rcases d2l with _ | ⟨y, ys⟩
    case cons => exact key false (by simp [Ev.bare, Ev.bareK, hp, hs, Ev.stores, Ev.loads]) (bare1_d2 w h a r q l z d1 ⟨d2a, d2c, y :: ys⟩ d3 (by simp only [List.length_cons]; rw [beq_eq_false_iff_ne]; omega))
    exact key true (by simp [Ev.bare, Ev.bareK, hp, hs, Ev.stores, Ev.loads]) (bare1_ok w h a r q l z d1 d2a d2c d3)
  · by_cases t : p = 0
    case neg => exact key false (by simp [Ev.bare, Ev.bareK, hp, hs, Ev.stores, Ev.loads, t]) (bare2_p w h a v r q l p s z d1 d2 d3 f2 f3 f4 f5 (by simpa using t))
    subst t
    by_cases t : s = 0
    case neg => exact key false (by simp [Ev.bare, Ev.bareK, hp, hs, Ev.stores, Ev.loads, t]) (bare2_s w h a v r q l s z d1 d2 d3 f4 f5 (by simpa using t))
    subst t
    by_cases t : r = 0
    case neg => exact key false (by simp [Ev.bare, Ev.bareK, hp, hs, Ev.stores, Ev.loads, t]) (bare2_r w h a v r q l z d1 d2 d3 (by simpa using t))
    subst t
    exact key true (by simp [Ev.bare, Ev.bareK, hp, hs, Ev.stores, Ev.loads]) (bare2_ok w h a v q l z d1 d2 d3)
  · by_cases t : p = 0
    case neg => exact key false (by simp [Ev.bare, Ev.bareK, hp, hs, Ev.stores, Ev.loads, t]) (bare3_p w h a v r q l p s z d1 d2 d3 f2 f3 f4 f5 (by simpa using t))
    subst t
    by_cases t : s = 0
    case neg => exact key false (by simp [Ev.bare, Ev.bareK, hp, hs, Ev.stores, Ev.loads, t]) (bare3_s w h a v r q l s z d1 d2 d3 f4 f5 (by simpa using t))
    subst t
    by_cases t : z = true
    · subst t; exact key false (by simp [Ev.bare, Ev.bareK, hp, hs, Ev.stores, Ev.loads]) (bare3_z w h a v r q l d1 d2 d3)
    obtain rfl : z = false := by simpa using t
    clear t
    exact key true (by simp [Ev.bare, Ev.bareK, hp, hs, Ev.stores, Ev.loads]) (bare3_ok w h a v r q l d1 d2 d3)
  · by_cases t : q = true
    · subst t; exact key false (by simp [Ev.bare, Ev.bareK, hp, hs, Ev.stores, Ev.loads]) (bare4_q w h a v r l p s z d1 d2 d3 f2 f3 f4 f5)
    obtain rfl : q = false := by simpa using t
    clear t
    by_cases t : l = true
    · subst t; exact key false (by simp [Ev.bare, Ev.bareK, hp, hs, Ev.stores, Ev.loads]) (bare4_l w h a v r p s z d1 d2 d3 f2 f3 f4 f5)
    obtain rfl : l = false := by simpa using t
    clear t
    by_cases t : z = true
    · subst t; exact key false (by simp [Ev.bare, Ev.bareK, hp, hs, Ev.stores, Ev.loads]) (bare4_z w h a v r p s d1 d2 d3 f2 f3 f4 f5)
    obtain rfl : z = false := by simpa using t
    clear t
    by_cases t : v = 0
    case neg => exact key false (by simp [Ev.bare, Ev.bareK, hp, hs, Ev.stores, Ev.loads, t]) (bare4_v w h a v r p s d1 d2 d3 f2 f3 f4 f5 (by simpa using t))
    subst t
    by_cases t : r = 0
    case neg => exact key false (by simp [Ev.bare, Ev.bareK, hp, hs, Ev.stores, Ev.loads, t]) (bare4_r w h a r p s d1 d2 d3 f2 f3 f4 f5 (by simpa using t))
    subst t
    by_cases t : a = 0
    case neg => exact key false (by simp [Ev.bare, Ev.bareK, hp, hs, Ev.stores, Ev.loads, t]) (bare4_a w h a p s d1 d2 d3 f2 f3 f4 f5 (by simpa using t))
    subst t
    obtain ⟨d2a, d2c, d2l⟩ := d2
    rcases d2l with _ | ⟨y, ys⟩
    case cons => exact key false (by simp [Ev.bare, Ev.bareK, hp, hs, Ev.stores, Ev.loads]) (bare4_d2 w h p s d1 ⟨d2a, d2c, y :: ys⟩ d3 f2 f3 f4 f5 (by simp only [List.length_cons]; rw [beq_eq_false_iff_ne]; omega))
    obtain ⟨d1a, d1c, d1l⟩ := d1
    rcases d1l with _ | ⟨y, ys⟩
    case cons => exact key false (by simp [Ev.bare, Ev.bareK, hp, hs, Ev.stores, Ev.loads]) (bare4_d1 w h p s ⟨d1a, d1c, y :: ys⟩ d2a d2c d3 f2 f3 f4 f5 (by simp only [List.length_cons]; rw [beq_eq_false_iff_ne]; omega))
    exact key true (by simp [Ev.bare, Ev.bareK, hp, hs, Ev.stores, Ev.loads]) (bare4_ok w h p s d1a d1c d2a d2c d3 f2 f3 f4 f5)
  · by_cases t : p = 0
    case neg => exact key false (by simp [Ev.bare, Ev.bareK, hp, hs, Ev.stores, Ev.loads, t]) (bare5_p w h a v r q l p s z d1 d2 d3 f2 f3 f4 f5 (by simpa using t))
    subst t
    by_cases t : s = 0
    case neg => exact key false (by simp [Ev.bare, Ev.bareK, hp, hs, Ev.stores, Ev.loads, t]) (bare5_s w h a v r q l s z d1 d2 d3 f4 f5 (by simpa using t))
    subst t
    by_cases t : q = true
    · subst t; exact key false (by simp [Ev.bare, Ev.bareK, hp, hs, Ev.stores, Ev.loads]) (bare5_q w h a v r l z d1 d2 d3)
    obtain rfl : q = false := by simpa using t
    clear t
    by_cases t : l = true
    · subst t; exact key false (by simp [Ev.bare, Ev.bareK, hp, hs, Ev.stores, Ev.loads]) (bare5_l w h a v r z d1 d2 d3)
    obtain rfl : l = false := by simpa using t
    clear t
    by_cases t : z = true
    · subst t; exact key false (by simp [Ev.bare, Ev.bareK, hp, hs, Ev.stores, Ev.loads]) (bare5_z w h a v r d1 d2 d3)
    obtain rfl : z = false := by simpa using t
    clear t
    by_cases t : r = 0
    case neg => exact key false (by simp [Ev.bare, Ev.bareK, hp, hs, Ev.stores, Ev.loads, t]) (bare5_r w h a v r d1 d2 d3 (by simpa using t))
    subst t
    obtain ⟨d2a, d2c, d2l⟩ := d2
    rcases d2l with _ | ⟨y, ys⟩
    case cons => exact key false (by simp [Ev.bare, Ev.bareK, hp, hs, Ev.stores, Ev.loads]) (bare5_d2 w h a v d1 ⟨d2a, d2c, y :: ys⟩ d3 (by simp only [List.length_cons]; rw [beq_eq_false_iff_ne]; omega))
    obtain ⟨d1a, d1c, d1l⟩ := d1
    rcases d1l with _ | ⟨y, ys⟩
    case cons => exact key false (by simp [Ev.bare, Ev.bareK, hp, hs, Ev.stores, Ev.loads]) (bare5_d1 w h a v ⟨d1a, d1c, y :: ys⟩ d2a d2c d3 (by simp only [List.length_cons]; rw [beq_eq_false_iff_ne]; omega))
    obtain ⟨d3a, d3c, d3l⟩ := d3
    rcases d3l with _ | ⟨y, ys⟩
    case cons => exact key false (by simp [Ev.bare, Ev.bareK, hp, hs, Ev.stores, Ev.loads]) (bare5_d3 w h a v d1a d1c d2a d2c ⟨d3a, d3c, y :: ys⟩ (by simp only [List.length_cons]; rw [beq_eq_false_iff_ne]; omega))
    by_cases t : h = -1
    case neg => exact key false (by simp [Ev.bare, Ev.bareK, hp, hs, Ev.stores, Ev.loads, t]) (bare5_h w h a v d1a d1c d2a d2c d3a d3c (by simpa using t))
    subst t
    exact key true (by simp [Ev.bare, Ev.bareK, hp, hs, Ev.stores, Ev.loads]) (bare5_ok w a v d1a d1c d2a d2c d3a d3c)
end Go.Proofs.YtnjnpbabgefaeaaGreat
end

section
namespace Go.Proofs.YtnjnpbabgefaeaaGreat
open Go.RowKit
namespace Ev
def pairGo (xs : List R) (e : R) : Nat → Int
  | 0 => -1
  | a + 1 => if (nth xs a).h ≠ e.h then -1 else if ((nth xs a).z && (nth xs a).k == 2) = true then -1 else if (nth xs a).z = true then (if (nth xs a).a = e.a then (a : Int) else -1) else pairGo xs e a
def paired (x : X) (b : Nat) : Int := if ((nth x.ev b).k != 2 || !(nth x.ev b).z) = true then -1 else pairGo x.ev (nth x.ev b) b
end Ev
set_option maxRecDepth 100000 in
set_option maxHeartbeats 4000000 in
theorem rpaired_any (x : Ev.X) (b : Nat) (hb : b < x.ev.length) (w : World) (hin : Ev.XIn w x) :
    Calls Tryz.prog 38 #[Ev.exV x, .int .i64 (b : Int)] w fun e w' => e = .returned (.int .i64 (Ev.paired x b)) ∧ Below w.heap.size w w' := by
  have hl1 := hin.ev.le; have hl2 := hin.ev.max
  obtain ⟨B, hB⟩ : ∃ B, B = w.alloc (Obj.cells (Ev.xcells x).toArray 26) := ⟨_, rfl⟩
  have HB := Lib.hid hB
  have B0 := Lib.hid (show Below w.heap.size w B by rw [hB]; exact (Below.refl w.heap.size w).alloc (Nat.le_refl _) _)
  have HX := Lib.hid (show Ev.XIn B x from hin.kp (Ev.kp_below B0.out))
  have RX := Lib.hid (show B.heap[w.heap.size]? = some (.cells (Ev.xcells x).toArray 26 (0, 0)) by rw [hB]; exact heap_alloc_new _ _)
  obtain ⟨e, he⟩ : ∃ e, x.ev[b]? = some e := ⟨_, List.getElem?_eq_getElem hb⟩
  obtain ⟨g, o, eg, hce⟩ := HX.out.ev.at_ he
  have HE := Lib.hid (Ev.nth_some he)
  have HEG := Lib.hid eg; have HCE := Lib.hid hce
  have hbi : (b : Int) < (x.ev.length : Int) := by omega
  have CX := Lib.hid (show ∀ W, Below B.heap.size B W → W.cell? ⟨w.heap.size, 0, none⟩ = some (.slice (some ⟨g, o, none⟩) x.ev.length x.ce) from fun W h => by
    rw [← eg]; exact Ev.xcell0 ((h.block w.heap.size (Array.getElem?_eq_some_iff.1 RX.out).1).trans RX.out))
  have cx := CX.out B (Below.refl _ _)
  clear hin hB he eg hce
  have HP := Lib.hid (show Ev.paired x b = if (e.k != 2 || !e.z) = true then -1 else Ev.pairGo x.ev e b by unfold Ev.paired; rw [HE.out])
  obtain ⟨ez, hez⟩ : ∃ z, e.z = z := ⟨_, rfl⟩
  have HEZ := Lib.hid hez
  clear hez
  unfold Ev.exV Ev.xcells
  by_cases hk : e.k = 2
  case neg =>
    have tk : (e.k != 2) = true := by simpa using hk
    have HF := Lib.hid (show Ev.paired x b = -1 by rw [HP.out, tk]; rfl)
    clear hk
    go_enter Tryz.func38, Tryz.ntmps38
    go_wp2_with (first
      | ((with_reducible show wpList _ _ _ (Oper.mk (some 8) _ _ _ _ _ :: _) _ _); rw [show w.alloc (Obj.cells #[Value.slice x.ae x.ev.length x.ce, Value.slice x.fr.a x.fr.l.length x.fr.c, Value.slice x.ao x.od.length x.co] 26) = B from HB.out.symm])
      | ((with_reducible show wpList _ _ _ (Oper.mk (some 12) _ _ _ _ _ :: _) _ _); refine wpList_load_at rfl 48 (.tmp 11) rfl g (o + b * 13) (by kernel_rfl) (Ev.cells e) _ HCE.out Tryz.underlying48 rfl (by kernel_rfl) ?_)
      | ((with_reducible show wpList _ _ _ (Oper.mk none (Op.store 48 (Operand.tmp 5) _) _ _ _ _ :: _) _ _); refine wpList_store_own rfl 48 (.tmp 5) (.tmp 12) rfl B.heap.size (Ev.cells e).toArray rfl rfl 48 (Ev.cells Ev.R0).toArray (heap_alloc_new _ _) (by kernel_rfl) (by kernel_rfl) (by kernel_rfl) ?_
         intro W2 HW
         have B2 := Lib.hid (((Below.refl B.heap.size B).alloc (Nat.le_refl _) _).trans HW.below)
         have RE := Lib.hid HW.row
         have cek : W2.cell? ⟨B.heap.size, 1, none⟩ = some (.int .i64 e.k) := by rw [cell_of_row _ _ _ _ _ _ HW.row]; rfl
         have cez : W2.cell? ⟨B.heap.size, 9, none⟩ = some (.bool ez) := by rw [cell_of_row _ _ _ _ _ _ HW.row, ← HEZ.out]; rfl
         clear HW))
    go_ret
    exact ⟨by rw [HF.out]; try rfl, B0.out.trans (B2.out.mono B0.out.size)⟩
  have tk : (e.k != 2) = false := by simp [hk]
  clear hk
  cases ez
  · have HF := Lib.hid (show Ev.paired x b = -1 by rw [HP.out, HEZ.out]; simp)
    go_enter Tryz.func38, Tryz.ntmps38
    go_wp2_with (first
      | ((with_reducible show wpList _ _ _ (Oper.mk (some 8) _ _ _ _ _ :: _) _ _); rw [show w.alloc (Obj.cells #[Value.slice x.ae x.ev.length x.ce, Value.slice x.fr.a x.fr.l.length x.fr.c, Value.slice x.ao x.od.length x.co] 26) = B from HB.out.symm])
      | ((with_reducible show wpList _ _ _ (Oper.mk (some 12) _ _ _ _ _ :: _) _ _); refine wpList_load_at rfl 48 (.tmp 11) rfl g (o + b * 13) (by kernel_rfl) (Ev.cells e) _ HCE.out Tryz.underlying48 rfl (by kernel_rfl) ?_)
      | ((with_reducible show wpList _ _ _ (Oper.mk none (Op.store 48 (Operand.tmp 5) _) _ _ _ _ :: _) _ _); refine wpList_store_own rfl 48 (.tmp 5) (.tmp 12) rfl B.heap.size (Ev.cells e).toArray rfl rfl 48 (Ev.cells Ev.R0).toArray (heap_alloc_new _ _) (by kernel_rfl) (by kernel_rfl) (by kernel_rfl) ?_
         intro W2 HW
         have B2 := Lib.hid (((Below.refl B.heap.size B).alloc (Nat.le_refl _) _).trans HW.below)
         have RE := Lib.hid HW.row
         have cek : W2.cell? ⟨B.heap.size, 1, none⟩ = some (.int .i64 e.k) := by rw [cell_of_row _ _ _ _ _ _ HW.row]; rfl
         have cez : W2.cell? ⟨B.heap.size, 9, none⟩ = some (.bool false) := by rw [cell_of_row _ _ _ _ _ _ HW.row, ← HEZ.out]; rfl
         clear HW))
    go_ret
    exact ⟨by rw [HF.out]; try rfl, B0.out.trans (B2.out.mono B0.out.size)⟩
  have HGO := Lib.hid (show Ev.paired x b = Ev.pairGo x.ev e b by rw [HP.out, HEZ.out, tk]; rfl)
  go_enter Tryz.func38, Tryz.ntmps38
  go_wp2_with (first
    | ((with_reducible show wpList _ _ _ (Oper.mk (some 8) _ _ _ _ _ :: _) _ _); rw [show w.alloc (Obj.cells #[Value.slice x.ae x.ev.length x.ce, Value.slice x.fr.a x.fr.l.length x.fr.c, Value.slice x.ao x.od.length x.co] 26) = B from HB.out.symm])
    | ((with_reducible show wpList _ _ _ (Oper.mk (some 12) _ _ _ _ _ :: _) _ _); refine wpList_load_at rfl 48 (.tmp 11) rfl g (o + b * 13) (by kernel_rfl) (Ev.cells e) _ HCE.out Tryz.underlying48 rfl (by kernel_rfl) ?_)
    | ((with_reducible show wpList _ _ _ (Oper.mk none (Op.store 48 (Operand.tmp 5) _) _ _ _ _ :: _) _ _); refine wpList_store_own rfl 48 (.tmp 5) (.tmp 12) rfl B.heap.size (Ev.cells e).toArray rfl rfl 48 (Ev.cells Ev.R0).toArray (heap_alloc_new _ _) (by kernel_rfl) (by kernel_rfl) (by kernel_rfl) ?_
       intro W2 HW
       have B2 := Lib.hid (((Below.refl B.heap.size B).alloc (Nat.le_refl _) _).trans HW.below)
       have RE := Lib.hid HW.row
       have cek : W2.cell? ⟨B.heap.size, 1, none⟩ = some (.int .i64 e.k) := by rw [cell_of_row _ _ _ _ _ _ HW.row]; rfl
       have cez : W2.cell? ⟨B.heap.size, 9, none⟩ = some (.bool true) := by rw [cell_of_row _ _ _ _ _ _ HW.row, ← HEZ.out]; rfl
       clear HW))
  clear cek cez cx
  go_loopw [6] (fun i wr => ∃ m : Nat, m ≤ b ∧ i = .int .i64 ((m : Int) - 1) ∧ Ev.paired x b = Ev.pairGo x.ev e m ∧ Below W2.heap.size W2 wr) (fun i _ => (intOf i + 1).toNat)
  case atStart => exact ⟨b, Nat.le_refl _, rfl, HGO.out, Below.refl _ _⟩
  case round =>
    obtain ⟨m, hm, rfl, hgo, hbr⟩ := hrel
    have HG := Lib.hid hgo; have HBR := Lib.hid hbr; clear hgo hbr
    have BB := Lib.hid (B2.out.trans (HBR.out.mono B2.out.size))
    cases m with
    | zero =>
      have HF := Lib.hid (show Ev.paired x b = -1 by rw [HG.out]; rfl)
      rw [show ((0 : Nat) : Int) - 1 = -1 from rfl]
      go_wp2
      go_ret
      exact ⟨by rw [HF.out]; try rfl, B0.out.trans (BB.out.mono B0.out.size)⟩
    | succ a =>
      rw [show ((a + 1 : Nat) : Int) - 1 = (a : Int) by omega]
      have hai : (a : Int) < (x.ev.length : Int) := by omega
      obtain ⟨y, hy⟩ : ∃ y, x.ev[a]? = some y := ⟨_, List.getElem?_eq_getElem (by omega)⟩
      obtain ⟨g', o', eg', hcy⟩ := (HX.out.ev.kp (Ev.kp_below BB.out)).at_ hy
      obtain ⟨rfl, rfl⟩ : g' = g ∧ o' = o := by rw [HEG.out] at eg'; cases eg'; exact ⟨rfl, rfl⟩
      have HCY := Lib.hid hcy
      have HG2 := Lib.hid (show Ev.paired x b = if y.h ≠ e.h then -1 else if (y.z && y.k == 2) = true then -1 else if y.z = true then (if y.a = e.a then (a : Int) else -1) else Ev.pairGo x.ev e a by
        rw [HG.out]; show (if (Ev.nth x.ev a).h ≠ e.h then -1 else if ((Ev.nth x.ev a).z && (Ev.nth x.ev a).k == 2) = true then -1 else if (Ev.nth x.ev a).z = true then (if (Ev.nth x.ev a).a = e.a then (a : Int) else -1) else Ev.pairGo x.ev e a) = _; rw [Ev.nth_some hy])
      have cx := CX.out wr BB.out
      have REW := Lib.hid ((HBR.out.block B.heap.size (Array.getElem?_eq_some_iff.1 RE.out).1).trans RE.out)
      obtain ⟨yz, hyz⟩ : ∃ z, y.z = z := ⟨_, rfl⟩
      have HYZ := Lib.hid hyz
      clear hy eg' hcy hyz
      have W3S := Lib.hid (fun (W : World) (h : Ev.Set1 (wr.alloc (.cells (Ev.cells Ev.R0).toArray 48)) W wr.heap.size 48 (Ev.cells y).toArray) => (((Below.refl wr.heap.size wr).alloc (Nat.le_refl _) _).trans h.below))
      by_cases hh : y.h = e.h
      case neg =>
        have th : (y.h != e.h) = true := by simpa using hh
        have HF := Lib.hid (show Ev.paired x b = -1 by rw [HG2.out, if_pos hh])
        clear hh
        go_wp2_with (first
          | ((with_reducible show wpList _ _ _ (Oper.mk (some 31) _ _ _ _ _ :: _) _ _); refine wpList_load_at rfl 48 (.tmp 30) rfl g' (o' + a * 13) (by kernel_rfl) (Ev.cells y) _ HCY.out Tryz.underlying48 rfl (by kernel_rfl) ?_)
          | ((with_reducible show wpList _ _ _ (Oper.mk none (Op.store 48 (Operand.tmp 7) _) _ _ _ _ :: _) _ _); refine wpList_store_own rfl 48 (.tmp 7) (.tmp 31) rfl wr.heap.size (Ev.cells y).toArray rfl rfl 48 (Ev.cells Ev.R0).toArray (heap_alloc_new _ _) (by kernel_rfl) (by kernel_rfl) (by kernel_rfl) ?_
             intro W3 HW
             have BY := Lib.hid (((Below.refl wr.heap.size wr).alloc (Nat.le_refl _) _).trans HW.below)
             have B3 := Lib.hid (BB.out.trans (BY.out.mono BB.out.size))
             have HBR3 := Lib.hid (HBR.out.trans (BY.out.mono HBR.out.size))
             have RE3 := Lib.hid ((BY.out.block B.heap.size (Array.getElem?_eq_some_iff.1 REW.out).1).trans REW.out)
             have y0 : W3.cell? ⟨wr.heap.size, 0, none⟩ = some (.int .i64 y.h) := by rw [cell_of_row _ _ _ _ _ _ HW.row]; rfl
             have y1 : W3.cell? ⟨wr.heap.size, 1, none⟩ = some (.int .i64 y.k) := by rw [cell_of_row _ _ _ _ _ _ HW.row]; rfl
             have y2 : W3.cell? ⟨wr.heap.size, 2, none⟩ = some (.int .u32 y.a) := by rw [cell_of_row _ _ _ _ _ _ HW.row]; rfl
             have y9 : W3.cell? ⟨wr.heap.size, 9, none⟩ = some (.bool yz) := by rw [cell_of_row _ _ _ _ _ _ HW.row, ← HYZ.out]; rfl
             have e0 : W3.cell? ⟨B.heap.size, 0, none⟩ = some (.int .i64 e.h) := by rw [cell_of_row _ _ _ _ _ _ RE3.out]; rfl
             have e2 : W3.cell? ⟨B.heap.size, 2, none⟩ = some (.int .u32 e.a) := by rw [cell_of_row _ _ _ _ _ _ RE3.out]; rfl
             clear HW))
        go_ret
        exact ⟨by rw [HF.out]; try rfl, B0.out.trans (B3.out.mono B0.out.size)⟩
      have th : (y.h != e.h) = false := by simp [hh]
      have HG3 := Lib.hid (show Ev.paired x b = if (yz && y.k == 2) = true then -1 else if yz = true then (if y.a = e.a then (a : Int) else -1) else Ev.pairGo x.ev e a by rw [HG2.out, if_neg (fun h => h hh), HYZ.out])
      clear hh
      cases yz
      · have HF := Lib.hid (show Ev.paired x b = Ev.pairGo x.ev e a by rw [HG3.out]; simp)
        go_wp2_with (first
          | ((with_reducible show wpList _ _ _ (Oper.mk (some 31) _ _ _ _ _ :: _) _ _); refine wpList_load_at rfl 48 (.tmp 30) rfl g' (o' + a * 13) (by kernel_rfl) (Ev.cells y) _ HCY.out Tryz.underlying48 rfl (by kernel_rfl) ?_)
          | ((with_reducible show wpList _ _ _ (Oper.mk none (Op.store 48 (Operand.tmp 7) _) _ _ _ _ :: _) _ _); refine wpList_store_own rfl 48 (.tmp 7) (.tmp 31) rfl wr.heap.size (Ev.cells y).toArray rfl rfl 48 (Ev.cells Ev.R0).toArray (heap_alloc_new _ _) (by kernel_rfl) (by kernel_rfl) (by kernel_rfl) ?_
             intro W3 HW
             have BY := Lib.hid (((Below.refl wr.heap.size wr).alloc (Nat.le_refl _) _).trans HW.below)
             have B3 := Lib.hid (BB.out.trans (BY.out.mono BB.out.size))
             have HBR3 := Lib.hid (HBR.out.trans (BY.out.mono HBR.out.size))
             have RE3 := Lib.hid ((BY.out.block B.heap.size (Array.getElem?_eq_some_iff.1 REW.out).1).trans REW.out)
             have y0 : W3.cell? ⟨wr.heap.size, 0, none⟩ = some (.int .i64 y.h) := by rw [cell_of_row _ _ _ _ _ _ HW.row]; rfl
             have y1 : W3.cell? ⟨wr.heap.size, 1, none⟩ = some (.int .i64 y.k) := by rw [cell_of_row _ _ _ _ _ _ HW.row]; rfl
             have y2 : W3.cell? ⟨wr.heap.size, 2, none⟩ = some (.int .u32 y.a) := by rw [cell_of_row _ _ _ _ _ _ HW.row]; rfl
             have y9 : W3.cell? ⟨wr.heap.size, 9, none⟩ = some (.bool false) := by rw [cell_of_row _ _ _ _ _ _ HW.row, ← HYZ.out]; rfl
             have e0 : W3.cell? ⟨B.heap.size, 0, none⟩ = some (.int .i64 e.h) := by rw [cell_of_row _ _ _ _ _ _ RE3.out]; rfl
             have e2 : W3.cell? ⟨B.heap.size, 2, none⟩ = some (.int .u32 e.a) := by rw [cell_of_row _ _ _ _ _ _ RE3.out]; rfl
             clear HW))
        go_roundw
        case rel => exact ⟨a, by omega, rfl, HF.out, HBR3.out⟩
        case measure => simp [intOf] <;> omega
      by_cases hk : y.k = 2
      · have tk : (y.k == 2) = true := by simpa using hk
        have HF := Lib.hid (show Ev.paired x b = -1 by rw [HG3.out, tk]; simp)
        clear hk
        go_wp2_with (first
          | ((with_reducible show wpList _ _ _ (Oper.mk (some 31) _ _ _ _ _ :: _) _ _); refine wpList_load_at rfl 48 (.tmp 30) rfl g' (o' + a * 13) (by kernel_rfl) (Ev.cells y) _ HCY.out Tryz.underlying48 rfl (by kernel_rfl) ?_)
          | ((with_reducible show wpList _ _ _ (Oper.mk none (Op.store 48 (Operand.tmp 7) _) _ _ _ _ :: _) _ _); refine wpList_store_own rfl 48 (.tmp 7) (.tmp 31) rfl wr.heap.size (Ev.cells y).toArray rfl rfl 48 (Ev.cells Ev.R0).toArray (heap_alloc_new _ _) (by kernel_rfl) (by kernel_rfl) (by kernel_rfl) ?_
             intro W3 HW
             have BY := Lib.hid (((Below.refl wr.heap.size wr).alloc (Nat.le_refl _) _).trans HW.below)
             have B3 := Lib.hid (BB.out.trans (BY.out.mono BB.out.size))
             have HBR3 := Lib.hid (HBR.out.trans (BY.out.mono HBR.out.size))
             have RE3 := Lib.hid ((BY.out.block B.heap.size (Array.getElem?_eq_some_iff.1 REW.out).1).trans REW.out)
             have y0 : W3.cell? ⟨wr.heap.size, 0, none⟩ = some (.int .i64 y.h) := by rw [cell_of_row _ _ _ _ _ _ HW.row]; rfl
             have y1 : W3.cell? ⟨wr.heap.size, 1, none⟩ = some (.int .i64 y.k) := by rw [cell_of_row _ _ _ _ _ _ HW.row]; rfl
             have y2 : W3.cell? ⟨wr.heap.size, 2, none⟩ = some (.int .u32 y.a) := by rw [cell_of_row _ _ _ _ _ _ HW.row]; rfl
             have y9 : W3.cell? ⟨wr.heap.size, 9, none⟩ = some (.bool true) := by rw [cell_of_row _ _ _ _ _ _ HW.row, ← HYZ.out]; rfl
             have e0 : W3.cell? ⟨B.heap.size, 0, none⟩ = some (.int .i64 e.h) := by rw [cell_of_row _ _ _ _ _ _ RE3.out]; rfl
             have e2 : W3.cell? ⟨B.heap.size, 2, none⟩ = some (.int .u32 e.a) := by rw [cell_of_row _ _ _ _ _ _ RE3.out]; rfl
             clear HW))
        go_ret
        exact ⟨by rw [HF.out]; try rfl, B0.out.trans (B3.out.mono B0.out.size)⟩
      have tk : (y.k == 2) = false := by simpa using hk
      clear hk
      by_cases ha : y.a = e.a
      · have ta : (y.a == e.a) = true := by simpa using ha
        have HF := Lib.hid (show Ev.paired x b = (a : Int) by rw [HG3.out, tk, if_pos ha]; simp)
        clear ha
        go_wp2_with (first
          | ((with_reducible show wpList _ _ _ (Oper.mk (some 31) _ _ _ _ _ :: _) _ _); refine wpList_load_at rfl 48 (.tmp 30) rfl g' (o' + a * 13) (by kernel_rfl) (Ev.cells y) _ HCY.out Tryz.underlying48 rfl (by kernel_rfl) ?_)
          | ((with_reducible show wpList _ _ _ (Oper.mk none (Op.store 48 (Operand.tmp 7) _) _ _ _ _ :: _) _ _); refine wpList_store_own rfl 48 (.tmp 7) (.tmp 31) rfl wr.heap.size (Ev.cells y).toArray rfl rfl 48 (Ev.cells Ev.R0).toArray (heap_alloc_new _ _) (by kernel_rfl) (by kernel_rfl) (by kernel_rfl) ?_
             intro W3 HW
             have BY := Lib.hid (((Below.refl wr.heap.size wr).alloc (Nat.le_refl _) _).trans HW.below)
             have B3 := Lib.hid (BB.out.trans (BY.out.mono BB.out.size))
             have HBR3 := Lib.hid (HBR.out.trans (BY.out.mono HBR.out.size))
             have RE3 := Lib.hid ((BY.out.block B.heap.size (Array.getElem?_eq_some_iff.1 REW.out).1).trans REW.out)
             have y0 : W3.cell? ⟨wr.heap.size, 0, none⟩ = some (.int .i64 y.h) := by rw [cell_of_row _ _ _ _ _ _ HW.row]; rfl
             have y1 : W3.cell? ⟨wr.heap.size, 1, none⟩ = some (.int .i64 y.k) := by rw [cell_of_row _ _ _ _ _ _ HW.row]; rfl
             have y2 : W3.cell? ⟨wr.heap.size, 2, none⟩ = some (.int .u32 y.a) := by rw [cell_of_row _ _ _ _ _ _ HW.row]; rfl
             have y9 : W3.cell? ⟨wr.heap.size, 9, none⟩ = some (.bool true) := by rw [cell_of_row _ _ _ _ _ _ HW.row, ← HYZ.out]; rfl
             have e0 : W3.cell? ⟨B.heap.size, 0, none⟩ = some (.int .i64 e.h) := by rw [cell_of_row _ _ _ _ _ _ RE3.out]; rfl
             have e2 : W3.cell? ⟨B.heap.size, 2, none⟩ = some (.int .u32 e.a) := by rw [cell_of_row _ _ _ _ _ _ RE3.out]; rfl
             clear HW))
        go_ret
        exact ⟨by rw [HF.out]; try rfl, B0.out.trans (B3.out.mono B0.out.size)⟩
      · have ta : (y.a == e.a) = false := by simpa using ha
        have HF := Lib.hid (show Ev.paired x b = -1 by rw [HG3.out, tk, if_neg ha]; simp)
        clear ha
        go_wp2_with (first
          | ((with_reducible show wpList _ _ _ (Oper.mk (some 31) _ _ _ _ _ :: _) _ _); refine wpList_load_at rfl 48 (.tmp 30) rfl g' (o' + a * 13) (by kernel_rfl) (Ev.cells y) _ HCY.out Tryz.underlying48 rfl (by kernel_rfl) ?_)
          | ((with_reducible show wpList _ _ _ (Oper.mk none (Op.store 48 (Operand.tmp 7) _) _ _ _ _ :: _) _ _); refine wpList_store_own rfl 48 (.tmp 7) (.tmp 31) rfl wr.heap.size (Ev.cells y).toArray rfl rfl 48 (Ev.cells Ev.R0).toArray (heap_alloc_new _ _) (by kernel_rfl) (by kernel_rfl) (by kernel_rfl) ?_
             intro W3 HW
             have BY := Lib.hid (((Below.refl wr.heap.size wr).alloc (Nat.le_refl _) _).trans HW.below)
             have B3 := Lib.hid (BB.out.trans (BY.out.mono BB.out.size))
             have HBR3 := Lib.hid (HBR.out.trans (BY.out.mono HBR.out.size))
             have RE3 := Lib.hid ((BY.out.block B.heap.size (Array.getElem?_eq_some_iff.1 REW.out).1).trans REW.out)
             have y0 : W3.cell? ⟨wr.heap.size, 0, none⟩ = some (.int .i64 y.h) := by rw [cell_of_row _ _ _ _ _ _ HW.row]; rfl
             have y1 : W3.cell? ⟨wr.heap.size, 1, none⟩ = some (.int .i64 y.k) := by rw [cell_of_row _ _ _ _ _ _ HW.row]; rfl
             have y2 : W3.cell? ⟨wr.heap.size, 2, none⟩ = some (.int .u32 y.a) := by rw [cell_of_row _ _ _ _ _ _ HW.row]; rfl
             have y9 : W3.cell? ⟨wr.heap.size, 9, none⟩ = some (.bool true) := by rw [cell_of_row _ _ _ _ _ _ HW.row, ← HYZ.out]; rfl
             have e0 : W3.cell? ⟨B.heap.size, 0, none⟩ = some (.int .i64 e.h) := by rw [cell_of_row _ _ _ _ _ _ RE3.out]; rfl
             have e2 : W3.cell? ⟨B.heap.size, 2, none⟩ = some (.int .u32 e.a) := by rw [cell_of_row _ _ _ _ _ _ RE3.out]; rfl
             clear HW))
        go_ret
        exact ⟨by rw [HF.out]; try rfl, B0.out.trans (B3.out.mono B0.out.size)⟩
end Go.Proofs.YtnjnpbabgefaeaaGreat
end
