import Derived.Test.YtnjnpbabgefaeaaGreatKg29
import Derived.Test.YtnjnpbabgefaeaaGreatKg30
import Derived.Test.YtnjnpbabgefaeaaGreatKg31
import Derived.Test.YtnjnpbabgefaeaaGreatKg32
import Derived.Test.YtnjnpbabgefaeaaGreatKg33
import Derived.Test.YtnjnpbabgefaeaaGreatKg34
import Derived.Test.YtnjnpbabgefaeaaGreatKg35
import Derived.Test.YtnjnpbabgefaeaaGreatKg36
import Derived.Test.YtnjnpbabgefaeaaGreatKg37
import Derived.Test.YtnjnpbabgefaeaaGreatKg19
import Derived.Test.YtnjnpbabgefaeaaGreatKg27
set_option linter.unusedVariables false
set_option linter.unusedSimpArgs false

section
namespace Go.Proofs.YtnjnpbabgefaeaaGreat
open Go.RowKit
namespace Ev
theorem rule_of {x : X} {r : Int} {a b : Nat} (h1 : isPo x a b = true) (h2 : (nth x.ev a).k ≠ 4) (h3 : (nth x.ev b).k ≠ 4) : rule x r a b = ruleOf x r a b := by
  unfold rule; rw [if_neg]; rintro (h | h | h)
  · rw [h1] at h; cases h
  · exact h2 h
  · exact h3 h
def isPpo (x : X) (a b : Nat) : Bool := (List.range 13).any fun i => rule x ((i + 1 : Nat) : Int) a b
end Ev
theorem rrule_any (x : Ev.X) (K : Nat) (h1 : 1 ≤ K) (h2 : K ≤ 13) (a b : Nat) (ha : a < x.ev.length) (hb : b < x.ev.length) (hfl : x.fr.l.length = x.ev.length) (w : World) (hin : Ev.XIn w x) :
    Calls Tryz.prog 65 #[Ev.exV x, .int .i64 (K : Int), .int .i64 (a : Int), .int .i64 (b : Int)] w fun e w' => e = .returned (.bool (Ev.rule x (K : Int) a b)) ∧ Below w.heap.size w w' := by
  by_cases hno : Ev.isPo x a b = false ∨ (Ev.nth x.ev a).k = 4 ∨ (Ev.nth x.ev b).k = 4
  · rw [show Ev.rule x (K : Int) a b = false by unfold Ev.rule; rw [if_pos hno]]
    exact rule_no x K a b ha hb hno w hin
  · have hp : Ev.isPo x a b = true := by
      cases h : Ev.isPo x a b with
      | true => rfl
      | false => exact absurd (.inl h) hno
    have h4 : (Ev.nth x.ev a).k ≠ 4 := fun h => hno (.inr (.inl h))
    have h5 : (Ev.nth x.ev b).k ≠ 4 := fun h => hno (.inr (.inr h))
    rw [Ev.rule_of hp h4 h5]
    have HFL := Lib.hid hfl
    clear hno hfl
    match K, h1, h2 with
    | 1, _, _ => exact (rule_1 x a b ha hb hp h4 h5 w hin)
    | 2, _, _ => exact (rule_2 x a b ha hb hp h4 h5 HFL.out w hin)
    | 3, _, _ => exact (rule_3 x a b ha hb hp h4 h5 HFL.out w hin)
    | 4, _, _ => exact (rule_4 x a b ha hb hp h4 h5 w hin)
    | 5, _, _ => exact (rule_5 x a b ha hb hp h4 h5 w hin)
    | 6, _, _ => exact (rule_6 x a b ha hb hp h4 h5 w hin)
    | 7, _, _ => exact (rule_7 x a b ha hb hp h4 h5 w hin)
    | 8, _, _ => exact (rule_8 x a b ha hb hp h4 h5 w hin)
    | 9, _, _ => exact (rule_9 x a b ha hb hp h4 h5 w hin)
    | 10, _, _ => exact (rule_10 x a b ha hb hp h4 h5 w hin)
    | 11, _, _ => exact (rule_11 x a b ha hb hp h4 h5 w hin)
    | 12, _, _ => exact (rule_12 x a b ha hb hp h4 h5 HFL.out w hin)
    | 13, _, _ => exact (rule_13 x a b ha hb hp h4 h5 w hin)
    | k + 14, _, h => exact absurd h (by omega)
theorem rrule_is {x : Ev.X} {K : Nat} {a b : Nat} {v : Bool} (h : Ev.rule x (K : Int) a b = v) (h1 : 1 ≤ K) (h2 : K ≤ 13) (ha : a < x.ev.length) (hb : b < x.ev.length) (hfl : x.fr.l.length = x.ev.length) (w : World) (hin : Ev.XIn w x) :
    Calls Tryz.prog 65 #[.agg (Ev.xcells x).toArray, .int .i64 (K : Int), .int .i64 (a : Int), .int .i64 (b : Int)] w fun e w' => e = .returned (.bool v) ∧ Below w.heap.size w w' := h ▸ rrule_any x K h1 h2 a b ha hb hfl w hin
set_option maxRecDepth 100000 in
set_option maxHeartbeats 4000000 in
theorem rppo_any (x : Ev.X) (a b : Nat) (ha : a < x.ev.length) (hb : b < x.ev.length) (hfl : x.fr.l.length = x.ev.length) (w : World) (hin : Ev.XIn w x) :
    Calls Tryz.prog 45 #[Ev.exV x, .int .i64 (a : Int), .int .i64 (b : Int)] w fun e w' => e = .returned (.bool (Ev.isPpo x a b)) ∧ Below w.heap.size w w' := by
  obtain ⟨B, hB⟩ : ∃ B, B = w.alloc (Obj.cells (Ev.xcells x).toArray 26) := ⟨_, rfl⟩
  have HB := Lib.hid hB
  have B0 := Lib.hid (show Below w.heap.size w B by rw [hB]; exact (Below.refl w.heap.size w).alloc (Nat.le_refl _) _)
  have HX := Lib.hid (show Ev.XIn B x from hin.kp (Ev.kp_below B0.out))
  have RX := Lib.hid (show B.heap[w.heap.size]? = some (.cells (Ev.xcells x).toArray 26 (0, 0)) by rw [hB]; exact heap_alloc_new _ _)
  have HFL := Lib.hid hfl
  clear hin hB hfl
  unfold Ev.exV
  go_enter Tryz.func45, Tryz.ntmps45
  go_wp2
  rw [show w.alloc (Obj.cells (Ev.xcells x).toArray 26) = B from HB.out.symm]
  go_loopw [7] (fun i wr => ∃ r : Nat, 1 ≤ r ∧ r ≤ 14 ∧ i = .int .i64 (r : Int) ∧ (∀ q, 1 ≤ q → q < r → Ev.rule x (q : Int) a b = false) ∧ Below B.heap.size B wr) (fun i _ => 14 - (intOf i).toNat)
  case atStart => exact ⟨1, Nat.le_refl _, by omega, rfl, fun q h1 h2 => by omega, Below.refl _ _⟩
  case round =>
    obtain ⟨r, hr1, hr2, rfl, hall, hbr⟩ := hrel
    have HALL := Lib.hid hall; have HBR := Lib.hid hbr
    have RX3 := Lib.hid ((hbr.block w.heap.size (Array.getElem?_eq_some_iff.1 RX.out).1).trans RX.out)
    clear hall hbr
    by_cases hlt : r ≤ 13
    · have hri : (r : Int) ≤ 13 := by omega
      obtain ⟨v, hv⟩ : ∃ v, Ev.rule x (r : Int) a b = v := ⟨_, rfl⟩
      have HV := Lib.hid hv
      clear hv
      go_wp2_with ((with_reducible show wpList _ _ _ (Oper.mk (some 12) _ _ _ _ _ :: _) _ _); refine wpList_load_row rfl 26 (.tmp 3) rfl w.heap.size (by kernel_rfl) 26 (Ev.xcells x).toArray (0, 0) _ RX3.out Tryz.underlying26 rfl (by kernel_rfl) ?_)
      refine (rrule_is HV.out hr1 hlt ha hb HFL.out _ (HX.out.kp (Ev.kp_below HBR.out))).mono ?_
      rintro e W4 ⟨rfl, hb4⟩
      have HB4 := Lib.hid (HBR.out.trans (hb4.mono HBR.out.size))
      clear hb4
      cases v
      · have HA2 := Lib.hid (show ∀ q, 1 ≤ q → q < r + 1 → Ev.rule x (q : Int) a b = false from fun q h1 h2 => by
          rcases Nat.lt_succ_iff_lt_or_eq.1 h2 with h | h
          · exact HALL.out q h1 h
          · rw [h]; exact HV.out)
        go_wp2_with fail
        go_roundw
        case rel => exact ⟨r + 1, by omega, by omega, by go_num, HA2.out, HB4.out⟩
        case measure => simp [intOf]; omega
      · have HF := Lib.hid (show Ev.isPpo x a b = true from List.any_eq_true.2 ⟨r - 1, List.mem_range.2 (by omega), by rw [show r - 1 + 1 = r by omega]; exact HV.out⟩)
        go_wp2_with fail
        go_ret
        exact ⟨by rw [HF.out]; try rfl, B0.out.trans (HB4.out.mono B0.out.size)⟩
    · have hri : ¬ (r : Int) ≤ 13 := by omega
      have HF := Lib.hid (show Ev.isPpo x a b = false from List.any_eq_false.2 fun i hi => by
        have := List.mem_range.1 hi
        rw [HALL.out (i + 1) (by omega) (by omega)]; simp)
      go_wp2
      go_ret
      exact ⟨by rw [HF.out]; try rfl, B0.out.trans (HBR.out.mono B0.out.size)⟩
end Go.Proofs.YtnjnpbabgefaeaaGreat
end

section
namespace Go.Proofs.YtnjnpbabgefaeaaGreat
open Go.RowKit
namespace Or
open Ev
def p2 (x : X) (a m : Nat) : Bool := stores (nth x.ev m).k && oneW x a m
def p4 (x : X) (a b m : Nat) : Bool := (nth x.ev m).k == 4 && isIn (nth x.ev m).p (nth x.ev a) && isIn (nth x.ev m).s (nth x.ev b)
def p8 (x : X) (m : Nat) : Bool := (nth x.ev m).z
def p12 (x : X) (a b m : Nat) : Bool := frAt x b == (m : Int) && (r9 x a m || r10 x a m)
def p13 (x : X) (a m : Nat) : Bool := r9 x a m
end Or
set_option maxRecDepth 100000 in
set_option maxHeartbeats 4000000 in
theorem c2_any (x : Ev.X) (q a m cq ca : Nat) (ha : a < x.ev.length) (hm : m < x.ev.length) (w : World) (hq : Or.As w q x) (hcq : Or.Box w cq 112 (.pointer (some ⟨q, 0, none⟩))) (hca : Or.Box w ca 3 (.int .i64 (a : Int))) :
    Calls Tryz.prog 152 #[.int .i64 (m : Int), .pointer (some ⟨cq, 0, none⟩), .pointer (some ⟨ca, 0, none⟩)] w fun r w' => r = .returned (.bool (Or.p2 x a m)) ∧ Below w.heap.size w w' := by
  have hl1 := hq.xin.ev.le; have hl2 := hq.xin.ev.max
  obtain ⟨e, he⟩ : ∃ e, x.ev[m]? = some e := ⟨_, List.getElem?_eq_getElem hm⟩
  obtain ⟨g', o', eg, hce⟩ := hq.xin.ev.at_ he
  have HE := Lib.hid (Ev.nth_some he)
  have HQ := Lib.hid hq
  have HCE := Lib.hid (show ∀ W, Below w.heap.size w W → ∀ i c, (Ev.cells e)[i]? = some c → W.cell? ⟨g', o' + m * 13 + i, none⟩ = some c from fun W h i c hi => Ev.kp_below h _ _ (hce i c hi))
  have hmi : (m : Int) < (x.ev.length : Int) := by omega
  have CX := Lib.hid (show ∀ W, Below w.heap.size w W → W.cell? ⟨q, 0, none⟩ = some (.slice (some ⟨g', o', none⟩) x.ev.length x.ce) from fun W h => by
    rw [← eg]; exact (hq.kp h).c0)
  have cx := CX.out w (Below.refl _ _)
  have W0 := Lib.hid (Below.refl w.heap.size w)
  have HEG := Lib.hid eg
  clear he eg hce
  have KCq := Lib.hid hcq; have kq := hcq.cell
  have KCa := Lib.hid hca; have ka := hca.cell
  clear hcq hca
  obtain ⟨s, hs⟩ : ∃ s, Ev.stores e.k = s := ⟨_, rfl⟩
  have HS := Lib.hid hs
  obtain ⟨o1, ho1⟩ : ∃ s, Or.oneW x a m = s := ⟨_, rfl⟩
  have HO := Lib.hid ho1
  have HRES := Lib.hid (show Or.p2 x a m = (s && o1) by unfold Or.p2; rw [HE.out, hs, ho1])
  clear hs ho1 hq
  go_enter Tryz.func152, Tryz.ntmps152
  go_wp2_with ((with_reducible show wpList _ _ _ (Oper.mk (some 12) _ _ _ _ _ :: _) _ _); refine wpList_load_at rfl 48 (.tmp 11) rfl g' (o' + m * 13) (by kernel_rfl) (Ev.cells e) _ (HCE.out _ (W0.out)) Tryz.underlying48 rfl (by kernel_rfl) ?_)
  refine (ostores_is HS.out _).mono ?_
  rintro r W1 ⟨rfl, hb1⟩
  have B1 := Lib.hid (W0.out.trans (hb1.mono (W0.out).size))
  clear hb1
  have kq1 := (KCq.out.kp B1.out).cell; have ka1 := (KCa.out.kp B1.out).cell
  clear kq ka cx
  cases s
  · go_wp2_with fail
    go_ret
    exact ⟨by rw [HRES.out]; try rfl, B1.out⟩
  go_wp2_with fail
  refine (oneW_is HO.out ha hm _ (HQ.out.kp B1.out)).mono ?_
  rintro r W2 ⟨rfl, hb2⟩
  have B2 := Lib.hid (B1.out.trans (hb2.mono (B1.out).size))
  clear hb2
  go_wp2_with fail
  go_ret
  exact ⟨by rw [HRES.out]; try rfl, B2.out⟩
set_option maxRecDepth 100000 in
set_option maxHeartbeats 4000000 in
theorem c8_any (x : Ev.X) (q m cq : Nat) (hm : m < x.ev.length) (w : World) (hq : Or.As w q x) (hcq : Or.Box w cq 112 (.pointer (some ⟨q, 0, none⟩))) :
    Calls Tryz.prog 157 #[.int .i64 (m : Int), .pointer (some ⟨cq, 0, none⟩)] w fun r w' => r = .returned (.bool (Or.p8 x m)) ∧ Below w.heap.size w w' := by
  have hl1 := hq.xin.ev.le; have hl2 := hq.xin.ev.max
  obtain ⟨e, he⟩ : ∃ e, x.ev[m]? = some e := ⟨_, List.getElem?_eq_getElem hm⟩
  obtain ⟨g', o', eg, hce⟩ := hq.xin.ev.at_ he
  have HE := Lib.hid (Ev.nth_some he)
  have HQ := Lib.hid hq
  have HCE := Lib.hid (show ∀ W, Below w.heap.size w W → ∀ i c, (Ev.cells e)[i]? = some c → W.cell? ⟨g', o' + m * 13 + i, none⟩ = some c from fun W h i c hi => Ev.kp_below h _ _ (hce i c hi))
  have hmi : (m : Int) < (x.ev.length : Int) := by omega
  have CX := Lib.hid (show ∀ W, Below w.heap.size w W → W.cell? ⟨q, 0, none⟩ = some (.slice (some ⟨g', o', none⟩) x.ev.length x.ce) from fun W h => by
    rw [← eg]; exact (hq.kp h).c0)
  have cx := CX.out w (Below.refl _ _)
  have W0 := Lib.hid (Below.refl w.heap.size w)
  have HEG := Lib.hid eg
  clear he eg hce
  have KCq := Lib.hid hcq; have kq := hcq.cell
  clear hcq
  have HRES := Lib.hid (show Or.p8 x m = e.z by unfold Or.p8; rw [HE.out])
  have cc : w.cell? ⟨g', o' + m * 13 + 9, none⟩ = some (.bool e.z) := HCE.out w W0.out 9 _ rfl
  clear hq
  go_enter Tryz.func157, Tryz.ntmps157
  go_wp2_with fail
  go_ret
  exact ⟨by rw [HRES.out]; try rfl, W0.out⟩
set_option maxRecDepth 100000 in
set_option maxHeartbeats 4000000 in
theorem c13_any (x : Ev.X) (q a m cq ca : Nat) (ha : a < x.ev.length) (hm : m < x.ev.length) (w : World) (hq : Or.As w q x) (hcq : Or.Box w cq 112 (.pointer (some ⟨q, 0, none⟩))) (hca : Or.Box w ca 3 (.int .i64 (a : Int))) :
    Calls Tryz.prog 160 #[.int .i64 (m : Int), .pointer (some ⟨cq, 0, none⟩), .pointer (some ⟨ca, 0, none⟩)] w fun r w' => r = .returned (.bool (Or.p13 x a m)) ∧ Below w.heap.size w w' := by
  have KCq := Lib.hid hcq; have kq := hcq.cell
  have KCa := Lib.hid hca; have ka := hca.cell
  have HQ := Lib.hid hq; have W0 := Lib.hid (Below.refl w.heap.size w)
  clear hcq hca
  obtain ⟨p, hp⟩ : ∃ s, Or.r9 x a m = s := ⟨_, rfl⟩
  have HP := Lib.hid hp
  have HRES := Lib.hid (show Or.p13 x a m = p by unfold Or.p13; rw [hp])
  clear hp hq
  go_enter Tryz.func160, Tryz.ntmps160
  go_wp2_with fail
  refine (r9_is HP.out ha hm _ HQ.out).mono ?_
  rintro r W1 ⟨rfl, hb1⟩
  have B1 := Lib.hid (W0.out.trans (hb1.mono (W0.out).size))
  clear hb1
  go_wp2_with fail
  go_ret
  exact ⟨by rw [HRES.out]; try rfl, B1.out⟩
set_option maxRecDepth 100000 in
set_option maxHeartbeats 4000000 in
theorem c12_any (x : Ev.X) (q a b m cq cb ca : Nat) (ha : a < x.ev.length) (hb : b < x.ev.length) (hm : m < x.ev.length) (hfl : x.fr.l.length = x.ev.length) (w : World) (hq : Or.As w q x) (hcq : Or.Box w cq 112 (.pointer (some ⟨q, 0, none⟩))) (hcb : Or.Box w cb 3 (.int .i64 (b : Int))) (hca : Or.Box w ca 3 (.int .i64 (a : Int))) :
    Calls Tryz.prog 159 #[.int .i64 (m : Int), .pointer (some ⟨cq, 0, none⟩), .pointer (some ⟨cb, 0, none⟩), .pointer (some ⟨ca, 0, none⟩)] w fun r w' => r = .returned (.bool (Or.p12 x a b m)) ∧ Below w.heap.size w w' := by
  have hfs := hq.xin.fr.2.1; have hfm := hq.xin.fr.2.2.1
  obtain ⟨v, hv⟩ : ∃ v, x.fr.l[b]? = some v := ⟨_, List.getElem?_eq_getElem (by omega)⟩
  obtain ⟨gf, of, ef, hcv⟩ := hq.xin.fr.at_ hv
  have HV := Lib.hid (show Ev.frAt x b = v by unfold Ev.frAt; simp [List.getD, hv])
  have hbf : (b : Int) < (x.fr.l.length : Int) := by omega
  have C1 := Lib.hid (show ∀ W, Below w.heap.size w W → W.cell? ⟨q, 1, none⟩ = some (.slice (some ⟨gf, of, none⟩) x.fr.l.length x.fr.c) from fun W h => by
    rw [← ef]; exact (hq.kp h).c1)
  have CV := Lib.hid (show ∀ W, Below w.heap.size w W → W.cell? ⟨gf, of + b, none⟩ = some (.int .i64 v) from fun W h => Ev.kp_below h _ _ hcv)
  clear hv ef hcv
  have HQ := Lib.hid hq; have W0 := Lib.hid (Below.refl w.heap.size w)
  have cx : ∀ z : Og.On w.heap.size w, z.x.cell? ⟨q, 1, none⟩ = some (.slice (some ⟨gf, of, none⟩) x.fr.l.length x.fr.c) := fun z => C1.out z.x z.b
  have cv : ∀ z : Og.On w.heap.size w, z.x.cell? ⟨gf, of + b, none⟩ = some (.int .i64 v) := fun z => CV.out z.x z.b
  have kq : ∀ z : Og.On w.heap.size w, z.x.cell? ⟨cq, 0, none⟩ = some (.pointer (some ⟨q, 0, none⟩)) := fun z => (hcq.kp z.b).cell
  have ka : ∀ z : Og.On w.heap.size w, z.x.cell? ⟨ca, 0, none⟩ = some (.int .i64 (a : Int)) := fun z => (hca.kp z.b).cell
  have kb : ∀ z : Og.On w.heap.size w, z.x.cell? ⟨cb, 0, none⟩ = some (.int .i64 (b : Int)) := fun z => (hcb.kp z.b).cell
  obtain ⟨p, hp⟩ : ∃ s, Or.r9 x a m = s := ⟨_, rfl⟩
  have HP := Lib.hid hp
  obtain ⟨s, hs⟩ : ∃ s, Or.r10 x a m = s := ⟨_, rfl⟩
  have HS := Lib.hid hs
  have HRES := Lib.hid (show Or.p12 x a b m = (v == (m : Int) && (p || s)) by unfold Or.p12; rw [hp, hs, HV.out])
  clear hp hs hq hcq hca hcb hfl
  by_cases hq : v = (m : Int)
  case neg =>
    have tq : (v == (m : Int)) = false := by simpa using hq
    have HRES := Lib.hid (show Or.p12 x a b m = false by rw [HRES.out, tq]; rfl)
    clear hq
    go_enter Tryz.func159, Tryz.ntmps159
    go_wp2_with fail
    refine Og.regionB (by kernel_rfl) (by kernel_rfl) ?_
    repeat (first
      | go_big_quiet_skip
      | (go_big_quiet_want
         first
          | (go_big_quiet_op
             first
              | go_big_quiet_on)))
    refine wpQuiet_nil ?_
    intro _ hw'
    obtain ⟨q9, hw''⟩ := hw'
    subst hw''
    go_wp2_with fail
    go_ret
    exact ⟨by rw [HRES.out]; try rfl, q9.b⟩
  have tq : (v == (m : Int)) = true := by simpa using hq
  have HRES := Lib.hid (show Or.p12 x a b m = (p || s) by rw [HRES.out, tq]; rfl)
  clear hq
  cases p
  · go_enter Tryz.func159, Tryz.ntmps159
    go_wp2_with fail
    refine Og.regionB (by kernel_rfl) (by kernel_rfl) ?_
    repeat (first
      | go_big_quiet_skip
      | (go_big_quiet_want
         first
          | (go_big_quiet_op
             first
              | go_big_quiet_on
              | (apply Exists.intro
                 refine ⟨fun z => ?_, ?_⟩
                 · first
                    | (with_reducible exact Og.callB (r9_is HP.out ha hm _ (HQ.out.kp z.b)))
                    | (with_reducible exact Og.callB (r10_is HS.out ha hm _ (HQ.out.kp z.b)))
                 go_big_quiet_on))))
    refine wpQuiet_nil ?_
    intro _ hw'
    obtain ⟨q9, hw''⟩ := hw'
    subst hw''
    go_wp2_with fail
    go_ret
    exact ⟨by rw [HRES.out]; try rfl, q9.b⟩
  · go_enter Tryz.func159, Tryz.ntmps159
    go_wp2_with fail
    refine Og.regionB (by kernel_rfl) (by kernel_rfl) ?_
    repeat (first
      | go_big_quiet_skip
      | (go_big_quiet_want
         first
          | (go_big_quiet_op
             first
              | go_big_quiet_on
              | (apply Exists.intro
                 refine ⟨fun z => ?_, ?_⟩
                 · first
                    | (with_reducible exact Og.callB (r9_is HP.out ha hm _ (HQ.out.kp z.b)))
                 go_big_quiet_on))))
    refine wpQuiet_nil ?_
    intro _ hw'
    obtain ⟨q9, hw''⟩ := hw'
    subst hw''
    go_wp2_with fail
    go_ret
    exact ⟨by rw [HRES.out]; try rfl, q9.b⟩
set_option maxRecDepth 100000 in
set_option maxHeartbeats 4000000 in
theorem c4_any (x : Ev.X) (q a b m cq ca cb : Nat) (ha : a < x.ev.length) (hb : b < x.ev.length) (hm : m < x.ev.length) (w : World) (hq : Or.As w q x) (hcq : Or.Box w cq 112 (.pointer (some ⟨q, 0, none⟩))) (hca : Or.Box w ca 3 (.int .i64 (a : Int))) (hcb : Or.Box w cb 3 (.int .i64 (b : Int))) :
    Calls Tryz.prog 154 #[.int .i64 (m : Int), .pointer (some ⟨cq, 0, none⟩), .pointer (some ⟨ca, 0, none⟩), .pointer (some ⟨cb, 0, none⟩)] w fun r w' => r = .returned (.bool (Or.p4 x a b m)) ∧ Below w.heap.size w w' := by
  have hl1 := hq.xin.ev.le; have hl2 := hq.xin.ev.max
  obtain ⟨g, hg⟩ : ∃ e, x.ev[m]? = some e := ⟨_, List.getElem?_eq_getElem hm⟩
  obtain ⟨e, he⟩ : ∃ e, x.ev[a]? = some e := ⟨_, List.getElem?_eq_getElem ha⟩
  obtain ⟨f, hf⟩ : ∃ f, x.ev[b]? = some f := ⟨_, List.getElem?_eq_getElem hb⟩
  obtain ⟨g1, o1, eg1, hcg⟩ := hq.xin.ev.at_ hg
  obtain ⟨g2, o2, eg2, hce⟩ := hq.xin.ev.at_ he
  obtain ⟨g', o', eg, hcf⟩ := hq.xin.ev.at_ hf
  obtain ⟨rfl, rfl⟩ : g1 = g' ∧ o1 = o' := by rw [eg] at eg1; cases eg1; exact ⟨rfl, rfl⟩
  obtain ⟨rfl, rfl⟩ : g2 = g1 ∧ o2 = o1 := by rw [eg] at eg2; cases eg2; exact ⟨rfl, rfl⟩
  have HG := Lib.hid (Ev.nth_some hg); have HE := Lib.hid (Ev.nth_some he); have HF := Lib.hid (Ev.nth_some hf)
  have HQ := Lib.hid hq
  have HCG := Lib.hid hcg; have HCE := Lib.hid hce; have HCF := Lib.hid hcf
  have hmi : (m : Int) < (x.ev.length : Int) := by omega
  have hai : (a : Int) < (x.ev.length : Int) := by omega
  have hbi : (b : Int) < (x.ev.length : Int) := by omega
  have CX := Lib.hid (show ∀ W, Below w.heap.size w W → W.cell? ⟨q, 0, none⟩ = some (.slice (some ⟨g2, o2, none⟩) x.ev.length x.ce) from fun W h => by
    rw [← eg]; exact (hq.kp h).c0)
  have cx := CX.out w (Below.refl _ _)
  clear hg he hf eg eg1 eg2 hcg hce hcf
  have kq0 := hcq.cell
  obtain ⟨s, hs⟩ : ∃ s, Or.isIn g.p e = s := ⟨_, rfl⟩
  have HS := Lib.hid hs
  obtain ⟨t, ht⟩ : ∃ s, Or.isIn g.s f = s := ⟨_, rfl⟩
  have HT := Lib.hid ht
  have HRES := Lib.hid (show Or.p4 x a b m = (g.k == 4 && s && t) by unfold Or.p4; rw [HG.out, HE.out, HF.out, hs, ht])
  have KCq := Lib.hid hcq; have KCa := Lib.hid hca; have KCb := Lib.hid hcb
  clear hs ht hq hcq hca hcb
  by_cases hk : g.k = 4
  case neg =>
    have tk : (g.k == 4) = false := by simpa using hk
    have HRES := Lib.hid (show Or.p4 x a b m = false by rw [HRES.out, tk]; rfl)
    clear hk
    go_enter Tryz.func154, Tryz.ntmps154
    go_wp2_with (first
      | ((with_reducible show wpList _ _ _ (Oper.mk (some 14) _ _ _ _ _ :: _) _ _); refine wpList_load_at rfl 48 (.tmp 13) rfl g2 (o2 + m * 13) (by kernel_rfl) (Ev.cells g) _ HCG.out Tryz.underlying48 rfl (by kernel_rfl) ?_)
      | ((with_reducible show wpList _ _ _ (Oper.mk none (Op.store 48 (Operand.tmp 6) _) _ _ _ _ :: _) _ _); refine wpList_store_own rfl 48 (.tmp 6) (.tmp 14) rfl w.heap.size (Ev.cells g).toArray rfl rfl 48 (Ev.cells Ev.R0).toArray (heap_alloc_new _ _) (by kernel_rfl) (by kernel_rfl) (by kernel_rfl) ?_
         intro W1 HW1
         have B1 := Lib.hid (((Below.refl w.heap.size w).alloc (Nat.le_refl _) _).trans HW1.below)
         have RG := Lib.hid HW1.row
         clear HW1))
    clear cx kq0
    have cx : ∀ z : Og.On W1.heap.size W1, z.x.cell? ⟨q, 0, none⟩ = some (.slice (some ⟨g2, o2, none⟩) x.ev.length x.ce) := fun z => CX.out z.x (B1.out.trans (z.b.mono B1.out.size))
    have kq : ∀ z : Og.On W1.heap.size W1, z.x.cell? ⟨cq, 0, none⟩ = some (.pointer (some ⟨q, 0, none⟩)) := fun z => (KCq.out.kp (B1.out.trans (z.b.mono B1.out.size))).cell
    have ka : ∀ z : Og.On W1.heap.size W1, z.x.cell? ⟨ca, 0, none⟩ = some (.int .i64 (a : Int)) := fun z => (KCa.out.kp (B1.out.trans (z.b.mono B1.out.size))).cell
    have kb : ∀ z : Og.On W1.heap.size W1, z.x.cell? ⟨cb, 0, none⟩ = some (.int .i64 (b : Int)) := fun z => (KCb.out.kp (B1.out.trans (z.b.mono B1.out.size))).cell
    have r1 : ∀ z : Og.On W1.heap.size W1, z.x.cell? ⟨w.heap.size, 1, none⟩ = some (.int .i64 g.k) := fun z => Og.cellB z (by rw [cell_of_row _ _ _ _ _ _ RG.out]; rfl)
    have r7 : ∀ z : Og.On W1.heap.size W1, z.x.cell? ⟨w.heap.size, 7, none⟩ = some (.int .i64 g.p) := fun z => Og.cellB z (by rw [cell_of_row _ _ _ _ _ _ RG.out]; rfl)
    have r8 : ∀ z : Og.On W1.heap.size W1, z.x.cell? ⟨w.heap.size, 8, none⟩ = some (.int .i64 g.s) := fun z => Og.cellB z (by rw [cell_of_row _ _ _ _ _ _ RG.out]; rfl)
    have LA := Lib.hid (fun z : Og.On W1.heap.size W1 => Ev.ld (w := z.x) (g := g2) (o := o2 + a * 13) (x := e) (fun i c hi => Og.cellB z (Ev.kp_below B1.out _ _ (HCE.out i c hi))))
    have LB := Lib.hid (fun z : Og.On W1.heap.size W1 => Ev.ld (w := z.x) (g := g2) (o := o2 + b * 13) (x := f) (fun i c hi => Og.cellB z (Ev.kp_below B1.out _ _ (HCF.out i c hi))))
    simp only [Act.put]
    refine Og.regionB (by kernel_rfl) (by kernel_rfl) ?_
    repeat (first
      | go_big_quiet_skip
      | (go_big_quiet_want
         first
          | (go_big_quiet_op
             first
              | go_big_quiet_on)))
    refine wpQuiet_nil ?_
    intro _ hw'
    obtain ⟨q9, hw''⟩ := hw'
    subst hw''
    go_wp2_with fail
    go_ret
    exact ⟨by rw [HRES.out]; try rfl, B1.out.trans (q9.b.mono B1.out.size)⟩
  have tk : (g.k == 4) = true := by simpa using hk
  have HRES := Lib.hid (show Or.p4 x a b m = (s && t) by rw [HRES.out, tk]; rfl)
  clear hk
  cases s
  · go_enter Tryz.func154, Tryz.ntmps154
    go_wp2_with (first
      | ((with_reducible show wpList _ _ _ (Oper.mk (some 14) _ _ _ _ _ :: _) _ _); refine wpList_load_at rfl 48 (.tmp 13) rfl g2 (o2 + m * 13) (by kernel_rfl) (Ev.cells g) _ HCG.out Tryz.underlying48 rfl (by kernel_rfl) ?_)
      | ((with_reducible show wpList _ _ _ (Oper.mk none (Op.store 48 (Operand.tmp 6) _) _ _ _ _ :: _) _ _); refine wpList_store_own rfl 48 (.tmp 6) (.tmp 14) rfl w.heap.size (Ev.cells g).toArray rfl rfl 48 (Ev.cells Ev.R0).toArray (heap_alloc_new _ _) (by kernel_rfl) (by kernel_rfl) (by kernel_rfl) ?_
         intro W1 HW1
         have B1 := Lib.hid (((Below.refl w.heap.size w).alloc (Nat.le_refl _) _).trans HW1.below)
         have RG := Lib.hid HW1.row
         clear HW1))
    clear cx kq0
    have cx : ∀ z : Og.On W1.heap.size W1, z.x.cell? ⟨q, 0, none⟩ = some (.slice (some ⟨g2, o2, none⟩) x.ev.length x.ce) := fun z => CX.out z.x (B1.out.trans (z.b.mono B1.out.size))
    have kq : ∀ z : Og.On W1.heap.size W1, z.x.cell? ⟨cq, 0, none⟩ = some (.pointer (some ⟨q, 0, none⟩)) := fun z => (KCq.out.kp (B1.out.trans (z.b.mono B1.out.size))).cell
    have ka : ∀ z : Og.On W1.heap.size W1, z.x.cell? ⟨ca, 0, none⟩ = some (.int .i64 (a : Int)) := fun z => (KCa.out.kp (B1.out.trans (z.b.mono B1.out.size))).cell
    have kb : ∀ z : Og.On W1.heap.size W1, z.x.cell? ⟨cb, 0, none⟩ = some (.int .i64 (b : Int)) := fun z => (KCb.out.kp (B1.out.trans (z.b.mono B1.out.size))).cell
    have r1 : ∀ z : Og.On W1.heap.size W1, z.x.cell? ⟨w.heap.size, 1, none⟩ = some (.int .i64 g.k) := fun z => Og.cellB z (by rw [cell_of_row _ _ _ _ _ _ RG.out]; rfl)
    have r7 : ∀ z : Og.On W1.heap.size W1, z.x.cell? ⟨w.heap.size, 7, none⟩ = some (.int .i64 g.p) := fun z => Og.cellB z (by rw [cell_of_row _ _ _ _ _ _ RG.out]; rfl)
    have r8 : ∀ z : Og.On W1.heap.size W1, z.x.cell? ⟨w.heap.size, 8, none⟩ = some (.int .i64 g.s) := fun z => Og.cellB z (by rw [cell_of_row _ _ _ _ _ _ RG.out]; rfl)
    have LA := Lib.hid (fun z : Og.On W1.heap.size W1 => Ev.ld (w := z.x) (g := g2) (o := o2 + a * 13) (x := e) (fun i c hi => Og.cellB z (Ev.kp_below B1.out _ _ (HCE.out i c hi))))
    have LB := Lib.hid (fun z : Og.On W1.heap.size W1 => Ev.ld (w := z.x) (g := g2) (o := o2 + b * 13) (x := f) (fun i c hi => Og.cellB z (Ev.kp_below B1.out _ _ (HCF.out i c hi))))
    simp only [Act.put]
    refine Og.regionB (by kernel_rfl) (by kernel_rfl) ?_
    repeat (first
      | go_big_quiet_skip
      | (go_big_quiet_want
         first
          | ((with_reducible show Oper.quiet _ (Oper.mk (some 28) _ _ _ _ _) _ _ _); refine Og.quiet_load 48 (.tmp 27) rfl (.agg (Ev.cells e).toArray) ⟨g2, o2 + a * 13, none⟩ _ rfl (by rintro _ ⟨z, rfl⟩; exact LA.out z) (by simp only [Act.put, List.setIfInBounds_toArray, List.set_cons_zero, List.set_cons_succ]; rfl) ?_
             go_big_quiet_on)
          | (go_big_quiet_op
             first
              | go_big_quiet_on
              | (apply Exists.intro
                 refine ⟨fun z => ?_, ?_⟩
                 · first
                    | (with_reducible exact Og.callB (isIn_is HS.out _))
                 go_big_quiet_on))))
    refine wpQuiet_nil ?_
    intro _ hw'
    obtain ⟨q9, hw''⟩ := hw'
    subst hw''
    go_wp2_with fail
    go_ret
    exact ⟨by rw [HRES.out]; try rfl, B1.out.trans (q9.b.mono B1.out.size)⟩
  · go_enter Tryz.func154, Tryz.ntmps154
    go_wp2_with (first
      | ((with_reducible show wpList _ _ _ (Oper.mk (some 14) _ _ _ _ _ :: _) _ _); refine wpList_load_at rfl 48 (.tmp 13) rfl g2 (o2 + m * 13) (by kernel_rfl) (Ev.cells g) _ HCG.out Tryz.underlying48 rfl (by kernel_rfl) ?_)
      | ((with_reducible show wpList _ _ _ (Oper.mk none (Op.store 48 (Operand.tmp 6) _) _ _ _ _ :: _) _ _); refine wpList_store_own rfl 48 (.tmp 6) (.tmp 14) rfl w.heap.size (Ev.cells g).toArray rfl rfl 48 (Ev.cells Ev.R0).toArray (heap_alloc_new _ _) (by kernel_rfl) (by kernel_rfl) (by kernel_rfl) ?_
         intro W1 HW1
         have B1 := Lib.hid (((Below.refl w.heap.size w).alloc (Nat.le_refl _) _).trans HW1.below)
         have RG := Lib.hid HW1.row
         clear HW1))
    clear cx kq0
    have cx : ∀ z : Og.On W1.heap.size W1, z.x.cell? ⟨q, 0, none⟩ = some (.slice (some ⟨g2, o2, none⟩) x.ev.length x.ce) := fun z => CX.out z.x (B1.out.trans (z.b.mono B1.out.size))
    have kq : ∀ z : Og.On W1.heap.size W1, z.x.cell? ⟨cq, 0, none⟩ = some (.pointer (some ⟨q, 0, none⟩)) := fun z => (KCq.out.kp (B1.out.trans (z.b.mono B1.out.size))).cell
    have ka : ∀ z : Og.On W1.heap.size W1, z.x.cell? ⟨ca, 0, none⟩ = some (.int .i64 (a : Int)) := fun z => (KCa.out.kp (B1.out.trans (z.b.mono B1.out.size))).cell
    have kb : ∀ z : Og.On W1.heap.size W1, z.x.cell? ⟨cb, 0, none⟩ = some (.int .i64 (b : Int)) := fun z => (KCb.out.kp (B1.out.trans (z.b.mono B1.out.size))).cell
    have r1 : ∀ z : Og.On W1.heap.size W1, z.x.cell? ⟨w.heap.size, 1, none⟩ = some (.int .i64 g.k) := fun z => Og.cellB z (by rw [cell_of_row _ _ _ _ _ _ RG.out]; rfl)
    have r7 : ∀ z : Og.On W1.heap.size W1, z.x.cell? ⟨w.heap.size, 7, none⟩ = some (.int .i64 g.p) := fun z => Og.cellB z (by rw [cell_of_row _ _ _ _ _ _ RG.out]; rfl)
    have r8 : ∀ z : Og.On W1.heap.size W1, z.x.cell? ⟨w.heap.size, 8, none⟩ = some (.int .i64 g.s) := fun z => Og.cellB z (by rw [cell_of_row _ _ _ _ _ _ RG.out]; rfl)
    have LA := Lib.hid (fun z : Og.On W1.heap.size W1 => Ev.ld (w := z.x) (g := g2) (o := o2 + a * 13) (x := e) (fun i c hi => Og.cellB z (Ev.kp_below B1.out _ _ (HCE.out i c hi))))
    have LB := Lib.hid (fun z : Og.On W1.heap.size W1 => Ev.ld (w := z.x) (g := g2) (o := o2 + b * 13) (x := f) (fun i c hi => Og.cellB z (Ev.kp_below B1.out _ _ (HCF.out i c hi))))
    simp only [Act.put]
    refine Og.regionB (by kernel_rfl) (by kernel_rfl) ?_
    repeat (first
      | go_big_quiet_skip
      | (go_big_quiet_want
         first
          | ((with_reducible show Oper.quiet _ (Oper.mk (some 28) _ _ _ _ _) _ _ _); refine Og.quiet_load 48 (.tmp 27) rfl (.agg (Ev.cells e).toArray) ⟨g2, o2 + a * 13, none⟩ _ rfl (by rintro _ ⟨z, rfl⟩; exact LA.out z) (by simp only [Act.put, List.setIfInBounds_toArray, List.set_cons_zero, List.set_cons_succ]; rfl) ?_
             go_big_quiet_on)
          | ((with_reducible show Oper.quiet _ (Oper.mk (some 41) _ _ _ _ _) _ _ _); refine Og.quiet_load 48 (.tmp 40) rfl (.agg (Ev.cells f).toArray) ⟨g2, o2 + b * 13, none⟩ _ rfl (by rintro _ ⟨z, rfl⟩; exact LB.out z) (by simp only [Act.put, List.setIfInBounds_toArray, List.set_cons_zero, List.set_cons_succ]; rfl) ?_
             go_big_quiet_on)
          | (go_big_quiet_op
             first
              | go_big_quiet_on
              | (apply Exists.intro
                 refine ⟨fun z => ?_, ?_⟩
                 · first
                    | (with_reducible exact Og.callB (isIn_is HS.out _))
                    | (with_reducible exact Og.callB (isIn_is HT.out _))
                 go_big_quiet_on))))
    refine wpQuiet_nil ?_
    intro _ hw'
    obtain ⟨q9, hw''⟩ := hw'
    subst hw''
    go_wp2_with fail
    go_ret
    exact ⟨by rw [HRES.out]; try rfl, B1.out.trans (q9.b.mono B1.out.size)⟩
end Go.Proofs.YtnjnpbabgefaeaaGreat
end

section
namespace Go.Proofs.YtnjnpbabgefaeaaGreat
open Go.RowKit
namespace Ev
theorem pl_mem {is : Nat → Nat → Bool} {n k : Nat} {p : Nat × Nat} : p ∈ pl is n k ↔ p.1 < k ∧ p.2 < n ∧ is p.1 p.2 = true := by
  unfold pl rowL
  rw [List.mem_flatMap]
  constructor
  · rintro ⟨a, ha, hp⟩
    rw [List.mem_map] at hp
    obtain ⟨b, hb, rfl⟩ := hp
    rw [List.mem_filter, List.mem_range] at hb
    exact ⟨List.mem_range.1 ha, hb.1, hb.2⟩
  · rintro ⟨h1, h2, h3⟩
    exact ⟨p.1, List.mem_range.2 h1, List.mem_map.2 ⟨p.2, List.mem_filter.2 ⟨List.mem_range.2 h2, h3⟩, rfl⟩⟩
end Ev
end Go.Proofs.YtnjnpbabgefaeaaGreat
end

section
namespace Go.Proofs.YtnjnpbabgefaeaaGreat
end Go.Proofs.YtnjnpbabgefaeaaGreat
end
