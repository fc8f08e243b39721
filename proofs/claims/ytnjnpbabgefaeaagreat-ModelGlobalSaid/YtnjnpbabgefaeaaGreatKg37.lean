import Derived.Test.YtnjnpbabgefaeaaGreatKg28
import Derived.Test.YtnjnpbabgefaeaaGreatKg08
import Derived.Test.YtnjnpbabgefaeaaGreatKg29
set_option linter.unusedVariables false
set_option linter.unusedSimpArgs false

section
namespace Go.Proofs.YtnjnpbabgefaeaaGreat
open Go.RowKit
theorem Ev.load_at_g {P : Program} {ops : Array Oper} {rest : List Oper} {o : Oper} {a : Act} {w : World} {Q : Exit → Act → World → Prop} (ty : TypeId) (x : Operand) (ho : o.op = .load ty x) (hw : Region.wanted o (yielded ops a.tmps) = true)
    (g off : Nat) (hx : a.eval x = .pointer (some ⟨g, off, none⟩)) (cs : List Value) (d : TypeDesc) (hc : ∀ i v, cs[i]? = some v → w.cell? ⟨g, off + i, none⟩ = some v)
    (hu : P.underlying ty = some d) (hd : (match d with | .struct _ | .array _ _ => true | _ => false) = true) (hi : (P.info? ty).map (·.size) = some cs.length)
    (h : wpList P ops Q rest (a.put o.dst (.agg cs.toArray)) w) : wpList P ops Q (o :: rest) a w := by
  unfold wpList
  rw [if_pos hw]
  refine .inl ?_
  unfold Oper.wp execOp
  simp only [ho, hx, Instr.loadAt, Instr.sureAddr, Sem.run_bind, Sem.run_pure, Result.andThen_ok, run_loadVar_at w g off ty cs d hc hu hd hi]
  exact h
namespace Or
open Ev
def r1 (x : X) (a b : Nat) : Bool := stores (nth x.ev b).k && oneW x a b
def r3 (x : X) (a b : Nat) : Bool := atom (nth x.ev a) && frAt x b == (a : Int)
def r5 (x : X) (a _b : Nat) : Bool := (nth x.ev a).q
def r6 (x : X) (_a b : Nat) : Bool := (nth x.ev b).l
def r7 (x : X) (a b : Nat) : Bool := mark (nth x.ev a) && mark (nth x.ev b)
def r9 (x : X) (a b : Nat) : Bool := has (nth x.ev b).d1.l (a : Int)
def r10 (x : X) (a b : Nat) : Bool := has (nth x.ev b).d2.l (a : Int)
def r11 (x : X) (a b : Nat) : Bool := stores (nth x.ev b).k && has (nth x.ev b).d3.l (a : Int)
end Or
set_option maxRecDepth 100000 in
set_option maxHeartbeats 4000000 in
theorem r1_any (x : Ev.X) (q a b : Nat) (ha : a < x.ev.length) (hb : b < x.ev.length) (w : World) (hq : Or.As w q x) :
    Calls Tryz.prog 124 #[.pointer (some ⟨q, 0, none⟩), .int .i64 (a : Int), .int .i64 (b : Int)] w fun r w' => r = .returned (.bool (Or.r1 x a b)) ∧ Below w.heap.size w w' := by
  have hl1 := hq.xin.ev.le; have hl2 := hq.xin.ev.max
  obtain ⟨e, he⟩ : ∃ e, x.ev[a]? = some e := ⟨_, List.getElem?_eq_getElem ha⟩
  obtain ⟨f, hf⟩ : ∃ f, x.ev[b]? = some f := ⟨_, List.getElem?_eq_getElem hb⟩
  obtain ⟨g, o, eg, hce⟩ := hq.xin.ev.at_ he
  obtain ⟨g', o', eg', hcf⟩ := hq.xin.ev.at_ hf
  obtain ⟨rfl, rfl⟩ : g' = g ∧ o' = o := by rw [eg] at eg'; cases eg'; exact ⟨rfl, rfl⟩
  have HE := Lib.hid (Ev.nth_some he); have HF := Lib.hid (Ev.nth_some hf)
  have HEO := Lib.hid (hq.xin.ev.ok_ he); have HFO := Lib.hid (hq.xin.ev.ok_ hf)
  have HQ := Lib.hid hq
  have HCE := Lib.hid (show ∀ W, Below w.heap.size w W → ∀ i c, (Ev.cells e)[i]? = some c → W.cell? ⟨g', o' + a * 13 + i, none⟩ = some c from fun W h i c hi => Ev.kp_below h _ _ (hce i c hi))
  have HCF := Lib.hid (show ∀ W, Below w.heap.size w W → ∀ i c, (Ev.cells f)[i]? = some c → W.cell? ⟨g', o' + b * 13 + i, none⟩ = some c from fun W h i c hi => Ev.kp_below h _ _ (hcf i c hi))
  have hai : (a : Int) < (x.ev.length : Int) := by omega
  have hbi : (b : Int) < (x.ev.length : Int) := by omega
  have CX := Lib.hid (show ∀ W, Below w.heap.size w W → W.cell? ⟨q, 0, none⟩ = some (.slice (some ⟨g', o', none⟩) x.ev.length x.ce) from fun W h => by
    rw [← eg]; exact (hq.kp h).c0)
  have cx := CX.out w (Below.refl _ _)
  have W0 := Lib.hid (Below.refl w.heap.size w)
  clear hq he hf eg eg' hce hcf
  obtain ⟨s, hs⟩ : ∃ s, Ev.stores f.k = s := ⟨_, rfl⟩
  have HS := Lib.hid hs
  obtain ⟨o1, ho1⟩ : ∃ s, Or.oneW x a b = s := ⟨_, rfl⟩
  have HO := Lib.hid ho1
  have HRES := Lib.hid (show Or.r1 x a b = (s && o1) by unfold Or.r1; rw [HF.out, hs, ho1])
  clear hs ho1
  go_enter Tryz.func124, Tryz.ntmps124
  go_wp2_with ((with_reducible show wpList _ _ _ (Oper.mk (some 14) _ _ _ _ _ :: _) _ _); refine wpList_load_at rfl 48 (.tmp 13) rfl g' (o' + b * 13) (by kernel_rfl) (Ev.cells f) _ (HCF.out _ (W0.out)) Tryz.underlying48 rfl (by kernel_rfl) ?_)
  refine (ostores_is HS.out _).mono ?_
  rintro r W1 ⟨rfl, hb1⟩
  have B1 := Lib.hid (W0.out.trans (hb1.mono (W0.out).size))
  clear hb1
  cases s
  · go_wp2_with fail
    go_ret
    exact ⟨by rw [HRES.out]; try rfl, B1.out⟩
  go_wp2_with fail
  refine (oneW_is HO.out ha hb _ (HQ.out.kp B1.out)).mono ?_
  rintro r W2 ⟨rfl, hb2⟩
  have B2 := Lib.hid (B1.out.trans (hb2.mono (B1.out).size))
  clear hb2
  go_wp2_with fail
  go_ret
  exact ⟨by rw [HRES.out]; try rfl, B2.out⟩
set_option maxRecDepth 100000 in
set_option maxHeartbeats 4000000 in
theorem r3_any (x : Ev.X) (q a b : Nat) (ha : a < x.ev.length) (hb : b < x.ev.length) (hfl : x.fr.l.length = x.ev.length) (w : World) (hq : Or.As w q x) :
    Calls Tryz.prog 126 #[.pointer (some ⟨q, 0, none⟩), .int .i64 (a : Int), .int .i64 (b : Int)] w fun r w' => r = .returned (.bool (Or.r3 x a b)) ∧ Below w.heap.size w w' := by
  have hl1 := hq.xin.ev.le; have hl2 := hq.xin.ev.max
  obtain ⟨e, he⟩ : ∃ e, x.ev[a]? = some e := ⟨_, List.getElem?_eq_getElem ha⟩
  obtain ⟨f, hf⟩ : ∃ f, x.ev[b]? = some f := ⟨_, List.getElem?_eq_getElem hb⟩
  obtain ⟨g, o, eg, hce⟩ := hq.xin.ev.at_ he
  obtain ⟨g', o', eg', hcf⟩ := hq.xin.ev.at_ hf
  obtain ⟨rfl, rfl⟩ : g' = g ∧ o' = o := by rw [eg] at eg'; cases eg'; exact ⟨rfl, rfl⟩
  have HE := Lib.hid (Ev.nth_some he); have HF := Lib.hid (Ev.nth_some hf)
  have HEO := Lib.hid (hq.xin.ev.ok_ he); have HFO := Lib.hid (hq.xin.ev.ok_ hf)
  have HQ := Lib.hid hq
  have HCE := Lib.hid (show ∀ W, Below w.heap.size w W → ∀ i c, (Ev.cells e)[i]? = some c → W.cell? ⟨g', o' + a * 13 + i, none⟩ = some c from fun W h i c hi => Ev.kp_below h _ _ (hce i c hi))
  have HCF := Lib.hid (show ∀ W, Below w.heap.size w W → ∀ i c, (Ev.cells f)[i]? = some c → W.cell? ⟨g', o' + b * 13 + i, none⟩ = some c from fun W h i c hi => Ev.kp_below h _ _ (hcf i c hi))
  have hai : (a : Int) < (x.ev.length : Int) := by omega
  have hbi : (b : Int) < (x.ev.length : Int) := by omega
  have CX := Lib.hid (show ∀ W, Below w.heap.size w W → W.cell? ⟨q, 0, none⟩ = some (.slice (some ⟨g', o', none⟩) x.ev.length x.ce) from fun W h => by
    rw [← eg]; exact (hq.kp h).c0)
  have cx := CX.out w (Below.refl _ _)
  have W0 := Lib.hid (Below.refl w.heap.size w)
  clear hq he hf eg eg' hce hcf
  have hfs := HQ.out.xin.fr.2.1; have hfm := HQ.out.xin.fr.2.2.1
  obtain ⟨v, hv⟩ : ∃ v, x.fr.l[b]? = some v := ⟨_, List.getElem?_eq_getElem (by omega)⟩
  obtain ⟨gf, of, ef, hcv⟩ := HQ.out.xin.fr.at_ hv
  have HV := Lib.hid (show Ev.frAt x b = v by unfold Ev.frAt; simp [List.getD, hv])
  have hbf : (b : Int) < (x.fr.l.length : Int) := by omega
  have C1 := Lib.hid (show ∀ W, Below w.heap.size w W → W.cell? ⟨q, 1, none⟩ = some (.slice (some ⟨gf, of, none⟩) x.fr.l.length x.fr.c) from fun W h => by
    rw [← ef]; exact (HQ.out.kp h).c1)
  have CV := Lib.hid (show ∀ W, Below w.heap.size w W → W.cell? ⟨gf, of + b, none⟩ = some (.int .i64 v) from fun W h => Ev.kp_below h _ _ hcv)
  clear hv ef hcv
  obtain ⟨s, hs⟩ : ∃ s, Or.atom e = s := ⟨_, rfl⟩
  have HS := Lib.hid hs
  have HRES := Lib.hid (show Or.r3 x a b = (s && v == (a : Int)) by unfold Or.r3; rw [HE.out, hs, HV.out])
  clear hs hfl
  go_enter Tryz.func126, Tryz.ntmps126
  go_wp2_with ((with_reducible show wpList _ _ _ (Oper.mk (some 14) _ _ _ _ _ :: _) _ _); refine wpList_load_at rfl 48 (.tmp 13) rfl g' (o' + a * 13) (by kernel_rfl) (Ev.cells e) _ (HCE.out _ (W0.out)) Tryz.underlying48 rfl (by kernel_rfl) ?_)
  refine (atom_is HS.out _).mono ?_
  rintro r W1 ⟨rfl, hb1⟩
  have B1 := Lib.hid (W0.out.trans (hb1.mono (W0.out).size))
  clear hb1
  have c1 := C1.out W1 B1.out; have cv := CV.out W1 B1.out
  cases s
  · go_wp2_with fail
    go_ret
    exact ⟨by rw [HRES.out]; try rfl, B1.out⟩
  by_cases hq : v = (a : Int)
  · have tq : (v == (a : Int)) = true := by simpa using hq
    have HRES := Lib.hid (show Or.r3 x a b = true by rw [HRES.out, tq]; rfl)
    clear hq
    go_wp2_with fail
    go_ret
    exact ⟨by rw [HRES.out]; try rfl, B1.out⟩
  · have tq : (v == (a : Int)) = false := by simpa using hq
    have HRES := Lib.hid (show Or.r3 x a b = false by rw [HRES.out, tq]; rfl)
    clear hq
    go_wp2_with fail
    go_ret
    exact ⟨by rw [HRES.out]; try rfl, B1.out⟩
set_option maxRecDepth 100000 in
set_option maxHeartbeats 4000000 in
theorem r5_any (x : Ev.X) (q a b : Nat) (ha : a < x.ev.length) (hb : b < x.ev.length) (w : World) (hq : Or.As w q x) :
    Calls Tryz.prog 128 #[.pointer (some ⟨q, 0, none⟩), .int .i64 (a : Int), .int .i64 (b : Int)] w fun r w' => r = .returned (.bool (Or.r5 x a b)) ∧ Below w.heap.size w w' := by
  have hl1 := hq.xin.ev.le; have hl2 := hq.xin.ev.max
  obtain ⟨e, he⟩ : ∃ e, x.ev[a]? = some e := ⟨_, List.getElem?_eq_getElem ha⟩
  obtain ⟨f, hf⟩ : ∃ f, x.ev[b]? = some f := ⟨_, List.getElem?_eq_getElem hb⟩
  obtain ⟨g, o, eg, hce⟩ := hq.xin.ev.at_ he
  obtain ⟨g', o', eg', hcf⟩ := hq.xin.ev.at_ hf
  obtain ⟨rfl, rfl⟩ : g' = g ∧ o' = o := by rw [eg] at eg'; cases eg'; exact ⟨rfl, rfl⟩
  have HE := Lib.hid (Ev.nth_some he); have HF := Lib.hid (Ev.nth_some hf)
  have HEO := Lib.hid (hq.xin.ev.ok_ he); have HFO := Lib.hid (hq.xin.ev.ok_ hf)
  have HQ := Lib.hid hq
  have HCE := Lib.hid (show ∀ W, Below w.heap.size w W → ∀ i c, (Ev.cells e)[i]? = some c → W.cell? ⟨g', o' + a * 13 + i, none⟩ = some c from fun W h i c hi => Ev.kp_below h _ _ (hce i c hi))
  have HCF := Lib.hid (show ∀ W, Below w.heap.size w W → ∀ i c, (Ev.cells f)[i]? = some c → W.cell? ⟨g', o' + b * 13 + i, none⟩ = some c from fun W h i c hi => Ev.kp_below h _ _ (hcf i c hi))
  have hai : (a : Int) < (x.ev.length : Int) := by omega
  have hbi : (b : Int) < (x.ev.length : Int) := by omega
  have CX := Lib.hid (show ∀ W, Below w.heap.size w W → W.cell? ⟨q, 0, none⟩ = some (.slice (some ⟨g', o', none⟩) x.ev.length x.ce) from fun W h => by
    rw [← eg]; exact (hq.kp h).c0)
  have cx := CX.out w (Below.refl _ _)
  have W0 := Lib.hid (Below.refl w.heap.size w)
  clear hq he hf eg eg' hce hcf
  have HRES := Lib.hid (show Or.r5 x a b = e.q by unfold Or.r5; rw [HE.out])
  have cc : w.cell? ⟨g', o' + a * 13 + 5, none⟩ = some (.bool e.q) := HCE.out w W0.out 5 _ rfl
  go_enter Tryz.func128, Tryz.ntmps128
  go_wp2_with fail
  go_ret
  exact ⟨by rw [HRES.out]; try rfl, W0.out⟩
set_option maxRecDepth 100000 in
set_option maxHeartbeats 4000000 in
theorem r6_any (x : Ev.X) (q a b : Nat) (ha : a < x.ev.length) (hb : b < x.ev.length) (w : World) (hq : Or.As w q x) :
    Calls Tryz.prog 129 #[.pointer (some ⟨q, 0, none⟩), .int .i64 (a : Int), .int .i64 (b : Int)] w fun r w' => r = .returned (.bool (Or.r6 x a b)) ∧ Below w.heap.size w w' := by
  have hl1 := hq.xin.ev.le; have hl2 := hq.xin.ev.max
  obtain ⟨e, he⟩ : ∃ e, x.ev[a]? = some e := ⟨_, List.getElem?_eq_getElem ha⟩
  obtain ⟨f, hf⟩ : ∃ f, x.ev[b]? = some f := ⟨_, List.getElem?_eq_getElem hb⟩
  obtain ⟨g, o, eg, hce⟩ := hq.xin.ev.at_ he
  obtain ⟨g', o', eg', hcf⟩ := hq.xin.ev.at_ hf
  obtain ⟨rfl, rfl⟩ : g' = g ∧ o' = o := by rw [eg] at eg'; cases eg'; exact ⟨rfl, rfl⟩
  have HE := Lib.hid (Ev.nth_some he); have HF := Lib.hid (Ev.nth_some hf)
  have HEO := Lib.hid (hq.xin.ev.ok_ he); have HFO := Lib.hid (hq.xin.ev.ok_ hf)
  have HQ := Lib.hid hq
  have HCE := Lib.hid (show ∀ W, Below w.heap.size w W → ∀ i c, (Ev.cells e)[i]? = some c → W.cell? ⟨g', o' + a * 13 + i, none⟩ = some c from fun W h i c hi => Ev.kp_below h _ _ (hce i c hi))
  have HCF := Lib.hid (show ∀ W, Below w.heap.size w W → ∀ i c, (Ev.cells f)[i]? = some c → W.cell? ⟨g', o' + b * 13 + i, none⟩ = some c from fun W h i c hi => Ev.kp_below h _ _ (hcf i c hi))
  have hai : (a : Int) < (x.ev.length : Int) := by omega
  have hbi : (b : Int) < (x.ev.length : Int) := by omega
  have CX := Lib.hid (show ∀ W, Below w.heap.size w W → W.cell? ⟨q, 0, none⟩ = some (.slice (some ⟨g', o', none⟩) x.ev.length x.ce) from fun W h => by
    rw [← eg]; exact (hq.kp h).c0)
  have cx := CX.out w (Below.refl _ _)
  have W0 := Lib.hid (Below.refl w.heap.size w)
  clear hq he hf eg eg' hce hcf
  have HRES := Lib.hid (show Or.r6 x a b = f.l by unfold Or.r6; rw [HF.out])
  have cc : w.cell? ⟨g', o' + b * 13 + 6, none⟩ = some (.bool f.l) := HCF.out w W0.out 6 _ rfl
  go_enter Tryz.func129, Tryz.ntmps129
  go_wp2_with fail
  go_ret
  exact ⟨by rw [HRES.out]; try rfl, W0.out⟩
set_option maxRecDepth 100000 in
set_option maxHeartbeats 4000000 in
theorem r7_any (x : Ev.X) (q a b : Nat) (ha : a < x.ev.length) (hb : b < x.ev.length) (w : World) (hq : Or.As w q x) :
    Calls Tryz.prog 130 #[.pointer (some ⟨q, 0, none⟩), .int .i64 (a : Int), .int .i64 (b : Int)] w fun r w' => r = .returned (.bool (Or.r7 x a b)) ∧ Below w.heap.size w w' := by
  have hl1 := hq.xin.ev.le; have hl2 := hq.xin.ev.max
  obtain ⟨e, he⟩ : ∃ e, x.ev[a]? = some e := ⟨_, List.getElem?_eq_getElem ha⟩
  obtain ⟨f, hf⟩ : ∃ f, x.ev[b]? = some f := ⟨_, List.getElem?_eq_getElem hb⟩
  obtain ⟨g, o, eg, hce⟩ := hq.xin.ev.at_ he
  obtain ⟨g', o', eg', hcf⟩ := hq.xin.ev.at_ hf
  obtain ⟨rfl, rfl⟩ : g' = g ∧ o' = o := by rw [eg] at eg'; cases eg'; exact ⟨rfl, rfl⟩
  have HE := Lib.hid (Ev.nth_some he); have HF := Lib.hid (Ev.nth_some hf)
  have HEO := Lib.hid (hq.xin.ev.ok_ he); have HFO := Lib.hid (hq.xin.ev.ok_ hf)
  have HQ := Lib.hid hq
  have HCE := Lib.hid (show ∀ W, Below w.heap.size w W → ∀ i c, (Ev.cells e)[i]? = some c → W.cell? ⟨g', o' + a * 13 + i, none⟩ = some c from fun W h i c hi => Ev.kp_below h _ _ (hce i c hi))
  have HCF := Lib.hid (show ∀ W, Below w.heap.size w W → ∀ i c, (Ev.cells f)[i]? = some c → W.cell? ⟨g', o' + b * 13 + i, none⟩ = some c from fun W h i c hi => Ev.kp_below h _ _ (hcf i c hi))
  have hai : (a : Int) < (x.ev.length : Int) := by omega
  have hbi : (b : Int) < (x.ev.length : Int) := by omega
  have CX := Lib.hid (show ∀ W, Below w.heap.size w W → W.cell? ⟨q, 0, none⟩ = some (.slice (some ⟨g', o', none⟩) x.ev.length x.ce) from fun W h => by
    rw [← eg]; exact (hq.kp h).c0)
  have cx := CX.out w (Below.refl _ _)
  have W0 := Lib.hid (Below.refl w.heap.size w)
  clear hq he hf eg eg' hce hcf
  obtain ⟨s, hs⟩ : ∃ s, Or.mark e = s := ⟨_, rfl⟩
  have HS := Lib.hid hs
  obtain ⟨t, ht⟩ : ∃ s, Or.mark f = s := ⟨_, rfl⟩
  have HT := Lib.hid ht
  have HRES := Lib.hid (show Or.r7 x a b = (s && t) by unfold Or.r7; rw [HE.out, HF.out, hs, ht])
  clear hs ht
  go_enter Tryz.func130, Tryz.ntmps130
  go_wp2_with ((with_reducible show wpList _ _ _ (Oper.mk (some 14) _ _ _ _ _ :: _) _ _); refine wpList_load_at rfl 48 (.tmp 13) rfl g' (o' + a * 13) (by kernel_rfl) (Ev.cells e) _ (HCE.out _ (W0.out)) Tryz.underlying48 rfl (by kernel_rfl) ?_)
  refine (mark_is HS.out _).mono ?_
  rintro r W1 ⟨rfl, hb1⟩
  have B1 := Lib.hid (W0.out.trans (hb1.mono (W0.out).size))
  clear hb1
  have c1 := CX.out W1 B1.out
  clear cx
  cases s
  · go_wp2_with fail
    go_ret
    exact ⟨by rw [HRES.out]; try rfl, B1.out⟩
  go_wp2_with ((with_reducible show wpList _ _ _ (Oper.mk (some 24) _ _ _ _ _ :: _) _ _); refine Ev.load_at_g 48 (.tmp 23) rfl rfl g' (o' + b * 13) (by kernel_rfl) (Ev.cells f) _ (HCF.out _ (B1.out)) Tryz.underlying48 rfl (by kernel_rfl) ?_)
  refine (mark_is HT.out _).mono ?_
  rintro r W2 ⟨rfl, hb2⟩
  have B2 := Lib.hid (B1.out.trans (hb2.mono (B1.out).size))
  clear hb2
  go_wp2_with fail
  go_ret
  exact ⟨by rw [HRES.out]; try rfl, B2.out⟩
set_option maxRecDepth 100000 in
set_option maxHeartbeats 4000000 in
theorem r9_any (x : Ev.X) (q a b : Nat) (ha : a < x.ev.length) (hb : b < x.ev.length) (w : World) (hq : Or.As w q x) :
    Calls Tryz.prog 132 #[.pointer (some ⟨q, 0, none⟩), .int .i64 (a : Int), .int .i64 (b : Int)] w fun r w' => r = .returned (.bool (Or.r9 x a b)) ∧ Below w.heap.size w w' := by
  have hl1 := hq.xin.ev.le; have hl2 := hq.xin.ev.max
  obtain ⟨e, he⟩ : ∃ e, x.ev[a]? = some e := ⟨_, List.getElem?_eq_getElem ha⟩
  obtain ⟨f, hf⟩ : ∃ f, x.ev[b]? = some f := ⟨_, List.getElem?_eq_getElem hb⟩
  obtain ⟨g, o, eg, hce⟩ := hq.xin.ev.at_ he
  obtain ⟨g', o', eg', hcf⟩ := hq.xin.ev.at_ hf
  obtain ⟨rfl, rfl⟩ : g' = g ∧ o' = o := by rw [eg] at eg'; cases eg'; exact ⟨rfl, rfl⟩
  have HE := Lib.hid (Ev.nth_some he); have HF := Lib.hid (Ev.nth_some hf)
  have HEO := Lib.hid (hq.xin.ev.ok_ he); have HFO := Lib.hid (hq.xin.ev.ok_ hf)
  have HQ := Lib.hid hq
  have HCE := Lib.hid (show ∀ W, Below w.heap.size w W → ∀ i c, (Ev.cells e)[i]? = some c → W.cell? ⟨g', o' + a * 13 + i, none⟩ = some c from fun W h i c hi => Ev.kp_below h _ _ (hce i c hi))
  have HCF := Lib.hid (show ∀ W, Below w.heap.size w W → ∀ i c, (Ev.cells f)[i]? = some c → W.cell? ⟨g', o' + b * 13 + i, none⟩ = some c from fun W h i c hi => Ev.kp_below h _ _ (hcf i c hi))
  have hai : (a : Int) < (x.ev.length : Int) := by omega
  have hbi : (b : Int) < (x.ev.length : Int) := by omega
  have CX := Lib.hid (show ∀ W, Below w.heap.size w W → W.cell? ⟨q, 0, none⟩ = some (.slice (some ⟨g', o', none⟩) x.ev.length x.ce) from fun W h => by
    rw [← eg]; exact (hq.kp h).c0)
  have cx := CX.out w (Below.refl _ _)
  have W0 := Lib.hid (Below.refl w.heap.size w)
  clear hq he hf eg eg' hce hcf
  obtain ⟨p, hp⟩ : ∃ s, Or.has f.d1.l (a : Int) = s := ⟨_, rfl⟩
  have HP := Lib.hid hp
  have HRES := Lib.hid (show Or.r9 x a b = p by unfold Or.r9; rw [HF.out, hp])
  have cd : w.cell? ⟨g', o' + b * 13 + 10, none⟩ = some (.slice f.d1.a f.d1.l.length f.d1.c) := HCF.out w W0.out 10 _ rfl
  clear hp
  go_enter Tryz.func132, Tryz.ntmps132
  go_wp2_with fail
  refine (contains_is HP.out _ HFO.out.d1).mono ?_
  rintro r W1 ⟨rfl, rfl⟩
  go_wp2_with fail
  go_ret
  exact ⟨by rw [HRES.out]; try rfl, W0.out⟩
set_option maxRecDepth 100000 in
set_option maxHeartbeats 4000000 in
theorem r10_any (x : Ev.X) (q a b : Nat) (ha : a < x.ev.length) (hb : b < x.ev.length) (w : World) (hq : Or.As w q x) :
    Calls Tryz.prog 133 #[.pointer (some ⟨q, 0, none⟩), .int .i64 (a : Int), .int .i64 (b : Int)] w fun r w' => r = .returned (.bool (Or.r10 x a b)) ∧ Below w.heap.size w w' := by
  have hl1 := hq.xin.ev.le; have hl2 := hq.xin.ev.max
  obtain ⟨e, he⟩ : ∃ e, x.ev[a]? = some e := ⟨_, List.getElem?_eq_getElem ha⟩
  obtain ⟨f, hf⟩ : ∃ f, x.ev[b]? = some f := ⟨_, List.getElem?_eq_getElem hb⟩
  obtain ⟨g, o, eg, hce⟩ := hq.xin.ev.at_ he
  obtain ⟨g', o', eg', hcf⟩ := hq.xin.ev.at_ hf
  obtain ⟨rfl, rfl⟩ : g' = g ∧ o' = o := by rw [eg] at eg'; cases eg'; exact ⟨rfl, rfl⟩
  have HE := Lib.hid (Ev.nth_some he); have HF := Lib.hid (Ev.nth_some hf)
  have HEO := Lib.hid (hq.xin.ev.ok_ he); have HFO := Lib.hid (hq.xin.ev.ok_ hf)
  have HQ := Lib.hid hq
  have HCE := Lib.hid (show ∀ W, Below w.heap.size w W → ∀ i c, (Ev.cells e)[i]? = some c → W.cell? ⟨g', o' + a * 13 + i, none⟩ = some c from fun W h i c hi => Ev.kp_below h _ _ (hce i c hi))
  have HCF := Lib.hid (show ∀ W, Below w.heap.size w W → ∀ i c, (Ev.cells f)[i]? = some c → W.cell? ⟨g', o' + b * 13 + i, none⟩ = some c from fun W h i c hi => Ev.kp_below h _ _ (hcf i c hi))
  have hai : (a : Int) < (x.ev.length : Int) := by omega
  have hbi : (b : Int) < (x.ev.length : Int) := by omega
  have CX := Lib.hid (show ∀ W, Below w.heap.size w W → W.cell? ⟨q, 0, none⟩ = some (.slice (some ⟨g', o', none⟩) x.ev.length x.ce) from fun W h => by
    rw [← eg]; exact (hq.kp h).c0)
  have cx := CX.out w (Below.refl _ _)
  have W0 := Lib.hid (Below.refl w.heap.size w)
  clear hq he hf eg eg' hce hcf
  obtain ⟨p, hp⟩ : ∃ s, Or.has f.d2.l (a : Int) = s := ⟨_, rfl⟩
  have HP := Lib.hid hp
  have HRES := Lib.hid (show Or.r10 x a b = p by unfold Or.r10; rw [HF.out, hp])
  have cd : w.cell? ⟨g', o' + b * 13 + 11, none⟩ = some (.slice f.d2.a f.d2.l.length f.d2.c) := HCF.out w W0.out 11 _ rfl
  clear hp
  go_enter Tryz.func133, Tryz.ntmps133
  go_wp2_with fail
  refine (contains_is HP.out _ HFO.out.d2).mono ?_
  rintro r W1 ⟨rfl, rfl⟩
  go_wp2_with fail
  go_ret
  exact ⟨by rw [HRES.out]; try rfl, W0.out⟩
set_option maxRecDepth 100000 in
set_option maxHeartbeats 4000000 in
theorem r11_any (x : Ev.X) (q a b : Nat) (ha : a < x.ev.length) (hb : b < x.ev.length) (w : World) (hq : Or.As w q x) :
    Calls Tryz.prog 134 #[.pointer (some ⟨q, 0, none⟩), .int .i64 (a : Int), .int .i64 (b : Int)] w fun r w' => r = .returned (.bool (Or.r11 x a b)) ∧ Below w.heap.size w w' := by
  have hl1 := hq.xin.ev.le; have hl2 := hq.xin.ev.max
  obtain ⟨e, he⟩ : ∃ e, x.ev[a]? = some e := ⟨_, List.getElem?_eq_getElem ha⟩
  obtain ⟨f, hf⟩ : ∃ f, x.ev[b]? = some f := ⟨_, List.getElem?_eq_getElem hb⟩
  obtain ⟨g, o, eg, hce⟩ := hq.xin.ev.at_ he
  obtain ⟨g', o', eg', hcf⟩ := hq.xin.ev.at_ hf
  obtain ⟨rfl, rfl⟩ : g' = g ∧ o' = o := by rw [eg] at eg'; cases eg'; exact ⟨rfl, rfl⟩
  have HE := Lib.hid (Ev.nth_some he); have HF := Lib.hid (Ev.nth_some hf)
  have HEO := Lib.hid (hq.xin.ev.ok_ he); have HFO := Lib.hid (hq.xin.ev.ok_ hf)
  have HQ := Lib.hid hq
  have HCE := Lib.hid (show ∀ W, Below w.heap.size w W → ∀ i c, (Ev.cells e)[i]? = some c → W.cell? ⟨g', o' + a * 13 + i, none⟩ = some c from fun W h i c hi => Ev.kp_below h _ _ (hce i c hi))
  have HCF := Lib.hid (show ∀ W, Below w.heap.size w W → ∀ i c, (Ev.cells f)[i]? = some c → W.cell? ⟨g', o' + b * 13 + i, none⟩ = some c from fun W h i c hi => Ev.kp_below h _ _ (hcf i c hi))
  have hai : (a : Int) < (x.ev.length : Int) := by omega
  have hbi : (b : Int) < (x.ev.length : Int) := by omega
  have CX := Lib.hid (show ∀ W, Below w.heap.size w W → W.cell? ⟨q, 0, none⟩ = some (.slice (some ⟨g', o', none⟩) x.ev.length x.ce) from fun W h => by
    rw [← eg]; exact (hq.kp h).c0)
  have cx := CX.out w (Below.refl _ _)
  have W0 := Lib.hid (Below.refl w.heap.size w)
  clear hq he hf eg eg' hce hcf
  obtain ⟨s, hs⟩ : ∃ s, Ev.stores f.k = s := ⟨_, rfl⟩
  have HS := Lib.hid hs
  obtain ⟨p, hp⟩ : ∃ s, Or.has f.d3.l (a : Int) = s := ⟨_, rfl⟩
  have HP := Lib.hid hp
  have HRES := Lib.hid (show Or.r11 x a b = (s && p) by unfold Or.r11; rw [HF.out, hs, hp])
  clear hs hp
  go_enter Tryz.func134, Tryz.ntmps134
  go_wp2_with ((with_reducible show wpList _ _ _ (Oper.mk (some 14) _ _ _ _ _ :: _) _ _); refine wpList_load_at rfl 48 (.tmp 13) rfl g' (o' + b * 13) (by kernel_rfl) (Ev.cells f) _ (HCF.out _ (W0.out)) Tryz.underlying48 rfl (by kernel_rfl) ?_)
  refine (ostores_is HS.out _).mono ?_
  rintro r W1 ⟨rfl, hb1⟩
  have B1 := Lib.hid (W0.out.trans (hb1.mono (W0.out).size))
  clear hb1
  have c1 := CX.out W1 B1.out
  have cd : W1.cell? ⟨g', o' + b * 13 + 12, none⟩ = some (.slice f.d3.a f.d3.l.length f.d3.c) := HCF.out W1 B1.out 12 _ rfl
  clear cx
  cases s
  · go_wp2_with fail
    go_ret
    exact ⟨by rw [HRES.out]; try rfl, B1.out⟩
  go_wp2_with fail
  refine (contains_is HP.out _ (HFO.out.d3.kp (Ev.kp_below B1.out))).mono ?_
  rintro r W2 ⟨rfl, rfl⟩
  go_wp2_with fail
  go_ret
  exact ⟨by rw [HRES.out]; try rfl, B1.out⟩
theorem r9_is {x : Ev.X} {q a b : Nat} {v : Bool} (h : Or.r9 x a b = v) (ha : a < x.ev.length) (hb : b < x.ev.length) (w : World) (hq : Or.As w q x) :
    Calls Tryz.prog 132 #[.pointer (some ⟨q, 0, none⟩), .int .i64 (a : Int), .int .i64 (b : Int)] w fun r w' => r = .returned (.bool v) ∧ Below w.heap.size w w' := h ▸ r9_any x q a b ha hb w hq
theorem r10_is {x : Ev.X} {q a b : Nat} {v : Bool} (h : Or.r10 x a b = v) (ha : a < x.ev.length) (hb : b < x.ev.length) (w : World) (hq : Or.As w q x) :
    Calls Tryz.prog 133 #[.pointer (some ⟨q, 0, none⟩), .int .i64 (a : Int), .int .i64 (b : Int)] w fun r w' => r = .returned (.bool v) ∧ Below w.heap.size w w' := h ▸ r10_any x q a b ha hb w hq
end Go.Proofs.YtnjnpbabgefaeaaGreat
end

section
namespace Go.Proofs.YtnjnpbabgefaeaaGreat
open Go.RowKit
namespace Ev
theorem rk_fold {n : Int} {v : Nat} : ∀ {ps : List (Int × Nat)} {r : Int}, (∀ p ∈ ps, p.1 = n → p.2 = v) → (r = v ∨ ∃ p ∈ ps, p.1 = n) → ps.foldl (fun r p => if p.1 = n then (p.2 : Int) else r) r = v
  | [], r, _, h => by
    rcases h with h | ⟨p, hp, _⟩
    · exact h
    · cases hp
  | p :: t, r, h1, h2 => by
    rw [List.foldl_cons]
    refine rk_fold (fun q hq => h1 q (List.mem_cons_of_mem _ hq)) ?_
    by_cases hp : p.1 = n
    · left; rw [if_pos hp, h1 p List.mem_cons_self hp]
    · rw [if_neg hp]
      rcases h2 with h | ⟨q, hq, hn⟩
      · exact .inl h
      · rcases List.mem_cons.1 hq with rfl | hq
        · exact absurd hn hp
        · exact .inr ⟨q, hq, hn⟩
theorem atGo_at {n : Int} : ∀ {l : List Int} {i : Int} {j : Nat}, l.Nodup → l[j]? = some n → atGo n i l = i + j
  | [], i, j, _, h => by simp at h
  | v :: r, i, 0, _, h => by
    simp at h; unfold atGo; rw [if_pos h]; simp
  | v :: r, i, j + 1, hd, h => by
    rw [List.nodup_cons] at hd
    have h' : r[j]? = some n := by simpa using h
    unfold atGo
    rw [if_neg (fun e => hd.1 (by rw [e]; exact List.mem_of_getElem? h')), atGo_at hd.2 h']
    omega
theorem at_at {n : Int} {l : List Int} {j : Nat} (hd : l.Nodup) (h : l[j]? = some n) : at_ l n = j := by
  unfold at_; rw [atGo_at hd h]; omega
theorem place_of {n v : Int} : ∀ {od : List Sl}, (∃ t ∈ od, n ∈ t.l) → (∀ t ∈ od, n ∈ t.l → at_ t.l n = v) → placeGo n od = v
  | [], h, _ => by obtain ⟨t, ht, _⟩ := h; cases ht
  | s :: r, h1, h2 => by
    unfold placeGo
    by_cases hs : n ∈ s.l
    · have := h2 s List.mem_cons_self hs
      have h0 : ¬ at_ s.l n < 0 := fun e => (at_neg s.l n).1 e hs
      rw [if_pos (by omega)]; exact this
    · have h0 := (at_neg s.l n).2 hs
      rw [if_neg (by omega)]
      refine place_of ?_ (fun t ht => h2 t (List.mem_cons_of_mem _ ht))
      obtain ⟨t, ht, hn⟩ := h1
      rcases List.mem_cons.1 ht with rfl | ht
      · exact absurd hn hs
      · exact ⟨t, ht, hn⟩
theorem five_lt {xs : List R} (h : evsOk xs = true) {i : Nat} (hi : i < xs.length) (e : (nth xs i).k = 5) : i < beg xs := by
  have hall := five_back (evs_all h) i hi e
  have h1 : beg (xs.take (i + 1)) = i + 1 := by
    unfold beg
    rw [List.filter_eq_self.2, List.length_take]
    · omega
    · intro y hy
      obtain ⟨j, hj, hjl, rfl⟩ := mem_take_lt hy
      simpa using hall j (by omega)
  have h2 : beg (xs.take (i + 1)) ≤ beg xs := by
    unfold beg
    exact (List.Sublist.filter _ (List.take_sublist _ _)).length_le
  omega
theorem beg_five {xs : List R} (h : evsOk xs = true) {i : Nat} (hi : i < beg xs) : (nth xs i).k = 5 := by
  obtain ⟨x, hx, hk⟩ := beg_pre (evs_all h) i hi
  rw [nth_some hx]; exact hk
theorem beg_up {xs : List R} (h : evsOk xs = true) : ∀ (d i : Nat), i + d + 1 < beg xs → (nth xs i).a < (nth xs (i + d + 1 : Nat)).a := by
  have hB := beg_le xs
  have step : ∀ i, i + 1 < beg xs → (nth xs i).a < (nth xs (i + 1 : Nat)).a := fun i hi => by
    have hf := (at_parts h (show i + 1 < xs.length by omega)).2.resolve_left (by omega)
    rw [show ((i + 1 : Nat) : Int) - 1 = (i : Int) by omega] at hf
    unfold follow at hf
    rw [if_pos ⟨beg_five h hi, beg_five h (show i < beg xs by omega)⟩] at hf
    exact of_decide_eq_true hf
  intro d
  induction d with
  | zero => exact fun i hi => step i hi
  | succ d ih => exact fun i hi => Int.lt_trans (ih i (by omega)) (step (i + d + 1) hi)
theorem beg_inj {xs : List R} (h : evsOk xs = true) {i j : Nat} (hi : i < beg xs) (hj : j < beg xs) (e : (nth xs i).a = (nth xs j).a) : i = j := by
  rcases Nat.lt_trichotomy i j with hl | hl | hl
  · have := beg_up h (j - i - 1) i (by omega)
    rw [show i + (j - i - 1) + 1 = j by omega] at this
    omega
  · exact hl
  · have := beg_up h (i - j - 1) j (by omega)
    rw [show j + (i - j - 1) + 1 = i by omega] at this
    omega
theorem beg_of {xs : List R} (h : evsOk xs = true) {n : Nat} (hn : n < xs.length) (hs : stores (nth xs n).k = true) : ∃ i, i < beg xs ∧ (nth xs i).a = (nth xs n).a := by
  by_cases h5 : (nth xs n).k = 5
  · exact ⟨n, five_lt h hn h5, rfl⟩
  have hbg : begunAt xs n = true := by
    have h' := h
    unfold evsOk begun at h'
    rw [Bool.and_eq_true, List.all_eq_true (p := begunAt xs)] at h'
    exact h'.2 n (List.mem_range.2 hn)
  unfold begunAt at hbg
  have hacc : acc (nth xs n).k = true := by
    unfold stores at hs; unfold acc
    simp at hs ⊢; omega
  rw [hacc, Bool.not_true, Bool.false_or, List.any_eq_true] at hbg
  obtain ⟨e, he, hq⟩ := hbg
  obtain ⟨j, hj, hjl, rfl⟩ := mem_take_lt he
  unfold isBeg at hq
  simp only [Bool.and_eq_true, beq_iff_eq] at hq
  exact ⟨j, five_lt h hjl hq.1, hq.2⟩
theorem od_at {x : X} (hc : check x = 0) {i : Nat} {s : Sl} (hs : x.od[i]? = some s) : i < beg x.ev ∧ rOrd x.ev (nth x.ev i).a i s.l ∧ s.l.Nodup ∧ ∀ n ∈ s.l, (nth x.ev n).a = (nth x.ev i).a := by
  obtain ⟨h1, _, _⟩ := check_order hc
  unfold orderOk at h1
  simp only [Bool.and_eq_true, beq_iff_eq, List.all_eq_true] at h1
  have hi := (List.getElem?_eq_some_iff.1 hs).1
  have ho := h1.2 i (List.mem_range.2 hi)
  have hr := (ord_iff hs rfl).1 ho
  refine ⟨by omega, hr, ?_⟩
  unfold orderAt at ho
  rw [hs] at ho
  simp only [Bool.and_eq_true, beq_iff_eq] at ho
  have hon := ho.2
  unfold onceOk at hon
  rw [Bool.and_eq_true, List.all_eq_true, decide_eq_true_eq] at hon
  refine ⟨hon.2, fun n hn => ?_⟩
  have := hon.1 n hn
  unfold onceAt at this
  simp only [Bool.and_eq_true, beq_iff_eq] at this
  rw [this.2, ho.1.2]
end Ev
end Go.Proofs.YtnjnpbabgefaeaaGreat
end
