/-
  OrBM: OrRul, OrClo, OrRulB, OrRulC, OrHold in one text.
-/
import Derived.Test.YtoicmhidmknfiaaOrAM

section
namespace Go.Proofs.Ytoicmhidmknfiaa
open Go.RowKit
set_option linter.unusedVariables false
set_option linter.unusedSimpArgs false
/-- a row somewhere in a block, loaded by a guarded operation that is wanted -/
theorem Ev.load_at_g {P : Program} {ops : Array Oper} {rest : List Oper} {o : Oper} {a : Act} {w : World} {Q : Exit → Act → World → Prop} (ty : TypeId) (x : Operand) (ho : o.op = .load ty x) (hw : Region.wanted o (yielded ops a.tmps) = true)
    (g off : Nat) (hx : a.eval x = .pointer (some ⟨g, off, none⟩)) (cs : List Value) (d : TypeDesc) (hc : ∀ i v, cs[i]? = some v → w.cell? ⟨g, off + i, none⟩ = some v)
    (hu : P.underlying ty = some d) (hd : (match d with | .struct _ | .array _ _ => true | _ => false) = true) (hi : (P.info? ty).map (·.size) = some cs.length)
    (h : wpList P ops Q rest (a.put o.dst (.agg cs.toArray)) w) : wpList P ops Q (o :: rest) a w := by
  unfold wpList
  rw [if_pos hw]
  refine .inl ?_
  unfold Oper.wp execOp
  simp only [ho, hx, Instr.loadAt, Instr.sureAddr, Sem.run_bind, Sem.run_pure, Result.andThen_ok, run_loadVar_at w g off ty cs d hc hu hd hi]
  exact h
namespace Or
open Ev
def r1 (x : X) (a b : Nat) : Bool := stores (nth x.ev b).k && oneW x a b
def r3 (x : X) (a b : Nat) : Bool := atom (nth x.ev a) && frAt x b == (a : Int)
def r5 (x : X) (a _b : Nat) : Bool := (nth x.ev a).q
def r6 (x : X) (_a b : Nat) : Bool := (nth x.ev b).l
def r7 (x : X) (a b : Nat) : Bool := mark (nth x.ev a) && mark (nth x.ev b)
def r9 (x : X) (a b : Nat) : Bool := has (nth x.ev b).d1.l (a : Int)
def r10 (x : X) (a b : Nat) : Bool := has (nth x.ev b).d2.l (a : Int)
def r11 (x : X) (a b : Nat) : Bool := stores (nth x.ev b).k && has (nth x.ev b).d3.l (a : Int)
end Or
set_option maxRecDepth 100000 in
set_option maxHeartbeats 4000000 in
theorem r1_any (x : Ev.X) (q a b : Nat) (ha : a < x.ev.length) (hb : b < x.ev.length) (w : World) (hq : Or.As w q x) :
    Calls Try.prog 80 #[.pointer (some ⟨q, 0, none⟩), .int .i64 (a : Int), .int .i64 (b : Int)] w fun r w' => r = .returned (.bool (Or.r1 x a b)) ∧ Below w.heap.size w w' := by
  have hl1 := hq.xin.ev.le; have hl2 := hq.xin.ev.max
  obtain ⟨e, he⟩ : ∃ e, x.ev[a]? = some e := ⟨_, List.getElem?_eq_getElem ha⟩
  obtain ⟨f, hf⟩ : ∃ f, x.ev[b]? = some f := ⟨_, List.getElem?_eq_getElem hb⟩
  obtain ⟨g, o, eg, hce⟩ := hq.xin.ev.at_ he
  obtain ⟨g', o', eg', hcf⟩ := hq.xin.ev.at_ hf
  obtain ⟨rfl, rfl⟩ : g' = g ∧ o' = o := by rw [eg] at eg'; cases eg'; exact ⟨rfl, rfl⟩
  have HE := Lib.hid (Ev.nth_some he); have HF := Lib.hid (Ev.nth_some hf)
  have HEO := Lib.hid (hq.xin.ev.ok_ he); have HFO := Lib.hid (hq.xin.ev.ok_ hf)
  have HQ := Lib.hid hq
  have HCE := Lib.hid (show ∀ W, Below w.heap.size w W → ∀ i c, (Ev.cells e)[i]? = some c → W.cell? ⟨g', o' + a * 13 + i, none⟩ = some c from fun W h i c hi => Ev.kp_below h _ _ (hce i c hi))
  have HCF := Lib.hid (show ∀ W, Below w.heap.size w W → ∀ i c, (Ev.cells f)[i]? = some c → W.cell? ⟨g', o' + b * 13 + i, none⟩ = some c from fun W h i c hi => Ev.kp_below h _ _ (hcf i c hi))
  have hai : (a : Int) < (x.ev.length : Int) := by omega
  have hbi : (b : Int) < (x.ev.length : Int) := by omega
  have CX := Lib.hid (show ∀ W, Below w.heap.size w W → W.cell? ⟨q, 0, none⟩ = some (.slice (some ⟨g', o', none⟩) x.ev.length x.ce) from fun W h => by
    rw [← eg]; exact (hq.kp h).c0)
  have cx := CX.out w (Below.refl _ _)
  have W0 := Lib.hid (Below.refl w.heap.size w)
  clear hq he hf eg eg' hce hcf
  obtain ⟨s, hs⟩ : ∃ s, Ev.stores f.k = s := ⟨_, rfl⟩
  have HS := Lib.hid hs
  obtain ⟨o1, ho1⟩ : ∃ s, Or.oneW x a b = s := ⟨_, rfl⟩
  have HO := Lib.hid ho1
  have HRES := Lib.hid (show Or.r1 x a b = (s && o1) by unfold Or.r1; rw [HF.out, hs, ho1])
  clear hs ho1
  go_enter Try.func80, Try.ntmps80
  go_wp2_with ((with_reducible show wpList _ _ _ (Oper.mk (some 14) _ _ _ _ _ :: _) _ _); refine wpList_load_at rfl 54 (.tmp 13) rfl g' (o' + b * 13) (by kernel_rfl) (Ev.cells f) _ (HCF.out _ (W0.out)) Try.underlying54 rfl (by kernel_rfl) ?_)
  refine (ostores_is HS.out _).mono ?_
  rintro r W1 ⟨rfl, hb1⟩
  have B1 := Lib.hid (W0.out.trans (hb1.mono (W0.out).size))
  clear hb1
  cases s
  · go_wp2_with fail
    go_ret
    exact ⟨by rw [HRES.out]; try rfl, B1.out⟩
  go_wp2_with fail
  refine (oneW_is HO.out ha hb _ (HQ.out.kp B1.out)).mono ?_
  rintro r W2 ⟨rfl, hb2⟩
  have B2 := Lib.hid (B1.out.trans (hb2.mono (B1.out).size))
  clear hb2
  go_wp2_with fail
  go_ret
  exact ⟨by rw [HRES.out]; try rfl, B2.out⟩
set_option maxRecDepth 100000 in
set_option maxHeartbeats 4000000 in
theorem r3_any (x : Ev.X) (q a b : Nat) (ha : a < x.ev.length) (hb : b < x.ev.length) (hfl : x.fr.l.length = x.ev.length) (w : World) (hq : Or.As w q x) :
    Calls Try.prog 82 #[.pointer (some ⟨q, 0, none⟩), .int .i64 (a : Int), .int .i64 (b : Int)] w fun r w' => r = .returned (.bool (Or.r3 x a b)) ∧ Below w.heap.size w w' := by
  have hl1 := hq.xin.ev.le; have hl2 := hq.xin.ev.max
  obtain ⟨e, he⟩ : ∃ e, x.ev[a]? = some e := ⟨_, List.getElem?_eq_getElem ha⟩
  obtain ⟨f, hf⟩ : ∃ f, x.ev[b]? = some f := ⟨_, List.getElem?_eq_getElem hb⟩
  obtain ⟨g, o, eg, hce⟩ := hq.xin.ev.at_ he
  obtain ⟨g', o', eg', hcf⟩ := hq.xin.ev.at_ hf
  obtain ⟨rfl, rfl⟩ : g' = g ∧ o' = o := by rw [eg] at eg'; cases eg'; exact ⟨rfl, rfl⟩
  have HE := Lib.hid (Ev.nth_some he); have HF := Lib.hid (Ev.nth_some hf)
  have HEO := Lib.hid (hq.xin.ev.ok_ he); have HFO := Lib.hid (hq.xin.ev.ok_ hf)
  have HQ := Lib.hid hq
  have HCE := Lib.hid (show ∀ W, Below w.heap.size w W → ∀ i c, (Ev.cells e)[i]? = some c → W.cell? ⟨g', o' + a * 13 + i, none⟩ = some c from fun W h i c hi => Ev.kp_below h _ _ (hce i c hi))
  have HCF := Lib.hid (show ∀ W, Below w.heap.size w W → ∀ i c, (Ev.cells f)[i]? = some c → W.cell? ⟨g', o' + b * 13 + i, none⟩ = some c from fun W h i c hi => Ev.kp_below h _ _ (hcf i c hi))
  have hai : (a : Int) < (x.ev.length : Int) := by omega
  have hbi : (b : Int) < (x.ev.length : Int) := by omega
  have CX := Lib.hid (show ∀ W, Below w.heap.size w W → W.cell? ⟨q, 0, none⟩ = some (.slice (some ⟨g', o', none⟩) x.ev.length x.ce) from fun W h => by
    rw [← eg]; exact (hq.kp h).c0)
  have cx := CX.out w (Below.refl _ _)
  have W0 := Lib.hid (Below.refl w.heap.size w)
  clear hq he hf eg eg' hce hcf
  have hfs := HQ.out.xin.fr.2.1; have hfm := HQ.out.xin.fr.2.2.1
  obtain ⟨v, hv⟩ : ∃ v, x.fr.l[b]? = some v := ⟨_, List.getElem?_eq_getElem (by omega)⟩
  obtain ⟨gf, of, ef, hcv⟩ := HQ.out.xin.fr.at_ hv
  have HV := Lib.hid (show Ev.frAt x b = v by unfold Ev.frAt; simp [List.getD, hv])
  have hbf : (b : Int) < (x.fr.l.length : Int) := by omega
  have C1 := Lib.hid (show ∀ W, Below w.heap.size w W → W.cell? ⟨q, 1, none⟩ = some (.slice (some ⟨gf, of, none⟩) x.fr.l.length x.fr.c) from fun W h => by
    rw [← ef]; exact (HQ.out.kp h).c1)
  have CV := Lib.hid (show ∀ W, Below w.heap.size w W → W.cell? ⟨gf, of + b, none⟩ = some (.int .i64 v) from fun W h => Ev.kp_below h _ _ hcv)
  clear hv ef hcv
  obtain ⟨s, hs⟩ : ∃ s, Or.atom e = s := ⟨_, rfl⟩
  have HS := Lib.hid hs
  have HRES := Lib.hid (show Or.r3 x a b = (s && v == (a : Int)) by unfold Or.r3; rw [HE.out, hs, HV.out])
  clear hs hfl
  go_enter Try.func82, Try.ntmps82
  go_wp2_with ((with_reducible show wpList _ _ _ (Oper.mk (some 14) _ _ _ _ _ :: _) _ _); refine wpList_load_at rfl 54 (.tmp 13) rfl g' (o' + a * 13) (by kernel_rfl) (Ev.cells e) _ (HCE.out _ (W0.out)) Try.underlying54 rfl (by kernel_rfl) ?_)
  refine (atom_is HS.out _).mono ?_
  rintro r W1 ⟨rfl, hb1⟩
  have B1 := Lib.hid (W0.out.trans (hb1.mono (W0.out).size))
  clear hb1
  have c1 := C1.out W1 B1.out; have cv := CV.out W1 B1.out
  cases s
  · go_wp2_with fail
    go_ret
    exact ⟨by rw [HRES.out]; try rfl, B1.out⟩
  by_cases hq : v = (a : Int)
  · have tq : (v == (a : Int)) = true := by simpa using hq
    have HRES := Lib.hid (show Or.r3 x a b = true by rw [HRES.out, tq]; rfl)
    clear hq
    go_wp2_with fail
    go_ret
    exact ⟨by rw [HRES.out]; try rfl, B1.out⟩
  · have tq : (v == (a : Int)) = false := by simpa using hq
    have HRES := Lib.hid (show Or.r3 x a b = false by rw [HRES.out, tq]; rfl)
    clear hq
    go_wp2_with fail
    go_ret
    exact ⟨by rw [HRES.out]; try rfl, B1.out⟩
set_option maxRecDepth 100000 in
set_option maxHeartbeats 4000000 in
theorem r5_any (x : Ev.X) (q a b : Nat) (ha : a < x.ev.length) (hb : b < x.ev.length) (w : World) (hq : Or.As w q x) :
    Calls Try.prog 84 #[.pointer (some ⟨q, 0, none⟩), .int .i64 (a : Int), .int .i64 (b : Int)] w fun r w' => r = .returned (.bool (Or.r5 x a b)) ∧ Below w.heap.size w w' := by
  have hl1 := hq.xin.ev.le; have hl2 := hq.xin.ev.max
  obtain ⟨e, he⟩ : ∃ e, x.ev[a]? = some e := ⟨_, List.getElem?_eq_getElem ha⟩
  obtain ⟨f, hf⟩ : ∃ f, x.ev[b]? = some f := ⟨_, List.getElem?_eq_getElem hb⟩
  obtain ⟨g, o, eg, hce⟩ := hq.xin.ev.at_ he
  obtain ⟨g', o', eg', hcf⟩ := hq.xin.ev.at_ hf
  obtain ⟨rfl, rfl⟩ : g' = g ∧ o' = o := by rw [eg] at eg'; cases eg'; exact ⟨rfl, rfl⟩
  have HE := Lib.hid (Ev.nth_some he); have HF := Lib.hid (Ev.nth_some hf)
  have HEO := Lib.hid (hq.xin.ev.ok_ he); have HFO := Lib.hid (hq.xin.ev.ok_ hf)
  have HQ := Lib.hid hq
  have HCE := Lib.hid (show ∀ W, Below w.heap.size w W → ∀ i c, (Ev.cells e)[i]? = some c → W.cell? ⟨g', o' + a * 13 + i, none⟩ = some c from fun W h i c hi => Ev.kp_below h _ _ (hce i c hi))
  have HCF := Lib.hid (show ∀ W, Below w.heap.size w W → ∀ i c, (Ev.cells f)[i]? = some c → W.cell? ⟨g', o' + b * 13 + i, none⟩ = some c from fun W h i c hi => Ev.kp_below h _ _ (hcf i c hi))
  have hai : (a : Int) < (x.ev.length : Int) := by omega
  have hbi : (b : Int) < (x.ev.length : Int) := by omega
  have CX := Lib.hid (show ∀ W, Below w.heap.size w W → W.cell? ⟨q, 0, none⟩ = some (.slice (some ⟨g', o', none⟩) x.ev.length x.ce) from fun W h => by
    rw [← eg]; exact (hq.kp h).c0)
  have cx := CX.out w (Below.refl _ _)
  have W0 := Lib.hid (Below.refl w.heap.size w)
  clear hq he hf eg eg' hce hcf
  have HRES := Lib.hid (show Or.r5 x a b = e.q by unfold Or.r5; rw [HE.out])
  have cc : w.cell? ⟨g', o' + a * 13 + 5, none⟩ = some (.bool e.q) := HCE.out w W0.out 5 _ rfl
  go_enter Try.func84, Try.ntmps84
  go_wp2_with fail
  go_ret
  exact ⟨by rw [HRES.out]; try rfl, W0.out⟩
set_option maxRecDepth 100000 in
set_option maxHeartbeats 4000000 in
theorem r6_any (x : Ev.X) (q a b : Nat) (ha : a < x.ev.length) (hb : b < x.ev.length) (w : World) (hq : Or.As w q x) :
    Calls Try.prog 85 #[.pointer (some ⟨q, 0, none⟩), .int .i64 (a : Int), .int .i64 (b : Int)] w fun r w' => r = .returned (.bool (Or.r6 x a b)) ∧ Below w.heap.size w w' := by
  have hl1 := hq.xin.ev.le; have hl2 := hq.xin.ev.max
  obtain ⟨e, he⟩ : ∃ e, x.ev[a]? = some e := ⟨_, List.getElem?_eq_getElem ha⟩
  obtain ⟨f, hf⟩ : ∃ f, x.ev[b]? = some f := ⟨_, List.getElem?_eq_getElem hb⟩
  obtain ⟨g, o, eg, hce⟩ := hq.xin.ev.at_ he
  obtain ⟨g', o', eg', hcf⟩ := hq.xin.ev.at_ hf
  obtain ⟨rfl, rfl⟩ : g' = g ∧ o' = o := by rw [eg] at eg'; cases eg'; exact ⟨rfl, rfl⟩
  have HE := Lib.hid (Ev.nth_some he); have HF := Lib.hid (Ev.nth_some hf)
  have HEO := Lib.hid (hq.xin.ev.ok_ he); have HFO := Lib.hid (hq.xin.ev.ok_ hf)
  have HQ := Lib.hid hq
  have HCE := Lib.hid (show ∀ W, Below w.heap.size w W → ∀ i c, (Ev.cells e)[i]? = some c → W.cell? ⟨g', o' + a * 13 + i, none⟩ = some c from fun W h i c hi => Ev.kp_below h _ _ (hce i c hi))
  have HCF := Lib.hid (show ∀ W, Below w.heap.size w W → ∀ i c, (Ev.cells f)[i]? = some c → W.cell? ⟨g', o' + b * 13 + i, none⟩ = some c from fun W h i c hi => Ev.kp_below h _ _ (hcf i c hi))
  have hai : (a : Int) < (x.ev.length : Int) := by omega
  have hbi : (b : Int) < (x.ev.length : Int) := by omega
  have CX := Lib.hid (show ∀ W, Below w.heap.size w W → W.cell? ⟨q, 0, none⟩ = some (.slice (some ⟨g', o', none⟩) x.ev.length x.ce) from fun W h => by
    rw [← eg]; exact (hq.kp h).c0)
  have cx := CX.out w (Below.refl _ _)
  have W0 := Lib.hid (Below.refl w.heap.size w)
  clear hq he hf eg eg' hce hcf
  have HRES := Lib.hid (show Or.r6 x a b = f.l by unfold Or.r6; rw [HF.out])
  have cc : w.cell? ⟨g', o' + b * 13 + 6, none⟩ = some (.bool f.l) := HCF.out w W0.out 6 _ rfl
  go_enter Try.func85, Try.ntmps85
  go_wp2_with fail
  go_ret
  exact ⟨by rw [HRES.out]; try rfl, W0.out⟩
set_option maxRecDepth 100000 in
set_option maxHeartbeats 4000000 in
theorem r7_any (x : Ev.X) (q a b : Nat) (ha : a < x.ev.length) (hb : b < x.ev.length) (w : World) (hq : Or.As w q x) :
    Calls Try.prog 86 #[.pointer (some ⟨q, 0, none⟩), .int .i64 (a : Int), .int .i64 (b : Int)] w fun r w' => r = .returned (.bool (Or.r7 x a b)) ∧ Below w.heap.size w w' := by
  have hl1 := hq.xin.ev.le; have hl2 := hq.xin.ev.max
  obtain ⟨e, he⟩ : ∃ e, x.ev[a]? = some e := ⟨_, List.getElem?_eq_getElem ha⟩
  obtain ⟨f, hf⟩ : ∃ f, x.ev[b]? = some f := ⟨_, List.getElem?_eq_getElem hb⟩
  obtain ⟨g, o, eg, hce⟩ := hq.xin.ev.at_ he
  obtain ⟨g', o', eg', hcf⟩ := hq.xin.ev.at_ hf
  obtain ⟨rfl, rfl⟩ : g' = g ∧ o' = o := by rw [eg] at eg'; cases eg'; exact ⟨rfl, rfl⟩
  have HE := Lib.hid (Ev.nth_some he); have HF := Lib.hid (Ev.nth_some hf)
  have HEO := Lib.hid (hq.xin.ev.ok_ he); have HFO := Lib.hid (hq.xin.ev.ok_ hf)
  have HQ := Lib.hid hq
  have HCE := Lib.hid (show ∀ W, Below w.heap.size w W → ∀ i c, (Ev.cells e)[i]? = some c → W.cell? ⟨g', o' + a * 13 + i, none⟩ = some c from fun W h i c hi => Ev.kp_below h _ _ (hce i c hi))
  have HCF := Lib.hid (show ∀ W, Below w.heap.size w W → ∀ i c, (Ev.cells f)[i]? = some c → W.cell? ⟨g', o' + b * 13 + i, none⟩ = some c from fun W h i c hi => Ev.kp_below h _ _ (hcf i c hi))
  have hai : (a : Int) < (x.ev.length : Int) := by omega
  have hbi : (b : Int) < (x.ev.length : Int) := by omega
  have CX := Lib.hid (show ∀ W, Below w.heap.size w W → W.cell? ⟨q, 0, none⟩ = some (.slice (some ⟨g', o', none⟩) x.ev.length x.ce) from fun W h => by
    rw [← eg]; exact (hq.kp h).c0)
  have cx := CX.out w (Below.refl _ _)
  have W0 := Lib.hid (Below.refl w.heap.size w)
  clear hq he hf eg eg' hce hcf
  obtain ⟨s, hs⟩ : ∃ s, Or.mark e = s := ⟨_, rfl⟩
  have HS := Lib.hid hs
  obtain ⟨t, ht⟩ : ∃ s, Or.mark f = s := ⟨_, rfl⟩
  have HT := Lib.hid ht
  have HRES := Lib.hid (show Or.r7 x a b = (s && t) by unfold Or.r7; rw [HE.out, HF.out, hs, ht])
  clear hs ht
  go_enter Try.func86, Try.ntmps86
  go_wp2_with ((with_reducible show wpList _ _ _ (Oper.mk (some 14) _ _ _ _ _ :: _) _ _); refine wpList_load_at rfl 54 (.tmp 13) rfl g' (o' + a * 13) (by kernel_rfl) (Ev.cells e) _ (HCE.out _ (W0.out)) Try.underlying54 rfl (by kernel_rfl) ?_)
  refine (mark_is HS.out _).mono ?_
  rintro r W1 ⟨rfl, hb1⟩
  have B1 := Lib.hid (W0.out.trans (hb1.mono (W0.out).size))
  clear hb1
  have c1 := CX.out W1 B1.out
  clear cx
  cases s
  · go_wp2_with fail
    go_ret
    exact ⟨by rw [HRES.out]; try rfl, B1.out⟩
  go_wp2_with ((with_reducible show wpList _ _ _ (Oper.mk (some 24) _ _ _ _ _ :: _) _ _); refine Ev.load_at_g 54 (.tmp 23) rfl rfl g' (o' + b * 13) (by kernel_rfl) (Ev.cells f) _ (HCF.out _ (B1.out)) Try.underlying54 rfl (by kernel_rfl) ?_)
  refine (mark_is HT.out _).mono ?_
  rintro r W2 ⟨rfl, hb2⟩
  have B2 := Lib.hid (B1.out.trans (hb2.mono (B1.out).size))
  clear hb2
  go_wp2_with fail
  go_ret
  exact ⟨by rw [HRES.out]; try rfl, B2.out⟩
set_option maxRecDepth 100000 in
set_option maxHeartbeats 4000000 in
theorem r9_any (x : Ev.X) (q a b : Nat) (ha : a < x.ev.length) (hb : b < x.ev.length) (w : World) (hq : Or.As w q x) :
    Calls Try.prog 88 #[.pointer (some ⟨q, 0, none⟩), .int .i64 (a : Int), .int .i64 (b : Int)] w fun r w' => r = .returned (.bool (Or.r9 x a b)) ∧ Below w.heap.size w w' := by
  have hl1 := hq.xin.ev.le; have hl2 := hq.xin.ev.max
  obtain ⟨e, he⟩ : ∃ e, x.ev[a]? = some e := ⟨_, List.getElem?_eq_getElem ha⟩
  obtain ⟨f, hf⟩ : ∃ f, x.ev[b]? = some f := ⟨_, List.getElem?_eq_getElem hb⟩
  obtain ⟨g, o, eg, hce⟩ := hq.xin.ev.at_ he
  obtain ⟨g', o', eg', hcf⟩ := hq.xin.ev.at_ hf
  obtain ⟨rfl, rfl⟩ : g' = g ∧ o' = o := by rw [eg] at eg'; cases eg'; exact ⟨rfl, rfl⟩
  have HE := Lib.hid (Ev.nth_some he); have HF := Lib.hid (Ev.nth_some hf)
  have HEO := Lib.hid (hq.xin.ev.ok_ he); have HFO := Lib.hid (hq.xin.ev.ok_ hf)
  have HQ := Lib.hid hq
  have HCE := Lib.hid (show ∀ W, Below w.heap.size w W → ∀ i c, (Ev.cells e)[i]? = some c → W.cell? ⟨g', o' + a * 13 + i, none⟩ = some c from fun W h i c hi => Ev.kp_below h _ _ (hce i c hi))
  have HCF := Lib.hid (show ∀ W, Below w.heap.size w W → ∀ i c, (Ev.cells f)[i]? = some c → W.cell? ⟨g', o' + b * 13 + i, none⟩ = some c from fun W h i c hi => Ev.kp_below h _ _ (hcf i c hi))
  have hai : (a : Int) < (x.ev.length : Int) := by omega
  have hbi : (b : Int) < (x.ev.length : Int) := by omega
  have CX := Lib.hid (show ∀ W, Below w.heap.size w W → W.cell? ⟨q, 0, none⟩ = some (.slice (some ⟨g', o', none⟩) x.ev.length x.ce) from fun W h => by
    rw [← eg]; exact (hq.kp h).c0)
  have cx := CX.out w (Below.refl _ _)
  have W0 := Lib.hid (Below.refl w.heap.size w)
  clear hq he hf eg eg' hce hcf
  obtain ⟨p, hp⟩ : ∃ s, Or.has f.d1.l (a : Int) = s := ⟨_, rfl⟩
  have HP := Lib.hid hp
  have HRES := Lib.hid (show Or.r9 x a b = p by unfold Or.r9; rw [HF.out, hp])
  have cd : w.cell? ⟨g', o' + b * 13 + 10, none⟩ = some (.slice f.d1.a f.d1.l.length f.d1.c) := HCF.out w W0.out 10 _ rfl
  clear hp
  go_enter Try.func88, Try.ntmps88
  go_wp2_with fail
  refine (contains_is HP.out _ HFO.out.d1).mono ?_
  rintro r W1 ⟨rfl, rfl⟩
  go_wp2_with fail
  go_ret
  exact ⟨by rw [HRES.out]; try rfl, W0.out⟩
set_option maxRecDepth 100000 in
set_option maxHeartbeats 4000000 in
theorem r10_any (x : Ev.X) (q a b : Nat) (ha : a < x.ev.length) (hb : b < x.ev.length) (w : World) (hq : Or.As w q x) :
    Calls Try.prog 89 #[.pointer (some ⟨q, 0, none⟩), .int .i64 (a : Int), .int .i64 (b : Int)] w fun r w' => r = .returned (.bool (Or.r10 x a b)) ∧ Below w.heap.size w w' := by
  have hl1 := hq.xin.ev.le; have hl2 := hq.xin.ev.max
  obtain ⟨e, he⟩ : ∃ e, x.ev[a]? = some e := ⟨_, List.getElem?_eq_getElem ha⟩
  obtain ⟨f, hf⟩ : ∃ f, x.ev[b]? = some f := ⟨_, List.getElem?_eq_getElem hb⟩
  obtain ⟨g, o, eg, hce⟩ := hq.xin.ev.at_ he
  obtain ⟨g', o', eg', hcf⟩ := hq.xin.ev.at_ hf
  obtain ⟨rfl, rfl⟩ : g' = g ∧ o' = o := by rw [eg] at eg'; cases eg'; exact ⟨rfl, rfl⟩
  have HE := Lib.hid (Ev.nth_some he); have HF := Lib.hid (Ev.nth_some hf)
  have HEO := Lib.hid (hq.xin.ev.ok_ he); have HFO := Lib.hid (hq.xin.ev.ok_ hf)
  have HQ := Lib.hid hq
  have HCE := Lib.hid (show ∀ W, Below w.heap.size w W → ∀ i c, (Ev.cells e)[i]? = some c → W.cell? ⟨g', o' + a * 13 + i, none⟩ = some c from fun W h i c hi => Ev.kp_below h _ _ (hce i c hi))
  have HCF := Lib.hid (show ∀ W, Below w.heap.size w W → ∀ i c, (Ev.cells f)[i]? = some c → W.cell? ⟨g', o' + b * 13 + i, none⟩ = some c from fun W h i c hi => Ev.kp_below h _ _ (hcf i c hi))
  have hai : (a : Int) < (x.ev.length : Int) := by omega
  have hbi : (b : Int) < (x.ev.length : Int) := by omega
  have CX := Lib.hid (show ∀ W, Below w.heap.size w W → W.cell? ⟨q, 0, none⟩ = some (.slice (some ⟨g', o', none⟩) x.ev.length x.ce) from fun W h => by
    rw [← eg]; exact (hq.kp h).c0)
  have cx := CX.out w (Below.refl _ _)
  have W0 := Lib.hid (Below.refl w.heap.size w)
  clear hq he hf eg eg' hce hcf
  obtain ⟨p, hp⟩ : ∃ s, Or.has f.d2.l (a : Int) = s := ⟨_, rfl⟩
  have HP := Lib.hid hp
  have HRES := Lib.hid (show Or.r10 x a b = p by unfold Or.r10; rw [HF.out, hp])
  have cd : w.cell? ⟨g', o' + b * 13 + 11, none⟩ = some (.slice f.d2.a f.d2.l.length f.d2.c) := HCF.out w W0.out 11 _ rfl
  clear hp
  go_enter Try.func89, Try.ntmps89
  go_wp2_with fail
  refine (contains_is HP.out _ HFO.out.d2).mono ?_
  rintro r W1 ⟨rfl, rfl⟩
  go_wp2_with fail
  go_ret
  exact ⟨by rw [HRES.out]; try rfl, W0.out⟩
set_option maxRecDepth 100000 in
set_option maxHeartbeats 4000000 in
theorem r11_any (x : Ev.X) (q a b : Nat) (ha : a < x.ev.length) (hb : b < x.ev.length) (w : World) (hq : Or.As w q x) :
    Calls Try.prog 90 #[.pointer (some ⟨q, 0, none⟩), .int .i64 (a : Int), .int .i64 (b : Int)] w fun r w' => r = .returned (.bool (Or.r11 x a b)) ∧ Below w.heap.size w w' := by
  have hl1 := hq.xin.ev.le; have hl2 := hq.xin.ev.max
  obtain ⟨e, he⟩ : ∃ e, x.ev[a]? = some e := ⟨_, List.getElem?_eq_getElem ha⟩
  obtain ⟨f, hf⟩ : ∃ f, x.ev[b]? = some f := ⟨_, List.getElem?_eq_getElem hb⟩
  obtain ⟨g, o, eg, hce⟩ := hq.xin.ev.at_ he
  obtain ⟨g', o', eg', hcf⟩ := hq.xin.ev.at_ hf
  obtain ⟨rfl, rfl⟩ : g' = g ∧ o' = o := by rw [eg] at eg'; cases eg'; exact ⟨rfl, rfl⟩
  have HE := Lib.hid (Ev.nth_some he); have HF := Lib.hid (Ev.nth_some hf)
  have HEO := Lib.hid (hq.xin.ev.ok_ he); have HFO := Lib.hid (hq.xin.ev.ok_ hf)
  have HQ := Lib.hid hq
  have HCE := Lib.hid (show ∀ W, Below w.heap.size w W → ∀ i c, (Ev.cells e)[i]? = some c → W.cell? ⟨g', o' + a * 13 + i, none⟩ = some c from fun W h i c hi => Ev.kp_below h _ _ (hce i c hi))
  have HCF := Lib.hid (show ∀ W, Below w.heap.size w W → ∀ i c, (Ev.cells f)[i]? = some c → W.cell? ⟨g', o' + b * 13 + i, none⟩ = some c from fun W h i c hi => Ev.kp_below h _ _ (hcf i c hi))
  have hai : (a : Int) < (x.ev.length : Int) := by omega
  have hbi : (b : Int) < (x.ev.length : Int) := by omega
  have CX := Lib.hid (show ∀ W, Below w.heap.size w W → W.cell? ⟨q, 0, none⟩ = some (.slice (some ⟨g', o', none⟩) x.ev.length x.ce) from fun W h => by
    rw [← eg]; exact (hq.kp h).c0)
  have cx := CX.out w (Below.refl _ _)
  have W0 := Lib.hid (Below.refl w.heap.size w)
  clear hq he hf eg eg' hce hcf
  obtain ⟨s, hs⟩ : ∃ s, Ev.stores f.k = s := ⟨_, rfl⟩
  have HS := Lib.hid hs
  obtain ⟨p, hp⟩ : ∃ s, Or.has f.d3.l (a : Int) = s := ⟨_, rfl⟩
  have HP := Lib.hid hp
  have HRES := Lib.hid (show Or.r11 x a b = (s && p) by unfold Or.r11; rw [HF.out, hs, hp])
  clear hs hp
  go_enter Try.func90, Try.ntmps90
  go_wp2_with ((with_reducible show wpList _ _ _ (Oper.mk (some 14) _ _ _ _ _ :: _) _ _); refine wpList_load_at rfl 54 (.tmp 13) rfl g' (o' + b * 13) (by kernel_rfl) (Ev.cells f) _ (HCF.out _ (W0.out)) Try.underlying54 rfl (by kernel_rfl) ?_)
  refine (ostores_is HS.out _).mono ?_
  rintro r W1 ⟨rfl, hb1⟩
  have B1 := Lib.hid (W0.out.trans (hb1.mono (W0.out).size))
  clear hb1
  have c1 := CX.out W1 B1.out
  have cd : W1.cell? ⟨g', o' + b * 13 + 12, none⟩ = some (.slice f.d3.a f.d3.l.length f.d3.c) := HCF.out W1 B1.out 12 _ rfl
  clear cx
  cases s
  · go_wp2_with fail
    go_ret
    exact ⟨by rw [HRES.out]; try rfl, B1.out⟩
  go_wp2_with fail
  refine (contains_is HP.out _ (HFO.out.d3.kp (Ev.kp_below B1.out))).mono ?_
  rintro r W2 ⟨rfl, rfl⟩
  go_wp2_with fail
  go_ret
  exact ⟨by rw [HRES.out]; try rfl, B1.out⟩
theorem r9_is {x : Ev.X} {q a b : Nat} {v : Bool} (h : Or.r9 x a b = v) (ha : a < x.ev.length) (hb : b < x.ev.length) (w : World) (hq : Or.As w q x) :
    Calls Try.prog 88 #[.pointer (some ⟨q, 0, none⟩), .int .i64 (a : Int), .int .i64 (b : Int)] w fun r w' => r = .returned (.bool v) ∧ Below w.heap.size w w' := h ▸ r9_any x q a b ha hb w hq
theorem r10_is {x : Ev.X} {q a b : Nat} {v : Bool} (h : Or.r10 x a b = v) (ha : a < x.ev.length) (hb : b < x.ev.length) (w : World) (hq : Or.As w q x) :
    Calls Try.prog 89 #[.pointer (some ⟨q, 0, none⟩), .int .i64 (a : Int), .int .i64 (b : Int)] w fun r w' => r = .returned (.bool v) ∧ Below w.heap.size w w' := h ▸ r10_any x q a b ha hb w hq
end Go.Proofs.Ytoicmhidmknfiaa
end

section
namespace Go.Proofs.Ytoicmhidmknfiaa
open Go.RowKit
set_option linter.unusedVariables false
set_option linter.unusedSimpArgs false
namespace Or
open Ev
def p2 (x : X) (a m : Nat) : Bool := stores (nth x.ev m).k && oneW x a m
def p4 (x : X) (a b m : Nat) : Bool := (nth x.ev m).k == 4 && isIn (nth x.ev m).p (nth x.ev a) && isIn (nth x.ev m).s (nth x.ev b)
def p8 (x : X) (m : Nat) : Bool := (nth x.ev m).z
def p12 (x : X) (a b m : Nat) : Bool := frAt x b == (m : Int) && (r9 x a m || r10 x a m)
def p13 (x : X) (a m : Nat) : Bool := r9 x a m
end Or
set_option maxRecDepth 100000 in
set_option maxHeartbeats 4000000 in
theorem c2_any (x : Ev.X) (q a m cq ca : Nat) (ha : a < x.ev.length) (hm : m < x.ev.length) (w : World) (hq : Or.As w q x) (hcq : Or.Box w cq 72 (.pointer (some ⟨q, 0, none⟩))) (hca : Or.Box w ca 3 (.int .i64 (a : Int))) :
    Calls Try.prog 97 #[.int .i64 (m : Int), .pointer (some ⟨cq, 0, none⟩), .pointer (some ⟨ca, 0, none⟩)] w fun r w' => r = .returned (.bool (Or.p2 x a m)) ∧ Below w.heap.size w w' := by
  have hl1 := hq.xin.ev.le; have hl2 := hq.xin.ev.max
  obtain ⟨e, he⟩ : ∃ e, x.ev[m]? = some e := ⟨_, List.getElem?_eq_getElem hm⟩
  obtain ⟨g', o', eg, hce⟩ := hq.xin.ev.at_ he
  have HE := Lib.hid (Ev.nth_some he)
  have HQ := Lib.hid hq
  have HCE := Lib.hid (show ∀ W, Below w.heap.size w W → ∀ i c, (Ev.cells e)[i]? = some c → W.cell? ⟨g', o' + m * 13 + i, none⟩ = some c from fun W h i c hi => Ev.kp_below h _ _ (hce i c hi))
  have hmi : (m : Int) < (x.ev.length : Int) := by omega
  have CX := Lib.hid (show ∀ W, Below w.heap.size w W → W.cell? ⟨q, 0, none⟩ = some (.slice (some ⟨g', o', none⟩) x.ev.length x.ce) from fun W h => by
    rw [← eg]; exact (hq.kp h).c0)
  have cx := CX.out w (Below.refl _ _)
  have W0 := Lib.hid (Below.refl w.heap.size w)
  have HEG := Lib.hid eg
  clear he eg hce
  have KCq := Lib.hid hcq; have kq := hcq.cell
  have KCa := Lib.hid hca; have ka := hca.cell
  clear hcq hca
  obtain ⟨s, hs⟩ : ∃ s, Ev.stores e.k = s := ⟨_, rfl⟩
  have HS := Lib.hid hs
  obtain ⟨o1, ho1⟩ : ∃ s, Or.oneW x a m = s := ⟨_, rfl⟩
  have HO := Lib.hid ho1
  have HRES := Lib.hid (show Or.p2 x a m = (s && o1) by unfold Or.p2; rw [HE.out, hs, ho1])
  clear hs ho1 hq
  go_enter Try.func97, Try.ntmps97
  go_wp2_with ((with_reducible show wpList _ _ _ (Oper.mk (some 12) _ _ _ _ _ :: _) _ _); refine wpList_load_at rfl 54 (.tmp 11) rfl g' (o' + m * 13) (by kernel_rfl) (Ev.cells e) _ (HCE.out _ (W0.out)) Try.underlying54 rfl (by kernel_rfl) ?_)
  refine (ostores_is HS.out _).mono ?_
  rintro r W1 ⟨rfl, hb1⟩
  have B1 := Lib.hid (W0.out.trans (hb1.mono (W0.out).size))
  clear hb1
  have kq1 := (KCq.out.kp B1.out).cell; have ka1 := (KCa.out.kp B1.out).cell
  clear kq ka cx
  cases s
  · go_wp2_with fail
    go_ret
    exact ⟨by rw [HRES.out]; try rfl, B1.out⟩
  go_wp2_with fail
  refine (oneW_is HO.out ha hm _ (HQ.out.kp B1.out)).mono ?_
  rintro r W2 ⟨rfl, hb2⟩
  have B2 := Lib.hid (B1.out.trans (hb2.mono (B1.out).size))
  clear hb2
  go_wp2_with fail
  go_ret
  exact ⟨by rw [HRES.out]; try rfl, B2.out⟩
set_option maxRecDepth 100000 in
set_option maxHeartbeats 4000000 in
theorem c8_any (x : Ev.X) (q m cq : Nat) (hm : m < x.ev.length) (w : World) (hq : Or.As w q x) (hcq : Or.Box w cq 72 (.pointer (some ⟨q, 0, none⟩))) :
    Calls Try.prog 102 #[.int .i64 (m : Int), .pointer (some ⟨cq, 0, none⟩)] w fun r w' => r = .returned (.bool (Or.p8 x m)) ∧ Below w.heap.size w w' := by
  have hl1 := hq.xin.ev.le; have hl2 := hq.xin.ev.max
  obtain ⟨e, he⟩ : ∃ e, x.ev[m]? = some e := ⟨_, List.getElem?_eq_getElem hm⟩
  obtain ⟨g', o', eg, hce⟩ := hq.xin.ev.at_ he
  have HE := Lib.hid (Ev.nth_some he)
  have HQ := Lib.hid hq
  have HCE := Lib.hid (show ∀ W, Below w.heap.size w W → ∀ i c, (Ev.cells e)[i]? = some c → W.cell? ⟨g', o' + m * 13 + i, none⟩ = some c from fun W h i c hi => Ev.kp_below h _ _ (hce i c hi))
  have hmi : (m : Int) < (x.ev.length : Int) := by omega
  have CX := Lib.hid (show ∀ W, Below w.heap.size w W → W.cell? ⟨q, 0, none⟩ = some (.slice (some ⟨g', o', none⟩) x.ev.length x.ce) from fun W h => by
    rw [← eg]; exact (hq.kp h).c0)
  have cx := CX.out w (Below.refl _ _)
  have W0 := Lib.hid (Below.refl w.heap.size w)
  have HEG := Lib.hid eg
  clear he eg hce
  have KCq := Lib.hid hcq; have kq := hcq.cell
  clear hcq
  have HRES := Lib.hid (show Or.p8 x m = e.z by unfold Or.p8; rw [HE.out])
  have cc : w.cell? ⟨g', o' + m * 13 + 9, none⟩ = some (.bool e.z) := HCE.out w W0.out 9 _ rfl
  clear hq
  go_enter Try.func102, Try.ntmps102
  go_wp2_with fail
  go_ret
  exact ⟨by rw [HRES.out]; try rfl, W0.out⟩
set_option maxRecDepth 100000 in
set_option maxHeartbeats 4000000 in
theorem c13_any (x : Ev.X) (q a m cq ca : Nat) (ha : a < x.ev.length) (hm : m < x.ev.length) (w : World) (hq : Or.As w q x) (hcq : Or.Box w cq 72 (.pointer (some ⟨q, 0, none⟩))) (hca : Or.Box w ca 3 (.int .i64 (a : Int))) :
    Calls Try.prog 105 #[.int .i64 (m : Int), .pointer (some ⟨cq, 0, none⟩), .pointer (some ⟨ca, 0, none⟩)] w fun r w' => r = .returned (.bool (Or.p13 x a m)) ∧ Below w.heap.size w w' := by
  have KCq := Lib.hid hcq; have kq := hcq.cell
  have KCa := Lib.hid hca; have ka := hca.cell
  have HQ := Lib.hid hq; have W0 := Lib.hid (Below.refl w.heap.size w)
  clear hcq hca
  obtain ⟨p, hp⟩ : ∃ s, Or.r9 x a m = s := ⟨_, rfl⟩
  have HP := Lib.hid hp
  have HRES := Lib.hid (show Or.p13 x a m = p by unfold Or.p13; rw [hp])
  clear hp hq
  go_enter Try.func105, Try.ntmps105
  go_wp2_with fail
  refine (r9_is HP.out ha hm _ HQ.out).mono ?_
  rintro r W1 ⟨rfl, hb1⟩
  have B1 := Lib.hid (W0.out.trans (hb1.mono (W0.out).size))
  clear hb1
  go_wp2_with fail
  go_ret
  exact ⟨by rw [HRES.out]; try rfl, B1.out⟩
set_option maxRecDepth 100000 in
set_option maxHeartbeats 4000000 in
theorem c12_any (x : Ev.X) (q a b m cq cb ca : Nat) (ha : a < x.ev.length) (hb : b < x.ev.length) (hm : m < x.ev.length) (hfl : x.fr.l.length = x.ev.length) (w : World) (hq : Or.As w q x) (hcq : Or.Box w cq 72 (.pointer (some ⟨q, 0, none⟩))) (hcb : Or.Box w cb 3 (.int .i64 (b : Int))) (hca : Or.Box w ca 3 (.int .i64 (a : Int))) :
    Calls Try.prog 104 #[.int .i64 (m : Int), .pointer (some ⟨cq, 0, none⟩), .pointer (some ⟨cb, 0, none⟩), .pointer (some ⟨ca, 0, none⟩)] w fun r w' => r = .returned (.bool (Or.p12 x a b m)) ∧ Below w.heap.size w w' := by
  have hfs := hq.xin.fr.2.1; have hfm := hq.xin.fr.2.2.1
  obtain ⟨v, hv⟩ : ∃ v, x.fr.l[b]? = some v := ⟨_, List.getElem?_eq_getElem (by omega)⟩
  obtain ⟨gf, of, ef, hcv⟩ := hq.xin.fr.at_ hv
  have HV := Lib.hid (show Ev.frAt x b = v by unfold Ev.frAt; simp [List.getD, hv])
  have hbf : (b : Int) < (x.fr.l.length : Int) := by omega
  have C1 := Lib.hid (show ∀ W, Below w.heap.size w W → W.cell? ⟨q, 1, none⟩ = some (.slice (some ⟨gf, of, none⟩) x.fr.l.length x.fr.c) from fun W h => by
    rw [← ef]; exact (hq.kp h).c1)
  have CV := Lib.hid (show ∀ W, Below w.heap.size w W → W.cell? ⟨gf, of + b, none⟩ = some (.int .i64 v) from fun W h => Ev.kp_below h _ _ hcv)
  clear hv ef hcv
  have HQ := Lib.hid hq; have W0 := Lib.hid (Below.refl w.heap.size w)
  have cx : ∀ z : Og.On w.heap.size w, z.x.cell? ⟨q, 1, none⟩ = some (.slice (some ⟨gf, of, none⟩) x.fr.l.length x.fr.c) := fun z => C1.out z.x z.b
  have cv : ∀ z : Og.On w.heap.size w, z.x.cell? ⟨gf, of + b, none⟩ = some (.int .i64 v) := fun z => CV.out z.x z.b
  have kq : ∀ z : Og.On w.heap.size w, z.x.cell? ⟨cq, 0, none⟩ = some (.pointer (some ⟨q, 0, none⟩)) := fun z => (hcq.kp z.b).cell
  have ka : ∀ z : Og.On w.heap.size w, z.x.cell? ⟨ca, 0, none⟩ = some (.int .i64 (a : Int)) := fun z => (hca.kp z.b).cell
  have kb : ∀ z : Og.On w.heap.size w, z.x.cell? ⟨cb, 0, none⟩ = some (.int .i64 (b : Int)) := fun z => (hcb.kp z.b).cell
  obtain ⟨p, hp⟩ : ∃ s, Or.r9 x a m = s := ⟨_, rfl⟩
  have HP := Lib.hid hp
  obtain ⟨s, hs⟩ : ∃ s, Or.r10 x a m = s := ⟨_, rfl⟩
  have HS := Lib.hid hs
  have HRES := Lib.hid (show Or.p12 x a b m = (v == (m : Int) && (p || s)) by unfold Or.p12; rw [hp, hs, HV.out])
  clear hp hs hq hcq hca hcb hfl
  by_cases hq : v = (m : Int)
  case neg =>
    have tq : (v == (m : Int)) = false := by simpa using hq
    have HRES := Lib.hid (show Or.p12 x a b m = false by rw [HRES.out, tq]; rfl)
    clear hq
    go_enter Try.func104, Try.ntmps104
    go_wp2_with fail
    refine Og.regionB (by kernel_rfl) (by kernel_rfl) ?_
    repeat (first
      | go_big_quiet_skip
      | (go_big_quiet_want
         first
          | (go_big_quiet_op
             first
              | go_big_quiet_on)))
    refine wpQuiet_nil ?_
    intro _ hw'
    obtain ⟨q9, hw''⟩ := hw'
    subst hw''
    go_wp2_with fail
    go_ret
    exact ⟨by rw [HRES.out]; try rfl, q9.b⟩
  have tq : (v == (m : Int)) = true := by simpa using hq
  have HRES := Lib.hid (show Or.p12 x a b m = (p || s) by rw [HRES.out, tq]; rfl)
  clear hq
  cases p
  · go_enter Try.func104, Try.ntmps104
    go_wp2_with fail
    refine Og.regionB (by kernel_rfl) (by kernel_rfl) ?_
    repeat (first
      | go_big_quiet_skip
      | (go_big_quiet_want
         first
          | (go_big_quiet_op
             first
              | go_big_quiet_on
              | (apply Exists.intro
                 refine ⟨fun z => ?_, ?_⟩
                 · first
                    | (with_reducible exact Og.callB (r9_is HP.out ha hm _ (HQ.out.kp z.b)))
                    | (with_reducible exact Og.callB (r10_is HS.out ha hm _ (HQ.out.kp z.b)))
                 go_big_quiet_on))))
    refine wpQuiet_nil ?_
    intro _ hw'
    obtain ⟨q9, hw''⟩ := hw'
    subst hw''
    go_wp2_with fail
    go_ret
    exact ⟨by rw [HRES.out]; try rfl, q9.b⟩
  · go_enter Try.func104, Try.ntmps104
    go_wp2_with fail
    refine Og.regionB (by kernel_rfl) (by kernel_rfl) ?_
    repeat (first
      | go_big_quiet_skip
      | (go_big_quiet_want
         first
          | (go_big_quiet_op
             first
              | go_big_quiet_on
              | (apply Exists.intro
                 refine ⟨fun z => ?_, ?_⟩
                 · first
                    | (with_reducible exact Og.callB (r9_is HP.out ha hm _ (HQ.out.kp z.b)))
                 go_big_quiet_on))))
    refine wpQuiet_nil ?_
    intro _ hw'
    obtain ⟨q9, hw''⟩ := hw'
    subst hw''
    go_wp2_with fail
    go_ret
    exact ⟨by rw [HRES.out]; try rfl, q9.b⟩
set_option maxRecDepth 100000 in
set_option maxHeartbeats 4000000 in
theorem c4_any (x : Ev.X) (q a b m cq ca cb : Nat) (ha : a < x.ev.length) (hb : b < x.ev.length) (hm : m < x.ev.length) (w : World) (hq : Or.As w q x) (hcq : Or.Box w cq 72 (.pointer (some ⟨q, 0, none⟩))) (hca : Or.Box w ca 3 (.int .i64 (a : Int))) (hcb : Or.Box w cb 3 (.int .i64 (b : Int))) :
    Calls Try.prog 99 #[.int .i64 (m : Int), .pointer (some ⟨cq, 0, none⟩), .pointer (some ⟨ca, 0, none⟩), .pointer (some ⟨cb, 0, none⟩)] w fun r w' => r = .returned (.bool (Or.p4 x a b m)) ∧ Below w.heap.size w w' := by
  have hl1 := hq.xin.ev.le; have hl2 := hq.xin.ev.max
  obtain ⟨g, hg⟩ : ∃ e, x.ev[m]? = some e := ⟨_, List.getElem?_eq_getElem hm⟩
  obtain ⟨e, he⟩ : ∃ e, x.ev[a]? = some e := ⟨_, List.getElem?_eq_getElem ha⟩
  obtain ⟨f, hf⟩ : ∃ f, x.ev[b]? = some f := ⟨_, List.getElem?_eq_getElem hb⟩
  obtain ⟨g1, o1, eg1, hcg⟩ := hq.xin.ev.at_ hg
  obtain ⟨g2, o2, eg2, hce⟩ := hq.xin.ev.at_ he
  obtain ⟨g', o', eg, hcf⟩ := hq.xin.ev.at_ hf
  obtain ⟨rfl, rfl⟩ : g1 = g' ∧ o1 = o' := by rw [eg] at eg1; cases eg1; exact ⟨rfl, rfl⟩
  obtain ⟨rfl, rfl⟩ : g2 = g1 ∧ o2 = o1 := by rw [eg] at eg2; cases eg2; exact ⟨rfl, rfl⟩
  have HG := Lib.hid (Ev.nth_some hg); have HE := Lib.hid (Ev.nth_some he); have HF := Lib.hid (Ev.nth_some hf)
  have HQ := Lib.hid hq
  have HCG := Lib.hid hcg; have HCE := Lib.hid hce; have HCF := Lib.hid hcf
  have hmi : (m : Int) < (x.ev.length : Int) := by omega
  have hai : (a : Int) < (x.ev.length : Int) := by omega
  have hbi : (b : Int) < (x.ev.length : Int) := by omega
  have CX := Lib.hid (show ∀ W, Below w.heap.size w W → W.cell? ⟨q, 0, none⟩ = some (.slice (some ⟨g2, o2, none⟩) x.ev.length x.ce) from fun W h => by
    rw [← eg]; exact (hq.kp h).c0)
  have cx := CX.out w (Below.refl _ _)
  clear hg he hf eg eg1 eg2 hcg hce hcf
  have kq0 := hcq.cell
  obtain ⟨s, hs⟩ : ∃ s, Or.isIn g.p e = s := ⟨_, rfl⟩
  have HS := Lib.hid hs
  obtain ⟨t, ht⟩ : ∃ s, Or.isIn g.s f = s := ⟨_, rfl⟩
  have HT := Lib.hid ht
  have HRES := Lib.hid (show Or.p4 x a b m = (g.k == 4 && s && t) by unfold Or.p4; rw [HG.out, HE.out, HF.out, hs, ht])
  have KCq := Lib.hid hcq; have KCa := Lib.hid hca; have KCb := Lib.hid hcb
  clear hs ht hq hcq hca hcb
  by_cases hk : g.k = 4
  case neg =>
    have tk : (g.k == 4) = false := by simpa using hk
    have HRES := Lib.hid (show Or.p4 x a b m = false by rw [HRES.out, tk]; rfl)
    clear hk
    go_enter Try.func99, Try.ntmps99
    go_wp2_with (first
      | ((with_reducible show wpList _ _ _ (Oper.mk (some 14) _ _ _ _ _ :: _) _ _); refine wpList_load_at rfl 54 (.tmp 13) rfl g2 (o2 + m * 13) (by kernel_rfl) (Ev.cells g) _ HCG.out Try.underlying54 rfl (by kernel_rfl) ?_)
      | ((with_reducible show wpList _ _ _ (Oper.mk none (Op.store 54 (Operand.tmp 6) _) _ _ _ _ :: _) _ _); refine wpList_store_own rfl 54 (.tmp 6) (.tmp 14) rfl w.heap.size (Ev.cells g).toArray rfl rfl 54 (Ev.cells Ev.R0).toArray (heap_alloc_new _ _) (by kernel_rfl) (by kernel_rfl) (by kernel_rfl) ?_
         intro W1 HW1
         have B1 := Lib.hid (((Below.refl w.heap.size w).alloc (Nat.le_refl _) _).trans HW1.below)
         have RG := Lib.hid HW1.row
         clear HW1))
    clear cx kq0
    have cx : ∀ z : Og.On W1.heap.size W1, z.x.cell? ⟨q, 0, none⟩ = some (.slice (some ⟨g2, o2, none⟩) x.ev.length x.ce) := fun z => CX.out z.x (B1.out.trans (z.b.mono B1.out.size))
    have kq : ∀ z : Og.On W1.heap.size W1, z.x.cell? ⟨cq, 0, none⟩ = some (.pointer (some ⟨q, 0, none⟩)) := fun z => (KCq.out.kp (B1.out.trans (z.b.mono B1.out.size))).cell
    have ka : ∀ z : Og.On W1.heap.size W1, z.x.cell? ⟨ca, 0, none⟩ = some (.int .i64 (a : Int)) := fun z => (KCa.out.kp (B1.out.trans (z.b.mono B1.out.size))).cell
    have kb : ∀ z : Og.On W1.heap.size W1, z.x.cell? ⟨cb, 0, none⟩ = some (.int .i64 (b : Int)) := fun z => (KCb.out.kp (B1.out.trans (z.b.mono B1.out.size))).cell
    have r1 : ∀ z : Og.On W1.heap.size W1, z.x.cell? ⟨w.heap.size, 1, none⟩ = some (.int .i64 g.k) := fun z => Og.cellB z (by rw [cell_of_row _ _ _ _ _ _ RG.out]; rfl)
    have r7 : ∀ z : Og.On W1.heap.size W1, z.x.cell? ⟨w.heap.size, 7, none⟩ = some (.int .i64 g.p) := fun z => Og.cellB z (by rw [cell_of_row _ _ _ _ _ _ RG.out]; rfl)
    have r8 : ∀ z : Og.On W1.heap.size W1, z.x.cell? ⟨w.heap.size, 8, none⟩ = some (.int .i64 g.s) := fun z => Og.cellB z (by rw [cell_of_row _ _ _ _ _ _ RG.out]; rfl)
    have LA := Lib.hid (fun z : Og.On W1.heap.size W1 => Ev.ld (w := z.x) (g := g2) (o := o2 + a * 13) (x := e) (fun i c hi => Og.cellB z (Ev.kp_below B1.out _ _ (HCE.out i c hi))))
    have LB := Lib.hid (fun z : Og.On W1.heap.size W1 => Ev.ld (w := z.x) (g := g2) (o := o2 + b * 13) (x := f) (fun i c hi => Og.cellB z (Ev.kp_below B1.out _ _ (HCF.out i c hi))))
    simp only [Act.put]
    refine Og.regionB (by kernel_rfl) (by kernel_rfl) ?_
    repeat (first
      | go_big_quiet_skip
      | (go_big_quiet_want
         first
          | (go_big_quiet_op
             first
              | go_big_quiet_on)))
    refine wpQuiet_nil ?_
    intro _ hw'
    obtain ⟨q9, hw''⟩ := hw'
    subst hw''
    go_wp2_with fail
    go_ret
    exact ⟨by rw [HRES.out]; try rfl, B1.out.trans (q9.b.mono B1.out.size)⟩
  have tk : (g.k == 4) = true := by simpa using hk
  have HRES := Lib.hid (show Or.p4 x a b m = (s && t) by rw [HRES.out, tk]; rfl)
  clear hk
  cases s
  · go_enter Try.func99, Try.ntmps99
    go_wp2_with (first
      | ((with_reducible show wpList _ _ _ (Oper.mk (some 14) _ _ _ _ _ :: _) _ _); refine wpList_load_at rfl 54 (.tmp 13) rfl g2 (o2 + m * 13) (by kernel_rfl) (Ev.cells g) _ HCG.out Try.underlying54 rfl (by kernel_rfl) ?_)
      | ((with_reducible show wpList _ _ _ (Oper.mk none (Op.store 54 (Operand.tmp 6) _) _ _ _ _ :: _) _ _); refine wpList_store_own rfl 54 (.tmp 6) (.tmp 14) rfl w.heap.size (Ev.cells g).toArray rfl rfl 54 (Ev.cells Ev.R0).toArray (heap_alloc_new _ _) (by kernel_rfl) (by kernel_rfl) (by kernel_rfl) ?_
         intro W1 HW1
         have B1 := Lib.hid (((Below.refl w.heap.size w).alloc (Nat.le_refl _) _).trans HW1.below)
         have RG := Lib.hid HW1.row
         clear HW1))
    clear cx kq0
    have cx : ∀ z : Og.On W1.heap.size W1, z.x.cell? ⟨q, 0, none⟩ = some (.slice (some ⟨g2, o2, none⟩) x.ev.length x.ce) := fun z => CX.out z.x (B1.out.trans (z.b.mono B1.out.size))
    have kq : ∀ z : Og.On W1.heap.size W1, z.x.cell? ⟨cq, 0, none⟩ = some (.pointer (some ⟨q, 0, none⟩)) := fun z => (KCq.out.kp (B1.out.trans (z.b.mono B1.out.size))).cell
    have ka : ∀ z : Og.On W1.heap.size W1, z.x.cell? ⟨ca, 0, none⟩ = some (.int .i64 (a : Int)) := fun z => (KCa.out.kp (B1.out.trans (z.b.mono B1.out.size))).cell
    have kb : ∀ z : Og.On W1.heap.size W1, z.x.cell? ⟨cb, 0, none⟩ = some (.int .i64 (b : Int)) := fun z => (KCb.out.kp (B1.out.trans (z.b.mono B1.out.size))).cell
    have r1 : ∀ z : Og.On W1.heap.size W1, z.x.cell? ⟨w.heap.size, 1, none⟩ = some (.int .i64 g.k) := fun z => Og.cellB z (by rw [cell_of_row _ _ _ _ _ _ RG.out]; rfl)
    have r7 : ∀ z : Og.On W1.heap.size W1, z.x.cell? ⟨w.heap.size, 7, none⟩ = some (.int .i64 g.p) := fun z => Og.cellB z (by rw [cell_of_row _ _ _ _ _ _ RG.out]; rfl)
    have r8 : ∀ z : Og.On W1.heap.size W1, z.x.cell? ⟨w.heap.size, 8, none⟩ = some (.int .i64 g.s) := fun z => Og.cellB z (by rw [cell_of_row _ _ _ _ _ _ RG.out]; rfl)
    have LA := Lib.hid (fun z : Og.On W1.heap.size W1 => Ev.ld (w := z.x) (g := g2) (o := o2 + a * 13) (x := e) (fun i c hi => Og.cellB z (Ev.kp_below B1.out _ _ (HCE.out i c hi))))
    have LB := Lib.hid (fun z : Og.On W1.heap.size W1 => Ev.ld (w := z.x) (g := g2) (o := o2 + b * 13) (x := f) (fun i c hi => Og.cellB z (Ev.kp_below B1.out _ _ (HCF.out i c hi))))
    simp only [Act.put]
    refine Og.regionB (by kernel_rfl) (by kernel_rfl) ?_
    repeat (first
      | go_big_quiet_skip
      | (go_big_quiet_want
         first
          | ((with_reducible show Oper.quiet _ (Oper.mk (some 28) _ _ _ _ _) _ _ _); refine Og.quiet_load 54 (.tmp 27) rfl (.agg (Ev.cells e).toArray) ⟨g2, o2 + a * 13, none⟩ _ rfl (by rintro _ ⟨z, rfl⟩; exact LA.out z) (by simp only [Act.put, List.setIfInBounds_toArray, List.set_cons_zero, List.set_cons_succ]; rfl) ?_
             go_big_quiet_on)
          | (go_big_quiet_op
             first
              | go_big_quiet_on
              | (apply Exists.intro
                 refine ⟨fun z => ?_, ?_⟩
                 · first
                    | (with_reducible exact Og.callB (isIn_is HS.out _))
                 go_big_quiet_on))))
    refine wpQuiet_nil ?_
    intro _ hw'
    obtain ⟨q9, hw''⟩ := hw'
    subst hw''
    go_wp2_with fail
    go_ret
    exact ⟨by rw [HRES.out]; try rfl, B1.out.trans (q9.b.mono B1.out.size)⟩
  · go_enter Try.func99, Try.ntmps99
    go_wp2_with (first
      | ((with_reducible show wpList _ _ _ (Oper.mk (some 14) _ _ _ _ _ :: _) _ _); refine wpList_load_at rfl 54 (.tmp 13) rfl g2 (o2 + m * 13) (by kernel_rfl) (Ev.cells g) _ HCG.out Try.underlying54 rfl (by kernel_rfl) ?_)
      | ((with_reducible show wpList _ _ _ (Oper.mk none (Op.store 54 (Operand.tmp 6) _) _ _ _ _ :: _) _ _); refine wpList_store_own rfl 54 (.tmp 6) (.tmp 14) rfl w.heap.size (Ev.cells g).toArray rfl rfl 54 (Ev.cells Ev.R0).toArray (heap_alloc_new _ _) (by kernel_rfl) (by kernel_rfl) (by kernel_rfl) ?_
         intro W1 HW1
         have B1 := Lib.hid (((Below.refl w.heap.size w).alloc (Nat.le_refl _) _).trans HW1.below)
         have RG := Lib.hid HW1.row
         clear HW1))
    clear cx kq0
    have cx : ∀ z : Og.On W1.heap.size W1, z.x.cell? ⟨q, 0, none⟩ = some (.slice (some ⟨g2, o2, none⟩) x.ev.length x.ce) := fun z => CX.out z.x (B1.out.trans (z.b.mono B1.out.size))
    have kq : ∀ z : Og.On W1.heap.size W1, z.x.cell? ⟨cq, 0, none⟩ = some (.pointer (some ⟨q, 0, none⟩)) := fun z => (KCq.out.kp (B1.out.trans (z.b.mono B1.out.size))).cell
    have ka : ∀ z : Og.On W1.heap.size W1, z.x.cell? ⟨ca, 0, none⟩ = some (.int .i64 (a : Int)) := fun z => (KCa.out.kp (B1.out.trans (z.b.mono B1.out.size))).cell
    have kb : ∀ z : Og.On W1.heap.size W1, z.x.cell? ⟨cb, 0, none⟩ = some (.int .i64 (b : Int)) := fun z => (KCb.out.kp (B1.out.trans (z.b.mono B1.out.size))).cell
    have r1 : ∀ z : Og.On W1.heap.size W1, z.x.cell? ⟨w.heap.size, 1, none⟩ = some (.int .i64 g.k) := fun z => Og.cellB z (by rw [cell_of_row _ _ _ _ _ _ RG.out]; rfl)
    have r7 : ∀ z : Og.On W1.heap.size W1, z.x.cell? ⟨w.heap.size, 7, none⟩ = some (.int .i64 g.p) := fun z => Og.cellB z (by rw [cell_of_row _ _ _ _ _ _ RG.out]; rfl)
    have r8 : ∀ z : Og.On W1.heap.size W1, z.x.cell? ⟨w.heap.size, 8, none⟩ = some (.int .i64 g.s) := fun z => Og.cellB z (by rw [cell_of_row _ _ _ _ _ _ RG.out]; rfl)
    have LA := Lib.hid (fun z : Og.On W1.heap.size W1 => Ev.ld (w := z.x) (g := g2) (o := o2 + a * 13) (x := e) (fun i c hi => Og.cellB z (Ev.kp_below B1.out _ _ (HCE.out i c hi))))
    have LB := Lib.hid (fun z : Og.On W1.heap.size W1 => Ev.ld (w := z.x) (g := g2) (o := o2 + b * 13) (x := f) (fun i c hi => Og.cellB z (Ev.kp_below B1.out _ _ (HCF.out i c hi))))
    simp only [Act.put]
    refine Og.regionB (by kernel_rfl) (by kernel_rfl) ?_
    repeat (first
      | go_big_quiet_skip
      | (go_big_quiet_want
         first
          | ((with_reducible show Oper.quiet _ (Oper.mk (some 28) _ _ _ _ _) _ _ _); refine Og.quiet_load 54 (.tmp 27) rfl (.agg (Ev.cells e).toArray) ⟨g2, o2 + a * 13, none⟩ _ rfl (by rintro _ ⟨z, rfl⟩; exact LA.out z) (by simp only [Act.put, List.setIfInBounds_toArray, List.set_cons_zero, List.set_cons_succ]; rfl) ?_
             go_big_quiet_on)
          | ((with_reducible show Oper.quiet _ (Oper.mk (some 41) _ _ _ _ _) _ _ _); refine Og.quiet_load 54 (.tmp 40) rfl (.agg (Ev.cells f).toArray) ⟨g2, o2 + b * 13, none⟩ _ rfl (by rintro _ ⟨z, rfl⟩; exact LB.out z) (by simp only [Act.put, List.setIfInBounds_toArray, List.set_cons_zero, List.set_cons_succ]; rfl) ?_
             go_big_quiet_on)
          | (go_big_quiet_op
             first
              | go_big_quiet_on
              | (apply Exists.intro
                 refine ⟨fun z => ?_, ?_⟩
                 · first
                    | (with_reducible exact Og.callB (isIn_is HS.out _))
                    | (with_reducible exact Og.callB (isIn_is HT.out _))
                 go_big_quiet_on))))
    refine wpQuiet_nil ?_
    intro _ hw'
    obtain ⟨q9, hw''⟩ := hw'
    subst hw''
    go_wp2_with fail
    go_ret
    exact ⟨by rw [HRES.out]; try rfl, B1.out.trans (q9.b.mono B1.out.size)⟩
end Go.Proofs.Ytoicmhidmknfiaa
end

section
namespace Go.Proofs.Ytoicmhidmknfiaa
open Go.RowKit
set_option linter.unusedVariables false
set_option linter.unusedSimpArgs false
namespace Or
open Ev
def r2 (x : X) (a b : Nat) : Bool := loads (nth x.ev a).k && loads (nth x.ev b).k && oneW x a b && !(frAt x a == frAt x b) && !((ms a b).any (p2 x a))
def r4 (x : X) (a b : Nat) : Bool := (ms a b).any (p4 x a b)
def r8 (x : X) (a b : Nat) : Bool := (nth x.ev a).z && loads (nth x.ev a).k && (nth x.ev b).z && stores (nth x.ev b).k && oneW x a b && !((ms a b).any (p8 x))
def r12 (x : X) (a b : Nat) : Bool := (ms a b).any (p12 x a b)
def r13 (x : X) (a b : Nat) : Bool := stores (nth x.ev b).k && (ms a b).any (p13 x a)
end Or
theorem Or.Such.later {w W : World} {n : Nat → Prop} {G : FuncId} {caps : Array Value} {p : Nat → Bool} (h : Or.Such w n G caps p) (hb : Below w.heap.size w W) : Or.Such W n G caps p := fun m hm W2 hz => h m hm W2 (hb.trans (hz.mono hb.size))
theorem some_is {p : Nat → Bool} {a b : Nat} {v : Bool} (h : (Or.ms a b).any p = v) (q : Nat) (ha : a < 9223372036854775807) (hb : b ≤ 9223372036854775807) (G : FuncId) (caps : Array Value) (w : World) (hE : ∀ args w, (callFunc G args).run Try.prog w = .ok (.enter G args) w) (hS : Or.Such w (fun m => a < m ∧ m < b) G caps p) :
    Calls Try.prog 96 #[.pointer (some ⟨q, 0, none⟩), .int .i64 (a : Int), .int .i64 (b : Int), .func (.func G) #[] caps] w fun r w' => r = .returned (.bool v) ∧ Below w.heap.size w w' := h ▸ some_any q a b ha hb G caps p w hE hS
set_option maxRecDepth 100000 in
set_option maxHeartbeats 4000000 in
theorem r4_any (x : Ev.X) (q a b : Nat) (ha : a < x.ev.length) (hb : b < x.ev.length) (w : World) (hq : Or.As w q x) :
    Calls Try.prog 83 #[.pointer (some ⟨q, 0, none⟩), .int .i64 (a : Int), .int .i64 (b : Int)] w fun r w' => r = .returned (.bool (Or.r4 x a b)) ∧ Below w.heap.size w w' := by
  have al : ∀ (y : World) (o : Obj), Below y.heap.size y (y.alloc o) := fun y o => (Below.refl _ _).alloc (Nat.le_refl _) _
  obtain ⟨B, hB⟩ : ∃ B, B = ((w.alloc (.cells #[.pointer (some ⟨q, 0, none⟩)] 72)).alloc (.cells #[.int .i64 (a : Int)] 3)).alloc (.cells #[.int .i64 (b : Int)] 3) := ⟨_, rfl⟩
  have HB := Lib.hid hB
  have B0 := Lib.hid (show Below w.heap.size w B by rw [hB]; exact (((Below.refl w.heap.size w).alloc (Nat.le_refl _) _).alloc (by simp; try omega) _).alloc (by simp; try omega) _)
  have Kq := Lib.hid (show Or.Box B (w.heap.size) 72 (.pointer (some ⟨q, 0, none⟩)) by rw [hB]; have h := ((Or.box_new w 72 (.pointer (some ⟨q, 0, none⟩))).kp (al _ (.cells #[.int .i64 (a : Int)] 3))).kp (al _ (.cells #[.int .i64 (b : Int)] 3)); exact h)
  have Ka := Lib.hid (show Or.Box B (w.heap.size + 1) 3 (.int .i64 (a : Int)) by rw [hB]; have h := (Or.box_new (w.alloc (.cells #[.pointer (some ⟨q, 0, none⟩)] 72)) 3 (.int .i64 (a : Int))).kp (al _ (.cells #[.int .i64 (b : Int)] 3)); simp only [World.size_alloc] at h; exact h)
  have Kb := Lib.hid (show Or.Box B (w.heap.size + 1 + 1) 3 (.int .i64 (b : Int)) by rw [hB]; have h := Or.box_new ((w.alloc (.cells #[.pointer (some ⟨q, 0, none⟩)] 72)).alloc (.cells #[.int .i64 (a : Int)] 3)) 3 (.int .i64 (b : Int)); simp only [World.size_alloc] at h; exact h)
  clear hB al
  have hl1 := hq.xin.ev.le; have hl2 := hq.xin.ev.max
  have HQ := Lib.hid (hq.kp B0.out)
  have HS := Lib.hid (show Or.Such B (fun m => a < m ∧ m < b) 99 #[.pointer (some ⟨w.heap.size, 0, none⟩), .pointer (some ⟨w.heap.size + 1, 0, none⟩), .pointer (some ⟨w.heap.size + 1 + 1, 0, none⟩)] (Or.p4 x a b) from fun m hm W hz => c4_any x q a b m (w.heap.size) (w.heap.size + 1) (w.heap.size + 1 + 1) ha hb (by omega) W (HQ.out.kp hz) (Kq.out.kp hz) (Ka.out.kp hz) (Kb.out.kp hz))
  have ha' : a < 9223372036854775807 := by omega
  have hb' : b ≤ 9223372036854775807 := by omega
  have kq := Kq.out.cell; have ka := Ka.out.cell; have kb := Kb.out.cell
  go_enter Try.func83, Try.ntmps83
  go_wp2_with (first
    | ((with_reducible show wpList _ _ _ (Oper.mk (some 7) _ _ _ _ _ :: _) _ _); rw [show ((w.alloc (Obj.cells #[Value.pointer (some ⟨q, 0, none⟩)] 72)).alloc (Obj.cells #[Value.int .i64 (a : Int)] 3)).alloc (Obj.cells #[Value.int .i64 (b : Int)] 3) = B from HB.out.symm]))
  refine (some_is (v := (Or.ms a b).any (Or.p4 x a b)) rfl q ha' hb' _ _ B (enters_of Try.func99 (by kernel_rfl) rfl) HS.out).mono ?_
  rintro r W1 ⟨rfl, hb1⟩
  have B1 := Lib.hid (B0.out.trans (hb1.mono B0.out.size)); clear hb1
  go_wp2_with fail
  go_ret
  exact ⟨rfl, B1.out⟩
set_option maxRecDepth 100000 in
set_option maxHeartbeats 4000000 in
theorem r12_any (x : Ev.X) (q a b : Nat) (ha : a < x.ev.length) (hb : b < x.ev.length) (hfl : x.fr.l.length = x.ev.length) (w : World) (hq : Or.As w q x) :
    Calls Try.prog 91 #[.pointer (some ⟨q, 0, none⟩), .int .i64 (a : Int), .int .i64 (b : Int)] w fun r w' => r = .returned (.bool (Or.r12 x a b)) ∧ Below w.heap.size w w' := by
  have al : ∀ (y : World) (o : Obj), Below y.heap.size y (y.alloc o) := fun y o => (Below.refl _ _).alloc (Nat.le_refl _) _
  obtain ⟨B, hB⟩ : ∃ B, B = ((w.alloc (.cells #[.pointer (some ⟨q, 0, none⟩)] 72)).alloc (.cells #[.int .i64 (a : Int)] 3)).alloc (.cells #[.int .i64 (b : Int)] 3) := ⟨_, rfl⟩
  have HB := Lib.hid hB
  have B0 := Lib.hid (show Below w.heap.size w B by rw [hB]; exact (((Below.refl w.heap.size w).alloc (Nat.le_refl _) _).alloc (by simp; try omega) _).alloc (by simp; try omega) _)
  have Kq := Lib.hid (show Or.Box B (w.heap.size) 72 (.pointer (some ⟨q, 0, none⟩)) by rw [hB]; have h := ((Or.box_new w 72 (.pointer (some ⟨q, 0, none⟩))).kp (al _ (.cells #[.int .i64 (a : Int)] 3))).kp (al _ (.cells #[.int .i64 (b : Int)] 3)); exact h)
  have Ka := Lib.hid (show Or.Box B (w.heap.size + 1) 3 (.int .i64 (a : Int)) by rw [hB]; have h := (Or.box_new (w.alloc (.cells #[.pointer (some ⟨q, 0, none⟩)] 72)) 3 (.int .i64 (a : Int))).kp (al _ (.cells #[.int .i64 (b : Int)] 3)); simp only [World.size_alloc] at h; exact h)
  have Kb := Lib.hid (show Or.Box B (w.heap.size + 1 + 1) 3 (.int .i64 (b : Int)) by rw [hB]; have h := Or.box_new ((w.alloc (.cells #[.pointer (some ⟨q, 0, none⟩)] 72)).alloc (.cells #[.int .i64 (a : Int)] 3)) 3 (.int .i64 (b : Int)); simp only [World.size_alloc] at h; exact h)
  clear hB al
  have hl1 := hq.xin.ev.le; have hl2 := hq.xin.ev.max
  have HQ := Lib.hid (hq.kp B0.out)
  have HS := Lib.hid (show Or.Such B (fun m => a < m ∧ m < b) 104 #[.pointer (some ⟨w.heap.size, 0, none⟩), .pointer (some ⟨w.heap.size + 1 + 1, 0, none⟩), .pointer (some ⟨w.heap.size + 1, 0, none⟩)] (Or.p12 x a b) from fun m hm W hz => c12_any x q a b m (w.heap.size) (w.heap.size + 1 + 1) (w.heap.size + 1) ha hb (by omega) hfl W (HQ.out.kp hz) (Kq.out.kp hz) (Kb.out.kp hz) (Ka.out.kp hz))
  have ha' : a < 9223372036854775807 := by omega
  have hb' : b ≤ 9223372036854775807 := by omega
  have kq := Kq.out.cell; have ka := Ka.out.cell; have kb := Kb.out.cell
  go_enter Try.func91, Try.ntmps91
  go_wp2_with (first
    | ((with_reducible show wpList _ _ _ (Oper.mk (some 7) _ _ _ _ _ :: _) _ _); rw [show ((w.alloc (Obj.cells #[Value.pointer (some ⟨q, 0, none⟩)] 72)).alloc (Obj.cells #[Value.int .i64 (a : Int)] 3)).alloc (Obj.cells #[Value.int .i64 (b : Int)] 3) = B from HB.out.symm]))
  refine (some_is (v := (Or.ms a b).any (Or.p12 x a b)) rfl q ha' hb' _ _ B (enters_of Try.func104 (by kernel_rfl) rfl) HS.out).mono ?_
  rintro r W1 ⟨rfl, hb1⟩
  have B1 := Lib.hid (B0.out.trans (hb1.mono B0.out.size)); clear hb1
  go_wp2_with fail
  go_ret
  exact ⟨rfl, B1.out⟩
set_option maxRecDepth 100000 in
set_option maxHeartbeats 4000000 in
theorem r13_any (x : Ev.X) (q a b : Nat) (ha : a < x.ev.length) (hb : b < x.ev.length) (w : World) (hq : Or.As w q x) :
    Calls Try.prog 92 #[.pointer (some ⟨q, 0, none⟩), .int .i64 (a : Int), .int .i64 (b : Int)] w fun r w' => r = .returned (.bool (Or.r13 x a b)) ∧ Below w.heap.size w w' := by
  have al : ∀ (y : World) (o : Obj), Below y.heap.size y (y.alloc o) := fun y o => (Below.refl _ _).alloc (Nat.le_refl _) _
  obtain ⟨B, hB⟩ : ∃ B, B = (w.alloc (.cells #[.pointer (some ⟨q, 0, none⟩)] 72)).alloc (.cells #[.int .i64 (a : Int)] 3) := ⟨_, rfl⟩
  have HB := Lib.hid hB
  have B0 := Lib.hid (show Below w.heap.size w B by rw [hB]; exact ((Below.refl w.heap.size w).alloc (Nat.le_refl _) _).alloc (by simp; try omega) _)
  have Kq := Lib.hid (show Or.Box B (w.heap.size) 72 (.pointer (some ⟨q, 0, none⟩)) by rw [hB]; have h := (Or.box_new w 72 (.pointer (some ⟨q, 0, none⟩))).kp (al _ (.cells #[.int .i64 (a : Int)] 3)); exact h)
  have Ka := Lib.hid (show Or.Box B (w.heap.size + 1) 3 (.int .i64 (a : Int)) by rw [hB]; have h := Or.box_new (w.alloc (.cells #[.pointer (some ⟨q, 0, none⟩)] 72)) 3 (.int .i64 (a : Int)); simp only [World.size_alloc] at h; exact h)
  clear hB al
  have ha0 := ha; have hb0 := hb
  have hl1 := hq.xin.ev.le; have hl2 := hq.xin.ev.max
  obtain ⟨e, he⟩ : ∃ e, x.ev[a]? = some e := ⟨_, List.getElem?_eq_getElem ha⟩
  obtain ⟨f, hf⟩ : ∃ f, x.ev[b]? = some f := ⟨_, List.getElem?_eq_getElem hb⟩
  obtain ⟨g, o, eg, hce⟩ := hq.xin.ev.at_ he
  obtain ⟨g', o', eg', hcf⟩ := hq.xin.ev.at_ hf
  obtain ⟨rfl, rfl⟩ : g' = g ∧ o' = o := by rw [eg] at eg'; cases eg'; exact ⟨rfl, rfl⟩
  have HE := Lib.hid (Ev.nth_some he); have HF := Lib.hid (Ev.nth_some hf)
  have HEO := Lib.hid (hq.xin.ev.ok_ he); have HFO := Lib.hid (hq.xin.ev.ok_ hf)
  have HQ := Lib.hid hq
  have HCE := Lib.hid (show ∀ W, Below w.heap.size w W → ∀ i c, (Ev.cells e)[i]? = some c → W.cell? ⟨g', o' + a * 13 + i, none⟩ = some c from fun W h i c hi => Ev.kp_below h _ _ (hce i c hi))
  have HCF := Lib.hid (show ∀ W, Below w.heap.size w W → ∀ i c, (Ev.cells f)[i]? = some c → W.cell? ⟨g', o' + b * 13 + i, none⟩ = some c from fun W h i c hi => Ev.kp_below h _ _ (hcf i c hi))
  have hai : (a : Int) < (x.ev.length : Int) := by omega
  have hbi : (b : Int) < (x.ev.length : Int) := by omega
  have CX := Lib.hid (show ∀ W, Below w.heap.size w W → W.cell? ⟨q, 0, none⟩ = some (.slice (some ⟨g', o', none⟩) x.ev.length x.ce) from fun W h => by
    rw [← eg]; exact (hq.kp h).c0)
  have cx := CX.out B B0.out
  have W0 := Lib.hid (Below.refl w.heap.size w)
  have HQB := Lib.hid (hq.kp B0.out)
  clear hq he hf eg eg' hce hcf
  have HS := Lib.hid (show Or.Such B (fun m => a < m ∧ m < b) 105 #[.pointer (some ⟨w.heap.size, 0, none⟩), .pointer (some ⟨w.heap.size + 1, 0, none⟩)] (Or.p13 x a) from fun m hm W hz => c13_any x q a m (w.heap.size) (w.heap.size + 1) ha (by omega) W (HQB.out.kp hz) (Kq.out.kp hz) (Ka.out.kp hz))
  have ha' : a < 9223372036854775807 := by omega
  have hb' : b ≤ 9223372036854775807 := by omega
  have kq := Kq.out.cell; have ka := Ka.out.cell
  obtain ⟨s, hs⟩ : ∃ s, Ev.stores f.k = s := ⟨_, rfl⟩
  have HST := Lib.hid hs
  obtain ⟨t, ht⟩ : ∃ s, (Or.ms a b).any (Or.p13 x a) = s := ⟨_, rfl⟩
  have HT := Lib.hid ht
  have HRES := Lib.hid (show Or.r13 x a b = (s && t) by unfold Or.r13; rw [HF.out, hs, ht])
  clear hs ht
  go_enter Try.func92, Try.ntmps92
  go_wp2_with (first
    | ((with_reducible show wpList _ _ _ (Oper.mk (some 7) _ _ _ _ _ :: _) _ _); rw [show (w.alloc (Obj.cells #[Value.pointer (some ⟨q, 0, none⟩)] 72)).alloc (Obj.cells #[Value.int .i64 (a : Int)] 3) = B from HB.out.symm])
    | ((with_reducible show wpList _ _ _ (Oper.mk (some 14) _ _ _ _ _ :: _) _ _); refine wpList_load_at rfl 54 (.tmp 13) rfl g' (o' + b * 13) (by kernel_rfl) (Ev.cells f) _ (HCF.out _ (B0.out)) Try.underlying54 rfl (by kernel_rfl) ?_))
  refine (ostores_is HST.out _).mono ?_
  rintro r W1 ⟨rfl, hb1⟩
  have Z1 := Lib.hid hb1
  have B1 := Lib.hid (B0.out.trans (hb1.mono B0.out.size))
  have kq1 := (Kq.out.kp hb1).cell; have ka1 := (Ka.out.kp hb1).cell
  clear hb1 kq ka cx
  cases s
  · go_wp2_with fail
    go_ret
    exact ⟨by rw [HRES.out]; try rfl, B1.out⟩
  go_wp2_with fail
  refine (some_is HT.out q ha' hb' _ _ W1 (enters_of Try.func105 (by kernel_rfl) rfl) (fun m hm W hz => HS.out m hm W (Z1.out.trans (hz.mono Z1.out.size)))).mono ?_
  rintro r W2 ⟨rfl, hb2⟩
  have B2 := Lib.hid (B1.out.trans (hb2.mono (B1.out).size))
  clear hb2
  go_wp2_with fail
  go_ret
  exact ⟨by rw [HRES.out]; try rfl, B2.out⟩
set_option maxRecDepth 100000 in
set_option maxHeartbeats 4000000 in
theorem r2_any (x : Ev.X) (q a b : Nat) (ha : a < x.ev.length) (hb : b < x.ev.length) (hfl : x.fr.l.length = x.ev.length) (w : World) (hq : Or.As w q x) :
    Calls Try.prog 81 #[.pointer (some ⟨q, 0, none⟩), .int .i64 (a : Int), .int .i64 (b : Int)] w fun r w' => r = .returned (.bool (Or.r2 x a b)) ∧ Below w.heap.size w w' := by
  have al : ∀ (y : World) (o : Obj), Below y.heap.size y (y.alloc o) := fun y o => (Below.refl _ _).alloc (Nat.le_refl _) _
  obtain ⟨B, hB⟩ : ∃ B, B = (w.alloc (.cells #[.pointer (some ⟨q, 0, none⟩)] 72)).alloc (.cells #[.int .i64 (a : Int)] 3) := ⟨_, rfl⟩
  have HB := Lib.hid hB
  have B0 := Lib.hid (show Below w.heap.size w B by rw [hB]; exact ((Below.refl w.heap.size w).alloc (Nat.le_refl _) _).alloc (by simp; try omega) _)
  have Kq := Lib.hid (show Or.Box B (w.heap.size) 72 (.pointer (some ⟨q, 0, none⟩)) by rw [hB]; have h := (Or.box_new w 72 (.pointer (some ⟨q, 0, none⟩))).kp (al _ (.cells #[.int .i64 (a : Int)] 3)); exact h)
  have Ka := Lib.hid (show Or.Box B (w.heap.size + 1) 3 (.int .i64 (a : Int)) by rw [hB]; have h := Or.box_new (w.alloc (.cells #[.pointer (some ⟨q, 0, none⟩)] 72)) 3 (.int .i64 (a : Int)); simp only [World.size_alloc] at h; exact h)
  clear hB al
  have hl1 := hq.xin.ev.le; have hl2 := hq.xin.ev.max
  obtain ⟨e, he⟩ : ∃ e, x.ev[a]? = some e := ⟨_, List.getElem?_eq_getElem ha⟩
  obtain ⟨f, hf⟩ : ∃ f, x.ev[b]? = some f := ⟨_, List.getElem?_eq_getElem hb⟩
  obtain ⟨g, o, eg, hce⟩ := hq.xin.ev.at_ he
  obtain ⟨g', o', eg', hcf⟩ := hq.xin.ev.at_ hf
  obtain ⟨rfl, rfl⟩ : g' = g ∧ o' = o := by rw [eg] at eg'; cases eg'; exact ⟨rfl, rfl⟩
  have HE := Lib.hid (Ev.nth_some he); have HF := Lib.hid (Ev.nth_some hf)
  have HEO := Lib.hid (hq.xin.ev.ok_ he); have HFO := Lib.hid (hq.xin.ev.ok_ hf)
  have HQ := Lib.hid hq
  have HCE := Lib.hid (show ∀ W, Below w.heap.size w W → ∀ i c, (Ev.cells e)[i]? = some c → W.cell? ⟨g', o' + a * 13 + i, none⟩ = some c from fun W h i c hi => Ev.kp_below h _ _ (hce i c hi))
  have HCF := Lib.hid (show ∀ W, Below w.heap.size w W → ∀ i c, (Ev.cells f)[i]? = some c → W.cell? ⟨g', o' + b * 13 + i, none⟩ = some c from fun W h i c hi => Ev.kp_below h _ _ (hcf i c hi))
  have hai : (a : Int) < (x.ev.length : Int) := by omega
  have hbi : (b : Int) < (x.ev.length : Int) := by omega
  have CX := Lib.hid (show ∀ W, Below w.heap.size w W → W.cell? ⟨q, 0, none⟩ = some (.slice (some ⟨g', o', none⟩) x.ev.length x.ce) from fun W h => by
    rw [← eg]; exact (hq.kp h).c0)
  skip
  have W0 := Lib.hid (Below.refl w.heap.size w)
  have HQB := Lib.hid (hq.kp B0.out)
  clear hq he hf eg eg' hce hcf
  have hfs := HQ.out.xin.fr.2.1; have hfm := HQ.out.xin.fr.2.2.1
  obtain ⟨v, hv⟩ : ∃ v, x.fr.l[b]? = some v := ⟨_, List.getElem?_eq_getElem (by omega)⟩
  obtain ⟨gf, of, ef, hcv⟩ := HQ.out.xin.fr.at_ hv
  have HV := Lib.hid (show Ev.frAt x b = v by unfold Ev.frAt; simp [List.getD, hv])
  have hbf : (b : Int) < (x.fr.l.length : Int) := by omega
  have C1 := Lib.hid (show ∀ W, Below w.heap.size w W → W.cell? ⟨q, 1, none⟩ = some (.slice (some ⟨gf, of, none⟩) x.fr.l.length x.fr.c) from fun W h => by
    rw [← ef]; exact (HQ.out.kp h).c1)
  have CV := Lib.hid (show ∀ W, Below w.heap.size w W → W.cell? ⟨gf, of + b, none⟩ = some (.int .i64 v) from fun W h => Ev.kp_below h _ _ hcv)
  have ef0 := ef
  clear hv hcv
  obtain ⟨u, hu⟩ : ∃ v, x.fr.l[a]? = some v := ⟨_, List.getElem?_eq_getElem (by omega)⟩
  obtain ⟨gf2, of2, ef2, hcu⟩ := HQ.out.xin.fr.at_ hu
  obtain ⟨rfl, rfl⟩ : gf2 = gf ∧ of2 = of := by rw [ef0] at ef2; cases ef2; exact ⟨rfl, rfl⟩
  have HU := Lib.hid (show Ev.frAt x a = u by unfold Ev.frAt; simp [List.getD, hu])
  have haf : (a : Int) < (x.fr.l.length : Int) := by omega
  have C2 := Lib.hid (show ∀ W, Below w.heap.size w W → W.cell? ⟨q, 1, none⟩ = some (.slice (some ⟨gf2, of2, none⟩) x.fr.l.length x.fr.c) from fun W h => by
    rw [← ef2]; exact (HQ.out.kp h).c1)
  have CU := Lib.hid (show ∀ W, Below w.heap.size w W → W.cell? ⟨gf2, of2 + a, none⟩ = some (.int .i64 u) from fun W h => Ev.kp_below h _ _ hcu)
  clear hu hcu ef ef0
  have HS := Lib.hid (show Or.Such B (fun m => a < m ∧ m < b) 97 #[.pointer (some ⟨w.heap.size, 0, none⟩), .pointer (some ⟨w.heap.size + 1, 0, none⟩)] (Or.p2 x a) from fun m hm W hz => c2_any x q a m (w.heap.size) (w.heap.size + 1) ha (by omega) W (HQB.out.kp hz) (Kq.out.kp hz) (Ka.out.kp hz))
  have ha' : a < 9223372036854775807 := by omega
  have hb' : b ≤ 9223372036854775807 := by omega
  obtain ⟨s, hs⟩ : ∃ s, Ev.loads e.k = s := ⟨_, rfl⟩
  have HL1 := Lib.hid hs
  obtain ⟨t, ht⟩ : ∃ s, Ev.loads f.k = s := ⟨_, rfl⟩
  have HL2 := Lib.hid ht
  obtain ⟨o1, ho1⟩ : ∃ s, Or.oneW x a b = s := ⟨_, rfl⟩
  have HO := Lib.hid ho1
  obtain ⟨n1, hn1⟩ : ∃ s, (Or.ms a b).any (Or.p2 x a) = s := ⟨_, rfl⟩
  have HN := Lib.hid hn1
  have HRES := Lib.hid (show Or.r2 x a b = (s && t && o1 && !(u == v) && !n1) by unfold Or.r2; rw [HE.out, HF.out, hs, ht, ho1, hn1, HU.out, HV.out])
  have bz : ∀ z : Og.On B.heap.size B, Below w.heap.size w z.x := fun z => B0.out.trans (z.b.mono B0.out.size)
  have BZ := Lib.hid bz
  have cx : ∀ z : Og.On B.heap.size B, z.x.cell? ⟨q, 0, none⟩ = some (.slice (some ⟨g', o', none⟩) x.ev.length x.ce) := fun z => CX.out z.x (bz z)
  have c1 : ∀ z : Og.On B.heap.size B, z.x.cell? ⟨q, 1, none⟩ = some (.slice (some ⟨gf2, of2, none⟩) x.fr.l.length x.fr.c) := fun z => C1.out z.x (bz z)
  have cv : ∀ z : Og.On B.heap.size B, z.x.cell? ⟨gf2, of2 + b, none⟩ = some (.int .i64 v) := fun z => CV.out z.x (bz z)
  have cu : ∀ z : Og.On B.heap.size B, z.x.cell? ⟨gf2, of2 + a, none⟩ = some (.int .i64 u) := fun z => CU.out z.x (bz z)
  have kq : ∀ z : Og.On B.heap.size B, z.x.cell? ⟨w.heap.size, 0, none⟩ = some (.pointer (some ⟨q, 0, none⟩)) := fun z => (Kq.out.kp z.b).cell
  have ka : ∀ z : Og.On B.heap.size B, z.x.cell? ⟨w.heap.size + 1, 0, none⟩ = some (.int .i64 (a : Int)) := fun z => (Ka.out.kp z.b).cell
  have LA := Lib.hid (fun z : Og.On B.heap.size B => Ev.ld (w := z.x) (g := g') (o := o' + a * 13) (x := e) (HCE.out z.x (bz z)))
  have LB := Lib.hid (fun z : Og.On B.heap.size B => Ev.ld (w := z.x) (g := g') (o := o' + b * 13) (x := f) (HCF.out z.x (bz z)))
  clear hs ht ho1 hn1 hfl bz
  cases s
  case false =>
    go_enter Try.func81, Try.ntmps81
    go_wp2_with fail
    rw [show (w.alloc (Obj.cells #[Value.pointer (some ⟨q, 0, none⟩)] 72)).alloc (Obj.cells #[Value.int .i64 (a : Int)] 3) = B from HB.out.symm]
    refine Og.regionB (by kernel_rfl) (by kernel_rfl) ?_
    repeat (first
      | go_big_quiet_skip
      | (go_big_quiet_want
         first
          | ((with_reducible show Oper.quiet _ (Oper.mk (some 14) _ _ _ _ _) _ _ _); refine Og.quiet_load 54 (.tmp 13) rfl (.agg (Ev.cells e).toArray) ⟨g', o' + a * 13, none⟩ _ rfl (by rintro _ ⟨z, rfl⟩; exact LA.out z) (by simp only [Act.put, List.setIfInBounds_toArray, List.set_cons_zero, List.set_cons_succ]; rfl) ?_
             go_big_quiet_on)
          | (go_big_quiet_op
             first
              | go_big_quiet_on
              | (apply Exists.intro
                 refine ⟨fun z => ?_, ?_⟩
                 · first
                    | (with_reducible exact Og.callB (oloads_is HL1.out _))
                 go_big_quiet_on))))
    refine wpQuiet_nil ?_
    intro _ hw'
    obtain ⟨q9, hw''⟩ := hw'
    subst hw''
    go_wp2_with fail
    go_ret
    exact ⟨by rw [HRES.out]; try rfl, B0.out.trans (q9.b.mono B0.out.size)⟩
  cases t
  case false =>
    go_enter Try.func81, Try.ntmps81
    go_wp2_with fail
    rw [show (w.alloc (Obj.cells #[Value.pointer (some ⟨q, 0, none⟩)] 72)).alloc (Obj.cells #[Value.int .i64 (a : Int)] 3) = B from HB.out.symm]
    refine Og.regionB (by kernel_rfl) (by kernel_rfl) ?_
    repeat (first
      | go_big_quiet_skip
      | (go_big_quiet_want
         first
          | ((with_reducible show Oper.quiet _ (Oper.mk (some 14) _ _ _ _ _) _ _ _); refine Og.quiet_load 54 (.tmp 13) rfl (.agg (Ev.cells e).toArray) ⟨g', o' + a * 13, none⟩ _ rfl (by rintro _ ⟨z, rfl⟩; exact LA.out z) (by simp only [Act.put, List.setIfInBounds_toArray, List.set_cons_zero, List.set_cons_succ]; rfl) ?_
             go_big_quiet_on)
          | ((with_reducible show Oper.quiet _ (Oper.mk (some 24) _ _ _ _ _) _ _ _); refine Og.quiet_load 54 (.tmp 23) rfl (.agg (Ev.cells f).toArray) ⟨g', o' + b * 13, none⟩ _ rfl (by rintro _ ⟨z, rfl⟩; exact LB.out z) (by simp only [Act.put, List.setIfInBounds_toArray, List.set_cons_zero, List.set_cons_succ]; rfl) ?_
             go_big_quiet_on)
          | (go_big_quiet_op
             first
              | go_big_quiet_on
              | (apply Exists.intro
                 refine ⟨fun z => ?_, ?_⟩
                 · first
                    | (with_reducible exact Og.callB (oloads_is HL1.out _))
                    | (with_reducible exact Og.callB (oloads_is HL2.out _))
                 go_big_quiet_on))))
    refine wpQuiet_nil ?_
    intro _ hw'
    obtain ⟨q9, hw''⟩ := hw'
    subst hw''
    go_wp2_with fail
    go_ret
    exact ⟨by rw [HRES.out]; try rfl, B0.out.trans (q9.b.mono B0.out.size)⟩
  cases o1
  case false =>
    go_enter Try.func81, Try.ntmps81
    go_wp2_with fail
    rw [show (w.alloc (Obj.cells #[Value.pointer (some ⟨q, 0, none⟩)] 72)).alloc (Obj.cells #[Value.int .i64 (a : Int)] 3) = B from HB.out.symm]
    refine Og.regionB (by kernel_rfl) (by kernel_rfl) ?_
    repeat (first
      | go_big_quiet_skip
      | (go_big_quiet_want
         first
          | ((with_reducible show Oper.quiet _ (Oper.mk (some 14) _ _ _ _ _) _ _ _); refine Og.quiet_load 54 (.tmp 13) rfl (.agg (Ev.cells e).toArray) ⟨g', o' + a * 13, none⟩ _ rfl (by rintro _ ⟨z, rfl⟩; exact LA.out z) (by simp only [Act.put, List.setIfInBounds_toArray, List.set_cons_zero, List.set_cons_succ]; rfl) ?_
             go_big_quiet_on)
          | ((with_reducible show Oper.quiet _ (Oper.mk (some 24) _ _ _ _ _) _ _ _); refine Og.quiet_load 54 (.tmp 23) rfl (.agg (Ev.cells f).toArray) ⟨g', o' + b * 13, none⟩ _ rfl (by rintro _ ⟨z, rfl⟩; exact LB.out z) (by simp only [Act.put, List.setIfInBounds_toArray, List.set_cons_zero, List.set_cons_succ]; rfl) ?_
             go_big_quiet_on)
          | (go_big_quiet_op
             first
              | go_big_quiet_on
              | (apply Exists.intro
                 refine ⟨fun z => ?_, ?_⟩
                 · first
                    | (with_reducible exact Og.callB (oloads_is HL1.out _))
                    | (with_reducible exact Og.callB (oloads_is HL2.out _))
                    | (with_reducible exact Og.callB (oneW_is HO.out ha hb _ (HQB.out.kp z.b)))
                 go_big_quiet_on))))
    refine wpQuiet_nil ?_
    intro _ hw'
    obtain ⟨q9, hw''⟩ := hw'
    subst hw''
    go_wp2_with fail
    go_ret
    exact ⟨by rw [HRES.out]; try rfl, B0.out.trans (q9.b.mono B0.out.size)⟩
  by_cases hq : u = v
  case pos =>
    have tq : (u == v) = true := by simpa using hq
    have tq' : (u != v) = false := by simpa using hq
    have HRES := Lib.hid (show Or.r2 x a b = false by rw [HRES.out, tq]; rfl)
    clear hq
    go_enter Try.func81, Try.ntmps81
    go_wp2_with fail
    rw [show (w.alloc (Obj.cells #[Value.pointer (some ⟨q, 0, none⟩)] 72)).alloc (Obj.cells #[Value.int .i64 (a : Int)] 3) = B from HB.out.symm]
    refine Og.regionB (by kernel_rfl) (by kernel_rfl) ?_
    repeat (first
      | go_big_quiet_skip
      | (go_big_quiet_want
         first
          | ((with_reducible show Oper.quiet _ (Oper.mk (some 14) _ _ _ _ _) _ _ _); refine Og.quiet_load 54 (.tmp 13) rfl (.agg (Ev.cells e).toArray) ⟨g', o' + a * 13, none⟩ _ rfl (by rintro _ ⟨z, rfl⟩; exact LA.out z) (by simp only [Act.put, List.setIfInBounds_toArray, List.set_cons_zero, List.set_cons_succ]; rfl) ?_
             go_big_quiet_on)
          | ((with_reducible show Oper.quiet _ (Oper.mk (some 24) _ _ _ _ _) _ _ _); refine Og.quiet_load 54 (.tmp 23) rfl (.agg (Ev.cells f).toArray) ⟨g', o' + b * 13, none⟩ _ rfl (by rintro _ ⟨z, rfl⟩; exact LB.out z) (by simp only [Act.put, List.setIfInBounds_toArray, List.set_cons_zero, List.set_cons_succ]; rfl) ?_
             go_big_quiet_on)
          | (go_big_quiet_op
             first
              | go_big_quiet_on
              | (apply Exists.intro
                 refine ⟨fun z => ?_, ?_⟩
                 · first
                    | (with_reducible exact Og.callB (oloads_is HL1.out _))
                    | (with_reducible exact Og.callB (oloads_is HL2.out _))
                    | (with_reducible exact Og.callB (oneW_is HO.out ha hb _ (HQB.out.kp z.b)))
                 go_big_quiet_on))))
    refine wpQuiet_nil ?_
    intro _ hw'
    obtain ⟨q9, hw''⟩ := hw'
    subst hw''
    go_wp2_with fail
    go_ret
    exact ⟨by rw [HRES.out]; try rfl, B0.out.trans (q9.b.mono B0.out.size)⟩
  have tq : (u == v) = false := by simpa using hq
  have tq' : (u != v) = true := by simpa using hq
  have HRES := Lib.hid (show Or.r2 x a b = !n1 by rw [HRES.out, tq]; rfl)
  clear hq
  cases n1
  · go_enter Try.func81, Try.ntmps81
    go_wp2_with fail
    rw [show (w.alloc (Obj.cells #[Value.pointer (some ⟨q, 0, none⟩)] 72)).alloc (Obj.cells #[Value.int .i64 (a : Int)] 3) = B from HB.out.symm]
    refine Og.regionB (by kernel_rfl) (by kernel_rfl) ?_
    repeat (first
      | go_big_quiet_skip
      | (go_big_quiet_want
         first
          | ((with_reducible show Oper.quiet _ (Oper.mk (some 14) _ _ _ _ _) _ _ _); refine Og.quiet_load 54 (.tmp 13) rfl (.agg (Ev.cells e).toArray) ⟨g', o' + a * 13, none⟩ _ rfl (by rintro _ ⟨z, rfl⟩; exact LA.out z) (by simp only [Act.put, List.setIfInBounds_toArray, List.set_cons_zero, List.set_cons_succ]; rfl) ?_
             go_big_quiet_on)
          | ((with_reducible show Oper.quiet _ (Oper.mk (some 24) _ _ _ _ _) _ _ _); refine Og.quiet_load 54 (.tmp 23) rfl (.agg (Ev.cells f).toArray) ⟨g', o' + b * 13, none⟩ _ rfl (by rintro _ ⟨z, rfl⟩; exact LB.out z) (by simp only [Act.put, List.setIfInBounds_toArray, List.set_cons_zero, List.set_cons_succ]; rfl) ?_
             go_big_quiet_on)
          | (go_big_quiet_op
             first
              | go_big_quiet_on
              | (apply Exists.intro
                 refine ⟨fun z => ?_, ?_⟩
                 · first
                    | (with_reducible exact Og.callB (oloads_is HL1.out _))
                    | (with_reducible exact Og.callB (oloads_is HL2.out _))
                    | (with_reducible exact Og.callB (oneW_is HO.out ha hb _ (HQB.out.kp z.b)))
                    | (exact Og.callB (some_is HN.out q ha' hb' _ _ _ (enters_of Try.func97 (by kernel_rfl) rfl) (HS.out.later z.b)))
                 go_big_quiet_on))))
    refine wpQuiet_nil ?_
    intro _ hw'
    obtain ⟨q9, hw''⟩ := hw'
    subst hw''
    go_wp2_with fail
    go_ret
    exact ⟨by rw [HRES.out]; try rfl, B0.out.trans (q9.b.mono B0.out.size)⟩
  · go_enter Try.func81, Try.ntmps81
    go_wp2_with fail
    rw [show (w.alloc (Obj.cells #[Value.pointer (some ⟨q, 0, none⟩)] 72)).alloc (Obj.cells #[Value.int .i64 (a : Int)] 3) = B from HB.out.symm]
    refine Og.regionB (by kernel_rfl) (by kernel_rfl) ?_
    repeat (first
      | go_big_quiet_skip
      | (go_big_quiet_want
         first
          | ((with_reducible show Oper.quiet _ (Oper.mk (some 14) _ _ _ _ _) _ _ _); refine Og.quiet_load 54 (.tmp 13) rfl (.agg (Ev.cells e).toArray) ⟨g', o' + a * 13, none⟩ _ rfl (by rintro _ ⟨z, rfl⟩; exact LA.out z) (by simp only [Act.put, List.setIfInBounds_toArray, List.set_cons_zero, List.set_cons_succ]; rfl) ?_
             go_big_quiet_on)
          | ((with_reducible show Oper.quiet _ (Oper.mk (some 24) _ _ _ _ _) _ _ _); refine Og.quiet_load 54 (.tmp 23) rfl (.agg (Ev.cells f).toArray) ⟨g', o' + b * 13, none⟩ _ rfl (by rintro _ ⟨z, rfl⟩; exact LB.out z) (by simp only [Act.put, List.setIfInBounds_toArray, List.set_cons_zero, List.set_cons_succ]; rfl) ?_
             go_big_quiet_on)
          | (go_big_quiet_op
             first
              | go_big_quiet_on
              | (apply Exists.intro
                 refine ⟨fun z => ?_, ?_⟩
                 · first
                    | (with_reducible exact Og.callB (oloads_is HL1.out _))
                    | (with_reducible exact Og.callB (oloads_is HL2.out _))
                    | (with_reducible exact Og.callB (oneW_is HO.out ha hb _ (HQB.out.kp z.b)))
                    | (exact Og.callB (some_is HN.out q ha' hb' _ _ _ (enters_of Try.func97 (by kernel_rfl) rfl) (HS.out.later z.b)))
                 go_big_quiet_on))))
    refine wpQuiet_nil ?_
    intro _ hw'
    obtain ⟨q9, hw''⟩ := hw'
    subst hw''
    go_wp2_with fail
    go_ret
    exact ⟨by rw [HRES.out]; try rfl, B0.out.trans (q9.b.mono B0.out.size)⟩
end Go.Proofs.Ytoicmhidmknfiaa
end

section
namespace Go.Proofs.Ytoicmhidmknfiaa
open Go.RowKit
set_option linter.unusedVariables false
set_option linter.unusedSimpArgs false
theorem Or.load_ptr {P : Program} {w : World} {ty e : TypeId} {p : Addr} {v : Value} (hu : P.underlying ty = some (.pointer e)) (hc : w.cell? p = some v) : (loadVar ty p).run P w = .ok v w := by
  unfold loadVar isAgg
  simp only [Sem.run_bind, run_underlying hu w, Sem.run_pure, Result.andThen_ok]
  go_simp
  first | done | rw [hc]
set_option maxRecDepth 100000 in
set_option maxHeartbeats 4000000 in
theorem r8_any (x : Ev.X) (q a b : Nat) (ha : a < x.ev.length) (hb : b < x.ev.length) (w : World) (hq : Or.As w q x) :
    Calls Try.prog 87 #[.pointer (some ⟨q, 0, none⟩), .int .i64 (a : Int), .int .i64 (b : Int)] w fun r w' => r = .returned (.bool (Or.r8 x a b)) ∧ Below w.heap.size w w' := by
  have al : ∀ (y : World) (o : Obj), Below y.heap.size y (y.alloc o) := fun y o => (Below.refl _ _).alloc (Nat.le_refl _) _
  obtain ⟨B, hB⟩ : ∃ B, B = w.alloc (.cells #[.pointer (some ⟨q, 0, none⟩)] 72) := ⟨_, rfl⟩
  have HB := Lib.hid hB
  have B0 := Lib.hid (show Below w.heap.size w B by rw [hB]; exact (Below.refl w.heap.size w).alloc (Nat.le_refl _) _)
  have Kq := Lib.hid (show Or.Box B (w.heap.size) 72 (.pointer (some ⟨q, 0, none⟩)) by rw [hB]; have h := Or.box_new w 72 (.pointer (some ⟨q, 0, none⟩)); exact h)
  clear hB al
  have hl1 := hq.xin.ev.le; have hl2 := hq.xin.ev.max
  obtain ⟨e, he⟩ : ∃ e, x.ev[a]? = some e := ⟨_, List.getElem?_eq_getElem ha⟩
  obtain ⟨f, hf⟩ : ∃ f, x.ev[b]? = some f := ⟨_, List.getElem?_eq_getElem hb⟩
  obtain ⟨g, o, eg, hce⟩ := hq.xin.ev.at_ he
  obtain ⟨g', o', eg', hcf⟩ := hq.xin.ev.at_ hf
  obtain ⟨rfl, rfl⟩ : g' = g ∧ o' = o := by rw [eg] at eg'; cases eg'; exact ⟨rfl, rfl⟩
  have HE := Lib.hid (Ev.nth_some he); have HF := Lib.hid (Ev.nth_some hf)
  have HQ := Lib.hid hq; have HCE := Lib.hid hce; have HCF := Lib.hid hcf
  have hai : (a : Int) < (x.ev.length : Int) := by omega
  have hbi : (b : Int) < (x.ev.length : Int) := by omega
  have CX := Lib.hid (show ∀ W, Below w.heap.size w W → W.cell? ⟨q, 0, none⟩ = some (.slice (some ⟨g', o', none⟩) x.ev.length x.ce) from fun W h => by
    rw [← eg]; exact (hq.kp h).c0)
  have HQB := Lib.hid (hq.kp B0.out)
  clear hq he hf eg eg' hce hcf
  have CXB := Lib.hid (show ∀ W, Below B.heap.size B W → W.cell? ⟨q, 0, none⟩ = some (.slice (some ⟨g', o', none⟩) x.ev.length x.ce) from fun W h => CX.out W (B0.out.trans (h.mono B0.out.size)))
  have HCEB := Lib.hid (show ∀ i c, (Ev.cells e)[i]? = some c → B.cell? ⟨g', o' + a * 13 + i, none⟩ = some c from fun i c hi => Ev.kp_below B0.out _ _ (HCE.out i c hi))
  have HCFB := Lib.hid (show ∀ i c, (Ev.cells f)[i]? = some c → B.cell? ⟨g', o' + b * 13 + i, none⟩ = some c from fun i c hi => Ev.kp_below B0.out _ _ (HCF.out i c hi))
  have LBX := Lib.hid (fun (z : World) (hz : Og.Std B z) => Or.load_ptr (P := Try.prog) Try.underlying72 (Og.std_cell hz Kq.out.cell))
  have HS := Lib.hid (show Or.Such B (fun m => a < m ∧ m < b) 102 #[.pointer (some ⟨w.heap.size, 0, none⟩)] (Or.p8 x) from fun m hm W hz => c8_any x q m (w.heap.size) (by omega) W (HQB.out.kp hz) (Kq.out.kp hz))
  have ha' : a < 9223372036854775807 := by omega
  have hb' : b ≤ 9223372036854775807 := by omega
  obtain ⟨z1, hz1⟩ : ∃ s, e.z = s := ⟨_, rfl⟩
  have HZ1 := Lib.hid hz1
  obtain ⟨s, hs⟩ : ∃ s, Ev.loads e.k = s := ⟨_, rfl⟩
  have HL := Lib.hid hs
  obtain ⟨z2, hz2⟩ : ∃ s, f.z = s := ⟨_, rfl⟩
  have HZ2 := Lib.hid hz2
  obtain ⟨t, ht⟩ : ∃ s, Ev.stores f.k = s := ⟨_, rfl⟩
  have HST := Lib.hid ht
  obtain ⟨o1, ho1⟩ : ∃ s, Or.oneW x a b = s := ⟨_, rfl⟩
  have HO := Lib.hid ho1
  obtain ⟨n1, hn1⟩ : ∃ s, (Or.ms a b).any (Or.p8 x) = s := ⟨_, rfl⟩
  have HN := Lib.hid hn1
  have HRES := Lib.hid (show Or.r8 x a b = (z1 && s && z2 && t && o1 && !n1) by unfold Or.r8; rw [HE.out, HF.out, hz1, hs, hz2, ht, ho1, hn1])
  clear hz1 hs hz2 ht ho1 hn1
  go_enter Try.func87, Try.ntmps87
  go_wp2_with fail
  rw [show w.alloc (Obj.cells #[Value.pointer (some ⟨q, 0, none⟩)] 72) = B from HB.out.symm]
  have cx := CXB.out B (Below.refl _ _)
  have LA := Lib.hid (fun (z : World) (hz : Og.Std B z) => Ev.ld (w := z) (g := g') (o := o' + a * 13) (x := e) (fun i c hi => Og.std_cell hz (HCEB.out i c hi)))
  have LF := Lib.hid (fun (z : World) (hz : Og.Std B z) => Ev.ld (w := z) (g := g') (o := o' + b * 13) (x := f) (fun i c hi => Og.std_cell hz (HCFB.out i c hi)))
  refine wp_region_held (S := Og.Std B) (by kernel_rfl) ?_
  have S0 : Og.Std B { B with drawn := B.drawn + 1 } := ⟨rfl, rfl, rfl, Nat.le_refl _, fun _ _ => rfl⟩
  refine Og.held_take 0 _ (.pointer (some ⟨q, 0, none⟩)) _ rfl rfl (by kernel_rfl) (by kernel_rfl) (by kernel_rfl) (fun _ _ _ h => h) S0 (fun z hz => ?_) (by simp only [Act.put, List.setIfInBounds_toArray, List.set_cons_zero, List.set_cons_succ]; rfl) ?_
  · exact Og.load_run 72 (.tmp 3) rfl ⟨w.heap.size, 0, none⟩ (by kernel_rfl) (LBX.out z hz)
  refine Og.held_take 1 _ (.pointer (some ⟨q, 0, none⟩)) _ rfl rfl (by kernel_rfl) (by kernel_rfl) (by kernel_rfl) (fun _ _ _ h => h) S0 (fun z hz => ?_) (by simp only [Act.put, List.setIfInBounds_toArray, List.set_cons_zero, List.set_cons_succ]; rfl) ?_
  · go_simp; try (with_reducible rfl)
  refine Og.held_take 2 _ (.pointer (some ⟨q, 0, none⟩)) _ rfl rfl (by kernel_rfl) (by kernel_rfl) (by kernel_rfl) (fun _ _ _ h => h) S0 (fun z hz => ?_) (by simp only [Act.put, List.setIfInBounds_toArray, List.set_cons_zero, List.set_cons_succ]; rfl) ?_
  · go_simp; try (with_reducible rfl)
  refine Og.held_take 3 _ (.pointer (some ⟨q, 0, none⟩)) _ rfl rfl (by kernel_rfl) (by kernel_rfl) (by kernel_rfl) (fun _ _ _ h => h) S0 (fun z hz => ?_) (by simp only [Act.put, List.setIfInBounds_toArray, List.set_cons_zero, List.set_cons_succ]; rfl) ?_
  · go_simp; try (with_reducible rfl)
  refine Og.held_take 4 _ (.slice (some ⟨g', o', none⟩) x.ev.length x.ce) _ rfl rfl (by kernel_rfl) (by kernel_rfl) (by kernel_rfl) (fun _ _ _ h => h) S0 (fun z hz => ?_) (by simp only [Act.put, List.setIfInBounds_toArray, List.set_cons_zero, List.set_cons_succ]; rfl) ?_
  · exact Og.load_run 22 (.tmp 12) rfl ⟨q, 0, none⟩ (by kernel_rfl) (run_load_slice Try.underlying22 (Og.std_cell hz cx))
  refine Og.held_take 5 _ (.int .i64 (a : Int)) _ rfl rfl (by kernel_rfl) (by kernel_rfl) (by kernel_rfl) (fun _ _ _ h => h) S0 (fun z hz => ?_) (by simp only [Act.put, List.setIfInBounds_toArray, List.set_cons_zero, List.set_cons_succ]; rfl) ?_
  · go_simp; try (with_reducible rfl)
  refine Og.held_take 6 _ (.pointer (some ⟨g', o' + a * 13, none⟩)) _ rfl rfl (by kernel_rfl) (by kernel_rfl) (by kernel_rfl) (fun _ _ _ h => h) S0 (fun z hz => ?_) (by simp only [Act.put, List.setIfInBounds_toArray, List.set_cons_zero, List.set_cons_succ]; rfl) ?_
  · go_simp; try (with_reducible rfl)
  refine Og.held_take 7 _ (.agg (Ev.cells e).toArray) _ rfl rfl (by kernel_rfl) (by kernel_rfl) (by kernel_rfl) (fun _ _ _ h => h) S0 (fun z hz => ?_) (by simp only [Act.put, List.setIfInBounds_toArray, List.set_cons_zero, List.set_cons_succ]; rfl) ?_
  · exact Og.load_run 54 (.tmp 15) rfl ⟨g', o' + a * 13, none⟩ (by kernel_rfl) (LA.out z hz)
  refine Og.held_take 8 _ (.pointer (some ⟨q, 0, none⟩)) _ rfl rfl (by kernel_rfl) (by kernel_rfl) (by kernel_rfl) (fun _ _ _ h => h) S0 (fun z hz => ?_) (by simp only [Act.put, List.setIfInBounds_toArray, List.set_cons_zero, List.set_cons_succ]; rfl) ?_
  · exact Og.load_run 72 (.tmp 3) rfl ⟨w.heap.size, 0, none⟩ (by kernel_rfl) (LBX.out z hz)
  refine Og.held_take 9 _ (.pointer (some ⟨q, 0, none⟩)) _ rfl rfl (by kernel_rfl) (by kernel_rfl) (by kernel_rfl) (fun _ _ _ h => h) S0 (fun z hz => ?_) (by simp only [Act.put, List.setIfInBounds_toArray, List.set_cons_zero, List.set_cons_succ]; rfl) ?_
  · go_simp; try (with_reducible rfl)
  refine Og.held_take 10 _ (.pointer (some ⟨q, 0, none⟩)) _ rfl rfl (by kernel_rfl) (by kernel_rfl) (by kernel_rfl) (fun _ _ _ h => h) S0 (fun z hz => ?_) (by simp only [Act.put, List.setIfInBounds_toArray, List.set_cons_zero, List.set_cons_succ]; rfl) ?_
  · go_simp; try (with_reducible rfl)
  refine Og.held_take 11 _ (.pointer (some ⟨q, 0, none⟩)) _ rfl rfl (by kernel_rfl) (by kernel_rfl) (by kernel_rfl) (fun _ _ _ h => h) S0 (fun z hz => ?_) (by simp only [Act.put, List.setIfInBounds_toArray, List.set_cons_zero, List.set_cons_succ]; rfl) ?_
  · go_simp; try (with_reducible rfl)
  refine Og.held_take 12 _ (.slice (some ⟨g', o', none⟩) x.ev.length x.ce) _ rfl rfl (by kernel_rfl) (by kernel_rfl) (by kernel_rfl) (fun _ _ _ h => h) S0 (fun z hz => ?_) (by simp only [Act.put, List.setIfInBounds_toArray, List.set_cons_zero, List.set_cons_succ]; rfl) ?_
  · exact Og.load_run 22 (.tmp 20) rfl ⟨q, 0, none⟩ (by kernel_rfl) (run_load_slice Try.underlying22 (Og.std_cell hz cx))
  refine Og.held_take 13 _ (.int .i64 (b : Int)) _ rfl rfl (by kernel_rfl) (by kernel_rfl) (by kernel_rfl) (fun _ _ _ h => h) S0 (fun z hz => ?_) (by simp only [Act.put, List.setIfInBounds_toArray, List.set_cons_zero, List.set_cons_succ]; rfl) ?_
  · go_simp; try (with_reducible rfl)
  refine Og.held_take 14 _ (.pointer (some ⟨g', o' + b * 13, none⟩)) _ rfl rfl (by kernel_rfl) (by kernel_rfl) (by kernel_rfl) (fun _ _ _ h => h) S0 (fun z hz => ?_) (by simp only [Act.put, List.setIfInBounds_toArray, List.set_cons_zero, List.set_cons_succ]; rfl) ?_
  · go_simp; try (with_reducible rfl)
  refine Og.held_take 15 _ (.agg (Ev.cells f).toArray) _ rfl rfl (by kernel_rfl) (by kernel_rfl) (by kernel_rfl) (fun _ _ _ h => h) S0 (fun z hz => ?_) (by simp only [Act.put, List.setIfInBounds_toArray, List.set_cons_zero, List.set_cons_succ]; rfl) ?_
  · exact Og.load_run 54 (.tmp 23) rfl ⟨g', o' + b * 13, none⟩ (by kernel_rfl) (LF.out z hz)
  refine Og.four (p := 16) (q := 17) (s1 := 18) (s2 := 19) (dp := 7) (dq := 8) (x1 := 16) (x2 := 24) (T := 54) (Z := (Ev.cells Ev.R0).toArray) (c1 := (Ev.cells e).toArray) (c2 := (Ev.cells f).toArray)
    ⟨⟨_, rfl, rfl, rfl, fun ρ w => by kernel_rfl⟩, ⟨_, rfl, rfl, rfl, fun ρ w => by kernel_rfl⟩, ⟨_, rfl, rfl, rfl, rfl⟩, ⟨_, rfl, rfl, rfl, rfl⟩, (by kernel_rfl), (by kernel_rfl), (by kernel_rfl), (by kernel_rfl), (by kernel_rfl), (by kernel_rfl), (by kernel_rfl), (by kernel_rfl), (by kernel_rfl), (by kernel_rfl), (by kernel_rfl), of_decide_eq_true (by kernel_rfl), of_decide_eq_true (by kernel_rfl), (by decide), rfl, rfl, (by kernel_rfl), (by kernel_rfl), (by kernel_rfl), (by kernel_rfl)⟩ S0 ?_
  intro W g1 g2 HT
  simp only [Act.put, List.setIfInBounds_toArray, List.set_cons_zero, List.set_cons_succ]
  have R1 := Lib.hid HT.r1; have R2 := Lib.hid HT.r2; have BW := Lib.hid (HT.below)
  clear HT S0 cx
  have WB := Lib.hid (B0.out.trans (BW.out.mono B0.out.size))
  have c1 : W.cell? ⟨g1, 9, none⟩ = some (.bool z1) := by rw [cell_of_row _ _ _ _ _ _ R1.out, ← HZ1.out]; rfl
  cases z1
  case false =>
    go_wp2_with fail
    go_ret
    exact ⟨by rw [HRES.out]; try rfl, WB.out⟩
  go_wp2_with ((with_reducible show wpList _ _ _ (Oper.mk (some 28) _ _ _ _ _ :: _) _ _); refine Ev.load_row_g 54 (.tmp 7) rfl rfl g1 (by kernel_rfl) 54 (Ev.cells e).toArray (0, 0) _ R1.out Try.underlying54 rfl (by kernel_rfl) ?_)
  refine (oloads_is HL.out _).mono ?_
  rintro r W2 ⟨rfl, hb2⟩
  have R22 := Lib.hid ((hb2.block g2 (Array.getElem?_eq_some_iff.1 R2.out).1).trans R2.out)
  have V2 := Lib.hid (BW.out.trans (hb2.mono BW.out.size))
  have B2 := Lib.hid (WB.out.trans (hb2.mono WB.out.size)); clear hb2 c1
  have c2 : W2.cell? ⟨g2, 9, none⟩ = some (.bool z2) := by rw [cell_of_row _ _ _ _ _ _ R22.out, ← HZ2.out]; rfl
  cases s
  case false =>
    go_wp2_with fail
    go_ret
    exact ⟨by rw [HRES.out]; try rfl, B2.out⟩
  cases z2
  case false =>
    go_wp2_with fail
    go_ret
    exact ⟨by rw [HRES.out]; try rfl, B2.out⟩
  go_wp2_with ((with_reducible show wpList _ _ _ (Oper.mk (some 36) _ _ _ _ _ :: _) _ _); refine Ev.load_row_g 54 (.tmp 8) rfl rfl g2 (by kernel_rfl) 54 (Ev.cells f).toArray (0, 0) _ R22.out Try.underlying54 rfl (by kernel_rfl) ?_)
  refine (ostores_is HST.out _).mono ?_
  rintro r W3 ⟨rfl, hb3⟩
  have V3 := Lib.hid (V2.out.trans (hb3.mono V2.out.size))
  have B3 := Lib.hid (B2.out.trans (hb3.mono B2.out.size)); clear hb3 c2
  have kq3 := (Kq.out.kp V3.out).cell
  cases t
  case false =>
    go_wp2_with fail
    go_ret
    exact ⟨by rw [HRES.out]; try rfl, B3.out⟩
  go_wp2_with fail
  refine (oneW_is HO.out ha hb _ (HQB.out.kp V3.out)).mono ?_
  rintro r W4 ⟨rfl, hb4⟩
  have V4 := Lib.hid (V3.out.trans (hb4.mono V3.out.size))
  have B4 := Lib.hid (B3.out.trans (hb4.mono B3.out.size)); clear hb4 kq3
  have kq4 := (Kq.out.kp V4.out).cell
  cases o1
  case false =>
    go_wp2_with fail
    go_ret
    exact ⟨by rw [HRES.out]; try rfl, B4.out⟩
  go_wp2_with fail
  refine (some_is HN.out q ha' hb' _ _ W4 (enters_of Try.func102 (by kernel_rfl) rfl) (HS.out.later V4.out)).mono ?_
  rintro r W5 ⟨rfl, hb5⟩
  have B5 := Lib.hid (B4.out.trans (hb5.mono B4.out.size)); clear hb5 kq4
  cases n1
  · go_wp2_with fail
    go_ret
    exact ⟨by rw [HRES.out]; try rfl, B5.out⟩
  · go_wp2_with fail
    go_ret
    exact ⟨by rw [HRES.out]; try rfl, B5.out⟩
end Go.Proofs.Ytoicmhidmknfiaa
end

section
namespace Go.Proofs.Ytoicmhidmknfiaa
open Go.RowKit
set_option linter.unusedVariables false
set_option linter.unusedSimpArgs false
attribute [local go_sem] Oper.semAt_some
namespace Or
open Ev
/-- a rule by its number -/
def R (x : X) (i a b : Nat) : Bool := match i with
  | 1 => r1 x a b
  | 2 => r2 x a b
  | 3 => r3 x a b
  | 4 => r4 x a b
  | 5 => r5 x a b
  | 6 => r6 x a b
  | 7 => r7 x a b
  | 8 => r8 x a b
  | 9 => r9 x a b
  | 10 => r10 x a b
  | 11 => r11 x a b
  | 12 => r12 x a b
  | 13 => r13 x a b
  | _ => false
/-- the rules below a number that hold -/
def holdTo (x : X) (a b n : Nat) : List Nat := (List.range n).filter fun i => decide (1 ≤ i) && R x i a b
def hold (x : X) (a b : Nat) : List Nat := if kept x a b = true then holdTo x a b 14 else []
theorem holdTo_succ (x : X) (a b n : Nat) : holdTo x a b (n + 1) = if (decide (1 ≤ n) && R x n a b) = true then holdTo x a b n ++ [n] else holdTo x a b n := by
  unfold holdTo; rw [List.range_succ, List.filter_append]
  have e : ([n].filter fun i => decide (1 ≤ i) && R x i a b) = if (decide (1 ≤ n) && R x n a b) = true then [n] else [] := by rw [List.filter_cons]; rfl
  rw [e]
  split
  · rfl
  · simp
theorem holdTo_get {x : X} {a b i : Nat} (h : (decide (1 ≤ i) && R x i a b) = true) : ∀ n, i < n → (holdTo x a b n)[(holdTo x a b i).length]? = some i ∧ (holdTo x a b i).length < (holdTo x a b n).length
  | 0, hn => absurd hn (Nat.not_lt_zero _)
  | n + 1, hn => by
    rw [holdTo_succ]
    by_cases e : i = n
    · subst e
      rw [if_pos h]
      refine ⟨?_, by simp⟩
      rw [List.getElem?_append_right (Nat.le_refl _)]; simp
    · have ih := holdTo_get h n (by omega)
      split
      · refine ⟨?_, by rw [List.length_append]; omega⟩
        rw [List.getElem?_append_left ih.2]; exact ih.1
      · exact ih
end Or
theorem rule_fn (x : Ev.X) (q a b : Nat) (ha : a < x.ev.length) (hb : b < x.ev.length) (hfl : x.fr.l.length = x.ev.length) : ∀ (i : Nat), 1 ≤ i → i ≤ 13 →
    ∃ F : FuncId, (∀ w, (Instr.index 97 (.agg Or.rulesA) (.int .i64 (i : Int))).run Try.prog w = .ok (.func (.func F) #[] #[]) w) ∧ (∀ args w, (callFunc F args).run Try.prog w = .ok (.enter F args) w) ∧
      ∀ W, Or.As W q x → Calls Try.prog F #[.pointer (some ⟨q, 0, none⟩), .int .i64 (a : Int), .int .i64 (b : Int)] W fun r w' => r = .returned (.bool (Or.R x i a b)) ∧ Below W.heap.size W w'
  | 1, _, _ => ⟨80, fun w => by as_aux_lemma => kernel_rfl, enters_of Try.func80 (by kernel_rfl) rfl, fun W h => r1_any x q a b ha hb W h⟩
  | 2, _, _ => ⟨81, fun w => by as_aux_lemma => kernel_rfl, enters_of Try.func81 (by kernel_rfl) rfl, fun W h => r2_any x q a b ha hb hfl W h⟩
  | 3, _, _ => ⟨82, fun w => by as_aux_lemma => kernel_rfl, enters_of Try.func82 (by kernel_rfl) rfl, fun W h => r3_any x q a b ha hb hfl W h⟩
  | 4, _, _ => ⟨83, fun w => by as_aux_lemma => kernel_rfl, enters_of Try.func83 (by kernel_rfl) rfl, fun W h => r4_any x q a b ha hb W h⟩
  | 5, _, _ => ⟨84, fun w => by as_aux_lemma => kernel_rfl, enters_of Try.func84 (by kernel_rfl) rfl, fun W h => r5_any x q a b ha hb W h⟩
  | 6, _, _ => ⟨85, fun w => by as_aux_lemma => kernel_rfl, enters_of Try.func85 (by kernel_rfl) rfl, fun W h => r6_any x q a b ha hb W h⟩
  | 7, _, _ => ⟨86, fun w => by as_aux_lemma => kernel_rfl, enters_of Try.func86 (by kernel_rfl) rfl, fun W h => r7_any x q a b ha hb W h⟩
  | 8, _, _ => ⟨87, fun w => by as_aux_lemma => kernel_rfl, enters_of Try.func87 (by kernel_rfl) rfl, fun W h => r8_any x q a b ha hb W h⟩
  | 9, _, _ => ⟨88, fun w => by as_aux_lemma => kernel_rfl, enters_of Try.func88 (by kernel_rfl) rfl, fun W h => r9_any x q a b ha hb W h⟩
  | 10, _, _ => ⟨89, fun w => by as_aux_lemma => kernel_rfl, enters_of Try.func89 (by kernel_rfl) rfl, fun W h => r10_any x q a b ha hb W h⟩
  | 11, _, _ => ⟨90, fun w => by as_aux_lemma => kernel_rfl, enters_of Try.func90 (by kernel_rfl) rfl, fun W h => r11_any x q a b ha hb W h⟩
  | 12, _, _ => ⟨91, fun w => by as_aux_lemma => kernel_rfl, enters_of Try.func91 (by kernel_rfl) rfl, fun W h => r12_any x q a b ha hb hfl W h⟩
  | 13, _, _ => ⟨92, fun w => by as_aux_lemma => kernel_rfl, enters_of Try.func92 (by kernel_rfl) rfl, fun W h => r13_any x q a b ha hb W h⟩
  | i + 14, _, h => absurd h (by omega)
theorem index_nil (w : World) : (Instr.index 97 (.agg Or.rulesA) (.int .i64 0)).run Try.prog w = .ok .nilFunc w := by kernel_rfl
theorem rules_is (w : World) : Calls Try.prog 69 #[] w fun r w' => r = .returned (.agg Or.rulesA) ∧ Below w.heap.size w w' := rules_any w
set_option maxRecDepth 100000 in
set_option maxHeartbeats 4000000 in
theorem holds_any (x : Ev.X) (q i a b : Nat) (ha : a < x.ev.length) (hb : b < x.ev.length) (hfl : x.fr.l.length = x.ev.length) (h1 : 1 ≤ i) (h2 : i ≤ 13) (w : World) (hq : Or.As w q x) :
    Calls Try.prog 53 #[.pointer (some ⟨q, 0, none⟩), .int .i64 (i : Int), .int .i64 (a : Int), .int .i64 (b : Int)] w fun r w' => r = .returned (.bool (Or.kept x a b && Or.R x i a b)) ∧ Below w.heap.size w w' := by
  obtain ⟨F, hi, he, hF⟩ := rule_fn x q a b ha hb hfl i h1 h2
  have HQ := Lib.hid hq; have HFF := Lib.hid hF; have HI := Lib.hid hi; have HEN := Lib.hid he
  obtain ⟨k, hk⟩ : ∃ k, Or.kept x a b = k := ⟨_, rfl⟩
  have HK := Lib.hid hk
  rw [hk]
  clear hq hF hi he hk hfl
  go_enter Try.func53, Try.ntmps53
  go_wp2_with fail
  refine (kept_is HK.out ha hb _ HQ.out).mono ?_
  rintro r W1 ⟨rfl, hb1⟩
  have B1 := Lib.hid hb1; clear hb1
  cases k
  · go_wp2_with fail
    go_ret
    exact ⟨rfl, B1.out⟩
  go_wp2_with fail
  refine (rules_is _).mono ?_
  rintro r W2 ⟨rfl, hb2⟩
  have B2 := Lib.hid (B1.out.trans (hb2.mono B1.out.size)); clear hb2
  have hi := HI.out; have he := HEN.out
  go_wp2_with fail
  clear hi he
  refine (HFF.out _ (HQ.out.kp B2.out)).mono ?_
  rintro r W3 ⟨rfl, hb3⟩
  have B3 := Lib.hid (B2.out.trans (hb3.mono B2.out.size)); clear hb3
  go_wp2_with fail
  go_ret
  exact ⟨rfl, B3.out⟩
theorem holds_is {x : Ev.X} {i a b : Nat} {v : Bool} (h : (Or.kept x a b && Or.R x i a b) = v) (q : Nat) (ha : a < x.ev.length) (hb : b < x.ev.length) (hfl : x.fr.l.length = x.ev.length) (h1 : 1 ≤ i) (h2 : i ≤ 13) (w : World) (hq : Or.As w q x) :
    Calls Try.prog 53 #[.pointer (some ⟨q, 0, none⟩), .int .i64 (i : Int), .int .i64 (a : Int), .int .i64 (b : Int)] w fun r w' => r = .returned (.bool v) ∧ Below w.heap.size w w' := h ▸ holds_any x q i a b ha hb hfl h1 h2 w hq
/-- what holding's function reads -/
structure Or.Hin (x : Ev.X) (q a b c0 c1 c2 : Nat) (W : World) : Prop where
  as_ : Or.As W q x
  k0 : Or.Box W c0 72 (.pointer (some ⟨q, 0, none⟩))
  k1 : Or.Box W c1 3 (.int .i64 (a : Int))
  k2 : Or.Box W c2 3 (.int .i64 (b : Int))
set_option maxRecDepth 100000 in
set_option maxHeartbeats 8000000 in
theorem holding_iter (m : Nat) (hm : 1 ≤ m) (x : Ev.X) (q a b c0 c1 c2 : Nat) (ha : a < x.ev.length) (hb : b < x.ev.length) (hfl : x.fr.l.length = x.ev.length) :
    Og.IterL Fence.wide m Try.prog 67 #[.pointer (some ⟨c0, 0, none⟩), .pointer (some ⟨c1, 0, none⟩), .pointer (some ⟨c2, 0, none⟩)] (Or.Hin x q a b c0 c1 c2) (fun k : Nat => #[.int .i64 (k : Int)]) (Or.hold x a b) := by
  intro l J Jx W hst hR hY h0
  have HST := Lib.hid hst; have HR := Lib.hid hR; have HY := Lib.hid hY; have H0 := Lib.hid h0
  have k0 := (hR _ _ h0).k0.cell; have k1 := (hR _ _ h0).k1.cell; have k2 := (hR _ _ h0).k2.cell
  obtain ⟨k, hk⟩ : ∃ k, Or.kept x a b = k := ⟨_, rfl⟩
  have HK := Lib.hid hk
  have HFL := Lib.hid hfl
  clear hst hR hY h0 hk hfl
  refine callsIn_of_wp Try.func67 rfl trivial ?_ rfl
  simp only [Try.ntmps67, List.size_toArray, List.length_cons, List.length_nil, Nat.reduceAdd, Nat.reduceSub, Array.replicate_succ, Array.replicate_zero, List.push_toArray, List.append_toArray, List.nil_append, List.cons_append]
  gi_wp2_with fail
  refine ⟨trivial, (callsIn_wide.2 (kept_is HK.out ha hb _ (HR.out _ _ H0.out).as_)).mono ?_⟩
  rintro r W1 ⟨rfl, hb1⟩
  have H1 := Lib.hid (HST.out _ _ _ H0.out hb1)
  clear hb1 k0 k1 k2
  cases k
  · have HH := Lib.hid (show Or.hold x a b = [] by unfold Or.hold; rw [HK.out]; rfl)
    gi_wp2_with fail
    refine bodyPost_ret (results_none rfl _ _ _) rfl ?_
    exact ⟨⟨_, rfl⟩, .inl (by rw [HH.out]; exact H1.out)⟩
  have HH := Lib.hid (show Or.hold x a b = Or.holdTo x a b 14 by unfold Or.hold; rw [HK.out]; rfl)
  gi_wp2_with fail
  refine ⟨trivial, (callsIn_wide.2 (rules_is _)).mono ?_⟩
  rintro r W2 ⟨rfl, hb2⟩
  have H2 := Lib.hid (HST.out _ _ _ H1.out hb2)
  clear hb2
  gi_wp2_with fail
  gi_loopw [5, 6, 13] (fun _ _ n wr => ∃ i : Nat, i ≤ 14 ∧ n = .int .i64 (i : Int) ∧ J (Or.holdTo x a b i).length wr) (fun _ _ n _ => 14 - (intOf n).toNat)
  case atStart => exact ⟨0, by omega, rfl, H2.out⟩
  case round =>
    obtain ⟨i, hi, rfl, hj⟩ := hrel
    have HJ := Lib.hid hj
    have k0 := (HR.out _ _ hj).k0.cell; have k1 := (HR.out _ _ hj).k1.cell; have k2 := (HR.out _ _ hj).k2.cell
    clear hj
    by_cases hlt : i < 14
    · have hlti : (i : Int) < 14 := by omega
      by_cases h0 : i = 0
      · subst h0
        have hx := index_nil
        have HS := Lib.hid (show Or.holdTo x a b (0 + 1) = Or.holdTo x a b 0 by rw [Or.holdTo_succ]; rfl)
        gi_wp2_with fail
        repeat (refine ⟨fun f h => (by cases h), ?_⟩; gi_wp2_with fail)
        go_roundw
        case rel => exact ⟨0 + 1, by omega, by go_num, by rw [HS.out]; exact HJ.out⟩
        case measure => simp [intOf]
      have hge : (1 : Int) ≤ (i : Int) := by omega
      obtain ⟨F, hx, he, hF⟩ := rule_fn x q a b ha hb HFL.out i (by omega) (by omega)
      have HFF := Lib.hid hF
      obtain ⟨v, hv⟩ : ∃ v, Or.R x i a b = v := ⟨_, rfl⟩
      have HV := Lib.hid hv
      have HP := Lib.hid (show (decide (1 ≤ i) && Or.R x i a b) = v by rw [hv, decide_eq_true (by omega : 1 ≤ i)]; rfl)
      clear hF hv
      gi_wp2_with fail
      refine ⟨trivial, (callsIn_wide.2 (HFF.out _ (HR.out _ _ HJ.out).as_)).mono ?_⟩
      rintro r W3 ⟨rfl, hb3⟩
      have H3 := Lib.hid (HST.out _ _ _ HJ.out hb3)
      rw [HV.out]
      clear hb3 k0 k1 k2 hx he
      cases v
      · have HS := Lib.hid (show Or.holdTo x a b (i + 1) = Or.holdTo x a b i by rw [Or.holdTo_succ, HP.out]; rfl)
        gi_wp2_with fail
        repeat (refine ⟨fun f h => (by cases h), ?_⟩; gi_wp2_with fail)
        go_roundw
        case rel => exact ⟨i + 1, by omega, by go_num, by rw [HS.out]; exact H3.out⟩
        case measure => simp [intOf]; omega
      have HS := Lib.hid (show (Or.holdTo x a b (i + 1)).length = (Or.holdTo x a b i).length + 1 by rw [Or.holdTo_succ, HP.out]; simp)
      have HG := Lib.hid (show (Or.hold x a b)[(Or.holdTo x a b i).length]? = some i by rw [HH.out]; exact (Or.holdTo_get HP.out 14 hlt).1)
      obtain ⟨fn, tmps, assign, body, hy, hRd⟩ := HY.out _ _ W3 HG.out H3.out
      have hy : Sem.run Try.prog (Instr.yield l #[.int .i64 (i : Int)]) W3 = Result.ok (Next.round l fn tmps assign body) W3 := hy
      gi_wp2_with fail
      refine hRd.mono ?_
      rintro e W4 (⟨rfl, hJ3⟩ | ⟨rfl, hJx3⟩)
      · have HJ3 := Lib.hid hJ3; clear hJ3 hy hRd
        gi_wp2_with fail
        go_roundw
        case rel => exact ⟨i + 1, by omega, by go_num, by rw [HS.out]; exact HJ3.out⟩
        case measure => simp [intOf]; omega
      · have HJ3 := Lib.hid hJx3; clear hJx3 hy hRd
        gi_wp2_with fail
        refine bodyPost_ret (results_none rfl _ _ _) rfl ?_
        exact ⟨⟨_, rfl⟩, .inr HJ3.out⟩
    · have hlti : ¬ (i : Int) < 14 := by omega
      have HI := Lib.hid (show i = 14 by omega)
      clear hlt k0 k1 k2
      gi_wp2_with fail
      refine bodyPost_end (results_none rfl _ _ _) rfl ?_
      exact ⟨⟨_, rfl⟩, .inl (by rw [HH.out, ← HI.out]; exact HJ.out)⟩
end Go.Proofs.Ytoicmhidmknfiaa
end
