import Derived.Test.YtecnnkidalkmfaaGreatKb01
import Derived.WalkKit
import Derived.Test.YtecnnkidalkmfaaGreatKb09
set_option linter.unusedVariables false
set_option linter.unusedSimpArgs false

section
namespace Go.Proofs.YtecnnkidalkmfaaGreat
open Go.RowKit
namespace Ev
def atGo (n : Int) : Int → List Int → Int
  | _, [] => -1
  | i, v :: r => if v = n then i else atGo n (i + 1) r
def at_ (l : List Int) (n : Int) : Int := atGo n 0 l
theorem atGo_neg {n : Int} : ∀ {l : List Int} {i : Int}, n ∉ l → atGo n i l = -1
  | [], _, _ => rfl
  | v :: r, i, h => by
    unfold atGo
    rw [if_neg (fun e => h (by rw [e]; exact List.mem_cons_self))]
    exact atGo_neg fun hm => h (List.mem_cons_of_mem _ hm)
theorem atGo_pos {n : Int} : ∀ {l : List Int} {i : Int}, n ∈ l → i ≤ atGo n i l
  | v :: r, i, h => by
    unfold atGo
    by_cases e : v = n
    · rw [if_pos e]; exact Int.le_refl _
    · rw [if_neg e]
      have := atGo_pos (i := i + 1) (List.mem_of_ne_of_mem (Ne.symm e) h)
      omega
theorem at_neg (l : List Int) (n : Int) : at_ l n < 0 ↔ n ∉ l := by
  constructor
  · intro h hm
    have := atGo_pos (i := 0) hm
    unfold at_ at h; omega
  · intro h
    unfold at_; rw [atGo_neg h]; omega
end Ev
set_option maxRecDepth 100000 in
set_option maxHeartbeats 1000000 in
theorem rat_any (S : Ev.Sl) (n : Int) (w : World) (hS : Ev.IntsIn w S) :
    Calls Tryz.prog 33 #[.slice S.a S.l.length S.c, .int .i64 n] w fun e w' => e = .returned (.int .i64 (Ev.at_ S.l n)) ∧ w = w' := by
  have hsm := hS.2.2.1; have hsl := hS.2.1
  have HS := Lib.hid hS; clear hS
  go_enter Tryz.func33, Tryz.ntmps33
  go_wp2
  go_loopw [5] (fun i wr => ∃ k : Nat, k ≤ S.l.length ∧ i = .int .i64 (k : Int) ∧ Ev.at_ S.l n = Ev.atGo n k (S.l.drop k) ∧ wr = w) (fun i _ => S.l.length - (intOf i).toNat)
  case atStart => exact ⟨0, Nat.zero_le _, rfl, rfl, rfl⟩
  case round =>
    obtain ⟨k, hk, rfl, hgo, rfl⟩ := hrel
    have HGO := Lib.hid hgo; clear hgo
    by_cases hlt : k < S.l.length
    · obtain ⟨d, hd⟩ : ∃ d, S.l[k]? = some d := ⟨_, List.getElem?_eq_getElem hlt⟩
      have hdrop : S.l.drop k = d :: S.l.drop (k + 1) := by
        rw [List.drop_eq_getElem_cons hlt]; congr 1; rw [List.getElem?_eq_getElem hlt] at hd; exact Option.some.inj hd
      obtain ⟨g, o, e, c⟩ := HS.out.at_ hd
      have hki : (k : Int) < (S.l.length : Int) := by omega
      rw [e]
      by_cases hq : d = n
      · have HR := Lib.hid (show Ev.at_ S.l n = (k : Int) by rw [HGO.out, hdrop]; unfold Ev.atGo; rw [if_pos hq])
        have tq : (d == n) = true := by simpa using hq
        clear hd hdrop e hq
        go_wp2
        go_ret
        refine ⟨?_, rfl⟩
        rw [HR.out]; rfl
      · have HR := Lib.hid (show Ev.at_ S.l n = Ev.atGo n ((k + 1 : Nat) : Int) (S.l.drop (k + 1)) by rw [HGO.out, hdrop]; simp only [Ev.atGo]; rw [if_neg hq]; rfl)
        have tq : (d == n) = false := by simpa using hq
        clear hd hdrop e hq
        go_wp2
        try go_roundw
        first
        | exact ⟨⟨k + 1, by omega, by go_num, HR.out, by first | rfl | trivial⟩, by simp [intOf]; omega⟩
        | (case rel => exact ⟨k + 1, by omega, by go_num, HR.out, by first | rfl | trivial⟩
           case measure => simp [intOf]; omega)
    · have hki : ¬ (k : Int) < (S.l.length : Int) := by omega
      have HR := Lib.hid (show Ev.at_ S.l n = -1 by rw [HGO.out, List.drop_eq_nil_of_le (by omega)]; rfl)
      go_wp2
      go_ret
      refine ⟨?_, rfl⟩
      rw [HR.out]; rfl
end Go.Proofs.YtecnnkidalkmfaaGreat
end

section
namespace Go.Proofs.YtecnnkidalkmfaaGreat
open Go.RowKit
set_option maxRecDepth 100000 in
set_option maxHeartbeats 1000000 in
theorem index_any (S : Ev.Sl) (n : Int) (w : World) (hS : Ev.IntsIn w S) :
    Calls Tryz.prog 167 #[.slice S.a S.l.length S.c, .int .i64 n] w fun e w' => e = .returned (.int .i64 (Ev.at_ S.l n)) ∧ w = w' := by
  have hsm := hS.2.2.1; have hsl := hS.2.1
  have HS := Lib.hid hS; clear hS
  go_enter Tryz.func167, Tryz.ntmps167
  go_wp2
  go_loopw [5, 8] (fun _ i wr => ∃ k : Nat, k ≤ S.l.length ∧ i = .int .i64 (k : Int) ∧ Ev.at_ S.l n = Ev.atGo n k (S.l.drop k) ∧ wr = w) (fun _ i _ => S.l.length - (intOf i).toNat)
  case atStart => exact ⟨0, Nat.zero_le _, rfl, rfl, rfl⟩
  case round =>
    obtain ⟨k, hk, rfl, hgo, rfl⟩ := hrel
    have HGO := Lib.hid hgo; clear hgo
    by_cases hlt : k < S.l.length
    · obtain ⟨d, hd⟩ : ∃ d, S.l[k]? = some d := ⟨_, List.getElem?_eq_getElem hlt⟩
      have hdrop : S.l.drop k = d :: S.l.drop (k + 1) := by
        rw [List.drop_eq_getElem_cons hlt]; congr 1; rw [List.getElem?_eq_getElem hlt] at hd; exact Option.some.inj hd
      obtain ⟨g, o, e, c⟩ := HS.out.at_ hd
      have hki : (k : Int) < (S.l.length : Int) := by omega
      rw [e]
      by_cases hq : d = n
      · have HR := Lib.hid (show Ev.at_ S.l n = (k : Int) by rw [HGO.out, hdrop]; unfold Ev.atGo; rw [if_pos hq])
        have tq : (n == d) = true := by simpa using hq.symm
        clear hd hdrop e hq
        go_wp2
        go_ret
        refine ⟨?_, rfl⟩
        rw [HR.out]; rfl
      · have HR := Lib.hid (show Ev.at_ S.l n = Ev.atGo n ((k + 1 : Nat) : Int) (S.l.drop (k + 1)) by rw [HGO.out, hdrop]; simp only [Ev.atGo]; rw [if_neg hq]; rfl)
        have tq : (n == d) = false := by simpa using (fun h : n = d => hq h.symm)
        clear hd hdrop e hq
        go_wp2
        try go_roundw
        first
        | exact ⟨⟨k + 1, by omega, by go_num, HR.out, by first | rfl | trivial⟩, by simp [intOf]; omega⟩
        | (case rel => exact ⟨k + 1, by omega, by go_num, HR.out, by first | rfl | trivial⟩
           case measure => simp [intOf]; omega)
    · have hki : ¬ (k : Int) < (S.l.length : Int) := by omega
      have HR := Lib.hid (show Ev.at_ S.l n = -1 by rw [HGO.out, List.drop_eq_nil_of_le (by omega)]; rfl)
      go_wp2
      go_ret
      refine ⟨?_, rfl⟩
      rw [HR.out]; rfl
theorem index_is {S : Ev.Sl} {n p : Int} (h : Ev.at_ S.l n = p) (w : World) (hS : Ev.IntsIn w S) : Calls Tryz.prog 167 #[.slice S.a S.l.length S.c, .int .i64 n] w fun e w' => e = .returned (.int .i64 p) ∧ w = w' := h ▸ index_any S n w hS
def Or.has (l : List Int) (n : Int) : Bool := decide (0 ≤ Ev.at_ l n)
theorem contains_any (S : Ev.Sl) (n : Int) (w : World) (hS : Ev.IntsIn w S) :
    Calls Tryz.prog 158 #[.slice S.a S.l.length S.c, .int .i64 n] w fun e w' => e = .returned (.bool (Or.has S.l n)) ∧ w = w' := by
  have HS := Lib.hid hS; clear hS
  obtain ⟨p, hp⟩ : ∃ p, Ev.at_ S.l n = p := ⟨_, rfl⟩
  have HP := Lib.hid hp
  have HR := Lib.hid (show Or.has S.l n = decide (0 ≤ p) by unfold Or.has; rw [hp])
  clear hp
  go_enter Tryz.func158, Tryz.ntmps158
  go_wp2_with fail
  refine (index_is HP.out _ HS.out).mono ?_
  rintro e w1 ⟨rfl, rfl⟩
  go_wp2_with fail
  go_ret
  exact ⟨by rw [HR.out]; try rfl, rfl⟩
theorem contains_is {S : Ev.Sl} {n : Int} {p : Bool} (h : Or.has S.l n = p) (w : World) (hS : Ev.IntsIn w S) : Calls Tryz.prog 158 #[.slice S.a S.l.length S.c, .int .i64 n] w fun e w' => e = .returned (.bool p) ∧ w = w' := h ▸ contains_any S n w hS
end Go.Proofs.YtecnnkidalkmfaaGreat
end

section
namespace Go.Proofs.YtecnnkidalkmfaaGreat
open Go.RowKit
theorem Ev.load_at_g {P : Program} {ops : Array Oper} {rest : List Oper} {o : Oper} {a : Act} {w : World} {Q : Exit → Act → World → Prop} (ty : TypeId) (x : Operand) (ho : o.op = .load ty x) (hw : Region.wanted o (yielded ops a.tmps) = true)
    (g off : Nat) (hx : a.eval x = .pointer (some ⟨g, off, none⟩)) (cs : List Value) (d : TypeDesc) (hc : ∀ i v, cs[i]? = some v → w.cell? ⟨g, off + i, none⟩ = some v)
    (hu : P.underlying ty = some d) (hd : (match d with | .struct _ | .array _ _ => true | _ => false) = true) (hi : (P.info? ty).map (·.size) = some cs.length)
    (h : wpList P ops Q rest (a.put o.dst (.agg cs.toArray)) w) : wpList P ops Q (o :: rest) a w := by
  unfold wpList
  rw [if_pos hw]
  refine .inl ?_
  unfold Oper.wp execOp
  simp only [ho, hx, Instr.loadAt, Instr.sureAddr, Sem.run_bind, Sem.run_pure, Result.andThen_ok, run_loadVar_at w g off ty cs d hc hu hd hi]
  exact h
namespace Or
open Ev
def r1 (x : X) (a b : Nat) : Bool := stores (nth x.ev b).k && oneW x a b
def r3 (x : X) (a b : Nat) : Bool := atom (nth x.ev a) && frAt x b == (a : Int)
def r5 (x : X) (a _b : Nat) : Bool := (nth x.ev a).q
def r6 (x : X) (_a b : Nat) : Bool := (nth x.ev b).l
def r7 (x : X) (a b : Nat) : Bool := mark (nth x.ev a) && mark (nth x.ev b)
def r9 (x : X) (a b : Nat) : Bool := has (nth x.ev b).d1.l (a : Int)
def r10 (x : X) (a b : Nat) : Bool := has (nth x.ev b).d2.l (a : Int)
def r11 (x : X) (a b : Nat) : Bool := stores (nth x.ev b).k && has (nth x.ev b).d3.l (a : Int)
end Or
set_option maxRecDepth 100000 in
set_option maxHeartbeats 4000000 in
theorem r1_any (x : Ev.X) (q a b : Nat) (ha : a < x.ev.length) (hb : b < x.ev.length) (w : World) (hq : Or.As w q x) :
    Calls Tryz.prog 124 #[.pointer (some ⟨q, 0, none⟩), .int .i64 (a : Int), .int .i64 (b : Int)] w fun r w' => r = .returned (.bool (Or.r1 x a b)) ∧ Below w.heap.size w w' := by
  have hl1 := hq.xin.ev.le; have hl2 := hq.xin.ev.max
  obtain ⟨e, he⟩ : ∃ e, x.ev[a]? = some e := ⟨_, List.getElem?_eq_getElem ha⟩
  obtain ⟨f, hf⟩ : ∃ f, x.ev[b]? = some f := ⟨_, List.getElem?_eq_getElem hb⟩
  obtain ⟨g, o, eg, hce⟩ := hq.xin.ev.at_ he
  obtain ⟨g', o', eg', hcf⟩ := hq.xin.ev.at_ hf
  obtain ⟨rfl, rfl⟩ : g' = g ∧ o' = o := by rw [eg] at eg'; cases eg'; exact ⟨rfl, rfl⟩
  have HE := Lib.hid (Ev.nth_some he); have HF := Lib.hid (Ev.nth_some hf)
  have HEO := Lib.hid (hq.xin.ev.ok_ he); have HFO := Lib.hid (hq.xin.ev.ok_ hf)
  have HQ := Lib.hid hq
  have HCE := Lib.hid (show ∀ W, Below w.heap.size w W → ∀ i c, (Ev.cells e)[i]? = some c → W.cell? ⟨g', o' + a * 13 + i, none⟩ = some c from fun W h i c hi => Ev.kp_below h _ _ (hce i c hi))
  have HCF := Lib.hid (show ∀ W, Below w.heap.size w W → ∀ i c, (Ev.cells f)[i]? = some c → W.cell? ⟨g', o' + b * 13 + i, none⟩ = some c from fun W h i c hi => Ev.kp_below h _ _ (hcf i c hi))
  have hai : (a : Int) < (x.ev.length : Int) := by omega
  have hbi : (b : Int) < (x.ev.length : Int) := by omega
  have CX := Lib.hid (show ∀ W, Below w.heap.size w W → W.cell? ⟨q, 0, none⟩ = some (.slice (some ⟨g', o', none⟩) x.ev.length x.ce) from fun W h => by
    rw [← eg]; exact (hq.kp h).c0)
  have cx := CX.out w (Below.refl _ _)
  have W0 := Lib.hid (Below.refl w.heap.size w)
  clear hq he hf eg eg' hce hcf
  obtain ⟨s, hs⟩ : ∃ s, Ev.stores f.k = s := ⟨_, rfl⟩
  have HS := Lib.hid hs
  obtain ⟨o1, ho1⟩ : ∃ s, Or.oneW x a b = s := ⟨_, rfl⟩
  have HO := Lib.hid ho1
  have HRES := Lib.hid (show Or.r1 x a b = (s && o1) by unfold Or.r1; rw [HF.out, hs, ho1])
  clear hs ho1
  go_enter Tryz.func124, Tryz.ntmps124
  go_wp2_with ((with_reducible show wpList _ _ _ (Oper.mk (some 14) _ _ _ _ _ :: _) _ _); refine wpList_load_at rfl 48 (.tmp 13) rfl g' (o' + b * 13) (by kernel_rfl) (Ev.cells f) _ (HCF.out _ (W0.out)) Tryz.underlying48 rfl (by kernel_rfl) ?_)
  refine (ostores_is HS.out _).mono ?_
  rintro r W1 ⟨rfl, hb1⟩
  have B1 := Lib.hid (W0.out.trans (hb1.mono (W0.out).size))
  clear hb1
  cases s
  · go_wp2_with fail
    go_ret
    exact ⟨by rw [HRES.out]; try rfl, B1.out⟩
  go_wp2_with fail
  refine (oneW_is HO.out ha hb _ (HQ.out.kp B1.out)).mono ?_
  rintro r W2 ⟨rfl, hb2⟩
  have B2 := Lib.hid (B1.out.trans (hb2.mono (B1.out).size))
  clear hb2
  go_wp2_with fail
  go_ret
  exact ⟨by rw [HRES.out]; try rfl, B2.out⟩
set_option maxRecDepth 100000 in
set_option maxHeartbeats 4000000 in
theorem r3_any (x : Ev.X) (q a b : Nat) (ha : a < x.ev.length) (hb : b < x.ev.length) (hfl : x.fr.l.length = x.ev.length) (w : World) (hq : Or.As w q x) :
    Calls Tryz.prog 126 #[.pointer (some ⟨q, 0, none⟩), .int .i64 (a : Int), .int .i64 (b : Int)] w fun r w' => r = .returned (.bool (Or.r3 x a b)) ∧ Below w.heap.size w w' := by
  have hl1 := hq.xin.ev.le; have hl2 := hq.xin.ev.max
  obtain ⟨e, he⟩ : ∃ e, x.ev[a]? = some e := ⟨_, List.getElem?_eq_getElem ha⟩
  obtain ⟨f, hf⟩ : ∃ f, x.ev[b]? = some f := ⟨_, List.getElem?_eq_getElem hb⟩
  obtain ⟨g, o, eg, hce⟩ := hq.xin.ev.at_ he
  obtain ⟨g', o', eg', hcf⟩ := hq.xin.ev.at_ hf
  obtain ⟨rfl, rfl⟩ : g' = g ∧ o' = o := by rw [eg] at eg'; cases eg'; exact ⟨rfl, rfl⟩
  have HE := Lib.hid (Ev.nth_some he); have HF := Lib.hid (Ev.nth_some hf)
  have HEO := Lib.hid (hq.xin.ev.ok_ he); have HFO := Lib.hid (hq.xin.ev.ok_ hf)
  have HQ := Lib.hid hq
  have HCE := Lib.hid (show ∀ W, Below w.heap.size w W → ∀ i c, (Ev.cells e)[i]? = some c → W.cell? ⟨g', o' + a * 13 + i, none⟩ = some c from fun W h i c hi => Ev.kp_below h _ _ (hce i c hi))
  have HCF := Lib.hid (show ∀ W, Below w.heap.size w W → ∀ i c, (Ev.cells f)[i]? = some c → W.cell? ⟨g', o' + b * 13 + i, none⟩ = some c from fun W h i c hi => Ev.kp_below h _ _ (hcf i c hi))
  have hai : (a : Int) < (x.ev.length : Int) := by omega
  have hbi : (b : Int) < (x.ev.length : Int) := by omega
  have CX := Lib.hid (show ∀ W, Below w.heap.size w W → W.cell? ⟨q, 0, none⟩ = some (.slice (some ⟨g', o', none⟩) x.ev.length x.ce) from fun W h => by
    rw [← eg]; exact (hq.kp h).c0)
  have cx := CX.out w (Below.refl _ _)
  have W0 := Lib.hid (Below.refl w.heap.size w)
  clear hq he hf eg eg' hce hcf
  have hfs := HQ.out.xin.fr.2.1; have hfm := HQ.out.xin.fr.2.2.1
  obtain ⟨v, hv⟩ : ∃ v, x.fr.l[b]? = some v := ⟨_, List.getElem?_eq_getElem (by omega)⟩
  obtain ⟨gf, of, ef, hcv⟩ := HQ.out.xin.fr.at_ hv
  have HV := Lib.hid (show Ev.frAt x b = v by unfold Ev.frAt; simp [List.getD, hv])
  have hbf : (b : Int) < (x.fr.l.length : Int) := by omega
  have C1 := Lib.hid (show ∀ W, Below w.heap.size w W → W.cell? ⟨q, 1, none⟩ = some (.slice (some ⟨gf, of, none⟩) x.fr.l.length x.fr.c) from fun W h => by
    rw [← ef]; exact (HQ.out.kp h).c1)
  have CV := Lib.hid (show ∀ W, Below w.heap.size w W → W.cell? ⟨gf, of + b, none⟩ = some (.int .i64 v) from fun W h => Ev.kp_below h _ _ hcv)
  clear hv ef hcv
  obtain ⟨s, hs⟩ : ∃ s, Or.atom e = s := ⟨_, rfl⟩
  have HS := Lib.hid hs
  have HRES := Lib.hid (show Or.r3 x a b = (s && v == (a : Int)) by unfold Or.r3; rw [HE.out, hs, HV.out])
  clear hs hfl
  go_enter Tryz.func126, Tryz.ntmps126
  go_wp2_with ((with_reducible show wpList _ _ _ (Oper.mk (some 14) _ _ _ _ _ :: _) _ _); refine wpList_load_at rfl 48 (.tmp 13) rfl g' (o' + a * 13) (by kernel_rfl) (Ev.cells e) _ (HCE.out _ (W0.out)) Tryz.underlying48 rfl (by kernel_rfl) ?_)
  refine (atom_is HS.out _).mono ?_
  rintro r W1 ⟨rfl, hb1⟩
  have B1 := Lib.hid (W0.out.trans (hb1.mono (W0.out).size))
  clear hb1
  have c1 := C1.out W1 B1.out; have cv := CV.out W1 B1.out
  cases s
  · go_wp2_with fail
    go_ret
    exact ⟨by rw [HRES.out]; try rfl, B1.out⟩
  by_cases hq : v = (a : Int)
  · have tq : (v == (a : Int)) = true := by simpa using hq
    have HRES := Lib.hid (show Or.r3 x a b = true by rw [HRES.out, tq]; rfl)
    clear hq
    go_wp2_with fail
    go_ret
    exact ⟨by rw [HRES.out]; try rfl, B1.out⟩
  · have tq : (v == (a : Int)) = false := by simpa using hq
    have HRES := Lib.hid (show Or.r3 x a b = false by rw [HRES.out, tq]; rfl)
    clear hq
    go_wp2_with fail
    go_ret
    exact ⟨by rw [HRES.out]; try rfl, B1.out⟩
set_option maxRecDepth 100000 in
set_option maxHeartbeats 4000000 in
theorem r5_any (x : Ev.X) (q a b : Nat) (ha : a < x.ev.length) (hb : b < x.ev.length) (w : World) (hq : Or.As w q x) :
    Calls Tryz.prog 128 #[.pointer (some ⟨q, 0, none⟩), .int .i64 (a : Int), .int .i64 (b : Int)] w fun r w' => r = .returned (.bool (Or.r5 x a b)) ∧ Below w.heap.size w w' := by
  have hl1 := hq.xin.ev.le; have hl2 := hq.xin.ev.max
  obtain ⟨e, he⟩ : ∃ e, x.ev[a]? = some e := ⟨_, List.getElem?_eq_getElem ha⟩
  obtain ⟨f, hf⟩ : ∃ f, x.ev[b]? = some f := ⟨_, List.getElem?_eq_getElem hb⟩
  obtain ⟨g, o, eg, hce⟩ := hq.xin.ev.at_ he
  obtain ⟨g', o', eg', hcf⟩ := hq.xin.ev.at_ hf
  obtain ⟨rfl, rfl⟩ : g' = g ∧ o' = o := by rw [eg] at eg'; cases eg'; exact ⟨rfl, rfl⟩
  have HE := Lib.hid (Ev.nth_some he); have HF := Lib.hid (Ev.nth_some hf)
  have HEO := Lib.hid (hq.xin.ev.ok_ he); have HFO := Lib.hid (hq.xin.ev.ok_ hf)
  have HQ := Lib.hid hq
  have HCE := Lib.hid (show ∀ W, Below w.heap.size w W → ∀ i c, (Ev.cells e)[i]? = some c → W.cell? ⟨g', o' + a * 13 + i, none⟩ = some c from fun W h i c hi => Ev.kp_below h _ _ (hce i c hi))
  have HCF := Lib.hid (show ∀ W, Below w.heap.size w W → ∀ i c, (Ev.cells f)[i]? = some c → W.cell? ⟨g', o' + b * 13 + i, none⟩ = some c from fun W h i c hi => Ev.kp_below h _ _ (hcf i c hi))
  have hai : (a : Int) < (x.ev.length : Int) := by omega
  have hbi : (b : Int) < (x.ev.length : Int) := by omega
  have CX := Lib.hid (show ∀ W, Below w.heap.size w W → W.cell? ⟨q, 0, none⟩ = some (.slice (some ⟨g', o', none⟩) x.ev.length x.ce) from fun W h => by
    rw [← eg]; exact (hq.kp h).c0)
  have cx := CX.out w (Below.refl _ _)
  have W0 := Lib.hid (Below.refl w.heap.size w)
  clear hq he hf eg eg' hce hcf
  have HRES := Lib.hid (show Or.r5 x a b = e.q by unfold Or.r5; rw [HE.out])
  have cc : w.cell? ⟨g', o' + a * 13 + 5, none⟩ = some (.bool e.q) := HCE.out w W0.out 5 _ rfl
  go_enter Tryz.func128, Tryz.ntmps128
  go_wp2_with fail
  go_ret
  exact ⟨by rw [HRES.out]; try rfl, W0.out⟩
set_option maxRecDepth 100000 in
set_option maxHeartbeats 4000000 in
theorem r6_any (x : Ev.X) (q a b : Nat) (ha : a < x.ev.length) (hb : b < x.ev.length) (w : World) (hq : Or.As w q x) :
    Calls Tryz.prog 129 #[.pointer (some ⟨q, 0, none⟩), .int .i64 (a : Int), .int .i64 (b : Int)] w fun r w' => r = .returned (.bool (Or.r6 x a b)) ∧ Below w.heap.size w w' := by
  have hl1 := hq.xin.ev.le; have hl2 := hq.xin.ev.max
  obtain ⟨e, he⟩ : ∃ e, x.ev[a]? = some e := ⟨_, List.getElem?_eq_getElem ha⟩
  obtain ⟨f, hf⟩ : ∃ f, x.ev[b]? = some f := ⟨_, List.getElem?_eq_getElem hb⟩
  obtain ⟨g, o, eg, hce⟩ := hq.xin.ev.at_ he
  obtain ⟨g', o', eg', hcf⟩ := hq.xin.ev.at_ hf
  obtain ⟨rfl, rfl⟩ : g' = g ∧ o' = o := by rw [eg] at eg'; cases eg'; exact ⟨rfl, rfl⟩
  have HE := Lib.hid (Ev.nth_some he); have HF := Lib.hid (Ev.nth_some hf)
  have HEO := Lib.hid (hq.xin.ev.ok_ he); have HFO := Lib.hid (hq.xin.ev.ok_ hf)
  have HQ := Lib.hid hq
  have HCE := Lib.hid (show ∀ W, Below w.heap.size w W → ∀ i c, (Ev.cells e)[i]? = some c → W.cell? ⟨g', o' + a * 13 + i, none⟩ = some c from fun W h i c hi => Ev.kp_below h _ _ (hce i c hi))
  have HCF := Lib.hid (show ∀ W, Below w.heap.size w W → ∀ i c, (Ev.cells f)[i]? = some c → W.cell? ⟨g', o' + b * 13 + i, none⟩ = some c from fun W h i c hi => Ev.kp_below h _ _ (hcf i c hi))
  have hai : (a : Int) < (x.ev.length : Int) := by omega
  have hbi : (b : Int) < (x.ev.length : Int) := by omega
  have CX := Lib.hid (show ∀ W, Below w.heap.size w W → W.cell? ⟨q, 0, none⟩ = some (.slice (some ⟨g', o', none⟩) x.ev.length x.ce) from fun W h => by
    rw [← eg]; exact (hq.kp h).c0)
  have cx := CX.out w (Below.refl _ _)
  have W0 := Lib.hid (Below.refl w.heap.size w)
  clear hq he hf eg eg' hce hcf
  have HRES := Lib.hid (show Or.r6 x a b = f.l by unfold Or.r6; rw [HF.out])
  have cc : w.cell? ⟨g', o' + b * 13 + 6, none⟩ = some (.bool f.l) := HCF.out w W0.out 6 _ rfl
  go_enter Tryz.func129, Tryz.ntmps129
  go_wp2_with fail
  go_ret
  exact ⟨by rw [HRES.out]; try rfl, W0.out⟩
set_option maxRecDepth 100000 in
set_option maxHeartbeats 4000000 in
theorem r7_any (x : Ev.X) (q a b : Nat) (ha : a < x.ev.length) (hb : b < x.ev.length) (w : World) (hq : Or.As w q x) :
    Calls Tryz.prog 130 #[.pointer (some ⟨q, 0, none⟩), .int .i64 (a : Int), .int .i64 (b : Int)] w fun r w' => r = .returned (.bool (Or.r7 x a b)) ∧ Below w.heap.size w w' := by
  have hl1 := hq.xin.ev.le; have hl2 := hq.xin.ev.max
  obtain ⟨e, he⟩ : ∃ e, x.ev[a]? = some e := ⟨_, List.getElem?_eq_getElem ha⟩
  obtain ⟨f, hf⟩ : ∃ f, x.ev[b]? = some f := ⟨_, List.getElem?_eq_getElem hb⟩
  obtain ⟨g, o, eg, hce⟩ := hq.xin.ev.at_ he
  obtain ⟨g', o', eg', hcf⟩ := hq.xin.ev.at_ hf
  obtain ⟨rfl, rfl⟩ : g' = g ∧ o' = o := by rw [eg] at eg'; cases eg'; exact ⟨rfl, rfl⟩
  have HE := Lib.hid (Ev.nth_some he); have HF := Lib.hid (Ev.nth_some hf)
  have HEO := Lib.hid (hq.xin.ev.ok_ he); have HFO := Lib.hid (hq.xin.ev.ok_ hf)
  have HQ := Lib.hid hq
  have HCE := Lib.hid (show ∀ W, Below w.heap.size w W → ∀ i c, (Ev.cells e)[i]? = some c → W.cell? ⟨g', o' + a * 13 + i, none⟩ = some c from fun W h i c hi => Ev.kp_below h _ _ (hce i c hi))
  have HCF := Lib.hid (show ∀ W, Below w.heap.size w W → ∀ i c, (Ev.cells f)[i]? = some c → W.cell? ⟨g', o' + b * 13 + i, none⟩ = some c from fun W h i c hi => Ev.kp_below h _ _ (hcf i c hi))
  have hai : (a : Int) < (x.ev.length : Int) := by omega
  have hbi : (b : Int) < (x.ev.length : Int) := by omega
  have CX := Lib.hid (show ∀ W, Below w.heap.size w W → W.cell? ⟨q, 0, none⟩ = some (.slice (some ⟨g', o', none⟩) x.ev.length x.ce) from fun W h => by
    rw [← eg]; exact (hq.kp h).c0)
  have cx := CX.out w (Below.refl _ _)
  have W0 := Lib.hid (Below.refl w.heap.size w)
  clear hq he hf eg eg' hce hcf
  obtain ⟨s, hs⟩ : ∃ s, Or.mark e = s := ⟨_, rfl⟩
  have HS := Lib.hid hs
  obtain ⟨t, ht⟩ : ∃ s, Or.mark f = s := ⟨_, rfl⟩
  have HT := Lib.hid ht
  have HRES := Lib.hid (show Or.r7 x a b = (s && t) by unfold Or.r7; rw [HE.out, HF.out, hs, ht])
  clear hs ht
  go_enter Tryz.func130, Tryz.ntmps130
  go_wp2_with ((with_reducible show wpList _ _ _ (Oper.mk (some 14) _ _ _ _ _ :: _) _ _); refine wpList_load_at rfl 48 (.tmp 13) rfl g' (o' + a * 13) (by kernel_rfl) (Ev.cells e) _ (HCE.out _ (W0.out)) Tryz.underlying48 rfl (by kernel_rfl) ?_)
  refine (mark_is HS.out _).mono ?_
  rintro r W1 ⟨rfl, hb1⟩
  have B1 := Lib.hid (W0.out.trans (hb1.mono (W0.out).size))
  clear hb1
  have c1 := CX.out W1 B1.out
  clear cx
  cases s
  · go_wp2_with fail
    go_ret
    exact ⟨by rw [HRES.out]; try rfl, B1.out⟩
  go_wp2_with ((with_reducible show wpList _ _ _ (Oper.mk (some 24) _ _ _ _ _ :: _) _ _); refine Ev.load_at_g 48 (.tmp 23) rfl rfl g' (o' + b * 13) (by kernel_rfl) (Ev.cells f) _ (HCF.out _ (B1.out)) Tryz.underlying48 rfl (by kernel_rfl) ?_)
  refine (mark_is HT.out _).mono ?_
  rintro r W2 ⟨rfl, hb2⟩
  have B2 := Lib.hid (B1.out.trans (hb2.mono (B1.out).size))
  clear hb2
  go_wp2_with fail
  go_ret
  exact ⟨by rw [HRES.out]; try rfl, B2.out⟩
set_option maxRecDepth 100000 in
set_option maxHeartbeats 4000000 in
theorem r9_any (x : Ev.X) (q a b : Nat) (ha : a < x.ev.length) (hb : b < x.ev.length) (w : World) (hq : Or.As w q x) :
    Calls Tryz.prog 132 #[.pointer (some ⟨q, 0, none⟩), .int .i64 (a : Int), .int .i64 (b : Int)] w fun r w' => r = .returned (.bool (Or.r9 x a b)) ∧ Below w.heap.size w w' := by
  have hl1 := hq.xin.ev.le; have hl2 := hq.xin.ev.max
  obtain ⟨e, he⟩ : ∃ e, x.ev[a]? = some e := ⟨_, List.getElem?_eq_getElem ha⟩
  obtain ⟨f, hf⟩ : ∃ f, x.ev[b]? = some f := ⟨_, List.getElem?_eq_getElem hb⟩
  obtain ⟨g, o, eg, hce⟩ := hq.xin.ev.at_ he
  obtain ⟨g', o', eg', hcf⟩ := hq.xin.ev.at_ hf
  obtain ⟨rfl, rfl⟩ : g' = g ∧ o' = o := by rw [eg] at eg'; cases eg'; exact ⟨rfl, rfl⟩
  have HE := Lib.hid (Ev.nth_some he); have HF := Lib.hid (Ev.nth_some hf)
  have HEO := Lib.hid (hq.xin.ev.ok_ he); have HFO := Lib.hid (hq.xin.ev.ok_ hf)
  have HQ := Lib.hid hq
  have HCE := Lib.hid (show ∀ W, Below w.heap.size w W → ∀ i c, (Ev.cells e)[i]? = some c → W.cell? ⟨g', o' + a * 13 + i, none⟩ = some c from fun W h i c hi => Ev.kp_below h _ _ (hce i c hi))
  have HCF := Lib.hid (show ∀ W, Below w.heap.size w W → ∀ i c, (Ev.cells f)[i]? = some c → W.cell? ⟨g', o' + b * 13 + i, none⟩ = some c from fun W h i c hi => Ev.kp_below h _ _ (hcf i c hi))
  have hai : (a : Int) < (x.ev.length : Int) := by omega
  have hbi : (b : Int) < (x.ev.length : Int) := by omega
  have CX := Lib.hid (show ∀ W, Below w.heap.size w W → W.cell? ⟨q, 0, none⟩ = some (.slice (some ⟨g', o', none⟩) x.ev.length x.ce) from fun W h => by
    rw [← eg]; exact (hq.kp h).c0)
  have cx := CX.out w (Below.refl _ _)
  have W0 := Lib.hid (Below.refl w.heap.size w)
  clear hq he hf eg eg' hce hcf
  obtain ⟨p, hp⟩ : ∃ s, Or.has f.d1.l (a : Int) = s := ⟨_, rfl⟩
  have HP := Lib.hid hp
  have HRES := Lib.hid (show Or.r9 x a b = p by unfold Or.r9; rw [HF.out, hp])
  have cd : w.cell? ⟨g', o' + b * 13 + 10, none⟩ = some (.slice f.d1.a f.d1.l.length f.d1.c) := HCF.out w W0.out 10 _ rfl
  clear hp
  go_enter Tryz.func132, Tryz.ntmps132
  go_wp2_with fail
  refine (contains_is HP.out _ HFO.out.d1).mono ?_
  rintro r W1 ⟨rfl, rfl⟩
  go_wp2_with fail
  go_ret
  exact ⟨by rw [HRES.out]; try rfl, W0.out⟩
set_option maxRecDepth 100000 in
set_option maxHeartbeats 4000000 in
theorem r10_any (x : Ev.X) (q a b : Nat) (ha : a < x.ev.length) (hb : b < x.ev.length) (w : World) (hq : Or.As w q x) :
    Calls Tryz.prog 133 #[.pointer (some ⟨q, 0, none⟩), .int .i64 (a : Int), .int .i64 (b : Int)] w fun r w' => r = .returned (.bool (Or.r10 x a b)) ∧ Below w.heap.size w w' := by
  have hl1 := hq.xin.ev.le; have hl2 := hq.xin.ev.max
  obtain ⟨e, he⟩ : ∃ e, x.ev[a]? = some e := ⟨_, List.getElem?_eq_getElem ha⟩
  obtain ⟨f, hf⟩ : ∃ f, x.ev[b]? = some f := ⟨_, List.getElem?_eq_getElem hb⟩
  obtain ⟨g, o, eg, hce⟩ := hq.xin.ev.at_ he
  obtain ⟨g', o', eg', hcf⟩ := hq.xin.ev.at_ hf
  obtain ⟨rfl, rfl⟩ : g' = g ∧ o' = o := by rw [eg] at eg'; cases eg'; exact ⟨rfl, rfl⟩
  have HE := Lib.hid (Ev.nth_some he); have HF := Lib.hid (Ev.nth_some hf)
  have HEO := Lib.hid (hq.xin.ev.ok_ he); have HFO := Lib.hid (hq.xin.ev.ok_ hf)
  have HQ := Lib.hid hq
  have HCE := Lib.hid (show ∀ W, Below w.heap.size w W → ∀ i c, (Ev.cells e)[i]? = some c → W.cell? ⟨g', o' + a * 13 + i, none⟩ = some c from fun W h i c hi => Ev.kp_below h _ _ (hce i c hi))
  have HCF := Lib.hid (show ∀ W, Below w.heap.size w W → ∀ i c, (Ev.cells f)[i]? = some c → W.cell? ⟨g', o' + b * 13 + i, none⟩ = some c from fun W h i c hi => Ev.kp_below h _ _ (hcf i c hi))
  have hai : (a : Int) < (x.ev.length : Int) := by omega
  have hbi : (b : Int) < (x.ev.length : Int) := by omega
  have CX := Lib.hid (show ∀ W, Below w.heap.size w W → W.cell? ⟨q, 0, none⟩ = some (.slice (some ⟨g', o', none⟩) x.ev.length x.ce) from fun W h => by
    rw [← eg]; exact (hq.kp h).c0)
  have cx := CX.out w (Below.refl _ _)
  have W0 := Lib.hid (Below.refl w.heap.size w)
  clear hq he hf eg eg' hce hcf
  obtain ⟨p, hp⟩ : ∃ s, Or.has f.d2.l (a : Int) = s := ⟨_, rfl⟩
  have HP := Lib.hid hp
  have HRES := Lib.hid (show Or.r10 x a b = p by unfold Or.r10; rw [HF.out, hp])
  have cd : w.cell? ⟨g', o' + b * 13 + 11, none⟩ = some (.slice f.d2.a f.d2.l.length f.d2.c) := HCF.out w W0.out 11 _ rfl
  clear hp
  go_enter Tryz.func133, Tryz.ntmps133
  go_wp2_with fail
  refine (contains_is HP.out _ HFO.out.d2).mono ?_
  rintro r W1 ⟨rfl, rfl⟩
  go_wp2_with fail
  go_ret
  exact ⟨by rw [HRES.out]; try rfl, W0.out⟩
set_option maxRecDepth 100000 in
set_option maxHeartbeats 4000000 in
theorem r11_any (x : Ev.X) (q a b : Nat) (ha : a < x.ev.length) (hb : b < x.ev.length) (w : World) (hq : Or.As w q x) :
    Calls Tryz.prog 134 #[.pointer (some ⟨q, 0, none⟩), .int .i64 (a : Int), .int .i64 (b : Int)] w fun r w' => r = .returned (.bool (Or.r11 x a b)) ∧ Below w.heap.size w w' := by
  have hl1 := hq.xin.ev.le; have hl2 := hq.xin.ev.max
  obtain ⟨e, he⟩ : ∃ e, x.ev[a]? = some e := ⟨_, List.getElem?_eq_getElem ha⟩
  obtain ⟨f, hf⟩ : ∃ f, x.ev[b]? = some f := ⟨_, List.getElem?_eq_getElem hb⟩
  obtain ⟨g, o, eg, hce⟩ := hq.xin.ev.at_ he
  obtain ⟨g', o', eg', hcf⟩ := hq.xin.ev.at_ hf
  obtain ⟨rfl, rfl⟩ : g' = g ∧ o' = o := by rw [eg] at eg'; cases eg'; exact ⟨rfl, rfl⟩
  have HE := Lib.hid (Ev.nth_some he); have HF := Lib.hid (Ev.nth_some hf)
  have HEO := Lib.hid (hq.xin.ev.ok_ he); have HFO := Lib.hid (hq.xin.ev.ok_ hf)
  have HQ := Lib.hid hq
  have HCE := Lib.hid (show ∀ W, Below w.heap.size w W → ∀ i c, (Ev.cells e)[i]? = some c → W.cell? ⟨g', o' + a * 13 + i, none⟩ = some c from fun W h i c hi => Ev.kp_below h _ _ (hce i c hi))
  have HCF := Lib.hid (show ∀ W, Below w.heap.size w W → ∀ i c, (Ev.cells f)[i]? = some c → W.cell? ⟨g', o' + b * 13 + i, none⟩ = some c from fun W h i c hi => Ev.kp_below h _ _ (hcf i c hi))
  have hai : (a : Int) < (x.ev.length : Int) := by omega
  have hbi : (b : Int) < (x.ev.length : Int) := by omega
  have CX := Lib.hid (show ∀ W, Below w.heap.size w W → W.cell? ⟨q, 0, none⟩ = some (.slice (some ⟨g', o', none⟩) x.ev.length x.ce) from fun W h => by
    rw [← eg]; exact (hq.kp h).c0)
  have cx := CX.out w (Below.refl _ _)
  have W0 := Lib.hid (Below.refl w.heap.size w)
  clear hq he hf eg eg' hce hcf
  obtain ⟨s, hs⟩ : ∃ s, Ev.stores f.k = s := ⟨_, rfl⟩
  have HS := Lib.hid hs
  obtain ⟨p, hp⟩ : ∃ s, Or.has f.d3.l (a : Int) = s := ⟨_, rfl⟩
  have HP := Lib.hid hp
  have HRES := Lib.hid (show Or.r11 x a b = (s && p) by unfold Or.r11; rw [HF.out, hs, hp])
  clear hs hp
  go_enter Tryz.func134, Tryz.ntmps134
  go_wp2_with ((with_reducible show wpList _ _ _ (Oper.mk (some 14) _ _ _ _ _ :: _) _ _); refine wpList_load_at rfl 48 (.tmp 13) rfl g' (o' + b * 13) (by kernel_rfl) (Ev.cells f) _ (HCF.out _ (W0.out)) Tryz.underlying48 rfl (by kernel_rfl) ?_)
  refine (ostores_is HS.out _).mono ?_
  rintro r W1 ⟨rfl, hb1⟩
  have B1 := Lib.hid (W0.out.trans (hb1.mono (W0.out).size))
  clear hb1
  have c1 := CX.out W1 B1.out
  have cd : W1.cell? ⟨g', o' + b * 13 + 12, none⟩ = some (.slice f.d3.a f.d3.l.length f.d3.c) := HCF.out W1 B1.out 12 _ rfl
  clear cx
  cases s
  · go_wp2_with fail
    go_ret
    exact ⟨by rw [HRES.out]; try rfl, B1.out⟩
  go_wp2_with fail
  refine (contains_is HP.out _ (HFO.out.d3.kp (Ev.kp_below B1.out))).mono ?_
  rintro r W2 ⟨rfl, rfl⟩
  go_wp2_with fail
  go_ret
  exact ⟨by rw [HRES.out]; try rfl, B1.out⟩
theorem r9_is {x : Ev.X} {q a b : Nat} {v : Bool} (h : Or.r9 x a b = v) (ha : a < x.ev.length) (hb : b < x.ev.length) (w : World) (hq : Or.As w q x) :
    Calls Tryz.prog 132 #[.pointer (some ⟨q, 0, none⟩), .int .i64 (a : Int), .int .i64 (b : Int)] w fun r w' => r = .returned (.bool v) ∧ Below w.heap.size w w' := h ▸ r9_any x q a b ha hb w hq
theorem r10_is {x : Ev.X} {q a b : Nat} {v : Bool} (h : Or.r10 x a b = v) (ha : a < x.ev.length) (hb : b < x.ev.length) (w : World) (hq : Or.As w q x) :
    Calls Tryz.prog 133 #[.pointer (some ⟨q, 0, none⟩), .int .i64 (a : Int), .int .i64 (b : Int)] w fun r w' => r = .returned (.bool v) ∧ Below w.heap.size w w' := h ▸ r10_any x q a b ha hb w hq
end Go.Proofs.YtecnnkidalkmfaaGreat
end
