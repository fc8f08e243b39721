import Derived.Test.YtnjnpbabgefaeaaGreatKd42
import Derived.Test.YtnjnpbabgefaeaaGreatKd43
import Derived.Test.YtnjnpbabgefaeaaGreatKd38
import Derived.Test.YtnjnpbabgefaeaaGreatKd25
import Derived.Test.YtnjnpbabgefaeaaGreatKd22
import Derived.Test.YtnjnpbabgefaeaaGreatKd04
import Derived.Test.YtnjnpbabgefaeaaGreatKd37
import Derived.Test.YtnjnpbabgefaeaaGreatKd03
import Derived.Test.YtnjnpbabgefaeaaGreatKd39
set_option linter.unusedVariables false
set_option linter.unusedSimpArgs false

section
namespace Go.Proofs.YtnjnpbabgefaeaaGreat
open Go.RowKit
theorem rcheck_is {x : Ev.X} {v : Int} (h : Ev.check x = v) (w : World) (hin : Ev.XIn w x) : Calls Tryz.prog 12 #[.agg (Ev.xcells x).toArray] w fun e w' => e = .returned (.int .i64 v) ∧ Below w.heap.size w w' := h ▸ rcheck_any x w hin
theorem ppo_pl {x : Ev.X} (hc : Ev.check x = 0) : Ev.pl (Or.ppo x) x.ev.length x.ev.length = Ev.pl (Ev.isPpo x) x.ev.length x.ev.length := by
  refine Or.pl_congr fun a b ha hb => ?_
  unfold Or.ppo Ev.isPpo
  rw [Or.hold_eq hc ha hb, Bool.eq_iff_iff]
  simp only [Bool.not_eq_true', List.isEmpty_eq_false_iff_exists_mem, List.mem_filter, List.mem_range, Bool.and_eq_true, decide_eq_true_eq, List.any_eq_true]
  constructor
  · rintro ⟨i, h1, h2, h3⟩
    exact ⟨i - 1, by omega, by rw [show i - 1 + 1 = i by omega]; exact h3⟩
  · rintro ⟨i, h1, h2⟩
    exact ⟨i + 1, by omega, by omega, h2⟩
end Go.Proofs.YtnjnpbabgefaeaaGreat
end

section
namespace Go.Proofs.YtnjnpbabgefaeaaGreat
open Go.RowKit
namespace Md
open Ev
def exe (x : X) : Exe where
  n := x.ev.length
  ac := fun a => a < x.ev.length ∧ (nth x.ev a).k ≠ 4
  st := fun a => a < x.ev.length ∧ stores (nth x.ev a).k = true
  ld := fun a => a < x.ev.length ∧ loads (nth x.ev a).k = true
  h := fun a => (nth x.ev a).h
  ad := fun a => (nth x.ev a).a
  pl := fun a => place x a
  rf := fun a => (frAt x a).toNat
  ppo := fun a b => a < x.ev.length ∧ b < x.ev.length ∧ isPpo x a b = true
theorem k_some {k : Int} (h : 1 ≤ k ∧ k ≤ 5) (h4 : k ≠ 4) : stores k = true ∨ loads k = true := by
  have : k = 1 ∨ k = 2 ∨ k = 3 ∨ k = 5 := by omega
  rcases this with rfl | rfl | rfl | rfl
  · exact .inr rfl
  · exact .inl rfl
  · exact .inl rfl
  · exact .inl rfl
theorem from_ok {x : X} (hc : check x = 0) {a : Nat} (ha : a < x.ev.length) (hl : loads (nth x.ev a).k = true) :
    ∃ f : Nat, f < x.ev.length ∧ frAt x a = f ∧ stores (nth x.ev f).k = true ∧ (nth x.ev f).a = (nth x.ev a).a ∧ f ≠ a ∧ (nth x.ev f).v = (nth x.ev a).r := by
  obtain ⟨_, h2, _⟩ := check_order hc
  unfold fromOk at h2
  simp only [Bool.and_eq_true, beq_iff_eq, List.all_eq_true] at h2
  have h := h2.2 a (List.mem_range.2 ha)
  unfold fromAt at h
  rw [if_pos hl] at h
  unfold readOk inB at h
  simp only [Bool.and_eq_true, decide_eq_true_eq, beq_iff_eq, Bool.not_eq_true', beq_eq_false_iff_ne, bne_iff_ne] at h
  obtain ⟨⟨⟨⟨⟨h1, h2⟩, h3⟩, h4⟩, h5⟩, h6⟩ := h
  have e : (((x.fr.l.getD a 0).toNat : Nat) : Int) = x.fr.l.getD a 0 := by omega
  refine ⟨(x.fr.l.getD a 0).toNat, by omega, by unfold frAt; omega, by rw [e]; exact h4, by rw [e]; first | exact h5 | exact h5.symm, fun e2 => ?_, by rw [e]; first | exact h6 | exact h6.symm⟩
  apply h3
  omega
theorem rule_1 {x : X} {a b : Nat} (hp : isPo x a b = true) (h4 : (nth x.ev a).k ≠ 4) (hs : stores (nth x.ev b).k = true) (he : (nth x.ev a).a = (nth x.ev b).a) : isPpo x a b = true := by
  unfold isPpo
  refine List.any_eq_true.2 ⟨0, by decide, ?_⟩
  unfold rule
  rw [if_neg]
  · show ((nth x.ev a).a == (nth x.ev b).a && stores (nth x.ev b).k) = true
    rw [hs, he]; simp
  · rintro (h | h | h)
    · rw [hp] at h; cases h
    · exact h4 h
    · rw [h] at hs; cases hs
theorem rule_2 {x : X} {a b : Nat} (hp : isPo x a b = true) (ha : loads (nth x.ev a).k = true) (hb : loads (nth x.ev b).k = true) (he : (nth x.ev a).a = (nth x.ev b).a) (hf : frAt x a ≠ frAt x b)
    (hm : ∀ m : Nat, a < m → m < b → ¬ (stores (nth x.ev m).k = true ∧ (nth x.ev m).a = (nth x.ev a).a)) : isPpo x a b = true := by
  unfold isPpo
  refine List.any_eq_true.2 ⟨1, by decide, ?_⟩
  unfold rule
  rw [if_neg]
  · show ruleOf x 2 a b = true
    rw [rule2_is, ha, hb, he]
    simp only [beq_self_eq_true, Bool.true_and, Bool.and_eq_true, Bool.not_eq_true', beq_eq_false_iff_ne, List.all_eq_true]
    refine ⟨hf, fun m hmm => ?_⟩
    have h2 : a < m ∧ m < b := by
      unfold upTo at hmm
      obtain ⟨i, hi, rfl⟩ := List.mem_map.1 hmm
      have := List.mem_range.1 hi
      omega
    have h3 := hm m h2.1 h2.2
    unfold cl
    cases hs : stores (nth x.ev m).k
    · rfl
    · have : ((nth x.ev m).a == (nth x.ev a).a) = false := by rw [beq_eq_false_iff_ne]; exact fun e => h3 ⟨hs, e⟩
      rw [this]; rfl
  · rintro (h | h | h)
    · rw [hp] at h; cases h
    · rw [h] at ha; cases ha
    · rw [h] at hb; cases hb
theorem ppo_parts {x : X} {a b : Nat} (h : isPpo x a b = true) : isPo x a b = true ∧ (nth x.ev a).k ≠ 4 ∧ (nth x.ev b).k ≠ 4 := by
  unfold isPpo at h
  obtain ⟨i, _, hi⟩ := List.any_eq_true.1 h
  unfold rule at hi
  by_cases hno : isPo x a b = false ∨ (nth x.ev a).k = 4 ∨ (nth x.ev b).k = 4
  · rw [if_pos hno] at hi; cases hi
  · refine ⟨?_, fun e => hno (.inr (.inl e)), fun e => hno (.inr (.inr e))⟩
    cases hp : isPo x a b
    · exact absurd (.inl hp) hno
    · rfl
theorem po_iff {x : X} {a b : Nat} : isPo x a b = true ↔ (exe x).po a b := by
  unfold isPo Exe.po exe
  simp only [Bool.and_eq_true, decide_eq_true_eq, beq_iff_eq]
  exact ⟨fun h => ⟨h.1.1, h.1.2, h.2⟩, fun h => ⟨⟨h.1, h.2.1⟩, h.2.2⟩⟩
theorem beg_place {x : X} (hc : check x = 0) {b m : Nat} (hb : b < x.ev.length) (hm : m < x.ev.length) (h5 : (nth x.ev b).k = 5) (hs : stores (nth x.ev m).k = true) (he : (nth x.ev m).a = (nth x.ev b).a) (hne : m ≠ b) : place x b < place x m := by
  have hv := ev_all hc
  have hsb : stores (nth x.ev b).k = true := by rw [h5]; rfl
  obtain ⟨i, s, v, h1, h2, h3, h4, hp⟩ := place_at hc hb hsb
  obtain ⟨j, t, u, k1, k2, k3, k4, kp⟩ := place_at hc hm hs
  have hbb := five_lt hv hb h5
  have hib : i = b := beg_inj hv h2 hbb h3
  have hji : j = i := beg_inj hv k2 h2 (by rw [k3, h3, he])
  subst hib
  subst hji
  rw [h1] at k1
  obtain rfl : s = t := Option.some.inj k1
  have hrow : s.l[0]? = some (j : Int) := by
    obtain ⟨ho, _, _⟩ := check_order hc
    unfold orderOk at ho
    simp only [Bool.and_eq_true, List.all_eq_true] at ho
    have := ho.2 j (List.mem_range.2 (List.getElem?_eq_some_iff.1 h1).1)
    unfold orderAt at this
    rw [h1] at this
    simp only [Bool.and_eq_true, beq_iff_eq] at this
    have h0 := this.1.2
    have hpos : 0 < s.l.length := by have := (List.getElem?_eq_some_iff.1 h4).1; omega
    rw [List.getElem?_eq_getElem hpos]
    rw [List.getD_eq_getElem?_getD, List.getElem?_eq_getElem hpos] at h0
    simpa using h0
  obtain ⟨_, _, hd, _⟩ := od_at hc h1
  have hv0 : v = 0 := ((List.getElem?_inj (List.getElem?_eq_some_iff.1 h4).1 hd).1 (h4.trans hrow.symm))
  have hu0 : u ≠ 0 := fun e => by
    rw [e, hrow] at k4
    have := Option.some.inj k4
    omega
  rw [hp, kp]; omega
theorem exe_ok {x : X} (hc : check x = 0) : (exe x).Ok where
  stac := fun {a} h => ⟨h.1, fun e => by have := h.2; rw [e] at this; cases this⟩
  ldac := fun {a} h => ⟨h.1, fun e => by have := h.2; rw [e] at this; cases this⟩
  some_ := fun {a} h => (k_some (ev_ok hc h.1).k h.2).imp (fun e => ⟨h.1, e⟩) (fun e => ⟨h.1, e⟩)
  lt := fun h => h.1
  inj := fun {a b} ha hb he hp => place_inj hc ha.1 hb.1 ha.2 hb.2 he hp
  rfst := fun {a} h => by
    obtain ⟨f, hf, e, hs, hae, hne, _⟩ := from_ok hc h.1 h.2
    have : (exe x).rf a = f := by show (frAt x a).toNat = f; omega
    rw [this]
    exact ⟨⟨hf, hs⟩, hae, hne⟩
  beg0 := fun {b m} hb hh hm he hne => by
    have h5 : (nth x.ev b).k = 5 := by
      apply Classical.byContradiction; intro h5
      have := (ev_ok hc hb.1).h0 h5
      have hh : (nth x.ev b).h < 0 := hh
      omega
    exact beg_place hc hb.1 hm.1 h5 hm.2 he hne
  ldh := fun {a} h => (ev_ok hc h.1).h0 (fun e => by have := h.2; rw [e] at this; cases this)
  mid := fun {a b m} h1 h2 h3 hh => by
    have h3 : b < x.ev.length := h3
    have hh : (nth x.ev a).h = (nth x.ev b).h := hh
    have e1 := hart_le hc (i := a) m (by omega) (by omega)
    have e2 := hart_le hc (i := m) b (by omega) h3
    show (nth x.ev m).h = (nth x.ev a).h
    omega
  ppo_po := fun {a b} h => by
    obtain ⟨h1, h2, h3⟩ := ppo_parts h.2.2
    exact ⟨po_iff.1 h1, ⟨h.1, h2⟩, ⟨h.2.1, h3⟩⟩
  r1 := fun {a b} hp ha hb he => ⟨ha.1, hb.1, rule_1 (po_iff.2 hp) ha.2 hb.2 he⟩
  r2 := fun {a b} hp ha hb he hf hm => ⟨ha.1, hb.1, rule_2 (po_iff.2 hp) ha.2 hb.2 he (fun e => hf (by show (frAt x a).toNat = (frAt x b).toNat; rw [e])) fun m h1 h2 h3 => hm m h1 h2 ⟨⟨by have := hb.1; omega, h3.1⟩, h3.2⟩⟩
end Md
end Go.Proofs.YtnjnpbabgefaeaaGreat
end

section
namespace Go.Proofs.YtnjnpbabgefaeaaGreat
open Go.RowKit Go.Maps Go.WideElems
namespace Md
structure KIn (cb b n : Nat) (S : List (Nat × Nat)) (W : World) : Prop where
  box : W.cell? ⟨cb, 0, none⟩ = some (.map (some b))
  set : PSet W b n S
def kst (S : List (Nat × Nat)) (ss : List (Nat × Nat)) (p : Nat × Nat) (ss' : List (Nat × Nat)) : Prop := p ∈ S ∧ p ∉ ss ∧ ss.Nodup ∧ (∀ q ∈ ss, q ∈ S) ∧ ss' = ss ++ [p]
def kfin (S : List (Nat × Nat)) (ss : List (Nat × Nat)) : Prop := ss.Nodup ∧ ∀ p, p ∈ ss ↔ p ∈ S
theorem lit_of {S : List (Nat × Nat)} {D : DataW Unit} (h : ∀ l, Maps.has D l = true → ∃ p ∈ S, l = plit p) (hlt : ∀ p ∈ S, p.1 < 64 ∧ p.2 < 64) {x : Int × Int} {kl : Lit} {y : DataW Unit}
    (hk : keyOf Tryz.prog 72 (.agg #[.int .i64 x.1, .int .i64 x.2]) = some kl) (ha : ∀ zd, D.atKey kl zd = y) : ∃ p ∈ S, kl = plit p ∧ x = ((p.1 : Int), (p.2 : Int)) := by
  obtain ⟨p, hp, rfl⟩ := h kl (Maps.has_true_of_atKey ha)
  have e := law_pair.inj hk (key_mk (hlt p hp))
  simp [pkV] at e
  exact ⟨p, hp, rfl, Prod.ext e.1 e.2⟩
end Md
set_option maxRecDepth 100000 in
set_option maxHeartbeats 4000000 in
theorem keys_iter (m : Nat) (hm : 1 ≤ m) (cb b n : Nat) (S : List (Nat × Nat)) :
    Og.IterS Fence.wide m Tryz.prog 89 #[.pointer (some ⟨cb, 0, none⟩)] (Md.KIn cb b n S) (fun p : Nat × Nat => #[Md.pkV p]) (Md.kst S) [] (Md.kfin S) := by
  intro l J Jx W hst hgr hgx hR hL hY h0
  have hk0 := hR _ _ h0
  obtain ⟨D, ho, hD⟩ := hk0.set.ex
  have hlt := hk0.set.lt
  have c1 := hk0.box
  obtain ⟨lq, hlq⟩ := hL
  have hbl : b ≠ l := fun e => by
    obtain ⟨es, clock, hb, _⟩ := ho
    rw [e, hlq] at hb; cases hb
  have hll : l < W.heap.size := (Array.getElem?_eq_some_iff.1 hlq).1
  have HST := Lib.hid hst; have HG := Lib.hid hgr; have HGX := Lib.hid hgx; have HY := Lib.hid hY; have H0 := Lib.hid h0; have HD := Lib.hid hD; have HO := Lib.hid ho; have HLT := Lib.hid hlt; have HBL := Lib.hid hbl; have HLL := Lib.hid hll
  clear hst hgr hgx hR hlq hY h0 hk0 hD ho hlt hbl hll
  refine callsIn_of_wp Tryz.func89 rfl trivial ?_ rfl
  simp only [Tryz.ntmps89, List.size_toArray, List.length_cons, List.length_nil, Nat.reduceAdd, Nat.reduceSub, Array.replicate_succ, Array.replicate_zero, List.push_toArray, List.append_toArray, List.nil_append, List.cons_append]
  gi_wp2_with (gi_at_range; refine wpListIn_range_own _ rfl _ 77 rfl 72 94 Md.law_pair Tryz.underlying77 unitElem b n D rfl HO.out ?_; intro w0 hrg0 hg0 hs0; have HRG0 := Lib.hid hrg0; have HG0 := Lib.hid hg0; clear hrg0 hg0 hs0)
  try go_frame
  clear c1
  gi_loopw [3] (fun _ wr => ∃ (left : Lit → Bool) (cnt : Nat) (ss : List (Nat × Nat)), wr.ranges Tryz.prog 72 unitElem b W.heap.size n D left cnt ∧ Md.Met S left ss ∧ J ss wr) (fun _ wr => wr.rangeLeft b W.heap.size)
  case atStart =>
    exact ⟨_, _, [], HRG0.out, Md.Met.start HD.out.1 HLT.out, HST.out _ _ _ H0.out ⟨HG0.out.os, HG0.out.tape, HG0.out.output, HG0.out.size, fun i hi => HG0.out.block i hi (by simp)⟩⟩
  case round =>
    obtain ⟨left, cnt, ss, hrg, hM, hJs⟩ := hrel
    have HRG := Lib.hid hrg; have HM := Lib.hid hM; have HJ := Lib.hid hJs
    clear hrg hM hJs
    gi_wp2_with (gi_at_next; refine wpListIn_next_ranges _ rfl _ rfl 72 Md.law_pair unitElem (fun x : Int × Int => .agg #[.int .i64 x.1, .int .i64 x.2]) (fun _ : Unit => .agg #[]) (fun key kl hk => Md.key_inv hk) (fun v y hv => ⟨(), (unitElem_inv hv).1⟩) b W.heap.size n _ _ _ rfl HRG.out ?_ ?_)
    · intro hc0 hl0
      have HL0 := Lib.hid hl0
      clear hc0 hl0
      gi_wp2_with fail
      go_end0
      exact ⟨⟨_, rfl⟩, .inl ⟨ss, ⟨HM.out.nd, HM.out.all HL0.out⟩, HJ.out⟩⟩
    · intro x1 x2 kl yd yp w2 cnt2 hkey hlk hv hat hrg2 hlt2 hg2 hs2 hen
      obtain ⟨p, hp, rfl, hxe⟩ := Md.lit_of (x := (x1, x2)) HD.out.2 HLT.out hkey hat
      obtain ⟨rfl, rfl⟩ := Prod.mk.inj hxe
      have HM2 := Lib.hid (HM.out.step HLT.out hp hlk)
      obtain ⟨oit, hoit, hoc⟩ : ∃ o, wr.heap[W.heap.size]? = some o ∧ o.isCells = false := by
        obtain ⟨es, clock, since, seen, c0, _, _, _, _, hr, _⟩ := HRG.out
        exact ⟨_, hr, rfl⟩
      have HJ2 := Lib.hid (HG.out ss wr w2 W.heap.size oit HJ.out (Nat.le_refl _) hoit hoc hg2)
      have HPS := Lib.hid hp
      have HRG2 := Lib.hid hrg2; have HLT2 := Lib.hid hlt2; have HG2 := Lib.hid hg2
      clear hkey hlk hv hat hrg2 hlt2 hg2 hs2 hoit hoc hp
      obtain ⟨W1, hW1⟩ : ∃ W1, W1 = w2.alloc (.cells #[.int .i64 (p.1 : Int), .int .i64 (p.2 : Int)] 72) := ⟨_, rfl⟩
      obtain ⟨fn, tmps, assign, body, hy, hRd⟩ := HY.out ss p _ W1 ⟨HPS.out, HM2.out.1, HM.out.nd, HM.out.sub, rfl⟩ (HST.out _ _ _ HJ2.out (by rw [hW1]; exact (Below.refl _ _).alloc (Nat.le_refl _) _))
      rw [hW1] at hy
      have HW1 := Lib.hid hW1; clear hW1
      have hy : Sem.run Tryz.prog (Instr.yield l #[.agg #[.int .i64 (p.1 : Int), .int .i64 (p.2 : Int)]]) (w2.alloc (.cells #[.int .i64 (p.1 : Int), .int .i64 (p.2 : Int)] 72)) = Result.ok (Next.round l fn tmps assign body) (w2.alloc (.cells #[.int .i64 (p.1 : Int), .int .i64 (p.2 : Int)] 72)) := hy
      gi_wp2_with fail
      rw [← HW1.out]
      refine hRd.mono ?_
      rintro e W3 ⟨hkb, hsz, (⟨rfl, hJ3⟩ | ⟨rfl, hJx3⟩)⟩
      · have HRG3 := Lib.hid (show W3.ranges Tryz.prog 72 unitElem b W.heap.size n D (fun z => left z && !z.sameKey (Md.plit p)) cnt2 by
          have hrg := HRG2.out.alloc (.cells #[.int .i64 (p.1 : Int), .int .i64 (p.2 : Int)] 72)
          rw [← HW1.out] at hrg
          obtain ⟨es, clock, since, seen, c0, hb, F, hs, hDD, hr, rest⟩ := hrg
          exact ⟨es, clock, since, seen, c0, hkb b _ HBL.out hb rfl, F, hs, hDD, hkb _ _ (by have := HLL.out; omega) hr rfl, rest⟩)
        have HJ3 := Lib.hid hJ3; clear hJ3 hy hRd hkb hsz
        gi_wp2_with fail
        go_roundw
        case rel => exact ⟨_, cnt2, ss ++ [p], HRG3.out, HM2.out.2, HJ3.out⟩
        case measure => rw [HRG3.out.left_eq, HRG.out.left_eq]; exact HLT2.out
      · have HJ3 := Lib.hid hJx3; clear hJx3 hy hRd hkb hsz
        gi_wp2_with fail
        refine bodyPost_ret (results_none rfl _ _ _) rfl ?_
        exact ⟨⟨_, rfl⟩, .inr HJ3.out⟩
end Go.Proofs.YtnjnpbabgefaeaaGreat
end

section
namespace Go.Proofs.YtnjnpbabgefaeaaGreat
open Go.RowKit
namespace Md
open Ev
def gI (ps : List (Nat × Nat)) : List (Int × Int) := ps.map fun p => ((p.1 : Int), (p.2 : Int))
theorem mem_gI {ps : List (Nat × Nat)} {a b : Int} : (a, b) ∈ gI ps ↔ ∃ i j : Nat, (i, j) ∈ ps ∧ (i : Int) = a ∧ (j : Int) = b := by
  unfold gI
  simp only [List.mem_map, Prod.mk.injEq, Prod.exists]
theorem rk_gI {ps : List (Nat × Nat)} : Rk (gI ps) ↔ ∃ gr : Nat → Int, ∀ p ∈ ps, gr p.1 < gr p.2 := by
  constructor
  · rintro ⟨rank, h⟩
    exact ⟨fun a => rank a, fun p hp => h (p.1, p.2) (mem_gI.2 ⟨p.1, p.2, hp, rfl, rfl⟩)⟩
  · rintro ⟨gr, h⟩
    refine ⟨fun a => gr a.toNat, fun p hp => ?_⟩
    obtain ⟨i, j, hm, e1, e2⟩ := mem_gI.1 (show (p.1, p.2) ∈ gI ps from hp)
    rw [← e1, ← e2]
    simpa using h (i, j) hm
theorem mem_pl {is : Nat → Nat → Bool} {n a b : Nat} : (a, b) ∈ pl is n n ↔ a < n ∧ b < n ∧ is a b = true := pl_mem (p := (a, b))
def oneA (x : X) (p : Nat × Nat) : Bool := !((nth x.ev (p.1 : Int)).k == 4) && !((nth x.ev (p.2 : Int)).k == 4) && (nth x.ev (p.1 : Int)).a == (nth x.ev (p.2 : Int)).a
def cohL (x : X) : List (Nat × Nat) := let n := x.ev.length
  pl (isRf x) n n ++ pl (fun a b : Nat => isCo x (a : Int) (b : Int)) n n ++ pl (isFr x) n n ++ (pl (isPo x) n n).filter (oneA x)
theorem inR_pl {n : Nat} (hn : n ≤ 64) {ps : List (Nat × Nat)} (h : ∀ p ∈ ps, p.1 < n ∧ p.2 < n) : InR n (gI ps) := by
  refine ⟨by omega, by omega, fun p hp => ?_⟩
  obtain ⟨i, j, hm, e1, e2⟩ := mem_gI.1 (show (p.1, p.2) ∈ gI ps from hp)
  have := h _ hm
  simp only at this; omega
end Md
end Go.Proofs.YtnjnpbabgefaeaaGreat
end
