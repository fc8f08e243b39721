import Derived.Test.YtnjnpbabgefaeaaGreatKg38
import Derived.Test.YtnjnpbabgefaeaaGreatKg45
import Derived.Test.YtnjnpbabgefaeaaGreatKg03
import Derived.Test.YtnjnpbabgefaeaaGreatKg44
import Derived.Test.YtnjnpbabgefaeaaGreatKg26
import Derived.Test.YtnjnpbabgefaeaaGreatKg23
import Derived.Test.YtnjnpbabgefaeaaGreatKg04
import Derived.Test.YtnjnpbabgefaeaaGreatKg41
import Derived.Test.YtnjnpbabgefaeaaGreatKg19
import Derived.RangeFuncBox
import Derived.Deep.AppendLies
import Derived.StillTailTactics
import Derived.Shelf.SlSortCmp.NoneTotal
set_option linter.unusedVariables false
set_option linter.unusedSimpArgs false

section
namespace Go.Proofs.YtnjnpbabgefaeaaGreat
open Go.RowKit
namespace Md
open Ev
def Rk (ps : List (Int × Int)) : Prop := ∃ rank : Int → Int, ∀ p ∈ ps, rank p.1 < rank p.2
def Tp (n : Nat) (ps : List (Int × Int)) : Prop := ∃ l, Topo ps l ∧ ∀ x, 0 ≤ x → x < (n : Int) → x ∈ l
theorem topo_sorted {ps : List (Int × Int)} {rank : Int → Int} (hr : ∀ p ∈ ps, rank p.1 < rank p.2) : ∀ {l : List Int}, l.Pairwise (fun a b => rank a ≤ rank b) → (∀ p ∈ l, ∀ q, (p, q) ∈ ps → q ∈ l) → Topo ps l
  | [], _, _ => .nil
  | a :: l, hp, hc => by
    have hp := List.pairwise_cons.1 hp
    refine .cons (fun q hq => ?_) (topo_sorted hr hp.2 fun p hpl q hq => ?_)
    · rcases List.mem_cons.1 (hc a List.mem_cons_self q hq) with rfl | h
      · have := hr _ hq; simp only at this; omega
      · exact h
    · rcases List.mem_cons.1 (hc p (List.mem_cons_of_mem _ hpl) q hq) with rfl | h
      · have h1 := hr _ hq; have h2 := hp.1 p hpl; simp only at h1; omega
      · exact h
theorem rk_tp {n : Nat} {ps : List (Int × Int)} (hr : InR n ps) : Rk ps ↔ Tp n ps := by
  constructor
  · rintro ⟨rank, h⟩
    let le : Int → Int → Bool := fun a b => decide (rank a ≤ rank b)
    let l0 := (List.range n).map fun i : Nat => (i : Int)
    have hmem : ∀ x, x ∈ l0.mergeSort le ↔ 0 ≤ x ∧ x < (n : Int) := fun x => by
      rw [(List.mergeSort_perm l0 le).mem_iff]
      simp only [l0, List.mem_map, List.mem_range]
      constructor
      · rintro ⟨i, hi, rfl⟩; omega
      · rintro ⟨h1, h2⟩; exact ⟨x.toNat, by omega, by omega⟩
    refine ⟨l0.mergeSort le, topo_sorted h ?_ (fun p _ q hq => ?_), fun x h1 h2 => (hmem x).2 ⟨h1, h2⟩⟩
    · have := List.pairwise_mergeSort (le := le) (fun a b c h1 h2 => by simp only [le, decide_eq_true_eq] at *; omega) (fun a b => by simp only [le, Bool.or_eq_true, decide_eq_true_eq]; omega) l0
      exact this.imp fun h => of_decide_eq_true h
    · have := hr.2.2 _ hq
      exact (hmem q).2 ⟨this.2.2.1, this.2.2.2⟩
  · rintro ⟨l, ht, hl⟩
    obtain ⟨rank, h⟩ := ht.rank
    refine ⟨fun x => -(rank x : Int), fun p hp => ?_⟩
    have h1 := hr.2.2 p hp
    have := h p.1 (hl _ h1.1 h1.2.1) p.2 hp
    show -(rank p.1 : Int) < -(rank p.2 : Int)
    omega
theorem rk_no_cyc {ps : List (Int × Int)} (h : Rk ps) : ¬ Cyc ps := by
  obtain ⟨rank, h⟩ := h
  exact rank_acyclic rank h
theorem rk_sub {ps qs : List (Int × Int)} (h : ∀ p ∈ ps, p ∈ qs) (k : Rk qs) : Rk ps := by
  obtain ⟨rank, hr⟩ := k
  exact ⟨rank, fun p hp => hr p (h p hp)⟩
end Md
end Go.Proofs.YtnjnpbabgefaeaaGreat
end

section
namespace Go.Proofs.YtnjnpbabgefaeaaGreat
open Go.RowKit
theorem rcheck_is {x : Ev.X} {v : Int} (h : Ev.check x = v) (w : World) (hin : Ev.XIn w x) : Calls Tryz.prog 12 #[.agg (Ev.xcells x).toArray] w fun e w' => e = .returned (.int .i64 v) ∧ Below w.heap.size w w' := h ▸ rcheck_any x w hin
theorem ppo_pl {x : Ev.X} (hc : Ev.check x = 0) : Ev.pl (Or.ppo x) x.ev.length x.ev.length = Ev.pl (Ev.isPpo x) x.ev.length x.ev.length := by
  refine Or.pl_congr fun a b ha hb => ?_
  unfold Or.ppo Ev.isPpo
  rw [Or.hold_eq hc ha hb, Bool.eq_iff_iff]
  simp only [Bool.not_eq_true', List.isEmpty_eq_false_iff_exists_mem, List.mem_filter, List.mem_range, Bool.and_eq_true, decide_eq_true_eq, List.any_eq_true]
  constructor
  · rintro ⟨i, h1, h2, h3⟩
    exact ⟨i - 1, by omega, by rw [show i - 1 + 1 = i by omega]; exact h3⟩
  · rintro ⟨i, h1, h2⟩
    exact ⟨i + 1, by omega, by omega, h2⟩
end Go.Proofs.YtnjnpbabgefaeaaGreat
end

section
namespace Go.Proofs.YtnjnpbabgefaeaaGreat
open Go.RowKit
namespace Md
open Ev
theorem st_k {k : Int} (h : stores k = true) : k = 2 ∨ k = 3 ∨ k = 5 := by
  unfold stores at h; simp only [Bool.or_eq_true, beq_iff_eq] at h; omega
theorem ld_k {k : Int} (h : loads k = true) : k = 1 ∨ k = 3 := by
  unfold loads at h; simp only [Bool.or_eq_true, beq_iff_eq] at h; omega
theorem from_ok {x : X} (hc : check x = 0) {a : Nat} (ha : a < x.ev.length) (hl : loads (nth x.ev a).k = true) :
    ∃ f : Nat, f < x.ev.length ∧ frAt x a = f ∧ stores (nth x.ev f).k = true ∧ (nth x.ev f).a = (nth x.ev a).a ∧ f ≠ a ∧ (nth x.ev f).v = (nth x.ev a).r := by
  obtain ⟨_, h2, _⟩ := check_order hc
  unfold fromOk at h2
  simp only [Bool.and_eq_true, beq_iff_eq, List.all_eq_true] at h2
  have h := h2.2 a (List.mem_range.2 ha)
  unfold fromAt at h
  rw [if_pos hl] at h
  unfold readOk inB at h
  simp only [Bool.and_eq_true, decide_eq_true_eq, beq_iff_eq, Bool.not_eq_true', beq_eq_false_iff_ne, bne_iff_ne] at h
  obtain ⟨⟨⟨⟨⟨h1, h2⟩, h3⟩, h4⟩, h5⟩, h6⟩ := h
  have e : (((x.fr.l.getD a 0).toNat : Nat) : Int) = x.fr.l.getD a 0 := by omega
  refine ⟨(x.fr.l.getD a 0).toNat, by omega, by unfold frAt; omega, by rw [e]; exact h4, by rw [e]; first | exact h5 | exact h5.symm, fun e2 => ?_, by rw [e]; first | exact h6 | exact h6.symm⟩
  apply h3
  omega
theorem rule_1 {x : X} {a b : Nat} (hp : isPo x a b = true) (h4 : (nth x.ev a).k ≠ 4) (hs : stores (nth x.ev b).k = true) (he : (nth x.ev a).a = (nth x.ev b).a) : isPpo x a b = true := by
  unfold isPpo
  refine List.any_eq_true.2 ⟨0, by decide, ?_⟩
  unfold rule
  rw [if_neg]
  · show ((nth x.ev a).a == (nth x.ev b).a && stores (nth x.ev b).k) = true
    rw [hs, he]; simp
  · rintro (h | h | h)
    · rw [hp] at h; cases h
    · exact h4 h
    · rw [h] at hs; cases hs
theorem rule_2 {x : X} {a b : Nat} (hp : isPo x a b = true) (ha : loads (nth x.ev a).k = true) (hb : loads (nth x.ev b).k = true) (he : (nth x.ev a).a = (nth x.ev b).a) (hf : frAt x a ≠ frAt x b)
    (hm : ∀ m : Nat, a < m → m < b → ¬ (stores (nth x.ev m).k = true ∧ (nth x.ev m).a = (nth x.ev a).a)) : isPpo x a b = true := by
  unfold isPpo
  refine List.any_eq_true.2 ⟨1, by decide, ?_⟩
  unfold rule
  rw [if_neg]
  · show ruleOf x 2 a b = true
    rw [rule2_is, ha, hb, he]
    simp only [beq_self_eq_true, Bool.true_and, Bool.and_eq_true, Bool.not_eq_true', beq_eq_false_iff_ne, List.all_eq_true]
    refine ⟨hf, fun m hmm => ?_⟩
    have h2 : a < m ∧ m < b := by
      unfold upTo at hmm
      obtain ⟨i, hi, rfl⟩ := List.mem_map.1 hmm
      have := List.mem_range.1 hi
      omega
    have h3 := hm m h2.1 h2.2
    unfold cl
    cases hs : stores (nth x.ev m).k
    · rfl
    · have : ((nth x.ev m).a == (nth x.ev a).a) = false := by rw [beq_eq_false_iff_ne]; exact fun e => h3 ⟨hs, e⟩
      rw [this]; rfl
  · rintro (h | h | h)
    · rw [hp] at h; cases h
    · rw [h] at ha; cases ha
    · rw [h] at hb; cases hb
theorem ppo_parts {x : X} {a b : Nat} (h : isPpo x a b = true) : isPo x a b = true ∧ (nth x.ev a).k ≠ 4 ∧ (nth x.ev b).k ≠ 4 := by
  unfold isPpo at h
  obtain ⟨i, _, hi⟩ := List.any_eq_true.1 h
  unfold rule at hi
  by_cases hno : isPo x a b = false ∨ (nth x.ev a).k = 4 ∨ (nth x.ev b).k = 4
  · rw [if_pos hno] at hi; cases hi
  · refine ⟨?_, fun e => hno (.inr (.inl e)), fun e => hno (.inr (.inr e))⟩
    cases hp : isPo x a b
    · exact absurd (.inl hp) hno
    · rfl
end Md
end Go.Proofs.YtnjnpbabgefaeaaGreat
end

section
namespace Go.Proofs.YtnjnpbabgefaeaaGreat
open Go.RowKit Go.Maps Go.WideElems
namespace Md
structure KIn (cb b n : Nat) (S : List (Nat × Nat)) (W : World) : Prop where
  box : W.cell? ⟨cb, 0, none⟩ = some (.map (some b))
  set : PSet W b n S
def kst (S : List (Nat × Nat)) (ss : List (Nat × Nat)) (p : Nat × Nat) (ss' : List (Nat × Nat)) : Prop := p ∈ S ∧ p ∉ ss ∧ ss.Nodup ∧ (∀ q ∈ ss, q ∈ S) ∧ ss' = ss ++ [p]
def kfin (S : List (Nat × Nat)) (ss : List (Nat × Nat)) : Prop := ss.Nodup ∧ ∀ p, p ∈ ss ↔ p ∈ S
theorem lit_of {S : List (Nat × Nat)} {D : DataW Unit} (h : ∀ l, Maps.has D l = true → ∃ p ∈ S, l = plit p) (hlt : ∀ p ∈ S, p.1 < 64 ∧ p.2 < 64) {x : Int × Int} {kl : Lit} {y : DataW Unit}
    (hk : keyOf Tryz.prog 72 (.agg #[.int .i64 x.1, .int .i64 x.2]) = some kl) (ha : ∀ zd, D.atKey kl zd = y) : ∃ p ∈ S, kl = plit p ∧ x = ((p.1 : Int), (p.2 : Int)) := by
  obtain ⟨p, hp, rfl⟩ := h kl (Maps.has_true_of_atKey ha)
  have e := law_pair.inj hk (key_mk (hlt p hp))
  simp [pkV] at e
  exact ⟨p, hp, rfl, Prod.ext e.1 e.2⟩
end Md
set_option maxRecDepth 100000 in
set_option maxHeartbeats 4000000 in
theorem keys_iter (m : Nat) (hm : 1 ≤ m) (cb b n : Nat) (S : List (Nat × Nat)) :
    Og.IterS Fence.wide m Tryz.prog 89 #[.pointer (some ⟨cb, 0, none⟩)] (Md.KIn cb b n S) (fun p : Nat × Nat => #[Md.pkV p]) (Md.kst S) [] (Md.kfin S) := by
  intro l J Jx W hst hgr hgx hR hL hY h0
  have hk0 := hR _ _ h0
  obtain ⟨D, ho, hD⟩ := hk0.set.ex
  have hlt := hk0.set.lt
  have c1 := hk0.box
  obtain ⟨lq, hlq⟩ := hL
  have hbl : b ≠ l := fun e => by
    obtain ⟨es, clock, hb, _⟩ := ho
    rw [e, hlq] at hb; cases hb
  have hll : l < W.heap.size := (Array.getElem?_eq_some_iff.1 hlq).1
  have HST := Lib.hid hst; have HG := Lib.hid hgr; have HGX := Lib.hid hgx; have HY := Lib.hid hY; have H0 := Lib.hid h0; have HD := Lib.hid hD; have HO := Lib.hid ho; have HLT := Lib.hid hlt; have HBL := Lib.hid hbl; have HLL := Lib.hid hll
  clear hst hgr hgx hR hlq hY h0 hk0 hD ho hlt hbl hll
  refine callsIn_of_wp Tryz.func89 rfl trivial ?_ rfl
  simp only [Tryz.ntmps89, List.size_toArray, List.length_cons, List.length_nil, Nat.reduceAdd, Nat.reduceSub, Array.replicate_succ, Array.replicate_zero, List.push_toArray, List.append_toArray, List.nil_append, List.cons_append]
  gi_wp2_with (gi_at_range; refine wpListIn_range_own _ rfl _ 77 rfl 72 94 Md.law_pair Tryz.underlying77 unitElem b n D rfl HO.out ?_; intro w0 hrg0 hg0 hs0; have HRG0 := Lib.hid hrg0; have HG0 := Lib.hid hg0; clear hrg0 hg0 hs0)
  try go_frame
  clear c1
  gi_loopw [3] (fun _ wr => ∃ (left : Lit → Bool) (cnt : Nat) (ss : List (Nat × Nat)), wr.ranges Tryz.prog 72 unitElem b W.heap.size n D left cnt ∧ Md.Met S left ss ∧ J ss wr) (fun _ wr => wr.rangeLeft b W.heap.size)
  case atStart =>
    exact ⟨_, _, [], HRG0.out, Md.Met.start HD.out.1 HLT.out, HST.out _ _ _ H0.out ⟨HG0.out.os, HG0.out.tape, HG0.out.output, HG0.out.size, fun i hi => HG0.out.block i hi (by simp)⟩⟩
  case round =>
    obtain ⟨left, cnt, ss, hrg, hM, hJs⟩ := hrel
    have HRG := Lib.hid hrg; have HM := Lib.hid hM; have HJ := Lib.hid hJs
    clear hrg hM hJs
    gi_wp2_with (gi_at_next; refine wpListIn_next_ranges _ rfl _ rfl 72 Md.law_pair unitElem (fun x : Int × Int => .agg #[.int .i64 x.1, .int .i64 x.2]) (fun _ : Unit => .agg #[]) (fun key kl hk => Md.key_inv hk) (fun v y hv => ⟨(), (unitElem_inv hv).1⟩) b W.heap.size n _ _ _ rfl HRG.out ?_ ?_)
    · intro hc0 hl0
      have HL0 := Lib.hid hl0
      clear hc0 hl0
      gi_wp2_with fail
      go_end0
      exact ⟨⟨_, rfl⟩, .inl ⟨ss, ⟨HM.out.nd, HM.out.all HL0.out⟩, HJ.out⟩⟩
    · intro x1 x2 kl yd yp w2 cnt2 hkey hlk hv hat hrg2 hlt2 hg2 hs2 hen
      obtain ⟨p, hp, rfl, hxe⟩ := Md.lit_of (x := (x1, x2)) HD.out.2 HLT.out hkey hat
      obtain ⟨rfl, rfl⟩ := Prod.mk.inj hxe
      have HM2 := Lib.hid (HM.out.step HLT.out hp hlk)
      obtain ⟨oit, hoit, hoc⟩ : ∃ o, wr.heap[W.heap.size]? = some o ∧ o.isCells = false := by
        obtain ⟨es, clock, since, seen, c0, _, _, _, _, hr, _⟩ := HRG.out
        exact ⟨_, hr, rfl⟩
      have HJ2 := Lib.hid (HG.out ss wr w2 W.heap.size oit HJ.out (Nat.le_refl _) hoit hoc hg2)
      have HPS := Lib.hid hp
      have HRG2 := Lib.hid hrg2; have HLT2 := Lib.hid hlt2; have HG2 := Lib.hid hg2
      clear hkey hlk hv hat hrg2 hlt2 hg2 hs2 hoit hoc hp
      obtain ⟨W1, hW1⟩ : ∃ W1, W1 = w2.alloc (.cells #[.int .i64 (p.1 : Int), .int .i64 (p.2 : Int)] 72) := ⟨_, rfl⟩
      obtain ⟨fn, tmps, assign, body, hy, hRd⟩ := HY.out ss p _ W1 ⟨HPS.out, HM2.out.1, HM.out.nd, HM.out.sub, rfl⟩ (HST.out _ _ _ HJ2.out (by rw [hW1]; exact (Below.refl _ _).alloc (Nat.le_refl _) _))
      rw [hW1] at hy
      have HW1 := Lib.hid hW1; clear hW1
      have hy : Sem.run Tryz.prog (Instr.yield l #[.agg #[.int .i64 (p.1 : Int), .int .i64 (p.2 : Int)]]) (w2.alloc (.cells #[.int .i64 (p.1 : Int), .int .i64 (p.2 : Int)] 72)) = Result.ok (Next.round l fn tmps assign body) (w2.alloc (.cells #[.int .i64 (p.1 : Int), .int .i64 (p.2 : Int)] 72)) := hy
      gi_wp2_with fail
      rw [← HW1.out]
      refine hRd.mono ?_
      rintro e W3 ⟨hkb, hsz, (⟨rfl, hJ3⟩ | ⟨rfl, hJx3⟩)⟩
      · have HRG3 := Lib.hid (show W3.ranges Tryz.prog 72 unitElem b W.heap.size n D (fun z => left z && !z.sameKey (Md.plit p)) cnt2 by
          have hrg := HRG2.out.alloc (.cells #[.int .i64 (p.1 : Int), .int .i64 (p.2 : Int)] 72)
          rw [← HW1.out] at hrg
          obtain ⟨es, clock, since, seen, c0, hb, F, hs, hDD, hr, rest⟩ := hrg
          exact ⟨es, clock, since, seen, c0, hkb b _ HBL.out hb rfl, F, hs, hDD, hkb _ _ (by have := HLL.out; omega) hr rfl, rest⟩)
        have HJ3 := Lib.hid hJ3; clear hJ3 hy hRd hkb hsz
        gi_wp2_with fail
        go_roundw
        case rel => exact ⟨_, cnt2, ss ++ [p], HRG3.out, HM2.out.2, HJ3.out⟩
        case measure => rw [HRG3.out.left_eq, HRG.out.left_eq]; exact HLT2.out
      · have HJ3 := Lib.hid hJx3; clear hJx3 hy hRd hkb hsz
        gi_wp2_with fail
        refine bodyPost_ret (results_none rfl _ _ _) rfl ?_
        exact ⟨⟨_, rfl⟩, .inr HJ3.out⟩
end Go.Proofs.YtnjnpbabgefaeaaGreat
end

section
namespace Go.Proofs.YtnjnpbabgefaeaaGreat
open Go.RowKit
namespace Md
open Ev
def gI (ps : List (Nat × Nat)) : List (Int × Int) := ps.map fun p => ((p.1 : Int), (p.2 : Int))
theorem mem_gI {ps : List (Nat × Nat)} {a b : Int} : (a, b) ∈ gI ps ↔ ∃ i j : Nat, (i, j) ∈ ps ∧ (i : Int) = a ∧ (j : Int) = b := by
  unfold gI
  simp only [List.mem_map, Prod.mk.injEq, Prod.exists]
theorem mem_pl {is : Nat → Nat → Bool} {n a b : Nat} : (a, b) ∈ pl is n n ↔ a < n ∧ b < n ∧ is a b = true := pl_mem (p := (a, b))
def oneA (x : X) (p : Nat × Nat) : Bool := !((nth x.ev (p.1 : Int)).k == 4) && !((nth x.ev (p.2 : Int)).k == 4) && (nth x.ev (p.1 : Int)).a == (nth x.ev (p.2 : Int)).a
def cohL (x : X) : List (Nat × Nat) := let n := x.ev.length
  pl (isRf x) n n ++ pl (fun a b : Nat => isCo x (a : Int) (b : Int)) n n ++ pl (isFr x) n n ++ (pl (isPo x) n n).filter (oneA x)
theorem inR_pl {n : Nat} (hn : n ≤ 64) {ps : List (Nat × Nat)} (h : ∀ p ∈ ps, p.1 < n ∧ p.2 < n) : InR n (gI ps) := by
  refine ⟨by omega, by omega, fun p hp => ?_⟩
  obtain ⟨i, j, hm, e1, e2⟩ := mem_gI.1 (show (p.1, p.2) ∈ gI ps from hp)
  have := h _ hm
  simp only at this; omega
end Md
end Go.Proofs.YtnjnpbabgefaeaaGreat
end

section
namespace Go.Proofs.YtnjnpbabgefaeaaGreat
open Go.RowKit
namespace Md
open Ev
def lastGo (p : Nat → Nat → Bool) : List Nat → Nat → Int → Int
  | [], _, v => v
  | m :: r, i, v => lastGo p r (i + 1) (if p m i = true then (m : Int) else v)
def cI (l : List Nat) : List Int := l.map fun a : Nat => (a : Int)
def seen (x : X) (at' : Int) (n m i : Nat) : Bool := !(decide (m = n)) && stores (nth x.ev m).k && (nth x.ev m).a == (nth x.ev n).a && (decide ((i : Int) < at') || isPo x m n)
def sees (x : X) (l : List Nat) (n : Nat) : Int := lastGo (seen x (at_ (cI l) n) n) l 0 (-1)
end Md
end Go.Proofs.YtnjnpbabgefaeaaGreat
end

section
namespace Go.Proofs.YtnjnpbabgefaeaaGreat
open Go.RowKit
namespace Md
open Ev
variable {c1 c2 c3 : Bool}
section
variable {x : X} {a' : Option Addr} {c : Nat}
end
end Md
end Go.Proofs.YtnjnpbabgefaeaaGreat
end

section
namespace Go.Proofs.YtnjnpbabgefaeaaGreat
open Go.RowKit
attribute [local go_sem] or_store_func
attribute [local go_sem] Oper.semAt_some
theorem Md.wpListIn_load_row {F : Fence} {n : Nat} {P : Program} {ops : Array Oper} {rest : List Oper} {o : Oper} {a : Act} {w : World} {Q : Exit → Act → World → Prop} (hgd : o.guard = none) (ty : TypeId) (x : Operand) (ho : o.op = .load ty x)
    (g : Nat) (hx : a.eval x = .pointer (some ⟨g, 0, none⟩)) (t : TypeId) (cs : Array Value) (fr : Nat × Nat) (d : TypeDesc) (hg : w.heap[g]? = some (.cells cs t fr))
    (hu : P.underlying ty = some d) (hd : (match d with | .struct _ | .array _ _ => true | _ => false) = true) (hi : (P.info? ty).map (·.size) = some cs.size)
    (h : wpListIn F n P ops Q rest (a.put o.dst (.agg cs)) w) : wpListIn F n P ops Q (o :: rest) a w := by
  refine wpListIn_plain hgd fun K' hK' => ?_
  unfold Oper.wpIn
  refine ⟨by simp [Oper.about, ho], ?_⟩
  rw [Oper.semAt_plain F _ _ (by rw [ho]; intro c hc'; cases hc')]
  unfold execOp
  simp only [ho, hx, Instr.loadAt, Instr.sureAddr, Sem.run_bind, Sem.run_pure, Result.andThen_ok, run_loadVar_row w g t ty cs fr d hg hu hd hi]
  exact hK' _ _ h
theorem Or.Acc.grown {w : World} {B : Nat} {T E : TypeId} {sz k : Nat} {xs : List Value} {W W' : World} (h : Or.Acc w B T E sz k xs W) {r : Nat} {o : Obj} (hr : w.heap.size ≤ r) (ho : W.heap[r]? = some o) (hc : o.isCells = false) (hg : W.grownBy W' (some r)) : Or.Acc w B T E sz k xs W' := by
  obtain ⟨v, h1, h2⟩ := h.out
  refine ⟨h.bel.grown hg h.bel.size (fun j hj => by cases hj; exact hr), v, (hg.block B h1.lt (fun e => ?_)).trans h1, h2.kept hg ?_⟩
  · cases e; rw [show W.heap[B]? = _ from h1] at ho; cases ho; cases hc
  · rcases h2.2 with ⟨rfl, _⟩ | ⟨g, cap, cur, rfl, _, hh, _⟩
    · exact .inl rfl
    · refine .inr fun e => ?_
      have : g = r := by simpa [Value.ownBlock] using e
      subst this; rw [hh] at ho; cases ho; cases hc
set_option maxRecDepth 100000 in
set_option maxHeartbeats 8000000 in
theorem pappendSeq_any (G : FuncId) (caps : Array Value) (R : World → Prop) (S : List (Nat × Nat)) (hS : S.length ≤ 65536) (w : World) (hE : ∀ args w, (callFunc G args).run Tryz.prog w = .ok (.enter G args) w) (hR : ∀ (ss : List (Nat × Nat)) (W : World), Below w.heap.size w W → R W)
    (hit : Og.IterS Fence.wide 4 Tryz.prog G caps R (fun p : Nat × Nat => #[Md.pkV p]) (Md.kst S) [] (Md.kfin S)) :
    Calls Tryz.prog 113 #[.slice none 0 0, .func (.func G) #[] caps] w fun r w' => ∃ v ss, r = .returned v ∧ Md.kfin S ss ∧ w'.ownsRow w.heap.size 72 2 v ss.length (ss.flatMap Ev.pv) ∧ Below w.heap.size w w' := by
  obtain ⟨W0, hW0⟩ : ∃ W0, w.alloc (.cells #[.slice none 0 0] 37) = W0 := ⟨_, rfl⟩
  have hsz : W0.heap.size = w.heap.size + 1 := by rw [← hW0]; simp
  have hA : Or.Acc w w.heap.size 37 72 2 0 [] W0 := by
    rw [← hW0]; exact ⟨(Below.refl _ w).alloc (Nat.le_refl _) _, _, Boxed.new w _ _, World.ownsRow_nil _ _ _ _⟩
  have HA := Lib.hid hA; have HSZ := Lib.hid hsz; have HW0 := Lib.hid hW0; have HR := Lib.hid hR
  have HIT := Lib.hid hit; have HE := Lib.hid hE
  obtain ⟨i0, hi, hz0, hz1, hz2⟩ := info_pair
  have HI := Lib.hid hi; have HZ0 := Lib.hid hz0; have HZ1 := Lib.hid hz1; have HZ2 := Lib.hid hz2
  clear hA hsz hW0 hit hR hE hi hz0 hz1 hz2
  refine (callsIn_wide (n := 5)).1 ?_
  refine callsIn_of_wp_marks Tryz.func113 rfl trivial ?_ rfl
  simp only [Tryz.ntmps113, List.size_toArray, List.length_cons, List.length_nil, Nat.reduceAdd, Nat.reduceSub, Array.replicate_succ, Array.replicate_zero, List.push_toArray, List.append_toArray, List.nil_append, List.cons_append]
  refine wpIn_wide.2 ?_
  go_wp2_with fail
  rw [HW0.out]
  clear HW0
  refine (wpIn_wide (n := 5)).1 ?_
  refine Og.wpIn_rangeFunc_sts (α := Nat × Nat) (σ := List (Nat × Nat)) rfl (by decide) (gf := G) (lb := caps) rfl trivial HE.out
    HIT.out (fun _ => rfl)
    (fun ss W => Or.Acc w w.heap.size 37 72 2 ss.length (ss.flatMap Ev.pv) W) (fun c W => False)
    (fun k A A' h hb => h.kp hb) (fun k A l o o' h hl ho hc => h.putObj o' (by have := HSZ.out; omega) ho hc)
    (fun k A A' r o h hr ho hc hg => h.grown (by have := HSZ.out; omega) ho hc hg) (fun c A A' r o h _ _ _ _ => h) (fun c A l o o' h hl ho hc => h)
    (fun k A h => HR.out k A h.bel) HA.out
    (fun p U => { tmps := #[.slice none 0 0, .func (.func G) #[] caps, .pointer (some ⟨w.heap.size, 0, none⟩), undef, .slice none 0 0, .pointer (some ⟨U.heap.size, 0, none⟩), .func (.func G) #[] caps, Md.pkV p, undef, undef, undef, undef, undef], defers := [] })
    (fun p U => U.alloc (.cells #[.int .i64 (p.1 : Int), .int .i64 (p.2 : Int)] 72)) (fun p U => (Below.refl _ _).alloc (Nat.le_refl _) _) ?assign ?body ?done ?stop
  case assign =>
    rintro l m W K hK
    have HK := Lib.hid hK; clear hK
    unfold Md.pkV
    gi_wp2_with fail
    exact HK.out
  case body =>
    rintro l ss ss2 p U W hs hAU hA hcl hsz
    obtain ⟨hp, hn, hnd, hsub, rfl⟩ := hs
    have hlen : ss.length ≤ 65536 := Nat.le_trans (Ev.nodup_le hnd hsub) hS
    have RWP := Lib.hid (hcl U.heap.size _ (heap_alloc_new _ _) rfl)
    obtain ⟨ad, cc, hv, hr⟩ := hA.form
    have c2 := hv.cell
    have HV := Lib.hid hv; have HRR := Lib.hid hr; have HB := Lib.hid hA.bel
    clear hA hAU hv hr hp hn hnd hsub hcl hsz
    unfold Md.pkV
    gi_wp2_with (first
      | ((with_reducible show wpListIn _ _ _ _ _ (Oper.mk (some 9) _ _ _ _ _ :: _) _ _); refine Md.wpListIn_load_row rfl 72 (.tmp 5) rfl U.heap.size (by kernel_rfl) 72 #[.int .i64 (p.1 : Int), .int .i64 (p.2 : Int)] (0, 0) _ RWP.out Tryz.underlying72 rfl (by kernel_rfl) ?_)
      | ((with_reducible show wpListIn _ _ _ _ _ (Oper.mk (some 11) _ _ _ _ _ :: _) _ _); refine wpListIn_append_own (W.alloc (.cells #[.int .i64 (p.1 : Int), .int .i64 (p.2 : Int)] 72)) rfl (.tmp 8) (.tmp 10) 37 rfl w.heap.size 72 i0 (.agg #[.int .i64 0, .int .i64 0]) 2 16 Tryz.underlying37 HI.out HZ0.out HZ1.out HZ2.out rfl (by decide) _ _ _ rfl (HRR.out.alloc _) ⟨W.heap.size, 0, none⟩ 1 1 (Ev.pv p) rfl rfl (fun j u hu => World.news_of_block (heap_alloc_new W _) j u hu) (Ev.pv_one _) (by unfold maxLen; omega) (by omega) (by have := HB.out.size; simp only [World.size_alloc]; omega) ?_
         intro v' w3 hown hgrow _
         obtain ⟨gb, cp', rfl⟩ := Or.row_succ hown
         obtain ⟨f1, f2, f3, f4, f5⟩ := Boxed.appended HV.out (by decide) HRR.out HB.out.size (Nat.le_refl _) hown hgrow
         have hf1 := f1.cell; have hf2 := f1.frozen
         have F4 := Lib.hid f4; have F5 := Lib.hid (HB.out.trans f5)
         have FA := Lib.hid (And.intro f2 f3)
         clear f1 f2 f3 f4 f5 hown hgrow c2))
    refine ⟨F4.out, F5.out, _, FA.out.1, ?_⟩
    have h := FA.out.2
    rw [List.length_append, List.flatMap_append]
    simpa using h
  case done =>
    rintro D ss W hD hf hA hK
    obtain ⟨ad, cc, hv, hr⟩ := hA.form
    have c2 := hv.cell
    have HRR := Lib.hid hr; have HB := Lib.hid hA.bel; have HK := Lib.hid hK; have HDD := Lib.hid hD; have HAA := Lib.hid hA; have HF := Lib.hid hf
    clear hv hr hA hK hD hf
    go_wp2_with fail
    refine ⟨by simp, .inl ⟨_, _, rfl, run_takeDeferred HK.out, ?_⟩⟩
    refine ⟨_, results_tmp (fn := Tryz.f113) rfl _ _ _, ⟨_, ss, rfl, HF.out, ?_, Or.below_putObj HB.out (by have := HDD.out; have := HSZ.out; omega)⟩⟩
    have hr := HRR.out
    have hk : ∀ (j : Nat) (x : Obj), W.heap[j]? = some x → x.isCells = true → (W.putObj D (.deferred none)).heap[j]? = some x := fun j x hx hxc => (World.putObj_heap_other (fun e => by subst e; rw [HK.out] at hx; cases hx; cases hxc)).trans hx
    exact ⟨hr.1, hr.2.imp id fun ⟨g, cap, cur, e1, e2, e3, r⟩ => ⟨g, cap, cur, e1, e2, hk g _ e3 rfl, r⟩⟩
  case stop =>
    rintro D c W hD h hK
    exact h.elim
end Go.Proofs.YtnjnpbabgefaeaaGreat
end

section
namespace Go.Proofs.YtnjnpbabgefaeaaGreat
open Go.RowKit
namespace Md
open Ev
end Md
end Go.Proofs.YtnjnpbabgefaeaaGreat
end

section
namespace Go.Proofs.YtnjnpbabgefaeaaGreat
open Go.RowKit
def Md.cmpI (a b : Int) : Int := if a < b then -1 else if b < a then 1 else 0
def Md.orI (a b : Int) : Int := if a = 0 then b else a
def Md.cmpP (p q : Nat × Nat) : Int := Md.orI (Md.cmpI (p.1 : Int) (q.1 : Int)) (Md.cmpI (p.2 : Int) (q.2 : Int))
theorem isNaN_any (a : Int) (w : World) : Calls Tryz.prog 90 #[.int .i64 a] w fun e w' => e = .returned (.bool false) ∧ w = w' := by
  go_enter Tryz.func90, Tryz.ntmps90
  go_wp2
  go_ret
  exact ⟨rfl, rfl⟩
set_option maxHeartbeats 1000000 in
theorem compare_any (a b : Int) (w : World) : Calls Tryz.prog 64 #[.int .i64 a, .int .i64 b] w fun e w' => e = .returned (.int .i64 (Md.cmpI a b)) ∧ w = w' := by
  obtain ⟨r, hr⟩ : ∃ r, Md.cmpI a b = r := ⟨_, rfl⟩
  have HR := Lib.hid hr
  rw [hr]
  clear hr
  have hc : a < b ∨ (¬ a < b ∧ b < a) ∨ (¬ a < b ∧ ¬ b < a) := by omega
  rcases hc with h | ⟨h1, h2⟩ | ⟨h1, h2⟩
  · have HV := Lib.hid (show r = -1 by rw [← HR.out]; unfold Md.cmpI; rw [if_pos h])
    go_enter Tryz.func64, Tryz.ntmps64
    go_wp2_with (go_at_call 90; refine (isNaN_any _ _).mono ?_; rintro e w' ⟨rfl, rfl⟩)
    go_ret
    exact ⟨by rw [HV.out]; rfl, rfl⟩
  · have HV := Lib.hid (show r = 1 by rw [← HR.out]; unfold Md.cmpI; rw [if_neg h1, if_pos h2])
    go_enter Tryz.func64, Tryz.ntmps64
    go_wp2_with (go_at_call 90; refine (isNaN_any _ _).mono ?_; rintro e w' ⟨rfl, rfl⟩)
    go_ret
    exact ⟨by rw [HV.out]; rfl, rfl⟩
  · have HV := Lib.hid (show r = 0 by rw [← HR.out]; unfold Md.cmpI; rw [if_neg h1, if_neg h2])
    go_enter Tryz.func64, Tryz.ntmps64
    go_wp2_with (go_at_call 90; refine (isNaN_any _ _).mono ?_; rintro e w' ⟨rfl, rfl⟩)
    go_ret
    exact ⟨by rw [HV.out]; rfl, rfl⟩
set_option maxHeartbeats 1000000 in
theorem cmpOr_any (g : Nat) (a b : Int) (w : World) (h0 : w.cell? ⟨g, 0, none⟩ = some (.int .i64 a)) (h1 : w.cell? ⟨g, 1, none⟩ = some (.int .i64 b)) :
    Calls Tryz.prog 63 #[.slice (some ⟨g, 0, none⟩) 2 2] w fun e w' => e = .returned (.int .i64 (Md.orI a b)) ∧ w = w' := by
  obtain ⟨r, hr⟩ : ∃ r, Md.orI a b = r := ⟨_, rfl⟩
  have HR := Lib.hid hr
  rw [hr]
  clear hr
  by_cases ha : a = 0
  · subst ha
    by_cases hb : b = 0
    · subst hb
      have HV := Lib.hid (show r = 0 by rw [← HR.out]; rfl)
      go_enter Tryz.func63, Tryz.ntmps63
      go_wp2
      refine wp_loop_rounds 3 ?_
      rw [rounds_succ]
      go_wp2
      rw [rounds_succ]
      go_wp2
      rw [rounds_succ]
      go_wp2
      go_ret
      exact ⟨by rw [HV.out]; rfl, rfl⟩
    · have HV := Lib.hid (show r = b by rw [← HR.out]; rfl)
      have hb' : (b != 0) = true := by simpa using hb
      go_enter Tryz.func63, Tryz.ntmps63
      go_wp2
      refine wp_loop_rounds 3 ?_
      rw [rounds_succ]
      go_wp2
      rw [rounds_succ]
      go_wp2
      go_ret
      exact ⟨by rw [HV.out]; rfl, rfl⟩
  · have HV := Lib.hid (show r = a by rw [← HR.out]; unfold Md.orI; rw [if_neg ha])
    have ha' : (a != 0) = true := by simpa using ha
    go_enter Tryz.func63, Tryz.ntmps63
    go_wp2
    refine wp_loop_rounds 3 ?_
    rw [rounds_succ]
    go_wp2
    go_ret
    exact ⟨by rw [HV.out]; rfl, rfl⟩
theorem Md.grow3 (w : World) (a b c : Obj) : World.alloc { (w.alloc a).alloc b with drawn := ((w.alloc a).alloc b).drawn + 1 } c = Sort.grow (w.drewN 1) #[a, b, c] := by
  have h : ((w.heap.push a).push b).push c = w.heap ++ #[a, b, c] := by apply Array.ext'; simp
  unfold Sort.grow World.drewN
  rw [← h]
  rfl
set_option maxRecDepth 100000 in
set_option maxHeartbeats 2000000 in
theorem cmpP_any (p q : Nat × Nat) (w : World) : Calls Tryz.prog 62 #[Md.pkV p, Md.pkV q] w fun e w' => e = .returned (.int .i64 (Md.cmpP p q)) ∧ ∃ n os', w' = Sort.grow (w.drewN n) os' := by
  unfold Md.pkV
  obtain ⟨r, hr⟩ : ∃ r, Md.cmpP p q = r := ⟨_, rfl⟩
  have HR := Lib.hid hr
  rw [hr]
  clear hr
  go_enter Tryz.func62, Tryz.ntmps62
  go_wp2
  obtain ⟨B, hB⟩ : ∃ B, B = (w.alloc (.cells #[.int .i64 (p.1 : Int), .int .i64 (p.2 : Int)] 72)).alloc (.cells #[.int .i64 (q.1 : Int), .int .i64 (q.2 : Int)] 72) := ⟨_, rfl⟩
  rw [← hB]
  obtain ⟨V, hV⟩ : ∃ V : World, V = { B with drawn := B.drawn + 1 } := ⟨_, rfl⟩
  have r0 : V.heap[w.heap.size]? = some (.cells #[.int .i64 (p.1 : Int), .int .i64 (p.2 : Int)] 72 (0, 0)) := by
    rw [hV, hB]; exact (((Below.refl _ _).alloc (Nat.le_refl _) _).block _ (by simp)).trans (heap_alloc_new w _)
  have r1 : V.heap[w.heap.size + 1]? = some (.cells #[.int .i64 (q.1 : Int), .int .i64 (q.2 : Int)] 72 (0, 0)) := by
    rw [hV, hB]; have h := heap_alloc_new (w.alloc (.cells #[.int .i64 (p.1 : Int), .int .i64 (p.2 : Int)] 72)) (.cells #[.int .i64 (q.1 : Int), .int .i64 (q.2 : Int)] 72); rw [World.size_alloc] at h; exact h
  have c0 : V.cell? ⟨w.heap.size, 0, none⟩ = some (.int .i64 (p.1 : Int)) := by rw [cell_of_row _ _ _ _ _ _ r0]; rfl
  have c1 : V.cell? ⟨w.heap.size, 1, none⟩ = some (.int .i64 (p.2 : Int)) := by rw [cell_of_row _ _ _ _ _ _ r0]; rfl
  have c2 : V.cell? ⟨w.heap.size + 1, 0, none⟩ = some (.int .i64 (q.1 : Int)) := by rw [cell_of_row _ _ _ _ _ _ r1]; rfl
  have c3 : V.cell? ⟨w.heap.size + 1, 1, none⟩ = some (.int .i64 (q.2 : Int)) := by rw [cell_of_row _ _ _ _ _ _ r1]; rfl
  have HB := Lib.hid hB; have HV := Lib.hid hV; clear hB r0 r1
  refine wp_region_still_tail 10 (by kernel_rfl) (by kernel_rfl) ?_
  rw [← hV]
  clear hV
  simp only [List.take_succ_cons, List.take_zero, List.drop_succ_cons, List.drop_zero]
  still_step
  still_step
  still_step
  still_step
  still_call ((compare_any _ _ _).mono fun _ _ h => ⟨h.1, h.2.symm⟩)
  still_step
  still_step
  still_step
  still_step
  still_call ((compare_any _ _ _).mono fun _ _ h => ⟨h.1, h.2.symm⟩)
  refine wpStill_nil ?_
  clear c0 c1 c2 c3
  obtain ⟨d1, hd1⟩ : ∃ d, Md.cmpI (p.1 : Int) (q.1 : Int) = d := ⟨_, rfl⟩
  obtain ⟨d2, hd2⟩ : ∃ d, Md.cmpI (p.2 : Int) (q.2 : Int) = d := ⟨_, rfl⟩
  rw [hd1, hd2]
  have HD1 := Lib.hid hd1; have HD2 := Lib.hid hd2
  clear hd1 hd2
  go_wp2_with (go_at_call 63; refine (cmpOr_any V.heap.size d1 d2 _ (by rw [cell_of_row _ _ _ _ _ _ (heap_alloc_new V _)]; rfl) (by rw [cell_of_row _ _ _ _ _ _ (heap_alloc_new V _)]; rfl)).mono ?_; rintro e w' ⟨rfl, rfl⟩)
  go_ret
  refine ⟨?_, 1, #[.cells #[.int .i64 (p.1 : Int), .int .i64 (p.2 : Int)] 72, .cells #[.int .i64 (q.1 : Int), .int .i64 (q.2 : Int)] 72, .cells #[.int .i64 d1, .int .i64 d2] 3], ?_⟩
  · rw [← HR.out, ← HD1.out, ← HD2.out]; rfl
  · rw [HV.out, HB.out]
    exact Md.grow3 w _ _ _
end Go.Proofs.YtnjnpbabgefaeaaGreat
end
