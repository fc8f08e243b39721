import Derived.Test.YtecnnkidalkmfaaGreatKb14
import Derived.RangeFuncBox
import Derived.Deep.AppendLies
import Derived.Test.YtecnnkidalkmfaaGreatKb07
import Derived.Test.YtecnnkidalkmfaaGreatKb08
set_option linter.unusedVariables false
set_option linter.unusedSimpArgs false

section
namespace Go.Og
open Go.RowKit
def marks (Ds : List Nat) : List Deferred := Ds.map fun D => { target := .collected D, args := #[] }
theorem leaves_marks {F : Fence} {n : Nat} {P : Program} {fn : Func} {tmps : Array Value} {R : Ending → World → Prop} : ∀ (Ds : List Nat) (W : World), Ds.Nodup → (∀ D ∈ Ds, W.heap[D]? = some (.deferred (some []))) →
    (∀ W', W'.os = W.os → W'.tape = W.tape → W'.output = W.output → W'.heap.size = W.heap.size → (∀ k, k ∉ Ds → W'.heap[k]? = W.heap[k]?) → ∃ v, (results fn tmps).run P W' = .ok v W' ∧ R (.returned v) W') → LeavesInM F n P fn tmps R (marks Ds) .returning W
  | [], W, _, _, h => h W rfl rfl rfl rfl (fun _ _ => rfl)
  | D :: Ds, W, hn, hd, h => by
    refine ⟨by simp, .inl ⟨_, _, rfl, run_takeDeferred (hd D List.mem_cons_self), ?_⟩⟩
    refine leaves_marks Ds (W.putObj D (.deferred none)) (List.nodup_cons.1 hn).2 (fun E hE => ?_) (fun W' h1 h2 h3 h4 h5 => ?_)
    · rw [World.putObj_heap_other (fun (e : E = D) => (List.nodup_cons.1 hn).1 (by rw [← e]; exact hE))]
      exact hd E (List.mem_cons_of_mem _ hE)
    · refine h W' h1 h2 h3 (by rw [h4]; simp) (fun k hk => ?_)
      rw [h5 k (fun hm => hk (List.mem_cons_of_mem _ hm)), World.putObj_heap_other (fun (e : k = D) => hk (by rw [e]; exact List.mem_cons_self))]
end Go.Og
namespace Go.Proofs.YtecnnkidalkmfaaGreat
open Go.RowKit
attribute [local go_sem] or_store_func
attribute [local go_sem] Oper.semAt_some
namespace Or
open Ev
structure Acc (w : World) (B : Nat) (T E : TypeId) (sz k : Nat) (xs : List Value) (W : World) : Prop where
  bel : Below w.heap.size w W
  out : ∃ v, Boxed W B T v ∧ W.ownsRow w.heap.size E sz v k xs
variable {w : World} {B : Nat} {T E : TypeId} {sz k : Nat} {xs : List Value} {W : World}
theorem Acc.kp (h : Acc w B T E sz k xs W) {W' : World} (hb : Below W.heap.size W W') : Acc w B T E sz k xs W' := by
  obtain ⟨v, h1, h2⟩ := h.out
  exact ⟨h.bel.trans (hb.mono h.bel.size), v, (hb.block B h1.lt).trans h1, Ev.row_below h2 hb⟩
theorem Acc.putObj (h : Acc w B T E sz k xs W) {l : Nat} {o : Obj} (o' : Obj) (hl : w.heap.size ≤ l) (ho : W.heap[l]? = some o) (hc : o.isCells = false) : Acc w B T E sz k xs (W.putObj l o') := by
  obtain ⟨v, h1, h2⟩ := h.out
  have hk : ∀ (j : Nat) (x : Obj), W.heap[j]? = some x → x.isCells = true → (W.putObj l o').heap[j]? = some x := fun j x hx hxc => (World.putObj_heap_other (fun e => by subst e; rw [ho] at hx; cases hx; rw [hc] at hxc; cases hxc)).trans hx
  exact ⟨below_putObj h.bel hl, v, hk B _ h1 rfl, ⟨h2.1, h2.2.imp id fun ⟨g, cap, cur, e1, e2, e3, r⟩ => ⟨g, cap, cur, e1, e2, hk g _ e3 rfl, r⟩⟩⟩
theorem Acc.form (h : Acc w B T E sz k xs W) : ∃ a c, Boxed W B T (.slice a k c) ∧ W.ownsRow w.heap.size E sz (.slice a k c) k xs := by
  obtain ⟨v, h1, h2⟩ := h.out
  rcases h2.2 with ⟨rfl, rfl⟩ | ⟨g, cap, cur, rfl, r⟩
  · exact ⟨_, _, h1, h2⟩
  · exact ⟨_, _, h1, h2⟩
theorem box_putObj {p l : Nat} {t : TypeId} {v : Value} (h : Boxed W p t v) {o : Obj} (o' : Obj) (ho : W.heap[l]? = some o) (hc : o.isCells = false) : Boxed (W.putObj l o') p t v :=
  (World.putObj_heap_other (fun e => by subst e; rw [show W.heap[p]? = _ from h] at ho; cases ho; cases hc)).trans h
theorem row_succ {base : Nat} {v : Value} (h : W.ownsRow base E sz v (k + 1) xs) : ∃ g c, v = .slice (some ⟨g, 0, none⟩) (k + 1) c := by
  rcases h.2 with ⟨_, h⟩ | ⟨g, cap, cur, rfl, _⟩
  · cases h
  · exact ⟨_, _, rfl⟩
end Or
end Go.Proofs.YtecnnkidalkmfaaGreat
end

section
namespace Go.Proofs.YtecnnkidalkmfaaGreat
open Go.RowKit Go.Maps Go.WideElems
namespace Md
open Ev
structure PL where
  a : Option Addr
  c : Nat
  l : List (Nat × Nat)
def PL.v (s : PL) : Value := .slice s.a s.l.length s.c
structure RelsIn (w : World) (a : Option Addr) (c : Nat) (rs : List PL) : Prop where
  rows : Ev.RowsIn w a 1 (rs.map fun s => [s.v])
  ok : ∀ r ∈ rs, PairsIn w r.a r.c r.l ∧ r.l.length ≤ 8192 ∧ ∀ p ∈ r.l, p.1 < 64 ∧ p.2 < 64
  len : rs.length ≤ 8
  le : rs.length ≤ c
  max : c ≤ 9223372036854775807
theorem PairsIn.kp {w w' : World} {a c ps} (h : PairsIn w a c ps) (k : Kp w w') : PairsIn w' a c ps := ⟨h.rows.kp k, h.le, h.max⟩
theorem RelsIn.kp {w w' : World} {a c rs} (h : RelsIn w a c rs) (k : Kp w w') : RelsIn w' a c rs := ⟨h.rows.kp k, fun r hr => ⟨PairsIn.kp (h.ok r hr).1 k, (h.ok r hr).2⟩, h.len, h.le, h.max⟩
theorem RelsIn.at_ {w : World} {a c rs} (h : RelsIn w a c rs) {k : Nat} {s : PL} (hk : rs[k]? = some s) : ∃ g o, a = some ⟨g, o, none⟩ ∧ w.cell? ⟨g, o + k, none⟩ = some (.slice s.a s.l.length s.c) := by
  have hl := (List.getElem?_eq_some_iff.1 hk).1
  obtain ⟨g, o, e, hc⟩ := h.rows (by simp; omega)
  exact ⟨g, o, e, by have := hc k [s.v] (by rw [List.getElem?_map, hk]; rfl) 0 _ rfl; simpa [PL.v] using this⟩
theorem PairsIn.at_ {w : World} {a c ps} (h : PairsIn w a c ps) {k : Nat} {p : Nat × Nat} (hk : ps[k]? = some p) :
    ∃ g o, a = some ⟨g, o, none⟩ ∧ (∀ i c, (pv p)[i]? = some c → w.cell? ⟨g, o + k * 2 + i, none⟩ = some c) := by
  have hl := (List.getElem?_eq_some_iff.1 hk).1
  obtain ⟨g, o, e, hc⟩ := h.rows (by simp; omega)
  exact ⟨g, o, e, fun i c hi => hc k (pv p) (by rw [List.getElem?_map, hk]; rfl) i c hi⟩
def flat (rs : List PL) : List (Nat × Nat) := rs.flatMap (·.l)
theorem flat_len {w : World} {a c rs} (h : RelsIn w a c rs) (k : Nat) : (flat (rs.take k)).length ≤ 65536 := by
  have : ∀ l : List PL, (∀ r ∈ l, r.l.length ≤ 8192) → (flat l).length ≤ l.length * 8192 := by
    intro l
    induction l with
    | nil => simp [flat]
    | cons r t ih =>
      intro hl
      have h1 := hl r (by simp)
      have h2 := ih fun q hq => hl q (by simp [hq])
      simp only [flat, List.flatMap_cons, List.length_append, List.length_cons] at h2 ⊢
      omega
  have h1 := this (rs.take k) fun r hr => (h.ok r (List.mem_of_mem_take hr)).2.1
  have h2 := h.len
  have h3 : (rs.take k).length ≤ rs.length := by simp; omega
  omega
theorem flat_snoc {rs : List PL} {k : Nat} {s : PL} (h : rs[k]? = some s) : flat (rs.take (k + 1)) = flat (rs.take k) ++ s.l := by
  rw [List.take_add_one, h]; simp [flat]
theorem take_snoc' {α : Type} {l : List α} {k : Nat} {p : α} (h : l[k]? = some p) : l.take (k + 1) = l.take k ++ [p] := by rw [List.take_add_one, h]; rfl
theorem pset_put {w' w : World} {b n : Nat} {S : List (Nat × Nat)} {q : Nat × Nat} {D : DataW Unit} (h : PSet w b n S) (ho : w.ownsMap Tryz.prog 72 unitElem b n D)
    (hD : (∀ p : Nat × Nat, p.1 < 64 ∧ p.2 < 64 → Maps.has D (plit p) = decide (p ∈ S)) ∧ ∀ l, Maps.has D l = true → ∃ p ∈ S, l = plit p) (hq : q.1 < 64 ∧ q.2 < 64)
    (hn : w'.ownsMap Tryz.prog 72 unitElem b (n + 1) (D.put (plit q) (.agg []))) : PSet w' b (n + 1) (S ++ [q]) :=
  ⟨⟨_, hn, put_ok ho.isMap hD hq⟩, fun p hp => by rcases List.mem_append.1 hp with h1 | h1; exact h.lt p h1; simp at h1; subst h1; exact hq⟩
end Md
set_option maxRecDepth 100000 in
set_option maxHeartbeats 4000000 in
theorem arrowsOf_any (a : Option Addr) (c : Nat) (rs : List Md.PL) (w : World) (hin : Md.RelsIn w a c rs) :
    Calls Tryz.prog 55 #[.slice a rs.length c] w fun e w' => ∃ n b, e = .returned (.map (some b)) ∧ w.heap.size ≤ b ∧ n ≤ 65536 ∧ Md.PSet w' b n (Md.flat rs) ∧ Below w.heap.size w w' := by
  have hmax := hin.max; have hle := hin.le
  have HIN := Lib.hid hin; clear hin
  have hmm := @run_makeMap Tryz.prog
  go_enter Tryz.func55, Tryz.ntmps55
  go_wp2
  go_loopw [5, 7, 11, 17] (fun _ _ i _ wr => ∃ k : Nat, k ≤ rs.length ∧ i = .int .i64 (k : Int) ∧ Md.PSet wr w.heap.size (Md.flat (rs.take k)).length (Md.flat (rs.take k)) ∧ Below w.heap.size w wr) (fun _ _ i _ _ => rs.length - (intOf i).toNat)
  case atStart =>
    exact ⟨0, Nat.zero_le _, rfl, Md.PSet.new w, (Below.refl _ _).alloc (Nat.le_refl _) _⟩
  case round =>
    obtain ⟨k, hk, rfl, hps, hbr⟩ := hrel
    obtain ⟨wo, rfl⟩ : ∃ wo : World, wo = wr := ⟨_, rfl⟩
    have HPS := Lib.hid hps; have HBR := Lib.hid hbr
    clear hps hbr
    by_cases hlt : k < rs.length
    · obtain ⟨s, hs⟩ : ∃ s, rs[k]? = some s := ⟨_, List.getElem?_eq_getElem hlt⟩
      obtain ⟨g, o, ea, hcx⟩ := (HIN.out.kp (Ev.kp_below HBR.out)).at_ hs
      have hok := HIN.out.ok s (List.mem_of_getElem? hs)
      have hsl := hok.2.1
      have hsle := hok.1.le; have hsmax := hok.1.max
      have HOK := Lib.hid hok
      have HFS := Lib.hid (Md.flat_snoc hs)
      have HFL := Lib.hid (Md.flat_len HIN.out k)
      have hki : (k : Int) < (rs.length : Int) := by omega
      clear hok hs
      rw [ea]; clear ea
      go_wp2
      go_loopw [7, 17] (fun _ i wr => ∃ m : Nat, m ≤ s.l.length ∧ i = .int .i64 (m : Int) ∧ Md.PSet wr w.heap.size ((Md.flat (rs.take k)).length + m) (Md.flat (rs.take k) ++ s.l.take m) ∧ Below w.heap.size w wr) (fun _ i _ => s.l.length - (intOf i).toNat)
      case atStart =>
        exact ⟨0, Nat.zero_le _, rfl, by simpa using HPS.out, HBR.out⟩
      case round =>
        clear hcx
        obtain ⟨m, hm, rfl, hps, hbr⟩ := hrel
        have HPS2 := Lib.hid hps; have HBR2 := Lib.hid hbr
        clear hps hbr
        by_cases hml : m < s.l.length
        · obtain ⟨p, hp⟩ : ∃ p, s.l[m]? = some p := ⟨_, List.getElem?_eq_getElem hml⟩
          obtain ⟨g2, o2, ea2, hc2⟩ := Md.PairsIn.at_ (Md.PairsIn.kp HOK.out.1 (Ev.kp_below HBR2.out)) hp
          have hpb := HOK.out.2.2 p (List.mem_of_getElem? hp)
          have HKEY := Lib.hid (Md.key_mk hpb)
          have HPB := Lib.hid hpb
          have HTS := Lib.hid (Md.take_snoc' hp)
          have HC2 := Lib.hid hc2
          obtain ⟨D, ho, hD⟩ := HPS2.out.ex
          have HO := Lib.hid ho; have HD := Lib.hid hD
          have hnl : (Md.flat (rs.take k)).length + m ≤ 131072 := by have := HFL.out; omega
          have HNL := Lib.hid hnl
          have hmi : (m : Int) < (s.l.length : Int) := by omega
          clear hp hc2 hpb ho hD hnl
          rw [ea2]; clear ea2
          go_wp2_with (first
            | ((with_reducible show wpList _ _ _ (Oper.mk (some 20) _ _ _ _ _ :: _) _ _); refine wpList_load_at rfl 72 (.tmp 19) rfl g2 (o2 + m * 2) (by kernel_rfl) [.int .i64 (p.1 : Int), .int .i64 (p.2 : Int)] _ HC2.out Tryz.underlying72 rfl (by kernel_rfl) ?_)
            | ((with_reducible show wpList _ _ _ (Oper.mk none (Op.store 72 _ _) _ _ _ _ :: _) _ _); refine wpList_store_own rfl 72 (.tmp 7) (.tmp 20) rfl wr.heap.size #[.int .i64 (p.1 : Int), .int .i64 (p.2 : Int)] rfl rfl 72 #[.int .i64 0, .int .i64 0] (heap_alloc_new _ _) (by kernel_rfl) (by kernel_rfl) (by kernel_rfl) ?_
               intro W1 HW1
               have B1 := Lib.hid (((Below.refl wr.heap.size wr).alloc (Nat.le_refl _) _).trans HW1.below)
               have RW1 := Lib.hid HW1.row
               clear HW1)
            | ((with_reducible show wpList _ _ _ (Oper.mk (some 22) _ _ _ _ _ :: _) _ _); refine wpList_load_row rfl 72 (.tmp 7) rfl wr.heap.size (by kernel_rfl) 72 #[.int .i64 (p.1 : Int), .int .i64 (p.2 : Int)] (0, 0) _ RW1.out Tryz.underlying72 rfl (by kernel_rfl) ?_)
            | (at_mapUpdate; refine wpList_mapUpdate_own _ rfl _ _ _ 77 rfl 72 94 Md.law_pair Tryz.underlying77 unitElem (w.heap.size) _ D rfl (HO.out.kept (row := none) (World.grownBy.but_of B1.out) (by simp)) (by have := HNL.out; unfold maxLen; omega) _ _ _ rfl rfl HKEY.out (.agg []) [] unitElem_mk ?_
               intro w1 hown1 hgrow1
               have HN := Lib.hid hown1; have HG := Lib.hid hgrow1
               clear hown1 hgrow1))
          try go_frame
          go_roundw
          case rel =>
            refine ⟨m + 1, by omega, by go_num, ?_, (HBR2.out.trans (B1.out.mono HBR2.out.size)).grown HG.out (Nat.le_trans HBR2.out.size B1.out.size) (fun j hj => by cases hj; omega)⟩
            rw [HTS.out, ← List.append_assoc, ← Nat.add_assoc]
            exact Md.pset_put (HPS2.out.kp B1.out) (HO.out.kept (row := none) (World.grownBy.but_of B1.out) (by simp)) HD.out HPB.out HN.out
          case measure => simp [intOf]; omega
        · have hmi : ¬ (m : Int) < (s.l.length : Int) := by omega
          have HM := Lib.hid (show m = s.l.length by omega)
          clear hml
          go_wp2
          go_roundw
          case rel =>
            refine ⟨k + 1, by omega, by go_num, ?_, HBR2.out⟩
            have h := HPS2.out
            rw [HM.out, List.take_length, ← HFS.out] at h
            rw [HFS.out, List.length_append, ← HFS.out]
            exact h
          case measure => simp [intOf]; omega
    · have hki : ¬ (k : Int) < (rs.length : Int) := by omega
      have HK := Lib.hid (show k = rs.length by omega)
      clear hlt
      go_wp2
      go_ret
      have h := HPS.out
      have hl := Md.flat_len HIN.out k
      rw [HK.out, List.take_length] at h hl
      exact ⟨_, _, rfl, Nat.le_refl _, hl, h, HBR.out⟩
end Go.Proofs.YtecnnkidalkmfaaGreat
end

section
namespace Go.Proofs.YtecnnkidalkmfaaGreat
open Go.RowKit Go.Maps Go.WideElems
set_option maxRecDepth 100000 in
set_option maxHeartbeats 4000000 in
theorem only_any (a : Option Addr) (c : Nat) (ps : List (Nat × Nat)) (G : FuncId) (caps : Array Value) (f : Nat × Nat → Bool) (w : World) (hin : Ev.PairsIn w a c ps) (hlen : ps.length ≤ 8192) (hE : Ev.Enters G)
    (hF : ∀ W, Below w.heap.size w W → ∀ p ∈ ps, Calls Tryz.prog G (#[Md.pkV p] ++ caps) W fun e w' => e = .returned (.bool (f p)) ∧ Below W.heap.size W w') :
    Calls Tryz.prog 56 #[.slice a ps.length c, .func (.func G) #[] caps] w fun e w' => ∃ a' c', e = .returned (.slice a' (ps.filter f).length c') ∧ Ev.PairsIn w' a' c' (ps.filter f) ∧ Below w.heap.size w w' := by
  have hmax := hin.max; have hle := hin.le
  have HIN := Lib.hid hin; have HF := Lib.hid hF; have HE := Lib.hid hE; clear hin hF hE
  obtain ⟨i0, hi, hz0, hz1, hz2⟩ := info_pair
  have HI := Lib.hid hi; have HZ0 := Lib.hid hz0; have HZ1 := Lib.hid hz1; have HZ2 := Lib.hid hz2
  clear hi hz0 hz1 hz2
  go_enter Tryz.func56, Tryz.ntmps56
  go_wp2
  go_loopw [5, 7, 10] (fun v _ i wr => ∃ k : Nat, k ≤ ps.length ∧ i = .int .i64 (k : Int) ∧ wr.ownsRow w.heap.size 72 2 v ((ps.take k).filter f).length (((ps.take k).filter f).flatMap Ev.pv) ∧ Below w.heap.size w wr) (fun _ _ i _ => ps.length - (intOf i).toNat)
  case atStart =>
    exact ⟨0, Nat.zero_le _, rfl, World.ownsRow_nil _ _ _ _, Below.refl _ _⟩
  case round =>
    obtain ⟨k, hk, rfl, hrow, hbr⟩ := hrel
    have HROW := Lib.hid hrow; have HBR := Lib.hid hbr
    clear hrow hbr
    by_cases hlt : k < ps.length
    · obtain ⟨p, hp⟩ : ∃ p, ps[k]? = some p := ⟨_, List.getElem?_eq_getElem hlt⟩
      obtain ⟨g2, o2, ea2, hc2⟩ := Md.PairsIn.at_ (Md.PairsIn.kp HIN.out (Ev.kp_below HBR.out)) hp
      have HPM := Lib.hid (List.mem_of_getElem? hp)
      have HTS := Lib.hid (Md.take_snoc' hp)
      have HC2 := Lib.hid hc2
      have hki : (k : Int) < (ps.length : Int) := by omega
      have hfl : ((ps.take k).filter f).length ≤ k := Nat.le_trans (List.length_filter_le _ _) (List.length_take_le _ _)
      have HFL := Lib.hid hfl
      have hcf := HE.out
      unfold Ev.Enters at hcf
      clear hp hc2 hfl
      rw [ea2]; clear ea2
      go_wp2_with (first
        | ((with_reducible show wpList _ _ _ (Oper.mk (some 13) _ _ _ _ _ :: _) _ _); refine wpList_load_at rfl 72 (.tmp 12) rfl g2 (o2 + k * 2) (by kernel_rfl) [.int .i64 (p.1 : Int), .int .i64 (p.2 : Int)] _ HC2.out Tryz.underlying72 rfl (by kernel_rfl) ?_)
        | ((with_reducible show wpList _ _ _ (Oper.mk none (Op.store 72 _ _) _ _ _ _ :: _) _ _); refine wpList_store_own rfl 72 (.tmp 7) (.tmp 13) rfl wr.heap.size #[.int .i64 (p.1 : Int), .int .i64 (p.2 : Int)] rfl rfl 72 #[.int .i64 0, .int .i64 0] (heap_alloc_new _ _) (by kernel_rfl) (by kernel_rfl) (by kernel_rfl) ?_
           intro W1 HW1
           have B1 := Lib.hid (((Below.refl wr.heap.size wr).alloc (Nat.le_refl _) _).trans HW1.below)
           have RW1 := Lib.hid HW1.row
           clear HW1)
        | ((with_reducible show wpList _ _ _ (Oper.mk (some 15) _ _ _ _ _ :: _) _ _); refine wpList_load_row rfl 72 (.tmp 7) rfl wr.heap.size (by kernel_rfl) 72 #[.int .i64 (p.1 : Int), .int .i64 (p.2 : Int)] (0, 0) _ RW1.out Tryz.underlying72 rfl (by kernel_rfl) ?_))
      clear hcf
      obtain ⟨b, hb⟩ : ∃ b, f p = b := ⟨_, rfl⟩
      have HFP := HF.out W1 (HBR.out.trans (B1.out.mono HBR.out.size)) p HPM.out
      rw [hb] at HFP
      refine HFP.mono ?_
      clear HFP
      rintro e W2 ⟨rfl, hb2⟩
      have HB2 := Lib.hid ((HBR.out.trans (B1.out.mono HBR.out.size)).trans (hb2.mono (Nat.le_trans HBR.out.size B1.out.size)))
      have RW2 := Lib.hid ((hb2.block wr.heap.size (Array.getElem?_eq_some_iff.1 RW1.out).1).trans RW1.out)
      have HR2 := Lib.hid (Ev.row_below (Ev.row_below HROW.out B1.out) hb2)
      have HSZ := Lib.hid (show wr.heap.size < W2.heap.size from (Array.getElem?_eq_some_iff.1 RW2.out).1)
      have HWS := Lib.hid (show w.heap.size ≤ wr.heap.size from HBR.out.size)
      have HB := Lib.hid hb
      clear hb hb2
      cases b
      · have HTF := Lib.hid (show (ps.take (k + 1)).filter f = (ps.take k).filter f by rw [HTS.out, List.filter_append]; simp [HB.out])
        go_wp2_with fail
        go_roundw
        case rel => exact ⟨k + 1, by omega, by go_num, by rw [HTF.out]; exact HR2.out, HB2.out⟩
        case measure => simp [intOf]; omega
      · have HTF := Lib.hid (show (ps.take (k + 1)).filter f = (ps.take k).filter f ++ [p] by rw [HTS.out, List.filter_append]; simp [HB.out])
        obtain ⟨L, hL⟩ : ∃ L, L = (ps.take k).filter f := ⟨_, rfl⟩
        have HL := Lib.hid hL
        have HR3 := Lib.hid (show W2.ownsRow w.heap.size 72 2 u5 L.length (L.flatMap Ev.pv) by rw [hL]; exact HR2.out)
        have hLn : L.length ≤ 8192 := by rw [hL]; have := HFL.out; omega
        clear hL HR2
        go_wp2_with (first
          | ((with_reducible show wpList _ _ _ (Oper.mk (some 18) _ _ _ _ _ :: _) _ _); refine wpList_load_row rfl 72 (.tmp 7) rfl wr.heap.size (by kernel_rfl) 72 #[.int .i64 (p.1 : Int), .int .i64 (p.2 : Int)] (0, 0) _ RW2.out Tryz.underlying72 rfl (by kernel_rfl) ?_)
          | ((with_reducible show wpList _ _ _ (Oper.mk (some 20) _ _ _ _ _ :: _) _ _); refine wpList_append_own _ rfl (.tmp 17) (.tmp 19) 37 rfl w.heap.size 72 i0 (.agg #[.int .i64 0, .int .i64 0]) 2 16 Tryz.underlying37 HI.out HZ0.out HZ1.out HZ2.out rfl (by decide) _ _ _ rfl (HR3.out.alloc _) ⟨W2.heap.size, 0, none⟩ 1 1 (Ev.pv p) rfl rfl (fun j u hu => World.news_of_block (heap_alloc_new W2 _) j u hu) (Ev.pv_one _) (by unfold maxLen; omega) (by omega) (by have := HB2.out.size; simp only [World.size_alloc]; omega) ?_
             intro v' w3 hown hgrow _
             have HOWN := Lib.hid hown; have HGR := Lib.hid hgrow; clear hown hgrow))
        have HB5 := Lib.hid (Below.grown (HB2.out.alloc HB2.out.size _) HGR.out (by have := HB2.out.size; simp only [World.size_alloc]; omega) (fun k hk => Ev.own_ge HR3.out hk))
        go_roundw
        case rel =>
          refine ⟨k + 1, by omega, by go_num, ?_, HB5.out⟩
          rw [HTF.out, ← HL.out, List.length_append, List.flatMap_append]
          simpa using HOWN.out
        case measure => simp [intOf]; omega
    · have hki : ¬ (k : Int) < (ps.length : Int) := by omega
      have hrow := HROW.out
      rw [show k = ps.length by omega, List.take_length] at hrow
      obtain ⟨A, c', hv, hp⟩ := Ev.pairs_of_row hrow
      have HP := Lib.hid hp
      subst hv
      clear hrow hp hlt
      go_wp2
      go_ret
      exact ⟨A, c', rfl, HP.out, HBR.out⟩
set_option maxRecDepth 100000 in
set_option maxHeartbeats 4000000 in
theorem lead_any (b n : Nat) (S : List (Nat × Nat)) (p q : Nat) (hp : p < 64) (hq : q < 64) (w : World) (hin : Md.PSet w b n S) :
    Calls Tryz.prog 69 #[.map (some b), .int .i64 (p : Int), .int .i64 (q : Int)] w fun e w' => e = .returned (.bool (decide ((p, q) ∈ S))) ∧ Below w.heap.size w w' := by
  obtain ⟨D, ho, hD⟩ := hin.ex
  have HO := Lib.hid ho
  have HKEY := Lib.hid (Md.key_mk (p := (p, q)) ⟨hp, hq⟩)
  obtain ⟨r, hr⟩ : ∃ r, decide ((p, q) ∈ S) = r := ⟨_, rfl⟩
  have HH := Lib.hid ((hD.1 (p, q) ⟨hp, hq⟩).trans hr)
  rw [hr]
  clear hr ho hD hin
  go_enter Tryz.func69, Tryz.ntmps69
  go_wp2_with (at_lookup; refine wpList_lookup_own_unit _ rfl _ _ 77 rfl 72 94 Md.law_pair Tryz.underlying77 (zero_unit _) b n D rfl HO.out _ _ rfl HKEY.out ?_; rw [HH.out])
  go_ret
  exact ⟨rfl, (Below.refl _ _).alloc (Nat.le_refl _) _⟩
end Go.Proofs.YtecnnkidalkmfaaGreat
end

section
namespace Go.Og
open Go Go.RowKit
variable {F : Fence} {n : Nat} {P : Program}
def KeepsBut (l : Nat) (W W' : World) : Prop := ∀ k o, k ≠ l → W.heap[k]? = some o → o.isCells = false → W'.heap[k]? = some o
def IterS {α σ : Type} (F : Fence) (n : Nat) (P : Program) (g : Nat) (lb : Array Value) (R : World → Prop) (enc : α → Array Value) (st : σ → α → σ → Prop) (s0 : σ) (fin : σ → Prop) : Prop :=
  ∀ (l : Nat) (J : σ → World → Prop) (Jx : World → Prop) (W : World),
    (∀ s A A', J s A → Below A.heap.size A A' → J s A') → (∀ s A A' r o, J s A → W.heap.size ≤ r → A.heap[r]? = some o → o.isCells = false → A.grownBy A' (some r) → J s A') →
    (∀ A A' r o, Jx A → W.heap.size ≤ r → A.heap[r]? = some o → o.isCells = false → A.grownBy A' (some r) → Jx A') → (∀ s A, J s A → R A) → (∃ q, W.heap[l]? = some (.loop q)) →
    (∀ s x s' W1, st s x s' → J s W1 → YieldAt F (n - 1) P l (enc x) W1 fun e W' => KeepsBut l W1 W' ∧ W1.heap.size ≤ W'.heap.size ∧ ((e = .returned (.bool true) ∧ J s' W') ∨ (e = .returned (.bool false) ∧ Jx W'))) →
    J s0 W → CallsIn F n P g (#[.func (.yield l) #[] #[]] ++ lb) W fun e W' => (∃ v, e = .returned v) ∧ ((∃ s, fin s ∧ J s W') ∨ Jx W')
def siPost {σ : Type} (I : σ → World → Prop) (Ix : Code → World → Prop) (s' : σ) (W : World) : Exit → Act → World → Prop
  | .normal, _, W' => KeepsOthers W W' ∧ I s' W'
  | .ret, _, W' => KeepsOthers W W' ∧ Ix .ret W'
  | .exit id, _, W' => KeepsOthers W W' ∧ Ix (.exit id) W'
  | .goto t, _, W' => KeepsOthers W W' ∧ Ix (.goto t) W'
  | .panic _, _, _ => False
  | .outgrown, _, _ => False
theorem wpIn_rangeFunc_sts {α σ : Type} {g : Operand} {ps : Array Tmp} {assign body : Code} {Q : Exit → Act → World → Prop} {a : Act} {w : World}
    (hro : F.round = none) (h1 : 1 ≤ n) {gf : Nat} {lb : Array Value} (hg : a.eval g = .func (.func gf) #[] lb) (hFg : F.fn gf) (eg : ∀ args w, (callFunc gf args).run P w = .ok (.enter gf args) w)
    {R : World → Prop} {enc : α → Array Value} {st : σ → α → σ → Prop} {s0 : σ} {fin : σ → Prop} (hit : IterS F (n - 1) P gf lb R enc st s0 fin) (hps : ∀ s, (enc s).size = ps.size)
    (I : σ → World → Prop) (Ix : Code → World → Prop)
    (hb : ∀ k A A', I k A → Below A.heap.size A A' → I k A') (hp : ∀ k A l o o', I k A → w.heap.size ≤ l → A.heap[l]? = some o → o.isCells = false → I k (A.putObj l o'))
    (hg' : ∀ (k : σ) (A A' : World) (r : Nat) (o : Obj), I k A → w.heap.size ≤ r → A.heap[r]? = some o → o.isCells = false → A.grownBy A' (some r) → I k A') (hgx : ∀ (c : Code) (A A' : World) (r : Nat) (o : Obj), Ix c A → w.heap.size ≤ r → A.heap[r]? = some o → o.isCells = false → A.grownBy A' (some r) → Ix c A')
    (hpx : ∀ (c : Code) (A : World) (l : Nat) (o o' : Obj), Ix c A → w.heap.size ≤ l → A.heap[l]? = some o → o.isCells = false → Ix c (A.putObj l o'))
    (hR : ∀ k A, I k A → R A)
    (h0 : I s0 w) (a₁ : α → World → Act) (w₁ : α → World → World) (hw₁ : ∀ (s : α) (W : World), Below W.heap.size W (w₁ s W))
    (hassign : ∀ (l : Nat) (s : α) (W : World) (K : Act → World → Prop), K (a₁ s W) (w₁ s W) →
      assign.wpIn (F.inRound l) (n - 1 - 1) P (Exit.then K (fun _ _ _ => False)) { tmps := (ps.zip (enc s)).foldl (fun t (p, v) => t.setIfInBounds p v) a.tmps, defers := [] } W)
    (hbody : ∀ (l : Nat) (k k2 : σ) (s : α) (W W' : World), st k s k2 → I k W → I k W' → (∀ (b : Nat) (o : Obj), (w₁ s W).heap[b]? = some o → o.isCells = true → W'.heap[b]? = some o) → W'.heap.size = (w₁ s W).heap.size → body.wpIn (F.inRound l) (n - 1 - 1) P (siPost I Ix k2 W') (a₁ s W) W')
    (hdone : ∀ (D : Nat) (k : σ) (W : World), w.heap.size ≤ D → fin k → I k W → W.heap[D]? = some (.deferred (some [])) → Q .normal { a with defers := { target := .collected D, args := #[] } :: a.defers } W)
    (hstop : ∀ (D : Nat) (c : Code) (W : World), w.heap.size ≤ D → Ix c W → W.heap[D]? = some (.deferred (some [])) → c.wpIn F n P Q { a with defers := { target := .collected D, args := #[] } :: a.defers } W) :
    (Code.rangeFunc g ps assign body).wpIn F n P Q a w := by
  refine wpIn_rangeFunc fun fn hfn => ?_
  rw [hro]
  obtain ⟨rec, hrec⟩ : ∃ rec : LoopState → Option Code → Loop, rec = fun st pe => { state := st, pending := pe, fn, tmps := a.tmps, params := ps, assign, body, defers := w.heap.size } := ⟨_, rfl⟩
  obtain ⟨W1, hW1⟩ : ∃ W1, (w.alloc (.deferred (some []))).alloc (.loop (rec .ready none)) = W1 := ⟨_, rfl⟩
  have hD : W1.heap[w.heap.size]? = some (.deferred (some [])) := by
    rw [← hW1]; exact (Below.heap_alloc _ _ _ (by simp)).trans (World.alloc_heap_new w _)
  have hL : W1.heap[w.heap.size + 1]? = some (.loop (rec .ready none)) := by
    have := World.alloc_heap_new (w.alloc (.deferred (some []))) (.loop (rec .ready none)); rw [World.size_alloc] at this; rw [← hW1]; exact this
  have hI1 : I s0 W1 := by
    rw [← hW1]; exact hb _ _ _ h0 (((Below.refl _ w).alloc (Nat.le_refl _) _).alloc (by simp) _)
  refine ⟨w.heap.size + 1, [{ target := .collected w.heap.size, args := #[] }], W1, { target := .fn (.func gf) lb, args := #[.func (.yield (w.heap.size + 1)) #[] #[]] }, W1, gf,
    #[.func (.yield (w.heap.size + 1)) #[] #[]] ++ lb, W1, ?_, ?_, ?_, ?_, fun _ => h1, ?_⟩
  · rw [← hW1, hrec]; exact run_enterLoop_outer _ _ _ _ _
  · simp only [resolve, hg]; simp [go_sem]
  · intro f' hf'; simp [Target.leads] at hf'; subst hf'; exact hFg
  · simp [invoke, go_sem, eg]
  · have hw1 : w.heap.size + 2 = W1.heap.size := by rw [← hW1]; simp
    have kg : ∀ {A A' : World} {k r : Nat} {o : Obj}, k < W1.heap.size → W1.heap.size ≤ r → A.grownBy A' (some r) → A.heap[k]? = some o → A'.heap[k]? = some o := fun h1 h2 hg h => (hg.block _ (Array.getElem?_eq_some_iff.1 h).1 (by simp; omega)).trans h
    have kd : ∀ {A A' : World} {k : Nat} {o : Obj}, Below A.heap.size A A' → A.heap[k]? = some o → A'.heap[k]? = some o := fun hb' h => (hb'.block _ (Array.getElem?_eq_some_iff.1 h).1).trans h
    refine (hit (w.heap.size + 1) (fun (k : σ) W => I k W ∧ W.heap[w.heap.size + 1]? = some (.loop (rec .ready none)) ∧ W.heap[w.heap.size]? = some (.deferred (some [])))
      (fun W => ∃ c, Ix c W ∧ W.heap[w.heap.size + 1]? = some (.loop (rec .done (some c))) ∧ W.heap[w.heap.size]? = some (.deferred (some []))) W1
      (fun k A A' h hb' => ⟨hb _ _ _ h.1 hb', kd hb' h.2.1, kd hb' h.2.2⟩) (fun k A A' r o h hr ho hc hg => ⟨hg' _ _ _ _ _ h.1 (by omega) ho hc hg, kg (by omega) hr hg h.2.1, kg (by omega) hr hg h.2.2⟩)
      (fun A A' r o ⟨c, h, hl, hd⟩ hr ho hc hg => ⟨c, hgx _ _ _ _ _ h (by omega) ho hc hg, kg (by omega) hr hg hl, kg (by omega) hr hg hd⟩) (fun k A h => hR _ _ h.1) ⟨_, hL⟩ ?_ ⟨hI1, hL, hD⟩).mono ?_
    · rintro k s k2 W hs ⟨hi, hl, hk⟩
      have hy := run_yield (P := P) (args := enc s) hl (by rw [hrec]; exact hps s)
      rw [hrec] at hy
      obtain ⟨V, hV⟩ : ∃ V, V = w₁ s W := ⟨_, rfl⟩
      have hbv : Below W.heap.size W V := by rw [hV]; exact hw₁ s W
      have hiW := hi; have hi := hb _ _ _ hi hbv
      have hl := kd hbv hl; have hk := kd hbv hk
      have hlt : w.heap.size + 1 < V.heap.size := (Array.getElem?_eq_some_iff.1 hl).1
      refine ⟨fn, _, assign, body, hy, roundIn_of_wpIn hfn (hassign _ s W _ ?_)⟩
      rw [← hV]
      refine ⟨_, run_beginRound hl (by rw [hrec]), ?_⟩
      have hl2 : (V.putObj (w.heap.size + 1) (.loop { rec .ready none with state := .busy })).heap[w.heap.size + 1]? = some (.loop { rec .ready none with state := .busy }) := World.putObj_heap_same hlt
      have hk2 : (V.putObj (w.heap.size + 1) (.loop { rec .ready none with state := .busy })).heap[w.heap.size]? = some (.deferred (some [])) := (World.putObj_heap_other (by omega)).trans hk
      have fin : ∀ (jump : Option Code) (W3 : World), KeepsOthers (V.putObj (w.heap.size + 1) (.loop { rec .ready none with state := .busy })) W3 →
          (Instr.endRound (w.heap.size + 1) jump).run P W3 = .ok (.bool jump.isNone) (W3.putObj (w.heap.size + 1) (.loop (rec (if jump.isNone then .ready else .done) jump))) ∧
          W3.heap[w.heap.size + 1]? = some (.loop { rec .ready none with state := .busy }) ∧
          (W3.putObj (w.heap.size + 1) (.loop (rec (if jump.isNone then .ready else .done) jump))).heap[w.heap.size + 1]? = some (.loop (rec (if jump.isNone then .ready else .done) jump)) ∧
          (W3.putObj (w.heap.size + 1) (.loop (rec (if jump.isNone then .ready else .done) jump))).heap[w.heap.size]? = some (.deferred (some [])) := fun jump W3 hk3 => by
        have hl3 := hk3.same _ _ hl2 rfl
        have he := run_endRound (P := P) jump hl3
        rw [hrec] at he ⊢
        exact ⟨he, by rw [hrec] at hl3; exact hl3, World.putObj_heap_same (Array.getElem?_eq_some_iff.1 hl3).1, (World.putObj_heap_other (by omega)).trans (hk3.same _ _ hk2 rfl)⟩
      have kb : ∀ {W3 : World} {o3 : Obj}, KeepsOthers (V.putObj (w.heap.size + 1) (.loop { rec .ready none with state := .busy })) W3 → KeepsBut (w.heap.size + 1) W (W3.putObj (w.heap.size + 1) o3) := fun hk3 k o hne ho hc =>
        (World.putObj_heap_other hne).trans (hk3.same _ _ ((World.putObj_heap_other hne).trans ((hbv.block k (Array.getElem?_eq_some_iff.1 ho).1).trans ho)) hc)
      have ks : ∀ {W3 : World} {o3 : Obj}, KeepsOthers (V.putObj (w.heap.size + 1) (.loop { rec .ready none with state := .busy })) W3 → W.heap.size ≤ (W3.putObj (w.heap.size + 1) o3).heap.size := fun hk3 => by
        have := hk3.1; have := hbv.size; simp at *; omega
      refine wpIn_mono (hbody _ k k2 s W _ hs hiW (hp _ _ _ _ _ hi (Nat.le_succ _) hl rfl) (fun b o hbo hc => by rw [← hV] at hbo; exact (World.putObj_heap_other (fun e => by rw [e, hl] at hbo; cases hbo; cases hc)).trans hbo) (by rw [← hV]; simp)) ?_
      rintro e a3 W3 hpost
      cases e with
      | normal =>
        obtain ⟨hk3, hi3⟩ := hpost
        obtain ⟨hr3, hl3, hl4, hk4⟩ := fin none W3 hk3
        exact ⟨_, _, hr3, kb hk3, ks hk3, .inl ⟨rfl, hp _ _ _ _ _ hi3 (Nat.le_succ _) hl3 rfl, hl4, hk4⟩⟩
      | ret =>
        obtain ⟨hk3, hi3⟩ := hpost
        obtain ⟨hr3, hl3, hl4, hk4⟩ := fin (some .ret) W3 hk3
        exact ⟨_, _, hr3, kb hk3, ks hk3, .inr ⟨rfl, .ret, hpx _ _ _ _ _ hi3 (Nat.le_succ _) hl3 rfl, hl4, hk4⟩⟩
      | exit id =>
        obtain ⟨hk3, hi3⟩ := hpost
        obtain ⟨hr3, hl3, hl4, hk4⟩ := fin (some (.exit id)) W3 hk3
        exact ⟨_, _, hr3, kb hk3, ks hk3, .inr ⟨rfl, .exit id, hpx _ _ _ _ _ hi3 (Nat.le_succ _) hl3 rfl, hl4, hk4⟩⟩
      | goto t =>
        obtain ⟨hk3, hi3⟩ := hpost
        obtain ⟨hr3, hl3, hl4, hk4⟩ := fin (some (.goto t)) W3 hk3
        exact ⟨_, _, hr3, kb hk3, ks hk3, .inr ⟨rfl, .goto t, hpx _ _ _ _ _ hi3 (Nat.le_succ _) hl3 rfl, hl4, hk4⟩⟩
      | panic ch => exact hpost.elim
      | outgrown => exact hpost.elim
    · rintro e W2 ⟨⟨v, rfl⟩, (⟨k, hf, hi, hl, hk⟩ | ⟨c, hi, hl, hk⟩)⟩
      · exact ⟨none, _, by have := run_endLoop (P := P) hl (by rw [hrec]; simp); rw [hrec] at this; exact this, hdone _ _ _ (Nat.le_refl _) hf (hp _ _ _ _ _ hi (Nat.le_succ _) hl rfl) ((World.putObj_heap_other (by omega)).trans hk)⟩
      · exact ⟨some c, _, by have := run_endLoop (P := P) hl (by rw [hrec]; simp); rw [hrec] at this; exact this, hstop _ c _ (Nat.le_refl _) (hpx _ _ _ _ _ hi (Nat.le_succ _) hl rfl) ((World.putObj_heap_other (by omega)).trans hk)⟩
end Go.Og
end
