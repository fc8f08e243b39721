import Derived.Test.YtecnnkidalkmfaaGreatKc22
import Derived.Test.YtecnnkidalkmfaaGreatKc19
import Derived.Deep.QuietTactic
import Derived.Laws.Rows
set_option linter.unusedVariables false
set_option linter.unusedSimpArgs false

section
namespace Go.Proofs.YtecnnkidalkmfaaGreat
open Go.RowKit Go.Maps Go.WideElems
namespace Md
structure KIn (cb b n : Nat) (S : List (Nat × Nat)) (W : World) : Prop where
  box : W.cell? ⟨cb, 0, none⟩ = some (.map (some b))
  set : PSet W b n S
def kst (S : List (Nat × Nat)) (ss : List (Nat × Nat)) (p : Nat × Nat) (ss' : List (Nat × Nat)) : Prop := p ∈ S ∧ p ∉ ss ∧ ss.Nodup ∧ (∀ q ∈ ss, q ∈ S) ∧ ss' = ss ++ [p]
def kfin (S : List (Nat × Nat)) (ss : List (Nat × Nat)) : Prop := ss.Nodup ∧ ∀ p, p ∈ ss ↔ p ∈ S
theorem lit_of {S : List (Nat × Nat)} {D : DataW Unit} (h : ∀ l, Maps.has D l = true → ∃ p ∈ S, l = plit p) (hlt : ∀ p ∈ S, p.1 < 64 ∧ p.2 < 64) {x : Int × Int} {kl : Lit} {y : DataW Unit}
    (hk : keyOf Tryz.prog 72 (.agg #[.int .i64 x.1, .int .i64 x.2]) = some kl) (ha : ∀ zd, D.atKey kl zd = y) : ∃ p ∈ S, kl = plit p ∧ x = ((p.1 : Int), (p.2 : Int)) := by
  obtain ⟨p, hp, rfl⟩ := h kl (Maps.has_true_of_atKey ha)
  have e := law_pair.inj hk (key_mk (hlt p hp))
  simp [pkV] at e
  exact ⟨p, hp, rfl, Prod.ext e.1 e.2⟩
end Md
set_option maxRecDepth 100000 in
set_option maxHeartbeats 4000000 in
theorem keys_iter (m : Nat) (hm : 1 ≤ m) (cb b n : Nat) (S : List (Nat × Nat)) :
    Og.IterS Fence.wide m Tryz.prog 89 #[.pointer (some ⟨cb, 0, none⟩)] (Md.KIn cb b n S) (fun p : Nat × Nat => #[Md.pkV p]) (Md.kst S) [] (Md.kfin S) := by
  intro l J Jx W hst hgr hgx hR hL hY h0
  have hk0 := hR _ _ h0
  obtain ⟨D, ho, hD⟩ := hk0.set.ex
  have hlt := hk0.set.lt
  have c1 := hk0.box
  obtain ⟨lq, hlq⟩ := hL
  have hbl : b ≠ l := fun e => by
    obtain ⟨es, clock, hb, _⟩ := ho
    rw [e, hlq] at hb; cases hb
  have hll : l < W.heap.size := (Array.getElem?_eq_some_iff.1 hlq).1
  have HST := Lib.hid hst; have HG := Lib.hid hgr; have HGX := Lib.hid hgx; have HY := Lib.hid hY; have H0 := Lib.hid h0; have HD := Lib.hid hD; have HO := Lib.hid ho; have HLT := Lib.hid hlt; have HBL := Lib.hid hbl; have HLL := Lib.hid hll
  clear hst hgr hgx hR hlq hY h0 hk0 hD ho hlt hbl hll
  refine callsIn_of_wp Tryz.func89 rfl trivial ?_ rfl
  simp only [Tryz.ntmps89, List.size_toArray, List.length_cons, List.length_nil, Nat.reduceAdd, Nat.reduceSub, Array.replicate_succ, Array.replicate_zero, List.push_toArray, List.append_toArray, List.nil_append, List.cons_append]
  gi_wp2_with (gi_at_range; refine wpListIn_range_own _ rfl _ 77 rfl 72 94 Md.law_pair Tryz.underlying77 unitElem b n D rfl HO.out ?_; intro w0 hrg0 hg0 hs0; have HRG0 := Lib.hid hrg0; have HG0 := Lib.hid hg0; clear hrg0 hg0 hs0)
  try go_frame
  clear c1
  gi_loopw [3] (fun _ wr => ∃ (left : Lit → Bool) (cnt : Nat) (ss : List (Nat × Nat)), wr.ranges Tryz.prog 72 unitElem b W.heap.size n D left cnt ∧ Md.Met S left ss ∧ J ss wr) (fun _ wr => wr.rangeLeft b W.heap.size)
  case atStart =>
    exact ⟨_, _, [], HRG0.out, Md.Met.start HD.out.1 HLT.out, HST.out _ _ _ H0.out ⟨HG0.out.os, HG0.out.tape, HG0.out.output, HG0.out.size, fun i hi => HG0.out.block i hi (by simp)⟩⟩
  case round =>
    obtain ⟨left, cnt, ss, hrg, hM, hJs⟩ := hrel
    have HRG := Lib.hid hrg; have HM := Lib.hid hM; have HJ := Lib.hid hJs
    clear hrg hM hJs
    gi_wp2_with (gi_at_next; refine wpListIn_next_ranges _ rfl _ rfl 72 Md.law_pair unitElem (fun x : Int × Int => .agg #[.int .i64 x.1, .int .i64 x.2]) (fun _ : Unit => .agg #[]) (fun key kl hk => Md.key_inv hk) (fun v y hv => ⟨(), (unitElem_inv hv).1⟩) b W.heap.size n _ _ _ rfl HRG.out ?_ ?_)
    · intro hc0 hl0
      have HL0 := Lib.hid hl0
      clear hc0 hl0
      gi_wp2_with fail
      go_end0
      exact ⟨⟨_, rfl⟩, .inl ⟨ss, ⟨HM.out.nd, HM.out.all HL0.out⟩, HJ.out⟩⟩
    · intro x1 x2 kl yd yp w2 cnt2 hkey hlk hv hat hrg2 hlt2 hg2 hs2 hen
      obtain ⟨p, hp, rfl, hxe⟩ := Md.lit_of (x := (x1, x2)) HD.out.2 HLT.out hkey hat
      obtain ⟨rfl, rfl⟩ := Prod.mk.inj hxe
      have HM2 := Lib.hid (HM.out.step HLT.out hp hlk)
      obtain ⟨oit, hoit, hoc⟩ : ∃ o, wr.heap[W.heap.size]? = some o ∧ o.isCells = false := by
        obtain ⟨es, clock, since, seen, c0, _, _, _, _, hr, _⟩ := HRG.out
        exact ⟨_, hr, rfl⟩
      have HJ2 := Lib.hid (HG.out ss wr w2 W.heap.size oit HJ.out (Nat.le_refl _) hoit hoc hg2)
      have HPS := Lib.hid hp
      have HRG2 := Lib.hid hrg2; have HLT2 := Lib.hid hlt2; have HG2 := Lib.hid hg2
      clear hkey hlk hv hat hrg2 hlt2 hg2 hs2 hoit hoc hp
      obtain ⟨W1, hW1⟩ : ∃ W1, W1 = w2.alloc (.cells #[.int .i64 (p.1 : Int), .int .i64 (p.2 : Int)] 72) := ⟨_, rfl⟩
      obtain ⟨fn, tmps, assign, body, hy, hRd⟩ := HY.out ss p _ W1 ⟨HPS.out, HM2.out.1, HM.out.nd, HM.out.sub, rfl⟩ (HST.out _ _ _ HJ2.out (by rw [hW1]; exact (Below.refl _ _).alloc (Nat.le_refl _) _))
      rw [hW1] at hy
      have HW1 := Lib.hid hW1; clear hW1
      have hy : Sem.run Tryz.prog (Instr.yield l #[.agg #[.int .i64 (p.1 : Int), .int .i64 (p.2 : Int)]]) (w2.alloc (.cells #[.int .i64 (p.1 : Int), .int .i64 (p.2 : Int)] 72)) = Result.ok (Next.round l fn tmps assign body) (w2.alloc (.cells #[.int .i64 (p.1 : Int), .int .i64 (p.2 : Int)] 72)) := hy
      gi_wp2_with fail
      rw [← HW1.out]
      refine hRd.mono ?_
      rintro e W3 ⟨hkb, hsz, (⟨rfl, hJ3⟩ | ⟨rfl, hJx3⟩)⟩
      · have HRG3 := Lib.hid (show W3.ranges Tryz.prog 72 unitElem b W.heap.size n D (fun z => left z && !z.sameKey (Md.plit p)) cnt2 by
          have hrg := HRG2.out.alloc (.cells #[.int .i64 (p.1 : Int), .int .i64 (p.2 : Int)] 72)
          rw [← HW1.out] at hrg
          obtain ⟨es, clock, since, seen, c0, hb, F, hs, hDD, hr, rest⟩ := hrg
          exact ⟨es, clock, since, seen, c0, hkb b _ HBL.out hb rfl, F, hs, hDD, hkb _ _ (by have := HLL.out; omega) hr rfl, rest⟩)
        have HJ3 := Lib.hid hJ3; clear hJ3 hy hRd hkb hsz
        gi_wp2_with fail
        go_roundw
        case rel => exact ⟨_, cnt2, ss ++ [p], HRG3.out, HM2.out.2, HJ3.out⟩
        case measure => rw [HRG3.out.left_eq, HRG.out.left_eq]; exact HLT2.out
      · have HJ3 := Lib.hid hJx3; clear hJx3 hy hRd hkb hsz
        gi_wp2_with fail
        refine bodyPost_ret (results_none rfl _ _ _) rfl ?_
        exact ⟨⟨_, rfl⟩, .inr HJ3.out⟩
end Go.Proofs.YtecnnkidalkmfaaGreat
end

section
namespace Go.Proofs.YtecnnkidalkmfaaGreat
open Go.RowKit
set_option maxRecDepth 100000 in
set_option maxHeartbeats 4000000 in
theorem bare_k0 (w : World) (h k a v r : Int) (q l : Bool) (p s : Int) (z : Bool) (d1 d2 d3 : Ev.Sl) (f0 : decide (k < 1) = true) : Calls Tryz.prog 29 #[Ev.evV (⟨h, k, a, v, r, q, l, p, s, z, d1, d2, d3⟩ : Ev.R)] w fun e w' => e = .returned (.bool false) ∧ Below w.heap.size w w' := by
  have B0 := Lib.hid ((Below.refl w.heap.size w).alloc (Nat.le_refl _) (.cells (Ev.cells (⟨h, k, a, v, r, q, l, p, s, z, d1, d2, d3⟩ : Ev.R)).toArray 48))
  unfold Ev.evV Ev.cells
  go_enter Tryz.func29, Tryz.ntmps29
  go_wp2
  go_ret
  exact ⟨rfl, B0.out⟩
set_option maxRecDepth 100000 in
set_option maxHeartbeats 4000000 in
theorem bare_k6 (w : World) (h k a v r : Int) (q l : Bool) (p s : Int) (z : Bool) (d1 d2 d3 : Ev.Sl) (f0 : decide (k < 1) = false) (f1 : decide (5 < k) = true) : Calls Tryz.prog 29 #[Ev.evV (⟨h, k, a, v, r, q, l, p, s, z, d1, d2, d3⟩ : Ev.R)] w fun e w' => e = .returned (.bool false) ∧ Below w.heap.size w w' := by
  have B0 := Lib.hid ((Below.refl w.heap.size w).alloc (Nat.le_refl _) (.cells (Ev.cells (⟨h, k, a, v, r, q, l, p, s, z, d1, d2, d3⟩ : Ev.R)).toArray 48))
  unfold Ev.evV Ev.cells
  go_enter Tryz.func29, Tryz.ntmps29
  go_wp2
  go_ret
  exact ⟨rfl, B0.out⟩
set_option maxRecDepth 100000 in
set_option maxHeartbeats 4000000 in
theorem bare_p0 (w : World) (h k a v r : Int) (q l : Bool) (p s : Int) (z : Bool) (d1 d2 d3 : Ev.Sl) (f0 : decide (k < 1) = false) (f1 : decide (5 < k) = false) (f2 : decide (p < 0) = true) : Calls Tryz.prog 29 #[Ev.evV (⟨h, k, a, v, r, q, l, p, s, z, d1, d2, d3⟩ : Ev.R)] w fun e w' => e = .returned (.bool false) ∧ Below w.heap.size w w' := by
  have B0 := Lib.hid ((Below.refl w.heap.size w).alloc (Nat.le_refl _) (.cells (Ev.cells (⟨h, k, a, v, r, q, l, p, s, z, d1, d2, d3⟩ : Ev.R)).toArray 48))
  unfold Ev.evV Ev.cells
  go_enter Tryz.func29, Tryz.ntmps29
  go_wp2
  go_ret
  exact ⟨rfl, B0.out⟩
set_option maxRecDepth 100000 in
set_option maxHeartbeats 4000000 in
theorem bare_p4 (w : World) (h k a v r : Int) (q l : Bool) (p s : Int) (z : Bool) (d1 d2 d3 : Ev.Sl) (f0 : decide (k < 1) = false) (f1 : decide (5 < k) = false) (f2 : decide (p < 0) = false) (f3 : decide (3 < p) = true) : Calls Tryz.prog 29 #[Ev.evV (⟨h, k, a, v, r, q, l, p, s, z, d1, d2, d3⟩ : Ev.R)] w fun e w' => e = .returned (.bool false) ∧ Below w.heap.size w w' := by
  have B0 := Lib.hid ((Below.refl w.heap.size w).alloc (Nat.le_refl _) (.cells (Ev.cells (⟨h, k, a, v, r, q, l, p, s, z, d1, d2, d3⟩ : Ev.R)).toArray 48))
  unfold Ev.evV Ev.cells
  go_enter Tryz.func29, Tryz.ntmps29
  go_wp2
  go_ret
  exact ⟨rfl, B0.out⟩
set_option maxRecDepth 100000 in
set_option maxHeartbeats 4000000 in
theorem bare_s0 (w : World) (h k a v r : Int) (q l : Bool) (p s : Int) (z : Bool) (d1 d2 d3 : Ev.Sl) (f0 : decide (k < 1) = false) (f1 : decide (5 < k) = false) (f2 : decide (p < 0) = false) (f3 : decide (3 < p) = false) (f4 : decide (s < 0) = true) : Calls Tryz.prog 29 #[Ev.evV (⟨h, k, a, v, r, q, l, p, s, z, d1, d2, d3⟩ : Ev.R)] w fun e w' => e = .returned (.bool false) ∧ Below w.heap.size w w' := by
  have B0 := Lib.hid ((Below.refl w.heap.size w).alloc (Nat.le_refl _) (.cells (Ev.cells (⟨h, k, a, v, r, q, l, p, s, z, d1, d2, d3⟩ : Ev.R)).toArray 48))
  unfold Ev.evV Ev.cells
  go_enter Tryz.func29, Tryz.ntmps29
  go_wp2
  go_ret
  exact ⟨rfl, B0.out⟩
set_option maxRecDepth 100000 in
set_option maxHeartbeats 4000000 in
theorem bare_s4 (w : World) (h k a v r : Int) (q l : Bool) (p s : Int) (z : Bool) (d1 d2 d3 : Ev.Sl) (f0 : decide (k < 1) = false) (f1 : decide (5 < k) = false) (f2 : decide (p < 0) = false) (f3 : decide (3 < p) = false) (f4 : decide (s < 0) = false) (f5 : decide (3 < s) = true) : Calls Tryz.prog 29 #[Ev.evV (⟨h, k, a, v, r, q, l, p, s, z, d1, d2, d3⟩ : Ev.R)] w fun e w' => e = .returned (.bool false) ∧ Below w.heap.size w w' := by
  have B0 := Lib.hid ((Below.refl w.heap.size w).alloc (Nat.le_refl _) (.cells (Ev.cells (⟨h, k, a, v, r, q, l, p, s, z, d1, d2, d3⟩ : Ev.R)).toArray 48))
  unfold Ev.evV Ev.cells
  go_enter Tryz.func29, Tryz.ntmps29
  go_wp2
  go_ret
  exact ⟨rfl, B0.out⟩
set_option maxRecDepth 100000 in
set_option maxHeartbeats 4000000 in
theorem bare1_p (w : World) (h : Int) (a : Int) (v : Int) (r : Int) (q : Bool) (l : Bool) (p : Int) (s : Int) (z : Bool) (d1 : Ev.Sl) (d2 : Ev.Sl) (d3 : Ev.Sl) (tp : decide (p < 0) = false) (tp3 : decide (3 < p) = false) (ts : decide (s < 0) = false) (ts3 : decide (3 < s) = false) (t : (p != 0) = true) : Calls Tryz.prog 29 #[Ev.evV (⟨h, 1, a, v, r, q, l, p, s, z, d1, d2, d3⟩ : Ev.R)] w fun e w' => e = .returned (.bool false) ∧ Below w.heap.size w w' := by
  have R0 := Lib.hid (heap_alloc_new w (.cells (Ev.cells (⟨h, 1, a, v, r, q, l, p, s, z, d1, d2, d3⟩ : Ev.R)).toArray 48))
  have B0 := Lib.hid ((Below.refl w.heap.size w).alloc (Nat.le_refl _) (.cells (Ev.cells (⟨h, 1, a, v, r, q, l, p, s, z, d1, d2, d3⟩ : Ev.R)).toArray 48))
  unfold Ev.evV Ev.cells
  go_enter Tryz.func29, Tryz.ntmps29
  go_wp2
  go_ret
  exact ⟨rfl, B0.out⟩
set_option maxRecDepth 100000 in
set_option maxHeartbeats 4000000 in
theorem bare1_s (w : World) (h : Int) (a : Int) (v : Int) (r : Int) (q : Bool) (l : Bool) (s : Int) (z : Bool) (d1 : Ev.Sl) (d2 : Ev.Sl) (d3 : Ev.Sl) (ts : decide (s < 0) = false) (ts3 : decide (3 < s) = false) (t : (s != 0) = true) : Calls Tryz.prog 29 #[Ev.evV (⟨h, 1, a, v, r, q, l, 0, s, z, d1, d2, d3⟩ : Ev.R)] w fun e w' => e = .returned (.bool false) ∧ Below w.heap.size w w' := by
  have R0 := Lib.hid (heap_alloc_new w (.cells (Ev.cells (⟨h, 1, a, v, r, q, l, 0, s, z, d1, d2, d3⟩ : Ev.R)).toArray 48))
  have B0 := Lib.hid ((Below.refl w.heap.size w).alloc (Nat.le_refl _) (.cells (Ev.cells (⟨h, 1, a, v, r, q, l, 0, s, z, d1, d2, d3⟩ : Ev.R)).toArray 48))
  unfold Ev.evV Ev.cells
  go_enter Tryz.func29, Tryz.ntmps29
  go_wp2
  go_ret
  exact ⟨rfl, B0.out⟩
set_option maxRecDepth 100000 in
set_option maxHeartbeats 4000000 in
theorem bare1_v (w : World) (h : Int) (a : Int) (v : Int) (r : Int) (q : Bool) (l : Bool) (z : Bool) (d1 : Ev.Sl) (d2 : Ev.Sl) (d3 : Ev.Sl) (t : (v != 0) = true) : Calls Tryz.prog 29 #[Ev.evV (⟨h, 1, a, v, r, q, l, 0, 0, z, d1, d2, d3⟩ : Ev.R)] w fun e w' => e = .returned (.bool false) ∧ Below w.heap.size w w' := by
  have R0 := Lib.hid (heap_alloc_new w (.cells (Ev.cells (⟨h, 1, a, v, r, q, l, 0, 0, z, d1, d2, d3⟩ : Ev.R)).toArray 48))
  have B0 := Lib.hid ((Below.refl w.heap.size w).alloc (Nat.le_refl _) (.cells (Ev.cells (⟨h, 1, a, v, r, q, l, 0, 0, z, d1, d2, d3⟩ : Ev.R)).toArray 48))
  unfold Ev.evV Ev.cells
  go_enter Tryz.func29, Tryz.ntmps29
  go_wp2_with (with_reducible show wpList _ _ _ (Oper.mk (some 72) _ _ _ _ _ :: _) _ _; refine wpList_load_row rfl 48 (.tmp 1) rfl w.heap.size rfl 48 (Ev.cells (⟨h, 1, a, v, r, q, l, 0, 0, z, d1, d2, d3⟩ : Ev.R)).toArray (0, 0) _ R0.out Tryz.underlying48 rfl (by kernel_rfl) ?_)
  refine (rstores_is (x := (⟨h, 1, a, v, r, q, l, 0, 0, z, d1, d2, d3⟩ : Ev.R)) (b := false) rfl _).mono ?_
  rintro e W2 ⟨rfl, hb⟩
  have R2 := Lib.hid ((hb.block w.heap.size (by simp only [World.size_alloc]; omega)).trans R0.out)
  have B2 := Lib.hid (B0.out.trans (hb.mono (by simp only [World.size_alloc]; omega))); clear hb
  have c2 : W2.cell? ⟨w.heap.size, 2, none⟩ = some (.int .u32 a) := by rw [cell_of_row _ _ _ _ _ _ R2.out]; rfl
  have c3 : W2.cell? ⟨w.heap.size, 3, none⟩ = some (.int .u32 v) := by rw [cell_of_row _ _ _ _ _ _ R2.out]; rfl
  have c4 : W2.cell? ⟨w.heap.size, 4, none⟩ = some (.int .u32 r) := by rw [cell_of_row _ _ _ _ _ _ R2.out]; rfl
  have c10 : W2.cell? ⟨w.heap.size, 10, none⟩ = some (.slice d1.a d1.l.length d1.c) := by rw [cell_of_row _ _ _ _ _ _ R2.out]; rfl
  have c11 : W2.cell? ⟨w.heap.size, 11, none⟩ = some (.slice d2.a d2.l.length d2.c) := by rw [cell_of_row _ _ _ _ _ _ R2.out]; rfl
  have c12 : W2.cell? ⟨w.heap.size, 12, none⟩ = some (.slice d3.a d3.l.length d3.c) := by rw [cell_of_row _ _ _ _ _ _ R2.out]; rfl
  have c0 : W2.cell? ⟨w.heap.size, 0, none⟩ = some (.int .i64 h) := by rw [cell_of_row _ _ _ _ _ _ R2.out]; rfl
  go_wp2
  go_ret
  exact ⟨rfl, B2.out⟩
set_option maxRecDepth 100000 in
set_option maxHeartbeats 4000000 in
theorem bare1_d2 (w : World) (h : Int) (a : Int) (r : Int) (q : Bool) (l : Bool) (z : Bool) (d1 : Ev.Sl) (d2 : Ev.Sl) (d3 : Ev.Sl) (t : ((d2.l.length : Int) == 0) = false) : Calls Tryz.prog 29 #[Ev.evV (⟨h, 1, a, 0, r, q, l, 0, 0, z, d1, d2, d3⟩ : Ev.R)] w fun e w' => e = .returned (.bool false) ∧ Below w.heap.size w w' := by
  have R0 := Lib.hid (heap_alloc_new w (.cells (Ev.cells (⟨h, 1, a, 0, r, q, l, 0, 0, z, d1, d2, d3⟩ : Ev.R)).toArray 48))
  have B0 := Lib.hid ((Below.refl w.heap.size w).alloc (Nat.le_refl _) (.cells (Ev.cells (⟨h, 1, a, 0, r, q, l, 0, 0, z, d1, d2, d3⟩ : Ev.R)).toArray 48))
  unfold Ev.evV Ev.cells
  go_enter Tryz.func29, Tryz.ntmps29
  go_wp2_with (with_reducible show wpList _ _ _ (Oper.mk (some 72) _ _ _ _ _ :: _) _ _; refine wpList_load_row rfl 48 (.tmp 1) rfl w.heap.size rfl 48 (Ev.cells (⟨h, 1, a, 0, r, q, l, 0, 0, z, d1, d2, d3⟩ : Ev.R)).toArray (0, 0) _ R0.out Tryz.underlying48 rfl (by kernel_rfl) ?_)
  refine (rstores_is (x := (⟨h, 1, a, 0, r, q, l, 0, 0, z, d1, d2, d3⟩ : Ev.R)) (b := false) rfl _).mono ?_
  rintro e W2 ⟨rfl, hb⟩
  have R2 := Lib.hid ((hb.block w.heap.size (by simp only [World.size_alloc]; omega)).trans R0.out)
  have B2 := Lib.hid (B0.out.trans (hb.mono (by simp only [World.size_alloc]; omega))); clear hb
  have c2 : W2.cell? ⟨w.heap.size, 2, none⟩ = some (.int .u32 a) := by rw [cell_of_row _ _ _ _ _ _ R2.out]; rfl
  have c3 : W2.cell? ⟨w.heap.size, 3, none⟩ = some (.int .u32 0) := by rw [cell_of_row _ _ _ _ _ _ R2.out]; rfl
  have c4 : W2.cell? ⟨w.heap.size, 4, none⟩ = some (.int .u32 r) := by rw [cell_of_row _ _ _ _ _ _ R2.out]; rfl
  have c10 : W2.cell? ⟨w.heap.size, 10, none⟩ = some (.slice d1.a d1.l.length d1.c) := by rw [cell_of_row _ _ _ _ _ _ R2.out]; rfl
  have c11 : W2.cell? ⟨w.heap.size, 11, none⟩ = some (.slice d2.a d2.l.length d2.c) := by rw [cell_of_row _ _ _ _ _ _ R2.out]; rfl
  have c12 : W2.cell? ⟨w.heap.size, 12, none⟩ = some (.slice d3.a d3.l.length d3.c) := by rw [cell_of_row _ _ _ _ _ _ R2.out]; rfl
  have c0 : W2.cell? ⟨w.heap.size, 0, none⟩ = some (.int .i64 h) := by rw [cell_of_row _ _ _ _ _ _ R2.out]; rfl
  go_wp2_with (with_reducible show wpList _ _ _ (Oper.mk (some 81) _ _ _ _ _ :: _) _ _; refine Ev.load_row_g 48 (.tmp 1) rfl rfl w.heap.size rfl 48 (Ev.cells (⟨h, 1, a, 0, r, q, l, 0, 0, z, d1, d2, d3⟩ : Ev.R)).toArray (0, 0) _ R2.out Tryz.underlying48 rfl (by kernel_rfl) ?_)
  refine (rloads_is (x := (⟨h, 1, a, 0, r, q, l, 0, 0, z, d1, d2, d3⟩ : Ev.R)) (b := true) rfl _).mono ?_
  rintro e W3 ⟨rfl, hb⟩
  have R3 := Lib.hid ((hb.block w.heap.size (Array.getElem?_eq_some_iff.1 R2.out).1).trans R2.out)
  have B3 := Lib.hid (B2.out.trans (hb.mono B2.out.size)); clear hb c0 c2 c3 c4 c10 c11 c12
  have c2 : W3.cell? ⟨w.heap.size, 2, none⟩ = some (.int .u32 a) := by rw [cell_of_row _ _ _ _ _ _ R3.out]; rfl
  have c3 : W3.cell? ⟨w.heap.size, 3, none⟩ = some (.int .u32 0) := by rw [cell_of_row _ _ _ _ _ _ R3.out]; rfl
  have c4 : W3.cell? ⟨w.heap.size, 4, none⟩ = some (.int .u32 r) := by rw [cell_of_row _ _ _ _ _ _ R3.out]; rfl
  have c10 : W3.cell? ⟨w.heap.size, 10, none⟩ = some (.slice d1.a d1.l.length d1.c) := by rw [cell_of_row _ _ _ _ _ _ R3.out]; rfl
  have c11 : W3.cell? ⟨w.heap.size, 11, none⟩ = some (.slice d2.a d2.l.length d2.c) := by rw [cell_of_row _ _ _ _ _ _ R3.out]; rfl
  have c12 : W3.cell? ⟨w.heap.size, 12, none⟩ = some (.slice d3.a d3.l.length d3.c) := by rw [cell_of_row _ _ _ _ _ _ R3.out]; rfl
  have c0 : W3.cell? ⟨w.heap.size, 0, none⟩ = some (.int .i64 h) := by rw [cell_of_row _ _ _ _ _ _ R3.out]; rfl
  go_wp2
  go_ret
  exact ⟨rfl, B3.out⟩
set_option maxRecDepth 100000 in
set_option maxHeartbeats 4000000 in
theorem bare1_ok (w : World) (h : Int) (a : Int) (r : Int) (q : Bool) (l : Bool) (z : Bool) (d1 : Ev.Sl) (d2a : Option Addr) (d2c : Nat) (d3 : Ev.Sl)  : Calls Tryz.prog 29 #[Ev.evV (⟨h, 1, a, 0, r, q, l, 0, 0, z, d1, ⟨d2a, d2c, []⟩, d3⟩ : Ev.R)] w fun e w' => e = .returned (.bool true) ∧ Below w.heap.size w w' := by
  have R0 := Lib.hid (heap_alloc_new w (.cells (Ev.cells (⟨h, 1, a, 0, r, q, l, 0, 0, z, d1, ⟨d2a, d2c, []⟩, d3⟩ : Ev.R)).toArray 48))
  have B0 := Lib.hid ((Below.refl w.heap.size w).alloc (Nat.le_refl _) (.cells (Ev.cells (⟨h, 1, a, 0, r, q, l, 0, 0, z, d1, ⟨d2a, d2c, []⟩, d3⟩ : Ev.R)).toArray 48))
  unfold Ev.evV Ev.cells
  go_enter Tryz.func29, Tryz.ntmps29
  go_wp2_with (with_reducible show wpList _ _ _ (Oper.mk (some 72) _ _ _ _ _ :: _) _ _; refine wpList_load_row rfl 48 (.tmp 1) rfl w.heap.size rfl 48 (Ev.cells (⟨h, 1, a, 0, r, q, l, 0, 0, z, d1, ⟨d2a, d2c, []⟩, d3⟩ : Ev.R)).toArray (0, 0) _ R0.out Tryz.underlying48 rfl (by kernel_rfl) ?_)
  refine (rstores_is (x := (⟨h, 1, a, 0, r, q, l, 0, 0, z, d1, ⟨d2a, d2c, []⟩, d3⟩ : Ev.R)) (b := false) rfl _).mono ?_
  rintro e W2 ⟨rfl, hb⟩
  have R2 := Lib.hid ((hb.block w.heap.size (by simp only [World.size_alloc]; omega)).trans R0.out)
  have B2 := Lib.hid (B0.out.trans (hb.mono (by simp only [World.size_alloc]; omega))); clear hb
  have c2 : W2.cell? ⟨w.heap.size, 2, none⟩ = some (.int .u32 a) := by rw [cell_of_row _ _ _ _ _ _ R2.out]; rfl
  have c3 : W2.cell? ⟨w.heap.size, 3, none⟩ = some (.int .u32 0) := by rw [cell_of_row _ _ _ _ _ _ R2.out]; rfl
  have c4 : W2.cell? ⟨w.heap.size, 4, none⟩ = some (.int .u32 r) := by rw [cell_of_row _ _ _ _ _ _ R2.out]; rfl
  have c10 : W2.cell? ⟨w.heap.size, 10, none⟩ = some (.slice d1.a d1.l.length d1.c) := by rw [cell_of_row _ _ _ _ _ _ R2.out]; rfl
  have c11 : W2.cell? ⟨w.heap.size, 11, none⟩ = some (.slice d2a 0 d2c) := by rw [cell_of_row _ _ _ _ _ _ R2.out]; rfl
  have c12 : W2.cell? ⟨w.heap.size, 12, none⟩ = some (.slice d3.a d3.l.length d3.c) := by rw [cell_of_row _ _ _ _ _ _ R2.out]; rfl
  have c0 : W2.cell? ⟨w.heap.size, 0, none⟩ = some (.int .i64 h) := by rw [cell_of_row _ _ _ _ _ _ R2.out]; rfl
  go_wp2_with (with_reducible show wpList _ _ _ (Oper.mk (some 81) _ _ _ _ _ :: _) _ _; refine Ev.load_row_g 48 (.tmp 1) rfl rfl w.heap.size rfl 48 (Ev.cells (⟨h, 1, a, 0, r, q, l, 0, 0, z, d1, ⟨d2a, d2c, []⟩, d3⟩ : Ev.R)).toArray (0, 0) _ R2.out Tryz.underlying48 rfl (by kernel_rfl) ?_)
  refine (rloads_is (x := (⟨h, 1, a, 0, r, q, l, 0, 0, z, d1, ⟨d2a, d2c, []⟩, d3⟩ : Ev.R)) (b := true) rfl _).mono ?_
  rintro e W3 ⟨rfl, hb⟩
  have R3 := Lib.hid ((hb.block w.heap.size (Array.getElem?_eq_some_iff.1 R2.out).1).trans R2.out)
  have B3 := Lib.hid (B2.out.trans (hb.mono B2.out.size)); clear hb c0 c2 c3 c4 c10 c11 c12
  have c2 : W3.cell? ⟨w.heap.size, 2, none⟩ = some (.int .u32 a) := by rw [cell_of_row _ _ _ _ _ _ R3.out]; rfl
  have c3 : W3.cell? ⟨w.heap.size, 3, none⟩ = some (.int .u32 0) := by rw [cell_of_row _ _ _ _ _ _ R3.out]; rfl
  have c4 : W3.cell? ⟨w.heap.size, 4, none⟩ = some (.int .u32 r) := by rw [cell_of_row _ _ _ _ _ _ R3.out]; rfl
  have c10 : W3.cell? ⟨w.heap.size, 10, none⟩ = some (.slice d1.a d1.l.length d1.c) := by rw [cell_of_row _ _ _ _ _ _ R3.out]; rfl
  have c11 : W3.cell? ⟨w.heap.size, 11, none⟩ = some (.slice d2a 0 d2c) := by rw [cell_of_row _ _ _ _ _ _ R3.out]; rfl
  have c12 : W3.cell? ⟨w.heap.size, 12, none⟩ = some (.slice d3.a d3.l.length d3.c) := by rw [cell_of_row _ _ _ _ _ _ R3.out]; rfl
  have c0 : W3.cell? ⟨w.heap.size, 0, none⟩ = some (.int .i64 h) := by rw [cell_of_row _ _ _ _ _ _ R3.out]; rfl
  go_wp2
  go_ret
  exact ⟨rfl, B3.out⟩
end Go.Proofs.YtecnnkidalkmfaaGreat
end
