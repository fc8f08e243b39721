import Derived.Test.YtecnnkidalkmfaaGreatKb47
import Derived.Test.YtecnnkidalkmfaaGreatKb52
import Derived.Test.YtecnnkidalkmfaaGreatKb49
set_option linter.unusedVariables false
set_option linter.unusedSimpArgs false

section
namespace Go.Proofs.YtecnnkidalkmfaaGreat
open Go.RowKit
theorem Md.circ_no {n : Nat} {ps : List (Int × Int)} {b : Bool} (hr : Ev.InR n ps) (h : Ev.CircR n ps b) : b = true ↔ ¬ Md.Rk ps := by
  rw [← Md.circ_rk hr h]; cases b <;> simp
theorem Md.not_no {b : Bool} {p : Prop} (h : b = true ↔ ¬ p) : (!b) = true ↔ p := by
  cases b with
  | true => have := h.1 rfl; simp [this]
  | false => have : ¬ ¬ p := fun k => by have := h.2 k; cases this
             simp [Classical.not_not.1 this]
set_option maxRecDepth 100000 in
set_option maxHeartbeats 4000000 in
theorem rordered_any (x : Ev.X) (w : World) (hin : Ev.XIn w x) (hc : Ev.check x = 0) :
    Calls Tryz.prog 19 #[Ev.exV x] w fun e w' => ∃ b : Bool, e = .returned (.bool b) ∧ (b = true ↔ Md.Rk (Md.gI (Ev.pl (Ev.isG6 x) x.ev.length x.ev.length))) ∧ Below w.heap.size w w' := by
  have hn64 := (Ev.check_order hc).2.2
  obtain ⟨xb, hxb⟩ : ∃ xb, xb = w.heap.size := ⟨_, rfl⟩
  obtain ⟨B, hB⟩ : ∃ B, B = w.alloc (.cells (Ev.xcells x).toArray 26) := ⟨_, rfl⟩
  have HB := Lib.hid hB; have HXB := Lib.hid hxb
  have B0 := Lib.hid (show Below w.heap.size w B by rw [hB]; exact (Below.refl w.heap.size w).alloc (Nat.le_refl _) _)
  have RX := Lib.hid (show B.heap[xb]? = some (.cells #[.slice x.ae x.ev.length x.ce, .slice x.fr.a x.fr.l.length x.fr.c, .slice x.ao x.od.length x.co] 26 (0, 0)) by rw [hB, hxb]; exact heap_alloc_new _ _)
  have HX := Lib.hid (show Ev.XIn B x from hin.kp (Ev.kp_below B0.out))
  have cx : B.cell? ⟨xb, 0, none⟩ = some (.slice x.ae x.ev.length x.ce) := by rw [cell_of_row _ _ _ _ _ _ RX.out]; rfl
  obtain ⟨L, hL⟩ : ∃ l, Ev.pl (Ev.isG6 x) x.ev.length x.ev.length = l := ⟨_, rfl⟩
  have HP := Lib.hid (show ∀ W, Ev.XIn W x → Calls Tryz.prog 23 #[Ev.exV x, .int .i64 6] W fun e w' => ∃ a c, e = .returned (.slice a L.length c) ∧ Ev.PairsIn w' a c L ∧ Below W.heap.size W w' from fun W h => by rw [← hL]; exact rpairs6_any x W h hc)
  have hbd : ∀ p ∈ L, p.1 < x.ev.length ∧ p.2 < x.ev.length := by rw [← hL]; exact Md.pl_bd
  have HL64 := Lib.hid (show ∀ p ∈ L, p.1 < 64 ∧ p.2 < 64 from fun p hp => by have := hbd p hp; omega)
  have HINR := Lib.hid (Md.inR_pl hn64 hbd)
  have HCX := Lib.hid cx
  rw [hL]
  clear hin hc hL hbd hB hxb cx
  unfold Ev.exV
  go_enter Tryz.func19, Tryz.ntmps19
  go_wp2
  rw [← HB.out, ← HXB.out]
  refine Og.region3 (by kernel_rfl) (fun t => ([(3, 0), (4, 1), (5, 2), (6, 3), (7, 4), (8, 5), (9, 6), (2, 7)] : List (Nat × Nat)).lookup t)
    [.is (.pointer (some ⟨xb, 0, none⟩)), .is (.slice x.ae x.ev.length x.ce), .is (.int .i64 (x.ev.length : Int)), .is (.agg #[.slice x.ae x.ev.length x.ce, .slice x.fr.a x.fr.l.length x.fr.c, .slice x.ao x.od.length x.co]), .says (Md.PrS L), .says (Md.BoolS (¬ Md.Rk (Md.gI L))), .says (Md.BoolS (Md.Rk (Md.gI L))), .says (Md.BoolS (Md.Rk (Md.gI L)))]
    [true, true, true, true, true, true, true, true] (by kernel_rfl) ?_ ?_
  · refine ⟨?_, ?_, ?_, ?_, ?_, ?_, ?_, ?_, trivial⟩
    · refine ⟨rfl, fun ρ w1 hr hd => ?_⟩
      obtain ⟨d0, _⟩ := hd
      have d0 : ρ (.tmp 1) = .pointer (some ⟨xb, 0, none⟩) := d0
      refine (if_pos (by rfl)).mpr ?_
      refine Og.gives_is (.pointer (some ⟨xb, 0, none⟩)) ?_ (And.intro (Below.refl _ _) rfl)
      go_simp; try (with_reducible rfl)
    · refine ⟨rfl, fun ρ w1 hr hd => ?_⟩
      obtain ⟨d0, _⟩ := hd
      have d0 : ρ (.tmp 3) = .pointer (some ⟨xb, 0, none⟩) := d0
      refine (if_pos (by rfl)).mpr ?_
      refine Og.gives_is (.slice x.ae x.ev.length x.ce) ?_ (And.intro (Below.refl _ _) rfl)
      exact Og.load_run 22 (.tmp 3) rfl ⟨xb, 0, none⟩ d0 (ld_cell Tryz.isAgg22 (Ev.kp_below hr _ _ HCX.out))
    · refine ⟨rfl, fun ρ w1 hr hd => ?_⟩
      obtain ⟨d0, _⟩ := hd
      have d0 : ρ (.tmp 4) = .slice x.ae x.ev.length x.ce := d0
      refine (if_pos (by rfl)).mpr ?_
      refine Og.gives_is (.int .i64 (x.ev.length : Int)) ?_ (And.intro (Below.refl _ _) rfl)
      go_simp; try (with_reducible rfl)
    · refine ⟨rfl, fun ρ w1 hr hd => ?_⟩
      obtain ⟨d0, _⟩ := hd
      have d0 : ρ (.tmp 1) = .pointer (some ⟨xb, 0, none⟩) := d0
      refine (if_pos (by rfl)).mpr ?_
      refine Og.gives_is (.agg #[.slice x.ae x.ev.length x.ce, .slice x.fr.a x.fr.l.length x.fr.c, .slice x.ao x.od.length x.co]) ?_ (And.intro (Below.refl _ _) rfl)
      exact Og.load_run 26 (.tmp 1) rfl ⟨xb, 0, none⟩ d0 (run_loadVar_row w1 xb 26 26 #[.slice x.ae x.ev.length x.ce, .slice x.fr.a x.fr.l.length x.fr.c, .slice x.ao x.od.length x.co] (0, 0) _ ((hr.block xb (Array.getElem?_eq_some_iff.1 RX.out).1).trans RX.out) Tryz.underlying26 rfl (by kernel_rfl))
    · refine ⟨rfl, fun ρ w1 hr hd => ?_⟩
      obtain ⟨d0, d1, d2, _⟩ := hd
      have df : ρ (.func 23) = .func (.func 23) #[] #[] := d0
      have d0 : ρ (.tmp 6) = .agg #[.slice x.ae x.ev.length x.ce, .slice x.fr.a x.fr.l.length x.fr.c, .slice x.ao x.od.length x.co] := d1
      have d1 : ρ (.const (.int .i64 6)) = .int .i64 6 := d2
      refine (if_pos (by rfl)).mpr ?_
      refine Og.gives_call 23 #[.agg #[.slice x.ae x.ev.length x.ce, .slice x.fr.a x.fr.l.length x.fr.c, .slice x.ao x.od.length x.co], .int .i64 6] ?_ ?_
      · go_simp
      · refine (HP.out w1 (HX.out.kp (Ev.kp_below hr))).mono ?_
        rintro r w2 ⟨a, c, rfl, hp, hb⟩
        exact ⟨_, rfl, hb, w2, Below.refl _ _, a, c, rfl, hp⟩
    · refine ⟨rfl, fun ρ w1 hr hd => ?_⟩
      obtain ⟨d0, d1, d2, _⟩ := hd
      have df : ρ (.func 37) = .func (.func 37) #[] #[] := d0
      have d0 : ρ (.tmp 5) = .int .i64 (x.ev.length : Int) := d1
      have d1 : ∃ w1', Below w1'.heap.size w1' w1 ∧ (Md.PrS L) (ρ (.tmp 7)) w1' := d2
      refine (if_pos (by rfl)).mpr ?_
      obtain ⟨z, hz, a, c, hv, hp⟩ := d1
      have hlen : L.length = (Md.gI L).length := by simp [Md.gI]
      have hps := Md.psin (Md.PairsIn.kp hp (Ev.kp_below hz)) HL64.out
      refine Og.gives_call 37 #[.int .i64 (x.ev.length : Int), .slice a L.length c] ?_ ?_
      · go_simp
      · refine (hlen ▸ circle_any x.ev.length a c (Md.gI L) HINR.out w1 hps).mono ?_
        rintro r w2 ⟨b, rfl, hR, hb⟩
        exact ⟨_, rfl, hb, w2, Below.refl _ _, b, rfl, Md.circ_no HINR.out hR⟩
    · refine ⟨rfl, fun ρ w1 hr hd => ?_⟩
      obtain ⟨d0, _⟩ := hd
      have d0 : ∃ w1', Below w1'.heap.size w1' w1 ∧ (Md.BoolS (¬ Md.Rk (Md.gI L))) (ρ (.tmp 8)) w1' := d0
      refine (if_pos (by rfl)).mpr ?_
      obtain ⟨z, hz, b, hv, hb⟩ := d0
      refine Og.gives_is (.bool (!b)) ?_ (And.intro (Below.refl _ _) ⟨w1, Below.refl _ _, !b, rfl, Md.not_no hb⟩)
      go_simp
    · refine ⟨rfl, fun ρ w1 hr hd => ?_⟩
      obtain ⟨d0, _⟩ := hd
      have d0 : ∃ w1', Below w1'.heap.size w1' w1 ∧ (Md.BoolS (Md.Rk (Md.gI L))) (ρ (.tmp 9)) w1' := d0
      refine (if_pos (by rfl)).mpr ?_
      obtain ⟨v0, hv0⟩ : ∃ v, ρ (.tmp 9) = v := ⟨_, rfl⟩
      rw [hv0] at d0
      refine Og.gives_is v0 ?_ (And.intro (Below.refl _ _) d0)
      go_simp
  · intro vs w1 hbz hall
    have hend : ∃ w1', Below w1'.heap.size w1' w1 ∧ (Md.BoolS (Md.Rk (Md.gI L))) (vs 7) w1' := hall 7 _ 2 rfl rfl
    obtain ⟨w0, hb0, r0, e0, h0⟩ := hend
    simp only [Og.putAll, Act.put, List.setIfInBounds_toArray, List.set_cons_zero, List.set_cons_succ, Nat.zero_add, Nat.reduceAdd, e0]
    have H0 := Lib.hid h0
    clear hall h0 e0
    go_wp2
    go_ret
    exact ⟨r0, rfl, H0.out, B0.out.trans (hbz.mono B0.out.size)⟩
namespace Md
open Ev
def loadI (x : X) (n : Nat) : Int := if (nth x.ev (n : Int)).k = 3 then (n : Int) else paired x n
def spoilB (x : X) (m n : Nat) (r : Int) : Bool := !((nth x.ev (m : Int)).h == (nth x.ev (n : Int)).h) && isCo x (frAt x r.toNat) (m : Int) && isCo x (m : Int) (n : Int)
def rowB (x : X) (n : Nat) : Bool := decide (loadI x n < 0) || (List.range x.ev.length).all fun m : Nat => !(spoilB x m n (loadI x n))
theorem atomB_rows (x : X) : atomB x = (List.range x.ev.length).all (rowB x) := rfl
theorem atomB_no {x : X} {n m : Nat} (hn : n < x.ev.length) (hm : m < x.ev.length) (h0 : ¬ loadI x n < 0) (h : spoilB x m n (loadI x n) = true) : atomB x = false := by
  rw [atomB_rows, List.all_eq_false]
  refine ⟨n, List.mem_range.2 hn, ?_⟩
  unfold rowB
  simp only [decide_eq_false h0, Bool.false_or, Bool.not_eq_true]
  rw [List.all_eq_false]
  exact ⟨m, List.mem_range.2 hm, by rw [h]; simp⟩
theorem atomB_yes {x : X} (h : ∀ n, n < x.ev.length → rowB x n = true) : atomB x = true := by
  rw [atomB_rows]; exact List.all_eq_true.2 fun n hn => h n (List.mem_range.1 hn)
theorem rowB_neg {x : X} {n : Nat} (h : loadI x n < 0) : rowB x n = true := by unfold rowB; simp [h]
theorem rowB_yes {x : X} {n : Nat} (h : ∀ m, m < x.ev.length → spoilB x m n (loadI x n) = false) : rowB x n = true := by
  unfold rowB
  rw [Bool.or_eq_true]
  exact .inr (List.all_eq_true.2 fun m hm => by rw [h m (List.mem_range.1 hm)]; rfl)
theorem loadI_ld {x : X} (hc : check x = 0) {n : Nat} (hn : n < x.ev.length) (h : ¬ loadI x n < 0) : ∃ r : Nat, loadI x n = (r : Int) ∧ r < x.ev.length ∧ loads (nth x.ev (r : Int)).k = true := by
  unfold loadI at h ⊢
  split
  · rename_i hk
    exact ⟨n, rfl, hn, by rw [hk]; rfl⟩
  · rename_i hk
    rw [if_neg hk] at h
    rcases paired_lo x n with e | ⟨a, ha, e⟩
    · rw [e] at h; omega
    · exact ⟨a, e, paired_ld hc hn e⟩
end Md
set_option maxRecDepth 100000 in
set_option maxHeartbeats 8000000 in
theorem ratomic_any (x : Ev.X) (w : World) (hin : Ev.XIn w x) (hc : Ev.check x = 0) :
    Calls Tryz.prog 20 #[Ev.exV x] w fun e w' => e = .returned (.bool (Md.atomB x)) ∧ Below w.heap.size w w' := by
  have hn64 := (Ev.check_order hc).2.2
  have hl1 := hin.ev.le; have hl2 := hin.ev.max
  obtain ⟨xb, hxb⟩ : ∃ xb, xb = w.heap.size := ⟨_, rfl⟩
  obtain ⟨B, hB⟩ : ∃ B, B = w.alloc (.cells (Ev.xcells x).toArray 26) := ⟨_, rfl⟩
  have HB := Lib.hid hB; have HXB := Lib.hid hxb
  have B0 := Lib.hid (show Below w.heap.size w B by rw [hB]; exact (Below.refl w.heap.size w).alloc (Nat.le_refl _) _)
  have RX := Lib.hid (show B.heap[xb]? = some (.cells #[.slice x.ae x.ev.length x.ce, .slice x.fr.a x.fr.l.length x.fr.c, .slice x.ao x.od.length x.co] 26 (0, 0)) by rw [hB, hxb]; exact heap_alloc_new _ _)
  have HX := Lib.hid (show Ev.XIn B x from hin.kp (Ev.kp_below B0.out))
  have cx : B.cell? ⟨xb, 0, none⟩ = some (.slice x.ae x.ev.length x.ce) := by rw [cell_of_row _ _ _ _ _ _ RX.out]; rfl
  have HC := Lib.hid hc
  have HCX := Lib.hid cx
  have HPD := Lib.hid (fun (n : Nat) (hn : n < x.ev.length) (W : World) (hW : Ev.XIn W x) => rpaired_any x n hn W hW)
  clear hin hc hB hxb cx
  unfold Ev.exV
  go_enter Tryz.func20, Tryz.ntmps20
  go_wp2
  rw [← HB.out, ← HXB.out]
  go_loopw [3, 4, 5] (fun i _ _ wr => ∃ k : Nat, k ≤ x.ev.length ∧ i = .int .i64 (k : Int) ∧ Below B.heap.size B wr ∧ ∀ n, n < k → Md.rowB x n = true) (fun i _ _ _ => x.ev.length - (intOf i).toNat)
  case atStart => exact ⟨0, Nat.zero_le _, rfl, Below.refl _ _, fun n hn => absurd hn (by omega)⟩
  case round =>
    obtain ⟨k, hk, rfl, hbr, hall⟩ := hrel
    obtain ⟨wo, rfl⟩ : ∃ wo : World, wo = wr := ⟨_, rfl⟩
    have HBR := Lib.hid hbr; have HALL := Lib.hid hall
    have cx := Ev.kp_below hbr _ _ HCX.out
    have RW := Lib.hid ((hbr.block _ (Array.getElem?_eq_some_iff.1 RX.out).1).trans RX.out)
    clear hbr hall
    by_cases hlt : k < x.ev.length
    · have hki : (k : Int) < (x.ev.length : Int) := by omega
      obtain ⟨e1, he1⟩ : ∃ e, x.ev[k]? = some e := ⟨_, List.getElem?_eq_getElem hlt⟩
      obtain ⟨g, o, eg, hc1⟩ := HX.out.ev.at_ he1
      have HEG := Lib.hid eg
      have HE1 := Lib.hid (Ev.nth_some he1)
      have HC1 := Lib.hid hc1
      clear he1 eg hc1
      go_wp2_with ((with_reducible show wpList _ _ _ (Oper.mk (some 13) _ _ _ _ _ :: _) _ _); refine wpList_load_row rfl 26 (.tmp 1) rfl xb (by kernel_rfl) 26 #[.slice x.ae x.ev.length x.ce, .slice x.fr.a x.fr.l.length x.fr.c, .slice x.ao x.od.length x.co] (0, 0) _ RW.out Tryz.underlying26 rfl (by kernel_rfl) ?_)
      refine (HPD.out k hlt _ (HX.out.kp (Ev.kp_below HBR.out))).mono ?_
      rintro e W2 ⟨rfl, hb⟩
      have B2 := Lib.hid (HBR.out.trans (hb.mono HBR.out.size))
      have R2 := Lib.hid ((hb.block _ (Array.getElem?_eq_some_iff.1 RW.out).1).trans RW.out)
      clear hb cx
      have cx := Ev.kp_below B2.out _ _ HCX.out
      rw [HEG.out] at cx
      have ck := Ev.kp_below B2.out _ _ (HC1.out 1 _ rfl)
      obtain ⟨pr, hpr⟩ : ∃ p, Ev.paired x k = p := ⟨_, rfl⟩
      have HPR := Lib.hid hpr
      rw [hpr]
      by_cases h3 : e1.k = 3
      · have t3 : (e1.k == 3) = true := by simpa using h3
        have hli : Md.loadI x k = (k : Int) := by unfold Md.loadI; rw [HE1.out, if_pos h3]
        have hrl := hlt
        have hld : Ev.loads (Ev.nth x.ev (k : Int)).k = true := by rw [HE1.out, h3]; rfl
        clear h3
        have HLI := Lib.hid hli
        obtain ⟨f, hf, hf1, hf2⟩ := Ev.from_in HC.out hrl hld
        obtain ⟨gf, of, ef, hcf⟩ := HX.out.fr.at_ hf1
        have hfl := check_from HC.out
        have hfi : (k : Int) < (x.fr.l.length : Int) := by omega
        have hm1 := HX.out.fr.2.1; have hm2 := HX.out.fr.2.2.1
        have HF2 := Lib.hid hf2; have HCF := Lib.hid hcf; have HEF := Lib.hid ef
        clear hli hf1 hf2 hcf ef hfl hld
        go_wp2
        go_loopw [5] (fun i wr => ∃ m : Nat, m ≤ x.ev.length ∧ i = .int .i64 (m : Int) ∧ Below W2.heap.size W2 wr ∧ ∀ j, j < m → Md.spoilB x j k (Md.loadI x k) = false) (fun i _ => x.ev.length - (intOf i).toNat)
        case atStart => exact ⟨0, Nat.zero_le _, rfl, Below.refl _ _, fun n hn => absurd hn (by omega)⟩
        case round =>
          clear cx ck
          obtain ⟨m, hm, rfl, hbr, hall⟩ := hrel
          have HBR4 := Lib.hid hbr; have HALL4 := Lib.hid hall
          have B4 := Lib.hid (B2.out.trans (hbr.mono B2.out.size))
          have R4 := Lib.hid ((hbr.block _ (Array.getElem?_eq_some_iff.1 R2.out).1).trans R2.out)
          have cx := Ev.kp_below B4.out _ _ HCX.out
          rw [HEG.out] at cx
          clear hbr hall
          by_cases hml : m < x.ev.length
          · have hmi : (m : Int) < (x.ev.length : Int) := by omega
            obtain ⟨e2, he2⟩ : ∃ e, x.ev[m]? = some e := ⟨_, List.getElem?_eq_getElem hml⟩
            obtain ⟨g', o', eg', hc2⟩ := HX.out.ev.at_ he2
            rw [HEG.out] at eg'
            obtain ⟨rfl, rfl⟩ : g = g' ∧ o = o' := by simpa using eg'
            have hn2 := Ev.nth_some he2
            have cf1 : wr.cell? ⟨xb, 1, none⟩ = some (.slice (some ⟨gf, of, none⟩) x.fr.l.length x.fr.c) := by rw [cell_of_row _ _ _ _ _ _ R4.out, ← HEF.out]; rfl
            have k4 := Ev.kp_below B4.out
            have q1 : ∀ z : Og.On wr.heap.size wr, z.x.cell? ⟨xb, 0, none⟩ = some (.slice (some ⟨g, o, none⟩) x.ev.length x.ce) := fun z => Og.cellB z cx
            have q2 : ∀ z : Og.On wr.heap.size wr, z.x.cell? ⟨xb, 1, none⟩ = some (.slice (some ⟨gf, of, none⟩) x.fr.l.length x.fr.c) := fun z => Og.cellB z cf1
            have q3 : ∀ z : Og.On wr.heap.size wr, z.x.cell? ⟨gf, of + k, none⟩ = some (.int .i64 (f : Int)) := fun z => Og.cellB z (k4 _ _ HCF.out)
            have q4 : ∀ z : Og.On wr.heap.size wr, z.x.cell? ⟨g, o + m * 13, none⟩ = some (.int .i64 e2.h) := fun z => Og.cellB z (k4 _ _ (hc2 0 _ rfl))
            have q5 : ∀ z : Og.On wr.heap.size wr, z.x.cell? ⟨g, o + k * 13, none⟩ = some (.int .i64 e1.h) := fun z => Og.cellB z (k4 _ _ (HC1.out 0 _ rfl))
            have LXX := Lib.hid (fun z : Og.On wr.heap.size wr => Og.rowB (P := Tryz.prog) z 26 _ R4.out Tryz.underlying26 rfl (by kernel_rfl))
            obtain ⟨v1, h1⟩ : ∃ v, (e2.h != e1.h) = v := ⟨_, rfl⟩
            obtain ⟨v2, h2⟩ : ∃ v, Ev.isCo x (f : Int) (m : Int) = v := ⟨_, rfl⟩
            obtain ⟨v3, h3⟩ : ∃ v, Ev.isCo x (m : Int) (k : Int) = v := ⟨_, rfl⟩
            have K1 := Lib.hid (show ∀ z : Og.On wr.heap.size wr, Calls Tryz.prog 39 #[.agg #[.slice x.ae x.ev.length x.ce, .slice x.fr.a x.fr.l.length x.fr.c, .slice x.ao x.od.length x.co], .int .i64 (f : Int), .int .i64 (m : Int)] z.x (fun e w'' => e = .returned (.bool v2) ∧ Below z.x.heap.size z.x w'') from fun z => rco_is h2 hf hml z.x ((HX.out.kp (Ev.kp_below B4.out)).kp (Ev.kp_below z.b)))
            have K2 := Lib.hid (show ∀ z : Og.On wr.heap.size wr, Calls Tryz.prog 39 #[.agg #[.slice x.ae x.ev.length x.ce, .slice x.fr.a x.fr.l.length x.fr.c, .slice x.ao x.od.length x.co], .int .i64 (m : Int), .int .i64 (k : Int)] z.x (fun e w'' => e = .returned (.bool v3) ∧ Below z.x.heap.size z.x w'') from fun z => rco_is h3 hml hlt z.x ((HX.out.kp (Ev.kp_below B4.out)).kp (Ev.kp_below z.b)))
            have HSP := Lib.hid (show Md.spoilB x m k (Md.loadI x k) = (v1 && v2 && v3) by
              unfold Md.spoilB; rw [HLI.out, Int.toNat_natCast, HF2.out, h2, h3, hn2, HE1.out, ← h1]; rfl)
            have h1' := h1
            clear h2 h3 hn2 he2 hc2 cf1 k4 eg' h1
            cases v1 <;> cases v2 <;> cases v3
            all_goals
              go_wp2_with fail
              refine Og.regionB (by kernel_rfl) (by kernel_rfl) ?_
              repeat (first
                | go_big_quiet_skip
                | (go_big_quiet_want
                   first
                    | ((with_reducible show Oper.quiet _ (Oper.mk (some 47) _ _ _ _ _) _ _ _); refine Og.quiet_load 26 (.tmp 1) rfl (.agg #[.slice x.ae x.ev.length x.ce, .slice x.fr.a x.fr.l.length x.fr.c, .slice x.ao x.od.length x.co]) ⟨xb, 0, none⟩ _ rfl (by rintro _ ⟨z, rfl⟩; exact LXX.out z) (by simp only [Act.put, List.setIfInBounds_toArray, List.set_cons_zero, List.set_cons_succ]; rfl) ?_
                       go_big_quiet_on)
                    | ((with_reducible show Oper.quiet _ (Oper.mk (some 57) _ _ _ _ _) _ _ _); refine Og.quiet_load 26 (.tmp 1) rfl (.agg #[.slice x.ae x.ev.length x.ce, .slice x.fr.a x.fr.l.length x.fr.c, .slice x.ao x.od.length x.co]) ⟨xb, 0, none⟩ _ rfl (by rintro _ ⟨z, rfl⟩; exact LXX.out z) (by simp only [Act.put, List.setIfInBounds_toArray, List.set_cons_zero, List.set_cons_succ]; rfl) ?_
                       go_big_quiet_on)
                    | (go_big_quiet_op
                       first
                        | go_big_quiet_on
                        | (apply Exists.intro
                           refine ⟨fun z => ?_, ?_⟩
                           · first
                              | (with_reducible exact Og.callB (K1.out z))
                              | (with_reducible exact Og.callB (K2.out z))
                           go_big_quiet_on))))
              refine wpQuiet_nil ?_
              intro _ hw'
              obtain ⟨q9, hw''⟩ := hw'
              subst hw''
              have B5 := Lib.hid (HBR4.out.trans (q9.b.mono HBR4.out.size))
            all_goals first
              | (have HNO := Lib.hid (Md.atomB_no hlt hml (by rw [HLI.out]; omega) (show Md.spoilB x m k (Md.loadI x k) = true from HSP.out))
                 go_wp2_with fail
                 go_ret
                 exact ⟨by rw [HNO.out]; rfl, B0.out.trans ((B2.out.trans (B5.out.mono B2.out.size)).mono B0.out.size)⟩)
              | (go_wp2_with fail
                 go_roundw
                 case rel => exact ⟨m + 1, by omega, by go_num, B5.out, fun n h => by rcases Nat.lt_or_eq_of_le (Nat.le_of_lt_succ h) with h | h; exact HALL4.out n h; subst h; exact HSP.out⟩
                 case measure => simp [intOf]; omega)
          · have hmi : ¬ (m : Int) < (x.ev.length : Int) := by omega
            have HR := Lib.hid (Md.rowB_yes (fun j hj => HALL4.out j (by omega)))
            clear hml
            go_wp2_with fail
            go_roundw
            case rel => exact ⟨k + 1, by omega, by go_num, B4.out, fun n h => by rcases Nat.lt_or_eq_of_le (Nat.le_of_lt_succ h) with h | h; exact HALL.out n h; subst h; exact HR.out⟩
            case measure => simp [intOf]; omega
      · have t3 : (e1.k == 3) = false := by simpa using h3
        have hlp : Md.loadI x k = pr := by unfold Md.loadI; rw [HE1.out, if_neg h3, HPR.out]
        by_cases hneg : pr < 0
        · have HR := Lib.hid (Md.rowB_neg (by rw [hlp]; exact hneg))
          clear hpr h3 hlp
          go_wp2
          go_roundw
          case rel => exact ⟨k + 1, by omega, by go_num, B2.out, fun n h => by rcases Nat.lt_or_eq_of_le (Nat.le_of_lt_succ h) with h | h; exact HALL.out n h; subst h; exact HR.out⟩
          case measure => simp [intOf]; omega
        · clear hpr
          obtain ⟨r, hr, hrl, hld⟩ := Md.loadI_ld HC.out hlt (by rw [hlp]; exact hneg)
          have hli : Md.loadI x k = (r : Int) := hr
          obtain rfl : pr = (r : Int) := by rw [← hlp, hr]
          clear h3 hr hlp hneg
          have HLI := Lib.hid hli
          obtain ⟨f, hf, hf1, hf2⟩ := Ev.from_in HC.out hrl hld
          obtain ⟨gf, of, ef, hcf⟩ := HX.out.fr.at_ hf1
          have hfl := check_from HC.out
          have hfi : (r : Int) < (x.fr.l.length : Int) := by omega
          have hm1 := HX.out.fr.2.1; have hm2 := HX.out.fr.2.2.1
          have HF2 := Lib.hid hf2; have HCF := Lib.hid hcf; have HEF := Lib.hid ef
          clear hli hf1 hf2 hcf ef hfl hld
          go_wp2
          go_loopw [5] (fun i wr => ∃ m : Nat, m ≤ x.ev.length ∧ i = .int .i64 (m : Int) ∧ Below W2.heap.size W2 wr ∧ ∀ j, j < m → Md.spoilB x j k (Md.loadI x k) = false) (fun i _ => x.ev.length - (intOf i).toNat)
          case atStart => exact ⟨0, Nat.zero_le _, rfl, Below.refl _ _, fun n hn => absurd hn (by omega)⟩
          case round =>
            clear cx ck
            obtain ⟨m, hm, rfl, hbr, hall⟩ := hrel
            have HBR4 := Lib.hid hbr; have HALL4 := Lib.hid hall
            have B4 := Lib.hid (B2.out.trans (hbr.mono B2.out.size))
            have R4 := Lib.hid ((hbr.block _ (Array.getElem?_eq_some_iff.1 R2.out).1).trans R2.out)
            have cx := Ev.kp_below B4.out _ _ HCX.out
            rw [HEG.out] at cx
            clear hbr hall
            by_cases hml : m < x.ev.length
            · have hmi : (m : Int) < (x.ev.length : Int) := by omega
              obtain ⟨e2, he2⟩ : ∃ e, x.ev[m]? = some e := ⟨_, List.getElem?_eq_getElem hml⟩
              obtain ⟨g', o', eg', hc2⟩ := HX.out.ev.at_ he2
              rw [HEG.out] at eg'
              obtain ⟨rfl, rfl⟩ : g = g' ∧ o = o' := by simpa using eg'
              have hn2 := Ev.nth_some he2
              have cf1 : wr.cell? ⟨xb, 1, none⟩ = some (.slice (some ⟨gf, of, none⟩) x.fr.l.length x.fr.c) := by rw [cell_of_row _ _ _ _ _ _ R4.out, ← HEF.out]; rfl
              have k4 := Ev.kp_below B4.out
              have q1 : ∀ z : Og.On wr.heap.size wr, z.x.cell? ⟨xb, 0, none⟩ = some (.slice (some ⟨g, o, none⟩) x.ev.length x.ce) := fun z => Og.cellB z cx
              have q2 : ∀ z : Og.On wr.heap.size wr, z.x.cell? ⟨xb, 1, none⟩ = some (.slice (some ⟨gf, of, none⟩) x.fr.l.length x.fr.c) := fun z => Og.cellB z cf1
              have q3 : ∀ z : Og.On wr.heap.size wr, z.x.cell? ⟨gf, of + r, none⟩ = some (.int .i64 (f : Int)) := fun z => Og.cellB z (k4 _ _ HCF.out)
              have q4 : ∀ z : Og.On wr.heap.size wr, z.x.cell? ⟨g, o + m * 13, none⟩ = some (.int .i64 e2.h) := fun z => Og.cellB z (k4 _ _ (hc2 0 _ rfl))
              have q5 : ∀ z : Og.On wr.heap.size wr, z.x.cell? ⟨g, o + k * 13, none⟩ = some (.int .i64 e1.h) := fun z => Og.cellB z (k4 _ _ (HC1.out 0 _ rfl))
              have LXX := Lib.hid (fun z : Og.On wr.heap.size wr => Og.rowB (P := Tryz.prog) z 26 _ R4.out Tryz.underlying26 rfl (by kernel_rfl))
              obtain ⟨v1, h1⟩ : ∃ v, (e2.h != e1.h) = v := ⟨_, rfl⟩
              obtain ⟨v2, h2⟩ : ∃ v, Ev.isCo x (f : Int) (m : Int) = v := ⟨_, rfl⟩
              obtain ⟨v3, h3⟩ : ∃ v, Ev.isCo x (m : Int) (k : Int) = v := ⟨_, rfl⟩
              have K1 := Lib.hid (show ∀ z : Og.On wr.heap.size wr, Calls Tryz.prog 39 #[.agg #[.slice x.ae x.ev.length x.ce, .slice x.fr.a x.fr.l.length x.fr.c, .slice x.ao x.od.length x.co], .int .i64 (f : Int), .int .i64 (m : Int)] z.x (fun e w'' => e = .returned (.bool v2) ∧ Below z.x.heap.size z.x w'') from fun z => rco_is h2 hf hml z.x ((HX.out.kp (Ev.kp_below B4.out)).kp (Ev.kp_below z.b)))
              have K2 := Lib.hid (show ∀ z : Og.On wr.heap.size wr, Calls Tryz.prog 39 #[.agg #[.slice x.ae x.ev.length x.ce, .slice x.fr.a x.fr.l.length x.fr.c, .slice x.ao x.od.length x.co], .int .i64 (m : Int), .int .i64 (k : Int)] z.x (fun e w'' => e = .returned (.bool v3) ∧ Below z.x.heap.size z.x w'') from fun z => rco_is h3 hml hlt z.x ((HX.out.kp (Ev.kp_below B4.out)).kp (Ev.kp_below z.b)))
              have HSP := Lib.hid (show Md.spoilB x m k (Md.loadI x k) = (v1 && v2 && v3) by
                unfold Md.spoilB; rw [HLI.out, Int.toNat_natCast, HF2.out, h2, h3, hn2, HE1.out, ← h1]; rfl)
              have h1' := h1
              clear h2 h3 hn2 he2 hc2 cf1 k4 eg' h1
              cases v1 <;> cases v2 <;> cases v3
              all_goals
                go_wp2_with fail
                refine Og.regionB (by kernel_rfl) (by kernel_rfl) ?_
                repeat (first
                  | go_big_quiet_skip
                  | (go_big_quiet_want
                     first
                      | ((with_reducible show Oper.quiet _ (Oper.mk (some 47) _ _ _ _ _) _ _ _); refine Og.quiet_load 26 (.tmp 1) rfl (.agg #[.slice x.ae x.ev.length x.ce, .slice x.fr.a x.fr.l.length x.fr.c, .slice x.ao x.od.length x.co]) ⟨xb, 0, none⟩ _ rfl (by rintro _ ⟨z, rfl⟩; exact LXX.out z) (by simp only [Act.put, List.setIfInBounds_toArray, List.set_cons_zero, List.set_cons_succ]; rfl) ?_
                         go_big_quiet_on)
                      | ((with_reducible show Oper.quiet _ (Oper.mk (some 57) _ _ _ _ _) _ _ _); refine Og.quiet_load 26 (.tmp 1) rfl (.agg #[.slice x.ae x.ev.length x.ce, .slice x.fr.a x.fr.l.length x.fr.c, .slice x.ao x.od.length x.co]) ⟨xb, 0, none⟩ _ rfl (by rintro _ ⟨z, rfl⟩; exact LXX.out z) (by simp only [Act.put, List.setIfInBounds_toArray, List.set_cons_zero, List.set_cons_succ]; rfl) ?_
                         go_big_quiet_on)
                      | (go_big_quiet_op
                         first
                          | go_big_quiet_on
                          | (apply Exists.intro
                             refine ⟨fun z => ?_, ?_⟩
                             · first
                                | (with_reducible exact Og.callB (K1.out z))
                                | (with_reducible exact Og.callB (K2.out z))
                             go_big_quiet_on))))
                refine wpQuiet_nil ?_
                intro _ hw'
                obtain ⟨q9, hw''⟩ := hw'
                subst hw''
                have B5 := Lib.hid (HBR4.out.trans (q9.b.mono HBR4.out.size))
              all_goals first
                | (have HNO := Lib.hid (Md.atomB_no hlt hml (by rw [HLI.out]; omega) (show Md.spoilB x m k (Md.loadI x k) = true from HSP.out))
                   go_wp2_with fail
                   go_ret
                   exact ⟨by rw [HNO.out]; rfl, B0.out.trans ((B2.out.trans (B5.out.mono B2.out.size)).mono B0.out.size)⟩)
                | (go_wp2_with fail
                   go_roundw
                   case rel => exact ⟨m + 1, by omega, by go_num, B5.out, fun n h => by rcases Nat.lt_or_eq_of_le (Nat.le_of_lt_succ h) with h | h; exact HALL4.out n h; subst h; exact HSP.out⟩
                   case measure => simp [intOf]; omega)
            · have hmi : ¬ (m : Int) < (x.ev.length : Int) := by omega
              have HR := Lib.hid (Md.rowB_yes (fun j hj => HALL4.out j (by omega)))
              clear hml
              go_wp2_with fail
              go_roundw
              case rel => exact ⟨k + 1, by omega, by go_num, B4.out, fun n h => by rcases Nat.lt_or_eq_of_le (Nat.le_of_lt_succ h) with h | h; exact HALL.out n h; subst h; exact HR.out⟩
              case measure => simp [intOf]; omega
    · have hki : ¬ (k : Int) < (x.ev.length : Int) := by omega
      have HYES := Lib.hid (Md.atomB_yes (fun n hn => HALL.out n (by omega)))
      clear hlt
      go_wp2_with fail
      go_ret
      exact ⟨by rw [HYES.out]; rfl, B0.out.trans (HBR.out.mono B0.out.size)⟩
end Go.Proofs.YtecnnkidalkmfaaGreat
end
