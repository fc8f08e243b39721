/-
  EventsOrder: for every input the statement's function returns true, with no condition; each argument reads behind the call as before. By contracts of the program's and the document's functions.
-/
import Derived.Test.YtnlfdepeimjliaaEvLawZ
namespace Go.Proofs.Ytnlfdepeimjliaa.eventsOrder
open Go.ChangeShapes Go.WideShapes Go.ChangeAt Go.RowKit
set_option linter.unusedVariables false
set_option linter.unusedSimpArgs false

def PrS (ps : List (Nat × Nat)) (v : Value) (w : World) : Prop := ∃ a c, v = .slice a ps.length c ∧ Ev.PairsIn w a c ps
/-- a new variable: the world goes on under a name -/
theorem alloc_own {P : Program} {ops : Array Oper} {rest : List Oper} {o : Oper} {a : Act} {w : World} {Q : Exit → Act → World → Prop} (hgd : o.guard = none) {Z : Array Value} {T : TypeId} {g : Nat} (hg : g = w.heap.size)
    (ho : ∀ w : World, (execOp a.eval o).run P w = .ok (.value (.pointer (some ⟨w.heap.size, 0, none⟩))) (w.alloc (.cells Z T)))
    (h : ∀ W, W = w.alloc (.cells Z T) → wpList P ops Q rest (a.put o.dst (.pointer (some ⟨g, 0, none⟩))) W) : wpList P ops Q (o :: rest) a w :=
  wpList_plain hgd fun _ hK => by
    subst hg
    unfold Oper.wp
    rw [ho w]
    exact hK _ _ (h _ rfl)
/-! THE WALK: the Go text returns true; of memory nothing that stood there has turned. -/
set_option maxRecDepth 100000 in
set_option maxHeartbeats 16000000 in
theorem walk (w : World) (x0 : Ev.X) (b0 : Ev.XIn w x0) :
    Calls Try.prog 5 #[Ev.exV x0] w fun e w' => e = .returned (.bool true) ∧ Below w.heap.size w w' := by
  have HIN := Lib.hid b0
  have R0 := Lib.hid (heap_alloc_new w (.cells (Ev.xcells x0).toArray 26))
  have B0 := Lib.hid ((Below.refl w.heap.size w).alloc (Nat.le_refl _) (.cells (Ev.xcells x0).toArray 26))
  have HSZ := Lib.hid (show (w.alloc (.cells (Ev.xcells x0).toArray 26)).heap.size = w.heap.size + 1 by simp only [World.size_alloc])
  have hl1 := b0.ev.le; have hl2 := b0.ev.max
  clear b0
  unfold Ev.exV
  go_enter Try.func5, Try.ntmps5
  go_wp2_with ((with_reducible show wpList _ _ _ (Oper.mk (some 14) _ _ _ _ _ :: _) _ _); refine wpList_load_row rfl 26 (.tmp 1) rfl w.heap.size (by kernel_rfl) 26 (Ev.xcells x0).toArray (0, 0) _ R0.out Try.underlying26 rfl (by kernel_rfl) ?_)
  refine (wide_any x0 _ (HIN.out.kp (Ev.kp_below B0.out))).mono ?_
  rintro e W1 ⟨b, rfl, hw, hb⟩
  have HB1 := Lib.hid (show Below (w.heap.size + 1) (w.alloc (.cells (Ev.xcells x0).toArray 26)) W1 by rw [← HSZ.out]; exact hb)
  have BW := Lib.hid (B0.out.trans (HB1.out.mono (Nat.le_succ _)))
  have R1 := Lib.hid (Ev.exrow HB1.out)
  have cx := Ev.xcell0 R1.out
  clear hb hw
  cases b
  case true =>
    go_wp2_with fail
    refine (known_any _).mono ?_
    rintro e W9 ⟨rfl, hb⟩
    have HEND := Lib.hid ((BW.out).trans (hb.mono (BW.out).size)); clear hb
    go_wp2_with fail
    go_ret
    exact ⟨rfl, HEND.out⟩
  by_cases hl : 24 < x0.ev.length
  · have hi : (24 : Int) < (x0.ev.length : Int) := by omega
    clear hl
    go_wp2_with fail
    refine (known_any _).mono ?_
    rintro e W9 ⟨rfl, hb⟩
    have HEND := Lib.hid ((BW.out).trans (hb.mono (BW.out).size)); clear hb
    go_wp2_with fail
    go_ret
    exact ⟨rfl, HEND.out⟩
  have hi : ¬ (24 : Int) < (x0.ev.length : Int) := by omega
  have hn24 : x0.ev.length ≤ 24 := by omega
  clear hl
  by_cases hc : Ev.check x0 = 0
  case neg =>
    obtain ⟨v, hv⟩ : ∃ v, Ev.check x0 = v := ⟨_, rfl⟩
    have HV := Lib.hid hv
    have tv : (v != 0) = true := by rw [hv] at hc; simpa using hc
    clear hv hc
    go_wp2_with ((with_reducible show wpList _ _ _ (Oper.mk (some 23) _ _ _ _ _ :: _) _ _); refine Ev.load_row_g 26 (.tmp 1) rfl rfl w.heap.size (by kernel_rfl) 26 (Ev.xcells x0).toArray (0, 0) _ R1.out Try.underlying26 rfl (by kernel_rfl) ?_)
    refine (check_is HV.out _ (HIN.out.kp (Ev.kp_below BW.out))).mono ?_
    rintro e W2 ⟨rfl, hb⟩
    have B2 := Lib.hid (BW.out.trans (hb.mono BW.out.size)); clear hb
    go_wp2_with fail
    refine (known_any _).mono ?_
    rintro e W9 ⟨rfl, hb⟩
    have HEND := Lib.hid ((B2.out).trans (hb.mono (B2.out).size)); clear hb
    go_wp2_with fail
    go_ret
    exact ⟨rfl, HEND.out⟩
  have HC := Lib.hid hc
  obtain ⟨L2, hL2⟩ : ∃ l, Ev.pl (Ev.isRf x0) x0.ev.length x0.ev.length = l := ⟨_, rfl⟩
  obtain ⟨L3, hL3⟩ : ∃ l, Ev.pl (fun a b : Nat => Ev.isCo x0 (a : Int) (b : Int)) x0.ev.length x0.ev.length = l := ⟨_, rfl⟩
  obtain ⟨L4, hL4⟩ : ∃ l, Ev.pl (Ev.isFr x0) x0.ev.length x0.ev.length = l := ⟨_, rfl⟩
  have HL2 := Lib.hid hL2; have HL3 := Lib.hid hL3; have HL4 := Lib.hid hL4
  have HP2 := Lib.hid (show ∀ W, Ev.XIn W x0 → Calls Try.prog 15 #[Ev.exV x0] W fun e w' => ∃ a c, e = .returned (.slice a L2.length c) ∧ Ev.PairsIn w' a c L2 ∧ Below W.heap.size W w' from fun W h => by rw [← hL2, ← Ev.rf_eq hc]; exact rf_yes x0 W h hc)
  have HP3 := Lib.hid (show ∀ W, Ev.XIn W x0 → Calls Try.prog 16 #[Ev.exV x0] W fun e w' => ∃ a c, e = .returned (.slice a L3.length c) ∧ Ev.PairsIn w' a c L3 ∧ Below W.heap.size W w' from fun W h => by rw [← hL3, ← Ev.co_eq hc]; exact co_yes x0 W h hc)
  have HP4 := Lib.hid (show ∀ W, Ev.XIn W x0 → Calls Try.prog 17 #[Ev.exV x0] W fun e w' => ∃ a c, e = .returned (.slice a L4.length c) ∧ Ev.PairsIn w' a c L4 ∧ Below W.heap.size W w' from fun W h => by rw [← hL4, ← Ev.fr_eq hc]; exact fr_yes x0 W h hc)
  clear hc hL2 hL3 hL4
  go_wp2_with ((with_reducible show wpList _ _ _ (Oper.mk (some 23) _ _ _ _ _ :: _) _ _); refine Ev.load_row_g 26 (.tmp 1) rfl rfl w.heap.size (by kernel_rfl) 26 (Ev.xcells x0).toArray (0, 0) _ R1.out Try.underlying26 rfl (by kernel_rfl) ?_)
  refine (check_is HC.out _ (HIN.out.kp (Ev.kp_below BW.out))).mono ?_
  rintro e W2 ⟨rfl, hb⟩
  have B2 := Lib.hid (BW.out.trans (hb.mono BW.out.size))
  have R2 := Lib.hid ((hb.block w.heap.size (Array.getElem?_eq_some_iff.1 R1.out).1).trans R1.out)
  clear hb cx
  go_wp2_with ((with_reducible show wpList _ _ _ (Oper.mk (some 28) _ _ _ _ _ :: _) _ _); refine wpList_load_row rfl 26 (.tmp 1) rfl w.heap.size (by kernel_rfl) 26 (Ev.xcells x0).toArray (0, 0) _ R2.out Try.underlying26 rfl (by kernel_rfl) ?_)
  refine (HP3.out W2 (HIN.out.kp (Ev.kp_below B2.out))).mono ?_
  rintro e W3 ⟨a3, c3, rfl, hp, hb⟩
  have P3 := Lib.hid hp
  have B3 := Lib.hid (B2.out.trans (hb.mono B2.out.size))
  have R3 := Lib.hid ((hb.block w.heap.size (Array.getElem?_eq_some_iff.1 R2.out).1).trans R2.out)
  have pl1 := hp.le; have pl2 := hp.max
  clear hp hb
  obtain ⟨gm, hgm⟩ : ∃ g, g = W3.heap.size := ⟨_, rfl⟩
  have HGM := Lib.hid hgm
  have KX := Lib.hid (show ∀ z, Below gm W3 z → Ev.Kp W3 z from fun z hz => Ev.kp_of hz (by rw [hgm]; exact Nat.le_refl _))
  have BX := Lib.hid (show ∀ z, Below gm W3 z → Below w.heap.size w z from fun z hz => B3.out.trans (hz.mono (by rw [hgm]; exact B3.out.size)))
  have RX := Lib.hid (show ∀ z, Below gm W3 z → z.heap[w.heap.size]? = some (.cells (Ev.xcells x0).toArray 26 (0, 0)) from fun z hz => (hz.block w.heap.size (by rw [hgm]; exact (Array.getElem?_eq_some_iff.1 R3.out).1)).trans R3.out)
  have CX := Lib.hid (show ∀ z, Below gm W3 z → z.cell? ⟨w.heap.size, 0, none⟩ = some (.slice x0.ae x0.ev.length x0.ce) from fun z hz => Ev.xcell0 (RX.out z hz))
  have GZ := Lib.hid (show ∀ z, Below gm W3 z → gm ≤ z.heap.size from fun z hz => by rw [hgm]; exact hz.size)
  clear hgm
  go_wp2_with ((with_reducible show wpList _ _ _ (Oper.mk (some 4) _ _ _ _ _ :: _) _ _); refine alloc_own rfl (Z := (List.replicate 576 (Value.bool false)).toArray) (T := 37) (g := gm) HGM.out (fun _ => (by kernel_rfl)) ?_; intro W4 hW4; have HM4 := Lib.hid (show Ev.MBlk W4 gm [] from (by unfold Ev.MBlk; rw [Ev.mat_nil, hW4, HGM.out, heap_alloc_new, List.map_replicate])); have HB4 := Lib.hid (show Below gm W3 W4 from (by rw [hW4, HGM.out]; exact (Below.refl _ _).alloc (Nat.le_refl _) _)); clear hW4)
  go_loopw [5] (fun i wr => ∃ k : Nat, k ≤ L3.length ∧ i = .int .i64 (k : Int) ∧ Ev.MBlk wr gm (L3.take k) ∧ Below gm W3 wr) (fun i _ => L3.length - (intOf i).toNat)
  case atStart => exact ⟨0, Nat.zero_le _, rfl, HM4.out, HB4.out⟩
  case round =>
    obtain ⟨k, hk, rfl, hmb, hbr⟩ := hrel
    have HMB := Lib.hid hmb; have HBR := Lib.hid hbr; clear hmb hbr
    by_cases hlt : k < L3.length
    · obtain ⟨p, hp⟩ : ∃ p, L3[k]? = some p := ⟨_, List.getElem?_eq_getElem hlt⟩
      obtain ⟨pa, pb⟩ := p
      obtain ⟨hpa, hpb⟩ : pa < 24 ∧ pb < 24 := by
        have h := List.mem_of_getElem? hp
        rw [← HL3.out, Ev.pl_mem] at h
        have h1 := h.1; have h2 := h.2.1
        simp only at h1 h2
        omega
      have HTK := Lib.hid (show L3.take (k + 1) = L3.take k ++ [(pa, pb)] by rw [List.take_add_one, hp]; rfl)
      obtain ⟨g, o, eg, hcp⟩ := P3.out.at_ hp
      have C0 := Lib.hid (show ∀ z, Below gm W3 z → z.cell? ⟨g, o + k * 2, none⟩ = some (.int .i64 (pa : Int)) from fun z hz => KX.out z hz _ _ (hcp 0 _ rfl))
      have C1 := Lib.hid (show ∀ z, Below gm W3 z → z.cell? ⟨g, o + k * 2 + 1, none⟩ = some (.int .i64 (pb : Int)) from fun z hz => KX.out z hz _ _ (hcp 1 _ rfl))
      have c0 := C0.out _ HBR.out; have c1 := C1.out _ HBR.out
      have hki : (k : Int) < (L3.length : Int) := by omega
      have pl1 := P3.out.le; have pl2 := P3.out.max
      have t1 : decide ((pa : Int) < 0) = false := decide_eq_false (by omega)
      have t2 : decide (24 ≤ (pa : Int)) = false := decide_eq_false (by omega)
      have t3 : decide ((pb : Int) < 0) = false := decide_eq_false (by omega)
      have t4 : decide (24 ≤ (pb : Int)) = false := decide_eq_false (by omega)
      have u1 : (pa : Int) < 24 := by omega
      have u2 : (pb : Int) < 24 := by omega
      rw [eg]
      clear hp eg hcp
      go_wp2
      refine wp_region_held (S := fun z => Below gm W3 z) (by kernel_rfl) ?_
      have S0 : Below gm W3 { wr with drawn := wr.drawn + 1 } := HBR.out.trans ⟨rfl, rfl, rfl, Nat.le_refl _, fun _ _ => rfl⟩
      refine Og.held_take 0 _ (.slice (some ⟨g, o, none⟩) L3.length c3) _ rfl rfl (by kernel_rfl) (by kernel_rfl) (by kernel_rfl) (fun _ _ _ h => h) S0 (fun z hz => ?_) (by simp only [Act.put, List.setIfInBounds_toArray, List.set_cons_zero, List.set_cons_succ]; rfl) ?_
      · go_simp; try (with_reducible rfl)
      refine Og.held_take 1 _ (.int .i64 (k : Int)) _ rfl rfl (by kernel_rfl) (by kernel_rfl) (by kernel_rfl) (fun _ _ _ h => h) S0 (fun z hz => ?_) (by simp only [Act.put, List.setIfInBounds_toArray, List.set_cons_zero, List.set_cons_succ]; rfl) ?_
      · go_simp; try (with_reducible rfl)
      refine Og.held_take 2 _ (.pointer (some ⟨g, o + k * 2, none⟩)) _ rfl rfl (by kernel_rfl) (by kernel_rfl) (by kernel_rfl) (fun _ _ _ h => h) S0 (fun z hz => ?_) (by simp only [Act.put, List.setIfInBounds_toArray, List.set_cons_zero, List.set_cons_succ]; rfl) ?_
      · go_simp; try (with_reducible rfl)
      refine Og.held_take 3 _ (.pointer (some ⟨g, o + k * 2, none⟩)) _ rfl rfl (by kernel_rfl) (by kernel_rfl) (by kernel_rfl) (fun _ _ _ h => h) S0 (fun z hz => ?_) (by simp only [Act.put, List.setIfInBounds_toArray, List.set_cons_zero, List.set_cons_succ]; rfl) ?_
      · go_simp; try (with_reducible rfl)
      refine Og.held_take 4 _ (.int .i64 (pa : Int)) _ rfl rfl (by kernel_rfl) (by kernel_rfl) (by kernel_rfl) (fun _ _ _ h => h) S0 (fun z hz => ?_) (by simp only [Act.put, List.setIfInBounds_toArray, List.set_cons_zero, List.set_cons_succ]; rfl) ?_
      · have cz := C0.out z hz; go_simp; try (with_reducible rfl)
      refine Og.held_take 5 _ (.slice (some ⟨g, o, none⟩) L3.length c3) _ rfl rfl (by kernel_rfl) (by kernel_rfl) (by kernel_rfl) (fun _ _ _ h => h) S0 (fun z hz => ?_) (by simp only [Act.put, List.setIfInBounds_toArray, List.set_cons_zero, List.set_cons_succ]; rfl) ?_
      · go_simp; try (with_reducible rfl)
      refine Og.held_take 6 _ (.int .i64 (k : Int)) _ rfl rfl (by kernel_rfl) (by kernel_rfl) (by kernel_rfl) (fun _ _ _ h => h) S0 (fun z hz => ?_) (by simp only [Act.put, List.setIfInBounds_toArray, List.set_cons_zero, List.set_cons_succ]; rfl) ?_
      · go_simp; try (with_reducible rfl)
      refine Og.held_take 7 _ (.pointer (some ⟨g, o + k * 2, none⟩)) _ rfl rfl (by kernel_rfl) (by kernel_rfl) (by kernel_rfl) (fun _ _ _ h => h) S0 (fun z hz => ?_) (by simp only [Act.put, List.setIfInBounds_toArray, List.set_cons_zero, List.set_cons_succ]; rfl) ?_
      · go_simp; try (with_reducible rfl)
      refine Og.held_take 8 _ (.pointer (some ⟨g, o + k * 2 + 1, none⟩)) _ rfl rfl (by kernel_rfl) (by kernel_rfl) (by kernel_rfl) (fun _ _ _ h => h) S0 (fun z hz => ?_) (by simp only [Act.put, List.setIfInBounds_toArray, List.set_cons_zero, List.set_cons_succ]; rfl) ?_
      · go_simp; try (with_reducible rfl)
      refine Og.held_take 9 _ (.int .i64 (pb : Int)) _ rfl rfl (by kernel_rfl) (by kernel_rfl) (by kernel_rfl) (fun _ _ _ h => h) S0 (fun z hz => ?_) (by simp only [Act.put, List.setIfInBounds_toArray, List.set_cons_zero, List.set_cons_succ]; rfl) ?_
      · have cz := C1.out z hz; go_simp; try (with_reducible rfl)
      refine Og.held_take 10 _ (.pointer (some ⟨gm, pa * 24, none⟩)) _ rfl rfl (by kernel_rfl) (by kernel_rfl) (by kernel_rfl) (fun _ _ _ h => h) S0 (fun z hz => ?_) (by simp only [Act.put, List.setIfInBounds_toArray, List.set_cons_zero, List.set_cons_succ]; rfl) ?_
      · go_simp; try (with_reducible rfl)
      refine Og.held_take 11 _ (.pointer (some ⟨gm, pa * 24 + pb, none⟩)) _ rfl rfl (by kernel_rfl) (by kernel_rfl) (by kernel_rfl) (fun _ _ _ h => h) S0 (fun z hz => ?_) (by simp only [Act.put, List.setIfInBounds_toArray, List.set_cons_zero, List.set_cons_succ]; rfl) ?_
      · go_simp; try (with_reducible rfl)
      have HM2 := Lib.hid (show Ev.MBlk { wr with drawn := wr.drawn + 1 } gm (L3.take k) from HMB.out)
      have hcl := HMB.out.cell hpa hpb
      have hfz := HMB.out.frozen (pa * 24 + pb)
      refine Og.held_one 12 (by kernel_rfl) (Og.held_op' 12 _ (({ wr with drawn := wr.drawn + 1 } : World).setCell ⟨gm, pa * 24 + pb, none⟩ (.bool true)) _ rfl rfl ?_ rfl (S0.setCell (Nat.le_refl _) _) ?_)
      · go_simp
      refine wpAnyH_done (by kernel_rfl) ?_ _
      clear hcl hfz
      have HM3 := Lib.hid (HM2.out.set_ hpa hpb)
      have HB3 := Lib.hid (show Below gm W3 (({ wr with drawn := wr.drawn + 1 } : World).setCell ⟨gm, pa * 24 + pb, none⟩ (.bool true)) from S0.setCell (Nat.le_refl _) _)
      clear S0
      go_wp2_with fail
      go_roundw
      case rel => exact ⟨k + 1, by omega, by go_num, by rw [HTK.out]; exact HM3.out, HB3.out⟩
      case measure => simp [intOf]; omega
    · have hki : ¬ (k : Int) < (L3.length : Int) := by omega
      have hke : k = L3.length := by omega
      have HM0 := Lib.hid (show Ev.MBlk wr gm L3 by have := HMB.out; rwa [hke, List.take_length] at this)
      have HBE := HBR
      clear hke
      go_wp2
      go_loopw [6, 7, 8, 9] (fun i _ _ _ wr => ∃ a : Nat, a ≤ x0.ev.length ∧ i = .int .i64 (a : Int) ∧ Ev.MBlk wr gm L3 ∧ Below gm W3 wr) (fun i _ _ _ _ => x0.ev.length - (intOf i).toNat)
      case atStart => exact ⟨0, Nat.zero_le _, rfl, HM0.out, HBE.out⟩
      case round =>
        obtain ⟨a, ha, rfl, hm2, hb2⟩ := hrel
        have HM2 := Lib.hid hm2; have HB2 := Lib.hid hb2; clear hm2 hb2
        have cx := CX.out _ HB2.out
        by_cases hal : a < x0.ev.length
        · have hai : (a : Int) < (x0.ev.length : Int) := by omega
          have ha24 : (a : Int) < 24 := by omega
          go_wp2
          clear cx
          go_loopw [7, 8, 9] (fun i _ _ wr => ∃ b : Nat, b ≤ x0.ev.length ∧ i = .int .i64 (b : Int) ∧ Ev.MBlk wr gm L3 ∧ Below gm W3 wr) (fun i _ _ _ => x0.ev.length - (intOf i).toNat)
          case atStart => exact ⟨0, Nat.zero_le _, rfl, HM2.out, HB2.out⟩
          case round =>
            obtain ⟨b, hb, rfl, hm3, hb3⟩ := hrel
            have HM3 := Lib.hid hm3; have HB3 := Lib.hid hb3; clear hm3 hb3
            have cx := CX.out _ HB3.out
            by_cases hbl : b < x0.ev.length
            · have hbi : (b : Int) < (x0.ev.length : Int) := by omega
              have hb24 : (b : Int) < 24 := by omega
              obtain ⟨ea, hea⟩ : ∃ e, x0.ev[a]? = some e := ⟨_, List.getElem?_eq_getElem hal⟩
              obtain ⟨eb, heb⟩ : ∃ e, x0.ev[b]? = some e := ⟨_, List.getElem?_eq_getElem hbl⟩
              have HX3 := HIN.out.kp (Ev.kp_below (BX.out _ HB3.out))
              obtain ⟨ga, oa, ega, hca⟩ := HX3.ev.at_ hea
              obtain ⟨gb, ob, egb, hcb⟩ := HX3.ev.at_ heb
              obtain ⟨rfl, rfl⟩ : gb = ga ∧ ob = oa := by rw [ega] at egb; cases egb; exact ⟨rfl, rfl⟩
              obtain ⟨sa, hsa⟩ : ∃ s, Ev.stores ea.k = s := ⟨_, rfl⟩
              obtain ⟨sb, hsb⟩ : ∃ s, Ev.stores eb.k = s := ⟨_, rfl⟩
              have HSA := Lib.hid hsa; have HSB := Lib.hid hsb
              have HBS := Lib.hid (show Ev.bothS x0 a b = (!(decide (a = b)) && sa && sb && ea.a == eb.a) by unfold Ev.bothS; rw [Ev.nth_some hea, Ev.nth_some heb, hsa, hsb])
              have c0 : ∀ z : Og.On wr.heap.size wr, z.x.cell? ⟨w.heap.size, 0, none⟩ = some (.slice (some ⟨gb, ob, none⟩) x0.ev.length x0.ce) := fun z => Og.cellB z (by rw [← egb]; exact cx)
              have hza : ∀ z : Og.On wr.heap.size wr, ∀ i c, (Ev.cells ea)[i]? = some c → z.x.cell? ⟨gb, ob + a * 13 + i, none⟩ = some c := fun z i c hi => Og.cellB z (hca i c hi)
              have hzb : ∀ z : Og.On wr.heap.size wr, ∀ i c, (Ev.cells eb)[i]? = some c → z.x.cell? ⟨gb, ob + b * 13 + i, none⟩ = some c := fun z i c hi => Og.cellB z (hcb i c hi)
              have LA := Lib.hid (fun z : Og.On wr.heap.size wr => Ev.ld (hza z))
              have LB := Lib.hid (fun z : Og.On wr.heap.size wr => Ev.ld (hzb z))
              have ca : ∀ z : Og.On wr.heap.size wr, z.x.cell? ⟨gb, ob + a * 13 + 2, none⟩ = some (.int .u32 ea.a) := fun z => hza z 2 _ rfl
              have cb : ∀ z : Og.On wr.heap.size wr, z.x.cell? ⟨gb, ob + b * 13 + 2, none⟩ = some (.int .u32 eb.a) := fun z => hzb z 2 _ rfl
              clear hea heb HX3 ega hca hcb hza hzb hsa hsb
              rw [egb] at cx
              clear egb
              by_cases hab : a = b
              · have tab : (a != b) = false := by simp [hab]
                have tab2 : ((a : Int) != (b : Int)) = false := by simp [hab]
                have HBO := Lib.hid (show Ev.bothS x0 a b = false by rw [HBS.out, decide_eq_true hab]; rfl)
                clear hab
                go_wp2
                refine Og.regionB (by kernel_rfl) (by kernel_rfl) ?_
                repeat (first
                  | go_big_quiet_skip
                  | (go_big_quiet_want
                     first
                      | ((with_reducible show Oper.quiet _ (Oper.mk (some 100) _ _ _ _ _) _ _ _); refine Og.quiet_load 44 (.tmp 99) rfl (.agg (Ev.cells ea).toArray) ⟨gb, ob + a * 13, none⟩ _ rfl (by rintro _ ⟨z, rfl⟩; exact LA.out z) (by simp only [Act.put, List.setIfInBounds_toArray, List.set_cons_zero, List.set_cons_succ]; rfl) ?_
                         go_big_quiet_on)
                      | ((with_reducible show Oper.quiet _ (Oper.mk (some 108) _ _ _ _ _) _ _ _); refine Og.quiet_load 44 (.tmp 107) rfl (.agg (Ev.cells eb).toArray) ⟨gb, ob + b * 13, none⟩ _ rfl (by rintro _ ⟨z, rfl⟩; exact LB.out z) (by simp only [Act.put, List.setIfInBounds_toArray, List.set_cons_zero, List.set_cons_succ]; rfl) ?_
                         go_big_quiet_on)
                      | (go_big_quiet_op
                         first
                          | go_big_quiet_on
                          | (apply Exists.intro
                             refine ⟨fun z => ?_, ?_⟩
                             · first
                                | (with_reducible exact Og.callB (pstores_is HSA.out _))
                                | (with_reducible exact Og.callB (pstores_is HSB.out _))
                             go_big_quiet_on))))
                refine wpQuiet_nil ?_
                intro _ hw'
                obtain ⟨q9, hw''⟩ := hw'
                subst hw''
                have HM7 := Lib.hid (HM3.out.kp q9.b)
                have HB7 := Lib.hid (HB3.out.trans (q9.b.mono (GZ.out _ HB3.out)))
                clear c0 ca cb
                have hno := Ev.co_not HBO.out
                have HV1 := Lib.hid (show L3.contains (a, b) = false by rw [← HL3.out, Ev.pl_has hal hbl]; exact hno.1)
                have HV2 := Lib.hid (show L3.contains (b, a) = false by rw [← HL3.out, Ev.pl_has hbl hal]; exact hno.2)
                clear hno
                have c1 : ∀ z : Og.On q9.x.heap.size q9.x, z.x.cell? ⟨gm, a * 24 + b, none⟩ = some (.bool false) := fun z => Og.cellB z (by have h := HM7.out.cell (a := a) (b := b) (by omega) (by omega); rw [HV1.out] at h; exact h)
                have c2 : ∀ z : Og.On q9.x.heap.size q9.x, z.x.cell? ⟨gm, b * 24 + a, none⟩ = some (.bool false) := fun z => Og.cellB z (by have h := HM7.out.cell (a := b) (b := a) (by omega) (by omega); rw [HV2.out] at h; exact h)
                go_wp2_with fail
                refine Og.regionB (by kernel_rfl) (by kernel_rfl) ?_
                repeat (first
                  | go_big_quiet_skip
                  | (go_big_quiet_want
                     first
                      | (go_big_quiet_op
                         first
                          | go_big_quiet_on)))
                refine wpQuiet_nil ?_
                intro _ hw'
                obtain ⟨q8, hw''⟩ := hw'
                subst hw''
                have HM8 := Lib.hid (HM7.out.kp q8.b)
                have HB8 := Lib.hid (HB7.out.trans (q8.b.mono (GZ.out _ HB7.out)))
                have cx8 := CX.out _ HB8.out
                clear c1 c2
                go_wp2_with fail
                go_loopw [9] (fun i w2 => ∃ c : Nat, c ≤ x0.ev.length ∧ i = .int .i64 (c : Int) ∧ Ev.MBlk w2 gm L3 ∧ Below gm W3 w2) (fun i _ => x0.ev.length - (intOf i).toNat)
                case atStart => exact ⟨0, Nat.zero_le _, rfl, HM8.out, HB8.out⟩
                case round =>
                  obtain ⟨c, hcn, rfl, hm4, hb4⟩ := hrel
                  have HM4 := Lib.hid hm4; have HB4 := Lib.hid hb4; clear hm4 hb4
                  have cx := CX.out _ HB4.out
                  by_cases hcl : c < x0.ev.length
                  · have hci : (c : Int) < (x0.ev.length : Int) := by omega
                    have hc24 : (c : Int) < 24 := by omega
                    have r1 := HM4.out.cell (show a < 24 by omega) (show b < 24 by omega)
                    rw [HV1.out] at r1
                    go_wp2
                    go_roundw
                    case rel => exact ⟨c + 1, by omega, by go_num, HM4.out, HB4.out⟩
                    case measure => simp [intOf]; omega
                  · have hci : ¬ (c : Int) < (x0.ev.length : Int) := by omega
                    go_wp2
                    go_roundw
                    case rel => exact ⟨b + 1, by omega, by go_num, HM4.out, HB4.out⟩
                    case measure => simp [intOf]; omega
              have tab : (a != b) = true := by simpa using hab
              have tab2 : ((a : Int) != (b : Int)) = true := by simp; omega
              have HBS2 := Lib.hid (show Ev.bothS x0 a b = (sa && sb && ea.a == eb.a) by rw [HBS.out, decide_eq_false hab]; rfl)
              clear hab
              cases sa
              · have HBO := Lib.hid (show Ev.bothS x0 a b = false by rw [HBS2.out]; rfl)
                go_wp2
                refine Og.regionB (by kernel_rfl) (by kernel_rfl) ?_
                repeat (first
                  | go_big_quiet_skip
                  | (go_big_quiet_want
                     first
                      | ((with_reducible show Oper.quiet _ (Oper.mk (some 100) _ _ _ _ _) _ _ _); refine Og.quiet_load 44 (.tmp 99) rfl (.agg (Ev.cells ea).toArray) ⟨gb, ob + a * 13, none⟩ _ rfl (by rintro _ ⟨z, rfl⟩; exact LA.out z) (by simp only [Act.put, List.setIfInBounds_toArray, List.set_cons_zero, List.set_cons_succ]; rfl) ?_
                         go_big_quiet_on)
                      | ((with_reducible show Oper.quiet _ (Oper.mk (some 108) _ _ _ _ _) _ _ _); refine Og.quiet_load 44 (.tmp 107) rfl (.agg (Ev.cells eb).toArray) ⟨gb, ob + b * 13, none⟩ _ rfl (by rintro _ ⟨z, rfl⟩; exact LB.out z) (by simp only [Act.put, List.setIfInBounds_toArray, List.set_cons_zero, List.set_cons_succ]; rfl) ?_
                         go_big_quiet_on)
                      | (go_big_quiet_op
                         first
                          | go_big_quiet_on
                          | (apply Exists.intro
                             refine ⟨fun z => ?_, ?_⟩
                             · first
                                | (with_reducible exact Og.callB (pstores_is HSA.out _))
                                | (with_reducible exact Og.callB (pstores_is HSB.out _))
                             go_big_quiet_on))))
                refine wpQuiet_nil ?_
                intro _ hw'
                obtain ⟨q9, hw''⟩ := hw'
                subst hw''
                have HM7 := Lib.hid (HM3.out.kp q9.b)
                have HB7 := Lib.hid (HB3.out.trans (q9.b.mono (GZ.out _ HB3.out)))
                clear c0 ca cb
                have hno := Ev.co_not HBO.out
                have HV1 := Lib.hid (show L3.contains (a, b) = false by rw [← HL3.out, Ev.pl_has hal hbl]; exact hno.1)
                have HV2 := Lib.hid (show L3.contains (b, a) = false by rw [← HL3.out, Ev.pl_has hbl hal]; exact hno.2)
                clear hno
                have c1 : ∀ z : Og.On q9.x.heap.size q9.x, z.x.cell? ⟨gm, a * 24 + b, none⟩ = some (.bool false) := fun z => Og.cellB z (by have h := HM7.out.cell (a := a) (b := b) (by omega) (by omega); rw [HV1.out] at h; exact h)
                have c2 : ∀ z : Og.On q9.x.heap.size q9.x, z.x.cell? ⟨gm, b * 24 + a, none⟩ = some (.bool false) := fun z => Og.cellB z (by have h := HM7.out.cell (a := b) (b := a) (by omega) (by omega); rw [HV2.out] at h; exact h)
                go_wp2_with fail
                refine Og.regionB (by kernel_rfl) (by kernel_rfl) ?_
                repeat (first
                  | go_big_quiet_skip
                  | (go_big_quiet_want
                     first
                      | (go_big_quiet_op
                         first
                          | go_big_quiet_on)))
                refine wpQuiet_nil ?_
                intro _ hw'
                obtain ⟨q8, hw''⟩ := hw'
                subst hw''
                have HM8 := Lib.hid (HM7.out.kp q8.b)
                have HB8 := Lib.hid (HB7.out.trans (q8.b.mono (GZ.out _ HB7.out)))
                have cx8 := CX.out _ HB8.out
                clear c1 c2
                go_wp2_with fail
                go_loopw [9] (fun i w2 => ∃ c : Nat, c ≤ x0.ev.length ∧ i = .int .i64 (c : Int) ∧ Ev.MBlk w2 gm L3 ∧ Below gm W3 w2) (fun i _ => x0.ev.length - (intOf i).toNat)
                case atStart => exact ⟨0, Nat.zero_le _, rfl, HM8.out, HB8.out⟩
                case round =>
                  obtain ⟨c, hcn, rfl, hm4, hb4⟩ := hrel
                  have HM4 := Lib.hid hm4; have HB4 := Lib.hid hb4; clear hm4 hb4
                  have cx := CX.out _ HB4.out
                  by_cases hcl : c < x0.ev.length
                  · have hci : (c : Int) < (x0.ev.length : Int) := by omega
                    have hc24 : (c : Int) < 24 := by omega
                    have r1 := HM4.out.cell (show a < 24 by omega) (show b < 24 by omega)
                    rw [HV1.out] at r1
                    go_wp2
                    go_roundw
                    case rel => exact ⟨c + 1, by omega, by go_num, HM4.out, HB4.out⟩
                    case measure => simp [intOf]; omega
                  · have hci : ¬ (c : Int) < (x0.ev.length : Int) := by omega
                    go_wp2
                    go_roundw
                    case rel => exact ⟨b + 1, by omega, by go_num, HM4.out, HB4.out⟩
                    case measure => simp [intOf]; omega
              cases sb
              · have HBO := Lib.hid (show Ev.bothS x0 a b = false by rw [HBS2.out]; rfl)
                go_wp2
                refine Og.regionB (by kernel_rfl) (by kernel_rfl) ?_
                repeat (first
                  | go_big_quiet_skip
                  | (go_big_quiet_want
                     first
                      | ((with_reducible show Oper.quiet _ (Oper.mk (some 100) _ _ _ _ _) _ _ _); refine Og.quiet_load 44 (.tmp 99) rfl (.agg (Ev.cells ea).toArray) ⟨gb, ob + a * 13, none⟩ _ rfl (by rintro _ ⟨z, rfl⟩; exact LA.out z) (by simp only [Act.put, List.setIfInBounds_toArray, List.set_cons_zero, List.set_cons_succ]; rfl) ?_
                         go_big_quiet_on)
                      | ((with_reducible show Oper.quiet _ (Oper.mk (some 108) _ _ _ _ _) _ _ _); refine Og.quiet_load 44 (.tmp 107) rfl (.agg (Ev.cells eb).toArray) ⟨gb, ob + b * 13, none⟩ _ rfl (by rintro _ ⟨z, rfl⟩; exact LB.out z) (by simp only [Act.put, List.setIfInBounds_toArray, List.set_cons_zero, List.set_cons_succ]; rfl) ?_
                         go_big_quiet_on)
                      | (go_big_quiet_op
                         first
                          | go_big_quiet_on
                          | (apply Exists.intro
                             refine ⟨fun z => ?_, ?_⟩
                             · first
                                | (with_reducible exact Og.callB (pstores_is HSA.out _))
                                | (with_reducible exact Og.callB (pstores_is HSB.out _))
                             go_big_quiet_on))))
                refine wpQuiet_nil ?_
                intro _ hw'
                obtain ⟨q9, hw''⟩ := hw'
                subst hw''
                have HM7 := Lib.hid (HM3.out.kp q9.b)
                have HB7 := Lib.hid (HB3.out.trans (q9.b.mono (GZ.out _ HB3.out)))
                clear c0 ca cb
                have hno := Ev.co_not HBO.out
                have HV1 := Lib.hid (show L3.contains (a, b) = false by rw [← HL3.out, Ev.pl_has hal hbl]; exact hno.1)
                have HV2 := Lib.hid (show L3.contains (b, a) = false by rw [← HL3.out, Ev.pl_has hbl hal]; exact hno.2)
                clear hno
                have c1 : ∀ z : Og.On q9.x.heap.size q9.x, z.x.cell? ⟨gm, a * 24 + b, none⟩ = some (.bool false) := fun z => Og.cellB z (by have h := HM7.out.cell (a := a) (b := b) (by omega) (by omega); rw [HV1.out] at h; exact h)
                have c2 : ∀ z : Og.On q9.x.heap.size q9.x, z.x.cell? ⟨gm, b * 24 + a, none⟩ = some (.bool false) := fun z => Og.cellB z (by have h := HM7.out.cell (a := b) (b := a) (by omega) (by omega); rw [HV2.out] at h; exact h)
                go_wp2_with fail
                refine Og.regionB (by kernel_rfl) (by kernel_rfl) ?_
                repeat (first
                  | go_big_quiet_skip
                  | (go_big_quiet_want
                     first
                      | (go_big_quiet_op
                         first
                          | go_big_quiet_on)))
                refine wpQuiet_nil ?_
                intro _ hw'
                obtain ⟨q8, hw''⟩ := hw'
                subst hw''
                have HM8 := Lib.hid (HM7.out.kp q8.b)
                have HB8 := Lib.hid (HB7.out.trans (q8.b.mono (GZ.out _ HB7.out)))
                have cx8 := CX.out _ HB8.out
                clear c1 c2
                go_wp2_with fail
                go_loopw [9] (fun i w2 => ∃ c : Nat, c ≤ x0.ev.length ∧ i = .int .i64 (c : Int) ∧ Ev.MBlk w2 gm L3 ∧ Below gm W3 w2) (fun i _ => x0.ev.length - (intOf i).toNat)
                case atStart => exact ⟨0, Nat.zero_le _, rfl, HM8.out, HB8.out⟩
                case round =>
                  obtain ⟨c, hcn, rfl, hm4, hb4⟩ := hrel
                  have HM4 := Lib.hid hm4; have HB4 := Lib.hid hb4; clear hm4 hb4
                  have cx := CX.out _ HB4.out
                  by_cases hcl : c < x0.ev.length
                  · have hci : (c : Int) < (x0.ev.length : Int) := by omega
                    have hc24 : (c : Int) < 24 := by omega
                    have r1 := HM4.out.cell (show a < 24 by omega) (show b < 24 by omega)
                    rw [HV1.out] at r1
                    go_wp2
                    go_roundw
                    case rel => exact ⟨c + 1, by omega, by go_num, HM4.out, HB4.out⟩
                    case measure => simp [intOf]; omega
                  · have hci : ¬ (c : Int) < (x0.ev.length : Int) := by omega
                    go_wp2
                    go_roundw
                    case rel => exact ⟨b + 1, by omega, by go_num, HM4.out, HB4.out⟩
                    case measure => simp [intOf]; omega
              by_cases hq : ea.a = eb.a
              case neg =>
                have tq : (ea.a == eb.a) = false := by simpa using hq
                have HBO := Lib.hid (show Ev.bothS x0 a b = false by rw [HBS2.out, tq]; rfl)
                clear hq
                go_wp2
                refine Og.regionB (by kernel_rfl) (by kernel_rfl) ?_
                repeat (first
                  | go_big_quiet_skip
                  | (go_big_quiet_want
                     first
                      | ((with_reducible show Oper.quiet _ (Oper.mk (some 100) _ _ _ _ _) _ _ _); refine Og.quiet_load 44 (.tmp 99) rfl (.agg (Ev.cells ea).toArray) ⟨gb, ob + a * 13, none⟩ _ rfl (by rintro _ ⟨z, rfl⟩; exact LA.out z) (by simp only [Act.put, List.setIfInBounds_toArray, List.set_cons_zero, List.set_cons_succ]; rfl) ?_
                         go_big_quiet_on)
                      | ((with_reducible show Oper.quiet _ (Oper.mk (some 108) _ _ _ _ _) _ _ _); refine Og.quiet_load 44 (.tmp 107) rfl (.agg (Ev.cells eb).toArray) ⟨gb, ob + b * 13, none⟩ _ rfl (by rintro _ ⟨z, rfl⟩; exact LB.out z) (by simp only [Act.put, List.setIfInBounds_toArray, List.set_cons_zero, List.set_cons_succ]; rfl) ?_
                         go_big_quiet_on)
                      | (go_big_quiet_op
                         first
                          | go_big_quiet_on
                          | (apply Exists.intro
                             refine ⟨fun z => ?_, ?_⟩
                             · first
                                | (with_reducible exact Og.callB (pstores_is HSA.out _))
                                | (with_reducible exact Og.callB (pstores_is HSB.out _))
                             go_big_quiet_on))))
                refine wpQuiet_nil ?_
                intro _ hw'
                obtain ⟨q9, hw''⟩ := hw'
                subst hw''
                have HM7 := Lib.hid (HM3.out.kp q9.b)
                have HB7 := Lib.hid (HB3.out.trans (q9.b.mono (GZ.out _ HB3.out)))
                clear c0 ca cb
                have hno := Ev.co_not HBO.out
                have HV1 := Lib.hid (show L3.contains (a, b) = false by rw [← HL3.out, Ev.pl_has hal hbl]; exact hno.1)
                have HV2 := Lib.hid (show L3.contains (b, a) = false by rw [← HL3.out, Ev.pl_has hbl hal]; exact hno.2)
                clear hno
                have c1 : ∀ z : Og.On q9.x.heap.size q9.x, z.x.cell? ⟨gm, a * 24 + b, none⟩ = some (.bool false) := fun z => Og.cellB z (by have h := HM7.out.cell (a := a) (b := b) (by omega) (by omega); rw [HV1.out] at h; exact h)
                have c2 : ∀ z : Og.On q9.x.heap.size q9.x, z.x.cell? ⟨gm, b * 24 + a, none⟩ = some (.bool false) := fun z => Og.cellB z (by have h := HM7.out.cell (a := b) (b := a) (by omega) (by omega); rw [HV2.out] at h; exact h)
                go_wp2_with fail
                refine Og.regionB (by kernel_rfl) (by kernel_rfl) ?_
                repeat (first
                  | go_big_quiet_skip
                  | (go_big_quiet_want
                     first
                      | (go_big_quiet_op
                         first
                          | go_big_quiet_on)))
                refine wpQuiet_nil ?_
                intro _ hw'
                obtain ⟨q8, hw''⟩ := hw'
                subst hw''
                have HM8 := Lib.hid (HM7.out.kp q8.b)
                have HB8 := Lib.hid (HB7.out.trans (q8.b.mono (GZ.out _ HB7.out)))
                have cx8 := CX.out _ HB8.out
                clear c1 c2
                go_wp2_with fail
                go_loopw [9] (fun i w2 => ∃ c : Nat, c ≤ x0.ev.length ∧ i = .int .i64 (c : Int) ∧ Ev.MBlk w2 gm L3 ∧ Below gm W3 w2) (fun i _ => x0.ev.length - (intOf i).toNat)
                case atStart => exact ⟨0, Nat.zero_le _, rfl, HM8.out, HB8.out⟩
                case round =>
                  obtain ⟨c, hcn, rfl, hm4, hb4⟩ := hrel
                  have HM4 := Lib.hid hm4; have HB4 := Lib.hid hb4; clear hm4 hb4
                  have cx := CX.out _ HB4.out
                  by_cases hcl : c < x0.ev.length
                  · have hci : (c : Int) < (x0.ev.length : Int) := by omega
                    have hc24 : (c : Int) < 24 := by omega
                    have r1 := HM4.out.cell (show a < 24 by omega) (show b < 24 by omega)
                    rw [HV1.out] at r1
                    go_wp2
                    go_roundw
                    case rel => exact ⟨c + 1, by omega, by go_num, HM4.out, HB4.out⟩
                    case measure => simp [intOf]; omega
                  · have hci : ¬ (c : Int) < (x0.ev.length : Int) := by omega
                    go_wp2
                    go_roundw
                    case rel => exact ⟨b + 1, by omega, by go_num, HM4.out, HB4.out⟩
                    case measure => simp [intOf]; omega
              have tq : (ea.a == eb.a) = true := by simpa using hq
              have HBO := Lib.hid (show Ev.bothS x0 a b = true by rw [HBS2.out, tq]; rfl)
              clear hq
              go_wp2
              refine Og.regionB (by kernel_rfl) (by kernel_rfl) ?_
              repeat (first
                | go_big_quiet_skip
                | (go_big_quiet_want
                   first
                    | ((with_reducible show Oper.quiet _ (Oper.mk (some 100) _ _ _ _ _) _ _ _); refine Og.quiet_load 44 (.tmp 99) rfl (.agg (Ev.cells ea).toArray) ⟨gb, ob + a * 13, none⟩ _ rfl (by rintro _ ⟨z, rfl⟩; exact LA.out z) (by simp only [Act.put, List.setIfInBounds_toArray, List.set_cons_zero, List.set_cons_succ]; rfl) ?_
                       go_big_quiet_on)
                    | ((with_reducible show Oper.quiet _ (Oper.mk (some 108) _ _ _ _ _) _ _ _); refine Og.quiet_load 44 (.tmp 107) rfl (.agg (Ev.cells eb).toArray) ⟨gb, ob + b * 13, none⟩ _ rfl (by rintro _ ⟨z, rfl⟩; exact LB.out z) (by simp only [Act.put, List.setIfInBounds_toArray, List.set_cons_zero, List.set_cons_succ]; rfl) ?_
                       go_big_quiet_on)
                    | (go_big_quiet_op
                       first
                        | go_big_quiet_on
                        | (apply Exists.intro
                           refine ⟨fun z => ?_, ?_⟩
                           · first
                              | (with_reducible exact Og.callB (pstores_is HSA.out _))
                              | (with_reducible exact Og.callB (pstores_is HSB.out _))
                           go_big_quiet_on))))
              refine wpQuiet_nil ?_
              intro _ hw'
              obtain ⟨q9, hw''⟩ := hw'
              subst hw''
              have HM7 := Lib.hid (HM3.out.kp q9.b)
              have HB7 := Lib.hid (HB3.out.trans (q9.b.mono (GZ.out _ HB3.out)))
              clear c0 ca cb
              have han := Ev.co_anti HC.out hal hbl HBO.out
              obtain ⟨v1, hv1⟩ : ∃ v, Ev.isCo x0 (a : Int) (b : Int) = v := ⟨_, rfl⟩
              rw [hv1] at han
              have HV1 := Lib.hid (show L3.contains (a, b) = v1 by rw [← HL3.out, Ev.pl_has hal hbl]; exact hv1)
              have HV2 := Lib.hid (show L3.contains (b, a) = !v1 by rw [← HL3.out, Ev.pl_has hbl hal]; exact han)
              clear han hv1
              cases v1
              · have c1 : ∀ z : Og.On q9.x.heap.size q9.x, z.x.cell? ⟨gm, a * 24 + b, none⟩ = some (.bool false) := fun z => Og.cellB z (by have h := HM7.out.cell (a := a) (b := b) (by omega) (by omega); rw [HV1.out] at h; exact h)
                have c2 : ∀ z : Og.On q9.x.heap.size q9.x, z.x.cell? ⟨gm, b * 24 + a, none⟩ = some (.bool true) := fun z => Og.cellB z (by have h := HM7.out.cell (a := b) (b := a) (by omega) (by omega); rw [HV2.out] at h; exact h)
                go_wp2_with fail
                refine Og.regionB (by kernel_rfl) (by kernel_rfl) ?_
                repeat (first
                  | go_big_quiet_skip
                  | (go_big_quiet_want
                     first
                      | (go_big_quiet_op
                         first
                          | go_big_quiet_on)))
                refine wpQuiet_nil ?_
                intro _ hw'
                obtain ⟨q8, hw''⟩ := hw'
                subst hw''
                have HM8 := Lib.hid (HM7.out.kp q8.b)
                have HB8 := Lib.hid (HB7.out.trans (q8.b.mono (GZ.out _ HB7.out)))
                have cx8 := CX.out _ HB8.out
                clear c1 c2
                go_wp2_with fail
                go_loopw [9] (fun i w2 => ∃ c : Nat, c ≤ x0.ev.length ∧ i = .int .i64 (c : Int) ∧ Ev.MBlk w2 gm L3 ∧ Below gm W3 w2) (fun i _ => x0.ev.length - (intOf i).toNat)
                case atStart => exact ⟨0, Nat.zero_le _, rfl, HM8.out, HB8.out⟩
                case round =>
                  obtain ⟨c, hcn, rfl, hm4, hb4⟩ := hrel
                  have HM4 := Lib.hid hm4; have HB4 := Lib.hid hb4; clear hm4 hb4
                  have cx := CX.out _ HB4.out
                  by_cases hcl : c < x0.ev.length
                  · have hci : (c : Int) < (x0.ev.length : Int) := by omega
                    have hc24 : (c : Int) < 24 := by omega
                    have r1 := HM4.out.cell (show a < 24 by omega) (show b < 24 by omega)
                    rw [HV1.out] at r1
                    go_wp2
                    go_roundw
                    case rel => exact ⟨c + 1, by omega, by go_num, HM4.out, HB4.out⟩
                    case measure => simp [intOf]; omega
                  · have hci : ¬ (c : Int) < (x0.ev.length : Int) := by omega
                    go_wp2
                    go_roundw
                    case rel => exact ⟨b + 1, by omega, by go_num, HM4.out, HB4.out⟩
                    case measure => simp [intOf]; omega
              · have c1 : ∀ z : Og.On q9.x.heap.size q9.x, z.x.cell? ⟨gm, a * 24 + b, none⟩ = some (.bool true) := fun z => Og.cellB z (by have h := HM7.out.cell (a := a) (b := b) (by omega) (by omega); rw [HV1.out] at h; exact h)
                have c2 : ∀ z : Og.On q9.x.heap.size q9.x, z.x.cell? ⟨gm, b * 24 + a, none⟩ = some (.bool false) := fun z => Og.cellB z (by have h := HM7.out.cell (a := b) (b := a) (by omega) (by omega); rw [HV2.out] at h; exact h)
                go_wp2_with fail
                refine Og.regionB (by kernel_rfl) (by kernel_rfl) ?_
                repeat (first
                  | go_big_quiet_skip
                  | (go_big_quiet_want
                     first
                      | (go_big_quiet_op
                         first
                          | go_big_quiet_on)))
                refine wpQuiet_nil ?_
                intro _ hw'
                obtain ⟨q8, hw''⟩ := hw'
                subst hw''
                have HM8 := Lib.hid (HM7.out.kp q8.b)
                have HB8 := Lib.hid (HB7.out.trans (q8.b.mono (GZ.out _ HB7.out)))
                have cx8 := CX.out _ HB8.out
                clear c1 c2
                go_wp2_with fail
                go_loopw [9] (fun i w2 => ∃ c : Nat, c ≤ x0.ev.length ∧ i = .int .i64 (c : Int) ∧ Ev.MBlk w2 gm L3 ∧ Below gm W3 w2) (fun i _ => x0.ev.length - (intOf i).toNat)
                case atStart => exact ⟨0, Nat.zero_le _, rfl, HM8.out, HB8.out⟩
                case round =>
                  obtain ⟨c, hcn, rfl, hm4, hb4⟩ := hrel
                  have HM4 := Lib.hid hm4; have HB4 := Lib.hid hb4; clear hm4 hb4
                  have cx := CX.out _ HB4.out
                  by_cases hcl : c < x0.ev.length
                  · have hci : (c : Int) < (x0.ev.length : Int) := by omega
                    have hc24 : (c : Int) < 24 := by omega
                    have r1 := HM4.out.cell (show a < 24 by omega) (show b < 24 by omega)
                    rw [HV1.out] at r1
                    obtain ⟨v2, hv2⟩ : ∃ v, L3.contains (b, c) = v := ⟨_, rfl⟩
                    have r2 := HM4.out.cell (show b < 24 by omega) (show c < 24 by omega)
                    rw [hv2] at r2
                    cases v2
                    · clear hv2
                      go_wp2
                      go_roundw
                      case rel => exact ⟨c + 1, by omega, by go_num, HM4.out, HB4.out⟩
                      case measure => simp [intOf]; omega
                    · have r3 := HM4.out.cell (show a < 24 by omega) (show c < 24 by omega)
                      have hv3 : L3.contains (a, c) = true := by
                        have h1 := HV1.out
                        rw [← HL3.out, Ev.pl_has hal hbl] at h1
                        rw [← HL3.out, Ev.pl_has hbl hcl] at hv2
                        rw [← HL3.out, Ev.pl_has hal hcl]
                        exact Ev.co_trans h1 hv2
                      rw [hv3] at r3
                      clear hv2 hv3
                      go_wp2
                      go_roundw
                      case rel => exact ⟨c + 1, by omega, by go_num, HM4.out, HB4.out⟩
                      case measure => simp [intOf]; omega
                  · have hci : ¬ (c : Int) < (x0.ev.length : Int) := by omega
                    go_wp2
                    go_roundw
                    case rel => exact ⟨b + 1, by omega, by go_num, HM4.out, HB4.out⟩
                    case measure => simp [intOf]; omega
            · have hbi : ¬ (b : Int) < (x0.ev.length : Int) := by omega
              go_wp2
              go_roundw
              case rel => exact ⟨a + 1, by omega, by go_num, HM3.out, HB3.out⟩
              case measure => simp [intOf]; omega
        · have hai : ¬ (a : Int) < (x0.ev.length : Int) := by omega
          have R6 := Lib.hid (RX.out _ HB2.out)
          have B6 := Lib.hid (BX.out _ HB2.out)
          go_wp2
          refine Og.region3 (by kernel_rfl) (fun t => if 177 ≤ t ∧ t ≤ 180 then some (t - 177) else if 10 ≤ t ∧ t ≤ 11 then some (t - 6) else none)
            [.is (.agg (Ev.xcells x0).toArray), .says (PrS L4), .is (.agg (Ev.xcells x0).toArray), .says (PrS L2), .says (PrS L4), .says (PrS L2)]
            [true, true, true, true, true, true] (by kernel_rfl) ?_ ?_
          · refine ⟨?_, ?_, ?_, ?_, ?_, ?_, trivial⟩
            · refine ⟨rfl, fun ρ w1 hr hd => ?_⟩
              obtain ⟨d0, _⟩ := hd
              have d0 : ρ (.tmp 1) = .pointer (some ⟨w.heap.size, 0, none⟩) := d0
              refine (if_pos (by rfl)).mpr ?_
              refine Og.gives_is (.agg (Ev.xcells x0).toArray) ?_ (And.intro (Below.refl _ _) rfl)
              exact Og.load_run 26 (.tmp 1) rfl ⟨w.heap.size, 0, none⟩ d0 (run_loadVar_row w1 w.heap.size 26 26 (Ev.xcells x0).toArray (0, 0) _ ((hr.block w.heap.size (Array.getElem?_eq_some_iff.1 R6.out).1).trans R6.out) Try.underlying26 rfl (by kernel_rfl))
            · refine ⟨rfl, fun ρ w1 hr hd => ?_⟩
              obtain ⟨d0, d1, _⟩ := hd
              have d0 : ρ (.func 17) = .func (.func 17) #[] #[] := d0
              have d1 : ρ (.tmp 177) = .agg (Ev.xcells x0).toArray := d1
              refine (if_pos (by rfl)).mpr ?_
              refine Og.gives_call 17 #[.agg (Ev.xcells x0).toArray] ?_ ?_
              · go_simp
              · exact (HP4.out w1 (HIN.out.kp (Ev.kp_below (B6.out.trans (hr.mono B6.out.size))))).mono fun e w' ⟨a, c, he, hp, hb⟩ => ⟨_, he, hb, w', Below.refl _ _, a, c, rfl, hp⟩
            · refine ⟨rfl, fun ρ w1 hr hd => ?_⟩
              obtain ⟨d0, _⟩ := hd
              have d0 : ρ (.tmp 1) = .pointer (some ⟨w.heap.size, 0, none⟩) := d0
              refine (if_pos (by rfl)).mpr ?_
              refine Og.gives_is (.agg (Ev.xcells x0).toArray) ?_ (And.intro (Below.refl _ _) rfl)
              exact Og.load_run 26 (.tmp 1) rfl ⟨w.heap.size, 0, none⟩ d0 (run_loadVar_row w1 w.heap.size 26 26 (Ev.xcells x0).toArray (0, 0) _ ((hr.block w.heap.size (Array.getElem?_eq_some_iff.1 R6.out).1).trans R6.out) Try.underlying26 rfl (by kernel_rfl))
            · refine ⟨rfl, fun ρ w1 hr hd => ?_⟩
              obtain ⟨d0, d1, _⟩ := hd
              have d0 : ρ (.func 15) = .func (.func 15) #[] #[] := d0
              have d1 : ρ (.tmp 179) = .agg (Ev.xcells x0).toArray := d1
              refine (if_pos (by rfl)).mpr ?_
              refine Og.gives_call 15 #[.agg (Ev.xcells x0).toArray] ?_ ?_
              · go_simp
              · exact (HP2.out w1 (HIN.out.kp (Ev.kp_below (B6.out.trans (hr.mono B6.out.size))))).mono fun e w' ⟨a, c, he, hp, hb⟩ => ⟨_, he, hb, w', Below.refl _ _, a, c, rfl, hp⟩
            · refine ⟨rfl, fun ρ w1 hr hd => ?_⟩
              obtain ⟨d0, _⟩ := hd
              have d0 : ∃ w1', Below w1'.heap.size w1' w1 ∧ PrS L4 (ρ (.tmp 178)) w1' := d0
              obtain ⟨v0, hv0⟩ : ∃ v, ρ (.tmp 178) = v := ⟨_, rfl⟩
              rw [hv0] at d0
              refine (if_pos (by rfl)).mpr ?_
              refine Og.gives_is v0 ?_ (And.intro (Below.refl _ _) d0)
              go_simp
            · refine ⟨rfl, fun ρ w1 hr hd => ?_⟩
              obtain ⟨d0, _⟩ := hd
              have d0 : ∃ w1', Below w1'.heap.size w1' w1 ∧ PrS L2 (ρ (.tmp 180)) w1' := d0
              obtain ⟨v0, hv0⟩ : ∃ v, ρ (.tmp 180) = v := ⟨_, rfl⟩
              rw [hv0] at d0
              refine (if_pos (by rfl)).mpr ?_
              refine Og.gives_is v0 ?_ (And.intro (Below.refl _ _) d0)
              go_simp
          · intro vs W6 hbz hall
            have h4 : ∃ w1', Below w1'.heap.size w1' W6 ∧ PrS L4 (vs 4) w1' := hall 4 _ 10 rfl rfl
            obtain ⟨wz4, hz4, a4, c4, e4, p4⟩ := h4
            have h2 : ∃ w1', Below w1'.heap.size w1' W6 ∧ PrS L2 (vs 5) w1' := hall 5 _ 11 rfl rfl
            obtain ⟨wz2, hz2, a2, c2, e2, p2⟩ := h2
            have P4 := Lib.hid (p4.kp (Ev.kp_below hz4))
            have P2 := Lib.hid (p2.kp (Ev.kp_below hz2))
            have hl4 := p4.le; have hl2 := p2.le
            have hm4 := p4.max; have hm2 := p2.max
            simp only [Og.putAll, Act.put, List.setIfInBounds_toArray, List.set_cons_zero, List.set_cons_succ, Nat.zero_add, Nat.reduceAdd, e4, e2]
            have B7 := Lib.hid (B6.out.trans (hbz.mono B6.out.size))
            clear hall hbz e4 e2 p4 p2 hz4 hz2 cx
            go_wp2
            go_loopw [12, 13] (fun i _ wr => ∃ k : Nat, k ≤ L4.length ∧ i = .int .i64 (k : Int) ∧ Below W6.heap.size W6 wr) (fun i _ _ => L4.length - (intOf i).toNat)
            case atStart => exact ⟨0, Nat.zero_le _, rfl, Below.refl _ _⟩
            case round =>
              obtain ⟨k, hk, rfl, hbr⟩ := hrel
              have HBR := Lib.hid hbr; clear hbr
              by_cases hkl : k < L4.length
              · have hki : (k : Int) < (L4.length : Int) := by omega
                go_wp2
                go_loopw [13] (fun i wr => ∃ j : Nat, j ≤ L2.length ∧ i = .int .i64 (j : Int) ∧ Below W6.heap.size W6 wr) (fun i _ => L2.length - (intOf i).toNat)
                case atStart => exact ⟨0, Nat.zero_le _, rfl, HBR.out⟩
                case round =>
                  obtain ⟨j, hj, rfl, hbj⟩ := hrel
                  have HBJ := Lib.hid hbj; clear hbj
                  by_cases hjl : j < L2.length
                  · have hji : (j : Int) < (L2.length : Int) := by omega
                    obtain ⟨p, hp⟩ : ∃ p, L4[k]? = some p := ⟨_, List.getElem?_eq_getElem hkl⟩
                    obtain ⟨r, hr⟩ : ∃ r, L2[j]? = some r := ⟨_, List.getElem?_eq_getElem hjl⟩
                    obtain ⟨gp, op, ep, hcp⟩ := (P4.out.kp (Ev.kp_below HBJ.out)).at_ hp
                    obtain ⟨gr, or, er, hcr⟩ := (P2.out.kp (Ev.kp_below HBJ.out)).at_ hr
                    obtain ⟨pa, pb⟩ := p
                    obtain ⟨ra, rb⟩ := r
                    have HNO := Lib.hid (show pa = rb → pb = ra → False from fun e1 e2 => by
                      have h1 := List.mem_of_getElem? hp
                      have h2 := List.mem_of_getElem? hr
                      rw [← HL4.out, Ev.pl_mem] at h1
                      rw [← HL2.out, Ev.pl_mem] at h2
                      subst e1; subst e2
                      exact Ev.fr_rf h1.2.2 h2.2.2)
                    have c1 : ∀ z : Og.On wr.heap.size wr, z.x.cell? ⟨gp, op + k * 2, none⟩ = some (.int .i64 (pa : Int)) := fun z => Og.cellB z (hcp 0 _ rfl)
                    have c2' : ∀ z : Og.On wr.heap.size wr, z.x.cell? ⟨gp, op + k * 2 + 1, none⟩ = some (.int .i64 (pb : Int)) := fun z => Og.cellB z (hcp 1 _ rfl)
                    have c3' : ∀ z : Og.On wr.heap.size wr, z.x.cell? ⟨gr, or + j * 2, none⟩ = some (.int .i64 (ra : Int)) := fun z => Og.cellB z (hcr 0 _ rfl)
                    have c4' : ∀ z : Og.On wr.heap.size wr, z.x.cell? ⟨gr, or + j * 2 + 1, none⟩ = some (.int .i64 (rb : Int)) := fun z => Og.cellB z (hcr 1 _ rfl)
                    rw [ep, er]
                    clear hp hr ep er hcp hcr
                    by_cases h1 : pa = rb
                    · have t1 : (pa == rb) = true := by simpa using h1
                      have t1' : ((pa : Int) == (rb : Int)) = true := by simp; omega
                      have h2 : ¬ pb = ra := fun e => HNO.out h1 e
                      have t2 : (pb == ra) = false := by simpa using h2
                      have t2' : ((pb : Int) == (ra : Int)) = false := by simp; omega
                      clear h1 h2
                      go_wp2
                      refine Og.regionB (by kernel_rfl) (by kernel_rfl) ?_
                      repeat (first
                        | go_big_quiet_skip
                        | (go_big_quiet_want
                           first
                            | (go_big_quiet_op
                               first
                                | go_big_quiet_on)))
                      refine wpQuiet_nil ?_
                      intro _ hw'
                      obtain ⟨q9, hw''⟩ := hw'
                      subst hw''
                      have HEND := Lib.hid (HBJ.out.trans (q9.b.mono HBJ.out.size))
                      go_wp2_with fail
                      go_roundw
                      case rel => exact ⟨j + 1, by omega, by go_num, HEND.out⟩
                      case measure => simp [intOf]; omega
                    · have t1 : (pa == rb) = false := by simpa using h1
                      have t1' : ((pa : Int) == (rb : Int)) = false := by simp; omega
                      clear h1
                      go_wp2
                      refine Og.regionB (by kernel_rfl) (by kernel_rfl) ?_
                      repeat (first
                        | go_big_quiet_skip
                        | (go_big_quiet_want
                           first
                            | (go_big_quiet_op
                               first
                                | go_big_quiet_on)))
                      refine wpQuiet_nil ?_
                      intro _ hw'
                      obtain ⟨q9, hw''⟩ := hw'
                      subst hw''
                      have HEND := Lib.hid (HBJ.out.trans (q9.b.mono HBJ.out.size))
                      go_wp2_with fail
                      go_roundw
                      case rel => exact ⟨j + 1, by omega, by go_num, HEND.out⟩
                      case measure => simp [intOf]; omega
                  · have hji : ¬ (j : Int) < (L2.length : Int) := by omega
                    go_wp2
                    go_roundw
                    case rel => exact ⟨k + 1, by omega, by go_num, HBJ.out⟩
                    case measure => simp [intOf]; omega
              · have hki : ¬ (k : Int) < (L4.length : Int) := by omega
                have HBE := Lib.hid (B7.out.trans (HBR.out.mono B7.out.size))
                go_wp2_with fail
                refine (known_any _).mono ?_
                rintro e W9 ⟨rfl, hb⟩
                have HEND := Lib.hid ((HBE.out).trans (hb.mono (HBE.out).size)); clear hb
                go_wp2_with fail
                go_ret
                exact ⟨rfl, HEND.out⟩

/-! THE ROW -/
set_option maxRecDepth 100000 in
theorem lifted (os : Os) (started : os.Started) (H : Type) (enc : TypeId × Value → H) :
    ReturnsInHanded {} Try.checked os 5 .any (Rows.eventsOrderSpec.pre6 enc Try.prog Try.f5 Rows.eventsOrderRow.domain false) (Rows.eventsOrderSpec.post enc Try.prog Try.f5 false true false false) := by
  refine returnsInHanded_of_change (C := Try.checked) own started (by kernel_rfl) Try.func5
    (ChangeSpec.witness6 (enc := enc) (C := Try.checked) false ⟨#[], #[.agg #[.slice none 0 0, .slice none 0 0, .slice none 0 0]], []⟩ 8 (by kernel_rfl) (by kernel_rfl) (by kernel_rfl) (by kernel_rfl)) ?_
  intro W base args ds gs before hval0 hW hcnd _
  have hval : ∀ (j : Nat) t v, Try.f5.params[j]? = some t → args[j]? = some v → Value.okWide Try.prog W .any base t v := hval0
  have hW' := hW
  obtain ⟨p, q, hA0, hV, rfl, hfz, hnd⟩ := hW
  have hA : DataW.TrodAll enc Try.prog W 0 (fun _ => true) true Try.f5.params.toList args.toList ds p := hA0
  rw [Try.params5] at hA hval
  obtain ⟨v0, vs0, d0, ds0, p0, q0, hargs, rfl, rfl, h0, r0⟩ := trodAll_cons hA
  obtain ⟨rfl, rfl, rfl⟩ := trodAll_nil r0
  obtain rfl : args = #[v0] := by cases args; simp_all
  obtain ⟨rfl, rfl⟩ := trodVars_none hV
  clear hA0 hval0
  simp only [List.append_nil] at hW'
  have hlt : ∀ x ∈ p0, x.block < W.heap.size := fun x hx => by simpa using hW'.lt x (by simpa using hx)
  obtain ⟨x0, rfl, b0⟩ := open_exec (hval 0 26 v0 rfl rfl) h0
  refine (walk W x0 b0).mono fun e W' ⟨he, hb⟩ => ?_
  subst he
  have harg0 : DataW.Trod enc Try.prog W' 0 (fun b => decide (b < W.heap.size)) true 26 _ _ _ := Below.trod laidOut (by kernel_rfl) (of_decide_eq_true (by kernel_rfl)) h0 hb (fun x hx => hlt x (by simp [hx]))
  exact ⟨_, rfl, _, _, _, [], _, [], hW', trodAll_mk1 (shut_bool Try.underlying4 _), (trodAll_cons_mk harg0 trodAll_mk0), rfl, hb.frame _, fun h => by cases h⟩

theorem over : Rows.eventsOrderRow.holds Try.pinned (OpenSpec.ofChange Rows.eventsOrderSpec) :=
  OpenClaim.holds_of_wide 5 Try.f5 rfl rfl rfl rfl rfl rfl rfl ⟨rfl, rfl, rfl, rfl, rfl⟩ rfl rfl rfl rfl rfl (by kernel_rfl) Try.func5 (by kernel_rfl)
    (of_decide_eq_true (by kernel_rfl)) (by unfold Func.isWrapper; first | (rw [if_pos (by decide +kernel)]; kernel_rfl) | (rw [if_neg (by decide +kernel)]; exact ⟨rfl, rfl⟩))
    (fun os started H enc _ => lifted os started H enc)

/-- THE STATEMENT -/
theorem proved : Rows.EventsOrderSaid :=
  over
end Go.Proofs.Ytnlfdepeimjliaa.eventsOrder
