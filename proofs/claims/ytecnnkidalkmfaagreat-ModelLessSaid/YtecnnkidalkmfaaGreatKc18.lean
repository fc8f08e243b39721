import Derived.Test.YtecnnkidalkmfaaGreatKc17
set_option linter.unusedVariables false
set_option linter.unusedSimpArgs false

section
namespace Go.Proofs.YtecnnkidalkmfaaGreat
open Go.RowKit
theorem Or.load_ptr {P : Program} {w : World} {ty e : TypeId} {p : Addr} {v : Value} (hu : P.underlying ty = some (.pointer e)) (hc : w.cell? p = some v) : (loadVar ty p).run P w = .ok v w := by
  unfold loadVar isAgg
  simp only [Sem.run_bind, run_underlying hu w, Sem.run_pure, Result.andThen_ok]
  go_simp
  first | done | rw [hc]
set_option maxRecDepth 100000 in
set_option maxHeartbeats 4000000 in
theorem r8_any (x : Ev.X) (q a b : Nat) (ha : a < x.ev.length) (hb : b < x.ev.length) (w : World) (hq : Or.As w q x) :
    Calls Tryz.prog 131 #[.pointer (some ⟨q, 0, none⟩), .int .i64 (a : Int), .int .i64 (b : Int)] w fun r w' => r = .returned (.bool (Or.r8 x a b)) ∧ Below w.heap.size w w' := by
  have al : ∀ (y : World) (o : Obj), Below y.heap.size y (y.alloc o) := fun y o => (Below.refl _ _).alloc (Nat.le_refl _) _
  obtain ⟨B, hB⟩ : ∃ B, B = w.alloc (.cells #[.pointer (some ⟨q, 0, none⟩)] 112) := ⟨_, rfl⟩
  have HB := Lib.hid hB
  have B0 := Lib.hid (show Below w.heap.size w B by rw [hB]; exact (Below.refl w.heap.size w).alloc (Nat.le_refl _) _)
  have Kq := Lib.hid (show Or.Box B (w.heap.size) 112 (.pointer (some ⟨q, 0, none⟩)) by rw [hB]; have h := Or.box_new w 112 (.pointer (some ⟨q, 0, none⟩)); exact h)
  clear hB al
  have hl1 := hq.xin.ev.le; have hl2 := hq.xin.ev.max
  obtain ⟨e, he⟩ : ∃ e, x.ev[a]? = some e := ⟨_, List.getElem?_eq_getElem ha⟩
  obtain ⟨f, hf⟩ : ∃ f, x.ev[b]? = some f := ⟨_, List.getElem?_eq_getElem hb⟩
  obtain ⟨g, o, eg, hce⟩ := hq.xin.ev.at_ he
  obtain ⟨g', o', eg', hcf⟩ := hq.xin.ev.at_ hf
  obtain ⟨rfl, rfl⟩ : g' = g ∧ o' = o := by rw [eg] at eg'; cases eg'; exact ⟨rfl, rfl⟩
  have HE := Lib.hid (Ev.nth_some he); have HF := Lib.hid (Ev.nth_some hf)
  have HQ := Lib.hid hq; have HCE := Lib.hid hce; have HCF := Lib.hid hcf
  have hai : (a : Int) < (x.ev.length : Int) := by omega
  have hbi : (b : Int) < (x.ev.length : Int) := by omega
  have CX := Lib.hid (show ∀ W, Below w.heap.size w W → W.cell? ⟨q, 0, none⟩ = some (.slice (some ⟨g', o', none⟩) x.ev.length x.ce) from fun W h => by
    rw [← eg]; exact (hq.kp h).c0)
  have HQB := Lib.hid (hq.kp B0.out)
  clear hq he hf eg eg' hce hcf
  have CXB := Lib.hid (show ∀ W, Below B.heap.size B W → W.cell? ⟨q, 0, none⟩ = some (.slice (some ⟨g', o', none⟩) x.ev.length x.ce) from fun W h => CX.out W (B0.out.trans (h.mono B0.out.size)))
  have HCEB := Lib.hid (show ∀ i c, (Ev.cells e)[i]? = some c → B.cell? ⟨g', o' + a * 13 + i, none⟩ = some c from fun i c hi => Ev.kp_below B0.out _ _ (HCE.out i c hi))
  have HCFB := Lib.hid (show ∀ i c, (Ev.cells f)[i]? = some c → B.cell? ⟨g', o' + b * 13 + i, none⟩ = some c from fun i c hi => Ev.kp_below B0.out _ _ (HCF.out i c hi))
  have LBX := Lib.hid (fun (z : World) (hz : Og.Std B z) => Or.load_ptr (P := Tryz.prog) Tryz.underlying112 (Og.std_cell hz Kq.out.cell))
  have HS := Lib.hid (show Or.Such B (fun m => a < m ∧ m < b) 157 #[.pointer (some ⟨w.heap.size, 0, none⟩)] (Or.p8 x) from fun m hm W hz => c8_any x q m (w.heap.size) (by omega) W (HQB.out.kp hz) (Kq.out.kp hz))
  have ha' : a < 9223372036854775807 := by omega
  have hb' : b ≤ 9223372036854775807 := by omega
  obtain ⟨z1, hz1⟩ : ∃ s, e.z = s := ⟨_, rfl⟩
  have HZ1 := Lib.hid hz1
  obtain ⟨s, hs⟩ : ∃ s, Ev.loads e.k = s := ⟨_, rfl⟩
  have HL := Lib.hid hs
  obtain ⟨z2, hz2⟩ : ∃ s, f.z = s := ⟨_, rfl⟩
  have HZ2 := Lib.hid hz2
  obtain ⟨t, ht⟩ : ∃ s, Ev.stores f.k = s := ⟨_, rfl⟩
  have HST := Lib.hid ht
  obtain ⟨o1, ho1⟩ : ∃ s, Or.oneW x a b = s := ⟨_, rfl⟩
  have HO := Lib.hid ho1
  obtain ⟨n1, hn1⟩ : ∃ s, (Or.ms a b).any (Or.p8 x) = s := ⟨_, rfl⟩
  have HN := Lib.hid hn1
  have HRES := Lib.hid (show Or.r8 x a b = (z1 && s && z2 && t && o1 && !n1) by unfold Or.r8; rw [HE.out, HF.out, hz1, hs, hz2, ht, ho1, hn1])
  clear hz1 hs hz2 ht ho1 hn1
  go_enter Tryz.func131, Tryz.ntmps131
  go_wp2_with fail
  rw [show w.alloc (Obj.cells #[Value.pointer (some ⟨q, 0, none⟩)] 112) = B from HB.out.symm]
  have cx := CXB.out B (Below.refl _ _)
  have LA := Lib.hid (fun (z : World) (hz : Og.Std B z) => Ev.ld (w := z) (g := g') (o := o' + a * 13) (x := e) (fun i c hi => Og.std_cell hz (HCEB.out i c hi)))
  have LF := Lib.hid (fun (z : World) (hz : Og.Std B z) => Ev.ld (w := z) (g := g') (o := o' + b * 13) (x := f) (fun i c hi => Og.std_cell hz (HCFB.out i c hi)))
  refine wp_region_held (S := Og.Std B) (by kernel_rfl) ?_
  have S0 : Og.Std B { B with drawn := B.drawn + 1 } := ⟨rfl, rfl, rfl, Nat.le_refl _, fun _ _ => rfl⟩
  refine Og.held_take 0 _ (.pointer (some ⟨q, 0, none⟩)) _ rfl rfl (by kernel_rfl) (by kernel_rfl) (by kernel_rfl) (fun _ _ _ h => h) S0 (fun z hz => ?_) (by simp only [Act.put, List.setIfInBounds_toArray, List.set_cons_zero, List.set_cons_succ]; rfl) ?_
  · exact Og.load_run 112 (.tmp 3) rfl ⟨w.heap.size, 0, none⟩ (by kernel_rfl) (LBX.out z hz)
  refine Og.held_take 1 _ (.pointer (some ⟨q, 0, none⟩)) _ rfl rfl (by kernel_rfl) (by kernel_rfl) (by kernel_rfl) (fun _ _ _ h => h) S0 (fun z hz => ?_) (by simp only [Act.put, List.setIfInBounds_toArray, List.set_cons_zero, List.set_cons_succ]; rfl) ?_
  · go_simp; try (with_reducible rfl)
  refine Og.held_take 2 _ (.pointer (some ⟨q, 0, none⟩)) _ rfl rfl (by kernel_rfl) (by kernel_rfl) (by kernel_rfl) (fun _ _ _ h => h) S0 (fun z hz => ?_) (by simp only [Act.put, List.setIfInBounds_toArray, List.set_cons_zero, List.set_cons_succ]; rfl) ?_
  · go_simp; try (with_reducible rfl)
  refine Og.held_take 3 _ (.pointer (some ⟨q, 0, none⟩)) _ rfl rfl (by kernel_rfl) (by kernel_rfl) (by kernel_rfl) (fun _ _ _ h => h) S0 (fun z hz => ?_) (by simp only [Act.put, List.setIfInBounds_toArray, List.set_cons_zero, List.set_cons_succ]; rfl) ?_
  · go_simp; try (with_reducible rfl)
  refine Og.held_take 4 _ (.slice (some ⟨g', o', none⟩) x.ev.length x.ce) _ rfl rfl (by kernel_rfl) (by kernel_rfl) (by kernel_rfl) (fun _ _ _ h => h) S0 (fun z hz => ?_) (by simp only [Act.put, List.setIfInBounds_toArray, List.set_cons_zero, List.set_cons_succ]; rfl) ?_
  · exact Og.load_run 22 (.tmp 12) rfl ⟨q, 0, none⟩ (by kernel_rfl) (run_load_slice Tryz.underlying22 (Og.std_cell hz cx))
  refine Og.held_take 5 _ (.int .i64 (a : Int)) _ rfl rfl (by kernel_rfl) (by kernel_rfl) (by kernel_rfl) (fun _ _ _ h => h) S0 (fun z hz => ?_) (by simp only [Act.put, List.setIfInBounds_toArray, List.set_cons_zero, List.set_cons_succ]; rfl) ?_
  · go_simp; try (with_reducible rfl)
  refine Og.held_take 6 _ (.pointer (some ⟨g', o' + a * 13, none⟩)) _ rfl rfl (by kernel_rfl) (by kernel_rfl) (by kernel_rfl) (fun _ _ _ h => h) S0 (fun z hz => ?_) (by simp only [Act.put, List.setIfInBounds_toArray, List.set_cons_zero, List.set_cons_succ]; rfl) ?_
  · go_simp; try (with_reducible rfl)
  refine Og.held_take 7 _ (.agg (Ev.cells e).toArray) _ rfl rfl (by kernel_rfl) (by kernel_rfl) (by kernel_rfl) (fun _ _ _ h => h) S0 (fun z hz => ?_) (by simp only [Act.put, List.setIfInBounds_toArray, List.set_cons_zero, List.set_cons_succ]; rfl) ?_
  · exact Og.load_run 48 (.tmp 15) rfl ⟨g', o' + a * 13, none⟩ (by kernel_rfl) (LA.out z hz)
  refine Og.held_take 8 _ (.pointer (some ⟨q, 0, none⟩)) _ rfl rfl (by kernel_rfl) (by kernel_rfl) (by kernel_rfl) (fun _ _ _ h => h) S0 (fun z hz => ?_) (by simp only [Act.put, List.setIfInBounds_toArray, List.set_cons_zero, List.set_cons_succ]; rfl) ?_
  · exact Og.load_run 112 (.tmp 3) rfl ⟨w.heap.size, 0, none⟩ (by kernel_rfl) (LBX.out z hz)
  refine Og.held_take 9 _ (.pointer (some ⟨q, 0, none⟩)) _ rfl rfl (by kernel_rfl) (by kernel_rfl) (by kernel_rfl) (fun _ _ _ h => h) S0 (fun z hz => ?_) (by simp only [Act.put, List.setIfInBounds_toArray, List.set_cons_zero, List.set_cons_succ]; rfl) ?_
  · go_simp; try (with_reducible rfl)
  refine Og.held_take 10 _ (.pointer (some ⟨q, 0, none⟩)) _ rfl rfl (by kernel_rfl) (by kernel_rfl) (by kernel_rfl) (fun _ _ _ h => h) S0 (fun z hz => ?_) (by simp only [Act.put, List.setIfInBounds_toArray, List.set_cons_zero, List.set_cons_succ]; rfl) ?_
  · go_simp; try (with_reducible rfl)
  refine Og.held_take 11 _ (.pointer (some ⟨q, 0, none⟩)) _ rfl rfl (by kernel_rfl) (by kernel_rfl) (by kernel_rfl) (fun _ _ _ h => h) S0 (fun z hz => ?_) (by simp only [Act.put, List.setIfInBounds_toArray, List.set_cons_zero, List.set_cons_succ]; rfl) ?_
  · go_simp; try (with_reducible rfl)
  refine Og.held_take 12 _ (.slice (some ⟨g', o', none⟩) x.ev.length x.ce) _ rfl rfl (by kernel_rfl) (by kernel_rfl) (by kernel_rfl) (fun _ _ _ h => h) S0 (fun z hz => ?_) (by simp only [Act.put, List.setIfInBounds_toArray, List.set_cons_zero, List.set_cons_succ]; rfl) ?_
  · exact Og.load_run 22 (.tmp 20) rfl ⟨q, 0, none⟩ (by kernel_rfl) (run_load_slice Tryz.underlying22 (Og.std_cell hz cx))
  refine Og.held_take 13 _ (.int .i64 (b : Int)) _ rfl rfl (by kernel_rfl) (by kernel_rfl) (by kernel_rfl) (fun _ _ _ h => h) S0 (fun z hz => ?_) (by simp only [Act.put, List.setIfInBounds_toArray, List.set_cons_zero, List.set_cons_succ]; rfl) ?_
  · go_simp; try (with_reducible rfl)
  refine Og.held_take 14 _ (.pointer (some ⟨g', o' + b * 13, none⟩)) _ rfl rfl (by kernel_rfl) (by kernel_rfl) (by kernel_rfl) (fun _ _ _ h => h) S0 (fun z hz => ?_) (by simp only [Act.put, List.setIfInBounds_toArray, List.set_cons_zero, List.set_cons_succ]; rfl) ?_
  · go_simp; try (with_reducible rfl)
  refine Og.held_take 15 _ (.agg (Ev.cells f).toArray) _ rfl rfl (by kernel_rfl) (by kernel_rfl) (by kernel_rfl) (fun _ _ _ h => h) S0 (fun z hz => ?_) (by simp only [Act.put, List.setIfInBounds_toArray, List.set_cons_zero, List.set_cons_succ]; rfl) ?_
  · exact Og.load_run 48 (.tmp 23) rfl ⟨g', o' + b * 13, none⟩ (by kernel_rfl) (LF.out z hz)
  refine Og.four (p := 16) (q := 17) (s1 := 18) (s2 := 19) (dp := 7) (dq := 8) (x1 := 16) (x2 := 24) (T := 48) (Z := (Ev.cells Ev.R0).toArray) (c1 := (Ev.cells e).toArray) (c2 := (Ev.cells f).toArray)
    ⟨⟨_, rfl, rfl, rfl, fun ρ w => by kernel_rfl⟩, ⟨_, rfl, rfl, rfl, fun ρ w => by kernel_rfl⟩, ⟨_, rfl, rfl, rfl, rfl⟩, ⟨_, rfl, rfl, rfl, rfl⟩, (by kernel_rfl), (by kernel_rfl), (by kernel_rfl), (by kernel_rfl), (by kernel_rfl), (by kernel_rfl), (by kernel_rfl), (by kernel_rfl), (by kernel_rfl), (by kernel_rfl), (by kernel_rfl), of_decide_eq_true (by kernel_rfl), of_decide_eq_true (by kernel_rfl), (by decide), rfl, rfl, (by kernel_rfl), (by kernel_rfl), (by kernel_rfl), (by kernel_rfl)⟩ S0 ?_
  intro W g1 g2 HT
  simp only [Act.put, List.setIfInBounds_toArray, List.set_cons_zero, List.set_cons_succ]
  have R1 := Lib.hid HT.r1; have R2 := Lib.hid HT.r2; have BW := Lib.hid (HT.below)
  clear HT S0 cx
  have WB := Lib.hid (B0.out.trans (BW.out.mono B0.out.size))
  have c1 : W.cell? ⟨g1, 9, none⟩ = some (.bool z1) := by rw [cell_of_row _ _ _ _ _ _ R1.out, ← HZ1.out]; rfl
  cases z1
  case false =>
    go_wp2_with fail
    go_ret
    exact ⟨by rw [HRES.out]; try rfl, WB.out⟩
  go_wp2_with ((with_reducible show wpList _ _ _ (Oper.mk (some 28) _ _ _ _ _ :: _) _ _); refine Ev.load_row_g 48 (.tmp 7) rfl rfl g1 (by kernel_rfl) 48 (Ev.cells e).toArray (0, 0) _ R1.out Tryz.underlying48 rfl (by kernel_rfl) ?_)
  refine (oloads_is HL.out _).mono ?_
  rintro r W2 ⟨rfl, hb2⟩
  have R22 := Lib.hid ((hb2.block g2 (Array.getElem?_eq_some_iff.1 R2.out).1).trans R2.out)
  have V2 := Lib.hid (BW.out.trans (hb2.mono BW.out.size))
  have B2 := Lib.hid (WB.out.trans (hb2.mono WB.out.size)); clear hb2 c1
  have c2 : W2.cell? ⟨g2, 9, none⟩ = some (.bool z2) := by rw [cell_of_row _ _ _ _ _ _ R22.out, ← HZ2.out]; rfl
  cases s
  case false =>
    go_wp2_with fail
    go_ret
    exact ⟨by rw [HRES.out]; try rfl, B2.out⟩
  cases z2
  case false =>
    go_wp2_with fail
    go_ret
    exact ⟨by rw [HRES.out]; try rfl, B2.out⟩
  go_wp2_with ((with_reducible show wpList _ _ _ (Oper.mk (some 36) _ _ _ _ _ :: _) _ _); refine Ev.load_row_g 48 (.tmp 8) rfl rfl g2 (by kernel_rfl) 48 (Ev.cells f).toArray (0, 0) _ R22.out Tryz.underlying48 rfl (by kernel_rfl) ?_)
  refine (ostores_is HST.out _).mono ?_
  rintro r W3 ⟨rfl, hb3⟩
  have V3 := Lib.hid (V2.out.trans (hb3.mono V2.out.size))
  have B3 := Lib.hid (B2.out.trans (hb3.mono B2.out.size)); clear hb3 c2
  have kq3 := (Kq.out.kp V3.out).cell
  cases t
  case false =>
    go_wp2_with fail
    go_ret
    exact ⟨by rw [HRES.out]; try rfl, B3.out⟩
  go_wp2_with fail
  refine (oneW_is HO.out ha hb _ (HQB.out.kp V3.out)).mono ?_
  rintro r W4 ⟨rfl, hb4⟩
  have V4 := Lib.hid (V3.out.trans (hb4.mono V3.out.size))
  have B4 := Lib.hid (B3.out.trans (hb4.mono B3.out.size)); clear hb4 kq3
  have kq4 := (Kq.out.kp V4.out).cell
  cases o1
  case false =>
    go_wp2_with fail
    go_ret
    exact ⟨by rw [HRES.out]; try rfl, B4.out⟩
  go_wp2_with fail
  refine (some_is HN.out q ha' hb' _ _ W4 (enters_of Tryz.func157 (by kernel_rfl) rfl) (HS.out.later V4.out)).mono ?_
  rintro r W5 ⟨rfl, hb5⟩
  have B5 := Lib.hid (B4.out.trans (hb5.mono B4.out.size)); clear hb5 kq4
  cases n1
  · go_wp2_with fail
    go_ret
    exact ⟨by rw [HRES.out]; try rfl, B5.out⟩
  · go_wp2_with fail
    go_ret
    exact ⟨by rw [HRES.out]; try rfl, B5.out⟩
end Go.Proofs.YtecnnkidalkmfaaGreat
end
