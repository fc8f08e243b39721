/-
  The relations that ask no map: what is read, program order.
-/
import Derived.Test.YtnlfdepeimjliaaEvPairs
namespace Go.Proofs.Ytnlfdepeimjliaa
open Go.RowKit
set_option linter.unusedVariables false
set_option linter.unusedSimpArgs false
namespace Ev
def bnd (b : Bool) : Int := if b then 1 else 0
def frAt (x : X) (b : Nat) : Int := x.fr.l.getD b 0
def bondRf (x : X) (a b : Nat) : Int := if stores (nth x.ev a).k = false then 2 else bnd (frAt x b == (a : Int))
def bondPo (x : X) (a b : Nat) : Int := if (nth x.ev a).k = 5 ∨ (nth x.ev a).h < (nth x.ev b).h then 2 else bnd (decide ((a : Int) < (b : Int)))
/-- a boxed execution -/
structure Bx (w : World) (q : Nat) (x : X) : Prop where
  row : w.heap[q]? = some (.cells (xcells x).toArray 26 (0, 0))
  xin : XIn w x
theorem Bx.kp {w w' : World} {q : Nat} {x : X} (h : Bx w q x) (hb : Below w.heap.size w w') : Bx w' q x :=
  ⟨(hb.block q (Array.getElem?_eq_some_iff.1 h.row).1).trans h.row, h.xin.kp (kp_below hb)⟩
theorem Bx.c0 {w : World} {q : Nat} {x : X} (h : Bx w q x) : w.cell? ⟨q, 0, none⟩ = some (.slice x.ae x.ev.length x.ce) := by rw [cell_of_row _ _ _ _ _ _ h.row]; rfl
theorem Bx.c1 {w : World} {q : Nat} {x : X} (h : Bx w q x) : w.cell? ⟨q, 1, none⟩ = some (.slice x.fr.a x.fr.l.length x.fr.c) := by rw [cell_of_row _ _ _ _ _ _ h.row]; rfl
theorem Bx.c2 {w : World} {q : Nat} {x : X} (h : Bx w q x) : w.cell? ⟨q, 2, none⟩ = some (.slice x.ao x.od.length x.co) := by rw [cell_of_row _ _ _ _ _ _ h.row]; rfl
theorem bx_new {w : World} {x : X} (h : XIn w x) : Bx (w.alloc (.cells (xcells x).toArray 26)) w.heap.size x :=
  ⟨heap_alloc_new _ _, h.kp (kp_below ((Below.refl _ _).alloc (Nat.le_refl _) _))⟩
theorem enters_of (F : FuncId) (h : ∀ args w, (callFunc F args).run Try.prog w = .ok (.enter F args) w) : Enters F := h
end Ev
theorem bond_is (b : Bool) (w : World) : Calls Try.prog 62 #[.bool b] w fun e w' => e = .returned (.int .i64 (Ev.bnd b)) ∧ w = w' := bond_any b w
theorem run_load_slice {P : Program} {w : World} {ty e : TypeId} {p : Addr} {v : Value} (hu : P.underlying ty = some (.slice e)) (hc : w.cell? p = some v) : (loadVar ty p).run P w = .ok v w := by
  unfold loadVar isAgg
  simp only [Sem.run_bind, run_underlying hu w, Sem.run_pure, Result.andThen_ok]
  go_simp
  first | done | rw [hc]
set_option maxRecDepth 100000 in
set_option maxHeartbeats 2000000 in
theorem rf1_any (x : Ev.X) (q a b : Nat) (ha : a < x.ev.length) (hb : b < x.ev.length) (hfl : x.fr.l.length = x.ev.length) (w : World) (hbx : Ev.Bx w q x) :
    Calls Try.prog 63 #[.int .i64 (a : Int), .int .i64 (b : Int), .pointer (some ⟨q, 0, none⟩)] w fun e w' => e = .returned (.int .i64 (Ev.bondRf x a b)) ∧ Below w.heap.size w w' := by
  obtain ⟨ea, hea⟩ : ∃ e, x.ev[a]? = some e := ⟨_, List.getElem?_eq_getElem ha⟩
  obtain ⟨g, o, eg, hcx⟩ := hbx.xin.ev.at_ hea
  obtain ⟨f, hf⟩ : ∃ f, x.fr.l[b]? = some f := ⟨_, List.getElem?_eq_getElem (by omega)⟩
  obtain ⟨g2, o2, ef, hcf⟩ := hbx.xin.fr.at_ hf
  have hl1 := hbx.xin.ev.le; have hl2 := hbx.xin.ev.max; have hl3 := hbx.xin.fr.2.1; have hl4 := hbx.xin.fr.2.2.1
  have hna := Ev.nth_some hea
  have hfa : Ev.frAt x b = f := by unfold Ev.frAt; simp [List.getD, hf]
  have HRES := Lib.hid (show Ev.bondRf x a b = if Ev.stores ea.k = false then 2 else Ev.bnd (f == (a : Int)) by unfold Ev.bondRf; rw [hna, hfa])
  have c0 := hbx.c0; have c1 := hbx.c1
  rw [eg] at c0; rw [ef] at c1
  have HC := Lib.hid hcx; have HBX := Lib.hid hbx
  have hai : (a : Int) < (x.ev.length : Int) := by omega
  have hbi : (b : Int) < (x.fr.l.length : Int) := by omega
  clear hea eg hcx hf ef hna hfa hbx hfl
  go_enter Try.func63, Try.ntmps63
  go_wp2_with (show wpList _ _ _ (Oper.mk (some 10) _ _ _ _ _ :: _) _ _; refine wpList_load_at rfl 44 (.tmp 9) rfl g (o + a * 13) (by kernel_rfl) (Ev.cells ea) _ HC.out Try.underlying44 rfl (by kernel_rfl) ?_)
  refine (stores_any ea _).mono ?_
  rintro e W1 ⟨rfl, hb1⟩
  have B1 := Lib.hid hb1
  have c1' := Ev.kp_below hb1 _ _ c1
  have cf' := Ev.kp_below hb1 _ _ hcf
  clear hb1 c0 c1 hcf
  obtain ⟨s, hs⟩ : ∃ s, Ev.stores ea.k = s := ⟨_, rfl⟩
  have HS := Lib.hid hs
  rw [hs]; clear hs
  cases s
  · go_wp2_with fail
    go_ret
    exact ⟨by rw [HRES.out, HS.out]; rfl, B1.out⟩
  · go_wp2_with (go_at_call 62; refine (bond_is _ _).mono ?_; rintro e w' ⟨rfl, rfl⟩)
    go_ret
    exact ⟨by rw [HRES.out, HS.out]; rfl, B1.out⟩
theorem rf_makes (x : Ev.X) (hfl : x.fr.l.length = x.ev.length) (w : World) : Ev.Makes w x 39 (Ev.bondRf x) := by
  intro W hin
  have HIN := Lib.hid hin; clear hin
  have HBX := Lib.hid (Ev.bx_new HIN.out)
  have B0 := Lib.hid ((Below.refl W.heap.size W).alloc (Nat.le_refl _) (.cells (Ev.xcells x).toArray 26))
  have HFL := Lib.hid hfl; clear hfl
  unfold Ev.exV Ev.xcells
  go_enter Try.func39, Try.ntmps39
  go_wp2
  go_ret
  refine ⟨63, #[.pointer (some ⟨W.heap.size, 0, none⟩)], rfl, Ev.enters_of _ (fun args w => by kernel_rfl), B0.out, fun W2 hb a b ha hb' => ?_⟩
  exact rf1_any x W.heap.size a b ha hb' HFL.out W2 (HBX.out.kp hb)
theorem check_from {x : Ev.X} (h : Ev.check x = 0) : x.fr.l.length = x.ev.length := by
  unfold Ev.check at h
  split at h
  · cases h
  split at h
  · cases h
  split at h
  · cases h
  · rename_i h1 h2
    simp at h2
    unfold Ev.fromOk at h2
    simp at h2
    exact h2.1
set_option maxRecDepth 100000 in
set_option maxHeartbeats 2000000 in
theorem rf_yes (x : Ev.X) (w : World) (hin : Ev.XIn w x) (hc : Ev.check x = 0) :
    Calls Try.prog 15 #[Ev.exV x] w fun e w' => ∃ a c, e = .returned (.slice a (Ev.told (Ev.bondRf x) x.ev.length x.ev.length).length c) ∧ Ev.PairsIn w' a c (Ev.told (Ev.bondRf x) x.ev.length x.ev.length) ∧ Below w.heap.size w w' := by
  have HIN := Lib.hid hin; have HC := Lib.hid hc; clear hin hc
  have R0 := Lib.hid (heap_alloc_new w (.cells (Ev.xcells x).toArray 26))
  have B0 := Lib.hid ((Below.refl w.heap.size w).alloc (Nat.le_refl _) (.cells (Ev.xcells x).toArray 26))
  unfold Ev.exV Ev.xcells
  go_enter Try.func15, Try.ntmps15
  go_wp2_with (show wpList _ _ _ (Oper.mk (some 3) _ _ _ _ _ :: _) _ _; refine wpList_load_row rfl 26 (.tmp 1) rfl w.heap.size (by kernel_rfl) 26 (Ev.xcells x).toArray (0, 0) _ R0.out Try.underlying26 rfl (by kernel_rfl) ?_)
  refine (pairs_yes x 39 (Ev.bondRf x) _ (HIN.out.kp (Ev.kp_below B0.out)) HC.out (Ev.enters_of _ (fun args w => by kernel_rfl)) (rf_makes x (check_from HC.out) _)).mono ?_
  rintro e W1 ⟨a, c, rfl, hp, hb⟩
  have HP := Lib.hid hp
  have HB := Lib.hid (B0.out.trans (hb.mono (by simp only [World.size_alloc]; omega)))
  clear hp hb
  go_wp2_with fail
  go_ret
  exact ⟨a, c, rfl, HP.out, HB.out⟩
set_option maxRecDepth 100000 in
set_option maxHeartbeats 2000000 in
theorem po1_any (x : Ev.X) (q a b : Nat) (ha : a < x.ev.length) (hb : b < x.ev.length) (w : World) (hbx : Ev.Bx w q x) :
    Calls Try.prog 61 #[.int .i64 (a : Int), .int .i64 (b : Int), .pointer (some ⟨q, 0, none⟩)] w fun e w' => e = .returned (.int .i64 (Ev.bondPo x a b)) ∧ Below w.heap.size w w' := by
  obtain ⟨ea, hea⟩ : ∃ e, x.ev[a]? = some e := ⟨_, List.getElem?_eq_getElem ha⟩
  obtain ⟨eb, heb⟩ : ∃ e, x.ev[b]? = some e := ⟨_, List.getElem?_eq_getElem hb⟩
  obtain ⟨g, o, eg, hcx⟩ := hbx.xin.ev.at_ hea
  obtain ⟨g', o', eg', hcy⟩ := hbx.xin.ev.at_ heb
  obtain ⟨rfl, rfl⟩ : g' = g ∧ o' = o := by rw [eg] at eg'; cases eg'; exact ⟨rfl, rfl⟩
  have hl1 := hbx.xin.ev.le; have hl2 := hbx.xin.ev.max
  have hna := Ev.nth_some hea; have hnb := Ev.nth_some heb
  have HRES := Lib.hid (show Ev.bondPo x a b = if ea.k = 5 ∨ ea.h < eb.h then 2 else Ev.bnd (decide ((a : Int) < (b : Int))) by unfold Ev.bondPo; rw [hna, hnb])
  have c0 := hbx.c0
  rw [eg] at c0
  have HX := Lib.hid hcx; have HY := Lib.hid hcy
  have LX := Lib.hid (fun (z : World) (hz : Og.Std w z) => Ev.ld (w := z) (g := g') (o := o' + a * 13) (x := ea) (fun i c hi => Og.std_cell hz (HX.out i c hi)))
  have LY := Lib.hid (fun (z : World) (hz : Og.Std w z) => Ev.ld (w := z) (g := g') (o := o' + b * 13) (x := eb) (fun i c hi => Og.std_cell hz (HY.out i c hi)))
  have LB := Lib.hid (fun (z : World) (hz : Og.Std w z) => run_load_slice (P := Try.prog) Try.underlying22 (Og.std_cell hz c0))
  have hai : (a : Int) < (x.ev.length : Int) := by omega
  have hbi : (b : Int) < (x.ev.length : Int) := by omega
  clear hea heb eg eg' hcx hcy hna hnb hbx c0
  go_enter Try.func61, Try.ntmps61
  go_wp2
  refine wp_region_held (S := Og.Std w) (by kernel_rfl) ?_
  have S0 : Og.Std w { w with drawn := w.drawn + 1 } := ⟨rfl, rfl, rfl, Nat.le_refl _, fun _ _ => rfl⟩
  refine Og.held_take 0 _ (.pointer (some ⟨q, 0, none⟩)) _ rfl rfl (by kernel_rfl) (by kernel_rfl) (by kernel_rfl) (fun _ _ _ h => h) S0 (fun x hx => ?_) (by simp only [Act.put, List.setIfInBounds_toArray, List.set_cons_zero, List.set_cons_succ]; rfl) ?_
  · go_simp; try (with_reducible rfl)
  refine Og.held_take 1 _ (.slice (some ⟨g', o', none⟩) x.ev.length x.ce) _ rfl rfl (by kernel_rfl) (by kernel_rfl) (by kernel_rfl) (fun _ _ _ h => h) S0 (fun x hx => ?_) (by simp only [Act.put, List.setIfInBounds_toArray, List.set_cons_zero, List.set_cons_succ]; rfl) ?_
  · exact Og.load_run 22 (.tmp 8) rfl ⟨q, 0, none⟩ (by kernel_rfl) (LB.out _ hx)
  refine Og.held_take 2 _ (.int .i64 (a : Int)) _ rfl rfl (by kernel_rfl) (by kernel_rfl) (by kernel_rfl) (fun _ _ _ h => h) S0 (fun x hx => ?_) (by simp only [Act.put, List.setIfInBounds_toArray, List.set_cons_zero, List.set_cons_succ]; rfl) ?_
  · go_simp; try (with_reducible rfl)
  refine Og.held_take 3 _ (.pointer (some ⟨g', o' + a * 13, none⟩)) _ rfl rfl (by kernel_rfl) (by kernel_rfl) (by kernel_rfl) (fun _ _ _ h => h) S0 (fun x hx => ?_) (by simp only [Act.put, List.setIfInBounds_toArray, List.set_cons_zero, List.set_cons_succ]; rfl) ?_
  · go_simp; try (with_reducible rfl)
  refine Og.held_take 4 _ (.agg (Ev.cells ea).toArray) _ rfl rfl (by kernel_rfl) (by kernel_rfl) (by kernel_rfl) (fun _ _ _ h => h) S0 (fun x hx => ?_) (by simp only [Act.put, List.setIfInBounds_toArray, List.set_cons_zero, List.set_cons_succ]; rfl) ?_
  · exact Og.load_run 44 (.tmp 11) rfl ⟨g', o' + a * 13, none⟩ (by kernel_rfl) (LX.out _ hx)
  refine Og.held_take 5 _ (.pointer (some ⟨q, 0, none⟩)) _ rfl rfl (by kernel_rfl) (by kernel_rfl) (by kernel_rfl) (fun _ _ _ h => h) S0 (fun x hx => ?_) (by simp only [Act.put, List.setIfInBounds_toArray, List.set_cons_zero, List.set_cons_succ]; rfl) ?_
  · go_simp; try (with_reducible rfl)
  refine Og.held_take 6 _ (.slice (some ⟨g', o', none⟩) x.ev.length x.ce) _ rfl rfl (by kernel_rfl) (by kernel_rfl) (by kernel_rfl) (fun _ _ _ h => h) S0 (fun x hx => ?_) (by simp only [Act.put, List.setIfInBounds_toArray, List.set_cons_zero, List.set_cons_succ]; rfl) ?_
  · exact Og.load_run 22 (.tmp 13) rfl ⟨q, 0, none⟩ (by kernel_rfl) (LB.out _ hx)
  refine Og.held_take 7 _ (.int .i64 (b : Int)) _ rfl rfl (by kernel_rfl) (by kernel_rfl) (by kernel_rfl) (fun _ _ _ h => h) S0 (fun x hx => ?_) (by simp only [Act.put, List.setIfInBounds_toArray, List.set_cons_zero, List.set_cons_succ]; rfl) ?_
  · go_simp; try (with_reducible rfl)
  refine Og.held_take 8 _ (.pointer (some ⟨g', o' + b * 13, none⟩)) _ rfl rfl (by kernel_rfl) (by kernel_rfl) (by kernel_rfl) (fun _ _ _ h => h) S0 (fun x hx => ?_) (by simp only [Act.put, List.setIfInBounds_toArray, List.set_cons_zero, List.set_cons_succ]; rfl) ?_
  · go_simp; try (with_reducible rfl)
  refine Og.held_take 9 _ (.agg (Ev.cells eb).toArray) _ rfl rfl (by kernel_rfl) (by kernel_rfl) (by kernel_rfl) (fun _ _ _ h => h) S0 (fun x hx => ?_) (by simp only [Act.put, List.setIfInBounds_toArray, List.set_cons_zero, List.set_cons_succ]; rfl) ?_
  · exact Og.load_run 44 (.tmp 16) rfl ⟨g', o' + b * 13, none⟩ (by kernel_rfl) (LY.out _ hx)
  refine Og.four (p := 10) (q := 11) (s1 := 12) (s2 := 13) (dp := 6) (dq := 7) (x1 := 12) (x2 := 17) (T := 44) (Z := (Ev.cells Ev.R0).toArray) (c1 := (Ev.cells ea).toArray) (c2 := (Ev.cells eb).toArray)
    ⟨⟨_, rfl, rfl, rfl, fun ρ w => by kernel_rfl⟩, ⟨_, rfl, rfl, rfl, fun ρ w => by kernel_rfl⟩, ⟨_, rfl, rfl, rfl, rfl⟩, ⟨_, rfl, rfl, rfl, rfl⟩, (by kernel_rfl), (by kernel_rfl), (by kernel_rfl), (by kernel_rfl), (by kernel_rfl), (by kernel_rfl), (by kernel_rfl), (by kernel_rfl), (by kernel_rfl), (by kernel_rfl), (by kernel_rfl), of_decide_eq_true (by kernel_rfl), of_decide_eq_true (by kernel_rfl), (by decide), rfl, rfl, (by kernel_rfl), (by kernel_rfl), (by kernel_rfl), (by kernel_rfl)⟩ S0 ?_
  intro W g1 g2 HT
  simp only [Act.put, List.setIfInBounds_toArray, List.set_cons_zero, List.set_cons_succ]
  have R1 := Lib.hid HT.r1; have R2 := Lib.hid HT.r2; have BW := Lib.hid HT.below
  clear HT S0
  have c1 : W.cell? ⟨g1, 1, none⟩ = some (.int .i64 ea.k) := by rw [cell_of_row _ _ _ _ _ _ R1.out]; rfl
  have c2 : W.cell? ⟨g1, 0, none⟩ = some (.int .i64 ea.h) := by rw [cell_of_row _ _ _ _ _ _ R1.out]; rfl
  have c3 : W.cell? ⟨g2, 0, none⟩ = some (.int .i64 eb.h) := by rw [cell_of_row _ _ _ _ _ _ R2.out]; rfl
  by_cases h5 : ea.k = 5
  · have q5 : (ea.k == 5) = true := by simp [h5]
    have HE := Lib.hid (show Ev.bondPo x a b = 2 by rw [HRES.out, if_pos (.inl h5)])
    clear h5
    go_wp2_with fail
    go_ret
    exact ⟨by rw [HE.out]; rfl, BW.out⟩
  have q5 : (ea.k == 5) = false := by simpa using h5
  by_cases hh : ea.h < eb.h
  · have HE := Lib.hid (show Ev.bondPo x a b = 2 by rw [HRES.out, if_pos (.inr hh)])
    clear h5
    go_wp2_with fail
    go_ret
    exact ⟨by rw [HE.out]; rfl, BW.out⟩
  have HE := Lib.hid (show Ev.bondPo x a b = Ev.bnd (decide ((a : Int) < (b : Int))) by rw [HRES.out, if_neg (by intro h; rcases h with h | h; exact h5 h; exact hh h)])
  clear h5
  go_wp2_with (go_at_call 62; refine (bond_is _ _).mono ?_; rintro e w' ⟨rfl, rfl⟩)
  go_ret
  exact ⟨by rw [HE.out]; first | rfl | (simp; done), BW.out⟩
theorem po_makes (x : Ev.X) (w : World) : Ev.Makes w x 38 (Ev.bondPo x) := by
  intro W hin
  have HIN := Lib.hid hin; clear hin
  have HBX := Lib.hid (Ev.bx_new HIN.out)
  have B0 := Lib.hid ((Below.refl W.heap.size W).alloc (Nat.le_refl _) (.cells (Ev.xcells x).toArray 26))
  unfold Ev.exV Ev.xcells
  go_enter Try.func38, Try.ntmps38
  go_wp2
  go_ret
  refine ⟨61, #[.pointer (some ⟨W.heap.size, 0, none⟩)], rfl, Ev.enters_of _ (fun args w => by kernel_rfl), B0.out, fun W2 hb a b ha hb' => ?_⟩
  exact po1_any x W.heap.size a b ha hb' W2 (HBX.out.kp hb)
end Go.Proofs.Ytnlfdepeimjliaa
