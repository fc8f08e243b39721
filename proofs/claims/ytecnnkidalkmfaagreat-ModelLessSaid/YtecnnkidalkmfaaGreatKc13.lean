import Derived.Test.YtecnnkidalkmfaaGreatKc11
import Derived.Test.YtecnnkidalkmfaaGreatKc12
import Derived.Test.YtecnnkidalkmfaaGreatKc07
import Derived.Test.YtecnnkidalkmfaaGreatKc01
set_option linter.unusedVariables false
set_option linter.unusedSimpArgs false

section
namespace Go.Proofs.YtecnnkidalkmfaaGreat
open Go.RowKit
namespace Or
open Ev
structure As (w : World) (q : Nat) (x : X) : Prop where
  row : w.heap[q]? = some (.cells (xcells x).toArray 115 (0, 0))
  xin : XIn w x
theorem As.kp {w w' : World} {q : Nat} {x : X} (h : As w q x) (hb : Below w.heap.size w w') : As w' q x :=
  ⟨(hb.block q (Array.getElem?_eq_some_iff.1 h.row).1).trans h.row, h.xin.kp (kp_below hb)⟩
theorem As.c0 {w : World} {q : Nat} {x : X} (h : As w q x) : w.cell? ⟨q, 0, none⟩ = some (.slice x.ae x.ev.length x.ce) := by rw [cell_of_row _ _ _ _ _ _ h.row]; rfl
theorem As.c1 {w : World} {q : Nat} {x : X} (h : As w q x) : w.cell? ⟨q, 1, none⟩ = some (.slice x.fr.a x.fr.l.length x.fr.c) := by rw [cell_of_row _ _ _ _ _ _ h.row]; rfl
theorem As.alloc {w : World} {q : Nat} {x : X} (h : As w q x) (o : Obj) : As (w.alloc o) q x := h.kp ((Below.refl _ _).alloc (Nat.le_refl _) _)
def kept (x : X) (a b : Nat) : Bool := decide (a < b) && (nth x.ev a).h == (nth x.ev b).h && acc (nth x.ev a) && acc (nth x.ev b)
def oneW (x : X) (a b : Nat) : Bool := (nth x.ev a).a == (nth x.ev b).a
def kV (F : Nat) : Value := .func (.func F) #[] #[]
def rulesA : Array Value := #[.nilFunc, kV 124, kV 125, kV 126, kV 127, kV 128, kV 129, kV 130, kV 131, kV 132, kV 133, kV 134, kV 135, kV 136]
def rulesV : Value := .agg rulesA
end Or
set_option maxRecDepth 100000 in
set_option maxHeartbeats 4000000 in
theorem kept_any (x : Ev.X) (q a b : Nat) (ha : a < x.ev.length) (hb : b < x.ev.length) (w : World) (hq : Or.As w q x) :
    Calls Tryz.prog 106 #[.pointer (some ⟨q, 0, none⟩), .int .i64 (a : Int), .int .i64 (b : Int)] w fun r w' => r = .returned (.bool (Or.kept x a b)) ∧ Below w.heap.size w w' := by
  have hl1 := hq.xin.ev.le; have hl2 := hq.xin.ev.max
  obtain ⟨e, he⟩ : ∃ e, x.ev[a]? = some e := ⟨_, List.getElem?_eq_getElem ha⟩
  obtain ⟨f, hf⟩ : ∃ f, x.ev[b]? = some f := ⟨_, List.getElem?_eq_getElem hb⟩
  obtain ⟨g, o, eg, hce⟩ := hq.xin.ev.at_ he
  obtain ⟨g', o', eg', hcf⟩ := hq.xin.ev.at_ hf
  obtain ⟨rfl, rfl⟩ : g' = g ∧ o' = o := by rw [eg] at eg'; cases eg'; exact ⟨rfl, rfl⟩
  have HE := Lib.hid (Ev.nth_some he); have HF := Lib.hid (Ev.nth_some hf)
  have HQ := Lib.hid hq; have HCE := Lib.hid hce; have HCF := Lib.hid hcf
  have hai : (a : Int) < (x.ev.length : Int) := by omega
  have hbi : (b : Int) < (x.ev.length : Int) := by omega
  have CX := Lib.hid (show ∀ W, Below w.heap.size w W → W.cell? ⟨q, 0, none⟩ = some (.slice (some ⟨g', o', none⟩) x.ev.length x.ce) from fun W h => by
    rw [← eg]; exact (hq.kp h).c0)
  clear hq he hf eg eg' hce hcf
  obtain ⟨p, hp⟩ : ∃ p, Or.acc e = p := ⟨_, rfl⟩
  obtain ⟨s, hs⟩ : ∃ p, Or.acc f = p := ⟨_, rfl⟩
  have HP := Lib.hid hp; have HS := Lib.hid hs
  have HRES := Lib.hid (show Or.kept x a b = (decide ((a : Int) < (b : Int)) && e.h == f.h && p && s) by unfold Or.kept; rw [HE.out, HF.out, hp, hs]; congr 3; simp only [decide_eq_decide]; omega)
  clear hp hs
  go_enter Tryz.func106, Tryz.ntmps106
  go_wp2_with fail
  have cx := CX.out w (Below.refl _ _)
  have LA := Lib.hid (fun (z : World) (hz : Og.Std w z) => Ev.ld (w := z) (g := g') (o := o' + a * 13) (x := e) (fun i c hi => Og.std_cell hz (Ev.kp_below (Below.refl _ _) _ _ (HCE.out i c hi))))
  have LF := Lib.hid (fun (z : World) (hz : Og.Std w z) => Ev.ld (w := z) (g := g') (o := o' + b * 13) (x := f) (fun i c hi => Og.std_cell hz (Ev.kp_below (Below.refl _ _) _ _ (HCF.out i c hi))))
  refine wp_region_held (S := Og.Std w) (by kernel_rfl) ?_
  have S0 : Og.Std w { w with drawn := w.drawn + 1 } := ⟨rfl, rfl, rfl, Nat.le_refl _, fun _ _ => rfl⟩
  refine Og.held_take 0 _ (.pointer (some ⟨q, 0, none⟩)) _ rfl rfl (by kernel_rfl) (by kernel_rfl) (by kernel_rfl) (fun _ _ _ h => h) S0 (fun z hz => ?_) (by simp only [Act.put, List.setIfInBounds_toArray, List.set_cons_zero, List.set_cons_succ]; rfl) ?_
  · go_simp; try (with_reducible rfl)
  refine Og.held_take 1 _ (.pointer (some ⟨q, 0, none⟩)) _ rfl rfl (by kernel_rfl) (by kernel_rfl) (by kernel_rfl) (fun _ _ _ h => h) S0 (fun z hz => ?_) (by simp only [Act.put, List.setIfInBounds_toArray, List.set_cons_zero, List.set_cons_succ]; rfl) ?_
  · go_simp; try (with_reducible rfl)
  refine Og.held_take 2 _ (.pointer (some ⟨q, 0, none⟩)) _ rfl rfl (by kernel_rfl) (by kernel_rfl) (by kernel_rfl) (fun _ _ _ h => h) S0 (fun z hz => ?_) (by simp only [Act.put, List.setIfInBounds_toArray, List.set_cons_zero, List.set_cons_succ]; rfl) ?_
  · go_simp; try (with_reducible rfl)
  refine Og.held_take 3 _ (.pointer (some ⟨q, 0, none⟩)) _ rfl rfl (by kernel_rfl) (by kernel_rfl) (by kernel_rfl) (fun _ _ _ h => h) S0 (fun z hz => ?_) (by simp only [Act.put, List.setIfInBounds_toArray, List.set_cons_zero, List.set_cons_succ]; rfl) ?_
  · go_simp; try (with_reducible rfl)
  refine Og.held_take 4 _ (.slice (some ⟨g', o', none⟩) x.ev.length x.ce) _ rfl rfl (by kernel_rfl) (by kernel_rfl) (by kernel_rfl) (fun _ _ _ h => h) S0 (fun z hz => ?_) (by simp only [Act.put, List.setIfInBounds_toArray, List.set_cons_zero, List.set_cons_succ]; rfl) ?_
  · exact Og.load_run 22 (.tmp 12) rfl ⟨q, 0, none⟩ (by kernel_rfl) (run_load_slice Tryz.underlying22 (Og.std_cell hz cx))
  refine Og.held_take 5 _ (.int .i64 (a : Int)) _ rfl rfl (by kernel_rfl) (by kernel_rfl) (by kernel_rfl) (fun _ _ _ h => h) S0 (fun z hz => ?_) (by simp only [Act.put, List.setIfInBounds_toArray, List.set_cons_zero, List.set_cons_succ]; rfl) ?_
  · go_simp; try (with_reducible rfl)
  refine Og.held_take 6 _ (.pointer (some ⟨g', o' + a * 13, none⟩)) _ rfl rfl (by kernel_rfl) (by kernel_rfl) (by kernel_rfl) (fun _ _ _ h => h) S0 (fun z hz => ?_) (by simp only [Act.put, List.setIfInBounds_toArray, List.set_cons_zero, List.set_cons_succ]; rfl) ?_
  · go_simp; try (with_reducible rfl)
  refine Og.held_take 7 _ (.agg (Ev.cells e).toArray) _ rfl rfl (by kernel_rfl) (by kernel_rfl) (by kernel_rfl) (fun _ _ _ h => h) S0 (fun z hz => ?_) (by simp only [Act.put, List.setIfInBounds_toArray, List.set_cons_zero, List.set_cons_succ]; rfl) ?_
  · exact Og.load_run 48 (.tmp 15) rfl ⟨g', o' + a * 13, none⟩ (by kernel_rfl) (LA.out z hz)
  refine Og.held_take 8 _ (.pointer (some ⟨q, 0, none⟩)) _ rfl rfl (by kernel_rfl) (by kernel_rfl) (by kernel_rfl) (fun _ _ _ h => h) S0 (fun z hz => ?_) (by simp only [Act.put, List.setIfInBounds_toArray, List.set_cons_zero, List.set_cons_succ]; rfl) ?_
  · go_simp; try (with_reducible rfl)
  refine Og.held_take 9 _ (.pointer (some ⟨q, 0, none⟩)) _ rfl rfl (by kernel_rfl) (by kernel_rfl) (by kernel_rfl) (fun _ _ _ h => h) S0 (fun z hz => ?_) (by simp only [Act.put, List.setIfInBounds_toArray, List.set_cons_zero, List.set_cons_succ]; rfl) ?_
  · go_simp; try (with_reducible rfl)
  refine Og.held_take 10 _ (.pointer (some ⟨q, 0, none⟩)) _ rfl rfl (by kernel_rfl) (by kernel_rfl) (by kernel_rfl) (fun _ _ _ h => h) S0 (fun z hz => ?_) (by simp only [Act.put, List.setIfInBounds_toArray, List.set_cons_zero, List.set_cons_succ]; rfl) ?_
  · go_simp; try (with_reducible rfl)
  refine Og.held_take 11 _ (.pointer (some ⟨q, 0, none⟩)) _ rfl rfl (by kernel_rfl) (by kernel_rfl) (by kernel_rfl) (fun _ _ _ h => h) S0 (fun z hz => ?_) (by simp only [Act.put, List.setIfInBounds_toArray, List.set_cons_zero, List.set_cons_succ]; rfl) ?_
  · go_simp; try (with_reducible rfl)
  refine Og.held_take 12 _ (.slice (some ⟨g', o', none⟩) x.ev.length x.ce) _ rfl rfl (by kernel_rfl) (by kernel_rfl) (by kernel_rfl) (fun _ _ _ h => h) S0 (fun z hz => ?_) (by simp only [Act.put, List.setIfInBounds_toArray, List.set_cons_zero, List.set_cons_succ]; rfl) ?_
  · exact Og.load_run 22 (.tmp 20) rfl ⟨q, 0, none⟩ (by kernel_rfl) (run_load_slice Tryz.underlying22 (Og.std_cell hz cx))
  refine Og.held_take 13 _ (.int .i64 (b : Int)) _ rfl rfl (by kernel_rfl) (by kernel_rfl) (by kernel_rfl) (fun _ _ _ h => h) S0 (fun z hz => ?_) (by simp only [Act.put, List.setIfInBounds_toArray, List.set_cons_zero, List.set_cons_succ]; rfl) ?_
  · go_simp; try (with_reducible rfl)
  refine Og.held_take 14 _ (.pointer (some ⟨g', o' + b * 13, none⟩)) _ rfl rfl (by kernel_rfl) (by kernel_rfl) (by kernel_rfl) (fun _ _ _ h => h) S0 (fun z hz => ?_) (by simp only [Act.put, List.setIfInBounds_toArray, List.set_cons_zero, List.set_cons_succ]; rfl) ?_
  · go_simp; try (with_reducible rfl)
  refine Og.held_take 15 _ (.agg (Ev.cells f).toArray) _ rfl rfl (by kernel_rfl) (by kernel_rfl) (by kernel_rfl) (fun _ _ _ h => h) S0 (fun z hz => ?_) (by simp only [Act.put, List.setIfInBounds_toArray, List.set_cons_zero, List.set_cons_succ]; rfl) ?_
  · exact Og.load_run 48 (.tmp 23) rfl ⟨g', o' + b * 13, none⟩ (by kernel_rfl) (LF.out z hz)
  refine Og.four (p := 16) (q := 17) (s1 := 18) (s2 := 19) (dp := 7) (dq := 8) (x1 := 16) (x2 := 24) (T := 48) (Z := (Ev.cells Ev.R0).toArray) (c1 := (Ev.cells e).toArray) (c2 := (Ev.cells f).toArray)
    ⟨⟨_, rfl, rfl, rfl, fun ρ w => by kernel_rfl⟩, ⟨_, rfl, rfl, rfl, fun ρ w => by kernel_rfl⟩, ⟨_, rfl, rfl, rfl, rfl⟩, ⟨_, rfl, rfl, rfl, rfl⟩, (by kernel_rfl), (by kernel_rfl), (by kernel_rfl), (by kernel_rfl), (by kernel_rfl), (by kernel_rfl), (by kernel_rfl), (by kernel_rfl), (by kernel_rfl), (by kernel_rfl), (by kernel_rfl), of_decide_eq_true (by kernel_rfl), of_decide_eq_true (by kernel_rfl), (by decide), rfl, rfl, (by kernel_rfl), (by kernel_rfl), (by kernel_rfl), (by kernel_rfl)⟩ S0 ?_
  intro W g1 g2 HT
  simp only [Act.put, List.setIfInBounds_toArray, List.set_cons_zero, List.set_cons_succ]
  have R1 := Lib.hid HT.r1; have R2 := Lib.hid HT.r2; have BW := Lib.hid (HT.below)
  clear HT S0 cx
  have c1 : W.cell? ⟨g1, 0, none⟩ = some (.int .i64 e.h) := by rw [cell_of_row _ _ _ _ _ _ R1.out]; rfl
  have c2 : W.cell? ⟨g2, 0, none⟩ = some (.int .i64 f.h) := by rw [cell_of_row _ _ _ _ _ _ R2.out]; rfl
  by_cases h1 : (a : Int) < (b : Int)
  case neg =>
    have t1 : decide ((a : Int) < (b : Int)) = false := decide_eq_false h1
    have t1' : decide (a < b) = false := decide_eq_false (by omega)
    have HRES := Lib.hid (show Or.kept x a b = false by rw [HRES.out, t1]; rfl)
    clear h1
    go_wp2_with fail
    go_ret
    exact ⟨by rw [HRES.out]; try rfl, BW.out⟩
  have t1 : decide ((a : Int) < (b : Int)) = true := decide_eq_true h1
  have t1' : decide (a < b) = true := decide_eq_true (by omega)
  by_cases h2 : e.h = f.h
  case neg =>
    have t2 : (e.h == f.h) = false := by simpa using h2
    have HRES := Lib.hid (show Or.kept x a b = false by rw [HRES.out, t1, t2]; rfl)
    clear h1 h2
    go_wp2_with fail
    go_ret
    exact ⟨by rw [HRES.out]; try rfl, BW.out⟩
  have t2 : (e.h == f.h) = true := by simpa using h2
  have HRES := Lib.hid (show Or.kept x a b = (p && s) by rw [HRES.out, t1, t2]; rfl)
  clear h1 h2
  go_wp2_with ((with_reducible show wpList _ _ _ (Oper.mk (some 36) _ _ _ _ _ :: _) _ _); refine Ev.load_row_g 48 (.tmp 7) rfl rfl g1 (by kernel_rfl) 48 (Ev.cells e).toArray (0, 0) _ R1.out Tryz.underlying48 rfl (by kernel_rfl) ?_)
  refine (access_is HP.out _).mono ?_
  rintro r W2 ⟨rfl, hb2⟩
  have R22 := Lib.hid ((hb2.block g2 (Array.getElem?_eq_some_iff.1 R2.out).1).trans R2.out)
  have B2 := Lib.hid (BW.out.trans (hb2.mono BW.out.size)); clear hb2 c1 c2
  cases p
  case false =>
    go_wp2_with fail
    go_ret
    exact ⟨by rw [HRES.out]; try rfl, B2.out⟩
  go_wp2_with ((with_reducible show wpList _ _ _ (Oper.mk (some 40) _ _ _ _ _ :: _) _ _); refine Ev.load_row_g 48 (.tmp 8) rfl rfl g2 (by kernel_rfl) 48 (Ev.cells f).toArray (0, 0) _ R22.out Tryz.underlying48 rfl (by kernel_rfl) ?_)
  refine (access_is HS.out _).mono ?_
  rintro r W3 ⟨rfl, hb3⟩
  have B3 := Lib.hid (B2.out.trans (hb3.mono B2.out.size)); clear hb3
  cases s
  · go_wp2_with fail
    go_ret
    exact ⟨by rw [HRES.out]; try rfl, B3.out⟩
  · go_wp2_with fail
    go_ret
    exact ⟨by rw [HRES.out]; try rfl, B3.out⟩
theorem kept_is {x : Ev.X} {q a b : Nat} {v : Bool} (h : Or.kept x a b = v) (ha : a < x.ev.length) (hb : b < x.ev.length) (w : World) (hq : Or.As w q x) :
    Calls Tryz.prog 106 #[.pointer (some ⟨q, 0, none⟩), .int .i64 (a : Int), .int .i64 (b : Int)] w fun r w' => r = .returned (.bool v) ∧ Below w.heap.size w w' := h ▸ kept_any x q a b ha hb w hq
set_option maxRecDepth 100000 in
set_option maxHeartbeats 4000000 in
theorem oneW_any (x : Ev.X) (q a b : Nat) (ha : a < x.ev.length) (hb : b < x.ev.length) (w : World) (hq : Or.As w q x) :
    Calls Tryz.prog 150 #[.pointer (some ⟨q, 0, none⟩), .int .i64 (a : Int), .int .i64 (b : Int)] w fun r w' => r = .returned (.bool (Or.oneW x a b)) ∧ Below w.heap.size w w' := by
  have hl1 := hq.xin.ev.le; have hl2 := hq.xin.ev.max
  obtain ⟨e, he⟩ : ∃ e, x.ev[a]? = some e := ⟨_, List.getElem?_eq_getElem ha⟩
  obtain ⟨f, hf⟩ : ∃ f, x.ev[b]? = some f := ⟨_, List.getElem?_eq_getElem hb⟩
  obtain ⟨g, o, eg, hce⟩ := hq.xin.ev.at_ he
  obtain ⟨g', o', eg', hcf⟩ := hq.xin.ev.at_ hf
  obtain ⟨rfl, rfl⟩ : g' = g ∧ o' = o := by rw [eg] at eg'; cases eg'; exact ⟨rfl, rfl⟩
  have HE := Lib.hid (Ev.nth_some he); have HF := Lib.hid (Ev.nth_some hf)
  have HQ := Lib.hid hq; have HCE := Lib.hid hce; have HCF := Lib.hid hcf
  have hai : (a : Int) < (x.ev.length : Int) := by omega
  have hbi : (b : Int) < (x.ev.length : Int) := by omega
  have CX := Lib.hid (show ∀ W, Below w.heap.size w W → W.cell? ⟨q, 0, none⟩ = some (.slice (some ⟨g', o', none⟩) x.ev.length x.ce) from fun W h => by
    rw [← eg]; exact (hq.kp h).c0)
  clear hq he hf eg eg' hce hcf
  have HRES := Lib.hid (show Or.oneW x a b = (e.a == f.a) by unfold Or.oneW; rw [HE.out, HF.out])
  have cx : ∀ z : Og.On w.heap.size w, z.x.cell? ⟨q, 0, none⟩ = some (.slice (some ⟨g', o', none⟩) x.ev.length x.ce) := fun z => CX.out z.x z.b
  have ce : ∀ z : Og.On w.heap.size w, z.x.cell? ⟨g', o' + a * 13 + 2, none⟩ = some (.int .u32 e.a) := fun z => Og.cellB z (HCE.out 2 _ rfl)
  have cf : ∀ z : Og.On w.heap.size w, z.x.cell? ⟨g', o' + b * 13 + 2, none⟩ = some (.int .u32 f.a) := fun z => Og.cellB z (HCF.out 2 _ rfl)
  by_cases h2 : e.a = f.a
  case neg =>
    have t2 : (e.a == f.a) = false := by simpa using h2
    have HRES := Lib.hid (show Or.oneW x a b = false by rw [HRES.out, t2])
    clear h2
    go_enter Tryz.func150, Tryz.ntmps150
    go_wp2_with fail
    refine Og.regionB (by kernel_rfl) (by kernel_rfl) ?_
    repeat (first
      | go_big_quiet_skip
      | (go_big_quiet_want
         first
          | (go_big_quiet_op
             first
              | go_big_quiet_on)))
    refine wpQuiet_nil ?_
    intro _ hw'
    obtain ⟨q9, hw''⟩ := hw'
    subst hw''
    go_wp2_with fail
    go_ret
    exact ⟨by rw [HRES.out]; try rfl, q9.b⟩
  have t2 : (e.a == f.a) = true := by simpa using h2
  have HRES := Lib.hid (show Or.oneW x a b = true by rw [HRES.out, t2])
  clear h2
  go_enter Tryz.func150, Tryz.ntmps150
  go_wp2_with fail
  refine Og.regionB (by kernel_rfl) (by kernel_rfl) ?_
  repeat (first
    | go_big_quiet_skip
    | (go_big_quiet_want
       first
        | (go_big_quiet_op
           first
            | go_big_quiet_on)))
  refine wpQuiet_nil ?_
  intro _ hw'
  obtain ⟨q9, hw''⟩ := hw'
  subst hw''
  go_wp2_with fail
  go_ret
  exact ⟨by rw [HRES.out]; try rfl, q9.b⟩
theorem oneW_is {x : Ev.X} {q a b : Nat} {v : Bool} (h : Or.oneW x a b = v) (ha : a < x.ev.length) (hb : b < x.ev.length) (w : World) (hq : Or.As w q x) :
    Calls Tryz.prog 150 #[.pointer (some ⟨q, 0, none⟩), .int .i64 (a : Int), .int .i64 (b : Int)] w fun r w' => r = .returned (.bool v) ∧ Below w.heap.size w w' := h ▸ oneW_any x q a b ha hb w hq
end Go.Proofs.YtecnnkidalkmfaaGreat
end

section
namespace Go.Proofs.YtecnnkidalkmfaaGreat
open Go.RowKit
theorem or_store_func (P : Program) (w : World) (a : Addr) (m : Mode) (f : Fn) (b c : Array Value) : (store a (.func f b c) m).run P w = stored P w a (.func f b c) m := run_store P w a _ m rfl
attribute [local go_sem] or_store_func
set_option maxRecDepth 100000 in
set_option maxHeartbeats 2000000 in
theorem rules_any (w : World) : Calls Tryz.prog 107 #[] w fun r w' => r = .returned Or.rulesV ∧ Below w.heap.size w w' := by
  go_enter Tryz.func107, Tryz.ntmps107
  go_wp2_with (first
    | ((with_reducible show wpList _ _ _ (Oper.mk none (Op.store 135 _ _) _ _ _ _ :: _) _ _); refine wpList_store_own rfl 135 (.tmp 0) (.tmp 1) rfl w.heap.size Or.rulesA rfl rfl 135 _ (heap_alloc_new _ _) (by kernel_rfl) (by kernel_rfl) (by kernel_rfl) ?_
       intro W1 HW1
       have B1 := Lib.hid (((Below.refl w.heap.size w).alloc (Nat.le_refl _) _).trans HW1.below)
       have R1 := Lib.hid HW1.row
       clear HW1))
  refine bodyPost_ret (results_cell_row (fn := Tryz.f107) rfl _ _ w.heap.size 135 Or.rulesA (0, 0) _ rfl R1.out Tryz.underlying135 rfl (by kernel_rfl)) rfl ⟨rfl, B1.out⟩
def Or.Box (w : World) (p : Nat) (t : TypeId) (v : Value) : Prop := w.heap[p]? = some (.cells #[v] t (0, 0))
theorem Or.Box.kp {w w' : World} {p : Nat} {t : TypeId} {v : Value} (h : Or.Box w p t v) (hb : Below w.heap.size w w') : Or.Box w' p t v := (hb.block p (Array.getElem?_eq_some_iff.1 h).1).trans h
theorem Or.Box.cell {w : World} {p : Nat} {t : TypeId} {v : Value} (h : Or.Box w p t v) : w.cell? ⟨p, 0, none⟩ = some v := by rw [cell_of_row _ _ _ _ _ _ h]; rfl
theorem Or.box_new (w : World) (t : TypeId) (v : Value) : Or.Box (w.alloc (.cells #[v] t (0, 0))) w.heap.size t v := heap_alloc_new _ _
theorem between_any (q : Nat) (a b : Int) (w : World) :
    Calls Tryz.prog 166 #[.pointer (some ⟨q, 0, none⟩), .int .i64 a, .int .i64 b] w fun r w' => r = .returned (.func (.func 169) #[] #[.pointer (some ⟨w.heap.size, 0, none⟩), .pointer (some ⟨w.heap.size + 1, 0, none⟩)]) ∧
      w' = (w.alloc (.cells #[.int .i64 a] 3)).alloc (.cells #[.int .i64 b] 3) := by
  go_enter Tryz.func166, Tryz.ntmps166
  go_wp2
  go_ret
  exact ⟨rfl, rfl⟩
theorem holding_any (q : Nat) (a b : Int) (w : World) :
    Calls Tryz.prog 82 #[.pointer (some ⟨q, 0, none⟩), .int .i64 a, .int .i64 b] w fun r w' => r = .returned (.func (.func 105) #[] #[.pointer (some ⟨w.heap.size, 0, none⟩), .pointer (some ⟨w.heap.size + 1, 0, none⟩), .pointer (some ⟨w.heap.size + 1 + 1, 0, none⟩)]) ∧
      w' = ((w.alloc (.cells #[.pointer (some ⟨q, 0, none⟩)] 112)).alloc (.cells #[.int .i64 a] 3)).alloc (.cells #[.int .i64 b] 3) := by
  go_enter Tryz.func82, Tryz.ntmps82
  go_wp2
  go_ret
  exact ⟨rfl, rfl⟩
end Go.Proofs.YtecnnkidalkmfaaGreat
end

section
namespace Go.Proofs.YtecnnkidalkmfaaGreat
open Go.RowKit
namespace Or
def ms (a b : Nat) : List Nat := (List.range (b - (a + 1))).map fun i => a + 1 + i
theorem ms_len (a b : Nat) : (ms a b).length = b - (a + 1) := by simp [ms]
theorem ms_get {a b k : Nat} (h : a + 1 + k < b) : (ms a b)[k]? = some (a + 1 + k) := by
  unfold ms; rw [List.getElem?_map, List.getElem?_range (by omega)]; rfl
theorem ms_at {a b k m : Nat} (h : (ms a b)[k]? = some m) : m = a + 1 + k ∧ a + 1 + k < b := by
  have hl := (List.getElem?_eq_some_iff.1 h).1
  rw [ms_len] at hl
  rw [ms_get (by omega)] at h
  exact ⟨(Option.some.inj h).symm, by omega⟩
theorem ms_mem {a b m : Nat} : m ∈ ms a b ↔ a < m ∧ m < b := by
  unfold ms
  constructor
  · intro h
    obtain ⟨i, hi, rfl⟩ := List.mem_map.1 h
    have := List.mem_range.1 hi
    omega
  · intro h
    exact List.mem_map.2 ⟨m - (a + 1), List.mem_range.2 (by omega), by omega⟩
end Or
set_option maxRecDepth 100000 in
set_option maxHeartbeats 4000000 in
theorem between_iter (m : Nat) (hm : 1 ≤ m) (ca cb a b : Nat) (ha : a < 9223372036854775807) (hb : b ≤ 9223372036854775807) :
    Og.IterL Fence.wide m Tryz.prog 169 #[.pointer (some ⟨ca, 0, none⟩), .pointer (some ⟨cb, 0, none⟩)] (fun W => Or.Box W ca 3 (.int .i64 (a : Int)) ∧ Or.Box W cb 3 (.int .i64 (b : Int))) (fun k : Nat => #[.int .i64 (k : Int)]) (Or.ms a b) := by
  intro l J Jx W hst hR hY h0
  have HST := Lib.hid hst; have HR := Lib.hid hR; have HY := Lib.hid hY; have H0 := Lib.hid h0
  have c1 := (hR _ _ h0).1.cell
  clear hst hR hY h0
  refine callsIn_of_wp Tryz.func169 rfl trivial ?_ rfl
  simp only [Tryz.ntmps169, List.size_toArray, List.length_cons, List.length_nil, Nat.reduceAdd, Nat.reduceSub, Array.replicate_succ, Array.replicate_zero, List.push_toArray, List.append_toArray, List.nil_append, List.cons_append]
  gi_wp2_with fail
  clear c1
  gi_loopw [4] (fun i wr => ∃ k : Nat, k ≤ (Or.ms a b).length ∧ i = .int .i64 ((a : Int) + 1 + (k : Int)) ∧ J k wr) (fun i _ => b - (intOf i).toNat)
  case atStart => exact ⟨0, Nat.zero_le _, by go_num, H0.out⟩
  case round =>
    obtain ⟨k, hk, rfl, hj⟩ := hrel
    have HJ := Lib.hid hj
    have c2 := (HR.out _ _ hj).2.cell
    have HLEN := Lib.hid (Or.ms_len a b)
    rw [HLEN.out] at hk
    clear hj
    by_cases hlt : a + 1 + k < b
    · have hi : (a : Int) + 1 + (k : Int) < (b : Int) := by omega
      have HG := Lib.hid (Or.ms_get hlt)
      obtain ⟨fn, tmps, assign, body, hy, hRd⟩ := HY.out k _ wr HG.out HJ.out
      rw [show ((a + 1 + k : Nat) : Int) = (a : Int) + 1 + (k : Int) by omega] at hy
      gi_wp2_with fail
      refine hRd.mono ?_
      rintro e W3 (⟨rfl, hJ3⟩ | ⟨rfl, hJx3⟩)
      · have HJ3 := Lib.hid hJ3; clear hJ3 hy hRd
        gi_wp2_with fail
        go_roundw
        case rel => exact ⟨k + 1, by rw [HLEN.out]; omega, by go_num, HJ3.out⟩
        case measure => simp [intOf]; omega
      · have HJ3 := Lib.hid hJx3; clear hJx3 hy hRd
        gi_wp2_with fail
        refine bodyPost_ret (results_none rfl _ _ _) rfl ?_
        exact ⟨⟨_, rfl⟩, .inr HJ3.out⟩
    · have hi : ¬ (a : Int) + 1 + (k : Int) < (b : Int) := by omega
      have HK := Lib.hid (show k = (Or.ms a b).length by rw [HLEN.out]; omega)
      gi_wp2_with fail
      refine bodyPost_end (results_none rfl _ _ _) rfl ?_
      exact ⟨⟨_, rfl⟩, .inl (by rw [← HK.out]; exact HJ.out)⟩
end Go.Proofs.YtecnnkidalkmfaaGreat
end
