import Derived.Test.YtecnnkidalkmfaaGreatKb08
import Derived.Test.YtecnnkidalkmfaaGreatKb04
import Derived.Test.YtecnnkidalkmfaaGreatKb01
set_option linter.unusedVariables false
set_option linter.unusedSimpArgs false

section
namespace Go.Proofs.YtecnnkidalkmfaaGreat
open Go.RowKit
namespace Or
open Ev
structure As (w : World) (q : Nat) (x : X) : Prop where
  row : w.heap[q]? = some (.cells (xcells x).toArray 115 (0, 0))
  xin : XIn w x
theorem As.kp {w w' : World} {q : Nat} {x : X} (h : As w q x) (hb : Below w.heap.size w w') : As w' q x :=
  ⟨(hb.block q (Array.getElem?_eq_some_iff.1 h.row).1).trans h.row, h.xin.kp (kp_below hb)⟩
theorem As.c0 {w : World} {q : Nat} {x : X} (h : As w q x) : w.cell? ⟨q, 0, none⟩ = some (.slice x.ae x.ev.length x.ce) := by rw [cell_of_row _ _ _ _ _ _ h.row]; rfl
theorem As.c1 {w : World} {q : Nat} {x : X} (h : As w q x) : w.cell? ⟨q, 1, none⟩ = some (.slice x.fr.a x.fr.l.length x.fr.c) := by rw [cell_of_row _ _ _ _ _ _ h.row]; rfl
theorem As.alloc {w : World} {q : Nat} {x : X} (h : As w q x) (o : Obj) : As (w.alloc o) q x := h.kp ((Below.refl _ _).alloc (Nat.le_refl _) _)
def kept (x : X) (a b : Nat) : Bool := decide (a < b) && (nth x.ev a).h == (nth x.ev b).h && acc (nth x.ev a) && acc (nth x.ev b)
def oneW (x : X) (a b : Nat) : Bool := (nth x.ev a).a == (nth x.ev b).a
def kV (F : Nat) : Value := .func (.func F) #[] #[]
def rulesA : Array Value := #[.nilFunc, kV 124, kV 125, kV 126, kV 127, kV 128, kV 129, kV 130, kV 131, kV 132, kV 133, kV 134, kV 135, kV 136]
def rulesV : Value := .agg rulesA
end Or
set_option maxRecDepth 100000 in
set_option maxHeartbeats 4000000 in
theorem kept_any (x : Ev.X) (q a b : Nat) (ha : a < x.ev.length) (hb : b < x.ev.length) (w : World) (hq : Or.As w q x) :
    Calls Tryz.prog 106 #[.pointer (some ⟨q, 0, none⟩), .int .i64 (a : Int), .int .i64 (b : Int)] w fun r w' => r = .returned (.bool (Or.kept x a b)) ∧ Below w.heap.size w w' := by
  have hl1 := hq.xin.ev.le; have hl2 := hq.xin.ev.max
  obtain ⟨e, he⟩ : ∃ e, x.ev[a]? = some e := ⟨_, List.getElem?_eq_getElem ha⟩
  obtain ⟨f, hf⟩ : ∃ f, x.ev[b]? = some f := ⟨_, List.getElem?_eq_getElem hb⟩
  obtain ⟨g, o, eg, hce⟩ := hq.xin.ev.at_ he
  obtain ⟨g', o', eg', hcf⟩ := hq.xin.ev.at_ hf
  obtain ⟨rfl, rfl⟩ : g' = g ∧ o' = o := by rw [eg] at eg'; cases eg'; exact ⟨rfl, rfl⟩
  have HE := Lib.hid (Ev.nth_some he); have HF := Lib.hid (Ev.nth_some hf)
  have HQ := Lib.hid hq; have HCE := Lib.hid hce; have HCF := Lib.hid hcf
  have hai : (a : Int) < (x.ev.length : Int) := by omega
  have hbi : (b : Int) < (x.ev.length : Int) := by omega
  have CX := Lib.hid (show ∀ W, Below w.heap.size w W → W.cell? ⟨q, 0, none⟩ = some (.slice (some ⟨g', o', none⟩) x.ev.length x.ce) from fun W h => by
    rw [← eg]; exact (hq.kp h).c0)
  clear hq he hf eg eg' hce hcf
  obtain ⟨p, hp⟩ : ∃ p, Or.acc e = p := ⟨_, rfl⟩
  obtain ⟨s, hs⟩ : ∃ p, Or.acc f = p := ⟨_, rfl⟩
  have HP := Lib.hid hp; have HS := Lib.hid hs
  have HRES := Lib.hid (show Or.kept x a b = (decide ((a : Int) < (b : Int)) && e.h == f.h && p && s) by unfold Or.kept; rw [HE.out, HF.out, hp, hs]; congr 3; simp only [decide_eq_decide]; omega)
  clear hp hs
  go_enter Tryz.func106, Tryz.ntmps106
  go_wp2_with fail
  have cx := CX.out w (Below.refl _ _)
  have LA := Lib.hid (fun (z : World) (hz : Og.Std w z) => Ev.ld (w := z) (g := g') (o := o' + a * 13) (x := e) (fun i c hi => Og.std_cell hz (Ev.kp_below (Below.refl _ _) _ _ (HCE.out i c hi))))
  have LF := Lib.hid (fun (z : World) (hz : Og.Std w z) => Ev.ld (w := z) (g := g') (o := o' + b * 13) (x := f) (fun i c hi => Og.std_cell hz (Ev.kp_below (Below.refl _ _) _ _ (HCF.out i c hi))))
  refine wp_region_held (S := Og.Std w) (by kernel_rfl) ?_
  have S0 : Og.Std w { w with drawn := w.drawn + 1 } := ⟨rfl, rfl, rfl, Nat.le_refl _, fun _ _ => rfl⟩
  refine Og.held_take 0 _ (.pointer (some ⟨q, 0, none⟩)) _ rfl rfl (by kernel_rfl) (by kernel_rfl) (by kernel_rfl) (fun _ _ _ h => h) S0 (fun z hz => ?_) (by simp only [Act.put, List.setIfInBounds_toArray, List.set_cons_zero, List.set_cons_succ]; rfl) ?_
  · go_simp; try (with_reducible rfl)
  refine Og.held_take 1 _ (.pointer (some ⟨q, 0, none⟩)) _ rfl rfl (by kernel_rfl) (by kernel_rfl) (by kernel_rfl) (fun _ _ _ h => h) S0 (fun z hz => ?_) (by simp only [Act.put, List.setIfInBounds_toArray, List.set_cons_zero, List.set_cons_succ]; rfl) ?_
  · go_simp; try (with_reducible rfl)
  refine Og.held_take 2 _ (.pointer (some ⟨q, 0, none⟩)) _ rfl rfl (by kernel_rfl) (by kernel_rfl) (by kernel_rfl) (fun _ _ _ h => h) S0 (fun z hz => ?_) (by simp only [Act.put, List.setIfInBounds_toArray, List.set_cons_zero, List.set_cons_succ]; rfl) ?_
  · go_simp; try (with_reducible rfl)
  refine Og.held_take 3 _ (.pointer (some ⟨q, 0, none⟩)) _ rfl rfl (by kernel_rfl) (by kernel_rfl) (by kernel_rfl) (fun _ _ _ h => h) S0 (fun z hz => ?_) (by simp only [Act.put, List.setIfInBounds_toArray, List.set_cons_zero, List.set_cons_succ]; rfl) ?_
  · go_simp; try (with_reducible rfl)
  refine Og.held_take 4 _ (.slice (some ⟨g', o', none⟩) x.ev.length x.ce) _ rfl rfl (by kernel_rfl) (by kernel_rfl) (by kernel_rfl) (fun _ _ _ h => h) S0 (fun z hz => ?_) (by simp only [Act.put, List.setIfInBounds_toArray, List.set_cons_zero, List.set_cons_succ]; rfl) ?_
  · exact Og.load_run 22 (.tmp 12) rfl ⟨q, 0, none⟩ (by kernel_rfl) (run_load_slice Tryz.underlying22 (Og.std_cell hz cx))
  refine Og.held_take 5 _ (.int .i64 (a : Int)) _ rfl rfl (by kernel_rfl) (by kernel_rfl) (by kernel_rfl) (fun _ _ _ h => h) S0 (fun z hz => ?_) (by simp only [Act.put, List.setIfInBounds_toArray, List.set_cons_zero, List.set_cons_succ]; rfl) ?_
  · go_simp; try (with_reducible rfl)
  refine Og.held_take 6 _ (.pointer (some ⟨g', o' + a * 13, none⟩)) _ rfl rfl (by kernel_rfl) (by kernel_rfl) (by kernel_rfl) (fun _ _ _ h => h) S0 (fun z hz => ?_) (by simp only [Act.put, List.setIfInBounds_toArray, List.set_cons_zero, List.set_cons_succ]; rfl) ?_
  · go_simp; try (with_reducible rfl)
  refine Og.held_take 7 _ (.agg (Ev.cells e).toArray) _ rfl rfl (by kernel_rfl) (by kernel_rfl) (by kernel_rfl) (fun _ _ _ h => h) S0 (fun z hz => ?_) (by simp only [Act.put, List.setIfInBounds_toArray, List.set_cons_zero, List.set_cons_succ]; rfl) ?_
  · exact Og.load_run 48 (.tmp 15) rfl ⟨g', o' + a * 13, none⟩ (by kernel_rfl) (LA.out z hz)
  refine Og.held_take 8 _ (.pointer (some ⟨q, 0, none⟩)) _ rfl rfl (by kernel_rfl) (by kernel_rfl) (by kernel_rfl) (fun _ _ _ h => h) S0 (fun z hz => ?_) (by simp only [Act.put, List.setIfInBounds_toArray, List.set_cons_zero, List.set_cons_succ]; rfl) ?_
  · go_simp; try (with_reducible rfl)
  refine Og.held_take 9 _ (.pointer (some ⟨q, 0, none⟩)) _ rfl rfl (by kernel_rfl) (by kernel_rfl) (by kernel_rfl) (fun _ _ _ h => h) S0 (fun z hz => ?_) (by simp only [Act.put, List.setIfInBounds_toArray, List.set_cons_zero, List.set_cons_succ]; rfl) ?_
  · go_simp; try (with_reducible rfl)
  refine Og.held_take 10 _ (.pointer (some ⟨q, 0, none⟩)) _ rfl rfl (by kernel_rfl) (by kernel_rfl) (by kernel_rfl) (fun _ _ _ h => h) S0 (fun z hz => ?_) (by simp only [Act.put, List.setIfInBounds_toArray, List.set_cons_zero, List.set_cons_succ]; rfl) ?_
  · go_simp; try (with_reducible rfl)
  refine Og.held_take 11 _ (.pointer (some ⟨q, 0, none⟩)) _ rfl rfl (by kernel_rfl) (by kernel_rfl) (by kernel_rfl) (fun _ _ _ h => h) S0 (fun z hz => ?_) (by simp only [Act.put, List.setIfInBounds_toArray, List.set_cons_zero, List.set_cons_succ]; rfl) ?_
  · go_simp; try (with_reducible rfl)
  refine Og.held_take 12 _ (.slice (some ⟨g', o', none⟩) x.ev.length x.ce) _ rfl rfl (by kernel_rfl) (by kernel_rfl) (by kernel_rfl) (fun _ _ _ h => h) S0 (fun z hz => ?_) (by simp only [Act.put, List.setIfInBounds_toArray, List.set_cons_zero, List.set_cons_succ]; rfl) ?_
  · exact Og.load_run 22 (.tmp 20) rfl ⟨q, 0, none⟩ (by kernel_rfl) (run_load_slice Tryz.underlying22 (Og.std_cell hz cx))
  refine Og.held_take 13 _ (.int .i64 (b : Int)) _ rfl rfl (by kernel_rfl) (by kernel_rfl) (by kernel_rfl) (fun _ _ _ h => h) S0 (fun z hz => ?_) (by simp only [Act.put, List.setIfInBounds_toArray, List.set_cons_zero, List.set_cons_succ]; rfl) ?_
  · go_simp; try (with_reducible rfl)
  refine Og.held_take 14 _ (.pointer (some ⟨g', o' + b * 13, none⟩)) _ rfl rfl (by kernel_rfl) (by kernel_rfl) (by kernel_rfl) (fun _ _ _ h => h) S0 (fun z hz => ?_) (by simp only [Act.put, List.setIfInBounds_toArray, List.set_cons_zero, List.set_cons_succ]; rfl) ?_
  · go_simp; try (with_reducible rfl)
  refine Og.held_take 15 _ (.agg (Ev.cells f).toArray) _ rfl rfl (by kernel_rfl) (by kernel_rfl) (by kernel_rfl) (fun _ _ _ h => h) S0 (fun z hz => ?_) (by simp only [Act.put, List.setIfInBounds_toArray, List.set_cons_zero, List.set_cons_succ]; rfl) ?_
  · exact Og.load_run 48 (.tmp 23) rfl ⟨g', o' + b * 13, none⟩ (by kernel_rfl) (LF.out z hz)
  refine Og.four (p := 16) (q := 17) (s1 := 18) (s2 := 19) (dp := 7) (dq := 8) (x1 := 16) (x2 := 24) (T := 48) (Z := (Ev.cells Ev.R0).toArray) (c1 := (Ev.cells e).toArray) (c2 := (Ev.cells f).toArray)
    ⟨⟨_, rfl, rfl, rfl, fun ρ w => by kernel_rfl⟩, ⟨_, rfl, rfl, rfl, fun ρ w => by kernel_rfl⟩, ⟨_, rfl, rfl, rfl, rfl⟩, ⟨_, rfl, rfl, rfl, rfl⟩, (by kernel_rfl), (by kernel_rfl), (by kernel_rfl), (by kernel_rfl), (by kernel_rfl), (by kernel_rfl), (by kernel_rfl), (by kernel_rfl), (by kernel_rfl), (by kernel_rfl), (by kernel_rfl), of_decide_eq_true (by kernel_rfl), of_decide_eq_true (by kernel_rfl), (by decide), rfl, rfl, (by kernel_rfl), (by kernel_rfl), (by kernel_rfl), (by kernel_rfl)⟩ S0 ?_
  intro W g1 g2 HT
  simp only [Act.put, List.setIfInBounds_toArray, List.set_cons_zero, List.set_cons_succ]
  have R1 := Lib.hid HT.r1; have R2 := Lib.hid HT.r2; have BW := Lib.hid (HT.below)
  clear HT S0 cx
  have c1 : W.cell? ⟨g1, 0, none⟩ = some (.int .i64 e.h) := by rw [cell_of_row _ _ _ _ _ _ R1.out]; rfl
  have c2 : W.cell? ⟨g2, 0, none⟩ = some (.int .i64 f.h) := by rw [cell_of_row _ _ _ _ _ _ R2.out]; rfl
  by_cases h1 : (a : Int) < (b : Int)
  case neg =>
    have t1 : decide ((a : Int) < (b : Int)) = false := decide_eq_false h1
    have t1' : decide (a < b) = false := decide_eq_false (by omega)
    have HRES := Lib.hid (show Or.kept x a b = false by rw [HRES.out, t1]; rfl)
    clear h1
    go_wp2_with fail
    go_ret
    exact ⟨by rw [HRES.out]; try rfl, BW.out⟩
  have t1 : decide ((a : Int) < (b : Int)) = true := decide_eq_true h1
  have t1' : decide (a < b) = true := decide_eq_true (by omega)
  by_cases h2 : e.h = f.h
  case neg =>
    have t2 : (e.h == f.h) = false := by simpa using h2
    have HRES := Lib.hid (show Or.kept x a b = false by rw [HRES.out, t1, t2]; rfl)
    clear h1 h2
    go_wp2_with fail
    go_ret
    exact ⟨by rw [HRES.out]; try rfl, BW.out⟩
  have t2 : (e.h == f.h) = true := by simpa using h2
  have HRES := Lib.hid (show Or.kept x a b = (p && s) by rw [HRES.out, t1, t2]; rfl)
  clear h1 h2
  go_wp2_with ((with_reducible show wpList _ _ _ (Oper.mk (some 36) _ _ _ _ _ :: _) _ _); refine Ev.load_row_g 48 (.tmp 7) rfl rfl g1 (by kernel_rfl) 48 (Ev.cells e).toArray (0, 0) _ R1.out Tryz.underlying48 rfl (by kernel_rfl) ?_)
  refine (access_is HP.out _).mono ?_
  rintro r W2 ⟨rfl, hb2⟩
  have R22 := Lib.hid ((hb2.block g2 (Array.getElem?_eq_some_iff.1 R2.out).1).trans R2.out)
  have B2 := Lib.hid (BW.out.trans (hb2.mono BW.out.size)); clear hb2 c1 c2
  cases p
  case false =>
    go_wp2_with fail
    go_ret
    exact ⟨by rw [HRES.out]; try rfl, B2.out⟩
  go_wp2_with ((with_reducible show wpList _ _ _ (Oper.mk (some 40) _ _ _ _ _ :: _) _ _); refine Ev.load_row_g 48 (.tmp 8) rfl rfl g2 (by kernel_rfl) 48 (Ev.cells f).toArray (0, 0) _ R22.out Tryz.underlying48 rfl (by kernel_rfl) ?_)
  refine (access_is HS.out _).mono ?_
  rintro r W3 ⟨rfl, hb3⟩
  have B3 := Lib.hid (B2.out.trans (hb3.mono B2.out.size)); clear hb3
  cases s
  · go_wp2_with fail
    go_ret
    exact ⟨by rw [HRES.out]; try rfl, B3.out⟩
  · go_wp2_with fail
    go_ret
    exact ⟨by rw [HRES.out]; try rfl, B3.out⟩
theorem kept_is {x : Ev.X} {q a b : Nat} {v : Bool} (h : Or.kept x a b = v) (ha : a < x.ev.length) (hb : b < x.ev.length) (w : World) (hq : Or.As w q x) :
    Calls Tryz.prog 106 #[.pointer (some ⟨q, 0, none⟩), .int .i64 (a : Int), .int .i64 (b : Int)] w fun r w' => r = .returned (.bool v) ∧ Below w.heap.size w w' := h ▸ kept_any x q a b ha hb w hq
set_option maxRecDepth 100000 in
set_option maxHeartbeats 4000000 in
theorem oneW_any (x : Ev.X) (q a b : Nat) (ha : a < x.ev.length) (hb : b < x.ev.length) (w : World) (hq : Or.As w q x) :
    Calls Tryz.prog 150 #[.pointer (some ⟨q, 0, none⟩), .int .i64 (a : Int), .int .i64 (b : Int)] w fun r w' => r = .returned (.bool (Or.oneW x a b)) ∧ Below w.heap.size w w' := by
  have hl1 := hq.xin.ev.le; have hl2 := hq.xin.ev.max
  obtain ⟨e, he⟩ : ∃ e, x.ev[a]? = some e := ⟨_, List.getElem?_eq_getElem ha⟩
  obtain ⟨f, hf⟩ : ∃ f, x.ev[b]? = some f := ⟨_, List.getElem?_eq_getElem hb⟩
  obtain ⟨g, o, eg, hce⟩ := hq.xin.ev.at_ he
  obtain ⟨g', o', eg', hcf⟩ := hq.xin.ev.at_ hf
  obtain ⟨rfl, rfl⟩ : g' = g ∧ o' = o := by rw [eg] at eg'; cases eg'; exact ⟨rfl, rfl⟩
  have HE := Lib.hid (Ev.nth_some he); have HF := Lib.hid (Ev.nth_some hf)
  have HQ := Lib.hid hq; have HCE := Lib.hid hce; have HCF := Lib.hid hcf
  have hai : (a : Int) < (x.ev.length : Int) := by omega
  have hbi : (b : Int) < (x.ev.length : Int) := by omega
  have CX := Lib.hid (show ∀ W, Below w.heap.size w W → W.cell? ⟨q, 0, none⟩ = some (.slice (some ⟨g', o', none⟩) x.ev.length x.ce) from fun W h => by
    rw [← eg]; exact (hq.kp h).c0)
  clear hq he hf eg eg' hce hcf
  have HRES := Lib.hid (show Or.oneW x a b = (e.a == f.a) by unfold Or.oneW; rw [HE.out, HF.out])
  have cx : ∀ z : Og.On w.heap.size w, z.x.cell? ⟨q, 0, none⟩ = some (.slice (some ⟨g', o', none⟩) x.ev.length x.ce) := fun z => CX.out z.x z.b
  have ce : ∀ z : Og.On w.heap.size w, z.x.cell? ⟨g', o' + a * 13 + 2, none⟩ = some (.int .u32 e.a) := fun z => Og.cellB z (HCE.out 2 _ rfl)
  have cf : ∀ z : Og.On w.heap.size w, z.x.cell? ⟨g', o' + b * 13 + 2, none⟩ = some (.int .u32 f.a) := fun z => Og.cellB z (HCF.out 2 _ rfl)
  by_cases h2 : e.a = f.a
  case neg =>
    have t2 : (e.a == f.a) = false := by simpa using h2
    have HRES := Lib.hid (show Or.oneW x a b = false by rw [HRES.out, t2])
    clear h2
    go_enter Tryz.func150, Tryz.ntmps150
    go_wp2_with fail
    refine Og.regionB (by kernel_rfl) (by kernel_rfl) ?_
    repeat (first
      | go_big_quiet_skip
      | (go_big_quiet_want
         first
          | (go_big_quiet_op
             first
              | go_big_quiet_on)))
    refine wpQuiet_nil ?_
    intro _ hw'
    obtain ⟨q9, hw''⟩ := hw'
    subst hw''
    go_wp2_with fail
    go_ret
    exact ⟨by rw [HRES.out]; try rfl, q9.b⟩
  have t2 : (e.a == f.a) = true := by simpa using h2
  have HRES := Lib.hid (show Or.oneW x a b = true by rw [HRES.out, t2])
  clear h2
  go_enter Tryz.func150, Tryz.ntmps150
  go_wp2_with fail
  refine Og.regionB (by kernel_rfl) (by kernel_rfl) ?_
  repeat (first
    | go_big_quiet_skip
    | (go_big_quiet_want
       first
        | (go_big_quiet_op
           first
            | go_big_quiet_on)))
  refine wpQuiet_nil ?_
  intro _ hw'
  obtain ⟨q9, hw''⟩ := hw'
  subst hw''
  go_wp2_with fail
  go_ret
  exact ⟨by rw [HRES.out]; try rfl, q9.b⟩
theorem oneW_is {x : Ev.X} {q a b : Nat} {v : Bool} (h : Or.oneW x a b = v) (ha : a < x.ev.length) (hb : b < x.ev.length) (w : World) (hq : Or.As w q x) :
    Calls Tryz.prog 150 #[.pointer (some ⟨q, 0, none⟩), .int .i64 (a : Int), .int .i64 (b : Int)] w fun r w' => r = .returned (.bool v) ∧ Below w.heap.size w w' := h ▸ oneW_any x q a b ha hb w hq
end Go.Proofs.YtecnnkidalkmfaaGreat
end

section
namespace Go.Proofs.YtecnnkidalkmfaaGreat
open Go.RowKit
theorem or_store_func (P : Program) (w : World) (a : Addr) (m : Mode) (f : Fn) (b c : Array Value) : (store a (.func f b c) m).run P w = stored P w a (.func f b c) m := run_store P w a _ m rfl
attribute [local go_sem] or_store_func
set_option maxRecDepth 100000 in
set_option maxHeartbeats 2000000 in
theorem rules_any (w : World) : Calls Tryz.prog 107 #[] w fun r w' => r = .returned Or.rulesV ∧ Below w.heap.size w w' := by
  go_enter Tryz.func107, Tryz.ntmps107
  go_wp2_with (first
    | ((with_reducible show wpList _ _ _ (Oper.mk none (Op.store 135 _ _) _ _ _ _ :: _) _ _); refine wpList_store_own rfl 135 (.tmp 0) (.tmp 1) rfl w.heap.size Or.rulesA rfl rfl 135 _ (heap_alloc_new _ _) (by kernel_rfl) (by kernel_rfl) (by kernel_rfl) ?_
       intro W1 HW1
       have B1 := Lib.hid (((Below.refl w.heap.size w).alloc (Nat.le_refl _) _).trans HW1.below)
       have R1 := Lib.hid HW1.row
       clear HW1))
  refine bodyPost_ret (results_cell_row (fn := Tryz.f107) rfl _ _ w.heap.size 135 Or.rulesA (0, 0) _ rfl R1.out Tryz.underlying135 rfl (by kernel_rfl)) rfl ⟨rfl, B1.out⟩
def Or.Box (w : World) (p : Nat) (t : TypeId) (v : Value) : Prop := w.heap[p]? = some (.cells #[v] t (0, 0))
theorem Or.Box.kp {w w' : World} {p : Nat} {t : TypeId} {v : Value} (h : Or.Box w p t v) (hb : Below w.heap.size w w') : Or.Box w' p t v := (hb.block p (Array.getElem?_eq_some_iff.1 h).1).trans h
theorem Or.Box.cell {w : World} {p : Nat} {t : TypeId} {v : Value} (h : Or.Box w p t v) : w.cell? ⟨p, 0, none⟩ = some v := by rw [cell_of_row _ _ _ _ _ _ h]; rfl
theorem Or.box_new (w : World) (t : TypeId) (v : Value) : Or.Box (w.alloc (.cells #[v] t (0, 0))) w.heap.size t v := heap_alloc_new _ _
theorem between_any (q : Nat) (a b : Int) (w : World) :
    Calls Tryz.prog 166 #[.pointer (some ⟨q, 0, none⟩), .int .i64 a, .int .i64 b] w fun r w' => r = .returned (.func (.func 169) #[] #[.pointer (some ⟨w.heap.size, 0, none⟩), .pointer (some ⟨w.heap.size + 1, 0, none⟩)]) ∧
      w' = (w.alloc (.cells #[.int .i64 a] 3)).alloc (.cells #[.int .i64 b] 3) := by
  go_enter Tryz.func166, Tryz.ntmps166
  go_wp2
  go_ret
  exact ⟨rfl, rfl⟩
theorem holding_any (q : Nat) (a b : Int) (w : World) :
    Calls Tryz.prog 82 #[.pointer (some ⟨q, 0, none⟩), .int .i64 a, .int .i64 b] w fun r w' => r = .returned (.func (.func 105) #[] #[.pointer (some ⟨w.heap.size, 0, none⟩), .pointer (some ⟨w.heap.size + 1, 0, none⟩), .pointer (some ⟨w.heap.size + 1 + 1, 0, none⟩)]) ∧
      w' = ((w.alloc (.cells #[.pointer (some ⟨q, 0, none⟩)] 112)).alloc (.cells #[.int .i64 a] 3)).alloc (.cells #[.int .i64 b] 3) := by
  go_enter Tryz.func82, Tryz.ntmps82
  go_wp2
  go_ret
  exact ⟨rfl, rfl⟩
end Go.Proofs.YtecnnkidalkmfaaGreat
end

section
namespace Go.Proofs.YtecnnkidalkmfaaGreat
open Go.RowKit
namespace Or
def ms (a b : Nat) : List Nat := (List.range (b - (a + 1))).map fun i => a + 1 + i
theorem ms_len (a b : Nat) : (ms a b).length = b - (a + 1) := by simp [ms]
theorem ms_get {a b k : Nat} (h : a + 1 + k < b) : (ms a b)[k]? = some (a + 1 + k) := by
  unfold ms; rw [List.getElem?_map, List.getElem?_range (by omega)]; rfl
theorem ms_at {a b k m : Nat} (h : (ms a b)[k]? = some m) : m = a + 1 + k ∧ a + 1 + k < b := by
  have hl := (List.getElem?_eq_some_iff.1 h).1
  rw [ms_len] at hl
  rw [ms_get (by omega)] at h
  exact ⟨(Option.some.inj h).symm, by omega⟩
theorem ms_mem {a b m : Nat} : m ∈ ms a b ↔ a < m ∧ m < b := by
  unfold ms
  constructor
  · intro h
    obtain ⟨i, hi, rfl⟩ := List.mem_map.1 h
    have := List.mem_range.1 hi
    omega
  · intro h
    exact List.mem_map.2 ⟨m - (a + 1), List.mem_range.2 (by omega), by omega⟩
end Or
set_option maxRecDepth 100000 in
set_option maxHeartbeats 4000000 in
theorem between_iter (m : Nat) (hm : 1 ≤ m) (ca cb a b : Nat) (ha : a < 9223372036854775807) (hb : b ≤ 9223372036854775807) :
    Og.IterL Fence.wide m Tryz.prog 169 #[.pointer (some ⟨ca, 0, none⟩), .pointer (some ⟨cb, 0, none⟩)] (fun W => Or.Box W ca 3 (.int .i64 (a : Int)) ∧ Or.Box W cb 3 (.int .i64 (b : Int))) (fun k : Nat => #[.int .i64 (k : Int)]) (Or.ms a b) := by
  intro l J Jx W hst hR hY h0
  have HST := Lib.hid hst; have HR := Lib.hid hR; have HY := Lib.hid hY; have H0 := Lib.hid h0
  have c1 := (hR _ _ h0).1.cell
  clear hst hR hY h0
  refine callsIn_of_wp Tryz.func169 rfl trivial ?_ rfl
  simp only [Tryz.ntmps169, List.size_toArray, List.length_cons, List.length_nil, Nat.reduceAdd, Nat.reduceSub, Array.replicate_succ, Array.replicate_zero, List.push_toArray, List.append_toArray, List.nil_append, List.cons_append]
  gi_wp2_with fail
  clear c1
  gi_loopw [4] (fun i wr => ∃ k : Nat, k ≤ (Or.ms a b).length ∧ i = .int .i64 ((a : Int) + 1 + (k : Int)) ∧ J k wr) (fun i _ => b - (intOf i).toNat)
  case atStart => exact ⟨0, Nat.zero_le _, by go_num, H0.out⟩
  case round =>
    obtain ⟨k, hk, rfl, hj⟩ := hrel
    have HJ := Lib.hid hj
    have c2 := (HR.out _ _ hj).2.cell
    have HLEN := Lib.hid (Or.ms_len a b)
    rw [HLEN.out] at hk
    clear hj
    by_cases hlt : a + 1 + k < b
    · have hi : (a : Int) + 1 + (k : Int) < (b : Int) := by omega
      have HG := Lib.hid (Or.ms_get hlt)
      obtain ⟨fn, tmps, assign, body, hy, hRd⟩ := HY.out k _ wr HG.out HJ.out
      rw [show ((a + 1 + k : Nat) : Int) = (a : Int) + 1 + (k : Int) by omega] at hy
      gi_wp2_with fail
      refine hRd.mono ?_
      rintro e W3 (⟨rfl, hJ3⟩ | ⟨rfl, hJx3⟩)
      · have HJ3 := Lib.hid hJ3; clear hJ3 hy hRd
        gi_wp2_with fail
        go_roundw
        case rel => exact ⟨k + 1, by rw [HLEN.out]; omega, by go_num, HJ3.out⟩
        case measure => simp [intOf]; omega
      · have HJ3 := Lib.hid hJx3; clear hJx3 hy hRd
        gi_wp2_with fail
        refine bodyPost_ret (results_none rfl _ _ _) rfl ?_
        exact ⟨⟨_, rfl⟩, .inr HJ3.out⟩
    · have hi : ¬ (a : Int) + 1 + (k : Int) < (b : Int) := by omega
      have HK := Lib.hid (show k = (Or.ms a b).length by rw [HLEN.out]; omega)
      gi_wp2_with fail
      refine bodyPost_end (results_none rfl _ _ _) rfl ?_
      exact ⟨⟨_, rfl⟩, .inl (by rw [← HK.out]; exact HJ.out)⟩
end Go.Proofs.YtecnnkidalkmfaaGreat
end

section
namespace Go.Proofs.YtecnnkidalkmfaaGreat
open Go.RowKit
attribute [local go_sem] or_store_func
attribute [local go_sem] Oper.semAt_some
namespace Or
theorem Box.putObj {w : World} {p D : Nat} {t : TypeId} {v : Value} (h : Box w p t v) (o : Obj) (hD : p < D) : Box (w.putObj D o) p t v := (World.putObj_heap_other (by omega)).trans h
theorem Box.setCell {w : World} {p r : Nat} {t : TypeId} {v u : Value} (h : Box w p t v) (hp : p ≠ r) : Box (w.setCell ⟨r, 0, none⟩ u) p t v := (heap_setCell_other w ⟨r, 0, none⟩ p u hp).trans h
theorem Box.set_ {w : World} {p : Nat} {t : TypeId} {v u : Value} (h : Box w p t v) : Box (w.setCell ⟨p, 0, none⟩ u) p t u := heap_setCell_same w p 0 _ _ u h
theorem Box.frozen {w : World} {p : Nat} {t : TypeId} {v : Value} (h : Box w p t v) : w.frozen? ⟨p, 0, none⟩ = false := frozen_of_row _ _ _ _ _ h
theorem Box.lt {w : World} {p : Nat} {t : TypeId} {v : Value} (h : Box w p t v) : p < w.heap.size := (Array.getElem?_eq_some_iff.1 h).1
theorem below_putObj {B D : Nat} {a w : World} {o : Obj} (h : Below B a w) (hD : B ≤ D) : Below B a (w.putObj D o) :=
  ⟨h.os, h.tape, h.output, Nat.le_trans h.size (by simp), fun k hk => (World.putObj_heap_other (by omega)).trans (h.block k hk)⟩
def Such (w : World) (n : Nat → Prop) (G : FuncId) (caps : Array Value) (p : Nat → Bool) : Prop :=
  ∀ m, n m → ∀ W, Below w.heap.size w W → Calls Tryz.prog G (#[.int .i64 (m : Int)] ++ caps) W fun r w' => r = .returned (.bool (p m)) ∧ Below W.heap.size W w'
structure Mid (w : World) (G : FuncId) (caps : Array Value) (a b : Nat) (q : Bool) (W : World) : Prop where
  bel : Below w.heap.size w W
  fn : Box W w.heap.size 102 (.func (.func G) #[] caps)
  there : Box W (w.heap.size + 1) 4 (.bool q)
  ba : Box W (w.heap.size + 2) 3 (.int .i64 (a : Int))
  bb : Box W (w.heap.size + 3) 3 (.int .i64 (b : Int))
theorem Mid.kp {w : World} {G : FuncId} {caps : Array Value} {a b : Nat} {q : Bool} {W W' : World} (h : Mid w G caps a b q W) (hb : Below W.heap.size W W') : Mid w G caps a b q W' :=
  ⟨h.bel.trans (hb.mono h.bel.size), h.fn.kp hb, h.there.kp hb, h.ba.kp hb, h.bb.kp hb⟩
theorem Mid.putObj {w : World} {G : FuncId} {caps : Array Value} {a b : Nat} {q : Bool} {W : World} {l : Nat} (h : Mid w G caps a b q W) (o : Obj) (hl : w.heap.size + 4 ≤ l) : Mid w G caps a b q (W.putObj l o) :=
  ⟨below_putObj h.bel (by omega), h.fn.putObj o (by omega), h.there.putObj o (by omega), h.ba.putObj o (by omega), h.bb.putObj o (by omega)⟩
theorem Mid.set_ {w : World} {G : FuncId} {caps : Array Value} {a b : Nat} {q : Bool} {W : World} (h : Mid w G caps a b q W) (q' : Bool) : Mid w G caps a b q' (W.setCell ⟨w.heap.size + 1, 0, none⟩ (.bool q')) :=
  ⟨h.bel.setCell (p := ⟨w.heap.size + 1, 0, none⟩) (by show w.heap.size ≤ w.heap.size + 1; omega) _, h.fn.setCell (by omega), h.there.set_, h.ba.setCell (by omega), h.bb.setCell (by omega)⟩
end Or
set_option maxRecDepth 100000 in
set_option maxHeartbeats 8000000 in
theorem some_any (q a b : Nat) (ha : a < 9223372036854775807) (hb : b ≤ 9223372036854775807) (G : FuncId) (caps : Array Value) (p : Nat → Bool) (w : World) (hE : ∀ args w, (callFunc G args).run Tryz.prog w = .ok (.enter G args) w) (hS : Or.Such w (fun m => a < m ∧ m < b) G caps p) :
    Calls Tryz.prog 151 #[.pointer (some ⟨q, 0, none⟩), .int .i64 (a : Int), .int .i64 (b : Int), .func (.func G) #[] caps] w fun r w' => r = .returned (.bool ((Or.ms a b).any p)) ∧ Below w.heap.size w w' := by
  have HS := Lib.hid hS
  have HEN := Lib.hid hE
  obtain ⟨W0, hW0⟩ : ∃ W0, (((w.alloc (.cells #[.func (.func G) #[] caps] 102)).alloc (.cells #[.bool false] 4)).alloc (.cells #[.int .i64 (a : Int)] 3)).alloc (.cells #[.int .i64 (b : Int)] 3) = W0 := ⟨_, rfl⟩
  have hsz : W0.heap.size = w.heap.size + 4 := by rw [← hW0]; simp
  have hM : Or.Mid w G caps a b false W0 := by
    have s1 := World.size_alloc w (.cells #[.func (.func G) #[] caps] 102)
    have s2 := World.size_alloc (w.alloc (.cells #[.func (.func G) #[] caps] 102)) (.cells #[.bool false] 4)
    have s3 := World.size_alloc ((w.alloc (.cells #[.func (.func G) #[] caps] 102)).alloc (.cells #[.bool false] 4)) (.cells #[.int .i64 (a : Int)] 3)
    have al : ∀ (x : World) (o : Obj), Below x.heap.size x (x.alloc o) := fun x o => (Below.refl _ _).alloc (Nat.le_refl _) _
    refine ⟨by rw [← hW0]; exact ((((Below.refl _ w).alloc (Nat.le_refl _) _).alloc (by simp) _).alloc (by simp; omega) _).alloc (by simp; omega) _, ?_, ?_, ?_, ?_⟩
    · rw [← hW0]; exact (((Or.box_new _ _ _).kp (al _ _)).kp (al _ _)).kp (al _ _)
    · rw [← hW0]; have := ((Or.box_new (w.alloc (.cells #[.func (.func G) #[] caps] 102)) 4 (.bool false)).kp (al _ (.cells #[.int .i64 (a : Int)] 3))).kp (al _ (.cells #[.int .i64 (b : Int)] 3)); rwa [s1] at this
    · rw [← hW0]; have := (Or.box_new ((w.alloc (.cells #[.func (.func G) #[] caps] 102)).alloc (.cells #[.bool false] 4)) 3 (.int .i64 (a : Int))).kp (al _ (.cells #[.int .i64 (b : Int)] 3)); rwa [s2, s1] at this
    · rw [← hW0]; have := Or.box_new (((w.alloc (.cells #[.func (.func G) #[] caps] 102)).alloc (.cells #[.bool false] 4)).alloc (.cells #[.int .i64 (a : Int)] 3)) 3 (.int .i64 (b : Int)); rwa [s3, s2, s1] at this
  have HM := Lib.hid hM; have HSZ := Lib.hid hsz; have HW0 := Lib.hid hW0
  clear hM hsz hW0 hS hE
  refine (callsIn_wide (n := 5)).1 ?_
  refine callsIn_of_wp_marks Tryz.func151 rfl trivial ?_ rfl
  simp only [Tryz.ntmps151, List.size_toArray, List.length_cons, List.length_nil, Nat.reduceAdd, Nat.reduceSub, Array.replicate_succ, Array.replicate_zero, List.push_toArray, List.append_toArray, List.nil_append, List.cons_append]
  refine wpIn_wide.2 ?_
  go_wp2_with fail
  go_step3
  go_wp2_with fail
  go_step3
  go_wp2_with (go_at_call 166; refine (between_any _ _ _ _).mono ?_; rintro e w1 ⟨rfl, rfl⟩)
  rw [HW0.out]
  simp only [Nat.add_assoc, Nat.reduceAdd]
  clear HW0
  refine (wpIn_wide (n := 5)).1 ?_
  refine Og.wpIn_rangeFunc_list (α := Nat) rfl (by decide) (gf := 169) (lb := #[.pointer (some ⟨w.heap.size + 2, 0, none⟩), .pointer (some ⟨w.heap.size + 3, 0, none⟩)]) rfl trivial (enters_of Tryz.func169 (by kernel_rfl) rfl)
    (between_iter 4 (by decide) (w.heap.size + 2) (w.heap.size + 3) a b ha hb) (fun _ => rfl)
    (fun k W => Or.Mid w G caps a b false W ∧ ∀ j, j < k → p (a + 1 + j) = false) (fun c W => c = .exit 0 ∧ Or.Mid w G caps a b true W ∧ (Or.ms a b).any p = true)
    (fun k A A' h hb => ⟨h.1.kp hb, h.2⟩) (fun k A l o o' h hl ho hc => ⟨h.1.putObj o' (by have := HSZ.out; omega), h.2⟩) (fun c A l o o' h hl ho hc => ⟨h.1, h.2.1.putObj o' (by have := HSZ.out; omega), h.2.2⟩)
    (fun k A h => ⟨h.1.ba, h.1.bb⟩) ⟨HM.out, fun j hj => absurd hj (Nat.not_lt_zero j)⟩
    (fun m => { tmps := #[.pointer (some ⟨q, 0, none⟩), .int .i64 (a : Int), .int .i64 (b : Int), .func (.func G) #[] caps, undef, undef, undef, .pointer (some ⟨w.heap.size, 0, none⟩), .bool false, .pointer (some ⟨w.heap.size + 1, 0, none⟩), .int .i64 (m : Int), .pointer (some ⟨q, 0, none⟩), .int .i64 (a : Int), .int .i64 (b : Int), .func (.func 169) #[] #[.pointer (some ⟨w.heap.size + 2, 0, none⟩), .pointer (some ⟨w.heap.size + 3, 0, none⟩)], .int .i64 (m : Int), undef, undef, undef, undef, undef], defers := [] })
    ?assign ?body ?done ?stop
  case assign =>
    rintro l m W K hK
    have HK := Lib.hid hK; clear hK
    gi_wp2_with fail
    exact HK.out
  case body =>
    rintro l k m W hm ⟨hM, hno⟩
    obtain ⟨hmk, hmb⟩ := Or.ms_at hm
    have HMM := Lib.hid hM; have HNO := Lib.hid hno; have HMK := Lib.hid hmk
    have HIN := Lib.hid (show a < m ∧ m < b by omega)
    have HMEM := Lib.hid (List.mem_of_getElem? hm)
    have c1 := hM.fn.cell
    obtain ⟨v, hv⟩ : ∃ v, p m = v := ⟨_, rfl⟩
    have HV := Lib.hid hv
    have he := HEN.out
    clear hm hM hno hmk hmb hv
    gi_wp2_with fail
    refine ⟨trivial, (CallsIn.inRound l (callsIn_wide.2 (HS.out m HIN.out W HMM.out.bel))).mono ?_⟩
    rw [HV.out]
    rintro e wa ⟨rfl, hba⟩
    have MA := Lib.hid (HMM.out.kp hba)
    have hc := MA.out.there.cell
    have hf := MA.out.there.frozen
    have KA := Lib.hid ((Og.keeps_below hba).trans (KeepsOthers.setCell wa ⟨w.heap.size + 1, 0, none⟩ (.bool v)))
    have MS := Lib.hid (MA.out.set_ v)
    have hs := MS.out.there.cell
    clear hba c1 he
    cases v
    · gi_wp2_with fail
      refine ⟨KA.out, MS.out, fun j hj => ?_⟩
      rcases Nat.lt_succ_iff_lt_or_eq.1 hj with h | h
      · exact HNO.out j h
      · rw [h, ← HMK.out]; exact HV.out
    · gi_wp2_with fail
      exact ⟨KA.out, rfl, MS.out, List.any_eq_true.2 ⟨m, HMEM.out, HV.out⟩⟩
  case done =>
    rintro D W hD ⟨hM, hno⟩ hK
    have c9 := hM.there.cell
    have HNO := Lib.hid hno; have HMM := Lib.hid hM; have HK := Lib.hid hK; have HDD := Lib.hid hD
    clear hno hM hK hD
    go_wp2_with fail
    rw [Exit.noGoto_ret]
    refine ⟨by simp, .inl ⟨_, _, rfl, run_takeDeferred HK.out, ?_⟩⟩
    have hg := HMM.out.putObj (l := D) (.deferred none) (by have := HDD.out; have := HSZ.out; omega)
    have HF : (Or.ms a b).any p = false := by
      rw [List.any_eq_false]
      intro m hm
      obtain ⟨k, hk⟩ := List.mem_iff_getElem?.1 hm
      obtain ⟨rfl, h⟩ := Or.ms_at hk
      rw [HNO.out k (by rw [Or.ms_len]; omega)]; simp
    exact ⟨_, results_tmp (fn := Tryz.f151) rfl _ _ _, ⟨by rw [HF]; rfl, hg.bel⟩⟩
  case stop =>
    rintro D c W hD ⟨rfl, hM, hany⟩ hK
    refine wpIn_wide.2 ?_
    have c9 := hM.there.cell
    have HANY := Lib.hid hany; have HMM := Lib.hid hM; have HK := Lib.hid hK; have HDD := Lib.hid hD
    clear hany hM hK hD
    go_wp2_with fail
    rw [Exit.noGoto_ret]
    refine ⟨by simp, .inl ⟨_, _, rfl, run_takeDeferred HK.out, ?_⟩⟩
    have hg := HMM.out.putObj (l := D) (.deferred none) (by have := HDD.out; have := HSZ.out; omega)
    exact ⟨_, results_tmp (fn := Tryz.f151) rfl _ _ _, ⟨by rw [HANY.out]; rfl, hg.bel⟩⟩
end Go.Proofs.YtecnnkidalkmfaaGreat
end
