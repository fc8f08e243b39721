import Derived.Test.YtnjnpbabgefaeaaGreatKg19
import Derived.Test.YtnjnpbabgefaeaaGreatKg16
import Derived.Test.YtnjnpbabgefaeaaGreatKg04
import Derived.Laws.Entries
import Derived.ProofKit
import Derived.OpenShut
import Derived.Lib.SmallJoins
import Derived.Carry
import Derived.Deep.Slices
import Derived.Test.YtnjnpbabgefaeaaGreatKg06
import Derived.Test.YtnjnpbabgefaeaaGreatKg01
set_option linter.unusedVariables false
set_option linter.unusedSimpArgs false

section
namespace Go.Proofs.YtnjnpbabgefaeaaGreat
open Go.RowKit
set_option maxRecDepth 100000 in
set_option maxHeartbeats 2000000 in
theorem rf1_any (x : Ev.X) (q a b : Nat) (ha : a < x.ev.length) (hb : b < x.ev.length) (hfl : x.fr.l.length = x.ev.length) (w : World) (hbx : Ev.Bx w q x) :
    Calls Tryz.prog 108 #[.int .i64 (a : Int), .int .i64 (b : Int), .pointer (some ⟨q, 0, none⟩)] w fun e w' => e = .returned (.int .i64 (Ev.bondRf x a b)) ∧ Below w.heap.size w w' := by
  obtain ⟨ea, hea⟩ : ∃ e, x.ev[a]? = some e := ⟨_, List.getElem?_eq_getElem ha⟩
  obtain ⟨g, o, eg, hcx⟩ := hbx.xin.ev.at_ hea
  obtain ⟨f, hf⟩ : ∃ f, x.fr.l[b]? = some f := ⟨_, List.getElem?_eq_getElem (by omega)⟩
  obtain ⟨g2, o2, ef, hcf⟩ := hbx.xin.fr.at_ hf
  have hl1 := hbx.xin.ev.le; have hl2 := hbx.xin.ev.max; have hl3 := hbx.xin.fr.2.1; have hl4 := hbx.xin.fr.2.2.1
  have hna := Ev.nth_some hea
  have hfa : Ev.frAt x b = f := by unfold Ev.frAt; simp [List.getD, hf]
  have HRES := Lib.hid (show Ev.bondRf x a b = if Ev.stores ea.k = false then 2 else Ev.bnd (f == (a : Int)) by unfold Ev.bondRf; rw [hna, hfa])
  have c0 := hbx.c0; have c1 := hbx.c1
  rw [eg] at c0; rw [ef] at c1
  have HC := Lib.hid hcx; have HBX := Lib.hid hbx
  have hai : (a : Int) < (x.ev.length : Int) := by omega
  have hbi : (b : Int) < (x.fr.l.length : Int) := by omega
  clear hea eg hcx hf ef hna hfa hbx hfl
  go_enter Tryz.func108, Tryz.ntmps108
  go_wp2_with (show wpList _ _ _ (Oper.mk (some 10) _ _ _ _ _ :: _) _ _; refine wpList_load_at rfl 48 (.tmp 9) rfl g (o + a * 13) (by kernel_rfl) (Ev.cells ea) _ HC.out Tryz.underlying48 rfl (by kernel_rfl) ?_)
  refine (stores_any ea _).mono ?_
  rintro e W1 ⟨rfl, hb1⟩
  have B1 := Lib.hid hb1
  have c1' := Ev.kp_below hb1 _ _ c1
  have cf' := Ev.kp_below hb1 _ _ hcf
  clear hb1 c0 c1 hcf
  obtain ⟨s, hs⟩ : ∃ s, Ev.stores ea.k = s := ⟨_, rfl⟩
  have HS := Lib.hid hs
  rw [hs]; clear hs
  cases s
  · go_wp2_with fail
    go_ret
    exact ⟨by rw [HRES.out, HS.out]; rfl, B1.out⟩
  · go_wp2_with (go_at_call 109; refine (bond_is _ _).mono ?_; rintro e w' ⟨rfl, rfl⟩)
    go_ret
    exact ⟨by rw [HRES.out, HS.out]; rfl, B1.out⟩
theorem rf_makes (x : Ev.X) (hfl : x.fr.l.length = x.ev.length) (w : World) : Ev.Makes w x 84 (Ev.bondRf x) := by
  intro W hin
  have HIN := Lib.hid hin; clear hin
  have HBX := Lib.hid (Ev.bx_new HIN.out)
  have B0 := Lib.hid ((Below.refl W.heap.size W).alloc (Nat.le_refl _) (.cells (Ev.xcells x).toArray 26))
  have HFL := Lib.hid hfl; clear hfl
  unfold Ev.exV Ev.xcells
  go_enter Tryz.func84, Tryz.ntmps84
  go_wp2
  go_ret
  refine ⟨108, #[.pointer (some ⟨W.heap.size, 0, none⟩)], rfl, Ev.enters_of _ (fun args w => by kernel_rfl), B0.out, fun W2 hb a b ha hb' => ?_⟩
  exact rf1_any x W.heap.size a b ha hb' HFL.out W2 (HBX.out.kp hb)
set_option maxRecDepth 100000 in
set_option maxHeartbeats 2000000 in
theorem rf_yes (x : Ev.X) (w : World) (hin : Ev.XIn w x) (hc : Ev.check x = 0) :
    Calls Tryz.prog 57 #[Ev.exV x] w fun e w' => ∃ a c, e = .returned (.slice a (Ev.told (Ev.bondRf x) x.ev.length x.ev.length).length c) ∧ Ev.PairsIn w' a c (Ev.told (Ev.bondRf x) x.ev.length x.ev.length) ∧ Below w.heap.size w w' := by
  have HIN := Lib.hid hin; have HC := Lib.hid hc; clear hin hc
  have R0 := Lib.hid (heap_alloc_new w (.cells (Ev.xcells x).toArray 26))
  have B0 := Lib.hid ((Below.refl w.heap.size w).alloc (Nat.le_refl _) (.cells (Ev.xcells x).toArray 26))
  unfold Ev.exV Ev.xcells
  go_enter Tryz.func57, Tryz.ntmps57
  go_wp2_with (show wpList _ _ _ (Oper.mk (some 3) _ _ _ _ _ :: _) _ _; refine wpList_load_row rfl 26 (.tmp 1) rfl w.heap.size (by kernel_rfl) 26 (Ev.xcells x).toArray (0, 0) _ R0.out Tryz.underlying26 rfl (by kernel_rfl) ?_)
  refine (pairs_yes x 84 (Ev.bondRf x) _ (HIN.out.kp (Ev.kp_below B0.out)) HC.out (Ev.enters_of _ (fun args w => by kernel_rfl)) (rf_makes x (check_from HC.out) _)).mono ?_
  rintro e W1 ⟨a, c, rfl, hp, hb⟩
  have HP := Lib.hid hp
  have HB := Lib.hid (B0.out.trans (hb.mono (by simp only [World.size_alloc]; omega)))
  clear hp hb
  go_wp2_with fail
  go_ret
  exact ⟨a, c, rfl, HP.out, HB.out⟩
end Go.Proofs.YtnjnpbabgefaeaaGreat
end

section
namespace Go.Proofs.YtnjnpbabgefaeaaGreat
open Go.RowKit Go.Maps
theorem run_store_func (P : Program) (w : World) (a : Addr) (m : Mode) (f : Fn) (b c : Array Value) : (store a (.func f b c) m).run P w = stored P w a (.func f b c) m := run_store P w a _ m rfl
attribute [local go_sem] run_store_func
namespace Ev
def HasC (n : Nat) (ps : List (Int × Int)) (b : Bool) : Prop := (b = true ∧ Cyc ps) ∨ (b = false ∧ ∃ l, Topo ps l ∧ ∀ x, 0 ≤ x → x < (n : Int) → x ∈ l)
end Ev
set_option maxRecDepth 100000 in
set_option maxHeartbeats 2000000 in
theorem hasCircle_any (n nb : Nat) (ps : List (Int × Int)) (w : World) (hr : Ev.InR n ps) (hn : Ev.NextIn w nb (Ev.succs ps)) :
    Calls Tryz.prog 120 #[.int .i64 (n : Int), .map (some nb)] w (Ev.CPost (Ev.HasC n ps) w) := by
  have HR := Lib.hid hr; have HN := Lib.hid hn
  have hmm := @run_makeMap Tryz.prog
  have hn64 : n ≤ 64 := by have := hr.2.1; omega
  obtain ⟨W1, hW1⟩ : ∃ W1, W1 = ((((w.alloc (Obj.cells #[Value.map (some nb)] 152)).alloc (Obj.map #[] 0)).alloc (Obj.cells #[Value.map (some (w.heap.size + 1))] 166)).alloc
    (Obj.cells #[Value.func (Fn.func 149) #[] #[Value.pointer (some { block := w.heap.size + 1 + 1, off := 0 }), Value.pointer (some { block := w.heap.size, off := 0 }), Value.pointer (some { block := w.heap.size + 1 + 1 + 1, off := 0 })]] 102)) := ⟨_, rfl⟩
  have HW1 := Lib.hid hW1
  have b0 : Below w.heap.size w W1 := by
    rw [hW1]
    exact ((((Below.refl _ _).alloc (Nat.le_refl _) _).alloc (by simp only [World.size_alloc]; omega) _).alloc (by simp only [World.size_alloc]; omega) _).alloc (by simp only [World.size_alloc]; omega) _
  have h0 : W1.heap[w.heap.size]? = some (.cells #[Value.map (some nb)] 152 (0, 0)) := by
    rw [hW1]
    exact (Below.heap_alloc _ _ _ (by simp only [World.size_alloc]; omega)).trans ((Below.heap_alloc _ _ _ (by simp only [World.size_alloc]; omega)).trans ((Below.heap_alloc _ _ _ (by simp only [World.size_alloc]; omega)).trans (heap_alloc_new _ _)))
  have h2 : W1.heap[w.heap.size + 1 + 1]? = some (.cells #[Value.map (some (w.heap.size + 1))] 166 (0, 0)) := by
    rw [hW1]
    refine (Below.heap_alloc _ _ _ (by simp only [World.size_alloc]; omega)).trans ?_
    have := heap_alloc_new ((w.alloc (Obj.cells #[Value.map (some nb)] 152)).alloc (Obj.map #[] 0)) (Obj.cells #[Value.map (some (w.heap.size + 1))] 166)
    simpa only [World.size_alloc] using this
  have h3 : W1.heap[w.heap.size + 1 + 1 + 1]? = some (.cells #[Value.func (Fn.func 149) #[] #[Value.pointer (some { block := w.heap.size + 1 + 1, off := 0 }), Value.pointer (some { block := w.heap.size, off := 0 }), Value.pointer (some { block := w.heap.size + 1 + 1 + 1, off := 0 })]] 102 (0, 0)) := by
    rw [hW1]
    have := heap_alloc_new (((w.alloc (Obj.cells #[Value.map (some nb)] 152)).alloc (Obj.map #[] 0)).alloc (Obj.cells #[Value.map (some (w.heap.size + 1))] 166)) (Obj.cells #[Value.func (Fn.func 149) #[] #[Value.pointer (some { block := w.heap.size + 1 + 1, off := 0 }), Value.pointer (some { block := w.heap.size, off := 0 }), Value.pointer (some { block := w.heap.size + 1 + 1 + 1, off := 0 })]] 102)
    simpa only [World.size_alloc] using this
  have hom : W1.ownsMap (H := Unit) Tryz.prog 3 (plainElem Tryz.prog 167) (w.heap.size + 1) 0 (.map []) := by
    rw [hW1]
    have := World.ownsMap_made (H := Unit) (w.alloc (Obj.cells #[Value.map (some nb)] 152)) Tryz.prog 3 (plainElem Tryz.prog 167)
    simp only [World.size_alloc] at this
    exact (this.alloc _).alloc _
  obtain ⟨e, he⟩ : ∃ e : Ev.DEnv, e = ⟨ps, n, w, W1, w.heap.size + 1 + 1, w.heap.size, w.heap.size + 1 + 1 + 1, w.heap.size + 1, nb⟩ := ⟨_, rfl⟩
  have ho : Ev.DOk e := by
    subst he
    exact ⟨HR.out, HN.out, b0, by rw [cell_of_row _ _ _ _ _ _ h2]; rfl, by rw [cell_of_row _ _ _ _ _ _ h0]; rfl, by rw [cell_of_row _ _ _ _ _ _ h3]; rfl, Nat.le_succ _, by show w.heap.size + 1 + 1 ≠ w.heap.size + 1; omega, by show w.heap.size ≠ w.heap.size + 1; omega, by show w.heap.size + 1 + 1 + 1 ≠ w.heap.size + 1; omega⟩
  have hd0 : Ev.DIn e W1 (fun _ => 0) [] := by
    subst he
    exact ⟨World.grownBy.refl _ _, ⟨_, 0, hom, fun x _ => rfl, by have := Ev.pot_le (fun _ => 0) n; show 0 + Ev.pot (fun _ => 0) n ≤ 2 * n; omega⟩, Ev.looked_none _⟩
  have e1 : e.n = n := by rw [he]
  have e2 : e.ps = ps := by rw [he]
  have e3 : e.cL = w.heap.size + 1 + 1 := by rw [he]
  have e4 : e.cN = w.heap.size := by rw [he]
  have e5 : e.cF = w.heap.size + 1 + 1 + 1 := by rw [he]
  have e6 : e.W0 = w := by rw [he]
  have HE := Lib.hid (And.intro e1 (And.intro e2 (And.intro e3 (And.intro e4 (And.intro e5 e6)))))
  have HO := Lib.hid ho; have HD0 := Lib.hid hd0
  have H3 := Lib.hid h3
  clear hr hn hW1 b0 h0 h2 h3 hom he ho hd0 e1 e2 e3 e4 e5 e6
  go_enter Tryz.func120, Tryz.ntmps120
  go_wp2
  rw [← HW1.out]
  go_loopw [7, 11] (fun _ i wr => ∃ k : Nat, k ≤ n ∧ i = .int .i64 (k : Int) ∧ ∃ L l, Ev.DIn e wr L l ∧ (∀ x, 0 ≤ x → x < (k : Int) → x ∈ l) ∧ ∀ x, L x ≠ 1) (fun _ i _ => n - (intOf i).toNat)
  case atStart => exact ⟨0, Nat.zero_le _, rfl, _, _, HD0.out, fun x h1 h2 => absurd h2 (by omega), fun x h => by cases h⟩
  case round =>
    obtain ⟨k, hk, rfl, L, l, hd, hall, hone⟩ := hrel
    have HD := Lib.hid hd; have HALL := Lib.hid hall; have HONE := Lib.hid hone
    clear hall hone
    by_cases hlt : k < n
    · have hki : (k : Int) < (n : Int) := by omega
      have hcf := Ev.cell_far hd.g HO.out.kF HO.out.nF
      unfold Ev.DEnv.clo at hcf
      rw [HE.out.2.2.1, HE.out.2.2.2.1, HE.out.2.2.2.2.1] at hcf
      have CALL := leads_any e HO.out _ wr L l (k : Int) hd (by omega) (by rw [HE.out.1]; exact hki) (fun u hu => absurd hu (HONE.out u)) (Nat.lt_succ_self _)
      rw [HE.out.2.2.1, HE.out.2.2.2.1, HE.out.2.2.2.2.1] at CALL
      have CALL := Lib.hid CALL
      clear hd
      go_wp2_with fail
      refine CALL.out.mono ?_
      intro r w2 hpost
      rcases hpost with ⟨hb, hcyc, hg2⟩ | ⟨hb, hg2, L2, l2, hd2, hall2, hsub2, hone2, hpot2⟩
      · unfold Ev.isB at hb
        subst hb
        have HC := Lib.hid hcyc; have HG2 := Lib.hid (Ev.grown_trans HD.out.g hg2); clear hcyc hg2
        go_wp2_with fail
        go_ret
        refine Ev.CPost.mk true rfl (.inl ⟨rfl, by rw [← HE.out.2.1]; exact HC.out⟩) (by
          have := HO.out.b0.grown HG2.out HO.out.b0.size (fun k hk => by cases hk; exact HO.out.mb0)
          rw [HE.out.2.2.2.2.2] at this; exact this)
      · unfold Ev.isB at hb
        subst hb
        have HD2 := Lib.hid hd2; have HA2 := Lib.hid hall2; have HS2 := Lib.hid hsub2; have HO2 := Lib.hid hone2
        clear hd2 hall2 hsub2 hone2 hg2 hcf
        go_wp2_with fail
        go_roundw
        case rel =>
          refine ⟨k + 1, by omega, by go_num, L2, l2, HD2.out, fun x h1 h2 => ?_, fun x h => HONE.out x ((HO2.out x).1 h)⟩
          by_cases hx : x = (k : Int)
          · subst hx; exact HA2.out _ (by simp)
          · exact HS2.out x (HALL.out x h1 (by omega))
        case measure => simp [intOf]; omega
    · have hkn : k = n := by omega
      have hki : ¬ (k : Int) < (n : Int) := by omega
      have HKN := Lib.hid hkn
      clear hd hkn
      go_wp2
      go_ret
      refine Ev.CPost.mk false rfl (.inr ⟨rfl, l, by rw [← HE.out.2.1]; exact HD.out.ok.topo, fun x h1 h2 => HALL.out x h1 (by rw [HKN.out]; exact h2)⟩) (by
        have := HD.out.b0 HO.out
        rw [HE.out.2.2.2.2.2] at this; exact this)
end Go.Proofs.YtnjnpbabgefaeaaGreat
end

section
namespace Go.Proofs.YtnjnpbabgefaeaaGreat
open Go.Joins Go.ChangeShapes Go.WideShapes Go.ChangeAt Go.RowKit Go.Deep
theorem own : ownKnob Tryz.prog.godebug = none := by kernel_rfl
theorem laidOut : laidOutB Tryz.prog = true := by kernel_rfl
theorem cellsInt : Tryz.prog.cellsOf 3 = 1 := by kernel_rfl
theorem i64_of_wf {n : Int} (h : (Lit.int .i64 n).wf = true) : Ev.i64B n := by
  unfold Ev.i64B
  have h1 : IntKind.i64.min = -9223372036854775808 := by decide
  have h2 : IntKind.i64.max = 9223372036854775807 := by decide
  simp only [Lit.wf, h1, h2, Bool.and_eq_true, decide_eq_true_eq] at h; exact h
theorem int_in {H : Type} {enc : TypeId × Value → H} {P : Program} {W : World} {base : Nat} {sp : Nat → Bool} {held : Bool} {fuel : Nat} {t : TypeId} {q : IntKind} {c : Value} {y : DataW H × List MemPlace} (ht : P.underlying t = some (.int q))
    (h : DataW.trod enc P W base sp held fuel t [c] = some y) : ∃ n, c = .int q n ∧ (Lit.int q n).wf = true := by
  obtain ⟨n, hn, _, hw⟩ := DataW.trod_int ht h
  exact ⟨n, by simpa using hn, hw⟩
theorem open_numbers {H : Type} {enc : TypeId × Value → H} {W : World} {a0 : Option Addr} {len cap : Nat} {d0 : DataW H} {p : List MemPlace}
    (h0 : DataW.Trod enc Tryz.prog W 0 (fun _ => true) true 23 (.slice a0 len cap) d0 p) :
    ∃ xs : List Int, xs.length = len ∧ Ev.IntsIn W ⟨a0, cap, xs⟩ := by
  obtain ⟨fuel, hf⟩ := h0
  rcases open_ints Tryz.underlying23 Tryz.underlying3 cellsInt hf with ⟨hcs, hx⟩ | ⟨a, len', cap', zs, hcs, _, hl, hm, hz, hx, hcell, hwz⟩
  · simp [Value.cells] at hcs
    obtain ⟨rfl, rfl, rfl⟩ := hcs
    exact ⟨[], rfl, fun h => absurd h (by simp), by simp, by simp, fun x hx => by cases hx⟩
  · simp [Value.cells] at hcs
    obtain ⟨rfl, rfl, rfl⟩ := hcs
    simp only [if_true] at hz
    unfold maxLen at hm
    refine ⟨zs.take len, by simp; omega, fun hp => ?_, by simp; omega, hm, fun x hx => i64_of_wf (hwz x (List.mem_of_mem_take hx))⟩
    have hp' : 0 < zs.length := by simp at hp; omega
    obtain ⟨b, off, rfl, hc⟩ := ints_at hcell hp'
    refine ⟨b, off, rfl, fun j v hv => ?_⟩
    have hj' : j < len := by have := (List.getElem?_eq_some_iff.1 hv).1; simp at this; omega
    rw [hc j (by omega)]
    rw [List.getElem?_take_of_lt hj'] at hv
    simp [List.getD, hv]
end Go.Proofs.YtnjnpbabgefaeaaGreat
end

section
namespace Go.Proofs.YtnjnpbabgefaeaaGreat
open Go.RowKit
namespace Or
open Ev
structure As (w : World) (q : Nat) (x : X) : Prop where
  row : w.heap[q]? = some (.cells (xcells x).toArray 115 (0, 0))
  xin : XIn w x
theorem As.kp {w w' : World} {q : Nat} {x : X} (h : As w q x) (hb : Below w.heap.size w w') : As w' q x :=
  ⟨(hb.block q (Array.getElem?_eq_some_iff.1 h.row).1).trans h.row, h.xin.kp (kp_below hb)⟩
theorem As.c0 {w : World} {q : Nat} {x : X} (h : As w q x) : w.cell? ⟨q, 0, none⟩ = some (.slice x.ae x.ev.length x.ce) := by rw [cell_of_row _ _ _ _ _ _ h.row]; rfl
theorem As.c1 {w : World} {q : Nat} {x : X} (h : As w q x) : w.cell? ⟨q, 1, none⟩ = some (.slice x.fr.a x.fr.l.length x.fr.c) := by rw [cell_of_row _ _ _ _ _ _ h.row]; rfl
theorem As.alloc {w : World} {q : Nat} {x : X} (h : As w q x) (o : Obj) : As (w.alloc o) q x := h.kp ((Below.refl _ _).alloc (Nat.le_refl _) _)
def kept (x : X) (a b : Nat) : Bool := decide (a < b) && (nth x.ev a).h == (nth x.ev b).h && acc (nth x.ev a) && acc (nth x.ev b)
def oneW (x : X) (a b : Nat) : Bool := (nth x.ev a).a == (nth x.ev b).a
def kV (F : Nat) : Value := .func (.func F) #[] #[]
def rulesA : Array Value := #[.nilFunc, kV 124, kV 125, kV 126, kV 127, kV 128, kV 129, kV 130, kV 131, kV 132, kV 133, kV 134, kV 135, kV 136]
def rulesV : Value := .agg rulesA
end Or
set_option maxRecDepth 100000 in
set_option maxHeartbeats 4000000 in
theorem kept_any (x : Ev.X) (q a b : Nat) (ha : a < x.ev.length) (hb : b < x.ev.length) (w : World) (hq : Or.As w q x) :
    Calls Tryz.prog 106 #[.pointer (some ⟨q, 0, none⟩), .int .i64 (a : Int), .int .i64 (b : Int)] w fun r w' => r = .returned (.bool (Or.kept x a b)) ∧ Below w.heap.size w w' := by
  have hl1 := hq.xin.ev.le; have hl2 := hq.xin.ev.max
  obtain ⟨e, he⟩ : ∃ e, x.ev[a]? = some e := ⟨_, List.getElem?_eq_getElem ha⟩
  obtain ⟨f, hf⟩ : ∃ f, x.ev[b]? = some f := ⟨_, List.getElem?_eq_getElem hb⟩
  obtain ⟨g, o, eg, hce⟩ := hq.xin.ev.at_ he
  obtain ⟨g', o', eg', hcf⟩ := hq.xin.ev.at_ hf
  obtain ⟨rfl, rfl⟩ : g' = g ∧ o' = o := by rw [eg] at eg'; cases eg'; exact ⟨rfl, rfl⟩
  have HE := Lib.hid (Ev.nth_some he); have HF := Lib.hid (Ev.nth_some hf)
  have HQ := Lib.hid hq; have HCE := Lib.hid hce; have HCF := Lib.hid hcf
  have hai : (a : Int) < (x.ev.length : Int) := by omega
  have hbi : (b : Int) < (x.ev.length : Int) := by omega
  have CX := Lib.hid (show ∀ W, Below w.heap.size w W → W.cell? ⟨q, 0, none⟩ = some (.slice (some ⟨g', o', none⟩) x.ev.length x.ce) from fun W h => by
    rw [← eg]; exact (hq.kp h).c0)
  clear hq he hf eg eg' hce hcf
  obtain ⟨p, hp⟩ : ∃ p, Or.acc e = p := ⟨_, rfl⟩
  obtain ⟨s, hs⟩ : ∃ p, Or.acc f = p := ⟨_, rfl⟩
  have HP := Lib.hid hp; have HS := Lib.hid hs
  have HRES := Lib.hid (show Or.kept x a b = (decide ((a : Int) < (b : Int)) && e.h == f.h && p && s) by unfold Or.kept; rw [HE.out, HF.out, hp, hs]; congr 3; simp only [decide_eq_decide]; omega)
  clear hp hs
  go_enter Tryz.func106, Tryz.ntmps106
  go_wp2_with fail
  have cx := CX.out w (Below.refl _ _)
  have LA := Lib.hid (fun (z : World) (hz : Og.Std w z) => Ev.ld (w := z) (g := g') (o := o' + a * 13) (x := e) (fun i c hi => Og.std_cell hz (Ev.kp_below (Below.refl _ _) _ _ (HCE.out i c hi))))
  have LF := Lib.hid (fun (z : World) (hz : Og.Std w z) => Ev.ld (w := z) (g := g') (o := o' + b * 13) (x := f) (fun i c hi => Og.std_cell hz (Ev.kp_below (Below.refl _ _) _ _ (HCF.out i c hi))))
  refine wp_region_held (S := Og.Std w) (by kernel_rfl) ?_
  have S0 : Og.Std w { w with drawn := w.drawn + 1 } := ⟨rfl, rfl, rfl, Nat.le_refl _, fun _ _ => rfl⟩
  refine Og.held_take 0 _ (.pointer (some ⟨q, 0, none⟩)) _ rfl rfl (by kernel_rfl) (by kernel_rfl) (by kernel_rfl) (fun _ _ _ h => h) S0 (fun z hz => ?_) (by simp only [Act.put, List.setIfInBounds_toArray, List.set_cons_zero, List.set_cons_succ]; rfl) ?_
  · go_simp; try (with_reducible rfl)
  refine Og.held_take 1 _ (.pointer (some ⟨q, 0, none⟩)) _ rfl rfl (by kernel_rfl) (by kernel_rfl) (by kernel_rfl) (fun _ _ _ h => h) S0 (fun z hz => ?_) (by simp only [Act.put, List.setIfInBounds_toArray, List.set_cons_zero, List.set_cons_succ]; rfl) ?_
  · go_simp; try (with_reducible rfl)
  refine Og.held_take 2 _ (.pointer (some ⟨q, 0, none⟩)) _ rfl rfl (by kernel_rfl) (by kernel_rfl) (by kernel_rfl) (fun _ _ _ h => h) S0 (fun z hz => ?_) (by simp only [Act.put, List.setIfInBounds_toArray, List.set_cons_zero, List.set_cons_succ]; rfl) ?_
  · go_simp; try (with_reducible rfl)
  refine Og.held_take 3 _ (.pointer (some ⟨q, 0, none⟩)) _ rfl rfl (by kernel_rfl) (by kernel_rfl) (by kernel_rfl) (fun _ _ _ h => h) S0 (fun z hz => ?_) (by simp only [Act.put, List.setIfInBounds_toArray, List.set_cons_zero, List.set_cons_succ]; rfl) ?_
  · go_simp; try (with_reducible rfl)
  refine Og.held_take 4 _ (.slice (some ⟨g', o', none⟩) x.ev.length x.ce) _ rfl rfl (by kernel_rfl) (by kernel_rfl) (by kernel_rfl) (fun _ _ _ h => h) S0 (fun z hz => ?_) (by simp only [Act.put, List.setIfInBounds_toArray, List.set_cons_zero, List.set_cons_succ]; rfl) ?_
  · exact Og.load_run 22 (.tmp 12) rfl ⟨q, 0, none⟩ (by kernel_rfl) (run_load_slice Tryz.underlying22 (Og.std_cell hz cx))
  refine Og.held_take 5 _ (.int .i64 (a : Int)) _ rfl rfl (by kernel_rfl) (by kernel_rfl) (by kernel_rfl) (fun _ _ _ h => h) S0 (fun z hz => ?_) (by simp only [Act.put, List.setIfInBounds_toArray, List.set_cons_zero, List.set_cons_succ]; rfl) ?_
  · go_simp; try (with_reducible rfl)
  refine Og.held_take 6 _ (.pointer (some ⟨g', o' + a * 13, none⟩)) _ rfl rfl (by kernel_rfl) (by kernel_rfl) (by kernel_rfl) (fun _ _ _ h => h) S0 (fun z hz => ?_) (by simp only [Act.put, List.setIfInBounds_toArray, List.set_cons_zero, List.set_cons_succ]; rfl) ?_
  · go_simp; try (with_reducible rfl)
  refine Og.held_take 7 _ (.agg (Ev.cells e).toArray) _ rfl rfl (by kernel_rfl) (by kernel_rfl) (by kernel_rfl) (fun _ _ _ h => h) S0 (fun z hz => ?_) (by simp only [Act.put, List.setIfInBounds_toArray, List.set_cons_zero, List.set_cons_succ]; rfl) ?_
  · exact Og.load_run 48 (.tmp 15) rfl ⟨g', o' + a * 13, none⟩ (by kernel_rfl) (LA.out z hz)
  refine Og.held_take 8 _ (.pointer (some ⟨q, 0, none⟩)) _ rfl rfl (by kernel_rfl) (by kernel_rfl) (by kernel_rfl) (fun _ _ _ h => h) S0 (fun z hz => ?_) (by simp only [Act.put, List.setIfInBounds_toArray, List.set_cons_zero, List.set_cons_succ]; rfl) ?_
  · go_simp; try (with_reducible rfl)
  refine Og.held_take 9 _ (.pointer (some ⟨q, 0, none⟩)) _ rfl rfl (by kernel_rfl) (by kernel_rfl) (by kernel_rfl) (fun _ _ _ h => h) S0 (fun z hz => ?_) (by simp only [Act.put, List.setIfInBounds_toArray, List.set_cons_zero, List.set_cons_succ]; rfl) ?_
  · go_simp; try (with_reducible rfl)
  refine Og.held_take 10 _ (.pointer (some ⟨q, 0, none⟩)) _ rfl rfl (by kernel_rfl) (by kernel_rfl) (by kernel_rfl) (fun _ _ _ h => h) S0 (fun z hz => ?_) (by simp only [Act.put, List.setIfInBounds_toArray, List.set_cons_zero, List.set_cons_succ]; rfl) ?_
  · go_simp; try (with_reducible rfl)
  refine Og.held_take 11 _ (.pointer (some ⟨q, 0, none⟩)) _ rfl rfl (by kernel_rfl) (by kernel_rfl) (by kernel_rfl) (fun _ _ _ h => h) S0 (fun z hz => ?_) (by simp only [Act.put, List.setIfInBounds_toArray, List.set_cons_zero, List.set_cons_succ]; rfl) ?_
  · go_simp; try (with_reducible rfl)
  refine Og.held_take 12 _ (.slice (some ⟨g', o', none⟩) x.ev.length x.ce) _ rfl rfl (by kernel_rfl) (by kernel_rfl) (by kernel_rfl) (fun _ _ _ h => h) S0 (fun z hz => ?_) (by simp only [Act.put, List.setIfInBounds_toArray, List.set_cons_zero, List.set_cons_succ]; rfl) ?_
  · exact Og.load_run 22 (.tmp 20) rfl ⟨q, 0, none⟩ (by kernel_rfl) (run_load_slice Tryz.underlying22 (Og.std_cell hz cx))
  refine Og.held_take 13 _ (.int .i64 (b : Int)) _ rfl rfl (by kernel_rfl) (by kernel_rfl) (by kernel_rfl) (fun _ _ _ h => h) S0 (fun z hz => ?_) (by simp only [Act.put, List.setIfInBounds_toArray, List.set_cons_zero, List.set_cons_succ]; rfl) ?_
  · go_simp; try (with_reducible rfl)
  refine Og.held_take 14 _ (.pointer (some ⟨g', o' + b * 13, none⟩)) _ rfl rfl (by kernel_rfl) (by kernel_rfl) (by kernel_rfl) (fun _ _ _ h => h) S0 (fun z hz => ?_) (by simp only [Act.put, List.setIfInBounds_toArray, List.set_cons_zero, List.set_cons_succ]; rfl) ?_
  · go_simp; try (with_reducible rfl)
  refine Og.held_take 15 _ (.agg (Ev.cells f).toArray) _ rfl rfl (by kernel_rfl) (by kernel_rfl) (by kernel_rfl) (fun _ _ _ h => h) S0 (fun z hz => ?_) (by simp only [Act.put, List.setIfInBounds_toArray, List.set_cons_zero, List.set_cons_succ]; rfl) ?_
  · exact Og.load_run 48 (.tmp 23) rfl ⟨g', o' + b * 13, none⟩ (by kernel_rfl) (LF.out z hz)
  refine Og.four (p := 16) (q := 17) (s1 := 18) (s2 := 19) (dp := 7) (dq := 8) (x1 := 16) (x2 := 24) (T := 48) (Z := (Ev.cells Ev.R0).toArray) (c1 := (Ev.cells e).toArray) (c2 := (Ev.cells f).toArray)
    ⟨⟨_, rfl, rfl, rfl, fun ρ w => by kernel_rfl⟩, ⟨_, rfl, rfl, rfl, fun ρ w => by kernel_rfl⟩, ⟨_, rfl, rfl, rfl, rfl⟩, ⟨_, rfl, rfl, rfl, rfl⟩, (by kernel_rfl), (by kernel_rfl), (by kernel_rfl), (by kernel_rfl), (by kernel_rfl), (by kernel_rfl), (by kernel_rfl), (by kernel_rfl), (by kernel_rfl), (by kernel_rfl), (by kernel_rfl), of_decide_eq_true (by kernel_rfl), of_decide_eq_true (by kernel_rfl), (by decide), rfl, rfl, (by kernel_rfl), (by kernel_rfl), (by kernel_rfl), (by kernel_rfl)⟩ S0 ?_
  intro W g1 g2 HT
  simp only [Act.put, List.setIfInBounds_toArray, List.set_cons_zero, List.set_cons_succ]
  have R1 := Lib.hid HT.r1; have R2 := Lib.hid HT.r2; have BW := Lib.hid (HT.below)
  clear HT S0 cx
  have c1 : W.cell? ⟨g1, 0, none⟩ = some (.int .i64 e.h) := by rw [cell_of_row _ _ _ _ _ _ R1.out]; rfl
  have c2 : W.cell? ⟨g2, 0, none⟩ = some (.int .i64 f.h) := by rw [cell_of_row _ _ _ _ _ _ R2.out]; rfl
  by_cases h1 : (a : Int) < (b : Int)
  case neg =>
    have t1 : decide ((a : Int) < (b : Int)) = false := decide_eq_false h1
    have t1' : decide (a < b) = false := decide_eq_false (by omega)
    have HRES := Lib.hid (show Or.kept x a b = false by rw [HRES.out, t1]; rfl)
    clear h1
    go_wp2_with fail
    go_ret
    exact ⟨by rw [HRES.out]; try rfl, BW.out⟩
  have t1 : decide ((a : Int) < (b : Int)) = true := decide_eq_true h1
  have t1' : decide (a < b) = true := decide_eq_true (by omega)
  by_cases h2 : e.h = f.h
  case neg =>
    have t2 : (e.h == f.h) = false := by simpa using h2
    have HRES := Lib.hid (show Or.kept x a b = false by rw [HRES.out, t1, t2]; rfl)
    clear h1 h2
    go_wp2_with fail
    go_ret
    exact ⟨by rw [HRES.out]; try rfl, BW.out⟩
  have t2 : (e.h == f.h) = true := by simpa using h2
  have HRES := Lib.hid (show Or.kept x a b = (p && s) by rw [HRES.out, t1, t2]; rfl)
  clear h1 h2
  go_wp2_with ((with_reducible show wpList _ _ _ (Oper.mk (some 36) _ _ _ _ _ :: _) _ _); refine Ev.load_row_g 48 (.tmp 7) rfl rfl g1 (by kernel_rfl) 48 (Ev.cells e).toArray (0, 0) _ R1.out Tryz.underlying48 rfl (by kernel_rfl) ?_)
  refine (access_is HP.out _).mono ?_
  rintro r W2 ⟨rfl, hb2⟩
  have R22 := Lib.hid ((hb2.block g2 (Array.getElem?_eq_some_iff.1 R2.out).1).trans R2.out)
  have B2 := Lib.hid (BW.out.trans (hb2.mono BW.out.size)); clear hb2 c1 c2
  cases p
  case false =>
    go_wp2_with fail
    go_ret
    exact ⟨by rw [HRES.out]; try rfl, B2.out⟩
  go_wp2_with ((with_reducible show wpList _ _ _ (Oper.mk (some 40) _ _ _ _ _ :: _) _ _); refine Ev.load_row_g 48 (.tmp 8) rfl rfl g2 (by kernel_rfl) 48 (Ev.cells f).toArray (0, 0) _ R22.out Tryz.underlying48 rfl (by kernel_rfl) ?_)
  refine (access_is HS.out _).mono ?_
  rintro r W3 ⟨rfl, hb3⟩
  have B3 := Lib.hid (B2.out.trans (hb3.mono B2.out.size)); clear hb3
  cases s
  · go_wp2_with fail
    go_ret
    exact ⟨by rw [HRES.out]; try rfl, B3.out⟩
  · go_wp2_with fail
    go_ret
    exact ⟨by rw [HRES.out]; try rfl, B3.out⟩
theorem kept_is {x : Ev.X} {q a b : Nat} {v : Bool} (h : Or.kept x a b = v) (ha : a < x.ev.length) (hb : b < x.ev.length) (w : World) (hq : Or.As w q x) :
    Calls Tryz.prog 106 #[.pointer (some ⟨q, 0, none⟩), .int .i64 (a : Int), .int .i64 (b : Int)] w fun r w' => r = .returned (.bool v) ∧ Below w.heap.size w w' := h ▸ kept_any x q a b ha hb w hq
set_option maxRecDepth 100000 in
set_option maxHeartbeats 4000000 in
theorem oneW_any (x : Ev.X) (q a b : Nat) (ha : a < x.ev.length) (hb : b < x.ev.length) (w : World) (hq : Or.As w q x) :
    Calls Tryz.prog 150 #[.pointer (some ⟨q, 0, none⟩), .int .i64 (a : Int), .int .i64 (b : Int)] w fun r w' => r = .returned (.bool (Or.oneW x a b)) ∧ Below w.heap.size w w' := by
  have hl1 := hq.xin.ev.le; have hl2 := hq.xin.ev.max
  obtain ⟨e, he⟩ : ∃ e, x.ev[a]? = some e := ⟨_, List.getElem?_eq_getElem ha⟩
  obtain ⟨f, hf⟩ : ∃ f, x.ev[b]? = some f := ⟨_, List.getElem?_eq_getElem hb⟩
  obtain ⟨g, o, eg, hce⟩ := hq.xin.ev.at_ he
  obtain ⟨g', o', eg', hcf⟩ := hq.xin.ev.at_ hf
  obtain ⟨rfl, rfl⟩ : g' = g ∧ o' = o := by rw [eg] at eg'; cases eg'; exact ⟨rfl, rfl⟩
  have HE := Lib.hid (Ev.nth_some he); have HF := Lib.hid (Ev.nth_some hf)
  have HQ := Lib.hid hq; have HCE := Lib.hid hce; have HCF := Lib.hid hcf
  have hai : (a : Int) < (x.ev.length : Int) := by omega
  have hbi : (b : Int) < (x.ev.length : Int) := by omega
  have CX := Lib.hid (show ∀ W, Below w.heap.size w W → W.cell? ⟨q, 0, none⟩ = some (.slice (some ⟨g', o', none⟩) x.ev.length x.ce) from fun W h => by
    rw [← eg]; exact (hq.kp h).c0)
  clear hq he hf eg eg' hce hcf
  have HRES := Lib.hid (show Or.oneW x a b = (e.a == f.a) by unfold Or.oneW; rw [HE.out, HF.out])
  have cx : ∀ z : Og.On w.heap.size w, z.x.cell? ⟨q, 0, none⟩ = some (.slice (some ⟨g', o', none⟩) x.ev.length x.ce) := fun z => CX.out z.x z.b
  have ce : ∀ z : Og.On w.heap.size w, z.x.cell? ⟨g', o' + a * 13 + 2, none⟩ = some (.int .u32 e.a) := fun z => Og.cellB z (HCE.out 2 _ rfl)
  have cf : ∀ z : Og.On w.heap.size w, z.x.cell? ⟨g', o' + b * 13 + 2, none⟩ = some (.int .u32 f.a) := fun z => Og.cellB z (HCF.out 2 _ rfl)
  by_cases h2 : e.a = f.a
  case neg =>
    have t2 : (e.a == f.a) = false := by simpa using h2
    have HRES := Lib.hid (show Or.oneW x a b = false by rw [HRES.out, t2])
    clear h2
    go_enter Tryz.func150, Tryz.ntmps150
    go_wp2_with fail
    refine Og.regionB (by kernel_rfl) (by kernel_rfl) ?_
    repeat (first
      | go_big_quiet_skip
      | (go_big_quiet_want
         first
          | (go_big_quiet_op
             first
              | go_big_quiet_on)))
    refine wpQuiet_nil ?_
    intro _ hw'
    obtain ⟨q9, hw''⟩ := hw'
    subst hw''
    go_wp2_with fail
    go_ret
    exact ⟨by rw [HRES.out]; try rfl, q9.b⟩
  have t2 : (e.a == f.a) = true := by simpa using h2
  have HRES := Lib.hid (show Or.oneW x a b = true by rw [HRES.out, t2])
  clear h2
  go_enter Tryz.func150, Tryz.ntmps150
  go_wp2_with fail
  refine Og.regionB (by kernel_rfl) (by kernel_rfl) ?_
  repeat (first
    | go_big_quiet_skip
    | (go_big_quiet_want
       first
        | (go_big_quiet_op
           first
            | go_big_quiet_on)))
  refine wpQuiet_nil ?_
  intro _ hw'
  obtain ⟨q9, hw''⟩ := hw'
  subst hw''
  go_wp2_with fail
  go_ret
  exact ⟨by rw [HRES.out]; try rfl, q9.b⟩
theorem oneW_is {x : Ev.X} {q a b : Nat} {v : Bool} (h : Or.oneW x a b = v) (ha : a < x.ev.length) (hb : b < x.ev.length) (w : World) (hq : Or.As w q x) :
    Calls Tryz.prog 150 #[.pointer (some ⟨q, 0, none⟩), .int .i64 (a : Int), .int .i64 (b : Int)] w fun r w' => r = .returned (.bool v) ∧ Below w.heap.size w w' := h ▸ oneW_any x q a b ha hb w hq
end Go.Proofs.YtnjnpbabgefaeaaGreat
end
