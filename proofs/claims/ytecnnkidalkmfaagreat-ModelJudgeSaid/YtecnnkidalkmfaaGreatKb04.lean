import Derived.Test.YtecnnkidalkmfaaGreatKb03
import Derived.Test.YtecnnkidalkmfaaGreatKb01
import Derived.OrdersHeld
import Derived.RegionTactic
set_option linter.unusedVariables false
set_option linter.unusedSimpArgs false

section
namespace Go.Proofs.YtecnnkidalkmfaaGreat
open Go.RowKit
namespace Ev
def extra (x : R) : Bool := bits .andNot .i64 ((filled x : Nat) : Int) (parts x.k) != 0
def partsOk (x : R) : Bool := parts x.k != 0 && !(extra x) && hartOk x && x.a % 4 == 0 && inB x.p 4 && inB x.s 4
end Ev
set_option maxRecDepth 100000 in
set_option maxHeartbeats 4000000 in
theorem partsOk_any (x : Ev.R) (w : World) (ha : Ev.u32B x.a) : Calls Tryz.prog 94 #[Ev.evV x] w fun e w' => e = .returned (.bool (Ev.partsOk x)) ∧ Below w.heap.size w w' := by
  have R0 := Lib.hid (heap_alloc_new w (.cells (Ev.cells x).toArray 48))
  have B0 := Lib.hid ((Below.refl w.heap.size w).alloc (Nat.le_refl _) (.cells (Ev.cells x).toArray 48))
  have hm : x.a.tmod 4 = x.a % 4 := Int.tmod_eq_emod_of_nonneg ha.1
  have HU := Lib.hid ha; clear ha
  by_cases h0 : (Ev.parts x.k == 0) = true
  · have e : Ev.partsOk x = false := by unfold Ev.partsOk; simp at h0; simp [h0]
    rw [e]; clear e
    unfold Ev.evV Ev.cells
    go_enter Tryz.func94, Tryz.ntmps94
    go_wp2_with fail
    refine (parts_any _ _).mono ?_
    rintro e w' ⟨rfl, rfl⟩
    go_wp2_with fail
    go_ret
    exact ⟨rfl, B0.out⟩
  have h0 : (Ev.parts x.k == 0) = false := by simpa using h0
  have n0 : (Ev.parts x.k != 0) = true := by simpa using h0
  by_cases h1 : Ev.extra x = true
  · have e : Ev.partsOk x = false := by unfold Ev.partsOk; simp [h1]
    have h1' : (bits .andNot .i64 ((Ev.filled x : Nat) : Int) (Ev.parts x.k) != 0) = true := h1
    rw [e]; clear e h1 n0
    unfold Ev.evV Ev.cells
    go_enter Tryz.func94, Tryz.ntmps94
    go_wp2_with fail
    refine (parts_any _ _).mono ?_
    rintro e w' ⟨rfl, rfl⟩
    go_wp2_with (show wpList _ _ _ (Oper.mk (some 10) _ _ _ _ _ :: _) _ _; refine wpList_load_row rfl 48 (.tmp 1) rfl w.heap.size rfl 48 (Ev.cells x).toArray (0, 0) _ R0.out Tryz.underlying48 rfl (by kernel_rfl) ?_)
    refine (filled_any x _).mono ?_
    rintro e w2 ⟨rfl, hlt, hb⟩
    have HB := Lib.hid (B0.out.trans (hb.mono (by simp only [World.size_alloc]; omega))); clear hb
    go_wp2_with fail
    go_ret
    exact ⟨rfl, HB.out⟩
  have h1 : Ev.extra x = false := by simpa using h1
  have h1' : (bits .andNot .i64 ((Ev.filled x : Nat) : Int) (Ev.parts x.k) != 0) = false := h1
  have eq : Ev.partsOk x = (Ev.hartOk x && x.a % 4 == 0 && Ev.inB x.p 4 && Ev.inB x.s 4) := by unfold Ev.partsOk; rw [h1, n0]; simp
  rw [eq]; clear eq n0 h1
  obtain ⟨b1, hb1⟩ : ∃ b, b = Ev.hartOk x := ⟨_, rfl⟩
  obtain ⟨b3, hb3⟩ : ∃ b, b = Ev.inB x.p 4 := ⟨_, rfl⟩
  obtain ⟨b4, hb4⟩ : ∃ b, b = Ev.inB x.s 4 := ⟨_, rfl⟩
  rw [← hb1, ← hb3, ← hb4]
  have HB1 := Lib.hid hb1; have HB3 := Lib.hid hb3; have HB4 := Lib.hid hb4; clear hb1 hb3 hb4
  have main : ∀ b2 : Bool, (x.a % 4 == 0) = b2 → Calls Tryz.prog 94 #[Ev.evV x] w fun e w' => e = .returned (.bool (b1 && b2 && b3 && b4)) ∧ Below w.heap.size w w' := by
    intro b2 h2
    have h2t : (x.a.tmod 4 == 0) = b2 := by rw [hm]; exact h2
    unfold Ev.evV Ev.cells
    clear hm
    cases b1 <;> cases b2 <;> cases b3 <;> cases b4
    all_goals
      go_enter Tryz.func94, Tryz.ntmps94
      go_wp2_with fail
      refine (parts_any _ _).mono ?_
      rintro e w' ⟨rfl, rfl⟩
      go_wp2_with (show wpList _ _ _ (Oper.mk (some 10) _ _ _ _ _ :: _) _ _; refine wpList_load_row rfl 48 (.tmp 1) rfl w.heap.size rfl 48 (Ev.cells x).toArray (0, 0) _ R0.out Tryz.underlying48 rfl (by kernel_rfl) ?_)
      refine (filled_any x _).mono ?_
      rintro e w2 ⟨rfl, hlt, hb⟩
      have R2 := Lib.hid ((hb.block w.heap.size (by simp only [World.size_alloc]; omega)).trans R0.out)
      have HB := Lib.hid (B0.out.trans (hb.mono (by simp only [World.size_alloc]; omega))); clear hb
      go_wp2_with (show wpList _ _ _ (Oper.mk (some 16) _ _ _ _ _ :: _) _ _; refine wpList_load_row rfl 48 (.tmp 1) rfl w.heap.size rfl 48 (Ev.cells x).toArray (0, 0) _ R2.out Tryz.underlying48 rfl (by kernel_rfl) ?_)
      refine (hart_any x _).mono ?_
      rintro e w3 ⟨rfl, hb⟩
      have R3 := (hb.block w.heap.size (Array.getElem?_eq_some_iff.1 R2.out).1).trans R2.out
      have c2 : w3.cell? ⟨w.heap.size, 2, none⟩ = some (.int .u32 x.a) := by rw [cell_of_row _ _ _ _ _ _ R3]; rfl
      have c7 : w3.cell? ⟨w.heap.size, 7, none⟩ = some (.int .i64 x.p) := by rw [cell_of_row _ _ _ _ _ _ R3]; rfl
      have c8 : w3.cell? ⟨w.heap.size, 8, none⟩ = some (.int .i64 x.s) := by rw [cell_of_row _ _ _ _ _ _ R3]; rfl
      have HBB := Lib.hid (HB.out.trans (hb.mono HB.out.size)); clear hb R3
      rw [← HB1.out]
      go_wp2_with (first
        | (go_at_call 119; refine (inB_any _ _ _).mono ?_; rintro e w' ⟨rfl, rfl⟩; (first | rw [← HB3.out] | rw [← HB4.out])))
      go_ret
      exact ⟨by first | rfl | simp, HBB.out⟩
  exact main _ rfl
end Go.Proofs.YtecnnkidalkmfaaGreat
end

section
namespace Go.Proofs.YtecnnkidalkmfaaGreat
open Go.RowKit
namespace Ev
def evAt (xs : List R) (k : Nat) : Bool := partsOk (nth xs k) && depsOk xs k && (k == 0 || follow (nth xs ((k : Int) - 1)) (nth xs k))
def evsOk (xs : List R) : Bool := (List.range xs.length).all (evAt xs) && begun xs
end Ev
theorem follow_is {x y : Ev.R} {b : Bool} (h : Ev.follow x y = b) (w : World) : Calls Tryz.prog 96 #[.agg (Ev.cells x).toArray, .agg (Ev.cells y).toArray] w fun e w' => e = .returned (.bool b) ∧ Below w.heap.size w w' := h ▸ follow_any x y w
set_option maxRecDepth 100000 in
set_option maxHeartbeats 4000000 in
theorem evs_any (a : Option Addr) (c : Nat) (xs : List Ev.R) (w : World) (hin : Ev.EvsIn w a c xs) :
    Calls Tryz.prog 71 #[.slice a xs.length c] w fun e w' => e = .returned (.bool (Ev.evsOk xs)) ∧ Below w.heap.size w w' := by
  have hmax := hin.max; have hle := hin.le
  have HIN := Lib.hid hin; clear hin
  go_enter Tryz.func71, Tryz.ntmps71
  go_wp2
  go_loopw [3, 7] (fun _ i wr => ∃ k : Nat, k ≤ xs.length ∧ i = .int .i64 (k : Int) ∧ (∀ j, j < k → Ev.evAt xs j = true) ∧ Below w.heap.size w wr) (fun _ i _ => xs.length - (intOf i).toNat)
  case atStart => exact ⟨0, Nat.zero_le _, rfl, fun j hj => absurd hj (by omega), Below.refl _ _⟩
  case round =>
    obtain ⟨k, hk, rfl, hall, hbr⟩ := hrel
    have HA := Lib.hid hall; have HBR := Lib.hid hbr; clear hall hbr
    by_cases hlt : k < xs.length
    · obtain ⟨x, hx⟩ : ∃ x, xs[k]? = some x := ⟨_, List.getElem?_eq_getElem hlt⟩
      have hxn := Ev.nth_some hx
      have KW := Ev.kp_below HBR.out
      obtain ⟨g, o, ea, hcx⟩ := (HIN.out.kp KW).at_ hx
      have hxa := (HIN.out.ok_ hx).a
      have HC := Lib.hid hcx; have HXN := Lib.hid hxn; have HXA := Lib.hid hxa; have HEA := Lib.hid ea; have HX := Lib.hid hx
      have hki : (k : Int) < (xs.length : Int) := by omega
      have fin : Ev.evAt xs k = false → Ev.evsOk xs = false := fun e => by
        unfold Ev.evsOk
        have : (List.range xs.length).all (Ev.evAt xs) = false := by rw [List.all_eq_false]; exact ⟨k, List.mem_range.2 hlt, by rw [e]; simp⟩
        rw [this]; rfl
      have FIN := Lib.hid fin
      have HAT := Lib.hid (show Ev.evAt xs k = (Ev.partsOk x && Ev.depsOk xs k && (k == 0 || Ev.follow (Ev.nth xs ((k : Int) - 1)) x)) by unfold Ev.evAt; rw [hxn])
      clear hx hxn hcx hxa KW fin
      rw [ea]; clear ea
      go_wp2_with (first
          | (show wpList _ _ _ (Oper.mk (some 11) _ _ _ _ _ :: _) _ _; refine wpList_load_at rfl 48 (.tmp 10) rfl g (o + k * 13) rfl (Ev.cells x) _ HC.out Tryz.underlying48 rfl (by kernel_rfl) ?_)
          | (show wpList _ _ _ (Oper.mk none (Op.store 48 _ _) _ _ _ _ :: _) _ _; refine wpList_store_own rfl 48 (.tmp 4) (.tmp 11) rfl wr.heap.size (Ev.cells x).toArray rfl rfl 48 (Ev.cells Ev.R0).toArray (heap_alloc_new _ _) (by kernel_rfl) (by kernel_rfl) (by kernel_rfl) ?_
             intro W1 HW1
             have B1 := Lib.hid (((Below.refl wr.heap.size wr).alloc (Nat.le_refl _) _).trans HW1.below)
             have RW := Lib.hid HW1.row
             clear HW1)
          | (show wpList _ _ _ (Oper.mk (some 12) _ _ _ _ _ :: _) _ _; refine wpList_load_row rfl 48 (.tmp 4) rfl wr.heap.size (by kernel_rfl) 48 (Ev.cells x).toArray (0, 0) _ RW.out Tryz.underlying48 rfl (by kernel_rfl) ?_))
      refine (partsOk_any x _ HXA.out).mono ?_
      rintro e W2 ⟨rfl, hb2⟩
      have RW2 := Lib.hid ((hb2.block wr.heap.size (Array.getElem?_eq_some_iff.1 RW.out).1).trans RW.out)
      have B2 := Lib.hid (B1.out.trans (hb2.mono B1.out.size)); clear hb2
      obtain ⟨b1, hb1⟩ : ∃ b, Ev.partsOk x = b := ⟨_, rfl⟩
      have H1 := Lib.hid hb1
      rw [hb1]; clear hb1
      cases b1
      · go_wp2_with fail
        go_ret
        exact ⟨by rw [FIN.out (by rw [HAT.out, H1.out]; rfl)]; rfl, HBR.out.trans (B2.out.mono HBR.out.size)⟩
      go_wp2_with fail
      refine (deps_any (some ⟨g, o, none⟩) c xs k hlt _ (by rw [← HEA.out]; exact (HIN.out.kp (Ev.kp_below HBR.out)).kp (Ev.kp_below B2.out))).mono ?_
      rintro e W3 ⟨rfl, hb3⟩
      have RW3 := Lib.hid ((hb3.block wr.heap.size (Array.getElem?_eq_some_iff.1 RW2.out).1).trans RW2.out)
      have B3 := Lib.hid (B2.out.trans (hb3.mono B2.out.size)); clear hb3
      obtain ⟨b2, hb2⟩ : ∃ b, Ev.depsOk xs k = b := ⟨_, rfl⟩
      have H2 := Lib.hid hb2
      rw [hb2]; clear hb2
      cases b2
      · go_wp2_with fail
        go_ret
        exact ⟨by rw [FIN.out (by rw [HAT.out, H1.out, H2.out]; rfl)]; rfl, HBR.out.trans (B3.out.mono HBR.out.size)⟩
      by_cases h0 : k = 0
      · have HK0 := Lib.hid h0
        have hkz : decide (0 < (k : Int)) = false := decide_eq_false (by omega)
        have hkz' : decide (0 < k) = false := decide_eq_false (by omega)
        clear h0
        go_wp2_with fail
        refine Og.regionB (by kernel_rfl) (by kernel_rfl) ?_
        repeat (first
          | go_big_quiet_skip
          | (go_big_quiet_want
             first
              | (go_big_quiet_op
                 first
                  | go_big_quiet_on)))
        refine wpQuiet_nil ?_
        intro _ hw'
        obtain ⟨q9, hw''⟩ := hw'
        subst hw''
        have HEND := Lib.hid (B3.out.trans (q9.b.mono B3.out.size))
        go_wp2_with fail
        go_roundw
        case rel =>
          refine ⟨k + 1, by omega, by go_num, fun j hj => ?_, HBR.out.trans (HEND.out.mono HBR.out.size)⟩
          by_cases hjk : j = k
          · subst hjk; rw [HAT.out, H1.out, H2.out, HK0.out]; rfl
          · exact HA.out j (by omega)
        case measure => simp [intOf]; omega
      · have hkz : decide (0 < (k : Int)) = true := decide_eq_true (by omega)
        have hkz' : decide (0 < k) = true := decide_eq_true (by omega)
        obtain ⟨p, hp⟩ : ∃ p, k = p + 1 := ⟨k - 1, by omega⟩
        have hpi : (k : Int) - 1 = (p : Int) := by omega
        have hpl : p < xs.length := by omega
        obtain ⟨y, hy⟩ : ∃ y, xs[p]? = some y := ⟨_, List.getElem?_eq_getElem hpl⟩
        have hyn := Ev.nth_some hy
        obtain ⟨g', o', eg, hcy⟩ := (HIN.out.kp (Ev.kp_below HBR.out)).at_ hy
        obtain ⟨rfl, rfl⟩ : g' = g ∧ o' = o := by rw [HEA.out] at eg; cases eg; exact ⟨rfl, rfl⟩
        have LY := Lib.hid (fun z : Og.On W3.heap.size W3 => Ev.ld (w := z.x) (g := g') (o := o' + p * 13) (x := y) (fun i c hi => Og.cellB z (Ev.kp_below B3.out _ _ (hcy i c hi))))
        have LX := Lib.hid (fun z : Og.On W3.heap.size W3 => Og.rowB (P := Tryz.prog) z 48 _ RW3.out Tryz.underlying48 rfl (by kernel_rfl))
        obtain ⟨b3, hb3⟩ : ∃ b, Ev.follow y x = b := ⟨_, rfl⟩
        have H3 := Lib.hid hb3
        have HAT2 := Lib.hid (show Ev.evAt xs k = b3 by rw [HAT.out, H1.out, H2.out, hpi, hyn, hb3]; simp [h0])
        have hpx : (p : Int) < (xs.length : Int) := by omega
        have hw1 : IntKind.i64.wrap ((k : Int) - 1) = (p : Int) := by rw [hpi]; exact IntWalk.i64_in _ (by omega)
        clear hy hyn eg hcy hb3 hp h0
        have CF := Lib.hid (fun z : Og.On W3.heap.size W3 => Og.callB (q := z) (follow_is H3.out z.x))
        cases b3
        · go_wp2_with fail
          refine Og.regionB (by kernel_rfl) (by kernel_rfl) ?_
          repeat (first
            | go_big_quiet_skip
            | (go_big_quiet_want
               first
                | (refine Og.quiet_load 48 (.tmp 27) rfl (.agg (Ev.cells y).toArray) ⟨g', o' + p * 13, none⟩ _ rfl (by rintro _ ⟨z, rfl⟩; exact LY.out z) (by simp only [Act.put, List.setIfInBounds_toArray, List.set_cons_zero, List.set_cons_succ]; rfl) ?_
                   go_big_quiet_on)
                | (refine Og.quiet_load 48 (.tmp 4) rfl (.agg (Ev.cells x).toArray) ⟨wr.heap.size, 0, none⟩ _ rfl (by rintro _ ⟨z, rfl⟩; exact LX.out z) (by simp only [Act.put, List.setIfInBounds_toArray, List.set_cons_zero, List.set_cons_succ]; rfl) ?_
                   go_big_quiet_on)
                | (go_big_quiet_op
                   first
                    | go_big_quiet_on
                    | (apply Exists.intro
                       refine ⟨fun z => ?_, ?_⟩
                       · first
                          | exact CF.out z
                       go_big_quiet_on))))
          refine wpQuiet_nil ?_
          intro _ hw'
          obtain ⟨q9, hw''⟩ := hw'
          subst hw''
          have HEND := Lib.hid (B3.out.trans (q9.b.mono B3.out.size))
          go_wp2_with fail
          go_ret
          exact ⟨by rw [FIN.out HAT2.out]; rfl, HBR.out.trans (HEND.out.mono HBR.out.size)⟩
        · go_wp2_with fail
          refine Og.regionB (by kernel_rfl) (by kernel_rfl) ?_
          repeat (first
            | go_big_quiet_skip
            | (go_big_quiet_want
               first
                | (refine Og.quiet_load 48 (.tmp 27) rfl (.agg (Ev.cells y).toArray) ⟨g', o' + p * 13, none⟩ _ rfl (by rintro _ ⟨z, rfl⟩; exact LY.out z) (by simp only [Act.put, List.setIfInBounds_toArray, List.set_cons_zero, List.set_cons_succ]; rfl) ?_
                   go_big_quiet_on)
                | (refine Og.quiet_load 48 (.tmp 4) rfl (.agg (Ev.cells x).toArray) ⟨wr.heap.size, 0, none⟩ _ rfl (by rintro _ ⟨z, rfl⟩; exact LX.out z) (by simp only [Act.put, List.setIfInBounds_toArray, List.set_cons_zero, List.set_cons_succ]; rfl) ?_
                   go_big_quiet_on)
                | (go_big_quiet_op
                   first
                    | go_big_quiet_on
                    | (apply Exists.intro
                       refine ⟨fun z => ?_, ?_⟩
                       · first
                          | exact CF.out z
                       go_big_quiet_on))))
          refine wpQuiet_nil ?_
          intro _ hw'
          obtain ⟨q9, hw''⟩ := hw'
          subst hw''
          have HEND := Lib.hid (B3.out.trans (q9.b.mono B3.out.size))
          go_wp2_with fail
          go_roundw
          case rel =>
            refine ⟨k + 1, by omega, by go_num, fun j hj => ?_, HBR.out.trans (HEND.out.mono HBR.out.size)⟩
            by_cases hjk : j = k
            · subst hjk; exact HAT2.out
            · exact HA.out j (by omega)
          case measure => simp [intOf]; omega
    · have hki : ¬ (k : Int) < (xs.length : Int) := by omega
      have HF := Lib.hid (show Ev.evsOk xs = Ev.begun xs by
        unfold Ev.evsOk
        have : (List.range xs.length).all (Ev.evAt xs) = true := by
          rw [List.all_eq_true]; intro j hj; exact HA.out j (by have := List.mem_range.1 hj; omega)
        rw [this, Bool.true_and])
      go_wp2_with fail
      refine (begun_any a c xs _ (HIN.out.kp (Ev.kp_below HBR.out))).mono ?_
      rintro e W2 ⟨rfl, hb2⟩
      have HEND := Lib.hid (HBR.out.trans (hb2.mono HBR.out.size)); clear hb2
      go_wp2_with fail
      go_ret
      exact ⟨by rw [HF.out]; rfl, HEND.out⟩
end Go.Proofs.YtecnnkidalkmfaaGreat
end

section
namespace Go.Proofs.YtecnnkidalkmfaaGreat
open Go.RowKit
namespace Og
def Std (w x : World) : Prop := Below w.heap.size w x
theorem std_cell {w x : World} (h : Std w x) {p : Addr} {v : Value} (e : w.cell? p = some v) : x.cell? p = some v := Ev.kp_below h p v e
theorem held_take {P : Program} {ops : Array Oper} {Q : Exit → Act → World → Prop} {S : World → Prop} {fuel : Nat} {listed : Array Bool} {a : Act} {w : World} (i : Nat) (o : Oper) (v : Value) (a' : Act) (hi : ops[i]? = some o) (hg : o.guard = none)
    (hs : Region.noSelect ops = true) (hf : Region.free .any ops listed i = true) (hr : (Region.ready .any ops listed).contains i = true)
    (hQ : ∀ c a w, Q (.panic c) (a.put o.dst v) w → Q (.panic c) a w) (hS : S w)
    (hrun : ∀ x, S x → (execOp a.eval o).run P x = .ok (.value v) x) (ha : a.put o.dst v = a')
    (h : wpAnyH P .any ops Q S fuel (listed.setIfInBounds i true) a' w) : wpAnyH P .any ops Q S (fuel + 1) listed a w :=
  wpAnyH_take hi hs hf hr hQ (Or.inl ⟨by unfold Region.wanted; rw [hg], hrun⟩) hS (by rw [ha]; exact h)
theorem held_op {P : Program} {ops : Array Oper} {Q : Exit → Act → World → Prop} {S : World → Prop} {fuel : Nat} {listed : Array Bool} {a : Act} {w : World} (i : Nat) (o : Oper) (v : Value) (w' : World) (a' : Act) (hi : ops[i]? = some o) (hg : o.guard = none)
    (hrun : (execOp a.eval o).run P w = .ok (.value v) w') (ha : a.put o.dst v = a') (hS : S w')
    (h : wpAnyH P .any ops Q S fuel (listed.setIfInBounds i true) a' w') : wpOp P ops Q i (fun a' w' => S w' ∧ wpAnyH P .any ops Q S fuel (listed.setIfInBounds i true) a' w') a w := by
  unfold wpOp
  rw [hi]
  have hw : Region.wanted o (yielded ops a.tmps) = true := by unfold Region.wanted; rw [hg]
  simp only [hw, if_true]
  refine .inl ?_
  unfold Oper.wp
  rw [hrun]
  show _ ∧ _
  rw [ha]
  exact ⟨hS, h⟩
theorem held_op' {P : Program} {ops : Array Oper} {Q : Exit → Act → World → Prop} {S : World → Prop} {fuel : Nat} {listed : Array Bool} {a : Act} {w : World} (i : Nat) (o : Oper) (w' : World) (a' : Act) (hi : ops[i]? = some o) (hg : o.guard = none)
    (hrun : (execOp a.eval o).run P w = .ok .skip w') (ha : a.put o.dst undef = a') (hS : S w')
    (h : wpAnyH P .any ops Q S fuel (listed.setIfInBounds i true) a' w') : wpOp P ops Q i (fun a' w' => S w' ∧ wpAnyH P .any ops Q S fuel (listed.setIfInBounds i true) a' w') a w := by
  unfold wpOp
  rw [hi]
  have hw : Region.wanted o (yielded ops a.tmps) = true := by unfold Region.wanted; rw [hg]
  simp only [hw, if_true]
  refine .inl ?_
  unfold Oper.wp
  rw [hrun]
  show _ ∧ _
  rw [ha]
  exact ⟨hS, h⟩
theorem held_one {P : Program} {ops : Array Oper} {Q : Exit → Act → World → Prop} {S : World → Prop} {fuel : Nat} {listed : Array Bool} {a : Act} {w : World} (i : Nat) (hr : Region.ready .any ops listed = [i])
    (h : wpOp P ops Q i (fun a' w' => S w' ∧ wpAnyH P .any ops Q S fuel (listed.setIfInBounds i true) a' w') a w) : wpAnyH P .any ops Q S (fuel + 1) listed a w :=
  wpAnyH_all hr (by simp) (fun j hj => by obtain rfl : j = i := by simpa using hj
                                          exact h)
theorem held_two {P : Program} {ops : Array Oper} {Q : Exit → Act → World → Prop} {S : World → Prop} {fuel : Nat} {listed : Array Bool} {a : Act} {w : World} (i k : Nat) (hr : Region.ready .any ops listed = [i, k])
    (h1 : wpOp P ops Q i (fun a' w' => S w' ∧ wpAnyH P .any ops Q S fuel (listed.setIfInBounds i true) a' w') a w)
    (h2 : wpOp P ops Q k (fun a' w' => S w' ∧ wpAnyH P .any ops Q S fuel (listed.setIfInBounds k true) a' w') a w) : wpAnyH P .any ops Q S (fuel + 1) listed a w :=
  wpAnyH_all hr (by simp) (fun j hj => by
    rcases (by simpa using hj : j = i ∨ j = k) with rfl | rfl
    · exact h1
    · exact h2)
structure Two (w W : World) (g1 g2 : Nat) (t : TypeId) (c1 c2 : Array Value) : Prop where
  r1 : W.heap[g1]? = some (.cells c1 t (0, 0))
  r2 : W.heap[g2]? = some (.cells c2 t (0, 0))
  ge1 : w.heap.size ≤ g1
  ge2 : w.heap.size ≤ g2
  below : Below w.heap.size w W
theorem two_a {w w1 : World} (h0 : Below w.heap.size w w1) {t : TypeId} {z c1 c2 : Array Value} (h1 : z.size = c1.size) (h2 : z.size = c2.size) :
    Two w (((((w1.alloc (.cells z t)).alloc (.cells z t)).setRow w1.heap.size c1)).setRow (w1.heap.size + 1) c2) w1.heap.size (w1.heap.size + 1) t c1 c2 := by
  have s0 := h0.size
  have a1 : ((w1.alloc (.cells z t)).alloc (.cells z t)).heap[w1.heap.size]? = some (.cells z t (0, 0)) := (Below.heap_alloc _ _ _ (by simp)).trans (heap_alloc_new _ _)
  have a2 : ((w1.alloc (.cells z t)).alloc (.cells z t)).heap[w1.heap.size + 1]? = some (.cells z t (0, 0)) := heap_alloc2_new _ _ _
  have e1 := Ev.set1 a1 h1
  have a3 := (e1.block (w1.heap.size + 1) (by omega)).trans a2
  have e2 := Ev.set1 a3 h2
  refine ⟨(e2.block _ (by omega)).trans e1.row, e2.row, s0, by omega, ?_⟩
  exact (((h0.alloc s0 _).alloc (by simp only [World.size_alloc]; omega) _).trans (e1.below.mono s0)).trans (e2.below.mono (by omega))
theorem two_b {w w1 : World} (h0 : Below w.heap.size w w1) {t : TypeId} {z c1 c2 : Array Value} (h1 : z.size = c1.size) (h2 : z.size = c2.size) :
    Two w (((((w1.alloc (.cells z t)).alloc (.cells z t)).setRow (w1.heap.size + 1) c1)).setRow w1.heap.size c2) (w1.heap.size + 1) w1.heap.size t c1 c2 := by
  have s0 := h0.size
  have a1 : ((w1.alloc (.cells z t)).alloc (.cells z t)).heap[w1.heap.size]? = some (.cells z t (0, 0)) := (Below.heap_alloc _ _ _ (by simp)).trans (heap_alloc_new _ _)
  have a2 : ((w1.alloc (.cells z t)).alloc (.cells z t)).heap[w1.heap.size + 1]? = some (.cells z t (0, 0)) := heap_alloc2_new _ _ _
  have e1 := Ev.set1 a2 h1
  have a3 := (e1.block w1.heap.size (by omega)).trans a1
  have e2 := Ev.set1 a3 h2
  refine ⟨(e2.block _ (by omega)).trans e1.row, e2.row, by omega, s0, ?_⟩
  exact (((h0.alloc s0 _).alloc (by simp only [World.size_alloc]; omega) _).trans (e1.below.mono (by omega))).trans (e2.below.mono s0)
theorem load_run {P : Program} {o : Oper} {ρ : Operand → Value} {w : World} {v : Value} (ty : TypeId) (x : Operand) (ho : o.op = .load ty x) (p : Addr) (hx : ρ x = .pointer (some p)) (hl : (loadVar ty p).run P w = .ok v w) : (execOp ρ o).run P w = .ok (.value v) w := by
  unfold execOp
  simp only [ho, hx, Instr.loadAt, Instr.sureAddr, Sem.run_bind, Sem.run_pure, Result.andThen_ok, hl]
theorem store_run {P : Program} {o : Oper} {ρ : Operand → Value} {w : World} (ty : TypeId) (x y : Operand) (ho : o.op = .store ty x y) (g : Nat) (cells : Array Value) (hx : ρ x = .pointer (some ⟨g, 0, none⟩)) (hy : ρ y = .agg cells)
    (t : TypeId) (old : Array Value) (hg : w.heap[g]? = some (.cells old t (0, 0))) (hi : (P.info? ty).map (·.size) = some cells.size) (hold : old.size = cells.size) (h1 : cells.all (·.oneCell') = true) :
    (execOp ρ o).run P w = .ok (.value undef) (w.setRow g cells) ∨ (execOp ρ o).run P w = .ok .skip (w.setRow g cells) := by
  unfold execOp
  simp only [ho, hx, hy, Instr.storeAt, Instr.sureAddr, Sem.run_bind, Sem.run_pure, Result.andThen_ok, run_storeVar_row w g t ty old cells hg hi hold h1]
  first | exact .inl rfl | exact .inr rfl | exact .inl trivial | exact .inr trivial
structure Four (P : Program) (ops : Array Oper) (listed : Array Bool) (a : Act) (p q s1 s2 dp dq x1 x2 : Nat) (T : TypeId) (Z c1 c2 : Array Value) : Prop where
  ap : ∃ o, ops[p]? = some o ∧ o.guard = none ∧ o.dst = some dp ∧ ∀ ρ w, (execOp ρ o).run P w = .ok (.value (.pointer (some ⟨w.heap.size, 0, none⟩))) (w.alloc (.cells Z T))
  aq : ∃ o, ops[q]? = some o ∧ o.guard = none ∧ o.dst = some dq ∧ ∀ ρ w, (execOp ρ o).run P w = .ok (.value (.pointer (some ⟨w.heap.size, 0, none⟩))) (w.alloc (.cells Z T))
  a1 : ∃ o, ops[s1]? = some o ∧ o.guard = none ∧ o.dst = none ∧ o.op = .store T (.tmp dp) (.tmp x1)
  a2 : ∃ o, ops[s2]? = some o ∧ o.guard = none ∧ o.dst = none ∧ o.op = .store T (.tmp dq) (.tmp x2)
  r0 : Region.ready .any ops listed = [p, q]
  rp : Region.ready .any ops (listed.setIfInBounds p true) = [q]
  rq : Region.ready .any ops (listed.setIfInBounds q true) = [p]
  r2 : Region.ready .any ops ((listed.setIfInBounds p true).setIfInBounds q true) = [s1]
  r2' : Region.ready .any ops ((listed.setIfInBounds q true).setIfInBounds p true) = [s1]
  r3 : Region.ready .any ops (((listed.setIfInBounds p true).setIfInBounds q true).setIfInBounds s1 true) = [s2]
  r3' : Region.ready .any ops (((listed.setIfInBounds q true).setIfInBounds p true).setIfInBounds s1 true) = [s2]
  r4 : Region.ready .any ops ((((listed.setIfInBounds p true).setIfInBounds q true).setIfInBounds s1 true).setIfInBounds s2 true) = []
  r4' : Region.ready .any ops ((((listed.setIfInBounds q true).setIfInBounds p true).setIfInBounds s1 true).setIfInBounds s2 true) = []
  v1 : a.tmps.getD x1 undef = .agg c1
  v2 : a.tmps.getD x2 undef = .agg c2
  hdp : dp < a.tmps.size
  hdq : dq < a.tmps.size
  n1 : x1 ≠ dp ∧ x1 ≠ dq ∧ x2 ≠ dp ∧ x2 ≠ dq ∧ dp ≠ dq
  z1 : Z.size = c1.size
  z2 : Z.size = c2.size
  i1 : (P.info? T).map (·.size) = some c1.size
  i2 : (P.info? T).map (·.size) = some c2.size
  o1 : c1.all (·.oneCell') = true
  o2 : c2.all (·.oneCell') = true
theorem dget_put (a : Act) (d : Nat) (v : Value) (t : Nat) (hd : d < a.tmps.size) : (a.put (some d) v).tmps.getD t undef = if t = d then v else a.tmps.getD t undef := by
  by_cases h : t = d
  · subst h; simp [Act.put, hd]
  · rw [if_neg h]; simp [Act.put, Array.getElem?_setIfInBounds_ne (Ne.symm h)]
theorem dsize_put (a : Act) (d : Option Nat) (v : Value) : (a.put d v).tmps.size = a.tmps.size := by cases d <;> simp [Act.put]
theorem store_step {P : Program} {ops : Array Oper} {Q : Exit → Act → World → Prop} {S : World → Prop} {fuel : Nat} {listed : Array Bool} {a : Act} {w : World} (i : Nat) (o : Oper) (hi : ops[i]? = some o) (hg : o.guard = none) (hd : o.dst = none) (T : TypeId) (x y : Nat) (ho : o.op = .store T (.tmp x) (.tmp y))
    (hr : Region.ready .any ops listed = [i]) (g : Nat) (cells old : Array Value) (hx : a.tmps.getD x undef = .pointer (some ⟨g, 0, none⟩)) (hy : a.tmps.getD y undef = .agg cells)
    (hgw : w.heap[g]? = some (.cells old T (0, 0))) (hin : (P.info? T).map (·.size) = some cells.size) (hold : old.size = cells.size) (h1 : cells.all (·.oneCell') = true) (hS : S (w.setRow g cells))
    (h : wpAnyH P .any ops Q S fuel (listed.setIfInBounds i true) a (w.setRow g cells)) : wpAnyH P .any ops Q S (fuel + 1) listed a w := by
  refine held_one i hr ?_
  rcases store_run (P := P) (o := o) (ρ := a.eval) (w := w) T (.tmp x) (.tmp y) ho g cells hx hy T old hgw hin hold h1 with hrun | hrun
  · exact held_op i o undef _ a hi hg hrun (by rw [hd]; rfl) hS h
  · exact held_op' i o _ a hi hg hrun (by rw [hd]; rfl) hS h
theorem four {P : Program} {ops : Array Oper} {Q : Exit → Act → World → Prop} {w w1 : World} {listed : Array Bool} {a : Act} {fuel p q s1 s2 dp dq x1 x2 : Nat} {T : TypeId} {Z c1 c2 : Array Value} (F : Four P ops listed a p q s1 s2 dp dq x1 x2 T Z c1 c2) (S0 : Std w w1)
    (h : ∀ W g1 g2, Two w W g1 g2 T c1 c2 → Q .normal ((a.put (some dp) (.pointer (some ⟨g1, 0, none⟩))).put (some dq) (.pointer (some ⟨g2, 0, none⟩))) W) :
    wpAnyH P .any ops Q (Std w) (fuel + 4) listed a w1 := by
  obtain ⟨op, hp, gp, dpe, rp⟩ := F.ap
  obtain ⟨oq, hq, gq, dqe, rq⟩ := F.aq
  obtain ⟨b1, hb1, gb1, db1, ob1⟩ := F.a1
  obtain ⟨b2, hb2, gb2, db2, ob2⟩ := F.a2
  obtain ⟨n1, n2, n3, n4, n5⟩ := F.n1
  have s0 : w.heap.size ≤ w1.heap.size := Below.size S0
  have A1 : Std w (w1.alloc (.cells Z T)) := Below.alloc S0 s0 _
  have A2 : Std w ((w1.alloc (.cells Z T)).alloc (.cells Z T)) := Below.alloc A1 (by simp only [World.size_alloc]; omega) _
  have m1 : ((w1.alloc (.cells Z T)).alloc (.cells Z T)).heap[w1.heap.size]? = some (.cells Z T (0, 0)) := (Below.heap_alloc _ _ _ (by simp)).trans (heap_alloc_new _ _)
  have m2 : ((w1.alloc (.cells Z T)).alloc (.cells Z T)).heap[w1.heap.size + 1]? = some (.cells Z T (0, 0)) := heap_alloc2_new _ _ _
  have e2 : (w1.alloc (.cells Z T)).heap.size = w1.heap.size + 1 := by simp only [World.size_alloc]
  refine held_two p q F.r0 ?_ ?_
  · refine held_op p op _ _ _ hp gp (rp _ _) rfl A1 ?_
    refine held_one q F.rp (held_op q oq _ _ _ hq gq (rq _ _) rfl A2 ?_)
    rw [dpe, dqe, e2]
    have t1 := Ev.set1 m1 F.z1
    have B1 : Std w (((w1.alloc (.cells Z T)).alloc (.cells Z T)).setRow w1.heap.size c1) := Below.trans A2 (t1.below.mono s0)
    have m3 := (t1.block (w1.heap.size + 1) (by omega)).trans m2
    have t2 := Ev.set1 m3 F.z2
    have B2 := Below.trans B1 (t2.below.mono (Nat.le_succ_of_le s0))
    refine store_step s1 b1 hb1 gb1 db1 T dp x1 ob1 F.r2 w1.heap.size c1 Z ?_ ?_ m1 F.i1 F.z1 F.o1 B1 ?_
    · rw [dget_put _ _ _ _ (by rw [dsize_put]; exact F.hdq), if_neg n5, dget_put _ _ _ _ F.hdp, if_pos rfl]
    · rw [dget_put _ _ _ _ (by rw [dsize_put]; exact F.hdq), if_neg n2, dget_put _ _ _ _ F.hdp, if_neg n1]; exact F.v1
    refine store_step s2 b2 hb2 gb2 db2 T dq x2 ob2 F.r3 (w1.heap.size + 1) c2 Z ?_ ?_ m3 F.i2 F.z2 F.o2 B2 ?_
    · rw [dget_put _ _ _ _ (by rw [dsize_put]; exact F.hdq), if_pos rfl]
    · rw [dget_put _ _ _ _ (by rw [dsize_put]; exact F.hdq), if_neg n4, dget_put _ _ _ _ F.hdp, if_neg n3]; exact F.v2
    exact wpAnyH_done F.r4 (h _ _ _ (two_a S0 F.z1 F.z2)) _
  · refine held_op q oq _ _ _ hq gq (rq _ _) rfl A1 ?_
    refine held_one p F.rq (held_op p op _ _ _ hp gp (rp _ _) rfl A2 ?_)
    rw [dpe, dqe, e2]
    have t1 := Ev.set1 m2 F.z1
    have B1 : Std w (((w1.alloc (.cells Z T)).alloc (.cells Z T)).setRow (w1.heap.size + 1) c1) := Below.trans A2 (t1.below.mono (Nat.le_succ_of_le s0))
    have m3 := (t1.block w1.heap.size (by omega)).trans m1
    have t2 := Ev.set1 m3 F.z2
    have B2 := Below.trans B1 (t2.below.mono s0)
    refine store_step s1 b1 hb1 gb1 db1 T dp x1 ob1 F.r2' (w1.heap.size + 1) c1 Z ?_ ?_ m2 F.i1 F.z1 F.o1 B1 ?_
    · rw [dget_put _ _ _ _ (by rw [dsize_put]; exact F.hdp), if_pos rfl]
    · rw [dget_put _ _ _ _ (by rw [dsize_put]; exact F.hdp), if_neg n1, dget_put _ _ _ _ F.hdq, if_neg n2]; exact F.v1
    refine store_step s2 b2 hb2 gb2 db2 T dq x2 ob2 F.r3' w1.heap.size c2 Z ?_ ?_ m3 F.i2 F.z2 F.o2 B2 ?_
    · rw [dget_put _ _ _ _ (by rw [dsize_put]; exact F.hdp), if_neg (Ne.symm n5), dget_put _ _ _ _ F.hdq, if_pos rfl]
    · rw [dget_put _ _ _ _ (by rw [dsize_put]; exact F.hdp), if_neg n3, dget_put _ _ _ _ F.hdq, if_neg n4]; exact F.v2
    refine wpAnyH_done F.r4' ?_ _
    have hc : ∀ u v : Value, (a.put (some dq) u).put (some dp) v = (a.put (some dp) v).put (some dq) u := fun u v => by
      simp only [Act.put]
      congr 1
      exact Array.setIfInBounds_comm _ _ (Ne.symm n5)
    rw [hc]
    exact h _ _ _ (two_b S0 F.z1 F.z2)
end Og
end Go.Proofs.YtecnnkidalkmfaaGreat
end
