import Derived.Test.YtecnnkidalkmfaaGreatKc04
import Derived.Test.YtecnnkidalkmfaaGreatKc05
set_option linter.unusedVariables false
set_option linter.unusedSimpArgs false

section
namespace Go.Proofs.YtecnnkidalkmfaaGreat
open Go.RowKit
namespace Ev
def evAt (xs : List R) (k : Nat) : Bool := partsOk (nth xs k) && depsOk xs k && (k == 0 || follow (nth xs ((k : Int) - 1)) (nth xs k))
def evsOk (xs : List R) : Bool := (List.range xs.length).all (evAt xs) && begun xs
end Ev
theorem follow_is {x y : Ev.R} {b : Bool} (h : Ev.follow x y = b) (w : World) : Calls Tryz.prog 96 #[.agg (Ev.cells x).toArray, .agg (Ev.cells y).toArray] w fun e w' => e = .returned (.bool b) ∧ Below w.heap.size w w' := h ▸ follow_any x y w
set_option maxRecDepth 100000 in
set_option maxHeartbeats 4000000 in
theorem evs_any (a : Option Addr) (c : Nat) (xs : List Ev.R) (w : World) (hin : Ev.EvsIn w a c xs) :
    Calls Tryz.prog 71 #[.slice a xs.length c] w fun e w' => e = .returned (.bool (Ev.evsOk xs)) ∧ Below w.heap.size w w' := by
  have hmax := hin.max; have hle := hin.le
  have HIN := Lib.hid hin; clear hin
  go_enter Tryz.func71, Tryz.ntmps71
  go_wp2
  go_loopw [3, 7] (fun _ i wr => ∃ k : Nat, k ≤ xs.length ∧ i = .int .i64 (k : Int) ∧ (∀ j, j < k → Ev.evAt xs j = true) ∧ Below w.heap.size w wr) (fun _ i _ => xs.length - (intOf i).toNat)
  case atStart => exact ⟨0, Nat.zero_le _, rfl, fun j hj => absurd hj (by omega), Below.refl _ _⟩
  case round =>
    obtain ⟨k, hk, rfl, hall, hbr⟩ := hrel
    have HA := Lib.hid hall; have HBR := Lib.hid hbr; clear hall hbr
    by_cases hlt : k < xs.length
    · obtain ⟨x, hx⟩ : ∃ x, xs[k]? = some x := ⟨_, List.getElem?_eq_getElem hlt⟩
      have hxn := Ev.nth_some hx
      have KW := Ev.kp_below HBR.out
      obtain ⟨g, o, ea, hcx⟩ := (HIN.out.kp KW).at_ hx
      have hxa := (HIN.out.ok_ hx).a
      have HC := Lib.hid hcx; have HXN := Lib.hid hxn; have HXA := Lib.hid hxa; have HEA := Lib.hid ea; have HX := Lib.hid hx
      have hki : (k : Int) < (xs.length : Int) := by omega
      have fin : Ev.evAt xs k = false → Ev.evsOk xs = false := fun e => by
        unfold Ev.evsOk
        have : (List.range xs.length).all (Ev.evAt xs) = false := by rw [List.all_eq_false]; exact ⟨k, List.mem_range.2 hlt, by rw [e]; simp⟩
        rw [this]; rfl
      have FIN := Lib.hid fin
      have HAT := Lib.hid (show Ev.evAt xs k = (Ev.partsOk x && Ev.depsOk xs k && (k == 0 || Ev.follow (Ev.nth xs ((k : Int) - 1)) x)) by unfold Ev.evAt; rw [hxn])
      clear hx hxn hcx hxa KW fin
      rw [ea]; clear ea
      go_wp2_with (first
          | (show wpList _ _ _ (Oper.mk (some 11) _ _ _ _ _ :: _) _ _; refine wpList_load_at rfl 48 (.tmp 10) rfl g (o + k * 13) rfl (Ev.cells x) _ HC.out Tryz.underlying48 rfl (by kernel_rfl) ?_)
          | (show wpList _ _ _ (Oper.mk none (Op.store 48 _ _) _ _ _ _ :: _) _ _; refine wpList_store_own rfl 48 (.tmp 4) (.tmp 11) rfl wr.heap.size (Ev.cells x).toArray rfl rfl 48 (Ev.cells Ev.R0).toArray (heap_alloc_new _ _) (by kernel_rfl) (by kernel_rfl) (by kernel_rfl) ?_
             intro W1 HW1
             have B1 := Lib.hid (((Below.refl wr.heap.size wr).alloc (Nat.le_refl _) _).trans HW1.below)
             have RW := Lib.hid HW1.row
             clear HW1)
          | (show wpList _ _ _ (Oper.mk (some 12) _ _ _ _ _ :: _) _ _; refine wpList_load_row rfl 48 (.tmp 4) rfl wr.heap.size (by kernel_rfl) 48 (Ev.cells x).toArray (0, 0) _ RW.out Tryz.underlying48 rfl (by kernel_rfl) ?_))
      refine (partsOk_any x _ HXA.out).mono ?_
      rintro e W2 ⟨rfl, hb2⟩
      have RW2 := Lib.hid ((hb2.block wr.heap.size (Array.getElem?_eq_some_iff.1 RW.out).1).trans RW.out)
      have B2 := Lib.hid (B1.out.trans (hb2.mono B1.out.size)); clear hb2
      obtain ⟨b1, hb1⟩ : ∃ b, Ev.partsOk x = b := ⟨_, rfl⟩
      have H1 := Lib.hid hb1
      rw [hb1]; clear hb1
      cases b1
      · go_wp2_with fail
        go_ret
        exact ⟨by rw [FIN.out (by rw [HAT.out, H1.out]; rfl)]; rfl, HBR.out.trans (B2.out.mono HBR.out.size)⟩
      go_wp2_with fail
      refine (deps_any (some ⟨g, o, none⟩) c xs k hlt _ (by rw [← HEA.out]; exact (HIN.out.kp (Ev.kp_below HBR.out)).kp (Ev.kp_below B2.out))).mono ?_
      rintro e W3 ⟨rfl, hb3⟩
      have RW3 := Lib.hid ((hb3.block wr.heap.size (Array.getElem?_eq_some_iff.1 RW2.out).1).trans RW2.out)
      have B3 := Lib.hid (B2.out.trans (hb3.mono B2.out.size)); clear hb3
      obtain ⟨b2, hb2⟩ : ∃ b, Ev.depsOk xs k = b := ⟨_, rfl⟩
      have H2 := Lib.hid hb2
      rw [hb2]; clear hb2
      cases b2
      · go_wp2_with fail
        go_ret
        exact ⟨by rw [FIN.out (by rw [HAT.out, H1.out, H2.out]; rfl)]; rfl, HBR.out.trans (B3.out.mono HBR.out.size)⟩
      by_cases h0 : k = 0
      · have HK0 := Lib.hid h0
        have hkz : decide (0 < (k : Int)) = false := decide_eq_false (by omega)
        have hkz' : decide (0 < k) = false := decide_eq_false (by omega)
        clear h0
        go_wp2_with fail
        refine Og.regionB (by kernel_rfl) (by kernel_rfl) ?_
        repeat (first
          | go_big_quiet_skip
          | (go_big_quiet_want
             first
              | (go_big_quiet_op
                 first
                  | go_big_quiet_on)))
        refine wpQuiet_nil ?_
        intro _ hw'
        obtain ⟨q9, hw''⟩ := hw'
        subst hw''
        have HEND := Lib.hid (B3.out.trans (q9.b.mono B3.out.size))
        go_wp2_with fail
        go_roundw
        case rel =>
          refine ⟨k + 1, by omega, by go_num, fun j hj => ?_, HBR.out.trans (HEND.out.mono HBR.out.size)⟩
          by_cases hjk : j = k
          · subst hjk; rw [HAT.out, H1.out, H2.out, HK0.out]; rfl
          · exact HA.out j (by omega)
        case measure => simp [intOf]; omega
      · have hkz : decide (0 < (k : Int)) = true := decide_eq_true (by omega)
        have hkz' : decide (0 < k) = true := decide_eq_true (by omega)
        obtain ⟨p, hp⟩ : ∃ p, k = p + 1 := ⟨k - 1, by omega⟩
        have hpi : (k : Int) - 1 = (p : Int) := by omega
        have hpl : p < xs.length := by omega
        obtain ⟨y, hy⟩ : ∃ y, xs[p]? = some y := ⟨_, List.getElem?_eq_getElem hpl⟩
        have hyn := Ev.nth_some hy
        obtain ⟨g', o', eg, hcy⟩ := (HIN.out.kp (Ev.kp_below HBR.out)).at_ hy
        obtain ⟨rfl, rfl⟩ : g' = g ∧ o' = o := by rw [HEA.out] at eg; cases eg; exact ⟨rfl, rfl⟩
        have LY := Lib.hid (fun z : Og.On W3.heap.size W3 => Ev.ld (w := z.x) (g := g') (o := o' + p * 13) (x := y) (fun i c hi => Og.cellB z (Ev.kp_below B3.out _ _ (hcy i c hi))))
        have LX := Lib.hid (fun z : Og.On W3.heap.size W3 => Og.rowB (P := Tryz.prog) z 48 _ RW3.out Tryz.underlying48 rfl (by kernel_rfl))
        obtain ⟨b3, hb3⟩ : ∃ b, Ev.follow y x = b := ⟨_, rfl⟩
        have H3 := Lib.hid hb3
        have HAT2 := Lib.hid (show Ev.evAt xs k = b3 by rw [HAT.out, H1.out, H2.out, hpi, hyn, hb3]; simp [h0])
        have hpx : (p : Int) < (xs.length : Int) := by omega
        have hw1 : IntKind.i64.wrap ((k : Int) - 1) = (p : Int) := by rw [hpi]; exact IntWalk.i64_in _ (by omega)
        clear hy hyn eg hcy hb3 hp h0
        have CF := Lib.hid (fun z : Og.On W3.heap.size W3 => Og.callB (q := z) (follow_is H3.out z.x))
        cases b3
        · go_wp2_with fail
          refine Og.regionB (by kernel_rfl) (by kernel_rfl) ?_
          repeat (first
            | go_big_quiet_skip
            | (go_big_quiet_want
               first
                | (refine Og.quiet_load 48 (.tmp 27) rfl (.agg (Ev.cells y).toArray) ⟨g', o' + p * 13, none⟩ _ rfl (by rintro _ ⟨z, rfl⟩; exact LY.out z) (by simp only [Act.put, List.setIfInBounds_toArray, List.set_cons_zero, List.set_cons_succ]; rfl) ?_
                   go_big_quiet_on)
                | (refine Og.quiet_load 48 (.tmp 4) rfl (.agg (Ev.cells x).toArray) ⟨wr.heap.size, 0, none⟩ _ rfl (by rintro _ ⟨z, rfl⟩; exact LX.out z) (by simp only [Act.put, List.setIfInBounds_toArray, List.set_cons_zero, List.set_cons_succ]; rfl) ?_
                   go_big_quiet_on)
                | (go_big_quiet_op
                   first
                    | go_big_quiet_on
                    | (apply Exists.intro
                       refine ⟨fun z => ?_, ?_⟩
                       · first
                          | exact CF.out z
                       go_big_quiet_on))))
          refine wpQuiet_nil ?_
          intro _ hw'
          obtain ⟨q9, hw''⟩ := hw'
          subst hw''
          have HEND := Lib.hid (B3.out.trans (q9.b.mono B3.out.size))
          go_wp2_with fail
          go_ret
          exact ⟨by rw [FIN.out HAT2.out]; rfl, HBR.out.trans (HEND.out.mono HBR.out.size)⟩
        · go_wp2_with fail
          refine Og.regionB (by kernel_rfl) (by kernel_rfl) ?_
          repeat (first
            | go_big_quiet_skip
            | (go_big_quiet_want
               first
                | (refine Og.quiet_load 48 (.tmp 27) rfl (.agg (Ev.cells y).toArray) ⟨g', o' + p * 13, none⟩ _ rfl (by rintro _ ⟨z, rfl⟩; exact LY.out z) (by simp only [Act.put, List.setIfInBounds_toArray, List.set_cons_zero, List.set_cons_succ]; rfl) ?_
                   go_big_quiet_on)
                | (refine Og.quiet_load 48 (.tmp 4) rfl (.agg (Ev.cells x).toArray) ⟨wr.heap.size, 0, none⟩ _ rfl (by rintro _ ⟨z, rfl⟩; exact LX.out z) (by simp only [Act.put, List.setIfInBounds_toArray, List.set_cons_zero, List.set_cons_succ]; rfl) ?_
                   go_big_quiet_on)
                | (go_big_quiet_op
                   first
                    | go_big_quiet_on
                    | (apply Exists.intro
                       refine ⟨fun z => ?_, ?_⟩
                       · first
                          | exact CF.out z
                       go_big_quiet_on))))
          refine wpQuiet_nil ?_
          intro _ hw'
          obtain ⟨q9, hw''⟩ := hw'
          subst hw''
          have HEND := Lib.hid (B3.out.trans (q9.b.mono B3.out.size))
          go_wp2_with fail
          go_roundw
          case rel =>
            refine ⟨k + 1, by omega, by go_num, fun j hj => ?_, HBR.out.trans (HEND.out.mono HBR.out.size)⟩
            by_cases hjk : j = k
            · subst hjk; exact HAT2.out
            · exact HA.out j (by omega)
          case measure => simp [intOf]; omega
    · have hki : ¬ (k : Int) < (xs.length : Int) := by omega
      have HF := Lib.hid (show Ev.evsOk xs = Ev.begun xs by
        unfold Ev.evsOk
        have : (List.range xs.length).all (Ev.evAt xs) = true := by
          rw [List.all_eq_true]; intro j hj; exact HA.out j (by have := List.mem_range.1 hj; omega)
        rw [this, Bool.true_and])
      go_wp2_with fail
      refine (begun_any a c xs _ (HIN.out.kp (Ev.kp_below HBR.out))).mono ?_
      rintro e W2 ⟨rfl, hb2⟩
      have HEND := Lib.hid (HBR.out.trans (hb2.mono HBR.out.size)); clear hb2
      go_wp2_with fail
      go_ret
      exact ⟨by rw [HF.out]; rfl, HEND.out⟩
end Go.Proofs.YtecnnkidalkmfaaGreat
end
