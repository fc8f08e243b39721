import Derived.Test.YtnjnpbabgefaeaaGreatKg09
import Derived.Test.YtnjnpbabgefaeaaGreatKg07
import Derived.Test.YtnjnpbabgefaeaaGreatKg10
import Derived.Test.YtnjnpbabgefaeaaGreatKg05
import Derived.Test.YtnjnpbabgefaeaaGreatKg01
import Derived.WalkKit
set_option linter.unusedVariables false
set_option linter.unusedSimpArgs false

section
namespace Go.Proofs.YtnjnpbabgefaeaaGreat
open Go.RowKit
namespace Ev
def evAt (xs : List R) (k : Nat) : Bool := partsOk (nth xs k) && depsOk xs k && (k == 0 || follow (nth xs ((k : Int) - 1)) (nth xs k))
def evsOk (xs : List R) : Bool := (List.range xs.length).all (evAt xs) && begun xs
end Ev
theorem follow_is {x y : Ev.R} {b : Bool} (h : Ev.follow x y = b) (w : World) : Calls Tryz.prog 96 #[.agg (Ev.cells x).toArray, .agg (Ev.cells y).toArray] w fun e w' => e = .returned (.bool b) ∧ Below w.heap.size w w' := h ▸ follow_any x y w
set_option maxRecDepth 100000 in
set_option maxHeartbeats 4000000 in
theorem evs_any (a : Option Addr) (c : Nat) (xs : List Ev.R) (w : World) (hin : Ev.EvsIn w a c xs) :
    Calls Tryz.prog 71 #[.slice a xs.length c] w fun e w' => e = .returned (.bool (Ev.evsOk xs)) ∧ Below w.heap.size w w' := by
  have hmax := hin.max; have hle := hin.le
  have HIN := Lib.hid hin; clear hin
  go_enter Tryz.func71, Tryz.ntmps71
  go_wp2
  go_loopw [3, 7] (fun _ i wr => ∃ k : Nat, k ≤ xs.length ∧ i = .int .i64 (k : Int) ∧ (∀ j, j < k → Ev.evAt xs j = true) ∧ Below w.heap.size w wr) (fun _ i _ => xs.length - (intOf i).toNat)
  case atStart => exact ⟨0, Nat.zero_le _, rfl, fun j hj => absurd hj (by omega), Below.refl _ _⟩
  case round =>
    obtain ⟨k, hk, rfl, hall, hbr⟩ := hrel
    have HA := Lib.hid hall; have HBR := Lib.hid hbr; clear hall hbr
    by_cases hlt : k < xs.length
    · obtain ⟨x, hx⟩ : ∃ x, xs[k]? = some x := ⟨_, List.getElem?_eq_getElem hlt⟩
      have hxn := Ev.nth_some hx
      have KW := Ev.kp_below HBR.out
      obtain ⟨g, o, ea, hcx⟩ := (HIN.out.kp KW).at_ hx
      have hxa := (HIN.out.ok_ hx).a
      have HC := Lib.hid hcx; have HXN := Lib.hid hxn; have HXA := Lib.hid hxa; have HEA := Lib.hid ea; have HX := Lib.hid hx
      have hki : (k : Int) < (xs.length : Int) := by omega
      have fin : Ev.evAt xs k = false → Ev.evsOk xs = false := fun e => by
        unfold Ev.evsOk
        have : (List.range xs.length).all (Ev.evAt xs) = false := by rw [List.all_eq_false]; exact ⟨k, List.mem_range.2 hlt, by rw [e]; simp⟩
        rw [this]; rfl
      have FIN := Lib.hid fin
      have HAT := Lib.hid (show Ev.evAt xs k = (Ev.partsOk x && Ev.depsOk xs k && (k == 0 || Ev.follow (Ev.nth xs ((k : Int) - 1)) x)) by unfold Ev.evAt; rw [hxn])
      clear hx hxn hcx hxa KW fin
      rw [ea]; clear ea
      go_wp2_with (first
          | (show wpList _ _ _ (Oper.mk (some 11) _ _ _ _ _ :: _) _ _; refine wpList_load_at rfl 48 (.tmp 10) rfl g (o + k * 13) rfl (Ev.cells x) _ HC.out Tryz.underlying48 rfl (by kernel_rfl) ?_)
          | (show wpList _ _ _ (Oper.mk none (Op.store 48 _ _) _ _ _ _ :: _) _ _; refine wpList_store_own rfl 48 (.tmp 4) (.tmp 11) rfl wr.heap.size (Ev.cells x).toArray rfl rfl 48 (Ev.cells Ev.R0).toArray (heap_alloc_new _ _) (by kernel_rfl) (by kernel_rfl) (by kernel_rfl) ?_
             intro W1 HW1
             have B1 := Lib.hid (((Below.refl wr.heap.size wr).alloc (Nat.le_refl _) _).trans HW1.below)
             have RW := Lib.hid HW1.row
             clear HW1)
          | (show wpList _ _ _ (Oper.mk (some 12) _ _ _ _ _ :: _) _ _; refine wpList_load_row rfl 48 (.tmp 4) rfl wr.heap.size (by kernel_rfl) 48 (Ev.cells x).toArray (0, 0) _ RW.out Tryz.underlying48 rfl (by kernel_rfl) ?_))
      refine (partsOk_any x _ HXA.out).mono ?_
      rintro e W2 ⟨rfl, hb2⟩
      have RW2 := Lib.hid ((hb2.block wr.heap.size (Array.getElem?_eq_some_iff.1 RW.out).1).trans RW.out)
      have B2 := Lib.hid (B1.out.trans (hb2.mono B1.out.size)); clear hb2
      obtain ⟨b1, hb1⟩ : ∃ b, Ev.partsOk x = b := ⟨_, rfl⟩
      have H1 := Lib.hid hb1
      rw [hb1]; clear hb1
      cases b1
      · go_wp2_with fail
        go_ret
        exact ⟨by rw [FIN.out (by rw [HAT.out, H1.out]; rfl)]; rfl, HBR.out.trans (B2.out.mono HBR.out.size)⟩
      go_wp2_with fail
      refine (deps_any (some ⟨g, o, none⟩) c xs k hlt _ (by rw [← HEA.out]; exact (HIN.out.kp (Ev.kp_below HBR.out)).kp (Ev.kp_below B2.out))).mono ?_
      rintro e W3 ⟨rfl, hb3⟩
      have RW3 := Lib.hid ((hb3.block wr.heap.size (Array.getElem?_eq_some_iff.1 RW2.out).1).trans RW2.out)
      have B3 := Lib.hid (B2.out.trans (hb3.mono B2.out.size)); clear hb3
      obtain ⟨b2, hb2⟩ : ∃ b, Ev.depsOk xs k = b := ⟨_, rfl⟩
      have H2 := Lib.hid hb2
      rw [hb2]; clear hb2
      cases b2
      · go_wp2_with fail
        go_ret
        exact ⟨by rw [FIN.out (by rw [HAT.out, H1.out, H2.out]; rfl)]; rfl, HBR.out.trans (B3.out.mono HBR.out.size)⟩
      by_cases h0 : k = 0
      · have HK0 := Lib.hid h0
        have hkz : decide (0 < (k : Int)) = false := decide_eq_false (by omega)
        have hkz' : decide (0 < k) = false := decide_eq_false (by omega)
        clear h0
        go_wp2_with fail
        refine Og.regionB (by kernel_rfl) (by kernel_rfl) ?_
        repeat (first
          | go_big_quiet_skip
          | (go_big_quiet_want
             first
              | (go_big_quiet_op
                 first
                  | go_big_quiet_on)))
        refine wpQuiet_nil ?_
        intro _ hw'
        obtain ⟨q9, hw''⟩ := hw'
        subst hw''
        have HEND := Lib.hid (B3.out.trans (q9.b.mono B3.out.size))
        go_wp2_with fail
        go_roundw
        case rel =>
          refine ⟨k + 1, by omega, by go_num, fun j hj => ?_, HBR.out.trans (HEND.out.mono HBR.out.size)⟩
          by_cases hjk : j = k
          · subst hjk; rw [HAT.out, H1.out, H2.out, HK0.out]; rfl
          · exact HA.out j (by omega)
        case measure => simp [intOf]; omega
      · have hkz : decide (0 < (k : Int)) = true := decide_eq_true (by omega)
        have hkz' : decide (0 < k) = true := decide_eq_true (by omega)
        obtain ⟨p, hp⟩ : ∃ p, k = p + 1 := ⟨k - 1, by omega⟩
        have hpi : (k : Int) - 1 = (p : Int) := by omega
        have hpl : p < xs.length := by omega
        obtain ⟨y, hy⟩ : ∃ y, xs[p]? = some y := ⟨_, List.getElem?_eq_getElem hpl⟩
        have hyn := Ev.nth_some hy
        obtain ⟨g', o', eg, hcy⟩ := (HIN.out.kp (Ev.kp_below HBR.out)).at_ hy
        obtain ⟨rfl, rfl⟩ : g' = g ∧ o' = o := by rw [HEA.out] at eg; cases eg; exact ⟨rfl, rfl⟩
        have LY := Lib.hid (fun z : Og.On W3.heap.size W3 => Ev.ld (w := z.x) (g := g') (o := o' + p * 13) (x := y) (fun i c hi => Og.cellB z (Ev.kp_below B3.out _ _ (hcy i c hi))))
        have LX := Lib.hid (fun z : Og.On W3.heap.size W3 => Og.rowB (P := Tryz.prog) z 48 _ RW3.out Tryz.underlying48 rfl (by kernel_rfl))
        obtain ⟨b3, hb3⟩ : ∃ b, Ev.follow y x = b := ⟨_, rfl⟩
        have H3 := Lib.hid hb3
        have HAT2 := Lib.hid (show Ev.evAt xs k = b3 by rw [HAT.out, H1.out, H2.out, hpi, hyn, hb3]; simp [h0])
        have hpx : (p : Int) < (xs.length : Int) := by omega
        have hw1 : IntKind.i64.wrap ((k : Int) - 1) = (p : Int) := by rw [hpi]; exact IntWalk.i64_in _ (by omega)
        clear hy hyn eg hcy hb3 hp h0
        have CF := Lib.hid (fun z : Og.On W3.heap.size W3 => Og.callB (q := z) (follow_is H3.out z.x))
        cases b3
        · go_wp2_with fail
          refine Og.regionB (by kernel_rfl) (by kernel_rfl) ?_
          repeat (first
            | go_big_quiet_skip
            | (go_big_quiet_want
               first
                | (refine Og.quiet_load 48 (.tmp 27) rfl (.agg (Ev.cells y).toArray) ⟨g', o' + p * 13, none⟩ _ rfl (by rintro _ ⟨z, rfl⟩; exact LY.out z) (by simp only [Act.put, List.setIfInBounds_toArray, List.set_cons_zero, List.set_cons_succ]; rfl) ?_
                   go_big_quiet_on)
                | (refine Og.quiet_load 48 (.tmp 4) rfl (.agg (Ev.cells x).toArray) ⟨wr.heap.size, 0, none⟩ _ rfl (by rintro _ ⟨z, rfl⟩; exact LX.out z) (by simp only [Act.put, List.setIfInBounds_toArray, List.set_cons_zero, List.set_cons_succ]; rfl) ?_
                   go_big_quiet_on)
                | (go_big_quiet_op
                   first
                    | go_big_quiet_on
                    | (apply Exists.intro
                       refine ⟨fun z => ?_, ?_⟩
                       · first
                          | exact CF.out z
                       go_big_quiet_on))))
          refine wpQuiet_nil ?_
          intro _ hw'
          obtain ⟨q9, hw''⟩ := hw'
          subst hw''
          have HEND := Lib.hid (B3.out.trans (q9.b.mono B3.out.size))
          go_wp2_with fail
          go_ret
          exact ⟨by rw [FIN.out HAT2.out]; rfl, HBR.out.trans (HEND.out.mono HBR.out.size)⟩
        · go_wp2_with fail
          refine Og.regionB (by kernel_rfl) (by kernel_rfl) ?_
          repeat (first
            | go_big_quiet_skip
            | (go_big_quiet_want
               first
                | (refine Og.quiet_load 48 (.tmp 27) rfl (.agg (Ev.cells y).toArray) ⟨g', o' + p * 13, none⟩ _ rfl (by rintro _ ⟨z, rfl⟩; exact LY.out z) (by simp only [Act.put, List.setIfInBounds_toArray, List.set_cons_zero, List.set_cons_succ]; rfl) ?_
                   go_big_quiet_on)
                | (refine Og.quiet_load 48 (.tmp 4) rfl (.agg (Ev.cells x).toArray) ⟨wr.heap.size, 0, none⟩ _ rfl (by rintro _ ⟨z, rfl⟩; exact LX.out z) (by simp only [Act.put, List.setIfInBounds_toArray, List.set_cons_zero, List.set_cons_succ]; rfl) ?_
                   go_big_quiet_on)
                | (go_big_quiet_op
                   first
                    | go_big_quiet_on
                    | (apply Exists.intro
                       refine ⟨fun z => ?_, ?_⟩
                       · first
                          | exact CF.out z
                       go_big_quiet_on))))
          refine wpQuiet_nil ?_
          intro _ hw'
          obtain ⟨q9, hw''⟩ := hw'
          subst hw''
          have HEND := Lib.hid (B3.out.trans (q9.b.mono B3.out.size))
          go_wp2_with fail
          go_roundw
          case rel =>
            refine ⟨k + 1, by omega, by go_num, fun j hj => ?_, HBR.out.trans (HEND.out.mono HBR.out.size)⟩
            by_cases hjk : j = k
            · subst hjk; exact HAT2.out
            · exact HA.out j (by omega)
          case measure => simp [intOf]; omega
    · have hki : ¬ (k : Int) < (xs.length : Int) := by omega
      have HF := Lib.hid (show Ev.evsOk xs = Ev.begun xs by
        unfold Ev.evsOk
        have : (List.range xs.length).all (Ev.evAt xs) = true := by
          rw [List.all_eq_true]; intro j hj; exact HA.out j (by have := List.mem_range.1 hj; omega)
        rw [this, Bool.true_and])
      go_wp2_with fail
      refine (begun_any a c xs _ (HIN.out.kp (Ev.kp_below HBR.out))).mono ?_
      rintro e W2 ⟨rfl, hb2⟩
      have HEND := Lib.hid (HBR.out.trans (hb2.mono HBR.out.size)); clear hb2
      go_wp2_with fail
      go_ret
      exact ⟨by rw [HF.out]; rfl, HEND.out⟩
end Go.Proofs.YtnjnpbabgefaeaaGreat
end

section
namespace Go.Proofs.YtnjnpbabgefaeaaGreat
open Go.RowKit
namespace Ev
theorem exrow {w W : World} {x : X} (hb : Below (w.heap.size + 1) (w.alloc (.cells (xcells x).toArray 26)) W) : W.heap[w.heap.size]? = some (.cells (xcells x).toArray 26 (0, 0)) :=
  (hb.block w.heap.size (by omega)).trans (heap_alloc_new w (.cells (xcells x).toArray 26))
theorem xcell0 {W : World} {g : Nat} {x : X} (h : W.heap[g]? = some (.cells (xcells x).toArray 26 (0, 0))) : W.cell? ⟨g, 0, none⟩ = some (.slice x.ae x.ev.length x.ce) := by rw [cell_of_row _ _ _ _ _ _ h]; rfl
theorem xcell1 {W : World} {g : Nat} {x : X} (h : W.heap[g]? = some (.cells (xcells x).toArray 26 (0, 0))) : W.cell? ⟨g, 1, none⟩ = some (.slice x.fr.a x.fr.l.length x.fr.c) := by rw [cell_of_row _ _ _ _ _ _ h]; rfl
theorem xcell2 {W : World} {g : Nat} {x : X} (h : W.heap[g]? = some (.cells (xcells x).toArray 26 (0, 0))) : W.cell? ⟨g, 2, none⟩ = some (.slice x.ao x.od.length x.co) := by rw [cell_of_row _ _ _ _ _ _ h]; rfl
end Ev
set_option maxRecDepth 100000 in
set_option maxHeartbeats 4000000 in
theorem rhangs_any (x : Ev.X) (n : Nat) (hn : n < x.ev.length) (S : Ev.Sl) (w : World) (hin : Ev.EvsIn w x.ae x.ce x.ev) (hS : Ev.IntsIn w S) :
    Calls Tryz.prog 30 #[.agg (Ev.xcells x).toArray, .int .i64 (n : Int), .slice S.a S.l.length S.c] w fun e w' => e = .returned (.bool (Ev.hangGo x.ev n (Ev.nth x.ev n).h (-1) S.l)) ∧ Below w.heap.size w w' := by
  obtain ⟨x0, hx0⟩ : ∃ x0, x.ev[n]? = some x0 := ⟨_, List.getElem?_eq_getElem hn⟩
  obtain ⟨g, o, ea, hc0⟩ := hin.at_ hx0
  have hn0 := Ev.nth_some hx0
  have hmax := hin.max; have hle := hin.le
  have hsm := hS.2.2.1; have hsl := hS.2.1
  have HIN := Lib.hid hin; have HS := Lib.hid hS; have HC0 := Lib.hid hc0; have HEA := Lib.hid ea
  rw [hn0]
  have hni : (n : Int) < (x.ev.length : Int) := by omega
  have R0 := Lib.hid (heap_alloc_new w (.cells (Ev.xcells x).toArray 26))
  have B0 := Lib.hid ((Below.refl w.heap.size w).alloc (Nat.le_refl _) (.cells (Ev.xcells x).toArray 26))
  have hsz : (w.alloc (.cells (Ev.xcells x).toArray 26)).heap.size = w.heap.size + 1 := by simp only [World.size_alloc]
  have HSZ := Lib.hid hsz
  clear hin hS hx0 hn0 hc0 ea hsz
  unfold Ev.xcells
  go_enter Tryz.func30, Tryz.ntmps30
  go_wp2
  go_loopw [7, 8] (fun i _ wr => ∃ (m : Nat) (last : Int), m ≤ S.l.length ∧ i = .int .i64 (m : Int) ∧ -1 ≤ last ∧ (m = 0 → last = -1) ∧ (∀ p, m = p + 1 → S.l[p]? = some last) ∧ Ev.hangGo x.ev n x0.h (-1) S.l = Ev.hangGo x.ev n x0.h last (S.l.drop m) ∧ Below (w.heap.size + 1) (w.alloc (.cells (Ev.xcells x).toArray 26)) wr) (fun i _ _ => S.l.length - (intOf i).toNat)
  case atStart => exact ⟨0, -1, Nat.zero_le _, rfl, by omega, fun _ => rfl, fun p hp => by omega, by simp, Below.refl _ _⟩
  case round =>
    obtain ⟨m, last, hm, rfl, hlast, hm0, hm1, hgo, hbr⟩ := hrel
    have HBR := Lib.hid hbr; have HGO := Lib.hid hgo; have HM0 := Lib.hid hm0; have HM1 := Lib.hid hm1
    have BW := Lib.hid (B0.out.trans (hbr.mono (Nat.le_succ _)))
    clear hbr hgo hm0 hm1
    by_cases hml : m < S.l.length
    · obtain ⟨d, hd⟩ : ∃ d, S.l[m]? = some d := ⟨_, List.getElem?_eq_getElem hml⟩
      have hdrop : S.l.drop m = d :: S.l.drop (m + 1) := by
        rw [List.drop_eq_getElem_cons hml]; congr 1; rw [List.getElem?_eq_getElem hml] at hd; exact Option.some.inj hd
      have hsin := HS.out.kp (Ev.kp_below BW.out)
      obtain ⟨g2, o2, e2, c2⟩ := hsin.at_ hd
      have hmi : (m : Int) < (S.l.length : Int) := by omega
      have HD := Lib.hid hd; have HDR := Lib.hid hdrop; have HSIN := Lib.hid hsin
      clear hd hdrop hsin
      have HE2 := Lib.hid e2
      have cx : ∀ z : Og.On wr.heap.size wr, z.x.cell? ⟨w.heap.size, 0, none⟩ = some (.slice x.ae x.ev.length x.ce) := fun z => Og.cellB z (Ev.xcell0 (Ev.exrow HBR.out))
      rw [HEA.out] at cx
      rw [e2]
      clear e2
      by_cases hA : d < 0
      · have HF := Lib.hid (show Ev.hangGo x.ev n x0.h (-1) S.l = false by rw [HGO.out, HDR.out]; simp [Ev.hangGo, show d ≤ last by omega])
        have tA : decide (d < 0) = true := decide_eq_true hA
        go_wp2
        refine Og.regionB (by kernel_rfl) (by kernel_rfl) ?_
        repeat (first
          | go_big_quiet_skip
          | (go_big_quiet_want
             first
              | (go_big_quiet_op
                 first
                  | go_big_quiet_on)))
        refine wpQuiet_nil ?_
        intro _ hw'
        obtain ⟨q9, hw''⟩ := hw'
        subst hw''
        have HEND := Lib.hid (BW.out.trans (q9.b.mono BW.out.size))
        go_wp2_with fail
        go_ret
        exact ⟨by rw [HF.out]; rfl, HEND.out⟩
      have tA : decide (d < 0) = false := decide_eq_false (by omega)
      by_cases hB : (n : Int) ≤ d
      · have HF := Lib.hid (show Ev.hangGo x.ev n x0.h (-1) S.l = false by rw [HGO.out, HDR.out]; simp [Ev.hangGo, hB])
        have tB : decide ((n : Int) ≤ d) = true := decide_eq_true hB
        go_wp2
        refine Og.regionB (by kernel_rfl) (by kernel_rfl) ?_
        repeat (first
          | go_big_quiet_skip
          | (go_big_quiet_want
             first
              | (go_big_quiet_op
                 first
                  | go_big_quiet_on)))
        refine wpQuiet_nil ?_
        intro _ hw'
        obtain ⟨q9, hw''⟩ := hw'
        subst hw''
        have HEND := Lib.hid (BW.out.trans (q9.b.mono BW.out.size))
        go_wp2_with fail
        go_ret
        exact ⟨by rw [HF.out]; rfl, HEND.out⟩
      have tB0 : decide ((n : Int) ≤ d) = false := decide_eq_false (by omega)
      obtain ⟨dn, rfl⟩ : ∃ dn : Nat, d = dn := ⟨d.toNat, by omega⟩
      have hdn : dn < x.ev.length := by omega
      obtain ⟨y, hy⟩ : ∃ y, x.ev[dn]? = some y := ⟨_, List.getElem?_eq_getElem hdn⟩
      have hyn := Ev.nth_some hy
      obtain ⟨g', o', eg, hcy⟩ := HIN.out.at_ hy
      obtain ⟨rfl, rfl⟩ : g' = g ∧ o' = o := by rw [HEA.out] at eg; cases eg; exact ⟨rfl, rfl⟩
      have hcy2 : ∀ z : Og.On wr.heap.size wr, ∀ i c, (Ev.cells y)[i]? = some c → z.x.cell? ⟨g', o' + dn * 13 + i, none⟩ = some c := fun z i c hi =>
        Og.cellB z (Ev.kp_below BW.out _ _ (hcy i c hi))
      have LY := Lib.hid (fun z : Og.On wr.heap.size wr => Ev.ld (hcy2 z))
      have ch : ∀ z : Og.On wr.heap.size wr, z.x.cell? ⟨g', o' + dn * 13, none⟩ = some (.int .i64 y.h) := fun z => hcy2 z 0 _ rfl
      have ce : ∀ z : Og.On wr.heap.size wr, z.x.cell? ⟨g', o' + n * 13, none⟩ = some (.int .i64 x0.h) := fun z =>
        Og.cellB z (Ev.kp_below BW.out _ _ (HC0.out 0 _ rfl))
      have hdi : (dn : Int) < (x.ev.length : Int) := by omega
      have tB : decide (n ≤ dn) = false := decide_eq_false (by omega)
      have HY := Lib.hid hyn
      have HNB := Lib.hid hB
      clear eg hcy hcy2 hy hyn hA hB
      have hz : m = 0 ∨ ∃ p, m = p + 1 := by cases m; exact .inl rfl; exact .inr ⟨_, rfl⟩
      rcases hz with h0 | ⟨p, hp⟩
      · have tz : decide (0 < (m : Int)) = false := decide_eq_false (by omega)
        have tz' : decide (0 < m) = false := decide_eq_false (by omega)
        have HL := Lib.hid (HM0.out h0)
        have HLT := Lib.hid (show last < (dn : Int) by rw [HL.out]; omega)
        clear h0
        by_cases hD : y.h = x0.h
        case neg =>
          have HF := Lib.hid (show Ev.hangGo x.ev n x0.h (-1) S.l = false by rw [HGO.out, HDR.out]; simp only [Ev.hangGo]; rw [HY.out]; simp [hD])
          have tD : (y.h != x0.h) = true := by simpa using hD
          clear hD
          go_wp2
          refine Og.regionB (by kernel_rfl) (by kernel_rfl) ?_
          repeat (first
            | go_big_quiet_skip
            | (go_big_quiet_want
               first
                | (go_big_quiet_op
                   first
                    | go_big_quiet_on)))
          refine wpQuiet_nil ?_
          intro _ hw'
          obtain ⟨q9, hw''⟩ := hw'
          subst hw''
          have HEND := Lib.hid (BW.out.trans (q9.b.mono BW.out.size))
          go_wp2_with fail
          go_ret
          exact ⟨by rw [HF.out]; rfl, HEND.out⟩
        have tD : (y.h != x0.h) = false := by simp [hD]
        have HDD := Lib.hid hD
        clear hD
        by_cases hE : Ev.loads y.k = true
        case neg =>
          have hE : Ev.loads y.k = false := by simpa using hE
          have HF := Lib.hid (show Ev.hangGo x.ev n x0.h (-1) S.l = false by rw [HGO.out, HDR.out]; simp only [Ev.hangGo]; rw [HY.out, hE]; simp)
          go_wp2
          refine Og.regionB (by kernel_rfl) (by kernel_rfl) ?_
          repeat (first
            | go_big_quiet_skip
            | (go_big_quiet_want
               first
                | (refine Og.quiet_load 48 (.tmp 58) rfl (.agg (Ev.cells y).toArray) ⟨g', o' + dn * 13, none⟩ _ rfl (by rintro _ ⟨z, rfl⟩; exact LY.out z) (by simp only [Act.put, List.setIfInBounds_toArray, List.set_cons_zero, List.set_cons_succ]; rfl) ?_
                   go_big_quiet_on)
                | (go_big_quiet_op
                   first
                    | go_big_quiet_on
                    | (apply Exists.intro
                       refine ⟨fun z => ?_, ?_⟩
                       · first
                          | exact Og.callB (rloads_any y _)
                       go_big_quiet_on))))
          refine wpQuiet_nil ?_
          intro _ hw'
          obtain ⟨q9, hw''⟩ := hw'
          subst hw''
          rw [hE]
          have HEND := Lib.hid (BW.out.trans (q9.b.mono BW.out.size))
          go_wp2_with fail
          go_ret
          exact ⟨by rw [HF.out]; rfl, HEND.out⟩
        have HG := Lib.hid (show Ev.hangGo x.ev n x0.h last (S.l.drop m) = Ev.hangGo x.ev n x0.h dn (S.l.drop (m + 1)) by
          have h1 := HLT.out; have h2 := HNB.out
          rw [HDR.out]; simp only [Ev.hangGo]; rw [HY.out, HDD.out, hE]; simp; intro h; omega)
        go_wp2
        refine Og.regionB (by kernel_rfl) (by kernel_rfl) ?_
        repeat (first
          | go_big_quiet_skip
          | (go_big_quiet_want
             first
              | (refine Og.quiet_load 48 (.tmp 58) rfl (.agg (Ev.cells y).toArray) ⟨g', o' + dn * 13, none⟩ _ rfl (by rintro _ ⟨z, rfl⟩; exact LY.out z) (by simp only [Act.put, List.setIfInBounds_toArray, List.set_cons_zero, List.set_cons_succ]; rfl) ?_
                 go_big_quiet_on)
              | (go_big_quiet_op
                 first
                  | go_big_quiet_on
                  | (apply Exists.intro
                     refine ⟨fun z => ?_, ?_⟩
                     · first
                        | exact Og.callB (rloads_any y _)
                     go_big_quiet_on))))
        refine wpQuiet_nil ?_
        intro _ hw'
        obtain ⟨q9, hw''⟩ := hw'
        subst hw''
        rw [hE]
        have HEND := Lib.hid (HBR.out.trans (q9.b.mono (by have := HBR.out.size; rw [HSZ.out] at this; exact this)))
        go_wp2_with fail
        go_roundw
        case rel => exact ⟨m + 1, dn, by omega, by go_num, by omega, fun h => absurd h (by omega), fun p hp => by rw [show p = m by omega]; exact HD.out, by rw [HGO.out, HG.out], HEND.out⟩
        case measure => simp [intOf]; omega
      · have tz : decide (0 < (m : Int)) = true := decide_eq_true (by omega)
        have tz' : decide (0 < m) = true := decide_eq_true (by omega)
        have hpi : (m : Int) - 1 = (p : Int) := by omega
        have hpl : p < S.l.length := by omega
        obtain ⟨g3, o3, e3, c3⟩ := HSIN.out.at_ (HM1.out p hp)
        obtain ⟨rfl, rfl⟩ : g3 = g2 ∧ o3 = o2 := by rw [HE2.out] at e3; cases e3; exact ⟨rfl, rfl⟩
        have cl : ∀ z : Og.On wr.heap.size wr, z.x.cell? ⟨g3, o3 + p, none⟩ = some (.int .i64 last) := fun z => Og.cellB z c3
        have hpi2 : (p : Int) < (S.l.length : Int) := by omega
        clear e3 c3 hp
        by_cases hC : (dn : Int) ≤ last
        · have HF := Lib.hid (show Ev.hangGo x.ev n x0.h (-1) S.l = false by rw [HGO.out, HDR.out]; simp [Ev.hangGo, hC])
          have tC : decide ((dn : Int) ≤ last) = true := decide_eq_true hC
          go_wp2
          refine Og.regionB (by kernel_rfl) (by kernel_rfl) ?_
          repeat (first
            | go_big_quiet_skip
            | (go_big_quiet_want
               first
                | (go_big_quiet_op
                   first
                    | go_big_quiet_on)))
          refine wpQuiet_nil ?_
          intro _ hw'
          obtain ⟨q9, hw''⟩ := hw'
          subst hw''
          have HEND := Lib.hid (BW.out.trans (q9.b.mono BW.out.size))
          go_wp2_with fail
          go_ret
          exact ⟨by rw [HF.out]; rfl, HEND.out⟩
        have tC : decide ((dn : Int) ≤ last) = false := decide_eq_false hC
        have HLT := Lib.hid (show last < (dn : Int) by omega)
        clear hC
        by_cases hD : y.h = x0.h
        case neg =>
          have HF := Lib.hid (show Ev.hangGo x.ev n x0.h (-1) S.l = false by rw [HGO.out, HDR.out]; simp only [Ev.hangGo]; rw [HY.out]; simp [hD])
          have tD : (y.h != x0.h) = true := by simpa using hD
          clear hD
          go_wp2
          refine Og.regionB (by kernel_rfl) (by kernel_rfl) ?_
          repeat (first
            | go_big_quiet_skip
            | (go_big_quiet_want
               first
                | (go_big_quiet_op
                   first
                    | go_big_quiet_on)))
          refine wpQuiet_nil ?_
          intro _ hw'
          obtain ⟨q9, hw''⟩ := hw'
          subst hw''
          have HEND := Lib.hid (BW.out.trans (q9.b.mono BW.out.size))
          go_wp2_with fail
          go_ret
          exact ⟨by rw [HF.out]; rfl, HEND.out⟩
        have tD : (y.h != x0.h) = false := by simp [hD]
        have HDD := Lib.hid hD
        clear hD
        by_cases hE : Ev.loads y.k = true
        case neg =>
          have hE : Ev.loads y.k = false := by simpa using hE
          have HF := Lib.hid (show Ev.hangGo x.ev n x0.h (-1) S.l = false by rw [HGO.out, HDR.out]; simp only [Ev.hangGo]; rw [HY.out, hE]; simp)
          go_wp2
          refine Og.regionB (by kernel_rfl) (by kernel_rfl) ?_
          repeat (first
            | go_big_quiet_skip
            | (go_big_quiet_want
               first
                | (refine Og.quiet_load 48 (.tmp 58) rfl (.agg (Ev.cells y).toArray) ⟨g', o' + dn * 13, none⟩ _ rfl (by rintro _ ⟨z, rfl⟩; exact LY.out z) (by simp only [Act.put, List.setIfInBounds_toArray, List.set_cons_zero, List.set_cons_succ]; rfl) ?_
                   go_big_quiet_on)
                | (go_big_quiet_op
                   first
                    | go_big_quiet_on
                    | (apply Exists.intro
                       refine ⟨fun z => ?_, ?_⟩
                       · first
                          | exact Og.callB (rloads_any y _)
                       go_big_quiet_on))))
          refine wpQuiet_nil ?_
          intro _ hw'
          obtain ⟨q9, hw''⟩ := hw'
          subst hw''
          rw [hE]
          have HEND := Lib.hid (BW.out.trans (q9.b.mono BW.out.size))
          go_wp2_with fail
          go_ret
          exact ⟨by rw [HF.out]; rfl, HEND.out⟩
        have HG := Lib.hid (show Ev.hangGo x.ev n x0.h last (S.l.drop m) = Ev.hangGo x.ev n x0.h dn (S.l.drop (m + 1)) by
          have h1 := HLT.out; have h2 := HNB.out
          rw [HDR.out]; simp only [Ev.hangGo]; rw [HY.out, HDD.out, hE]; simp; intro h; omega)
        go_wp2
        refine Og.regionB (by kernel_rfl) (by kernel_rfl) ?_
        repeat (first
          | go_big_quiet_skip
          | (go_big_quiet_want
             first
              | (refine Og.quiet_load 48 (.tmp 58) rfl (.agg (Ev.cells y).toArray) ⟨g', o' + dn * 13, none⟩ _ rfl (by rintro _ ⟨z, rfl⟩; exact LY.out z) (by simp only [Act.put, List.setIfInBounds_toArray, List.set_cons_zero, List.set_cons_succ]; rfl) ?_
                 go_big_quiet_on)
              | (go_big_quiet_op
                 first
                  | go_big_quiet_on
                  | (apply Exists.intro
                     refine ⟨fun z => ?_, ?_⟩
                     · first
                        | exact Og.callB (rloads_any y _)
                     go_big_quiet_on))))
        refine wpQuiet_nil ?_
        intro _ hw'
        obtain ⟨q9, hw''⟩ := hw'
        subst hw''
        rw [hE]
        have HEND := Lib.hid (HBR.out.trans (q9.b.mono (by have := HBR.out.size; rw [HSZ.out] at this; exact this)))
        go_wp2_with fail
        go_roundw
        case rel => exact ⟨m + 1, dn, by omega, by go_num, by omega, fun h => absurd h (by omega), fun p hp => by rw [show p = m by omega]; exact HD.out, by rw [HGO.out, HG.out], HEND.out⟩
        case measure => simp [intOf]; omega
    · have hmm : m = S.l.length := by omega
      have hmi : ¬ (m : Int) < (S.l.length : Int) := by omega
      have HF := Lib.hid (show Ev.hangGo x.ev n x0.h (-1) S.l = true by rw [HGO.out, hmm]; simp [Ev.hangGo])
      clear hmm
      go_wp2
      go_ret
      exact ⟨by rw [HF.out]; rfl, BW.out⟩
end Go.Proofs.YtnjnpbabgefaeaaGreat
end
