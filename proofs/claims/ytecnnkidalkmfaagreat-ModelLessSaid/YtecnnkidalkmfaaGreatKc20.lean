import Derived.Test.YtecnnkidalkmfaaGreatKc19
import Derived.Test.YtecnnkidalkmfaaGreatKc02
import Derived.Test.YtecnnkidalkmfaaGreatKc01
import Derived.WalkKit
import Derived.Test.YtecnnkidalkmfaaGreatKc10
set_option linter.unusedVariables false
set_option linter.unusedSimpArgs false

section
namespace Go.Proofs.YtecnnkidalkmfaaGreat
open Go.RowKit
namespace Ev
theorem exrow {w W : World} {x : X} (hb : Below (w.heap.size + 1) (w.alloc (.cells (xcells x).toArray 26)) W) : W.heap[w.heap.size]? = some (.cells (xcells x).toArray 26 (0, 0)) :=
  (hb.block w.heap.size (by omega)).trans (heap_alloc_new w (.cells (xcells x).toArray 26))
theorem xcell0 {W : World} {g : Nat} {x : X} (h : W.heap[g]? = some (.cells (xcells x).toArray 26 (0, 0))) : W.cell? ⟨g, 0, none⟩ = some (.slice x.ae x.ev.length x.ce) := by rw [cell_of_row _ _ _ _ _ _ h]; rfl
theorem xcell1 {W : World} {g : Nat} {x : X} (h : W.heap[g]? = some (.cells (xcells x).toArray 26 (0, 0))) : W.cell? ⟨g, 1, none⟩ = some (.slice x.fr.a x.fr.l.length x.fr.c) := by rw [cell_of_row _ _ _ _ _ _ h]; rfl
theorem xcell2 {W : World} {g : Nat} {x : X} (h : W.heap[g]? = some (.cells (xcells x).toArray 26 (0, 0))) : W.cell? ⟨g, 2, none⟩ = some (.slice x.ao x.od.length x.co) := by rw [cell_of_row _ _ _ _ _ _ h]; rfl
end Ev
set_option maxRecDepth 100000 in
set_option maxHeartbeats 4000000 in
theorem rhangs_any (x : Ev.X) (n : Nat) (hn : n < x.ev.length) (S : Ev.Sl) (w : World) (hin : Ev.EvsIn w x.ae x.ce x.ev) (hS : Ev.IntsIn w S) :
    Calls Tryz.prog 30 #[.agg (Ev.xcells x).toArray, .int .i64 (n : Int), .slice S.a S.l.length S.c] w fun e w' => e = .returned (.bool (Ev.hangGo x.ev n (Ev.nth x.ev n).h (-1) S.l)) ∧ Below w.heap.size w w' := by
  obtain ⟨x0, hx0⟩ : ∃ x0, x.ev[n]? = some x0 := ⟨_, List.getElem?_eq_getElem hn⟩
  obtain ⟨g, o, ea, hc0⟩ := hin.at_ hx0
  have hn0 := Ev.nth_some hx0
  have hmax := hin.max; have hle := hin.le
  have hsm := hS.2.2.1; have hsl := hS.2.1
  have HIN := Lib.hid hin; have HS := Lib.hid hS; have HC0 := Lib.hid hc0; have HEA := Lib.hid ea
  rw [hn0]
  have hni : (n : Int) < (x.ev.length : Int) := by omega
  have R0 := Lib.hid (heap_alloc_new w (.cells (Ev.xcells x).toArray 26))
  have B0 := Lib.hid ((Below.refl w.heap.size w).alloc (Nat.le_refl _) (.cells (Ev.xcells x).toArray 26))
  have hsz : (w.alloc (.cells (Ev.xcells x).toArray 26)).heap.size = w.heap.size + 1 := by simp only [World.size_alloc]
  have HSZ := Lib.hid hsz
  clear hin hS hx0 hn0 hc0 ea hsz
  unfold Ev.xcells
  go_enter Tryz.func30, Tryz.ntmps30
  go_wp2
  go_loopw [7, 8] (fun i _ wr => ∃ (m : Nat) (last : Int), m ≤ S.l.length ∧ i = .int .i64 (m : Int) ∧ -1 ≤ last ∧ (m = 0 → last = -1) ∧ (∀ p, m = p + 1 → S.l[p]? = some last) ∧ Ev.hangGo x.ev n x0.h (-1) S.l = Ev.hangGo x.ev n x0.h last (S.l.drop m) ∧ Below (w.heap.size + 1) (w.alloc (.cells (Ev.xcells x).toArray 26)) wr) (fun i _ _ => S.l.length - (intOf i).toNat)
  case atStart => exact ⟨0, -1, Nat.zero_le _, rfl, by omega, fun _ => rfl, fun p hp => by omega, by simp, Below.refl _ _⟩
  case round =>
    obtain ⟨m, last, hm, rfl, hlast, hm0, hm1, hgo, hbr⟩ := hrel
    have HBR := Lib.hid hbr; have HGO := Lib.hid hgo; have HM0 := Lib.hid hm0; have HM1 := Lib.hid hm1
    have BW := Lib.hid (B0.out.trans (hbr.mono (Nat.le_succ _)))
    clear hbr hgo hm0 hm1
    by_cases hml : m < S.l.length
    · obtain ⟨d, hd⟩ : ∃ d, S.l[m]? = some d := ⟨_, List.getElem?_eq_getElem hml⟩
      have hdrop : S.l.drop m = d :: S.l.drop (m + 1) := by
        rw [List.drop_eq_getElem_cons hml]; congr 1; rw [List.getElem?_eq_getElem hml] at hd; exact Option.some.inj hd
      have hsin := HS.out.kp (Ev.kp_below BW.out)
      obtain ⟨g2, o2, e2, c2⟩ := hsin.at_ hd
      have hmi : (m : Int) < (S.l.length : Int) := by omega
      have HD := Lib.hid hd; have HDR := Lib.hid hdrop; have HSIN := Lib.hid hsin
      clear hd hdrop hsin
      have HE2 := Lib.hid e2
      have cx : ∀ z : Og.On wr.heap.size wr, z.x.cell? ⟨w.heap.size, 0, none⟩ = some (.slice x.ae x.ev.length x.ce) := fun z => Og.cellB z (Ev.xcell0 (Ev.exrow HBR.out))
      rw [HEA.out] at cx
      rw [e2]
      clear e2
      by_cases hA : d < 0
      · have HF := Lib.hid (show Ev.hangGo x.ev n x0.h (-1) S.l = false by rw [HGO.out, HDR.out]; simp [Ev.hangGo, show d ≤ last by omega])
        have tA : decide (d < 0) = true := decide_eq_true hA
        go_wp2
        refine Og.regionB (by kernel_rfl) (by kernel_rfl) ?_
        repeat (first
          | go_big_quiet_skip
          | (go_big_quiet_want
             first
              | (go_big_quiet_op
                 first
                  | go_big_quiet_on)))
        refine wpQuiet_nil ?_
        intro _ hw'
        obtain ⟨q9, hw''⟩ := hw'
        subst hw''
        have HEND := Lib.hid (BW.out.trans (q9.b.mono BW.out.size))
        go_wp2_with fail
        go_ret
        exact ⟨by rw [HF.out]; rfl, HEND.out⟩
      have tA : decide (d < 0) = false := decide_eq_false (by omega)
      by_cases hB : (n : Int) ≤ d
      · have HF := Lib.hid (show Ev.hangGo x.ev n x0.h (-1) S.l = false by rw [HGO.out, HDR.out]; simp [Ev.hangGo, hB])
        have tB : decide ((n : Int) ≤ d) = true := decide_eq_true hB
        go_wp2
        refine Og.regionB (by kernel_rfl) (by kernel_rfl) ?_
        repeat (first
          | go_big_quiet_skip
          | (go_big_quiet_want
             first
              | (go_big_quiet_op
                 first
                  | go_big_quiet_on)))
        refine wpQuiet_nil ?_
        intro _ hw'
        obtain ⟨q9, hw''⟩ := hw'
        subst hw''
        have HEND := Lib.hid (BW.out.trans (q9.b.mono BW.out.size))
        go_wp2_with fail
        go_ret
        exact ⟨by rw [HF.out]; rfl, HEND.out⟩
      have tB0 : decide ((n : Int) ≤ d) = false := decide_eq_false (by omega)
      obtain ⟨dn, rfl⟩ : ∃ dn : Nat, d = dn := ⟨d.toNat, by omega⟩
      have hdn : dn < x.ev.length := by omega
      obtain ⟨y, hy⟩ : ∃ y, x.ev[dn]? = some y := ⟨_, List.getElem?_eq_getElem hdn⟩
      have hyn := Ev.nth_some hy
      obtain ⟨g', o', eg, hcy⟩ := HIN.out.at_ hy
      obtain ⟨rfl, rfl⟩ : g' = g ∧ o' = o := by rw [HEA.out] at eg; cases eg; exact ⟨rfl, rfl⟩
      have hcy2 : ∀ z : Og.On wr.heap.size wr, ∀ i c, (Ev.cells y)[i]? = some c → z.x.cell? ⟨g', o' + dn * 13 + i, none⟩ = some c := fun z i c hi =>
        Og.cellB z (Ev.kp_below BW.out _ _ (hcy i c hi))
      have LY := Lib.hid (fun z : Og.On wr.heap.size wr => Ev.ld (hcy2 z))
      have ch : ∀ z : Og.On wr.heap.size wr, z.x.cell? ⟨g', o' + dn * 13, none⟩ = some (.int .i64 y.h) := fun z => hcy2 z 0 _ rfl
      have ce : ∀ z : Og.On wr.heap.size wr, z.x.cell? ⟨g', o' + n * 13, none⟩ = some (.int .i64 x0.h) := fun z =>
        Og.cellB z (Ev.kp_below BW.out _ _ (HC0.out 0 _ rfl))
      have hdi : (dn : Int) < (x.ev.length : Int) := by omega
      have tB : decide (n ≤ dn) = false := decide_eq_false (by omega)
      have HY := Lib.hid hyn
      have HNB := Lib.hid hB
      clear eg hcy hcy2 hy hyn hA hB
      have hz : m = 0 ∨ ∃ p, m = p + 1 := by cases m; exact .inl rfl; exact .inr ⟨_, rfl⟩
      rcases hz with h0 | ⟨p, hp⟩
      · have tz : decide (0 < (m : Int)) = false := decide_eq_false (by omega)
        have tz' : decide (0 < m) = false := decide_eq_false (by omega)
        have HL := Lib.hid (HM0.out h0)
        have HLT := Lib.hid (show last < (dn : Int) by rw [HL.out]; omega)
        clear h0
        by_cases hD : y.h = x0.h
        case neg =>
          have HF := Lib.hid (show Ev.hangGo x.ev n x0.h (-1) S.l = false by rw [HGO.out, HDR.out]; simp only [Ev.hangGo]; rw [HY.out]; simp [hD])
          have tD : (y.h != x0.h) = true := by simpa using hD
          clear hD
          go_wp2
          refine Og.regionB (by kernel_rfl) (by kernel_rfl) ?_
          repeat (first
            | go_big_quiet_skip
            | (go_big_quiet_want
               first
                | (go_big_quiet_op
                   first
                    | go_big_quiet_on)))
          refine wpQuiet_nil ?_
          intro _ hw'
          obtain ⟨q9, hw''⟩ := hw'
          subst hw''
          have HEND := Lib.hid (BW.out.trans (q9.b.mono BW.out.size))
          go_wp2_with fail
          go_ret
          exact ⟨by rw [HF.out]; rfl, HEND.out⟩
        have tD : (y.h != x0.h) = false := by simp [hD]
        have HDD := Lib.hid hD
        clear hD
        by_cases hE : Ev.loads y.k = true
        case neg =>
          have hE : Ev.loads y.k = false := by simpa using hE
          have HF := Lib.hid (show Ev.hangGo x.ev n x0.h (-1) S.l = false by rw [HGO.out, HDR.out]; simp only [Ev.hangGo]; rw [HY.out, hE]; simp)
          go_wp2
          refine Og.regionB (by kernel_rfl) (by kernel_rfl) ?_
          repeat (first
            | go_big_quiet_skip
            | (go_big_quiet_want
               first
                | (refine Og.quiet_load 48 (.tmp 58) rfl (.agg (Ev.cells y).toArray) ⟨g', o' + dn * 13, none⟩ _ rfl (by rintro _ ⟨z, rfl⟩; exact LY.out z) (by simp only [Act.put, List.setIfInBounds_toArray, List.set_cons_zero, List.set_cons_succ]; rfl) ?_
                   go_big_quiet_on)
                | (go_big_quiet_op
                   first
                    | go_big_quiet_on
                    | (apply Exists.intro
                       refine ⟨fun z => ?_, ?_⟩
                       · first
                          | exact Og.callB (rloads_any y _)
                       go_big_quiet_on))))
          refine wpQuiet_nil ?_
          intro _ hw'
          obtain ⟨q9, hw''⟩ := hw'
          subst hw''
          rw [hE]
          have HEND := Lib.hid (BW.out.trans (q9.b.mono BW.out.size))
          go_wp2_with fail
          go_ret
          exact ⟨by rw [HF.out]; rfl, HEND.out⟩
        have HG := Lib.hid (show Ev.hangGo x.ev n x0.h last (S.l.drop m) = Ev.hangGo x.ev n x0.h dn (S.l.drop (m + 1)) by
          have h1 := HLT.out; have h2 := HNB.out
          rw [HDR.out]; simp only [Ev.hangGo]; rw [HY.out, HDD.out, hE]; simp; intro h; omega)
        go_wp2
        refine Og.regionB (by kernel_rfl) (by kernel_rfl) ?_
        repeat (first
          | go_big_quiet_skip
          | (go_big_quiet_want
             first
              | (refine Og.quiet_load 48 (.tmp 58) rfl (.agg (Ev.cells y).toArray) ⟨g', o' + dn * 13, none⟩ _ rfl (by rintro _ ⟨z, rfl⟩; exact LY.out z) (by simp only [Act.put, List.setIfInBounds_toArray, List.set_cons_zero, List.set_cons_succ]; rfl) ?_
                 go_big_quiet_on)
              | (go_big_quiet_op
                 first
                  | go_big_quiet_on
                  | (apply Exists.intro
                     refine ⟨fun z => ?_, ?_⟩
                     · first
                        | exact Og.callB (rloads_any y _)
                     go_big_quiet_on))))
        refine wpQuiet_nil ?_
        intro _ hw'
        obtain ⟨q9, hw''⟩ := hw'
        subst hw''
        rw [hE]
        have HEND := Lib.hid (HBR.out.trans (q9.b.mono (by have := HBR.out.size; rw [HSZ.out] at this; exact this)))
        go_wp2_with fail
        go_roundw
        case rel => exact ⟨m + 1, dn, by omega, by go_num, by omega, fun h => absurd h (by omega), fun p hp => by rw [show p = m by omega]; exact HD.out, by rw [HGO.out, HG.out], HEND.out⟩
        case measure => simp [intOf]; omega
      · have tz : decide (0 < (m : Int)) = true := decide_eq_true (by omega)
        have tz' : decide (0 < m) = true := decide_eq_true (by omega)
        have hpi : (m : Int) - 1 = (p : Int) := by omega
        have hpl : p < S.l.length := by omega
        obtain ⟨g3, o3, e3, c3⟩ := HSIN.out.at_ (HM1.out p hp)
        obtain ⟨rfl, rfl⟩ : g3 = g2 ∧ o3 = o2 := by rw [HE2.out] at e3; cases e3; exact ⟨rfl, rfl⟩
        have cl : ∀ z : Og.On wr.heap.size wr, z.x.cell? ⟨g3, o3 + p, none⟩ = some (.int .i64 last) := fun z => Og.cellB z c3
        have hpi2 : (p : Int) < (S.l.length : Int) := by omega
        clear e3 c3 hp
        by_cases hC : (dn : Int) ≤ last
        · have HF := Lib.hid (show Ev.hangGo x.ev n x0.h (-1) S.l = false by rw [HGO.out, HDR.out]; simp [Ev.hangGo, hC])
          have tC : decide ((dn : Int) ≤ last) = true := decide_eq_true hC
          go_wp2
          refine Og.regionB (by kernel_rfl) (by kernel_rfl) ?_
          repeat (first
            | go_big_quiet_skip
            | (go_big_quiet_want
               first
                | (go_big_quiet_op
                   first
                    | go_big_quiet_on)))
          refine wpQuiet_nil ?_
          intro _ hw'
          obtain ⟨q9, hw''⟩ := hw'
          subst hw''
          have HEND := Lib.hid (BW.out.trans (q9.b.mono BW.out.size))
          go_wp2_with fail
          go_ret
          exact ⟨by rw [HF.out]; rfl, HEND.out⟩
        have tC : decide ((dn : Int) ≤ last) = false := decide_eq_false hC
        have HLT := Lib.hid (show last < (dn : Int) by omega)
        clear hC
        by_cases hD : y.h = x0.h
        case neg =>
          have HF := Lib.hid (show Ev.hangGo x.ev n x0.h (-1) S.l = false by rw [HGO.out, HDR.out]; simp only [Ev.hangGo]; rw [HY.out]; simp [hD])
          have tD : (y.h != x0.h) = true := by simpa using hD
          clear hD
          go_wp2
          refine Og.regionB (by kernel_rfl) (by kernel_rfl) ?_
          repeat (first
            | go_big_quiet_skip
            | (go_big_quiet_want
               first
                | (go_big_quiet_op
                   first
                    | go_big_quiet_on)))
          refine wpQuiet_nil ?_
          intro _ hw'
          obtain ⟨q9, hw''⟩ := hw'
          subst hw''
          have HEND := Lib.hid (BW.out.trans (q9.b.mono BW.out.size))
          go_wp2_with fail
          go_ret
          exact ⟨by rw [HF.out]; rfl, HEND.out⟩
        have tD : (y.h != x0.h) = false := by simp [hD]
        have HDD := Lib.hid hD
        clear hD
        by_cases hE : Ev.loads y.k = true
        case neg =>
          have hE : Ev.loads y.k = false := by simpa using hE
          have HF := Lib.hid (show Ev.hangGo x.ev n x0.h (-1) S.l = false by rw [HGO.out, HDR.out]; simp only [Ev.hangGo]; rw [HY.out, hE]; simp)
          go_wp2
          refine Og.regionB (by kernel_rfl) (by kernel_rfl) ?_
          repeat (first
            | go_big_quiet_skip
            | (go_big_quiet_want
               first
                | (refine Og.quiet_load 48 (.tmp 58) rfl (.agg (Ev.cells y).toArray) ⟨g', o' + dn * 13, none⟩ _ rfl (by rintro _ ⟨z, rfl⟩; exact LY.out z) (by simp only [Act.put, List.setIfInBounds_toArray, List.set_cons_zero, List.set_cons_succ]; rfl) ?_
                   go_big_quiet_on)
                | (go_big_quiet_op
                   first
                    | go_big_quiet_on
                    | (apply Exists.intro
                       refine ⟨fun z => ?_, ?_⟩
                       · first
                          | exact Og.callB (rloads_any y _)
                       go_big_quiet_on))))
          refine wpQuiet_nil ?_
          intro _ hw'
          obtain ⟨q9, hw''⟩ := hw'
          subst hw''
          rw [hE]
          have HEND := Lib.hid (BW.out.trans (q9.b.mono BW.out.size))
          go_wp2_with fail
          go_ret
          exact ⟨by rw [HF.out]; rfl, HEND.out⟩
        have HG := Lib.hid (show Ev.hangGo x.ev n x0.h last (S.l.drop m) = Ev.hangGo x.ev n x0.h dn (S.l.drop (m + 1)) by
          have h1 := HLT.out; have h2 := HNB.out
          rw [HDR.out]; simp only [Ev.hangGo]; rw [HY.out, HDD.out, hE]; simp; intro h; omega)
        go_wp2
        refine Og.regionB (by kernel_rfl) (by kernel_rfl) ?_
        repeat (first
          | go_big_quiet_skip
          | (go_big_quiet_want
             first
              | (refine Og.quiet_load 48 (.tmp 58) rfl (.agg (Ev.cells y).toArray) ⟨g', o' + dn * 13, none⟩ _ rfl (by rintro _ ⟨z, rfl⟩; exact LY.out z) (by simp only [Act.put, List.setIfInBounds_toArray, List.set_cons_zero, List.set_cons_succ]; rfl) ?_
                 go_big_quiet_on)
              | (go_big_quiet_op
                 first
                  | go_big_quiet_on
                  | (apply Exists.intro
                     refine ⟨fun z => ?_, ?_⟩
                     · first
                        | exact Og.callB (rloads_any y _)
                     go_big_quiet_on))))
        refine wpQuiet_nil ?_
        intro _ hw'
        obtain ⟨q9, hw''⟩ := hw'
        subst hw''
        rw [hE]
        have HEND := Lib.hid (HBR.out.trans (q9.b.mono (by have := HBR.out.size; rw [HSZ.out] at this; exact this)))
        go_wp2_with fail
        go_roundw
        case rel => exact ⟨m + 1, dn, by omega, by go_num, by omega, fun h => absurd h (by omega), fun p hp => by rw [show p = m by omega]; exact HD.out, by rw [HGO.out, HG.out], HEND.out⟩
        case measure => simp [intOf]; omega
    · have hmm : m = S.l.length := by omega
      have hmi : ¬ (m : Int) < (S.l.length : Int) := by omega
      have HF := Lib.hid (show Ev.hangGo x.ev n x0.h (-1) S.l = true by rw [HGO.out, hmm]; simp [Ev.hangGo])
      clear hmm
      go_wp2
      go_ret
      exact ⟨by rw [HF.out]; rfl, BW.out⟩
end Go.Proofs.YtecnnkidalkmfaaGreat
end

section
namespace Go.Proofs.YtecnnkidalkmfaaGreat
open Go.RowKit
namespace Or
open Ev
def inR (x : X) (n : Int) : Prop := 0 ≤ n ∧ n < (x.ev.length : Int)
def AskR (x : X) (ns : List Int) (w : World) (r : Ending) (w' : World) : Prop := Below w.heap.size w w' ∧
  ((check x ≠ 0 ∧ r = .returned (.tuple #[.pointer none, .int .i64 (check x)])) ∨ (check x = 0 ∧ (∃ n ∈ ns, ¬ inR x n) ∧ r = .returned (.tuple #[.pointer none, .int .i64 4])) ∨
   (check x = 0 ∧ (∀ n ∈ ns, inR x n) ∧ ∃ q, r = .returned (.tuple #[.pointer (some ⟨q, 0, none⟩), .int .i64 0]) ∧ As w' q x))
theorem AskR.bad {x : X} {ns : List Int} {w w' : World} {r : Ending} (hb : Below w.heap.size w w') {v : Int} (hv : check x = v) (h : v ≠ 0) (hr : r = .returned (.tuple #[.pointer none, .int .i64 v])) : AskR x ns w r w' := ⟨hb, .inl ⟨hv ▸ h, hv ▸ hr⟩⟩
theorem AskR.no {x : X} {ns : List Int} {w w' : World} {r : Ending} (hb : Below w.heap.size w w') (hv : check x = 0) {n : Int} (hn : n ∈ ns) (h : ¬ inR x n) (hr : r = .returned (.tuple #[.pointer none, .int .i64 4])) : AskR x ns w r w' := ⟨hb, .inr (.inl ⟨hv, ⟨n, hn, h⟩, hr⟩)⟩
theorem AskR.yes {x : X} {ns : List Int} {w w' : World} {r : Ending} (hb : Below w.heap.size w w') (hv : check x = 0) (h : ∀ n ∈ ns, inR x n) (q : Nat) (hr : r = .returned (.tuple #[.pointer (some ⟨q, 0, none⟩), .int .i64 0])) (ha : As w' q x) : AskR x ns w r w' := ⟨hb, .inr (.inr ⟨hv, h, q, hr, ha⟩)⟩
end Or
set_option maxRecDepth 100000 in
set_option maxHeartbeats 8000000 in
theorem ask_any (x : Ev.X) (s : Ev.Sl) (w : World) (hin : Ev.XIn w x) (hs : Ev.IntsIn w s) :
    Calls Tryz.prog 81 #[.agg (Ev.xcells x).toArray, .slice s.a s.l.length s.c] w (Or.AskR x s.l w) := by
  have hle := hin.ev.le; have hmax := hin.ev.max
  have hsl := hs.2.1; have hsm := hs.2.2.1
  have HIN := Lib.hid hin; have HS := Lib.hid hs; clear hin hs
  obtain ⟨B, hB⟩ : ∃ B, B = w.alloc (.cells (Ev.xcells x).toArray 26) := ⟨_, rfl⟩
  have HB := Lib.hid hB
  have RX := Lib.hid (show B.heap[w.heap.size]? = some (.cells (Ev.xcells x).toArray 26 (0, 0)) by rw [hB]; exact heap_alloc_new _ _)
  have B0 := Lib.hid (show Below w.heap.size w B by rw [hB]; exact (Below.refl w.heap.size w).alloc (Nat.le_refl _) _)
  obtain ⟨v, hv⟩ : ∃ v, Ev.check x = v := ⟨_, rfl⟩
  have HV := Lib.hid hv
  clear hB hv
  go_enter Tryz.func81, Tryz.ntmps81
  go_wp2_with (first
    | ((with_reducible show wpList _ _ _ (Oper.mk (some 9) _ _ _ _ _ :: _) _ _); (try rw [show w.alloc (Obj.cells (Ev.xcells x).toArray 26) = B from HB.out.symm]); refine wpList_load_row rfl 26 (.tmp 2) rfl w.heap.size (by kernel_rfl) 26 (Ev.xcells x).toArray (0, 0) _ RX.out Tryz.underlying26 rfl (by kernel_rfl) ?_))
  refine (check_is HV.out _ (HIN.out.kp (Ev.kp_below B0.out))).mono ?_
  rintro r W1 ⟨rfl, hb1⟩
  have R1 := Lib.hid ((hb1.block w.heap.size (Array.getElem?_eq_some_iff.1 RX.out).1).trans RX.out)
  have B1 := Lib.hid (B0.out.trans (hb1.mono B0.out.size)); clear hb1
  by_cases h0 : v = 0
  case neg =>
    have t0 : (v != 0) = true := by simpa using h0
    have H0 := Lib.hid h0
    clear h0
    go_wp2_with fail
    go_ret2
    exact Or.AskR.bad B1.out HV.out H0.out rfl
  subst h0
  have t0 : ((0 : Int) != 0) = false := by decide
  go_wp2_with fail
  go_loopw [8, 16] (fun _ i wr => ∃ k : Nat, k ≤ s.l.length ∧ i = .int .i64 (k : Int) ∧ (∀ j n, j < k → s.l[j]? = some n → Or.inR x n) ∧ wr = W1) (fun _ i _ => s.l.length - (intOf i).toNat)
  case atStart => exact ⟨0, Nat.zero_le _, rfl, fun j n hj => absurd hj (Nat.not_lt_zero j), rfl⟩
  case round =>
    obtain ⟨k, hk, rfl, hall, rfl⟩ := hrel
    have HALL := Lib.hid hall; clear hall
    by_cases hlt : k < s.l.length
    · have hki : (k : Int) < (s.l.length : Int) := by omega
      obtain ⟨n, hn⟩ : ∃ n, s.l[k]? = some n := ⟨_, List.getElem?_eq_getElem hlt⟩
      obtain ⟨g, o, ea, hc⟩ := (HS.out.kp (Ev.kp_below B1.out)).at_ hn
      have hnb := HS.out.b_ hn
      unfold Ev.i64B at hnb
      have HN := Lib.hid hn
      have cx : wr.cell? ⟨w.heap.size, 0, none⟩ = some (.slice x.ae x.ev.length x.ce) := Ev.xcell0 R1.out
      rw [ea]
      clear ea hn
      by_cases h1 : n < 0
      · have t1 : decide (n < 0) = true := decide_eq_true h1
        have HNO := Lib.hid (show ¬ Or.inR x n by unfold Or.inR; omega)
        go_wp2_with fail
        go_ret2
        exact Or.AskR.no B1.out HV.out (List.mem_of_getElem? HN.out) HNO.out rfl
      have t1 : decide (n < 0) = false := decide_eq_false h1
      by_cases h2 : (x.ev.length : Int) ≤ n
      · have t2 : decide ((x.ev.length : Int) ≤ n) = true := decide_eq_true h2
        have HNO := Lib.hid (show ¬ Or.inR x n by unfold Or.inR; omega)
        go_wp2_with fail
        go_ret2
        exact Or.AskR.no B1.out HV.out (List.mem_of_getElem? HN.out) HNO.out rfl
      have t2 : decide ((x.ev.length : Int) ≤ n) = false := decide_eq_false h2
      have HYES := Lib.hid (show Or.inR x n by unfold Or.inR; omega)
      go_wp2_with fail
      go_roundw
      case rel =>
        refine ⟨k + 1, by omega, by go_num, fun j m hj hm => ?_, by first | rfl | trivial⟩
        rcases Nat.lt_succ_iff_lt_or_eq.1 hj with h | h
        · exact HALL.out j m h hm
        · subst h; rw [HN.out] at hm; cases hm; exact HYES.out
      case measure => simp [intOf]; omega
    · have hki : ¬ (k : Int) < (s.l.length : Int) := by omega
      have HALL2 := Lib.hid (show ∀ n ∈ s.l, Or.inR x n from fun n hn => by
        obtain ⟨j, hj⟩ := List.mem_iff_getElem?.1 hn
        have := (List.getElem?_eq_some_iff.1 hj).1
        exact HALL.out j n (by omega) hj)
      go_wp2_with (first
        | ((with_reducible show wpList _ _ _ (Oper.mk (some 30) _ _ _ _ _ :: _) _ _); refine wpList_load_row rfl 26 (.tmp 2) rfl w.heap.size (by kernel_rfl) 26 (Ev.xcells x).toArray (0, 0) _ R1.out Tryz.underlying26 rfl (by kernel_rfl) ?_; unfold Ev.xcells))
      go_ret2
      refine Or.AskR.yes (B1.out.trans (((Below.refl _ _).alloc (Nat.le_refl _) _).mono B1.out.size)) HV.out HALL2.out wr.heap.size rfl ⟨heap_alloc_new _ _, (HIN.out.kp (Ev.kp_below B1.out)).kp (Ev.kp_below ((Below.refl _ _).alloc (Nat.le_refl _) _))⟩
end Go.Proofs.YtecnnkidalkmfaaGreat
end
