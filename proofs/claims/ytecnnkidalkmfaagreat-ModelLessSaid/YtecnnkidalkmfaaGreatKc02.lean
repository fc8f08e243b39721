import Derived.Test.YtecnnkidalkmfaaGreatKc01
import Derived.Deep.QuietTactic
import Derived.BigQuiet
import Derived.IntWalk
set_option linter.unusedVariables false
set_option linter.unusedSimpArgs false

section
namespace Go.Proofs.YtecnnkidalkmfaaGreat
open Go.RowKit
namespace Ev
def R0 : R := ⟨0, 0, 0, 0, 0, false, false, 0, 0, false, ⟨none, 0, []⟩, ⟨none, 0, []⟩, ⟨none, 0, []⟩⟩
def nth (xs : List R) (i : Int) : R := xs.getD i.toNat R0
def hangGo (xs : List R) (n : Int) (h : Int) : Int → List Int → Bool
  | _, [] => true
  | last, d :: ds => !(decide (d ≤ last)) && !(decide (n ≤ d)) && ((nth xs d).h == h) && loads (nth xs d).k && hangGo xs n h d ds
def deps (x : R) : List Sl := [x.d1, x.d2, x.d3]
def depsOk (xs : List R) (n : Int) : Bool := (deps (nth xs n)).all fun s => hangGo xs n (nth xs n).h (-1) s.l
theorem nth_some {xs : List R} {k : Nat} {x : R} (h : xs[k]? = some x) : nth xs (k : Int) = x := by
  unfold nth; simp [List.getD, h]
end Ev
theorem Ev.ld {w : World} {g o : Nat} {x : Ev.R} (hc : ∀ i c, (Ev.cells x)[i]? = some c → w.cell? ⟨g, o + i, none⟩ = some c) : (loadVar 48 ⟨g, o, none⟩).run Tryz.prog w = .ok (.agg (Ev.cells x).toArray) w :=
  run_loadVar_at w g o 48 (Ev.cells x) _ hc Tryz.underlying48 rfl (by kernel_rfl)
theorem index_arr0 (a b c : Value) (w : World) : (Instr.index 149 (.agg #[a, b, c]) (.int .i64 0)).run Tryz.prog w = .ok a w := by kernel_rfl
theorem index_arr1 (a b c : Value) (w : World) : (Instr.index 149 (.agg #[a, b, c]) (.int .i64 1)).run Tryz.prog w = .ok b w := by kernel_rfl
theorem index_arr2 (a b c : Value) (w : World) : (Instr.index 149 (.agg #[a, b, c]) (.int .i64 2)).run Tryz.prog w = .ok c w := by kernel_rfl
set_option maxRecDepth 100000 in
set_option maxHeartbeats 4000000 in
theorem deps_any (a : Option Addr) (c : Nat) (xs : List Ev.R) (n : Nat) (hn : n < xs.length) (w : World) (hin : Ev.EvsIn w a c xs) :
    Calls Tryz.prog 95 #[.slice a xs.length c, .int .i64 (n : Int)] w fun e w' => e = .returned (.bool (Ev.depsOk xs n)) ∧ Below w.heap.size w w' := by
  obtain ⟨x, hx⟩ : ∃ x, xs[n]? = some x := ⟨_, List.getElem?_eq_getElem hn⟩
  obtain ⟨g, o, rfl, hc⟩ := hin.at_ hx
  have hnx := Ev.nth_some hx
  have hmax := hin.max; have hle := hin.le
  have hok := hin.ok_ hx
  have HIN := Lib.hid hin; have HX := Lib.hid hx; have HNX := Lib.hid hnx; have HC := Lib.hid hc; have HOK := Lib.hid hok
  have hni : (n : Int) < (xs.length : Int) := by omega
  clear hin hx hnx hc hok
  go_enter Tryz.func95, Tryz.ntmps95
  go_wp2_with (first
    | (show wpList _ _ _ (Oper.mk (some 14) _ _ _ _ _ :: _) _ _; refine wpList_load_at rfl 48 (.tmp 13) rfl g (o + n * 13) rfl (Ev.cells x) _ HC.out Tryz.underlying48 rfl (by kernel_rfl) ?_)
    | (show wpList _ _ _ (Oper.mk none (Op.store 48 _ _) _ _ _ _ :: _) _ _; refine wpList_store_own rfl 48 (.tmp 5) (.tmp 14) rfl w.heap.size (Ev.cells x).toArray rfl rfl 48 (Ev.cells Ev.R0).toArray (heap_alloc_new _ _) (by kernel_rfl) (by kernel_rfl) (by kernel_rfl) ?_
       intro W1 HW1
       have B1 := Lib.hid (((Below.refl w.heap.size w).alloc (Nat.le_refl _) _).trans HW1.below)
       have RW := Lib.hid HW1.row
       have c10 : W1.cell? ⟨w.heap.size, 10, none⟩ = some (.slice x.d1.a x.d1.l.length x.d1.c) := by rw [cell_of_row _ _ _ _ _ _ HW1.row]; rfl
       have c11 : W1.cell? ⟨w.heap.size, 11, none⟩ = some (.slice x.d2.a x.d2.l.length x.d2.c) := by rw [cell_of_row _ _ _ _ _ _ HW1.row]; rfl
       have c12 : W1.cell? ⟨w.heap.size, 12, none⟩ = some (.slice x.d3.a x.d3.l.length x.d3.c) := by rw [cell_of_row _ _ _ _ _ _ HW1.row]; rfl
       clear HW1))
  clear c10 c11 c12
  have KW := Lib.hid (Ev.kp_below B1.out)
  go_loopw [7, 8, 10, 22] (fun _ _ _ i wr => ∃ k : Nat, k ≤ 3 ∧ i = .int .i64 (k : Int) ∧ (∀ j s, j < k → (Ev.deps x)[j]? = some s → Ev.hangGo xs n x.h (-1) s.l = true) ∧ Below W1.heap.size W1 wr) (fun _ _ _ i _ => 3 - (intOf i).toNat)
  case atStart => exact ⟨0, by omega, rfl, fun j s hj => absurd hj (by omega), Below.refl _ _⟩
  case round =>
    obtain ⟨k, hk, rfl, hall, hbr⟩ := hrel
    have HALL := Lib.hid hall; have HBR := Lib.hid hbr; clear hall hbr
    by_cases hlt : k < 3
    · obtain ⟨S, hS⟩ : ∃ S, (Ev.deps x)[k]? = some S := ⟨_, List.getElem?_eq_getElem (by simpa [Ev.deps] using hlt)⟩
      have HS := Lib.hid hS
      have hSin : Ev.IntsIn wr S := by
        have hk3 : k = 0 ∨ k = 1 ∨ k = 2 := by omega
        have h0 : Ev.IntsIn w S := by
          rcases hk3 with rfl | rfl | rfl
          · cases Option.some.inj hS; exact HOK.out.d1
          · cases Option.some.inj hS; exact HOK.out.d2
          · cases Option.some.inj hS; exact HOK.out.d3
        exact (h0.kp KW.out).kp (Ev.kp_below HBR.out)
      have hidx : (Instr.index 149 (.agg #[.slice x.d1.a x.d1.l.length x.d1.c, .slice x.d2.a x.d2.l.length x.d2.c, .slice x.d3.a x.d3.l.length x.d3.c]) (.int .i64 (k : Int))).run Tryz.prog wr = .ok (.slice S.a S.l.length S.c) wr := by
        have hk3 : k = 0 ∨ k = 1 ∨ k = 2 := by omega
        rcases hk3 with rfl | rfl | rfl
        · cases Option.some.inj hS; exact index_arr0 _ _ _ _
        · cases Option.some.inj hS; exact index_arr1 _ _ _ _
        · cases Option.some.inj hS; exact index_arr2 _ _ _ _
      have hSm : S.c ≤ 9223372036854775807 := hSin.2.2.1
      have hSl : S.l.length ≤ S.c := hSin.2.1
      have HSIN := Lib.hid hSin
      have hki : (k : Int) < 3 := by omega
      clear hS hSin
      go_wp2
      clear hidx
      go_loopw [8, 10, 27] (fun la _ i w2 => ∃ (m : Nat) (last : Int), m ≤ S.l.length ∧ i = .int .i64 (m : Int) ∧ la = .int .i64 last ∧ -1 ≤ last ∧ Ev.hangGo xs n x.h (-1) S.l = Ev.hangGo xs n x.h last (S.l.drop m) ∧ Below wr.heap.size wr w2) (fun _ _ i _ => S.l.length - (intOf i).toNat)
      case atStart => exact ⟨0, -1, Nat.zero_le _, rfl, rfl, by omega, by simp, Below.refl _ _⟩
      case round =>
        obtain ⟨m, last, hm, rfl, rfl, hlast, hgo, hb2⟩ := hrel
        have HB2 := Lib.hid ((B1.out.trans (HBR.out.mono B1.out.size)).trans (hb2.mono (Nat.le_trans B1.out.size HBR.out.size)))
        have HB3 := Lib.hid (HBR.out.trans (hb2.mono HBR.out.size))
        have HB4 := Lib.hid hb2
        have HGO := Lib.hid hgo
        clear hb2 hgo
        by_cases hml : m < S.l.length
        · obtain ⟨d, hd⟩ : ∃ d, S.l[m]? = some d := ⟨_, List.getElem?_eq_getElem hml⟩
          have hdrop : S.l.drop m = d :: S.l.drop (m + 1) := by
            rw [List.drop_eq_getElem_cons hml]; congr 1; rw [List.getElem?_eq_getElem hml] at hd; exact Option.some.inj hd
          obtain ⟨g2, o2, e2, c2⟩ := HSIN.out.at_ hd
          have c2' := (Ev.kp_below HB4.out) _ _ c2
          have hbd := HSIN.out.b_ hd
          unfold Ev.i64B at hbd
          have hmi : (m : Int) < (S.l.length : Int) := by omega
          have HD := Lib.hid hd
          have HDR := Lib.hid hdrop
          clear hd hdrop c2
          rw [e2]
          have HE2 := Lib.hid e2; clear e2
          by_cases hA : d ≤ last
          · have HG := Lib.hid (show Ev.hangGo xs n x.h (-1) S.l = false by rw [HGO.out, HDR.out]; simp [Ev.hangGo, hA])
            have HF := Lib.hid (show Ev.depsOk xs n = false by
              unfold Ev.depsOk; rw [HNX.out, List.all_eq_false]
              refine ⟨S, List.mem_of_getElem? HS.out, ?_⟩
              rw [HG.out]; simp)
            go_wp2
            refine Og.regionB (by kernel_rfl) (by kernel_rfl) ?_
            repeat (first
              | go_big_quiet_skip
              | (go_big_quiet_want
                 first
                  | (go_big_quiet_op
                     first
                      | go_big_quiet_on)))
            refine wpQuiet_nil ?_
            intro _ hw'
            obtain ⟨q9, hw''⟩ := hw'
            subst hw''
            have HEND := Lib.hid (HB2.out.trans (q9.b.mono HB2.out.size))
            go_wp2_with fail
            go_ret
            exact ⟨by rw [HF.out]; rfl, HEND.out⟩
          have hA' : last < d := by omega
          have tA : decide (d ≤ last) = false := decide_eq_false (by omega)
          by_cases hB : (n : Int) ≤ d
          · have HG := Lib.hid (show Ev.hangGo xs n x.h (-1) S.l = false by rw [HGO.out, HDR.out]; simp [Ev.hangGo, hB])
            have tB : decide ((n : Int) ≤ d) = true := decide_eq_true hB
            have HF := Lib.hid (show Ev.depsOk xs n = false by
              unfold Ev.depsOk; rw [HNX.out, List.all_eq_false]
              refine ⟨S, List.mem_of_getElem? HS.out, ?_⟩
              rw [HG.out]; simp)
            go_wp2
            refine Og.regionB (by kernel_rfl) (by kernel_rfl) ?_
            repeat (first
              | go_big_quiet_skip
              | (go_big_quiet_want
                 first
                  | (go_big_quiet_op
                     first
                      | go_big_quiet_on)))
            refine wpQuiet_nil ?_
            intro _ hw'
            obtain ⟨q9, hw''⟩ := hw'
            subst hw''
            have HEND := Lib.hid (HB2.out.trans (q9.b.mono HB2.out.size))
            go_wp2_with fail
            go_ret
            exact ⟨by rw [HF.out]; rfl, HEND.out⟩
          have hB' : d < (n : Int) := by omega
          obtain ⟨dn, rfl⟩ : ∃ dn : Nat, d = dn := ⟨d.toNat, by omega⟩
          have hdn : dn < xs.length := by omega
          obtain ⟨y, hy⟩ : ∃ y, xs[dn]? = some y := ⟨_, List.getElem?_eq_getElem hdn⟩
          have hyn := Ev.nth_some hy
          obtain ⟨g', o', eg, hcy⟩ := HIN.out.at_ hy
          obtain ⟨rfl, rfl⟩ : g' = g ∧ o' = o := by cases eg; exact ⟨rfl, rfl⟩
          have hcy2 : ∀ z : Og.On wr.heap.size wr, ∀ i c, (Ev.cells y)[i]? = some c → z.x.cell? ⟨g', o' + dn * 13 + i, none⟩ = some c := fun z i c hi =>
            Og.cellB z (Ev.kp_below HB2.out _ _ (hcy i c hi))
          have LY := Lib.hid (fun z : Og.On wr.heap.size wr => Ev.ld (hcy2 z))
          have ch : ∀ z : Og.On wr.heap.size wr, z.x.cell? ⟨g', o' + dn * 13, none⟩ = some (.int .i64 y.h) := fun z => hcy2 z 0 _ rfl
          have ce : ∀ z : Og.On wr.heap.size wr, z.x.cell? ⟨w.heap.size, 0, none⟩ = some (.int .i64 x.h) := fun z =>
            Og.cellB z (by
              rw [cell_of_row _ _ 0 _ _ _ ((HB3.out.block w.heap.size (Array.getElem?_eq_some_iff.1 RW.out).1).trans RW.out)]; rfl)
          have hdi : (dn : Int) < (xs.length : Int) := by omega
          have tB : decide ((n : Int) ≤ (dn : Int)) = false := decide_eq_false (by omega)
          have tB' : decide (n ≤ dn) = false := decide_eq_false (by omega)
          have HY := Lib.hid hyn
          clear eg hcy hcy2 hy hyn
          by_cases hC : y.h = x.h
          · have hC1 : (y.h != x.h) = false := by simp [hC]
            have HC' := Lib.hid hC
            clear hC
            by_cases hD : Ev.loads y.k = true
            · have HG := Lib.hid (show Ev.hangGo xs n x.h last (S.l.drop m) = Ev.hangGo xs n x.h dn (S.l.drop (m + 1)) by
                rw [HDR.out]; simp only [Ev.hangGo]; rw [HY.out, HC'.out, hD]; simp; intro h; omega)
              go_wp2
              refine Og.regionB (by kernel_rfl) (by kernel_rfl) ?_
              repeat (first
                | go_big_quiet_skip
                | (go_big_quiet_want
                   first
                    | (refine Og.quiet_load 48 (.tmp 52) rfl (.agg (Ev.cells y).toArray) ⟨g', o' + dn * 13, none⟩ _ rfl (by rintro _ ⟨z, rfl⟩; exact LY.out z) (by simp only [Act.put, List.setIfInBounds_toArray, List.set_cons_zero, List.set_cons_succ]; rfl) ?_
                       go_big_quiet_on)
                    | (go_big_quiet_op
                       first
                        | go_big_quiet_on
                        | (apply Exists.intro
                           refine ⟨fun z => ?_, ?_⟩
                           · first
                              | exact Og.callB (loads_any y _)
                           go_big_quiet_on))))
              refine wpQuiet_nil ?_
              intro _ hw'
              obtain ⟨q9, hw''⟩ := hw'
              subst hw''
              have HEND := Lib.hid (HB4.out.trans (q9.b.mono HB4.out.size))
              rw [hD]
              go_wp2_with fail
              go_roundw
              case rel => exact ⟨m + 1, dn, by omega, by go_num, rfl, by omega, by rw [HGO.out, HG.out], HEND.out⟩
              case measure => simp [intOf]; omega
            · have hD : Ev.loads y.k = false := by simpa using hD
              have HG := Lib.hid (show Ev.hangGo xs n x.h (-1) S.l = false by rw [HGO.out, HDR.out]; simp only [Ev.hangGo]; rw [HY.out, hD]; simp)
              have HF := Lib.hid (show Ev.depsOk xs n = false by
                unfold Ev.depsOk; rw [HNX.out, List.all_eq_false]
                refine ⟨S, List.mem_of_getElem? HS.out, ?_⟩
                rw [HG.out]; simp)
              go_wp2
              refine Og.regionB (by kernel_rfl) (by kernel_rfl) ?_
              repeat (first
                | go_big_quiet_skip
                | (go_big_quiet_want
                   first
                    | (refine Og.quiet_load 48 (.tmp 52) rfl (.agg (Ev.cells y).toArray) ⟨g', o' + dn * 13, none⟩ _ rfl (by rintro _ ⟨z, rfl⟩; exact LY.out z) (by simp only [Act.put, List.setIfInBounds_toArray, List.set_cons_zero, List.set_cons_succ]; rfl) ?_
                       go_big_quiet_on)
                    | (go_big_quiet_op
                       first
                        | go_big_quiet_on
                        | (apply Exists.intro
                           refine ⟨fun z => ?_, ?_⟩
                           · first
                              | exact Og.callB (loads_any y _)
                           go_big_quiet_on))))
              refine wpQuiet_nil ?_
              intro _ hw'
              obtain ⟨q9, hw''⟩ := hw'
              subst hw''
              rw [hD]
              have HEND := Lib.hid (HB2.out.trans (q9.b.mono HB2.out.size))
              go_wp2_with fail
              go_ret
              exact ⟨by rw [HF.out]; rfl, HEND.out⟩
          · have hC1 : (y.h != x.h) = true := by simpa using hC
            have HG := Lib.hid (show Ev.hangGo xs n x.h (-1) S.l = false by rw [HGO.out, HDR.out]; simp only [Ev.hangGo]; rw [HY.out]; simp [hC])
            have HF := Lib.hid (show Ev.depsOk xs n = false by
              unfold Ev.depsOk; rw [HNX.out, List.all_eq_false]
              refine ⟨S, List.mem_of_getElem? HS.out, ?_⟩
              rw [HG.out]; simp)
            clear hC
            go_wp2
            refine Og.regionB (by kernel_rfl) (by kernel_rfl) ?_
            repeat (first
              | go_big_quiet_skip
              | (go_big_quiet_want
                 first
                  | (go_big_quiet_op
                     first
                      | go_big_quiet_on)))
            refine wpQuiet_nil ?_
            intro _ hw'
            obtain ⟨q9, hw''⟩ := hw'
            subst hw''
            have HEND := Lib.hid (HB2.out.trans (q9.b.mono HB2.out.size))
            go_wp2_with fail
            go_ret
            exact ⟨by rw [HF.out]; rfl, HEND.out⟩
        · have hme : m = S.l.length := by omega
          have HT := Lib.hid (show Ev.hangGo xs n x.h (-1) S.l = true by rw [HGO.out, hme, List.drop_length]; simp [Ev.hangGo])
          have hmi : ¬ (m : Int) < (S.l.length : Int) := by omega
          clear hme
          go_wp2_with fail
          go_roundw
          case rel =>
            refine ⟨k + 1, by omega, by go_num, fun j s hj hs => ?_, HBR.out.trans (HB4.out.mono HBR.out.size)⟩
            by_cases hjk : j = k
            · subst hjk; rw [HS.out] at hs; cases Option.some.inj hs; exact HT.out
            · exact HALL.out j s (by omega) hs
          case measure => simp [intOf]; omega
    · have hk3 : k = 3 := by omega
      have HF := Lib.hid (show Ev.depsOk xs n = true by
        unfold Ev.depsOk; rw [HNX.out, List.all_eq_true]
        intro s hs
        obtain ⟨j, hj⟩ := List.mem_iff_getElem?.1 hs
        exact HALL.out j s (by have := (List.getElem?_eq_some_iff.1 hj).1; simp [Ev.deps] at this; omega) hj)
      have hki : ¬ (k : Int) < 3 := by omega
      clear hk3
      go_wp2
      go_ret
      exact ⟨by rw [HF.out]; rfl, B1.out.trans (HBR.out.mono B1.out.size)⟩
end Go.Proofs.YtecnnkidalkmfaaGreat
end
