import Derived.Test.YtnjnpbabgefaeaaGreatKg04
import Derived.Test.YtnjnpbabgefaeaaGreatKg01
import Derived.Deep.QuietTactic
import Derived.BigQuiet
import Derived.IntWalk
import Derived.Laws.BitsAllLaws
import Derived.Laws.BitsLemmas
set_option linter.unusedVariables false
set_option linter.unusedSimpArgs false

section
namespace Go.Proofs.YtnjnpbabgefaeaaGreat
open Go.RowKit
namespace Ev
def R0 : R := ⟨0, 0, 0, 0, 0, false, false, 0, 0, false, ⟨none, 0, []⟩, ⟨none, 0, []⟩, ⟨none, 0, []⟩⟩
def nth (xs : List R) (i : Int) : R := xs.getD i.toNat R0
def hangGo (xs : List R) (n : Int) (h : Int) : Int → List Int → Bool
  | _, [] => true
  | last, d :: ds => !(decide (d ≤ last)) && !(decide (n ≤ d)) && ((nth xs d).h == h) && loads (nth xs d).k && hangGo xs n h d ds
def deps (x : R) : List Sl := [x.d1, x.d2, x.d3]
def depsOk (xs : List R) (n : Int) : Bool := (deps (nth xs n)).all fun s => hangGo xs n (nth xs n).h (-1) s.l
theorem nth_some {xs : List R} {k : Nat} {x : R} (h : xs[k]? = some x) : nth xs (k : Int) = x := by
  unfold nth; simp [List.getD, h]
end Ev
theorem Ev.ld {w : World} {g o : Nat} {x : Ev.R} (hc : ∀ i c, (Ev.cells x)[i]? = some c → w.cell? ⟨g, o + i, none⟩ = some c) : (loadVar 48 ⟨g, o, none⟩).run Tryz.prog w = .ok (.agg (Ev.cells x).toArray) w :=
  run_loadVar_at w g o 48 (Ev.cells x) _ hc Tryz.underlying48 rfl (by kernel_rfl)
theorem index_arr0 (a b c : Value) (w : World) : (Instr.index 149 (.agg #[a, b, c]) (.int .i64 0)).run Tryz.prog w = .ok a w := by kernel_rfl
theorem index_arr1 (a b c : Value) (w : World) : (Instr.index 149 (.agg #[a, b, c]) (.int .i64 1)).run Tryz.prog w = .ok b w := by kernel_rfl
theorem index_arr2 (a b c : Value) (w : World) : (Instr.index 149 (.agg #[a, b, c]) (.int .i64 2)).run Tryz.prog w = .ok c w := by kernel_rfl
set_option maxRecDepth 100000 in
set_option maxHeartbeats 4000000 in
theorem deps_any (a : Option Addr) (c : Nat) (xs : List Ev.R) (n : Nat) (hn : n < xs.length) (w : World) (hin : Ev.EvsIn w a c xs) :
    Calls Tryz.prog 95 #[.slice a xs.length c, .int .i64 (n : Int)] w fun e w' => e = .returned (.bool (Ev.depsOk xs n)) ∧ Below w.heap.size w w' := by
  obtain ⟨x, hx⟩ : ∃ x, xs[n]? = some x := ⟨_, List.getElem?_eq_getElem hn⟩
  obtain ⟨g, o, rfl, hc⟩ := hin.at_ hx
  have hnx := Ev.nth_some hx
  have hmax := hin.max; have hle := hin.le
  have hok := hin.ok_ hx
  have HIN := Lib.hid hin; have HX := Lib.hid hx; have HNX := Lib.hid hnx; have HC := Lib.hid hc; have HOK := Lib.hid hok
  have hni : (n : Int) < (xs.length : Int) := by omega
  clear hin hx hnx hc hok
  go_enter Tryz.func95, Tryz.ntmps95
  go_wp2_with (first
    | (show wpList _ _ _ (Oper.mk (some 14) _ _ _ _ _ :: _) _ _; refine wpList_load_at rfl 48 (.tmp 13) rfl g (o + n * 13) rfl (Ev.cells x) _ HC.out Tryz.underlying48 rfl (by kernel_rfl) ?_)
    | (show wpList _ _ _ (Oper.mk none (Op.store 48 _ _) _ _ _ _ :: _) _ _; refine wpList_store_own rfl 48 (.tmp 5) (.tmp 14) rfl w.heap.size (Ev.cells x).toArray rfl rfl 48 (Ev.cells Ev.R0).toArray (heap_alloc_new _ _) (by kernel_rfl) (by kernel_rfl) (by kernel_rfl) ?_
       intro W1 HW1
       have B1 := Lib.hid (((Below.refl w.heap.size w).alloc (Nat.le_refl _) _).trans HW1.below)
       have RW := Lib.hid HW1.row
       have c10 : W1.cell? ⟨w.heap.size, 10, none⟩ = some (.slice x.d1.a x.d1.l.length x.d1.c) := by rw [cell_of_row _ _ _ _ _ _ HW1.row]; rfl
       have c11 : W1.cell? ⟨w.heap.size, 11, none⟩ = some (.slice x.d2.a x.d2.l.length x.d2.c) := by rw [cell_of_row _ _ _ _ _ _ HW1.row]; rfl
       have c12 : W1.cell? ⟨w.heap.size, 12, none⟩ = some (.slice x.d3.a x.d3.l.length x.d3.c) := by rw [cell_of_row _ _ _ _ _ _ HW1.row]; rfl
       clear HW1))
  clear c10 c11 c12
  have KW := Lib.hid (Ev.kp_below B1.out)
  go_loopw [7, 8, 10, 22] (fun _ _ _ i wr => ∃ k : Nat, k ≤ 3 ∧ i = .int .i64 (k : Int) ∧ (∀ j s, j < k → (Ev.deps x)[j]? = some s → Ev.hangGo xs n x.h (-1) s.l = true) ∧ Below W1.heap.size W1 wr) (fun _ _ _ i _ => 3 - (intOf i).toNat)
  case atStart => exact ⟨0, by omega, rfl, fun j s hj => absurd hj (by omega), Below.refl _ _⟩
  case round =>
    obtain ⟨k, hk, rfl, hall, hbr⟩ := hrel
    have HALL := Lib.hid hall; have HBR := Lib.hid hbr; clear hall hbr
    by_cases hlt : k < 3
    · obtain ⟨S, hS⟩ : ∃ S, (Ev.deps x)[k]? = some S := ⟨_, List.getElem?_eq_getElem (by simpa [Ev.deps] using hlt)⟩
      have HS := Lib.hid hS
      have hSin : Ev.IntsIn wr S := by
        have hk3 : k = 0 ∨ k = 1 ∨ k = 2 := by omega
        have h0 : Ev.IntsIn w S := by
          rcases hk3 with rfl | rfl | rfl
          · cases Option.some.inj hS; exact HOK.out.d1
          · cases Option.some.inj hS; exact HOK.out.d2
          · cases Option.some.inj hS; exact HOK.out.d3
        exact (h0.kp KW.out).kp (Ev.kp_below HBR.out)
      have hidx : (Instr.index 149 (.agg #[.slice x.d1.a x.d1.l.length x.d1.c, .slice x.d2.a x.d2.l.length x.d2.c, .slice x.d3.a x.d3.l.length x.d3.c]) (.int .i64 (k : Int))).run Tryz.prog wr = .ok (.slice S.a S.l.length S.c) wr := by
        have hk3 : k = 0 ∨ k = 1 ∨ k = 2 := by omega
        rcases hk3 with rfl | rfl | rfl
        · cases Option.some.inj hS; exact index_arr0 _ _ _ _
        · cases Option.some.inj hS; exact index_arr1 _ _ _ _
        · cases Option.some.inj hS; exact index_arr2 _ _ _ _
      have hSm : S.c ≤ 9223372036854775807 := hSin.2.2.1
      have hSl : S.l.length ≤ S.c := hSin.2.1
      have HSIN := Lib.hid hSin
      have hki : (k : Int) < 3 := by omega
      clear hS hSin
      go_wp2
      clear hidx
      go_loopw [8, 10, 27] (fun la _ i w2 => ∃ (m : Nat) (last : Int), m ≤ S.l.length ∧ i = .int .i64 (m : Int) ∧ la = .int .i64 last ∧ -1 ≤ last ∧ Ev.hangGo xs n x.h (-1) S.l = Ev.hangGo xs n x.h last (S.l.drop m) ∧ Below wr.heap.size wr w2) (fun _ _ i _ => S.l.length - (intOf i).toNat)
      case atStart => exact ⟨0, -1, Nat.zero_le _, rfl, rfl, by omega, by simp, Below.refl _ _⟩
      case round =>
        obtain ⟨m, last, hm, rfl, rfl, hlast, hgo, hb2⟩ := hrel
        have HB2 := Lib.hid ((B1.out.trans (HBR.out.mono B1.out.size)).trans (hb2.mono (Nat.le_trans B1.out.size HBR.out.size)))
        have HB3 := Lib.hid (HBR.out.trans (hb2.mono HBR.out.size))
        have HB4 := Lib.hid hb2
        have HGO := Lib.hid hgo
        clear hb2 hgo
        by_cases hml : m < S.l.length
        · obtain ⟨d, hd⟩ : ∃ d, S.l[m]? = some d := ⟨_, List.getElem?_eq_getElem hml⟩
          have hdrop : S.l.drop m = d :: S.l.drop (m + 1) := by
            rw [List.drop_eq_getElem_cons hml]; congr 1; rw [List.getElem?_eq_getElem hml] at hd; exact Option.some.inj hd
          obtain ⟨g2, o2, e2, c2⟩ := HSIN.out.at_ hd
          have c2' := (Ev.kp_below HB4.out) _ _ c2
          have hbd := HSIN.out.b_ hd
          unfold Ev.i64B at hbd
          have hmi : (m : Int) < (S.l.length : Int) := by omega
          have HD := Lib.hid hd
          have HDR := Lib.hid hdrop
          clear hd hdrop c2
          rw [e2]
          have HE2 := Lib.hid e2; clear e2
          by_cases hA : d ≤ last
          · have HG := Lib.hid (show Ev.hangGo xs n x.h (-1) S.l = false by rw [HGO.out, HDR.out]; simp [Ev.hangGo, hA])
            have HF := Lib.hid (show Ev.depsOk xs n = false by
              unfold Ev.depsOk; rw [HNX.out, List.all_eq_false]
              refine ⟨S, List.mem_of_getElem? HS.out, ?_⟩
              rw [HG.out]; simp)
            go_wp2
            refine Og.regionB (by kernel_rfl) (by kernel_rfl) ?_
            repeat (first
              | go_big_quiet_skip
              | (go_big_quiet_want
                 first
                  | (go_big_quiet_op
                     first
                      | go_big_quiet_on)))
            refine wpQuiet_nil ?_
            intro _ hw'
            obtain ⟨q9, hw''⟩ := hw'
            subst hw''
            have HEND := Lib.hid (HB2.out.trans (q9.b.mono HB2.out.size))
            go_wp2_with fail
            go_ret
            exact ⟨by rw [HF.out]; rfl, HEND.out⟩
          have hA' : last < d := by omega
          have tA : decide (d ≤ last) = false := decide_eq_false (by omega)
          by_cases hB : (n : Int) ≤ d
          · have HG := Lib.hid (show Ev.hangGo xs n x.h (-1) S.l = false by rw [HGO.out, HDR.out]; simp [Ev.hangGo, hB])
            have tB : decide ((n : Int) ≤ d) = true := decide_eq_true hB
            have HF := Lib.hid (show Ev.depsOk xs n = false by
              unfold Ev.depsOk; rw [HNX.out, List.all_eq_false]
              refine ⟨S, List.mem_of_getElem? HS.out, ?_⟩
              rw [HG.out]; simp)
            go_wp2
            refine Og.regionB (by kernel_rfl) (by kernel_rfl) ?_
            repeat (first
              | go_big_quiet_skip
              | (go_big_quiet_want
                 first
                  | (go_big_quiet_op
                     first
                      | go_big_quiet_on)))
            refine wpQuiet_nil ?_
            intro _ hw'
            obtain ⟨q9, hw''⟩ := hw'
            subst hw''
            have HEND := Lib.hid (HB2.out.trans (q9.b.mono HB2.out.size))
            go_wp2_with fail
            go_ret
            exact ⟨by rw [HF.out]; rfl, HEND.out⟩
          have hB' : d < (n : Int) := by omega
          obtain ⟨dn, rfl⟩ : ∃ dn : Nat, d = dn := ⟨d.toNat, by omega⟩
          have hdn : dn < xs.length := by omega
          obtain ⟨y, hy⟩ : ∃ y, xs[dn]? = some y := ⟨_, List.getElem?_eq_getElem hdn⟩
          have hyn := Ev.nth_some hy
          obtain ⟨g', o', eg, hcy⟩ := HIN.out.at_ hy
          obtain ⟨rfl, rfl⟩ : g' = g ∧ o' = o := by cases eg; exact ⟨rfl, rfl⟩
          have hcy2 : ∀ z : Og.On wr.heap.size wr, ∀ i c, (Ev.cells y)[i]? = some c → z.x.cell? ⟨g', o' + dn * 13 + i, none⟩ = some c := fun z i c hi =>
            Og.cellB z (Ev.kp_below HB2.out _ _ (hcy i c hi))
          have LY := Lib.hid (fun z : Og.On wr.heap.size wr => Ev.ld (hcy2 z))
          have ch : ∀ z : Og.On wr.heap.size wr, z.x.cell? ⟨g', o' + dn * 13, none⟩ = some (.int .i64 y.h) := fun z => hcy2 z 0 _ rfl
          have ce : ∀ z : Og.On wr.heap.size wr, z.x.cell? ⟨w.heap.size, 0, none⟩ = some (.int .i64 x.h) := fun z =>
            Og.cellB z (by
              rw [cell_of_row _ _ 0 _ _ _ ((HB3.out.block w.heap.size (Array.getElem?_eq_some_iff.1 RW.out).1).trans RW.out)]; rfl)
          have hdi : (dn : Int) < (xs.length : Int) := by omega
          have tB : decide ((n : Int) ≤ (dn : Int)) = false := decide_eq_false (by omega)
          have tB' : decide (n ≤ dn) = false := decide_eq_false (by omega)
          have HY := Lib.hid hyn
          clear eg hcy hcy2 hy hyn
          by_cases hC : y.h = x.h
          · have hC1 : (y.h != x.h) = false := by simp [hC]
            have HC' := Lib.hid hC
            clear hC
            by_cases hD : Ev.loads y.k = true
            · have HG := Lib.hid (show Ev.hangGo xs n x.h last (S.l.drop m) = Ev.hangGo xs n x.h dn (S.l.drop (m + 1)) by
                rw [HDR.out]; simp only [Ev.hangGo]; rw [HY.out, HC'.out, hD]; simp; intro h; omega)
              go_wp2
              refine Og.regionB (by kernel_rfl) (by kernel_rfl) ?_
              repeat (first
                | go_big_quiet_skip
                | (go_big_quiet_want
                   first
                    | (refine Og.quiet_load 48 (.tmp 52) rfl (.agg (Ev.cells y).toArray) ⟨g', o' + dn * 13, none⟩ _ rfl (by rintro _ ⟨z, rfl⟩; exact LY.out z) (by simp only [Act.put, List.setIfInBounds_toArray, List.set_cons_zero, List.set_cons_succ]; rfl) ?_
                       go_big_quiet_on)
                    | (go_big_quiet_op
                       first
                        | go_big_quiet_on
                        | (apply Exists.intro
                           refine ⟨fun z => ?_, ?_⟩
                           · first
                              | exact Og.callB (loads_any y _)
                           go_big_quiet_on))))
              refine wpQuiet_nil ?_
              intro _ hw'
              obtain ⟨q9, hw''⟩ := hw'
              subst hw''
              have HEND := Lib.hid (HB4.out.trans (q9.b.mono HB4.out.size))
              rw [hD]
              go_wp2_with fail
              go_roundw
              case rel => exact ⟨m + 1, dn, by omega, by go_num, rfl, by omega, by rw [HGO.out, HG.out], HEND.out⟩
              case measure => simp [intOf]; omega
            · have hD : Ev.loads y.k = false := by simpa using hD
              have HG := Lib.hid (show Ev.hangGo xs n x.h (-1) S.l = false by rw [HGO.out, HDR.out]; simp only [Ev.hangGo]; rw [HY.out, hD]; simp)
              have HF := Lib.hid (show Ev.depsOk xs n = false by
                unfold Ev.depsOk; rw [HNX.out, List.all_eq_false]
                refine ⟨S, List.mem_of_getElem? HS.out, ?_⟩
                rw [HG.out]; simp)
              go_wp2
              refine Og.regionB (by kernel_rfl) (by kernel_rfl) ?_
              repeat (first
                | go_big_quiet_skip
                | (go_big_quiet_want
                   first
                    | (refine Og.quiet_load 48 (.tmp 52) rfl (.agg (Ev.cells y).toArray) ⟨g', o' + dn * 13, none⟩ _ rfl (by rintro _ ⟨z, rfl⟩; exact LY.out z) (by simp only [Act.put, List.setIfInBounds_toArray, List.set_cons_zero, List.set_cons_succ]; rfl) ?_
                       go_big_quiet_on)
                    | (go_big_quiet_op
                       first
                        | go_big_quiet_on
                        | (apply Exists.intro
                           refine ⟨fun z => ?_, ?_⟩
                           · first
                              | exact Og.callB (loads_any y _)
                           go_big_quiet_on))))
              refine wpQuiet_nil ?_
              intro _ hw'
              obtain ⟨q9, hw''⟩ := hw'
              subst hw''
              rw [hD]
              have HEND := Lib.hid (HB2.out.trans (q9.b.mono HB2.out.size))
              go_wp2_with fail
              go_ret
              exact ⟨by rw [HF.out]; rfl, HEND.out⟩
          · have hC1 : (y.h != x.h) = true := by simpa using hC
            have HG := Lib.hid (show Ev.hangGo xs n x.h (-1) S.l = false by rw [HGO.out, HDR.out]; simp only [Ev.hangGo]; rw [HY.out]; simp [hC])
            have HF := Lib.hid (show Ev.depsOk xs n = false by
              unfold Ev.depsOk; rw [HNX.out, List.all_eq_false]
              refine ⟨S, List.mem_of_getElem? HS.out, ?_⟩
              rw [HG.out]; simp)
            clear hC
            go_wp2
            refine Og.regionB (by kernel_rfl) (by kernel_rfl) ?_
            repeat (first
              | go_big_quiet_skip
              | (go_big_quiet_want
                 first
                  | (go_big_quiet_op
                     first
                      | go_big_quiet_on)))
            refine wpQuiet_nil ?_
            intro _ hw'
            obtain ⟨q9, hw''⟩ := hw'
            subst hw''
            have HEND := Lib.hid (HB2.out.trans (q9.b.mono HB2.out.size))
            go_wp2_with fail
            go_ret
            exact ⟨by rw [HF.out]; rfl, HEND.out⟩
        · have hme : m = S.l.length := by omega
          have HT := Lib.hid (show Ev.hangGo xs n x.h (-1) S.l = true by rw [HGO.out, hme, List.drop_length]; simp [Ev.hangGo])
          have hmi : ¬ (m : Int) < (S.l.length : Int) := by omega
          clear hme
          go_wp2_with fail
          go_roundw
          case rel =>
            refine ⟨k + 1, by omega, by go_num, fun j s hj hs => ?_, HBR.out.trans (HB4.out.mono HBR.out.size)⟩
            by_cases hjk : j = k
            · subst hjk; rw [HS.out] at hs; cases Option.some.inj hs; exact HT.out
            · exact HALL.out j s (by omega) hs
          case measure => simp [intOf]; omega
    · have hk3 : k = 3 := by omega
      have HF := Lib.hid (show Ev.depsOk xs n = true by
        unfold Ev.depsOk; rw [HNX.out, List.all_eq_true]
        intro s hs
        obtain ⟨j, hj⟩ := List.mem_iff_getElem?.1 hs
        exact HALL.out j s (by have := (List.getElem?_eq_some_iff.1 hj).1; simp [Ev.deps] at this; omega) hj)
      have hki : ¬ (k : Int) < 3 := by omega
      clear hk3
      go_wp2
      go_ret
      exact ⟨by rw [HF.out]; rfl, B1.out.trans (HBR.out.mono B1.out.size)⟩
end Go.Proofs.YtnjnpbabgefaeaaGreat
end

section
namespace Go.Proofs.YtnjnpbabgefaeaaGreat
open Go.RowKit
namespace Ev
def fl (x : R) : List (Nat × Bool) := [(1, x.a != 0), (2, x.v != 0), (4, x.r != 0), (8, x.q), (16, x.l), (32, x.p != 0), (64, x.s != 0), (128, x.z), (256, (x.d1.l.length : Int) != 0), (512, (x.d2.l.length : Int) != 0), (1024, (x.d3.l.length : Int) != 0)]
def filled (x : R) : Nat := (fl x).foldl (fun m y => m ||| bit y.2 y.1) 0
theorem or_lt (m p : Nat) (hm : m < 2048) (hp : p < 2048) : m ||| p < 2048 := Nat.or_lt_two_pow (n := 11) hm hp
theorem bit_lt (b : Bool) (p : Nat) (hp : p < 2048) : bit b p < 2048 := by unfold bit; split <;> omega
theorem ofInt_i64 (a : Nat) (ha : a < 9223372036854775808) : (BitVec.ofInt 64 (a : Int)).toNat = a := by
  rw [BitVec.ofInt_natCast, BitVec.toNat_ofNat]; exact Nat.mod_eq_of_lt (by omega)
theorem i64_or_nat (a b : Nat) (ha : a < 9223372036854775808) (hb : b < 9223372036854775808) : bits .or .i64 (a : Int) (b : Int) = ((a ||| b : Nat) : Int) := by
  have hx : a ||| b < 2 ^ 63 := Nat.or_lt_two_pow (by omega) (by omega)
  show IntKind.i64.wrap ((BitVec.ofInt 64 (a : Int) ||| BitVec.ofInt 64 (b : Int)).toNat : Int) = _
  rw [BitVec.toNat_or, ofInt_i64 a ha, ofInt_i64 b hb, IntKind.wrap_i64]
  omega
structure Two (W : World) (n : Nat) (row : Array Value) (m : Nat) : Prop where
  box : W.heap[n]? = some (.cells row 48 (0, 0))
  cell : W.heap[n + 1]? = some (.cells #[.int .i64 (m : Int)] 146 (0, 0))
end Ev
theorem note_any (g m p : Nat) (b : Bool) (w : World) (hm : m < 2048) (hp : p < 2048) (hg : w.heap[g]? = some (.cells #[.int .i64 (m : Int)] 146 (0, 0))) :
    Calls Tryz.prog 148 #[.int .i64 (p : Int), .bool b, .pointer (some ⟨g, 0, none⟩)] w fun e w' => e = .returned (.tuple #[]) ∧ Ev.Set1 w w' g 146 #[.int .i64 ((m ||| Ev.bit b p : Nat) : Int)] := by
  have hc : w.cell? ⟨g, 0, none⟩ = some (.int .i64 (m : Int)) := by rw [cell_of_row w g 0 _ _ _ hg]; rfl
  have hf : w.frozen? ⟨g, 0, none⟩ = false := by simp [World.frozen?, hg]
  have HG := Lib.hid hg; clear hg
  cases b
  · go_enter Tryz.func148, Tryz.ntmps148
    go_wp2
    go_end0
    refine ⟨rfl, ?_⟩
    have h0 : m ||| Ev.bit false p = m := by simp [Ev.bit]
    rw [h0]
    exact ⟨HG.out, rfl, Below.refl _ _, fun _ _ => rfl⟩
  · have ho := Ev.i64_or_nat m p (by omega) (by omega)
    go_enter Tryz.func148, Tryz.ntmps148
    go_wp2
    go_end0
    refine ⟨rfl, ?_⟩
    have e : w.setCell ⟨g, 0, none⟩ (.int .i64 ((m ||| p : Nat) : Int)) = w.setRow g #[.int .i64 ((m ||| p : Nat) : Int)] := by
      simp only [World.setCell, World.setRow]
      congr 1
      apply Array.ext
      · simp
      · intro i h1 h2
        simp only [Array.getElem_modify]
        split
        · rename_i hi
          have h3 := Array.getElem?_eq_some_iff.1 HG.out
          obtain ⟨h4, h5⟩ := h3
          subst hi
          rw [h5]
          rfl
        · rfl
    have e2 : Ev.bit true p = p := rfl
    rw [e2]
    first | rw [e] | (simp only [ho] at *; rw [e])
    exact Ev.set1 HG.out rfl
theorem Ev.two_next {W W' : World} {n : Nat} {row : Array Value} {m m' : Nat} (h : Ev.Two W n row m) (s : Ev.Set1 W W' (n + 1) 146 #[.int .i64 (m' : Int)]) : Ev.Two W' n row m' :=
  ⟨(s.block n (by omega)).trans h.box, s.row⟩
set_option maxRecDepth 100000 in
set_option maxHeartbeats 2000000 in
theorem filled_any (x : Ev.R) (w : World) : Calls Tryz.prog 117 #[Ev.evV x] w fun e w' => e = .returned (.int .i64 ((Ev.filled x : Nat) : Int)) ∧ Ev.filled x < 2048 ∧ Below w.heap.size w w' := by
  unfold Ev.evV Ev.cells
  obtain ⟨m0, hm0⟩ : ∃ m : Nat, m = 0 := ⟨_, rfl⟩
  obtain ⟨m1, hm1⟩ : ∃ m : Nat, m = m0 ||| Ev.bit (x.a != 0) 1 := ⟨_, rfl⟩
  obtain ⟨m2, hm2⟩ : ∃ m : Nat, m = m1 ||| Ev.bit (x.v != 0) 2 := ⟨_, rfl⟩
  obtain ⟨m3, hm3⟩ : ∃ m : Nat, m = m2 ||| Ev.bit (x.r != 0) 4 := ⟨_, rfl⟩
  obtain ⟨m4, hm4⟩ : ∃ m : Nat, m = m3 ||| Ev.bit (x.q) 8 := ⟨_, rfl⟩
  obtain ⟨m5, hm5⟩ : ∃ m : Nat, m = m4 ||| Ev.bit (x.l) 16 := ⟨_, rfl⟩
  obtain ⟨m6, hm6⟩ : ∃ m : Nat, m = m5 ||| Ev.bit (x.p != 0) 32 := ⟨_, rfl⟩
  obtain ⟨m7, hm7⟩ : ∃ m : Nat, m = m6 ||| Ev.bit (x.s != 0) 64 := ⟨_, rfl⟩
  obtain ⟨m8, hm8⟩ : ∃ m : Nat, m = m7 ||| Ev.bit (x.z) 128 := ⟨_, rfl⟩
  obtain ⟨m9, hm9⟩ : ∃ m : Nat, m = m8 ||| Ev.bit ((x.d1.l.length : Int) != 0) 256 := ⟨_, rfl⟩
  obtain ⟨m10, hm10⟩ : ∃ m : Nat, m = m9 ||| Ev.bit ((x.d2.l.length : Int) != 0) 512 := ⟨_, rfl⟩
  obtain ⟨m11, hm11⟩ : ∃ m : Nat, m = m10 ||| Ev.bit ((x.d3.l.length : Int) != 0) 1024 := ⟨_, rfl⟩
  have hres : Ev.filled x = m11 := by rw [hm11, hm10, hm9, hm8, hm7, hm6, hm5, hm4, hm3, hm2, hm1, hm0]; rfl
  have l0 : m0 < 2048 := by omega
  have l1 : m1 < 2048 := by rw [hm1]; exact Ev.or_lt _ _ l0 (Ev.bit_lt _ _ (by omega))
  have l2 : m2 < 2048 := by rw [hm2]; exact Ev.or_lt _ _ l1 (Ev.bit_lt _ _ (by omega))
  have l3 : m3 < 2048 := by rw [hm3]; exact Ev.or_lt _ _ l2 (Ev.bit_lt _ _ (by omega))
  have l4 : m4 < 2048 := by rw [hm4]; exact Ev.or_lt _ _ l3 (Ev.bit_lt _ _ (by omega))
  have l5 : m5 < 2048 := by rw [hm5]; exact Ev.or_lt _ _ l4 (Ev.bit_lt _ _ (by omega))
  have l6 : m6 < 2048 := by rw [hm6]; exact Ev.or_lt _ _ l5 (Ev.bit_lt _ _ (by omega))
  have l7 : m7 < 2048 := by rw [hm7]; exact Ev.or_lt _ _ l6 (Ev.bit_lt _ _ (by omega))
  have l8 : m8 < 2048 := by rw [hm8]; exact Ev.or_lt _ _ l7 (Ev.bit_lt _ _ (by omega))
  have l9 : m9 < 2048 := by rw [hm9]; exact Ev.or_lt _ _ l8 (Ev.bit_lt _ _ (by omega))
  have l10 : m10 < 2048 := by rw [hm10]; exact Ev.or_lt _ _ l9 (Ev.bit_lt _ _ (by omega))
  have l11 : m11 < 2048 := by rw [hm11]; exact Ev.or_lt _ _ l10 (Ev.bit_lt _ _ (by omega))
  rw [hres]
  have HM0 := Lib.hid hm0; clear hm0
  have HM1 := Lib.hid hm1; clear hm1
  have HM2 := Lib.hid hm2; clear hm2
  have HM3 := Lib.hid hm3; clear hm3
  have HM4 := Lib.hid hm4; clear hm4
  have HM5 := Lib.hid hm5; clear hm5
  have HM6 := Lib.hid hm6; clear hm6
  have HM7 := Lib.hid hm7; clear hm7
  have HM8 := Lib.hid hm8; clear hm8
  have HM9 := Lib.hid hm9; clear hm9
  have HM10 := Lib.hid hm10; clear hm10
  have HM11 := Lib.hid hm11; clear hm11
  clear hres
  have T0 : Ev.Two (((w.alloc (.cells #[.int .i64 x.h, .int .i64 x.k, .int .u32 x.a, .int .u32 x.v, .int .u32 x.r, .bool x.q, .bool x.l, .int .i64 x.p, .int .i64 x.s, .bool x.z, .slice x.d1.a x.d1.l.length x.d1.c, .slice x.d2.a x.d2.l.length x.d2.c, .slice x.d3.a x.d3.l.length x.d3.c] 48)).alloc (.cells #[.int .i64 0] 146))) w.heap.size #[.int .i64 x.h, .int .i64 x.k, .int .u32 x.a, .int .u32 x.v, .int .u32 x.r, .bool x.q, .bool x.l, .int .i64 x.p, .int .i64 x.s, .bool x.z, .slice x.d1.a x.d1.l.length x.d1.c, .slice x.d2.a x.d2.l.length x.d2.c, .slice x.d3.a x.d3.l.length x.d3.c] m0 := by
    rw [HM0.out]
    exact ⟨(Below.heap_alloc _ _ _ (by simp)).trans (heap_alloc_new _ _), heap_alloc2_new w _ _⟩
  have B0 : Below w.heap.size w ((w.alloc (.cells #[.int .i64 x.h, .int .i64 x.k, .int .u32 x.a, .int .u32 x.v, .int .u32 x.r, .bool x.q, .bool x.l, .int .i64 x.p, .int .i64 x.s, .bool x.z, .slice x.d1.a x.d1.l.length x.d1.c, .slice x.d2.a x.d2.l.length x.d2.c, .slice x.d3.a x.d3.l.length x.d3.c] 48)).alloc (.cells #[.int .i64 0] 146)) := ((Below.refl _ _).alloc (Nat.le_refl _) _).alloc (by simp only [World.size_alloc]; omega) _
  have HT0 := Lib.hid T0; have HB0 := Lib.hid B0; clear T0 B0
  go_enter Tryz.func117, Tryz.ntmps117
  go_wp2_with fail
  refine (note_any (w.heap.size + 1) m0 1 (x.a != 0) _ l0 (by omega) HT0.out.cell).mono ?_
  rintro e W1 ⟨rfl, hs1⟩
  rw [← HM1.out] at hs1
  have HT1 := Lib.hid (Ev.two_next HT0.out hs1)
  have HB1 := Lib.hid (HB0.out.trans (hs1.below.mono (Nat.le_succ _)))
  clear hs1
  have c1 : W1.cell? ⟨w.heap.size, 3, none⟩ = some (.int .u32 x.v) := by rw [cell_of_row _ _ _ _ _ _ HT1.out.box]; rfl
  go_wp2_with fail
  clear c1
  refine (note_any (w.heap.size + 1) m1 2 (x.v != 0) _ l1 (by omega) HT1.out.cell).mono ?_
  rintro e W2 ⟨rfl, hs2⟩
  rw [← HM2.out] at hs2
  have HT2 := Lib.hid (Ev.two_next HT1.out hs2)
  have HB2 := Lib.hid (HB1.out.trans (hs2.below.mono (Nat.le_succ _)))
  clear hs2
  have c2 : W2.cell? ⟨w.heap.size, 4, none⟩ = some (.int .u32 x.r) := by rw [cell_of_row _ _ _ _ _ _ HT2.out.box]; rfl
  go_wp2_with fail
  clear c2
  refine (note_any (w.heap.size + 1) m2 4 (x.r != 0) _ l2 (by omega) HT2.out.cell).mono ?_
  rintro e W3 ⟨rfl, hs3⟩
  rw [← HM3.out] at hs3
  have HT3 := Lib.hid (Ev.two_next HT2.out hs3)
  have HB3 := Lib.hid (HB2.out.trans (hs3.below.mono (Nat.le_succ _)))
  clear hs3
  have c3 : W3.cell? ⟨w.heap.size, 5, none⟩ = some (.bool x.q) := by rw [cell_of_row _ _ _ _ _ _ HT3.out.box]; rfl
  go_wp2_with fail
  clear c3
  refine (note_any (w.heap.size + 1) m3 8 (x.q) _ l3 (by omega) HT3.out.cell).mono ?_
  rintro e W4 ⟨rfl, hs4⟩
  rw [← HM4.out] at hs4
  have HT4 := Lib.hid (Ev.two_next HT3.out hs4)
  have HB4 := Lib.hid (HB3.out.trans (hs4.below.mono (Nat.le_succ _)))
  clear hs4
  have c4 : W4.cell? ⟨w.heap.size, 6, none⟩ = some (.bool x.l) := by rw [cell_of_row _ _ _ _ _ _ HT4.out.box]; rfl
  go_wp2_with fail
  clear c4
  refine (note_any (w.heap.size + 1) m4 16 (x.l) _ l4 (by omega) HT4.out.cell).mono ?_
  rintro e W5 ⟨rfl, hs5⟩
  rw [← HM5.out] at hs5
  have HT5 := Lib.hid (Ev.two_next HT4.out hs5)
  have HB5 := Lib.hid (HB4.out.trans (hs5.below.mono (Nat.le_succ _)))
  clear hs5
  have c5 : W5.cell? ⟨w.heap.size, 7, none⟩ = some (.int .i64 x.p) := by rw [cell_of_row _ _ _ _ _ _ HT5.out.box]; rfl
  go_wp2_with fail
  clear c5
  refine (note_any (w.heap.size + 1) m5 32 (x.p != 0) _ l5 (by omega) HT5.out.cell).mono ?_
  rintro e W6 ⟨rfl, hs6⟩
  rw [← HM6.out] at hs6
  have HT6 := Lib.hid (Ev.two_next HT5.out hs6)
  have HB6 := Lib.hid (HB5.out.trans (hs6.below.mono (Nat.le_succ _)))
  clear hs6
  have c6 : W6.cell? ⟨w.heap.size, 8, none⟩ = some (.int .i64 x.s) := by rw [cell_of_row _ _ _ _ _ _ HT6.out.box]; rfl
  go_wp2_with fail
  clear c6
  refine (note_any (w.heap.size + 1) m6 64 (x.s != 0) _ l6 (by omega) HT6.out.cell).mono ?_
  rintro e W7 ⟨rfl, hs7⟩
  rw [← HM7.out] at hs7
  have HT7 := Lib.hid (Ev.two_next HT6.out hs7)
  have HB7 := Lib.hid (HB6.out.trans (hs7.below.mono (Nat.le_succ _)))
  clear hs7
  have c7 : W7.cell? ⟨w.heap.size, 9, none⟩ = some (.bool x.z) := by rw [cell_of_row _ _ _ _ _ _ HT7.out.box]; rfl
  go_wp2_with fail
  clear c7
  refine (note_any (w.heap.size + 1) m7 128 (x.z) _ l7 (by omega) HT7.out.cell).mono ?_
  rintro e W8 ⟨rfl, hs8⟩
  rw [← HM8.out] at hs8
  have HT8 := Lib.hid (Ev.two_next HT7.out hs8)
  have HB8 := Lib.hid (HB7.out.trans (hs8.below.mono (Nat.le_succ _)))
  clear hs8
  have c8 : W8.cell? ⟨w.heap.size, 10, none⟩ = some (.slice x.d1.a x.d1.l.length x.d1.c) := by rw [cell_of_row _ _ _ _ _ _ HT8.out.box]; rfl
  go_wp2_with fail
  clear c8
  refine (note_any (w.heap.size + 1) m8 256 ((x.d1.l.length : Int) != 0) _ l8 (by omega) HT8.out.cell).mono ?_
  rintro e W9 ⟨rfl, hs9⟩
  rw [← HM9.out] at hs9
  have HT9 := Lib.hid (Ev.two_next HT8.out hs9)
  have HB9 := Lib.hid (HB8.out.trans (hs9.below.mono (Nat.le_succ _)))
  clear hs9
  have c9 : W9.cell? ⟨w.heap.size, 11, none⟩ = some (.slice x.d2.a x.d2.l.length x.d2.c) := by rw [cell_of_row _ _ _ _ _ _ HT9.out.box]; rfl
  go_wp2_with fail
  clear c9
  refine (note_any (w.heap.size + 1) m9 512 ((x.d2.l.length : Int) != 0) _ l9 (by omega) HT9.out.cell).mono ?_
  rintro e W10 ⟨rfl, hs10⟩
  rw [← HM10.out] at hs10
  have HT10 := Lib.hid (Ev.two_next HT9.out hs10)
  have HB10 := Lib.hid (HB9.out.trans (hs10.below.mono (Nat.le_succ _)))
  clear hs10
  have c10 : W10.cell? ⟨w.heap.size, 12, none⟩ = some (.slice x.d3.a x.d3.l.length x.d3.c) := by rw [cell_of_row _ _ _ _ _ _ HT10.out.box]; rfl
  go_wp2_with fail
  clear c10
  refine (note_any (w.heap.size + 1) m10 1024 ((x.d3.l.length : Int) != 0) _ l10 (by omega) HT10.out.cell).mono ?_
  rintro e W11 ⟨rfl, hs11⟩
  rw [← HM11.out] at hs11
  have HT11 := Lib.hid (Ev.two_next HT10.out hs11)
  have HB11 := Lib.hid (HB10.out.trans (hs11.below.mono (Nat.le_succ _)))
  clear hs11
  have c11 : W11.cell? ⟨w.heap.size + 1, 0, none⟩ = some (.int .i64 (m11 : Int)) := by rw [cell_of_row _ _ _ _ _ _ HT11.out.cell]; rfl
  go_wp2
  go_ret
  exact ⟨rfl, l11, HB11.out⟩
end Go.Proofs.YtnjnpbabgefaeaaGreat
end
