import Derived.Test.YtnjnpbabgefaeaaGreatKg19
import Derived.Test.YtnjnpbabgefaeaaGreatKg11
import Derived.Test.YtnjnpbabgefaeaaGreatKg01
import Derived.Test.YtnjnpbabgefaeaaGreatKg06
import Derived.Test.YtnjnpbabgefaeaaGreatKg20
set_option linter.unusedVariables false
set_option linter.unusedSimpArgs false

section
namespace Go.Proofs.YtnjnpbabgefaeaaGreat
open Go.RowKit
namespace Ev
def placeGo (n : Int) : List Sl → Int
  | [] => -1
  | s :: r => if 0 ≤ at_ s.l n then at_ s.l n else placeGo n r
def place (x : X) (n : Int) : Int := placeGo n x.od
def isPo (x : X) (a b : Nat) : Bool := decide (a < b) && decide (0 ≤ (nth x.ev a).h) && (nth x.ev a).h == (nth x.ev b).h
def isRf (x : X) (a b : Nat) : Bool := loads (nth x.ev b).k && frAt x b == (a : Int)
def isCo (x : X) (a b : Int) : Bool := stores (nth x.ev a).k && stores (nth x.ev b).k && (nth x.ev a).a == (nth x.ev b).a && decide (place x a < place x b)
def isFr (x : X) (a b : Nat) : Bool := !(decide (a = b)) && loads (nth x.ev a).k && isCo x (frAt x a) b
end Ev
theorem rat_is0 {S : Ev.Sl} {n p : Int} (h : Ev.at_ S.l n = p) (w : World) (hS : Ev.IntsIn w S) : Calls Tryz.prog 33 #[.slice S.a S.l.length S.c, .int .i64 n] w fun e w' => e = .returned (.int .i64 p) ∧ w = w' := h ▸ rat_any S n w hS
set_option maxRecDepth 100000 in
set_option maxHeartbeats 2000000 in
theorem rplace_any (x : Ev.X) (n : Int) (w : World) (hin : Ev.XIn w x) :
    Calls Tryz.prog 52 #[Ev.exV x, .int .i64 n] w fun e w' => e = .returned (.int .i64 (Ev.place x n)) ∧ Below w.heap.size w w' := by
  have HIN := Lib.hid hin
  have hol := hin.od.le; have hom := hin.od.max
  have R0 := Lib.hid (heap_alloc_new w (.cells (Ev.xcells x).toArray 26))
  obtain ⟨B, hB⟩ : ∃ B, B = w.alloc (Obj.cells (Ev.xcells x).toArray 26) := ⟨_, rfl⟩
  have HB := Lib.hid hB
  have B0 := Lib.hid (show Below w.heap.size w B by rw [hB]; exact (Below.refl w.heap.size w).alloc (Nat.le_refl _) _)
  have HX := Lib.hid (show Ev.XIn B x from hin.kp (Ev.kp_below B0.out))
  have RX := Lib.hid (show B.heap[w.heap.size]? = some (.cells (Ev.xcells x).toArray 26 (0, 0)) by rw [hB]; exact R0.out)
  clear hin hB
  unfold Ev.exV Ev.xcells
  go_enter Tryz.func52, Tryz.ntmps52
  go_wp2
  rw [show w.alloc (Obj.cells #[Value.slice x.ae x.ev.length x.ce, Value.slice x.fr.a x.fr.l.length x.fr.c, Value.slice x.ao x.od.length x.co] 26) = B from HB.out.symm]
  go_loopw [5, 6] (fun i _ wr => ∃ k : Nat, k ≤ x.od.length ∧ i = .int .i64 (k : Int) ∧ Ev.place x n = Ev.placeGo n (x.od.drop k) ∧ wr = B) (fun i _ _ => x.od.length - (intOf i).toNat)
  case atStart => exact ⟨0, Nat.zero_le _, rfl, rfl, rfl⟩
  case round =>
    obtain ⟨k, hk, rfl, hgo, rfl⟩ := hrel
    have HGO := Lib.hid hgo; clear hgo
    have cx := Ev.xcell2 RX.out
    by_cases hlt : k < x.od.length
    · obtain ⟨s, hs⟩ : ∃ s, x.od[k]? = some s := ⟨_, List.getElem?_eq_getElem hlt⟩
      have hdrop : x.od.drop k = s :: x.od.drop (k + 1) := by
        rw [List.drop_eq_getElem_cons hlt]; congr 1; rw [List.getElem?_eq_getElem hlt] at hs; exact Option.some.inj hs
      obtain ⟨g, o, ea, hc⟩ := HX.out.od.at_ hs
      have HSI := Lib.hid (HX.out.od.ok_ hs)
      have hki : (k : Int) < (x.od.length : Int) := by omega
      rw [ea] at cx
      obtain ⟨p, hp⟩ : ∃ p, Ev.at_ s.l n = p := ⟨_, rfl⟩
      have HP := Lib.hid hp
      have HG2 := Lib.hid (show Ev.place x n = if 0 ≤ p then p else Ev.placeGo n (x.od.drop (k + 1)) by rw [HGO.out, hdrop]; show (if 0 ≤ Ev.at_ s.l n then Ev.at_ s.l n else Ev.placeGo n (x.od.drop (k + 1))) = _; rw [hp])
      clear hs ea hdrop hp
      go_wp2_with fail
      refine (rat_is0 HP.out _ HSI.out).mono ?_
      rintro e w1 ⟨rfl, rfl⟩
      by_cases h0 : 0 ≤ p
      · have t0 : decide (0 ≤ p) = true := decide_eq_true h0
        have HE := Lib.hid (show Ev.place x n = p by rw [HG2.out, if_pos h0])
        go_wp2_with fail
        go_ret
        exact ⟨by rw [HE.out]; rfl, B0.out⟩
      · have t0 : decide (0 ≤ p) = false := decide_eq_false h0
        have HE := Lib.hid (show Ev.place x n = Ev.placeGo n (x.od.drop (k + 1)) by rw [HG2.out, if_neg h0])
        go_wp2_with fail
        go_roundw
        case rel => exact ⟨k + 1, by omega, by go_num, HE.out, by first | rfl | trivial⟩
        case measure => simp [intOf]; omega
    · have hki : ¬ (k : Int) < (x.od.length : Int) := by omega
      have HE := Lib.hid (show Ev.place x n = -1 by rw [HGO.out, List.drop_eq_nil_of_le (by omega)]; rfl)
      go_wp2
      go_ret
      exact ⟨by rw [HE.out]; rfl, B0.out⟩
theorem rplace_is {x : Ev.X} {n p : Int} (h : Ev.place x n = p) (w : World) (hin : Ev.XIn w x) :
    Calls Tryz.prog 52 #[.agg (Ev.xcells x).toArray, .int .i64 n] w fun e w' => e = .returned (.int .i64 p) ∧ Below w.heap.size w w' := h ▸ rplace_any x n w hin
set_option maxRecDepth 100000 in
set_option maxHeartbeats 4000000 in
theorem rpo_any (x : Ev.X) (a b : Nat) (ha : a < x.ev.length) (hb : b < x.ev.length) (w : World) (hin : Ev.XIn w x) :
    Calls Tryz.prog 42 #[Ev.exV x, .int .i64 (a : Int), .int .i64 (b : Int)] w fun e w' => e = .returned (.bool (Ev.isPo x a b)) ∧ Below w.heap.size w w' := by
  have HIN := Lib.hid hin
  have hl1 := hin.ev.le; have hl2 := hin.ev.max
  obtain ⟨B, hB⟩ : ∃ B, B = w.alloc (Obj.cells (Ev.xcells x).toArray 26) := ⟨_, rfl⟩
  have HB := Lib.hid hB
  have B0 := Lib.hid (show Below w.heap.size w B by rw [hB]; exact (Below.refl w.heap.size w).alloc (Nat.le_refl _) _)
  have HX := Lib.hid (show Ev.XIn B x from hin.kp (Ev.kp_below B0.out))
  have RX := Lib.hid (show B.heap[w.heap.size]? = some (.cells (Ev.xcells x).toArray 26 (0, 0)) by rw [hB]; exact heap_alloc_new _ _)
  clear hin hB
  obtain ⟨ea, hea⟩ : ∃ e, x.ev[a]? = some e := ⟨_, List.getElem?_eq_getElem ha⟩
  obtain ⟨ga, oa, ega, hca⟩ := HX.out.ev.at_ hea
  have hna := Ev.nth_some hea
  have hai : (a : Int) < (x.ev.length : Int) := by omega
  obtain ⟨eb, heb⟩ : ∃ e, x.ev[b]? = some e := ⟨_, List.getElem?_eq_getElem hb⟩
  obtain ⟨gb, ob, egb, hcb⟩ := HX.out.ev.at_ heb
  have hnb := Ev.nth_some heb
  have hbi : (b : Int) < (x.ev.length : Int) := by omega
  obtain ⟨rfl, rfl⟩ : gb = ga ∧ ob = oa := by rw [ega] at egb; cases egb; exact ⟨rfl, rfl⟩
  have HRES := Lib.hid (show Ev.isPo x a b = (decide (a < b) && decide (0 ≤ ea.h) && ea.h == eb.h) by unfold Ev.isPo; rw [hna, hnb])
  have hza : ∀ z : Og.On B.heap.size B, ∀ i c, (Ev.cells ea)[i]? = some c → z.x.cell? ⟨gb, ob + a * 13 + i, none⟩ = some c := fun z i c hi => Og.cellB z (hca i c hi)
  have La := Lib.hid (fun z : Og.On B.heap.size B => Ev.ld (hza z))
  have ca0 : ∀ z : Og.On B.heap.size B, z.x.cell? ⟨gb, ob + a * 13, none⟩ = some (.int .i64 ea.h) := fun z => hza z 0 _ rfl
  have hzb : ∀ z : Og.On B.heap.size B, ∀ i c, (Ev.cells eb)[i]? = some c → z.x.cell? ⟨gb, ob + b * 13 + i, none⟩ = some c := fun z i c hi => Og.cellB z (hcb i c hi)
  have Lb := Lib.hid (fun z : Og.On B.heap.size B => Ev.ld (hzb z))
  have cb0 : ∀ z : Og.On B.heap.size B, z.x.cell? ⟨gb, ob + b * 13, none⟩ = some (.int .i64 eb.h) := fun z => hzb z 0 _ rfl
  have cx : ∀ z : Og.On B.heap.size B, z.x.cell? ⟨w.heap.size, 0, none⟩ = some (.slice (some ⟨gb, ob, none⟩) x.ev.length x.ce) := fun z => Og.cellB z (by rw [← egb]; exact Ev.xcell0 RX.out)
  clear hea heb ega hca hcb hna hnb hza hzb egb
  unfold Ev.exV Ev.xcells
  go_enter Tryz.func42, Tryz.ntmps42
  by_cases h1 : a < b
  case neg =>
    have t1 : decide (a < b) = false := decide_eq_false h1
    have t1' : decide ((a : Int) < (b : Int)) = false := decide_eq_false (by omega)
    have HF := Lib.hid (show Ev.isPo x a b = false by rw [HRES.out, t1]; rfl)
    clear h1
    go_wp2
    rw [show w.alloc (Obj.cells #[Value.slice x.ae x.ev.length x.ce, Value.slice x.fr.a x.fr.l.length x.fr.c, Value.slice x.ao x.od.length x.co] 26) = B from HB.out.symm]
    refine Og.regionB (by kernel_rfl) (by kernel_rfl) ?_
    repeat (first
      | go_big_quiet_skip
      | (go_big_quiet_want
         first
          | (go_big_quiet_op
             first
              | go_big_quiet_on)))
    refine wpQuiet_nil ?_
    intro _ hw'
    obtain ⟨q9, hw''⟩ := hw'
    subst hw''
    have HEND := Lib.hid (B0.out.trans (q9.b.mono B0.out.size))
    go_wp2_with fail
    go_ret
    exact ⟨by rw [HF.out]; rfl, HEND.out⟩
  have t1 : decide (a < b) = true := decide_eq_true h1
  have t1' : decide ((a : Int) < (b : Int)) = true := decide_eq_true (by omega)
  by_cases h2 : 0 ≤ ea.h
  case neg =>
    have t2 : decide (0 ≤ ea.h) = false := decide_eq_false h2
    have HF := Lib.hid (show Ev.isPo x a b = false by rw [HRES.out, t2]; simp)
    clear h1 h2
    go_wp2
    rw [show w.alloc (Obj.cells #[Value.slice x.ae x.ev.length x.ce, Value.slice x.fr.a x.fr.l.length x.fr.c, Value.slice x.ao x.od.length x.co] 26) = B from HB.out.symm]
    refine Og.regionB (by kernel_rfl) (by kernel_rfl) ?_
    repeat (first
      | go_big_quiet_skip
      | (go_big_quiet_want
         first
          | (go_big_quiet_op
             first
              | go_big_quiet_on)))
    refine wpQuiet_nil ?_
    intro _ hw'
    obtain ⟨q9, hw''⟩ := hw'
    subst hw''
    have HEND := Lib.hid (B0.out.trans (q9.b.mono B0.out.size))
    go_wp2_with fail
    go_ret
    exact ⟨by rw [HF.out]; rfl, HEND.out⟩
  have t2 : decide (0 ≤ ea.h) = true := decide_eq_true h2
  by_cases h3 : ea.h = eb.h
  case neg =>
    have t3 : (ea.h == eb.h) = false := by simpa using h3
    have HF := Lib.hid (show Ev.isPo x a b = false by rw [HRES.out, t3]; simp)
    clear h1 h2 h3
    go_wp2
    rw [show w.alloc (Obj.cells #[Value.slice x.ae x.ev.length x.ce, Value.slice x.fr.a x.fr.l.length x.fr.c, Value.slice x.ao x.od.length x.co] 26) = B from HB.out.symm]
    refine Og.regionB (by kernel_rfl) (by kernel_rfl) ?_
    repeat (first
      | go_big_quiet_skip
      | (go_big_quiet_want
         first
          | (go_big_quiet_op
             first
              | go_big_quiet_on)))
    refine wpQuiet_nil ?_
    intro _ hw'
    obtain ⟨q9, hw''⟩ := hw'
    subst hw''
    have HEND := Lib.hid (B0.out.trans (q9.b.mono B0.out.size))
    go_wp2_with fail
    go_ret
    exact ⟨by rw [HF.out]; rfl, HEND.out⟩
  have t3 : (ea.h == eb.h) = true := by simpa using h3
  have HF := Lib.hid (show Ev.isPo x a b = true by rw [HRES.out, t1, t2, t3]; rfl)
  clear h1 h2 h3
  go_wp2
  rw [show w.alloc (Obj.cells #[Value.slice x.ae x.ev.length x.ce, Value.slice x.fr.a x.fr.l.length x.fr.c, Value.slice x.ao x.od.length x.co] 26) = B from HB.out.symm]
  refine Og.regionB (by kernel_rfl) (by kernel_rfl) ?_
  repeat (first
    | go_big_quiet_skip
    | (go_big_quiet_want
       first
        | (go_big_quiet_op
           first
            | go_big_quiet_on)))
  refine wpQuiet_nil ?_
  intro _ hw'
  obtain ⟨q9, hw''⟩ := hw'
  subst hw''
  have HEND := Lib.hid (B0.out.trans (q9.b.mono B0.out.size))
  go_wp2_with fail
  go_ret
  exact ⟨by rw [HF.out]; rfl, HEND.out⟩
set_option maxRecDepth 100000 in
set_option maxHeartbeats 4000000 in
theorem rrf_any (x : Ev.X) (a b : Nat) (ha : a < x.ev.length) (hb : b < x.ev.length) (hfl : x.fr.l.length = x.ev.length) (w : World) (hin : Ev.XIn w x) :
    Calls Tryz.prog 43 #[Ev.exV x, .int .i64 (a : Int), .int .i64 (b : Int)] w fun e w' => e = .returned (.bool (Ev.isRf x a b)) ∧ Below w.heap.size w w' := by
  have HIN := Lib.hid hin
  have hl1 := hin.ev.le; have hl2 := hin.ev.max
  obtain ⟨B, hB⟩ : ∃ B, B = w.alloc (Obj.cells (Ev.xcells x).toArray 26) := ⟨_, rfl⟩
  have HB := Lib.hid hB
  have B0 := Lib.hid (show Below w.heap.size w B by rw [hB]; exact (Below.refl w.heap.size w).alloc (Nat.le_refl _) _)
  have HX := Lib.hid (show Ev.XIn B x from hin.kp (Ev.kp_below B0.out))
  have RX := Lib.hid (show B.heap[w.heap.size]? = some (.cells (Ev.xcells x).toArray 26 (0, 0)) by rw [hB]; exact heap_alloc_new _ _)
  clear hin hB
  obtain ⟨eb, heb⟩ : ∃ e, x.ev[b]? = some e := ⟨_, List.getElem?_eq_getElem hb⟩
  obtain ⟨gb, ob, egb, hcb⟩ := HX.out.ev.at_ heb
  have hnb := Ev.nth_some heb
  have hbi : (b : Int) < (x.ev.length : Int) := by omega
  obtain ⟨f, hf⟩ : ∃ f, x.fr.l[b]? = some f := ⟨_, List.getElem?_eq_getElem (by omega)⟩
  obtain ⟨gf, of, ef, hcf⟩ := HX.out.fr.at_ hf
  have hfs := HX.out.fr.2.1; have hfm := HX.out.fr.2.2.1
  have HRES := Lib.hid (show Ev.isRf x a b = (Ev.loads eb.k && f == (a : Int)) by unfold Ev.isRf Ev.frAt; rw [hnb, show x.fr.l.getD b 0 = f by simp [List.getD, hf]])
  have hbf : (b : Int) < (x.fr.l.length : Int) := by omega
  have HC := Lib.hid hcb
  have c0 := Ev.xcell0 RX.out; have c1 := Ev.xcell1 RX.out
  rw [egb] at c0; rw [ef] at c1
  have C1 := Lib.hid (show ∀ W, Below B.heap.size B W → W.cell? ⟨w.heap.size, 1, none⟩ = some (.slice (some ⟨gf, of, none⟩) x.fr.l.length x.fr.c) from fun W h => Ev.kp_below h _ _ c1)
  have C2 := Lib.hid (show ∀ W, Below B.heap.size B W → W.cell? ⟨gf, of + b, none⟩ = some (.int .i64 f) from fun W h => Ev.kp_below h _ _ hcf)
  obtain ⟨s, hs⟩ : ∃ s, Ev.loads eb.k = s := ⟨_, rfl⟩
  have HS := Lib.hid hs
  clear heb egb hcb hnb hf ef hcf hfl c1 hs
  unfold Ev.exV Ev.xcells
  go_enter Tryz.func43, Tryz.ntmps43
  go_wp2_with (first | ((with_reducible show wpList _ _ _ (Oper.mk (some 7) _ _ _ _ _ :: _) _ _); rw [show w.alloc (Obj.cells #[Value.slice x.ae x.ev.length x.ce, Value.slice x.fr.a x.fr.l.length x.fr.c, Value.slice x.ao x.od.length x.co] 26) = B from HB.out.symm]) | ((with_reducible show wpList _ _ _ (Oper.mk (some 11) _ _ _ _ _ :: _) _ _); refine wpList_load_at rfl 48 (.tmp 10) rfl gb (ob + b * 13) (by kernel_rfl) (Ev.cells eb) _ HC.out Tryz.underlying48 rfl (by kernel_rfl) ?_))
  refine (rloads_is HS.out _).mono ?_
  rintro e W1 ⟨rfl, hb1⟩
  have B1 := Lib.hid (B0.out.trans (hb1.mono B0.out.size))
  have c1 := C1.out W1 hb1; have c2 := C2.out W1 hb1
  clear hb1 c0
  cases s
  · have HF := Lib.hid (show Ev.isRf x a b = false by rw [HRES.out, HS.out]; rfl)
    go_wp2_with fail
    go_ret
    exact ⟨by rw [HF.out]; rfl, B1.out⟩
  by_cases hq : f = (a : Int)
  · have tq : (f == (a : Int)) = true := by simpa using hq
    have HF := Lib.hid (show Ev.isRf x a b = true by rw [HRES.out, HS.out, tq]; rfl)
    clear hq
    go_wp2_with fail
    go_ret
    exact ⟨by rw [HF.out]; rfl, B1.out⟩
  · have tq : (f == (a : Int)) = false := by simpa using hq
    have HF := Lib.hid (show Ev.isRf x a b = false by rw [HRES.out, HS.out, tq]; rfl)
    clear hq
    go_wp2_with fail
    go_ret
    exact ⟨by rw [HF.out]; rfl, B1.out⟩
end Go.Proofs.YtnjnpbabgefaeaaGreat
end

section
namespace Go.Proofs.YtnjnpbabgefaeaaGreat
open Go.RowKit
set_option maxRecDepth 100000 in
set_option maxHeartbeats 2000000 in
theorem po1_any (x : Ev.X) (q a b : Nat) (ha : a < x.ev.length) (hb : b < x.ev.length) (w : World) (hbx : Ev.Bx w q x) :
    Calls Tryz.prog 121 #[.int .i64 (a : Int), .int .i64 (b : Int), .pointer (some ⟨q, 0, none⟩)] w fun e w' => e = .returned (.int .i64 (Ev.bondPo x a b)) ∧ Below w.heap.size w w' := by
  obtain ⟨ea, hea⟩ : ∃ e, x.ev[a]? = some e := ⟨_, List.getElem?_eq_getElem ha⟩
  obtain ⟨eb, heb⟩ : ∃ e, x.ev[b]? = some e := ⟨_, List.getElem?_eq_getElem hb⟩
  obtain ⟨g, o, eg, hcx⟩ := hbx.xin.ev.at_ hea
  obtain ⟨g', o', eg', hcy⟩ := hbx.xin.ev.at_ heb
  obtain ⟨rfl, rfl⟩ : g' = g ∧ o' = o := by rw [eg] at eg'; cases eg'; exact ⟨rfl, rfl⟩
  have hl1 := hbx.xin.ev.le; have hl2 := hbx.xin.ev.max
  have hna := Ev.nth_some hea; have hnb := Ev.nth_some heb
  have HRES := Lib.hid (show Ev.bondPo x a b = if ea.k = 5 ∨ ea.h < eb.h then 2 else Ev.bnd (decide ((a : Int) < (b : Int))) by unfold Ev.bondPo; rw [hna, hnb])
  have c0 := hbx.c0
  rw [eg] at c0
  have HX := Lib.hid hcx; have HY := Lib.hid hcy
  have LX := Lib.hid (fun (z : World) (hz : Og.Std w z) => Ev.ld (w := z) (g := g') (o := o' + a * 13) (x := ea) (fun i c hi => Og.std_cell hz (HX.out i c hi)))
  have LY := Lib.hid (fun (z : World) (hz : Og.Std w z) => Ev.ld (w := z) (g := g') (o := o' + b * 13) (x := eb) (fun i c hi => Og.std_cell hz (HY.out i c hi)))
  have LB := Lib.hid (fun (z : World) (hz : Og.Std w z) => run_load_slice (P := Tryz.prog) Tryz.underlying22 (Og.std_cell hz c0))
  have hai : (a : Int) < (x.ev.length : Int) := by omega
  have hbi : (b : Int) < (x.ev.length : Int) := by omega
  clear hea heb eg eg' hcx hcy hna hnb hbx c0
  go_enter Tryz.func121, Tryz.ntmps121
  go_wp2
  refine wp_region_held (S := Og.Std w) (by kernel_rfl) ?_
  have S0 : Og.Std w { w with drawn := w.drawn + 1 } := ⟨rfl, rfl, rfl, Nat.le_refl _, fun _ _ => rfl⟩
  refine Og.held_take 0 _ (.pointer (some ⟨q, 0, none⟩)) _ rfl rfl (by kernel_rfl) (by kernel_rfl) (by kernel_rfl) (fun _ _ _ h => h) S0 (fun x hx => ?_) (by simp only [Act.put, List.setIfInBounds_toArray, List.set_cons_zero, List.set_cons_succ]; rfl) ?_
  · go_simp; try (with_reducible rfl)
  refine Og.held_take 1 _ (.slice (some ⟨g', o', none⟩) x.ev.length x.ce) _ rfl rfl (by kernel_rfl) (by kernel_rfl) (by kernel_rfl) (fun _ _ _ h => h) S0 (fun x hx => ?_) (by simp only [Act.put, List.setIfInBounds_toArray, List.set_cons_zero, List.set_cons_succ]; rfl) ?_
  · exact Og.load_run 22 (.tmp 8) rfl ⟨q, 0, none⟩ (by kernel_rfl) (LB.out _ hx)
  refine Og.held_take 2 _ (.int .i64 (a : Int)) _ rfl rfl (by kernel_rfl) (by kernel_rfl) (by kernel_rfl) (fun _ _ _ h => h) S0 (fun x hx => ?_) (by simp only [Act.put, List.setIfInBounds_toArray, List.set_cons_zero, List.set_cons_succ]; rfl) ?_
  · go_simp; try (with_reducible rfl)
  refine Og.held_take 3 _ (.pointer (some ⟨g', o' + a * 13, none⟩)) _ rfl rfl (by kernel_rfl) (by kernel_rfl) (by kernel_rfl) (fun _ _ _ h => h) S0 (fun x hx => ?_) (by simp only [Act.put, List.setIfInBounds_toArray, List.set_cons_zero, List.set_cons_succ]; rfl) ?_
  · go_simp; try (with_reducible rfl)
  refine Og.held_take 4 _ (.agg (Ev.cells ea).toArray) _ rfl rfl (by kernel_rfl) (by kernel_rfl) (by kernel_rfl) (fun _ _ _ h => h) S0 (fun x hx => ?_) (by simp only [Act.put, List.setIfInBounds_toArray, List.set_cons_zero, List.set_cons_succ]; rfl) ?_
  · exact Og.load_run 48 (.tmp 11) rfl ⟨g', o' + a * 13, none⟩ (by kernel_rfl) (LX.out _ hx)
  refine Og.held_take 5 _ (.pointer (some ⟨q, 0, none⟩)) _ rfl rfl (by kernel_rfl) (by kernel_rfl) (by kernel_rfl) (fun _ _ _ h => h) S0 (fun x hx => ?_) (by simp only [Act.put, List.setIfInBounds_toArray, List.set_cons_zero, List.set_cons_succ]; rfl) ?_
  · go_simp; try (with_reducible rfl)
  refine Og.held_take 6 _ (.slice (some ⟨g', o', none⟩) x.ev.length x.ce) _ rfl rfl (by kernel_rfl) (by kernel_rfl) (by kernel_rfl) (fun _ _ _ h => h) S0 (fun x hx => ?_) (by simp only [Act.put, List.setIfInBounds_toArray, List.set_cons_zero, List.set_cons_succ]; rfl) ?_
  · exact Og.load_run 22 (.tmp 13) rfl ⟨q, 0, none⟩ (by kernel_rfl) (LB.out _ hx)
  refine Og.held_take 7 _ (.int .i64 (b : Int)) _ rfl rfl (by kernel_rfl) (by kernel_rfl) (by kernel_rfl) (fun _ _ _ h => h) S0 (fun x hx => ?_) (by simp only [Act.put, List.setIfInBounds_toArray, List.set_cons_zero, List.set_cons_succ]; rfl) ?_
  · go_simp; try (with_reducible rfl)
  refine Og.held_take 8 _ (.pointer (some ⟨g', o' + b * 13, none⟩)) _ rfl rfl (by kernel_rfl) (by kernel_rfl) (by kernel_rfl) (fun _ _ _ h => h) S0 (fun x hx => ?_) (by simp only [Act.put, List.setIfInBounds_toArray, List.set_cons_zero, List.set_cons_succ]; rfl) ?_
  · go_simp; try (with_reducible rfl)
  refine Og.held_take 9 _ (.agg (Ev.cells eb).toArray) _ rfl rfl (by kernel_rfl) (by kernel_rfl) (by kernel_rfl) (fun _ _ _ h => h) S0 (fun x hx => ?_) (by simp only [Act.put, List.setIfInBounds_toArray, List.set_cons_zero, List.set_cons_succ]; rfl) ?_
  · exact Og.load_run 48 (.tmp 16) rfl ⟨g', o' + b * 13, none⟩ (by kernel_rfl) (LY.out _ hx)
  refine Og.four (p := 10) (q := 11) (s1 := 12) (s2 := 13) (dp := 6) (dq := 7) (x1 := 12) (x2 := 17) (T := 48) (Z := (Ev.cells Ev.R0).toArray) (c1 := (Ev.cells ea).toArray) (c2 := (Ev.cells eb).toArray)
    ⟨⟨_, rfl, rfl, rfl, fun ρ w => by kernel_rfl⟩, ⟨_, rfl, rfl, rfl, fun ρ w => by kernel_rfl⟩, ⟨_, rfl, rfl, rfl, rfl⟩, ⟨_, rfl, rfl, rfl, rfl⟩, (by kernel_rfl), (by kernel_rfl), (by kernel_rfl), (by kernel_rfl), (by kernel_rfl), (by kernel_rfl), (by kernel_rfl), (by kernel_rfl), (by kernel_rfl), (by kernel_rfl), (by kernel_rfl), of_decide_eq_true (by kernel_rfl), of_decide_eq_true (by kernel_rfl), (by decide), rfl, rfl, (by kernel_rfl), (by kernel_rfl), (by kernel_rfl), (by kernel_rfl)⟩ S0 ?_
  intro W g1 g2 HT
  simp only [Act.put, List.setIfInBounds_toArray, List.set_cons_zero, List.set_cons_succ]
  have R1 := Lib.hid HT.r1; have R2 := Lib.hid HT.r2; have BW := Lib.hid HT.below
  clear HT S0
  have c1 : W.cell? ⟨g1, 1, none⟩ = some (.int .i64 ea.k) := by rw [cell_of_row _ _ _ _ _ _ R1.out]; rfl
  have c2 : W.cell? ⟨g1, 0, none⟩ = some (.int .i64 ea.h) := by rw [cell_of_row _ _ _ _ _ _ R1.out]; rfl
  have c3 : W.cell? ⟨g2, 0, none⟩ = some (.int .i64 eb.h) := by rw [cell_of_row _ _ _ _ _ _ R2.out]; rfl
  by_cases h5 : ea.k = 5
  · have q5 : (ea.k == 5) = true := by simp [h5]
    have HE := Lib.hid (show Ev.bondPo x a b = 2 by rw [HRES.out, if_pos (.inl h5)])
    clear h5
    go_wp2_with fail
    go_ret
    exact ⟨by rw [HE.out]; rfl, BW.out⟩
  have q5 : (ea.k == 5) = false := by simpa using h5
  by_cases hh : ea.h < eb.h
  · have HE := Lib.hid (show Ev.bondPo x a b = 2 by rw [HRES.out, if_pos (.inr hh)])
    clear h5
    go_wp2_with fail
    go_ret
    exact ⟨by rw [HE.out]; rfl, BW.out⟩
  have HE := Lib.hid (show Ev.bondPo x a b = Ev.bnd (decide ((a : Int) < (b : Int))) by rw [HRES.out, if_neg (by intro h; rcases h with h | h; exact h5 h; exact hh h)])
  clear h5
  go_wp2_with (go_at_call 109; refine (bond_is _ _).mono ?_; rintro e w' ⟨rfl, rfl⟩)
  go_ret
  exact ⟨by rw [HE.out]; first | rfl | (simp; done), BW.out⟩
theorem po_makes (x : Ev.X) (w : World) : Ev.Makes w x 103 (Ev.bondPo x) := by
  intro W hin
  have HIN := Lib.hid hin; clear hin
  have HBX := Lib.hid (Ev.bx_new HIN.out)
  have B0 := Lib.hid ((Below.refl W.heap.size W).alloc (Nat.le_refl _) (.cells (Ev.xcells x).toArray 26))
  unfold Ev.exV Ev.xcells
  go_enter Tryz.func103, Tryz.ntmps103
  go_wp2
  go_ret
  refine ⟨121, #[.pointer (some ⟨W.heap.size, 0, none⟩)], rfl, Ev.enters_of _ (fun args w => by kernel_rfl), B0.out, fun W2 hb a b ha hb' => ?_⟩
  exact po1_any x W.heap.size a b ha hb' W2 (HBX.out.kp hb)
end Go.Proofs.YtnjnpbabgefaeaaGreat
end
