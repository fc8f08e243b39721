/-
  EvDM: EvDoc, EvPaird, EvStr, EvRul, EvRulN, EvUpto in one text.
-/
import Derived.Test.YtoicmhidmknfiaaEvCM
import Derived.Test.YtoicmhidmknfiaaEvHang
import Derived.Test.YtoicmhidmknfiaaOgB
import Derived.Test.YtoicmhidmknfiaaEvAt
import Derived.Test.YtoicmhidmknfiaaEvBareS
import Derived.Test.YtoicmhidmknfiaaOgD

section
namespace Go.Proofs.Ytoicmhidmknfiaa
open Go.RowKit
set_option linter.unusedVariables false
set_option linter.unusedSimpArgs false
namespace Ev
def placeGo (n : Int) : List Sl → Int
  | [] => -1
  | s :: r => if 0 ≤ at_ s.l n then at_ s.l n else placeGo n r
def place (x : X) (n : Int) : Int := placeGo n x.od
def isPo (x : X) (a b : Nat) : Bool := decide (a < b) && decide (0 ≤ (nth x.ev a).h) && (nth x.ev a).h == (nth x.ev b).h
def isRf (x : X) (a b : Nat) : Bool := loads (nth x.ev b).k && frAt x b == (a : Int)
def isCo (x : X) (a b : Int) : Bool := stores (nth x.ev a).k && stores (nth x.ev b).k && (nth x.ev a).a == (nth x.ev b).a && decide (place x a < place x b)
def isFr (x : X) (a b : Nat) : Bool := !(decide (a = b)) && loads (nth x.ev a).k && isCo x (frAt x a) b
end Ev
theorem rat_is0 {S : Ev.Sl} {n p : Int} (h : Ev.at_ S.l n = p) (w : World) (hS : Ev.IntsIn w S) : Calls Try.prog 42 #[.slice S.a S.l.length S.c, .int .i64 n] w fun e w' => e = .returned (.int .i64 p) ∧ w = w' := h ▸ rat_any S n w hS
set_option maxRecDepth 100000 in
set_option maxHeartbeats 2000000 in
theorem rplace_any (x : Ev.X) (n : Int) (w : World) (hin : Ev.XIn w x) :
    Calls Try.prog 70 #[Ev.exV x, .int .i64 n] w fun e w' => e = .returned (.int .i64 (Ev.place x n)) ∧ Below w.heap.size w w' := by
  have HIN := Lib.hid hin
  have hol := hin.od.le; have hom := hin.od.max
  have R0 := Lib.hid (heap_alloc_new w (.cells (Ev.xcells x).toArray 26))
  obtain ⟨B, hB⟩ : ∃ B, B = w.alloc (Obj.cells (Ev.xcells x).toArray 26) := ⟨_, rfl⟩
  have HB := Lib.hid hB
  have B0 := Lib.hid (show Below w.heap.size w B by rw [hB]; exact (Below.refl w.heap.size w).alloc (Nat.le_refl _) _)
  have HX := Lib.hid (show Ev.XIn B x from hin.kp (Ev.kp_below B0.out))
  have RX := Lib.hid (show B.heap[w.heap.size]? = some (.cells (Ev.xcells x).toArray 26 (0, 0)) by rw [hB]; exact R0.out)
  clear hin hB
  unfold Ev.exV Ev.xcells
  go_enter Try.func70, Try.ntmps70
  go_wp2
  rw [show w.alloc (Obj.cells #[Value.slice x.ae x.ev.length x.ce, Value.slice x.fr.a x.fr.l.length x.fr.c, Value.slice x.ao x.od.length x.co] 26) = B from HB.out.symm]
  go_loopw [5, 6] (fun i _ wr => ∃ k : Nat, k ≤ x.od.length ∧ i = .int .i64 (k : Int) ∧ Ev.place x n = Ev.placeGo n (x.od.drop k) ∧ wr = B) (fun i _ _ => x.od.length - (intOf i).toNat)
  case atStart => exact ⟨0, Nat.zero_le _, rfl, rfl, rfl⟩
  case round =>
    obtain ⟨k, hk, rfl, hgo, rfl⟩ := hrel
    have HGO := Lib.hid hgo; clear hgo
    have cx := Ev.xcell2 RX.out
    by_cases hlt : k < x.od.length
    · obtain ⟨s, hs⟩ : ∃ s, x.od[k]? = some s := ⟨_, List.getElem?_eq_getElem hlt⟩
      have hdrop : x.od.drop k = s :: x.od.drop (k + 1) := by
        rw [List.drop_eq_getElem_cons hlt]; congr 1; rw [List.getElem?_eq_getElem hlt] at hs; exact Option.some.inj hs
      obtain ⟨g, o, ea, hc⟩ := HX.out.od.at_ hs
      have HSI := Lib.hid (HX.out.od.ok_ hs)
      have hki : (k : Int) < (x.od.length : Int) := by omega
      rw [ea] at cx
      obtain ⟨p, hp⟩ : ∃ p, Ev.at_ s.l n = p := ⟨_, rfl⟩
      have HP := Lib.hid hp
      have HG2 := Lib.hid (show Ev.place x n = if 0 ≤ p then p else Ev.placeGo n (x.od.drop (k + 1)) by rw [HGO.out, hdrop]; show (if 0 ≤ Ev.at_ s.l n then Ev.at_ s.l n else Ev.placeGo n (x.od.drop (k + 1))) = _; rw [hp])
      clear hs ea hdrop hp
      go_wp2_with fail
      refine (rat_is0 HP.out _ HSI.out).mono ?_
      rintro e w1 ⟨rfl, rfl⟩
      by_cases h0 : 0 ≤ p
      · have t0 : decide (0 ≤ p) = true := decide_eq_true h0
        have HE := Lib.hid (show Ev.place x n = p by rw [HG2.out, if_pos h0])
        go_wp2_with fail
        go_ret
        exact ⟨by rw [HE.out]; rfl, B0.out⟩
      · have t0 : decide (0 ≤ p) = false := decide_eq_false h0
        have HE := Lib.hid (show Ev.place x n = Ev.placeGo n (x.od.drop (k + 1)) by rw [HG2.out, if_neg h0])
        go_wp2_with fail
        go_roundw
        case rel => exact ⟨k + 1, by omega, by go_num, HE.out, by first | rfl | trivial⟩
        case measure => simp [intOf]; omega
    · have hki : ¬ (k : Int) < (x.od.length : Int) := by omega
      have HE := Lib.hid (show Ev.place x n = -1 by rw [HGO.out, List.drop_eq_nil_of_le (by omega)]; rfl)
      go_wp2
      go_ret
      exact ⟨by rw [HE.out]; rfl, B0.out⟩
theorem rplace_is {x : Ev.X} {n p : Int} (h : Ev.place x n = p) (w : World) (hin : Ev.XIn w x) :
    Calls Try.prog 70 #[.agg (Ev.xcells x).toArray, .int .i64 n] w fun e w' => e = .returned (.int .i64 p) ∧ Below w.heap.size w w' := h ▸ rplace_any x n w hin
set_option maxRecDepth 100000 in
set_option maxHeartbeats 4000000 in
theorem rpo_any (x : Ev.X) (a b : Nat) (ha : a < x.ev.length) (hb : b < x.ev.length) (w : World) (hin : Ev.XIn w x) :
    Calls Try.prog 45 #[Ev.exV x, .int .i64 (a : Int), .int .i64 (b : Int)] w fun e w' => e = .returned (.bool (Ev.isPo x a b)) ∧ Below w.heap.size w w' := by
  have HIN := Lib.hid hin
  have hl1 := hin.ev.le; have hl2 := hin.ev.max
  obtain ⟨B, hB⟩ : ∃ B, B = w.alloc (Obj.cells (Ev.xcells x).toArray 26) := ⟨_, rfl⟩
  have HB := Lib.hid hB
  have B0 := Lib.hid (show Below w.heap.size w B by rw [hB]; exact (Below.refl w.heap.size w).alloc (Nat.le_refl _) _)
  have HX := Lib.hid (show Ev.XIn B x from hin.kp (Ev.kp_below B0.out))
  have RX := Lib.hid (show B.heap[w.heap.size]? = some (.cells (Ev.xcells x).toArray 26 (0, 0)) by rw [hB]; exact heap_alloc_new _ _)
  clear hin hB
  obtain ⟨ea, hea⟩ : ∃ e, x.ev[a]? = some e := ⟨_, List.getElem?_eq_getElem ha⟩
  obtain ⟨ga, oa, ega, hca⟩ := HX.out.ev.at_ hea
  have hna := Ev.nth_some hea
  have hai : (a : Int) < (x.ev.length : Int) := by omega
  obtain ⟨eb, heb⟩ : ∃ e, x.ev[b]? = some e := ⟨_, List.getElem?_eq_getElem hb⟩
  obtain ⟨gb, ob, egb, hcb⟩ := HX.out.ev.at_ heb
  have hnb := Ev.nth_some heb
  have hbi : (b : Int) < (x.ev.length : Int) := by omega
  obtain ⟨rfl, rfl⟩ : gb = ga ∧ ob = oa := by rw [ega] at egb; cases egb; exact ⟨rfl, rfl⟩
  have HRES := Lib.hid (show Ev.isPo x a b = (decide (a < b) && decide (0 ≤ ea.h) && ea.h == eb.h) by unfold Ev.isPo; rw [hna, hnb])
  have hza : ∀ z : Og.On B.heap.size B, ∀ i c, (Ev.cells ea)[i]? = some c → z.x.cell? ⟨gb, ob + a * 13 + i, none⟩ = some c := fun z i c hi => Og.cellB z (hca i c hi)
  have La := Lib.hid (fun z : Og.On B.heap.size B => Ev.ld (hza z))
  have ca0 : ∀ z : Og.On B.heap.size B, z.x.cell? ⟨gb, ob + a * 13, none⟩ = some (.int .i64 ea.h) := fun z => hza z 0 _ rfl
  have hzb : ∀ z : Og.On B.heap.size B, ∀ i c, (Ev.cells eb)[i]? = some c → z.x.cell? ⟨gb, ob + b * 13 + i, none⟩ = some c := fun z i c hi => Og.cellB z (hcb i c hi)
  have Lb := Lib.hid (fun z : Og.On B.heap.size B => Ev.ld (hzb z))
  have cb0 : ∀ z : Og.On B.heap.size B, z.x.cell? ⟨gb, ob + b * 13, none⟩ = some (.int .i64 eb.h) := fun z => hzb z 0 _ rfl
  have cx : ∀ z : Og.On B.heap.size B, z.x.cell? ⟨w.heap.size, 0, none⟩ = some (.slice (some ⟨gb, ob, none⟩) x.ev.length x.ce) := fun z => Og.cellB z (by rw [← egb]; exact Ev.xcell0 RX.out)
  clear hea heb ega hca hcb hna hnb hza hzb egb
  unfold Ev.exV Ev.xcells
  go_enter Try.func45, Try.ntmps45
  by_cases h1 : a < b
  case neg =>
    have t1 : decide (a < b) = false := decide_eq_false h1
    have t1' : decide ((a : Int) < (b : Int)) = false := decide_eq_false (by omega)
    have HF := Lib.hid (show Ev.isPo x a b = false by rw [HRES.out, t1]; rfl)
    clear h1
    go_wp2
    rw [show w.alloc (Obj.cells #[Value.slice x.ae x.ev.length x.ce, Value.slice x.fr.a x.fr.l.length x.fr.c, Value.slice x.ao x.od.length x.co] 26) = B from HB.out.symm]
    refine Og.regionB (by kernel_rfl) (by kernel_rfl) ?_
    repeat (first
      | go_big_quiet_skip
      | (go_big_quiet_want
         first
          | (go_big_quiet_op
             first
              | go_big_quiet_on)))
    refine wpQuiet_nil ?_
    intro _ hw'
    obtain ⟨q9, hw''⟩ := hw'
    subst hw''
    have HEND := Lib.hid (B0.out.trans (q9.b.mono B0.out.size))
    go_wp2_with fail
    go_ret
    exact ⟨by rw [HF.out]; rfl, HEND.out⟩
  have t1 : decide (a < b) = true := decide_eq_true h1
  have t1' : decide ((a : Int) < (b : Int)) = true := decide_eq_true (by omega)
  by_cases h2 : 0 ≤ ea.h
  case neg =>
    have t2 : decide (0 ≤ ea.h) = false := decide_eq_false h2
    have HF := Lib.hid (show Ev.isPo x a b = false by rw [HRES.out, t2]; simp)
    clear h1 h2
    go_wp2
    rw [show w.alloc (Obj.cells #[Value.slice x.ae x.ev.length x.ce, Value.slice x.fr.a x.fr.l.length x.fr.c, Value.slice x.ao x.od.length x.co] 26) = B from HB.out.symm]
    refine Og.regionB (by kernel_rfl) (by kernel_rfl) ?_
    repeat (first
      | go_big_quiet_skip
      | (go_big_quiet_want
         first
          | (go_big_quiet_op
             first
              | go_big_quiet_on)))
    refine wpQuiet_nil ?_
    intro _ hw'
    obtain ⟨q9, hw''⟩ := hw'
    subst hw''
    have HEND := Lib.hid (B0.out.trans (q9.b.mono B0.out.size))
    go_wp2_with fail
    go_ret
    exact ⟨by rw [HF.out]; rfl, HEND.out⟩
  have t2 : decide (0 ≤ ea.h) = true := decide_eq_true h2
  by_cases h3 : ea.h = eb.h
  case neg =>
    have t3 : (ea.h == eb.h) = false := by simpa using h3
    have HF := Lib.hid (show Ev.isPo x a b = false by rw [HRES.out, t3]; simp)
    clear h1 h2 h3
    go_wp2
    rw [show w.alloc (Obj.cells #[Value.slice x.ae x.ev.length x.ce, Value.slice x.fr.a x.fr.l.length x.fr.c, Value.slice x.ao x.od.length x.co] 26) = B from HB.out.symm]
    refine Og.regionB (by kernel_rfl) (by kernel_rfl) ?_
    repeat (first
      | go_big_quiet_skip
      | (go_big_quiet_want
         first
          | (go_big_quiet_op
             first
              | go_big_quiet_on)))
    refine wpQuiet_nil ?_
    intro _ hw'
    obtain ⟨q9, hw''⟩ := hw'
    subst hw''
    have HEND := Lib.hid (B0.out.trans (q9.b.mono B0.out.size))
    go_wp2_with fail
    go_ret
    exact ⟨by rw [HF.out]; rfl, HEND.out⟩
  have t3 : (ea.h == eb.h) = true := by simpa using h3
  have HF := Lib.hid (show Ev.isPo x a b = true by rw [HRES.out, t1, t2, t3]; rfl)
  clear h1 h2 h3
  go_wp2
  rw [show w.alloc (Obj.cells #[Value.slice x.ae x.ev.length x.ce, Value.slice x.fr.a x.fr.l.length x.fr.c, Value.slice x.ao x.od.length x.co] 26) = B from HB.out.symm]
  refine Og.regionB (by kernel_rfl) (by kernel_rfl) ?_
  repeat (first
    | go_big_quiet_skip
    | (go_big_quiet_want
       first
        | (go_big_quiet_op
           first
            | go_big_quiet_on)))
  refine wpQuiet_nil ?_
  intro _ hw'
  obtain ⟨q9, hw''⟩ := hw'
  subst hw''
  have HEND := Lib.hid (B0.out.trans (q9.b.mono B0.out.size))
  go_wp2_with fail
  go_ret
  exact ⟨by rw [HF.out]; rfl, HEND.out⟩
set_option maxRecDepth 100000 in
set_option maxHeartbeats 4000000 in
theorem rrf_any (x : Ev.X) (a b : Nat) (ha : a < x.ev.length) (hb : b < x.ev.length) (hfl : x.fr.l.length = x.ev.length) (w : World) (hin : Ev.XIn w x) :
    Calls Try.prog 46 #[Ev.exV x, .int .i64 (a : Int), .int .i64 (b : Int)] w fun e w' => e = .returned (.bool (Ev.isRf x a b)) ∧ Below w.heap.size w w' := by
  have HIN := Lib.hid hin
  have hl1 := hin.ev.le; have hl2 := hin.ev.max
  obtain ⟨B, hB⟩ : ∃ B, B = w.alloc (Obj.cells (Ev.xcells x).toArray 26) := ⟨_, rfl⟩
  have HB := Lib.hid hB
  have B0 := Lib.hid (show Below w.heap.size w B by rw [hB]; exact (Below.refl w.heap.size w).alloc (Nat.le_refl _) _)
  have HX := Lib.hid (show Ev.XIn B x from hin.kp (Ev.kp_below B0.out))
  have RX := Lib.hid (show B.heap[w.heap.size]? = some (.cells (Ev.xcells x).toArray 26 (0, 0)) by rw [hB]; exact heap_alloc_new _ _)
  clear hin hB
  obtain ⟨eb, heb⟩ : ∃ e, x.ev[b]? = some e := ⟨_, List.getElem?_eq_getElem hb⟩
  obtain ⟨gb, ob, egb, hcb⟩ := HX.out.ev.at_ heb
  have hnb := Ev.nth_some heb
  have hbi : (b : Int) < (x.ev.length : Int) := by omega
  obtain ⟨f, hf⟩ : ∃ f, x.fr.l[b]? = some f := ⟨_, List.getElem?_eq_getElem (by omega)⟩
  obtain ⟨gf, of, ef, hcf⟩ := HX.out.fr.at_ hf
  have hfs := HX.out.fr.2.1; have hfm := HX.out.fr.2.2.1
  have HRES := Lib.hid (show Ev.isRf x a b = (Ev.loads eb.k && f == (a : Int)) by unfold Ev.isRf Ev.frAt; rw [hnb, show x.fr.l.getD b 0 = f by simp [List.getD, hf]])
  have hbf : (b : Int) < (x.fr.l.length : Int) := by omega
  have HC := Lib.hid hcb
  have c0 := Ev.xcell0 RX.out; have c1 := Ev.xcell1 RX.out
  rw [egb] at c0; rw [ef] at c1
  have C1 := Lib.hid (show ∀ W, Below B.heap.size B W → W.cell? ⟨w.heap.size, 1, none⟩ = some (.slice (some ⟨gf, of, none⟩) x.fr.l.length x.fr.c) from fun W h => Ev.kp_below h _ _ c1)
  have C2 := Lib.hid (show ∀ W, Below B.heap.size B W → W.cell? ⟨gf, of + b, none⟩ = some (.int .i64 f) from fun W h => Ev.kp_below h _ _ hcf)
  obtain ⟨s, hs⟩ : ∃ s, Ev.loads eb.k = s := ⟨_, rfl⟩
  have HS := Lib.hid hs
  clear heb egb hcb hnb hf ef hcf hfl c1 hs
  unfold Ev.exV Ev.xcells
  go_enter Try.func46, Try.ntmps46
  go_wp2_with (first | ((with_reducible show wpList _ _ _ (Oper.mk (some 7) _ _ _ _ _ :: _) _ _); rw [show w.alloc (Obj.cells #[Value.slice x.ae x.ev.length x.ce, Value.slice x.fr.a x.fr.l.length x.fr.c, Value.slice x.ao x.od.length x.co] 26) = B from HB.out.symm]) | ((with_reducible show wpList _ _ _ (Oper.mk (some 11) _ _ _ _ _ :: _) _ _); refine wpList_load_at rfl 54 (.tmp 10) rfl gb (ob + b * 13) (by kernel_rfl) (Ev.cells eb) _ HC.out Try.underlying54 rfl (by kernel_rfl) ?_))
  refine (rloads_is HS.out _).mono ?_
  rintro e W1 ⟨rfl, hb1⟩
  have B1 := Lib.hid (B0.out.trans (hb1.mono B0.out.size))
  have c1 := C1.out W1 hb1; have c2 := C2.out W1 hb1
  clear hb1 c0
  cases s
  · have HF := Lib.hid (show Ev.isRf x a b = false by rw [HRES.out, HS.out]; rfl)
    go_wp2_with fail
    go_ret
    exact ⟨by rw [HF.out]; rfl, B1.out⟩
  by_cases hq : f = (a : Int)
  · have tq : (f == (a : Int)) = true := by simpa using hq
    have HF := Lib.hid (show Ev.isRf x a b = true by rw [HRES.out, HS.out, tq]; rfl)
    clear hq
    go_wp2_with fail
    go_ret
    exact ⟨by rw [HF.out]; rfl, B1.out⟩
  · have tq : (f == (a : Int)) = false := by simpa using hq
    have HF := Lib.hid (show Ev.isRf x a b = false by rw [HRES.out, HS.out, tq]; rfl)
    clear hq
    go_wp2_with fail
    go_ret
    exact ⟨by rw [HF.out]; rfl, B1.out⟩
end Go.Proofs.Ytoicmhidmknfiaa
end

section
namespace Go.Proofs.Ytoicmhidmknfiaa
open Go.RowKit
set_option linter.unusedVariables false
set_option linter.unusedSimpArgs false
namespace Ev
def pairGo (xs : List R) (e : R) : Nat → Int
  | 0 => -1
  | a + 1 => if (nth xs a).h ≠ e.h then -1 else if ((nth xs a).z && (nth xs a).k == 2) = true then -1 else if (nth xs a).z = true then (if (nth xs a).a = e.a then (a : Int) else -1) else pairGo xs e a
def paired (x : X) (b : Nat) : Int := if ((nth x.ev b).k != 2 || !(nth x.ev b).z) = true then -1 else pairGo x.ev (nth x.ev b) b
end Ev
set_option maxRecDepth 100000 in
set_option maxHeartbeats 4000000 in
theorem rpaired_any (x : Ev.X) (b : Nat) (hb : b < x.ev.length) (w : World) (hin : Ev.XIn w x) :
    Calls Try.prog 27 #[Ev.exV x, .int .i64 (b : Int)] w fun e w' => e = .returned (.int .i64 (Ev.paired x b)) ∧ Below w.heap.size w w' := by
  have hl1 := hin.ev.le; have hl2 := hin.ev.max
  obtain ⟨B, hB⟩ : ∃ B, B = w.alloc (Obj.cells (Ev.xcells x).toArray 26) := ⟨_, rfl⟩
  have HB := Lib.hid hB
  have B0 := Lib.hid (show Below w.heap.size w B by rw [hB]; exact (Below.refl w.heap.size w).alloc (Nat.le_refl _) _)
  have HX := Lib.hid (show Ev.XIn B x from hin.kp (Ev.kp_below B0.out))
  have RX := Lib.hid (show B.heap[w.heap.size]? = some (.cells (Ev.xcells x).toArray 26 (0, 0)) by rw [hB]; exact heap_alloc_new _ _)
  obtain ⟨e, he⟩ : ∃ e, x.ev[b]? = some e := ⟨_, List.getElem?_eq_getElem hb⟩
  obtain ⟨g, o, eg, hce⟩ := HX.out.ev.at_ he
  have HE := Lib.hid (Ev.nth_some he)
  have HEG := Lib.hid eg; have HCE := Lib.hid hce
  have hbi : (b : Int) < (x.ev.length : Int) := by omega
  have CX := Lib.hid (show ∀ W, Below B.heap.size B W → W.cell? ⟨w.heap.size, 0, none⟩ = some (.slice (some ⟨g, o, none⟩) x.ev.length x.ce) from fun W h => by
    rw [← eg]; exact Ev.xcell0 ((h.block w.heap.size (Array.getElem?_eq_some_iff.1 RX.out).1).trans RX.out))
  have cx := CX.out B (Below.refl _ _)
  clear hin hB he eg hce
  have HP := Lib.hid (show Ev.paired x b = if (e.k != 2 || !e.z) = true then -1 else Ev.pairGo x.ev e b by unfold Ev.paired; rw [HE.out])
  obtain ⟨ez, hez⟩ : ∃ z, e.z = z := ⟨_, rfl⟩
  have HEZ := Lib.hid hez
  clear hez
  unfold Ev.exV Ev.xcells
  by_cases hk : e.k = 2
  case neg =>
    have tk : (e.k != 2) = true := by simpa using hk
    have HF := Lib.hid (show Ev.paired x b = -1 by rw [HP.out, tk]; rfl)
    clear hk
    go_enter Try.func27, Try.ntmps27
    go_wp2_with (first
      | ((with_reducible show wpList _ _ _ (Oper.mk (some 8) _ _ _ _ _ :: _) _ _); rw [show w.alloc (Obj.cells #[Value.slice x.ae x.ev.length x.ce, Value.slice x.fr.a x.fr.l.length x.fr.c, Value.slice x.ao x.od.length x.co] 26) = B from HB.out.symm])
      | ((with_reducible show wpList _ _ _ (Oper.mk (some 12) _ _ _ _ _ :: _) _ _); refine wpList_load_at rfl 54 (.tmp 11) rfl g (o + b * 13) (by kernel_rfl) (Ev.cells e) _ HCE.out Try.underlying54 rfl (by kernel_rfl) ?_)
      | ((with_reducible show wpList _ _ _ (Oper.mk none (Op.store 54 (Operand.tmp 5) _) _ _ _ _ :: _) _ _); refine wpList_store_own rfl 54 (.tmp 5) (.tmp 12) rfl B.heap.size (Ev.cells e).toArray rfl rfl 54 (Ev.cells Ev.R0).toArray (heap_alloc_new _ _) (by kernel_rfl) (by kernel_rfl) (by kernel_rfl) ?_
         intro W2 HW
         have B2 := Lib.hid (((Below.refl B.heap.size B).alloc (Nat.le_refl _) _).trans HW.below)
         have RE := Lib.hid HW.row
         have cek : W2.cell? ⟨B.heap.size, 1, none⟩ = some (.int .i64 e.k) := by rw [cell_of_row _ _ _ _ _ _ HW.row]; rfl
         have cez : W2.cell? ⟨B.heap.size, 9, none⟩ = some (.bool ez) := by rw [cell_of_row _ _ _ _ _ _ HW.row, ← HEZ.out]; rfl
         clear HW))
    go_ret
    exact ⟨by rw [HF.out]; try rfl, B0.out.trans (B2.out.mono B0.out.size)⟩
  have tk : (e.k != 2) = false := by simp [hk]
  clear hk
  cases ez
  · have HF := Lib.hid (show Ev.paired x b = -1 by rw [HP.out, HEZ.out]; simp)
    go_enter Try.func27, Try.ntmps27
    go_wp2_with (first
      | ((with_reducible show wpList _ _ _ (Oper.mk (some 8) _ _ _ _ _ :: _) _ _); rw [show w.alloc (Obj.cells #[Value.slice x.ae x.ev.length x.ce, Value.slice x.fr.a x.fr.l.length x.fr.c, Value.slice x.ao x.od.length x.co] 26) = B from HB.out.symm])
      | ((with_reducible show wpList _ _ _ (Oper.mk (some 12) _ _ _ _ _ :: _) _ _); refine wpList_load_at rfl 54 (.tmp 11) rfl g (o + b * 13) (by kernel_rfl) (Ev.cells e) _ HCE.out Try.underlying54 rfl (by kernel_rfl) ?_)
      | ((with_reducible show wpList _ _ _ (Oper.mk none (Op.store 54 (Operand.tmp 5) _) _ _ _ _ :: _) _ _); refine wpList_store_own rfl 54 (.tmp 5) (.tmp 12) rfl B.heap.size (Ev.cells e).toArray rfl rfl 54 (Ev.cells Ev.R0).toArray (heap_alloc_new _ _) (by kernel_rfl) (by kernel_rfl) (by kernel_rfl) ?_
         intro W2 HW
         have B2 := Lib.hid (((Below.refl B.heap.size B).alloc (Nat.le_refl _) _).trans HW.below)
         have RE := Lib.hid HW.row
         have cek : W2.cell? ⟨B.heap.size, 1, none⟩ = some (.int .i64 e.k) := by rw [cell_of_row _ _ _ _ _ _ HW.row]; rfl
         have cez : W2.cell? ⟨B.heap.size, 9, none⟩ = some (.bool false) := by rw [cell_of_row _ _ _ _ _ _ HW.row, ← HEZ.out]; rfl
         clear HW))
    go_ret
    exact ⟨by rw [HF.out]; try rfl, B0.out.trans (B2.out.mono B0.out.size)⟩
  have HGO := Lib.hid (show Ev.paired x b = Ev.pairGo x.ev e b by rw [HP.out, HEZ.out, tk]; rfl)
  go_enter Try.func27, Try.ntmps27
  go_wp2_with (first
    | ((with_reducible show wpList _ _ _ (Oper.mk (some 8) _ _ _ _ _ :: _) _ _); rw [show w.alloc (Obj.cells #[Value.slice x.ae x.ev.length x.ce, Value.slice x.fr.a x.fr.l.length x.fr.c, Value.slice x.ao x.od.length x.co] 26) = B from HB.out.symm])
    | ((with_reducible show wpList _ _ _ (Oper.mk (some 12) _ _ _ _ _ :: _) _ _); refine wpList_load_at rfl 54 (.tmp 11) rfl g (o + b * 13) (by kernel_rfl) (Ev.cells e) _ HCE.out Try.underlying54 rfl (by kernel_rfl) ?_)
    | ((with_reducible show wpList _ _ _ (Oper.mk none (Op.store 54 (Operand.tmp 5) _) _ _ _ _ :: _) _ _); refine wpList_store_own rfl 54 (.tmp 5) (.tmp 12) rfl B.heap.size (Ev.cells e).toArray rfl rfl 54 (Ev.cells Ev.R0).toArray (heap_alloc_new _ _) (by kernel_rfl) (by kernel_rfl) (by kernel_rfl) ?_
       intro W2 HW
       have B2 := Lib.hid (((Below.refl B.heap.size B).alloc (Nat.le_refl _) _).trans HW.below)
       have RE := Lib.hid HW.row
       have cek : W2.cell? ⟨B.heap.size, 1, none⟩ = some (.int .i64 e.k) := by rw [cell_of_row _ _ _ _ _ _ HW.row]; rfl
       have cez : W2.cell? ⟨B.heap.size, 9, none⟩ = some (.bool true) := by rw [cell_of_row _ _ _ _ _ _ HW.row, ← HEZ.out]; rfl
       clear HW))
  clear cek cez cx
  go_loopw [6] (fun i wr => ∃ m : Nat, m ≤ b ∧ i = .int .i64 ((m : Int) - 1) ∧ Ev.paired x b = Ev.pairGo x.ev e m ∧ Below W2.heap.size W2 wr) (fun i _ => (intOf i + 1).toNat)
  case atStart => exact ⟨b, Nat.le_refl _, rfl, HGO.out, Below.refl _ _⟩
  case round =>
    obtain ⟨m, hm, rfl, hgo, hbr⟩ := hrel
    have HG := Lib.hid hgo; have HBR := Lib.hid hbr; clear hgo hbr
    have BB := Lib.hid (B2.out.trans (HBR.out.mono B2.out.size))
    cases m with
    | zero =>
      have HF := Lib.hid (show Ev.paired x b = -1 by rw [HG.out]; rfl)
      rw [show ((0 : Nat) : Int) - 1 = -1 from rfl]
      go_wp2
      go_ret
      exact ⟨by rw [HF.out]; try rfl, B0.out.trans (BB.out.mono B0.out.size)⟩
    | succ a =>
      rw [show ((a + 1 : Nat) : Int) - 1 = (a : Int) by omega]
      have hai : (a : Int) < (x.ev.length : Int) := by omega
      obtain ⟨y, hy⟩ : ∃ y, x.ev[a]? = some y := ⟨_, List.getElem?_eq_getElem (by omega)⟩
      obtain ⟨g', o', eg', hcy⟩ := (HX.out.ev.kp (Ev.kp_below BB.out)).at_ hy
      obtain ⟨rfl, rfl⟩ : g' = g ∧ o' = o := by rw [HEG.out] at eg'; cases eg'; exact ⟨rfl, rfl⟩
      have HCY := Lib.hid hcy
      have HG2 := Lib.hid (show Ev.paired x b = if y.h ≠ e.h then -1 else if (y.z && y.k == 2) = true then -1 else if y.z = true then (if y.a = e.a then (a : Int) else -1) else Ev.pairGo x.ev e a by
        rw [HG.out]; show (if (Ev.nth x.ev a).h ≠ e.h then -1 else if ((Ev.nth x.ev a).z && (Ev.nth x.ev a).k == 2) = true then -1 else if (Ev.nth x.ev a).z = true then (if (Ev.nth x.ev a).a = e.a then (a : Int) else -1) else Ev.pairGo x.ev e a) = _; rw [Ev.nth_some hy])
      have cx := CX.out wr BB.out
      have REW := Lib.hid ((HBR.out.block B.heap.size (Array.getElem?_eq_some_iff.1 RE.out).1).trans RE.out)
      obtain ⟨yz, hyz⟩ : ∃ z, y.z = z := ⟨_, rfl⟩
      have HYZ := Lib.hid hyz
      clear hy eg' hcy hyz
      have W3S := Lib.hid (fun (W : World) (h : Ev.Set1 (wr.alloc (.cells (Ev.cells Ev.R0).toArray 54)) W wr.heap.size 54 (Ev.cells y).toArray) => (((Below.refl wr.heap.size wr).alloc (Nat.le_refl _) _).trans h.below))
      by_cases hh : y.h = e.h
      case neg =>
        have th : (y.h != e.h) = true := by simpa using hh
        have HF := Lib.hid (show Ev.paired x b = -1 by rw [HG2.out, if_pos hh])
        clear hh
        go_wp2_with (first
          | ((with_reducible show wpList _ _ _ (Oper.mk (some 31) _ _ _ _ _ :: _) _ _); refine wpList_load_at rfl 54 (.tmp 30) rfl g' (o' + a * 13) (by kernel_rfl) (Ev.cells y) _ HCY.out Try.underlying54 rfl (by kernel_rfl) ?_)
          | ((with_reducible show wpList _ _ _ (Oper.mk none (Op.store 54 (Operand.tmp 7) _) _ _ _ _ :: _) _ _); refine wpList_store_own rfl 54 (.tmp 7) (.tmp 31) rfl wr.heap.size (Ev.cells y).toArray rfl rfl 54 (Ev.cells Ev.R0).toArray (heap_alloc_new _ _) (by kernel_rfl) (by kernel_rfl) (by kernel_rfl) ?_
             intro W3 HW
             have BY := Lib.hid (((Below.refl wr.heap.size wr).alloc (Nat.le_refl _) _).trans HW.below)
             have B3 := Lib.hid (BB.out.trans (BY.out.mono BB.out.size))
             have HBR3 := Lib.hid (HBR.out.trans (BY.out.mono HBR.out.size))
             have RE3 := Lib.hid ((BY.out.block B.heap.size (Array.getElem?_eq_some_iff.1 REW.out).1).trans REW.out)
             have y0 : W3.cell? ⟨wr.heap.size, 0, none⟩ = some (.int .i64 y.h) := by rw [cell_of_row _ _ _ _ _ _ HW.row]; rfl
             have y1 : W3.cell? ⟨wr.heap.size, 1, none⟩ = some (.int .i64 y.k) := by rw [cell_of_row _ _ _ _ _ _ HW.row]; rfl
             have y2 : W3.cell? ⟨wr.heap.size, 2, none⟩ = some (.int .u32 y.a) := by rw [cell_of_row _ _ _ _ _ _ HW.row]; rfl
             have y9 : W3.cell? ⟨wr.heap.size, 9, none⟩ = some (.bool yz) := by rw [cell_of_row _ _ _ _ _ _ HW.row, ← HYZ.out]; rfl
             have e0 : W3.cell? ⟨B.heap.size, 0, none⟩ = some (.int .i64 e.h) := by rw [cell_of_row _ _ _ _ _ _ RE3.out]; rfl
             have e2 : W3.cell? ⟨B.heap.size, 2, none⟩ = some (.int .u32 e.a) := by rw [cell_of_row _ _ _ _ _ _ RE3.out]; rfl
             clear HW))
        go_ret
        exact ⟨by rw [HF.out]; try rfl, B0.out.trans (B3.out.mono B0.out.size)⟩
      have th : (y.h != e.h) = false := by simp [hh]
      have HG3 := Lib.hid (show Ev.paired x b = if (yz && y.k == 2) = true then -1 else if yz = true then (if y.a = e.a then (a : Int) else -1) else Ev.pairGo x.ev e a by rw [HG2.out, if_neg (fun h => h hh), HYZ.out])
      clear hh
      cases yz
      · have HF := Lib.hid (show Ev.paired x b = Ev.pairGo x.ev e a by rw [HG3.out]; simp)
        go_wp2_with (first
          | ((with_reducible show wpList _ _ _ (Oper.mk (some 31) _ _ _ _ _ :: _) _ _); refine wpList_load_at rfl 54 (.tmp 30) rfl g' (o' + a * 13) (by kernel_rfl) (Ev.cells y) _ HCY.out Try.underlying54 rfl (by kernel_rfl) ?_)
          | ((with_reducible show wpList _ _ _ (Oper.mk none (Op.store 54 (Operand.tmp 7) _) _ _ _ _ :: _) _ _); refine wpList_store_own rfl 54 (.tmp 7) (.tmp 31) rfl wr.heap.size (Ev.cells y).toArray rfl rfl 54 (Ev.cells Ev.R0).toArray (heap_alloc_new _ _) (by kernel_rfl) (by kernel_rfl) (by kernel_rfl) ?_
             intro W3 HW
             have BY := Lib.hid (((Below.refl wr.heap.size wr).alloc (Nat.le_refl _) _).trans HW.below)
             have B3 := Lib.hid (BB.out.trans (BY.out.mono BB.out.size))
             have HBR3 := Lib.hid (HBR.out.trans (BY.out.mono HBR.out.size))
             have RE3 := Lib.hid ((BY.out.block B.heap.size (Array.getElem?_eq_some_iff.1 REW.out).1).trans REW.out)
             have y0 : W3.cell? ⟨wr.heap.size, 0, none⟩ = some (.int .i64 y.h) := by rw [cell_of_row _ _ _ _ _ _ HW.row]; rfl
             have y1 : W3.cell? ⟨wr.heap.size, 1, none⟩ = some (.int .i64 y.k) := by rw [cell_of_row _ _ _ _ _ _ HW.row]; rfl
             have y2 : W3.cell? ⟨wr.heap.size, 2, none⟩ = some (.int .u32 y.a) := by rw [cell_of_row _ _ _ _ _ _ HW.row]; rfl
             have y9 : W3.cell? ⟨wr.heap.size, 9, none⟩ = some (.bool false) := by rw [cell_of_row _ _ _ _ _ _ HW.row, ← HYZ.out]; rfl
             have e0 : W3.cell? ⟨B.heap.size, 0, none⟩ = some (.int .i64 e.h) := by rw [cell_of_row _ _ _ _ _ _ RE3.out]; rfl
             have e2 : W3.cell? ⟨B.heap.size, 2, none⟩ = some (.int .u32 e.a) := by rw [cell_of_row _ _ _ _ _ _ RE3.out]; rfl
             clear HW))
        go_roundw
        case rel => exact ⟨a, by omega, rfl, HF.out, HBR3.out⟩
        case measure => simp [intOf] <;> omega
      by_cases hk : y.k = 2
      · have tk : (y.k == 2) = true := by simpa using hk
        have HF := Lib.hid (show Ev.paired x b = -1 by rw [HG3.out, tk]; simp)
        clear hk
        go_wp2_with (first
          | ((with_reducible show wpList _ _ _ (Oper.mk (some 31) _ _ _ _ _ :: _) _ _); refine wpList_load_at rfl 54 (.tmp 30) rfl g' (o' + a * 13) (by kernel_rfl) (Ev.cells y) _ HCY.out Try.underlying54 rfl (by kernel_rfl) ?_)
          | ((with_reducible show wpList _ _ _ (Oper.mk none (Op.store 54 (Operand.tmp 7) _) _ _ _ _ :: _) _ _); refine wpList_store_own rfl 54 (.tmp 7) (.tmp 31) rfl wr.heap.size (Ev.cells y).toArray rfl rfl 54 (Ev.cells Ev.R0).toArray (heap_alloc_new _ _) (by kernel_rfl) (by kernel_rfl) (by kernel_rfl) ?_
             intro W3 HW
             have BY := Lib.hid (((Below.refl wr.heap.size wr).alloc (Nat.le_refl _) _).trans HW.below)
             have B3 := Lib.hid (BB.out.trans (BY.out.mono BB.out.size))
             have HBR3 := Lib.hid (HBR.out.trans (BY.out.mono HBR.out.size))
             have RE3 := Lib.hid ((BY.out.block B.heap.size (Array.getElem?_eq_some_iff.1 REW.out).1).trans REW.out)
             have y0 : W3.cell? ⟨wr.heap.size, 0, none⟩ = some (.int .i64 y.h) := by rw [cell_of_row _ _ _ _ _ _ HW.row]; rfl
             have y1 : W3.cell? ⟨wr.heap.size, 1, none⟩ = some (.int .i64 y.k) := by rw [cell_of_row _ _ _ _ _ _ HW.row]; rfl
             have y2 : W3.cell? ⟨wr.heap.size, 2, none⟩ = some (.int .u32 y.a) := by rw [cell_of_row _ _ _ _ _ _ HW.row]; rfl
             have y9 : W3.cell? ⟨wr.heap.size, 9, none⟩ = some (.bool true) := by rw [cell_of_row _ _ _ _ _ _ HW.row, ← HYZ.out]; rfl
             have e0 : W3.cell? ⟨B.heap.size, 0, none⟩ = some (.int .i64 e.h) := by rw [cell_of_row _ _ _ _ _ _ RE3.out]; rfl
             have e2 : W3.cell? ⟨B.heap.size, 2, none⟩ = some (.int .u32 e.a) := by rw [cell_of_row _ _ _ _ _ _ RE3.out]; rfl
             clear HW))
        go_ret
        exact ⟨by rw [HF.out]; try rfl, B0.out.trans (B3.out.mono B0.out.size)⟩
      have tk : (y.k == 2) = false := by simpa using hk
      clear hk
      by_cases ha : y.a = e.a
      · have ta : (y.a == e.a) = true := by simpa using ha
        have HF := Lib.hid (show Ev.paired x b = (a : Int) by rw [HG3.out, tk, if_pos ha]; simp)
        clear ha
        go_wp2_with (first
          | ((with_reducible show wpList _ _ _ (Oper.mk (some 31) _ _ _ _ _ :: _) _ _); refine wpList_load_at rfl 54 (.tmp 30) rfl g' (o' + a * 13) (by kernel_rfl) (Ev.cells y) _ HCY.out Try.underlying54 rfl (by kernel_rfl) ?_)
          | ((with_reducible show wpList _ _ _ (Oper.mk none (Op.store 54 (Operand.tmp 7) _) _ _ _ _ :: _) _ _); refine wpList_store_own rfl 54 (.tmp 7) (.tmp 31) rfl wr.heap.size (Ev.cells y).toArray rfl rfl 54 (Ev.cells Ev.R0).toArray (heap_alloc_new _ _) (by kernel_rfl) (by kernel_rfl) (by kernel_rfl) ?_
             intro W3 HW
             have BY := Lib.hid (((Below.refl wr.heap.size wr).alloc (Nat.le_refl _) _).trans HW.below)
             have B3 := Lib.hid (BB.out.trans (BY.out.mono BB.out.size))
             have HBR3 := Lib.hid (HBR.out.trans (BY.out.mono HBR.out.size))
             have RE3 := Lib.hid ((BY.out.block B.heap.size (Array.getElem?_eq_some_iff.1 REW.out).1).trans REW.out)
             have y0 : W3.cell? ⟨wr.heap.size, 0, none⟩ = some (.int .i64 y.h) := by rw [cell_of_row _ _ _ _ _ _ HW.row]; rfl
             have y1 : W3.cell? ⟨wr.heap.size, 1, none⟩ = some (.int .i64 y.k) := by rw [cell_of_row _ _ _ _ _ _ HW.row]; rfl
             have y2 : W3.cell? ⟨wr.heap.size, 2, none⟩ = some (.int .u32 y.a) := by rw [cell_of_row _ _ _ _ _ _ HW.row]; rfl
             have y9 : W3.cell? ⟨wr.heap.size, 9, none⟩ = some (.bool true) := by rw [cell_of_row _ _ _ _ _ _ HW.row, ← HYZ.out]; rfl
             have e0 : W3.cell? ⟨B.heap.size, 0, none⟩ = some (.int .i64 e.h) := by rw [cell_of_row _ _ _ _ _ _ RE3.out]; rfl
             have e2 : W3.cell? ⟨B.heap.size, 2, none⟩ = some (.int .u32 e.a) := by rw [cell_of_row _ _ _ _ _ _ RE3.out]; rfl
             clear HW))
        go_ret
        exact ⟨by rw [HF.out]; try rfl, B0.out.trans (B3.out.mono B0.out.size)⟩
      · have ta : (y.a == e.a) = false := by simpa using ha
        have HF := Lib.hid (show Ev.paired x b = -1 by rw [HG3.out, tk, if_neg ha]; simp)
        clear ha
        go_wp2_with (first
          | ((with_reducible show wpList _ _ _ (Oper.mk (some 31) _ _ _ _ _ :: _) _ _); refine wpList_load_at rfl 54 (.tmp 30) rfl g' (o' + a * 13) (by kernel_rfl) (Ev.cells y) _ HCY.out Try.underlying54 rfl (by kernel_rfl) ?_)
          | ((with_reducible show wpList _ _ _ (Oper.mk none (Op.store 54 (Operand.tmp 7) _) _ _ _ _ :: _) _ _); refine wpList_store_own rfl 54 (.tmp 7) (.tmp 31) rfl wr.heap.size (Ev.cells y).toArray rfl rfl 54 (Ev.cells Ev.R0).toArray (heap_alloc_new _ _) (by kernel_rfl) (by kernel_rfl) (by kernel_rfl) ?_
             intro W3 HW
             have BY := Lib.hid (((Below.refl wr.heap.size wr).alloc (Nat.le_refl _) _).trans HW.below)
             have B3 := Lib.hid (BB.out.trans (BY.out.mono BB.out.size))
             have HBR3 := Lib.hid (HBR.out.trans (BY.out.mono HBR.out.size))
             have RE3 := Lib.hid ((BY.out.block B.heap.size (Array.getElem?_eq_some_iff.1 REW.out).1).trans REW.out)
             have y0 : W3.cell? ⟨wr.heap.size, 0, none⟩ = some (.int .i64 y.h) := by rw [cell_of_row _ _ _ _ _ _ HW.row]; rfl
             have y1 : W3.cell? ⟨wr.heap.size, 1, none⟩ = some (.int .i64 y.k) := by rw [cell_of_row _ _ _ _ _ _ HW.row]; rfl
             have y2 : W3.cell? ⟨wr.heap.size, 2, none⟩ = some (.int .u32 y.a) := by rw [cell_of_row _ _ _ _ _ _ HW.row]; rfl
             have y9 : W3.cell? ⟨wr.heap.size, 9, none⟩ = some (.bool true) := by rw [cell_of_row _ _ _ _ _ _ HW.row, ← HYZ.out]; rfl
             have e0 : W3.cell? ⟨B.heap.size, 0, none⟩ = some (.int .i64 e.h) := by rw [cell_of_row _ _ _ _ _ _ RE3.out]; rfl
             have e2 : W3.cell? ⟨B.heap.size, 2, none⟩ = some (.int .u32 e.a) := by rw [cell_of_row _ _ _ _ _ _ RE3.out]; rfl
             clear HW))
        go_ret
        exact ⟨by rw [HF.out]; try rfl, B0.out.trans (B3.out.mono B0.out.size)⟩
end Go.Proofs.Ytoicmhidmknfiaa
end

section
namespace Go.Proofs.Ytoicmhidmknfiaa
open Go.RowKit
set_option linter.unusedVariables false
set_option linter.unusedSimpArgs false
namespace Ev
def strong (x : R) : Bool := (x.q || x.l) && (x.k == 3 || x.z)
def inSet (n : Int) (x : R) : Bool := n.tmod 2 == 1 && stores x.k || decide (2 ≤ n) && loads x.k
end Ev
set_option maxRecDepth 100000 in
set_option maxHeartbeats 2000000 in
theorem rstrong_any (x : Ev.R) (w : World) : Calls Try.prog 50 #[Ev.evV x] w fun e w' => e = .returned (.bool (Ev.strong x)) ∧ Below w.heap.size w w' := by
  have B0 := Lib.hid ((Below.refl w.heap.size w).alloc (Nat.le_refl _) (.cells (Ev.cells x).toArray 54))
  obtain ⟨h, k, a, v, r, q, l, p, s, z, d1, d2, d3⟩ := x
  unfold Ev.evV Ev.cells Ev.strong
  have HB := B0
  unfold Ev.cells at B0
  by_cases hk : k = 3
  · have tk : (k == 3) = true := by simpa using hk
    rw [show ((⟨h, k, a, v, r, q, l, p, s, z, d1, d2, d3⟩ : Ev.R).k == 3) = true from tk]
    clear hk
    cases q <;> cases l <;> cases z
    all_goals
      go_enter Try.func50, Try.ntmps50
      go_wp2
      go_ret
      exact ⟨rfl, B0.out⟩
  · have tk : (k == 3) = false := by simpa using hk
    rw [show ((⟨h, k, a, v, r, q, l, p, s, z, d1, d2, d3⟩ : Ev.R).k == 3) = false from tk]
    clear hk
    cases q <;> cases l <;> cases z
    all_goals
      go_enter Try.func50, Try.ntmps50
      go_wp2
      go_ret
      exact ⟨rfl, B0.out⟩
set_option maxRecDepth 100000 in
set_option maxHeartbeats 4000000 in
theorem rin_any (n : Int) (x : Ev.R) (w : World) : Calls Try.prog 51 #[.int .i64 n, Ev.evV x] w fun e w' => e = .returned (.bool (Ev.inSet n x)) ∧ Below w.heap.size w w' := by
  obtain ⟨B, hB⟩ : ∃ B, B = w.alloc (Obj.cells (Ev.cells x).toArray 54) := ⟨_, rfl⟩
  have HB := Lib.hid hB
  have B0 := Lib.hid (show Below w.heap.size w B by rw [hB]; exact (Below.refl w.heap.size w).alloc (Nat.le_refl _) _)
  have RX := Lib.hid (show B.heap[w.heap.size]? = some (.cells (Ev.cells x).toArray 54 (0, 0)) by rw [hB]; exact heap_alloc_new _ _)
  obtain ⟨s, hs⟩ : ∃ s, Ev.stores x.k = s := ⟨_, rfl⟩
  obtain ⟨l, hl⟩ : ∃ s, Ev.loads x.k = s := ⟨_, rfl⟩
  obtain ⟨t, ht⟩ : ∃ t, (n.tmod 2 == 1) = t := ⟨_, rfl⟩
  obtain ⟨u, hu⟩ : ∃ t, decide (2 ≤ n) = t := ⟨_, rfl⟩
  have HS := Lib.hid hs; have HL := Lib.hid hl
  have HRES := Lib.hid (show Ev.inSet n x = (t && s || u && l) by unfold Ev.inSet; rw [hs, hl, ht, hu])
  clear hB hs hl
  unfold Ev.evV
  cases t
  · cases u
    · go_enter Try.func51, Try.ntmps51
      go_wp2
      go_ret
      exact ⟨by rw [HRES.out]; try rfl, by rw [← HB.out]; exact B0.out⟩
    · go_enter Try.func51, Try.ntmps51
      go_wp2_with ((with_reducible show wpList _ _ _ (Oper.mk (some 16) _ _ _ _ _ :: _) _ _); (try rw [show w.alloc (Obj.cells (Ev.cells x).toArray 54) = B from HB.out.symm]); refine Ev.load_row_g 54 (.tmp 3) rfl rfl w.heap.size (by kernel_rfl) 54 (Ev.cells x).toArray (0, 0) _ RX.out Try.underlying54 rfl (by kernel_rfl) ?_)
      refine (rloads_is HL.out _).mono ?_
      rintro e W9 ⟨rfl, hb⟩
      have HEND := Lib.hid ((B0.out).trans (hb.mono (B0.out).size)); clear hb
      go_wp2_with fail
      go_ret
      exact ⟨by rw [HRES.out]; try rfl, HEND.out⟩
  · go_enter Try.func51, Try.ntmps51
    go_wp2_with ((with_reducible show wpList _ _ _ (Oper.mk (some 9) _ _ _ _ _ :: _) _ _); (try rw [show w.alloc (Obj.cells (Ev.cells x).toArray 54) = B from HB.out.symm]); refine Ev.load_row_g 54 (.tmp 3) rfl rfl w.heap.size (by kernel_rfl) 54 (Ev.cells x).toArray (0, 0) _ RX.out Try.underlying54 rfl (by kernel_rfl) ?_)
    refine (rstores_is HS.out _).mono ?_
    rintro e W1 ⟨rfl, hb⟩
    have R1 := Lib.hid ((hb.block w.heap.size (Array.getElem?_eq_some_iff.1 RX.out).1).trans RX.out)
    have B1 := Lib.hid (B0.out.trans (hb.mono B0.out.size)); clear hb
    cases s
    · cases u
      · go_wp2_with fail
        go_ret
        exact ⟨by rw [HRES.out]; try rfl, B1.out⟩
      · go_wp2_with ((with_reducible show wpList _ _ _ (Oper.mk (some 16) _ _ _ _ _ :: _) _ _); (try rw [show w.alloc (Obj.cells (Ev.cells x).toArray 54) = B from HB.out.symm]); refine Ev.load_row_g 54 (.tmp 3) rfl rfl w.heap.size (by kernel_rfl) 54 (Ev.cells x).toArray (0, 0) _ R1.out Try.underlying54 rfl (by kernel_rfl) ?_)
        refine (rloads_is HL.out _).mono ?_
        rintro e W9 ⟨rfl, hb⟩
        have HEND := Lib.hid ((B1.out).trans (hb.mono (B1.out).size)); clear hb
        go_wp2_with fail
        go_ret
        exact ⟨by rw [HRES.out]; try rfl, HEND.out⟩
    · go_wp2_with fail
      go_ret
      exact ⟨by rw [HRES.out]; try rfl, B1.out⟩
end Go.Proofs.Ytoicmhidmknfiaa
end

section
namespace Go.Proofs.Ytoicmhidmknfiaa
open Go.RowKit
set_option linter.unusedVariables false
set_option linter.unusedSimpArgs false
namespace Ev
/-- one rule of two events in program order that are no fences -/
def ruleOf (x : X) (r : Int) (a b : Nat) : Bool :=
  let e := nth x.ev a; let f := nth x.ev b
  if r = 1 then e.a == f.a && stores f.k
  else if r = 3 then (e.k == 3 || (e.k == 2 && e.z)) && frAt x b == (a : Int)
  else if r = 5 then e.q
  else if r = 6 then f.l
  else if r = 7 then strong e && strong f
  else if r = 8 then paired x b == (a : Int)
  else if r = 9 then decide (0 ≤ at_ f.d1.l a)
  else if r = 10 then decide (0 ≤ at_ f.d2.l a)
  else if r = 11 then stores f.k && decide (0 ≤ at_ f.d3.l a)
  else
    let ms := (List.range (b - (a + 1))).map fun i => a + 1 + i
    let clear := ms.all fun m => !(stores (nth x.ev m).k && (nth x.ev m).a == e.a)
    let some := ms.any fun m =>
      let g := nth x.ev m
      r == 4 && g.k == 4 && inSet g.p e && inSet g.s f || r == 12 && loads f.k && stores g.k && frAt x b == (m : Int) && (decide (0 ≤ at_ g.d1.l a) || decide (0 ≤ at_ g.d2.l a)) || r == 13 && stores f.k && decide (0 ≤ at_ g.d1.l a)
    if r = 2 then loads e.k && loads f.k && e.a == f.a && !(frAt x a == frAt x b) && clear else some
def rule (x : X) (r : Int) (a b : Nat) : Bool := if isPo x a b = false ∨ (nth x.ev a).k = 4 ∨ (nth x.ev b).k = 4 then false else ruleOf x r a b
end Ev
theorem rpo_is {x : Ev.X} {a b : Nat} {v : Bool} (h : Ev.isPo x a b = v) (ha : a < x.ev.length) (hb : b < x.ev.length) (w : World) (hin : Ev.XIn w x) :
    Calls Try.prog 45 #[.agg (Ev.xcells x).toArray, .int .i64 (a : Int), .int .i64 (b : Int)] w fun e w' => e = .returned (.bool v) ∧ Below w.heap.size w w' := h ▸ rpo_any x a b ha hb w hin
theorem rpaired_is {x : Ev.X} {b : Nat} {v : Int} (h : Ev.paired x b = v) (hb : b < x.ev.length) (w : World) (hin : Ev.XIn w x) :
    Calls Try.prog 27 #[.agg (Ev.xcells x).toArray, .int .i64 (b : Int)] w fun e w' => e = .returned (.int .i64 v) ∧ Below w.heap.size w w' := h ▸ rpaired_any x b hb w hin
theorem rstrong_is {x : Ev.R} {v : Bool} (h : Ev.strong x = v) (w : World) : Calls Try.prog 50 #[.agg (Ev.cells x).toArray] w fun e w' => e = .returned (.bool v) ∧ Below w.heap.size w w' := h ▸ rstrong_any x w
theorem rin_is {n : Int} {x : Ev.R} {v : Bool} (h : Ev.inSet n x = v) (w : World) : Calls Try.prog 51 #[.int .i64 n, .agg (Ev.cells x).toArray] w fun e w' => e = .returned (.bool v) ∧ Below w.heap.size w w' := h ▸ rin_any n x w
end Go.Proofs.Ytoicmhidmknfiaa
end

section
namespace Go.Proofs.Ytoicmhidmknfiaa
open Go.RowKit
set_option linter.unusedVariables false
set_option linter.unusedSimpArgs false
set_option maxRecDepth 100000 in
set_option maxHeartbeats 4000000 in
theorem rule_no (x : Ev.X) (r : Int) (a b : Nat) (ha : a < x.ev.length) (hb : b < x.ev.length) (hno : Ev.isPo x a b = false ∨ (Ev.nth x.ev a).k = 4 ∨ (Ev.nth x.ev b).k = 4) (w : World) (hin : Ev.XIn w x) :
    Calls Try.prog 22 #[Ev.exV x, .int .i64 r, .int .i64 (a : Int), .int .i64 (b : Int)] w fun e w' => e = .returned (.bool false) ∧ Below w.heap.size w w' := by
  have hl1 := hin.ev.le; have hl2 := hin.ev.max
  obtain ⟨B, hB⟩ : ∃ B, B = w.alloc (Obj.cells (Ev.xcells x).toArray 26) := ⟨_, rfl⟩
  have HB := Lib.hid hB
  have B0 := Lib.hid (show Below w.heap.size w B by rw [hB]; exact (Below.refl w.heap.size w).alloc (Nat.le_refl _) _)
  have HX := Lib.hid (show Ev.XIn B x from hin.kp (Ev.kp_below B0.out))
  have RX := Lib.hid (show B.heap[w.heap.size]? = some (.cells (Ev.xcells x).toArray 26 (0, 0)) by rw [hB]; exact heap_alloc_new _ _)
  obtain ⟨e, he⟩ : ∃ e, x.ev[a]? = some e := ⟨_, List.getElem?_eq_getElem ha⟩
  obtain ⟨f, hf⟩ : ∃ f, x.ev[b]? = some f := ⟨_, List.getElem?_eq_getElem hb⟩
  obtain ⟨g, o, eg, hce⟩ := HX.out.ev.at_ he
  obtain ⟨g', o', eg', hcf⟩ := HX.out.ev.at_ hf
  obtain ⟨rfl, rfl⟩ : g' = g ∧ o' = o := by rw [eg] at eg'; cases eg'; exact ⟨rfl, rfl⟩
  have HEO := Lib.hid (HX.out.ev.ok_ he); have HFO := Lib.hid (HX.out.ev.ok_ hf)
  have HE := Lib.hid (Ev.nth_some he); have HF := Lib.hid (Ev.nth_some hf)
  have HCE := Lib.hid hce; have HCF := Lib.hid hcf
  have hai : (a : Int) < (x.ev.length : Int) := by omega
  have hbi : (b : Int) < (x.ev.length : Int) := by omega
  have CX := Lib.hid (show ∀ W, Below B.heap.size B W → W.cell? ⟨w.heap.size, 0, none⟩ = some (.slice (some ⟨g', o', none⟩) x.ev.length x.ce) from fun W h => by
    rw [← eg]; exact Ev.xcell0 ((h.block w.heap.size (Array.getElem?_eq_some_iff.1 RX.out).1).trans RX.out))
  clear hin hB he hf eg eg' hce hcf
  obtain ⟨po, hpo⟩ : ∃ v, Ev.isPo x a b = v := ⟨_, rfl⟩
  have HPO := Lib.hid hpo
  rw [hpo, HE.out, HF.out] at hno
  clear hpo
  obtain ⟨bx0⟩ : Nonempty (B.cell? ⟨w.heap.size, 0, none⟩ = some (.slice (some ⟨g', o', none⟩) x.ev.length x.ce)) := ⟨CX.out B (Below.refl _ _)⟩
  unfold Ev.exV Ev.xcells
  go_enter Try.func22, Try.ntmps22
  go_wp2_with (first
    | ((with_reducible show wpList _ _ _ (Oper.mk (some 16) _ _ _ _ _ :: _) _ _); (try rw [show w.alloc (Obj.cells #[Value.slice x.ae x.ev.length x.ce, Value.slice x.fr.a x.fr.l.length x.fr.c, Value.slice x.ao x.od.length x.co] 26) = B from HB.out.symm]); refine wpList_load_row rfl 26 (.tmp 4) rfl w.heap.size (by kernel_rfl) 26 (Ev.xcells x).toArray (0, 0) _ RX.out Try.underlying26 rfl (by kernel_rfl) ?_))
  refine (rpo_is HPO.out ha hb _ HX.out).mono ?_
  rintro q W1 ⟨rfl, hb1⟩
  have B1 := Lib.hid hb1
  have cx := CX.out W1 hb1
  have cek : W1.cell? ⟨g', o' + a * 13 + 1, none⟩ = some (.int .i64 e.k) := Ev.kp_below hb1 _ _ (HCE.out 1 _ rfl)
  have cfk : W1.cell? ⟨g', o' + b * 13 + 1, none⟩ = some (.int .i64 f.k) := Ev.kp_below hb1 _ _ (HCF.out 1 _ rfl)
  clear hb1 bx0
  cases po
  · clear hno
    go_wp2_with fail
    go_ret
    exact ⟨rfl, B0.out.trans (B1.out.mono B0.out.size)⟩
  by_cases h1 : e.k = 4
  · have t1 : (e.k == 4) = true := by simpa using h1
    clear hno h1
    go_wp2_with fail
    go_ret
    exact ⟨rfl, B0.out.trans (B1.out.mono B0.out.size)⟩
  have t1 : (e.k == 4) = false := by simpa using h1
  have t2 : (f.k == 4) = true := by simpa [h1] using hno
  clear hno h1
  go_wp2_with fail
  go_ret
  exact ⟨rfl, B0.out.trans (B1.out.mono B0.out.size)⟩
end Go.Proofs.Ytoicmhidmknfiaa
end

section
namespace Go.Proofs.Ytoicmhidmknfiaa
open Go.RowKit
set_option linter.unusedVariables false
namespace Ev
def upTo (a m : Nat) : List Nat := (List.range (m - (a + 1))).map fun i => a + 1 + i
theorem upTo_zero (a : Nat) : upTo a (a + 1) = [] := by unfold upTo; simp
theorem upTo_succ {a m : Nat} (h : a + 1 ≤ m) : upTo a (m + 1) = upTo a m ++ [m] := by
  unfold upTo
  rw [show m + 1 - (a + 1) = (m - (a + 1)) + 1 by omega, List.range_succ, List.map_append]
  simp; omega
def cl (x : X) (a m : Nat) : Bool := !(stores (nth x.ev m).k && (nth x.ev m).a == (nth x.ev a).a)
/-- what the rules 4, 12, 13 ask of one that is between -/
def so (x : X) (K : Nat) (a b m : Nat) : Bool :=
  if K = 4 then (nth x.ev m).k == 4 && inSet (nth x.ev m).p (nth x.ev a) && inSet (nth x.ev m).s (nth x.ev b)
  else if K = 12 then loads (nth x.ev b).k && stores (nth x.ev m).k && frAt x b == (m : Int) && (decide (0 ≤ at_ (nth x.ev m).d1.l a) || decide (0 ≤ at_ (nth x.ev m).d2.l a))
  else if K = 13 then stores (nth x.ev b).k && decide (0 ≤ at_ (nth x.ev m).d1.l a) else false
theorem all_succ {p : Nat → Bool} {a m : Nat} (h : a + 1 ≤ m) : (upTo a (m + 1)).all p = ((upTo a m).all p && p m) := by rw [upTo_succ h, List.all_append]; simp
theorem any_succ {p : Nat → Bool} {a m : Nat} (h : a + 1 ≤ m) : (upTo a (m + 1)).any p = ((upTo a m).any p || p m) := by rw [upTo_succ h, List.any_append]; simp
theorem rule2_is (x : X) (a b : Nat) : ruleOf x 2 a b = (loads (nth x.ev a).k && loads (nth x.ev b).k && (nth x.ev a).a == (nth x.ev b).a && !(frAt x a == frAt x b) && (upTo a b).all (cl x a)) := rfl
theorem rule4_is (x : X) (a b : Nat) : ruleOf x 4 a b = (upTo a b).any (so x 4 a b) := by
  show (upTo a b).any _ = _
  congr 1 <;> (funext m; simp [so])
theorem rule12_is (x : X) (a b : Nat) : ruleOf x 12 a b = (upTo a b).any (so x 12 a b) := by
  show (upTo a b).any _ = _
  congr 1 <;> (funext m; simp [so])
theorem rule13_is (x : X) (a b : Nat) : ruleOf x 13 a b = (upTo a b).any (so x 13 a b) := by
  show (upTo a b).any _ = _
  congr 1 <;> (funext m; simp [so])
theorem po_lt {x : X} {a b : Nat} (h : isPo x a b = true) : a < b := by
  unfold isPo at h
  simp only [Bool.and_eq_true, decide_eq_true_eq] at h
  exact h.1.1
end Ev
end Go.Proofs.Ytoicmhidmknfiaa
end
