import Derived.Test.YtecnnkidalkmfaaGreatKc29
import Derived.Test.YtecnnkidalkmfaaGreatKc21
import Derived.Test.YtecnnkidalkmfaaGreatKc30
import Derived.Test.YtecnnkidalkmfaaGreatKc07
import Derived.Test.YtecnnkidalkmfaaGreatKc12
import Derived.Test.YtecnnkidalkmfaaGreatKc20
import Derived.Test.YtecnnkidalkmfaaGreatKc01
import Derived.Test.YtecnnkidalkmfaaGreatKc14
import Derived.Test.YtecnnkidalkmfaaGreatKc28
set_option linter.unusedVariables false
set_option linter.unusedSimpArgs false

section
namespace Go.Proofs.YtecnnkidalkmfaaGreat
open Go.RowKit
namespace Md
open Ev
structure JIn (w : World) (q : Nat) (x : X) : Prop where
  row : w.heap[q]? = some (.cells (xcells x).toArray 83 (0, 0))
  xin : XIn w x
theorem JIn.kp {w w' : World} {q : Nat} {x : X} (h : JIn w q x) (hb : Below w.heap.size w w') : JIn w' q x :=
  ⟨(hb.block q (Array.getElem?_eq_some_iff.1 h.row).1).trans h.row, h.xin.kp (kp_below hb)⟩
theorem JIn.c0 {w : World} {q : Nat} {x : X} (h : JIn w q x) : w.cell? ⟨q, 0, none⟩ = some (.slice x.ae x.ev.length x.ce) := by rw [cell_of_row _ _ _ _ _ _ h.row]; rfl
theorem JIn.c1 {w : World} {q : Nat} {x : X} (h : JIn w q x) : w.cell? ⟨q, 1, none⟩ = some (.slice x.fr.a x.fr.l.length x.fr.c) := by rw [cell_of_row _ _ _ _ _ _ h.row]; rfl
def BringR (x : X) (w : World) (e : Ending) (w' : World) : Prop := Below w.heap.size w w' ∧
  ((check x ≠ 0 ∧ e = .returned (.tuple #[.pointer none, .int .i64 (check x)])) ∨ (check x = 0 ∧ ∃ q, e = .returned (.tuple #[.pointer (some ⟨q, 0, none⟩), .int .i64 0]) ∧ JIn w' q x))
end Md
set_option maxRecDepth 100000 in
set_option maxHeartbeats 2000000 in
theorem isFence_any (e : Ev.R) (w : World) : Calls Tryz.prog 75 #[.agg (Ev.cells e).toArray] w fun r w' => r = .returned (.bool (e.k == 4)) ∧ Below w.heap.size w w' := by
  have c1 : (w.alloc (.cells (Ev.cells e).toArray 48)).cell? ⟨w.heap.size, 1, none⟩ = some (.int .i64 e.k) := by rw [cell_of_row _ _ _ _ _ _ (heap_alloc_new w _)]; rfl
  have B0 := Lib.hid ((Below.refl w.heap.size w).alloc (Nat.le_refl _) (.cells (Ev.cells e).toArray 48))
  go_enter Tryz.func75, Tryz.ntmps75
  go_wp2
  go_ret
  exact ⟨rfl, B0.out⟩
set_option maxRecDepth 100000 in
set_option maxHeartbeats 2000000 in
theorem bring_any (x : Ev.X) (w : World) (hin : Ev.XIn w x) : Calls Tryz.prog 34 #[.agg (Ev.xcells x).toArray] w (Md.BringR x w) := by
  have HIN := Lib.hid hin; clear hin
  have R0 := Lib.hid (heap_alloc_new w (.cells (Ev.xcells x).toArray 26))
  have B0 := Lib.hid ((Below.refl w.heap.size w).alloc (Nat.le_refl _) (.cells (Ev.xcells x).toArray 26))
  obtain ⟨v, hv⟩ : ∃ v, Ev.check x = v := ⟨_, rfl⟩
  have HV := Lib.hid hv
  clear hv
  go_enter Tryz.func34, Tryz.ntmps34
  go_wp2_with ((with_reducible show wpList _ _ _ (Oper.mk (some 5) _ _ _ _ _ :: _) _ _); refine wpList_load_row rfl 26 (.tmp 1) rfl w.heap.size (by kernel_rfl) 26 (Ev.xcells x).toArray (0, 0) _ R0.out Tryz.underlying26 rfl (by kernel_rfl) ?_)
  refine (check_is HV.out _ (HIN.out.kp (Ev.kp_below B0.out))).mono ?_
  rintro e W1 ⟨rfl, hb⟩
  have R1 := Lib.hid ((hb.block w.heap.size (by simp only [World.size_alloc]; omega)).trans R0.out)
  have B1 := Lib.hid (B0.out.trans (hb.mono (by simp only [World.size_alloc]; omega))); clear hb
  by_cases hz : v = 0
  · subst hz
    go_wp2_with ((with_reducible show wpList _ _ _ (Oper.mk (some 10) _ _ _ _ _ :: _) _ _); refine wpList_load_row rfl 26 (.tmp 1) rfl w.heap.size (by kernel_rfl) 26 #[.slice x.ae x.ev.length x.ce, .slice x.fr.a x.fr.l.length x.fr.c, .slice x.ao x.od.length x.co] (0, 0) _ R1.out Tryz.underlying26 rfl (by kernel_rfl) ?_)
    go_ret2
    have hb2 : Below W1.heap.size W1 (W1.alloc (.cells (Ev.xcells x).toArray 83)) := (Below.refl _ _).alloc (Nat.le_refl _) _
    exact ⟨B1.out.trans (hb2.mono B1.out.size), .inr ⟨HV.out, W1.heap.size, rfl, heap_alloc_new _ _, HIN.out.kp (Ev.kp_below (B1.out.trans (hb2.mono B1.out.size)))⟩⟩
  · have tv : (v != 0) = true := by simpa using hz
    have HZ := Lib.hid hz
    clear hz
    go_wp2
    go_ret2
    exact ⟨B1.out, .inl ⟨by rw [HV.out]; exact HZ.out, by rw [HV.out]; rfl⟩⟩
end Go.Proofs.YtecnnkidalkmfaaGreat
end

section
namespace Go.Proofs.YtecnnkidalkmfaaGreat
open Go.RowKit
namespace Ev
def placeGo (n : Int) : List Sl → Int
  | [] => -1
  | s :: r => if 0 ≤ at_ s.l n then at_ s.l n else placeGo n r
def place (x : X) (n : Int) : Int := placeGo n x.od
def isPo (x : X) (a b : Nat) : Bool := decide (a < b) && decide (0 ≤ (nth x.ev a).h) && (nth x.ev a).h == (nth x.ev b).h
def isRf (x : X) (a b : Nat) : Bool := loads (nth x.ev b).k && frAt x b == (a : Int)
def isCo (x : X) (a b : Int) : Bool := stores (nth x.ev a).k && stores (nth x.ev b).k && (nth x.ev a).a == (nth x.ev b).a && decide (place x a < place x b)
def isFr (x : X) (a b : Nat) : Bool := !(decide (a = b)) && loads (nth x.ev a).k && isCo x (frAt x a) b
end Ev
set_option maxRecDepth 100000 in
set_option maxHeartbeats 4000000 in
theorem rpo_any (x : Ev.X) (a b : Nat) (ha : a < x.ev.length) (hb : b < x.ev.length) (w : World) (hin : Ev.XIn w x) :
    Calls Tryz.prog 42 #[Ev.exV x, .int .i64 (a : Int), .int .i64 (b : Int)] w fun e w' => e = .returned (.bool (Ev.isPo x a b)) ∧ Below w.heap.size w w' := by
  have HIN := Lib.hid hin
  have hl1 := hin.ev.le; have hl2 := hin.ev.max
  obtain ⟨B, hB⟩ : ∃ B, B = w.alloc (Obj.cells (Ev.xcells x).toArray 26) := ⟨_, rfl⟩
  have HB := Lib.hid hB
  have B0 := Lib.hid (show Below w.heap.size w B by rw [hB]; exact (Below.refl w.heap.size w).alloc (Nat.le_refl _) _)
  have HX := Lib.hid (show Ev.XIn B x from hin.kp (Ev.kp_below B0.out))
  have RX := Lib.hid (show B.heap[w.heap.size]? = some (.cells (Ev.xcells x).toArray 26 (0, 0)) by rw [hB]; exact heap_alloc_new _ _)
  clear hin hB
  obtain ⟨ea, hea⟩ : ∃ e, x.ev[a]? = some e := ⟨_, List.getElem?_eq_getElem ha⟩
  obtain ⟨ga, oa, ega, hca⟩ := HX.out.ev.at_ hea
  have hna := Ev.nth_some hea
  have hai : (a : Int) < (x.ev.length : Int) := by omega
  obtain ⟨eb, heb⟩ : ∃ e, x.ev[b]? = some e := ⟨_, List.getElem?_eq_getElem hb⟩
  obtain ⟨gb, ob, egb, hcb⟩ := HX.out.ev.at_ heb
  have hnb := Ev.nth_some heb
  have hbi : (b : Int) < (x.ev.length : Int) := by omega
  obtain ⟨rfl, rfl⟩ : gb = ga ∧ ob = oa := by rw [ega] at egb; cases egb; exact ⟨rfl, rfl⟩
  have HRES := Lib.hid (show Ev.isPo x a b = (decide (a < b) && decide (0 ≤ ea.h) && ea.h == eb.h) by unfold Ev.isPo; rw [hna, hnb])
  have hza : ∀ z : Og.On B.heap.size B, ∀ i c, (Ev.cells ea)[i]? = some c → z.x.cell? ⟨gb, ob + a * 13 + i, none⟩ = some c := fun z i c hi => Og.cellB z (hca i c hi)
  have La := Lib.hid (fun z : Og.On B.heap.size B => Ev.ld (hza z))
  have ca0 : ∀ z : Og.On B.heap.size B, z.x.cell? ⟨gb, ob + a * 13, none⟩ = some (.int .i64 ea.h) := fun z => hza z 0 _ rfl
  have hzb : ∀ z : Og.On B.heap.size B, ∀ i c, (Ev.cells eb)[i]? = some c → z.x.cell? ⟨gb, ob + b * 13 + i, none⟩ = some c := fun z i c hi => Og.cellB z (hcb i c hi)
  have Lb := Lib.hid (fun z : Og.On B.heap.size B => Ev.ld (hzb z))
  have cb0 : ∀ z : Og.On B.heap.size B, z.x.cell? ⟨gb, ob + b * 13, none⟩ = some (.int .i64 eb.h) := fun z => hzb z 0 _ rfl
  have cx : ∀ z : Og.On B.heap.size B, z.x.cell? ⟨w.heap.size, 0, none⟩ = some (.slice (some ⟨gb, ob, none⟩) x.ev.length x.ce) := fun z => Og.cellB z (by rw [← egb]; exact Ev.xcell0 RX.out)
  clear hea heb ega hca hcb hna hnb hza hzb egb
  unfold Ev.exV Ev.xcells
  go_enter Tryz.func42, Tryz.ntmps42
  by_cases h1 : a < b
  case neg =>
    have t1 : decide (a < b) = false := decide_eq_false h1
    have t1' : decide ((a : Int) < (b : Int)) = false := decide_eq_false (by omega)
    have HF := Lib.hid (show Ev.isPo x a b = false by rw [HRES.out, t1]; rfl)
    clear h1
    go_wp2
    rw [show w.alloc (Obj.cells #[Value.slice x.ae x.ev.length x.ce, Value.slice x.fr.a x.fr.l.length x.fr.c, Value.slice x.ao x.od.length x.co] 26) = B from HB.out.symm]
    refine Og.regionB (by kernel_rfl) (by kernel_rfl) ?_
    repeat (first
      | go_big_quiet_skip
      | (go_big_quiet_want
         first
          | (go_big_quiet_op
             first
              | go_big_quiet_on)))
    refine wpQuiet_nil ?_
    intro _ hw'
    obtain ⟨q9, hw''⟩ := hw'
    subst hw''
    have HEND := Lib.hid (B0.out.trans (q9.b.mono B0.out.size))
    go_wp2_with fail
    go_ret
    exact ⟨by rw [HF.out]; rfl, HEND.out⟩
  have t1 : decide (a < b) = true := decide_eq_true h1
  have t1' : decide ((a : Int) < (b : Int)) = true := decide_eq_true (by omega)
  by_cases h2 : 0 ≤ ea.h
  case neg =>
    have t2 : decide (0 ≤ ea.h) = false := decide_eq_false h2
    have HF := Lib.hid (show Ev.isPo x a b = false by rw [HRES.out, t2]; simp)
    clear h1 h2
    go_wp2
    rw [show w.alloc (Obj.cells #[Value.slice x.ae x.ev.length x.ce, Value.slice x.fr.a x.fr.l.length x.fr.c, Value.slice x.ao x.od.length x.co] 26) = B from HB.out.symm]
    refine Og.regionB (by kernel_rfl) (by kernel_rfl) ?_
    repeat (first
      | go_big_quiet_skip
      | (go_big_quiet_want
         first
          | (go_big_quiet_op
             first
              | go_big_quiet_on)))
    refine wpQuiet_nil ?_
    intro _ hw'
    obtain ⟨q9, hw''⟩ := hw'
    subst hw''
    have HEND := Lib.hid (B0.out.trans (q9.b.mono B0.out.size))
    go_wp2_with fail
    go_ret
    exact ⟨by rw [HF.out]; rfl, HEND.out⟩
  have t2 : decide (0 ≤ ea.h) = true := decide_eq_true h2
  by_cases h3 : ea.h = eb.h
  case neg =>
    have t3 : (ea.h == eb.h) = false := by simpa using h3
    have HF := Lib.hid (show Ev.isPo x a b = false by rw [HRES.out, t3]; simp)
    clear h1 h2 h3
    go_wp2
    rw [show w.alloc (Obj.cells #[Value.slice x.ae x.ev.length x.ce, Value.slice x.fr.a x.fr.l.length x.fr.c, Value.slice x.ao x.od.length x.co] 26) = B from HB.out.symm]
    refine Og.regionB (by kernel_rfl) (by kernel_rfl) ?_
    repeat (first
      | go_big_quiet_skip
      | (go_big_quiet_want
         first
          | (go_big_quiet_op
             first
              | go_big_quiet_on)))
    refine wpQuiet_nil ?_
    intro _ hw'
    obtain ⟨q9, hw''⟩ := hw'
    subst hw''
    have HEND := Lib.hid (B0.out.trans (q9.b.mono B0.out.size))
    go_wp2_with fail
    go_ret
    exact ⟨by rw [HF.out]; rfl, HEND.out⟩
  have t3 : (ea.h == eb.h) = true := by simpa using h3
  have HF := Lib.hid (show Ev.isPo x a b = true by rw [HRES.out, t1, t2, t3]; rfl)
  clear h1 h2 h3
  go_wp2
  rw [show w.alloc (Obj.cells #[Value.slice x.ae x.ev.length x.ce, Value.slice x.fr.a x.fr.l.length x.fr.c, Value.slice x.ao x.od.length x.co] 26) = B from HB.out.symm]
  refine Og.regionB (by kernel_rfl) (by kernel_rfl) ?_
  repeat (first
    | go_big_quiet_skip
    | (go_big_quiet_want
       first
        | (go_big_quiet_op
           first
            | go_big_quiet_on)))
  refine wpQuiet_nil ?_
  intro _ hw'
  obtain ⟨q9, hw''⟩ := hw'
  subst hw''
  have HEND := Lib.hid (B0.out.trans (q9.b.mono B0.out.size))
  go_wp2_with fail
  go_ret
  exact ⟨by rw [HF.out]; rfl, HEND.out⟩
end Go.Proofs.YtecnnkidalkmfaaGreat
end

section
namespace Go.Proofs.YtecnnkidalkmfaaGreat
open Go.RowKit
end Go.Proofs.YtecnnkidalkmfaaGreat
end

section
namespace Go.Proofs.YtecnnkidalkmfaaGreat
open Go.RowKit
namespace Ev
end Ev
namespace Ev
theorem PairsIn.at_ {w : World} {a : Option Addr} {c : Nat} {ps : List (Nat × Nat)} (h : PairsIn w a c ps) {k : Nat} {p : Nat × Nat} (hk : ps[k]? = some p) :
    ∃ g o, a = some ⟨g, o, none⟩ ∧ ∀ i c, (pv p)[i]? = some c → w.cell? ⟨g, o + k * 2 + i, none⟩ = some c := by
  have hl := (List.getElem?_eq_some_iff.1 hk).1
  obtain ⟨g, o, e, hc⟩ := h.rows (by simp; omega)
  exact ⟨g, o, e, fun i c hi => hc k (pv p) (by rw [List.getElem?_map, hk]; rfl) i c hi⟩
theorem PairsIn.kp {w w' : World} {a : Option Addr} {c : Nat} {ps : List (Nat × Nat)} (h : PairsIn w a c ps) (k : Kp w w') : PairsIn w' a c ps := ⟨h.rows.kp k, h.le, h.max⟩
end Ev
end Go.Proofs.YtecnnkidalkmfaaGreat
end

section
namespace Go.Proofs.YtecnnkidalkmfaaGreat
open Go.RowKit
namespace Ev
theorem nodup_of_len {α : Type} [DecidableEq α] : ∀ {b a : List α}, a.Nodup → (∀ x ∈ a, x ∈ b) → b.length ≤ a.length → b.Nodup
  | [], _, _, _, _ => List.nodup_nil
  | y :: s, a, ha, hs, hl => by
    rw [List.nodup_cons]
    constructor
    · intro hy
      have := nodup_le (a := a) (b := s) ha fun x hx => by
        rcases List.mem_cons.1 (hs x hx) with rfl | h
        · exact hy
        · exact h
      simp only [List.length_cons] at hl
      omega
    · refine nodup_of_len (a := a.erase y) (ha.erase y) (fun x hx => ?_) ?_
      · have hm := List.mem_of_mem_erase hx
        rcases List.mem_cons.1 (hs x hm) with rfl | h
        · exact absurd hx (List.Nodup.not_mem_erase ha)
        · exact h
      · have := List.le_length_erase (l := a) (a := y)
        simp only [List.length_cons] at hl
        omega
def sts (xs : List R) (y : Int) : List Int := ((List.range xs.length).filter fun i : Nat => isSt y (nth xs (i : Int))).map fun i : Nat => (i : Int)
theorem sts_mem {xs : List R} {y n : Int} : n ∈ sts xs y ↔ ∃ i : Nat, i < xs.length ∧ isSt y (nth xs (i : Int)) = true ∧ n = i := by
  unfold sts
  rw [List.mem_map]
  constructor
  · rintro ⟨i, hi, rfl⟩
    rw [List.mem_filter, List.mem_range] at hi
    exact ⟨i, hi.1, hi.2, rfl⟩
  · rintro ⟨i, hi, hq, rfl⟩
    exact ⟨i, List.mem_filter.2 ⟨List.mem_range.2 hi, hq⟩, rfl⟩
theorem sts_nodup (xs : List R) (y : Int) : (sts xs y).Nodup := by
  unfold sts
  rw [List.Nodup, List.pairwise_map]
  exact (List.nodup_range.filter _).imp fun {a b} h e => h (by have e2 : (a : Int) = (b : Int) := e; omega)
theorem range_map (xs : List R) : (List.range xs.length).map (fun i : Nat => nth xs (i : Int)) = xs := by
  apply List.ext_getElem
  · simp
  · intro i h1 h2
    simp only [List.getElem_map, List.getElem_range]
    exact nth_get h2
theorem sts_len (xs : List R) (y : Int) : (sts xs y).length = cnt xs y := by
  unfold sts cnt
  rw [List.length_map]
  conv => rhs; rw [← range_map xs]
  rw [List.filter_map, List.length_map]
  rfl
def rOrd (xs : List R) (A b : Int) (s : List Int) : Prop := (∀ i : Nat, i < xs.length → stores (nth xs i).k = true → (nth xs i).a = A → (i : Int) ∈ s) ∧ s.length = cnt xs A ∧ s.getD 0 0 = b
theorem ord_iff {xs : List R} {od : List Sl} {s : Sl} {b : Nat} (hs : od[b]? = some s) {A : Int} (hA : (nth xs b).a = A) : orderAt xs od b = true ↔ rOrd xs A b s.l := by
  unfold orderAt rOrd
  rw [hs]
  simp only [Bool.and_eq_true, beq_iff_eq]
  rw [hA]
  unfold onceOk
  rw [Bool.and_eq_true, List.all_eq_true, decide_eq_true_eq]
  have hone : ∀ n, s.l.getD 0 0 = (b : Int) → (onceAt xs (s.l.getD 0 0) n = true ↔ n ∈ sts xs A) := fun n h0 => by
    rw [h0, sts_mem]
    unfold onceAt inB isSt
    rw [hA]
    simp only [Bool.and_eq_true, decide_eq_true_eq, beq_iff_eq]
    constructor
    · rintro ⟨⟨⟨h1, h2⟩, h3⟩, h4⟩
      obtain ⟨i, rfl⟩ : ∃ i : Nat, n = i := ⟨n.toNat, by omega⟩
      exact ⟨i, by omega, ⟨h3, h4⟩, rfl⟩
    · rintro ⟨i, hi, ⟨h3, h4⟩, rfl⟩
      exact ⟨⟨⟨by omega, by omega⟩, h3⟩, h4⟩
  constructor
  · rintro ⟨⟨h1, h2⟩, h3, h4⟩
    refine ⟨fun i hi hk ha => ?_, h1, h2⟩
    refine back_of_len (a := s.l) (b := sts xs A) h4 ?_ (fun n hn => (hone n h2).1 (h3 n hn)) _ (sts_mem.2 ⟨i, hi, ?_, rfl⟩)
    · rw [sts_len]; omega
    · unfold isSt; rw [hk, ha]; simp
  · rintro ⟨h1, h2, h3⟩
    have hsub : ∀ n ∈ sts xs A, n ∈ s.l := fun n hn => by
      obtain ⟨i, hi, hq, rfl⟩ := sts_mem.1 hn
      unfold isSt at hq
      simp only [Bool.and_eq_true, beq_iff_eq] at hq
      exact h1 i hi hq.1 hq.2
    have hl : s.l.length ≤ (sts xs A).length := by rw [sts_len]; omega
    exact ⟨⟨h2, h3⟩, fun n hn => (hone n h3).2 (back_of_len (sts_nodup xs A) hl hsub n hn), nodup_of_len (sts_nodup xs A) hsub hl⟩
end Ev
end Go.Proofs.YtecnnkidalkmfaaGreat
end

section
namespace Go.Proofs.YtecnnkidalkmfaaGreat
open Go.RowKit
namespace Ev
theorem cut_row {bond : Nat → Nat → Int} {is : Nat → Nat → Bool} {a : Nat} : ∀ {n s : Nat}, (∀ b, b < s + n → (bond a b = 1 ↔ is a b = true)) → (∀ b, b < s + n → bond a b = 2 → ∀ c, b ≤ c → c < s + n → is a c = false) →
    cutL bond a (List.range' s n) = rowL is a (List.range' s n)
  | 0, s, _, _ => rfl
  | n + 1, s, h1, h2 => by
    have ih := cut_row (bond := bond) (is := is) (a := a) (n := n) (s := s + 1) (fun b hb => h1 b (by omega)) (fun b hb h c hc hc2 => h2 b (by omega) h c hc (by omega))
    have e : rowL is a (List.range' s (n + 1)) = (if is a s then [(a, s)] else []) ++ rowL is a (List.range' (s + 1) n) := by
      unfold rowL
      rw [List.range'_succ, List.filter_cons]
      cases h : is a s <;> simp
    rw [e, List.range'_succ]
    unfold cutL
    by_cases hb2 : bond a s = 2
    · rw [if_pos hb2]
      have hall : ∀ c ∈ s :: List.range' (s + 1) n, is a c = false := fun c hc => by
        rw [List.mem_cons, List.mem_range'_1] at hc
        rcases hc with rfl | hc
        · exact h2 c (by omega) hb2 c (Nat.le_refl _) (by omega)
        · exact h2 s (by omega) hb2 c (by omega) (by omega)
      rw [hall s List.mem_cons_self]
      have : rowL is a (List.range' (s + 1) n) = [] := by
        unfold rowL
        rw [List.filter_eq_nil_iff.2 (fun c hc => by rw [hall c (List.mem_cons_of_mem _ hc)]; simp)]
        rfl
      rw [this]; simp
    · rw [if_neg hb2]
      by_cases hb1 : bond a s = 1
      · rw [if_pos hb1, (h1 s (by omega)).1 hb1, ih]; simp
      · rw [if_neg hb1, ih]
        have : is a s = false := by
          cases h : is a s
          · rfl
          · exact absurd ((h1 s (by omega)).2 h) hb1
        rw [this]; simp
theorem told_pl {bond : Nat → Nat → Int} {is : Nat → Nat → Bool} {n : Nat} (h1 : ∀ a b, a < n → b < n → (bond a b = 1 ↔ is a b = true)) (h2 : ∀ a b, a < n → b < n → bond a b = 2 → ∀ c, b ≤ c → c < n → is a c = false) :
    told bond n n = pl is n n := by
  unfold told pl
  have : ∀ l : List Nat, (∀ a ∈ l, a < n) → (l.flatMap fun i => cutL bond i (List.range n)) = l.flatMap fun i => rowL is i (List.range n) := by
    intro l
    induction l with
    | nil => intro _; rfl
    | cons a l ih =>
      intro hl
      have ha := hl a List.mem_cons_self
      rw [List.flatMap_cons, List.flatMap_cons, ih (fun b hb => hl b (List.mem_cons_of_mem _ hb))]
      congr 1
      rw [List.range_eq_range']
      exact cut_row (fun b hb => h1 a b ha (by omega)) (fun b hb h c hc hc2 => h2 a b ha (by omega) h c hc (by omega))
  exact this _ (fun a ha => List.mem_range.1 ha)
theorem ev_all {x : X} (h : check x = 0) : evsOk x.ev = true := by
  unfold check at h
  split at h
  · cases h
  split at h
  · cases h
  · rename_i h2; simpa using h2
theorem at_parts {xs : List R} (h : evsOk xs = true) {i : Nat} (hi : i < xs.length) : partsOk (nth xs i) = true ∧ (i = 0 ∨ follow (nth xs ((i : Int) - 1)) (nth xs i) = true) := by
  have := evs_all h i hi
  unfold evAt at this
  simp only [Bool.and_eq_true, Bool.or_eq_true, beq_iff_eq] at this
  exact ⟨this.1.1, this.2⟩
theorem hart5 {xs : List R} (h : evsOk xs = true) {i : Nat} (hi : i < xs.length) : (nth xs i).k = 5 ↔ (nth xs i).h < 0 := by
  have hp := (at_parts h hi).1
  rw [parts_bare] at hp
  simp only [Bool.and_eq_true, Bool.or_eq_true, beq_iff_eq] at hp
  constructor
  · intro h5
    have := bare_five hp.1.1 h5
    omega
  · intro hh
    rcases hp.1.2 with h5 | hb
    · exact h5
    · unfold inB at hb; simp at hb; omega
theorem hart_up {xs : List R} (h : evsOk xs = true) : ∀ (d i : Nat), i + d < xs.length → (nth xs i).h ≤ (nth xs (i + d : Nat)).h := by
  intro d
  induction d with
  | zero => intro i _; exact Int.le_refl _
  | succ d ih =>
    intro i hi
    have h1 := ih i (by omega)
    have h2 := (at_parts h (show i + (d + 1) < xs.length from hi)).2.resolve_left (by omega)
    rw [show ((i + (d + 1) : Nat) : Int) - 1 = ((i + d : Nat) : Int) by omega] at h2
    have h3 : (nth xs (i + d : Nat)).h ≤ (nth xs (i + (d + 1) : Nat)).h := by
      unfold follow at h2
      split at h2
      · rename_i hk
        have a := (at_parts h (show i + d < xs.length by omega)).1
        have b := (at_parts h hi).1
        rw [parts_bare] at a b
        simp only [Bool.and_eq_true] at a b
        rw [bare_five a.1.1 hk.2, bare_five b.1.1 hk.1]
        exact Int.le_refl _
      · exact of_decide_eq_true h2
    exact Int.le_trans h1 h3
theorem po_eq {x : X} (hc : check x = 0) : told (bondPo x) x.ev.length x.ev.length = pl (isPo x) x.ev.length x.ev.length := by
  have he := ev_all hc
  have up : ∀ a b : Nat, a ≤ b → b < x.ev.length → (nth x.ev a).h ≤ (nth x.ev b).h := fun a b hab hb => by
    have := hart_up he (b - a) a (by omega)
    rwa [show a + (b - a) = b by omega] at this
  refine told_pl (fun a b ha hb => ?_) (fun a b ha hb h2 c hbc hcn => ?_)
  · have h5 := hart5 he ha
    unfold bondPo isPo bnd
    simp only [Bool.and_eq_true, decide_eq_true_eq, beq_iff_eq]
    by_cases h : (nth x.ev (a : Int)).k = 5 ∨ (nth x.ev (a : Int)).h < (nth x.ev (b : Int)).h
    · rw [if_pos h]
      constructor
      · intro hh; omega
      · rintro ⟨⟨h1, h2⟩, h3⟩
        rcases h with h | h
        · have := h5.1 h; omega
        · omega
    · rw [if_neg h]
      have hh : ¬ (nth x.ev (a : Int)).h < 0 := fun e => h (.inl (h5.2 e))
      have hh2 : ¬ (nth x.ev (a : Int)).h < (nth x.ev (b : Int)).h := fun e => h (.inr e)
      constructor
      · intro hq
        have hab : a < b := by
          apply Classical.byContradiction
          intro hn
          rw [if_neg (by simp; omega)] at hq
          omega
        have := up a b (by omega) hb
        exact ⟨⟨hab, by omega⟩, by omega⟩
      · rintro ⟨⟨h1, h2⟩, h3⟩
        rw [if_pos (by simp; omega)]
  · have h5 := hart5 he ha
    unfold bondPo bnd at h2
    unfold isPo
    by_cases h : (nth x.ev (a : Int)).k = 5 ∨ (nth x.ev (a : Int)).h < (nth x.ev (b : Int)).h
    · have := up b c hbc hcn
      rcases h with h | h
      · have := h5.1 h
        simp only [Bool.and_eq_false_iff, decide_eq_false_iff_not]
        left; right; omega
      · simp only [Bool.and_eq_false_iff, decide_eq_false_iff_not, beq_eq_false_iff_ne]
        right; omega
    · rw [if_neg h] at h2
      split at h2 <;> omega
theorem rf_eq {x : X} (hc : check x = 0) : told (bondRf x) x.ev.length x.ev.length = pl (isRf x) x.ev.length x.ev.length := by
  obtain ⟨_, hf, _⟩ := check_order hc
  have hfl : x.fr.l.length = x.ev.length := check_from hc
  have hone : ∀ b, b < x.ev.length → fromAt x.ev x.fr.l b = true := by
    unfold fromOk at hf
    simp only [Bool.and_eq_true, List.all_eq_true] at hf
    exact fun b hb => hf.2 b (List.mem_range.2 hb)
  have key : ∀ a b : Nat, b < x.ev.length → frAt x b = (a : Int) → loads (nth x.ev b).k = true ∧ stores (nth x.ev a).k = true := fun a b hb he => by
    have h := hone b hb
    unfold fromAt at h
    have e2 : x.fr.l.getD b 0 = (a : Int) := he
    rw [e2] at h
    split at h
    · rename_i hl
      unfold readOk at h
      simp only [Bool.and_eq_true] at h
      exact ⟨hl, h.1.1.2⟩
    · simp only [beq_iff_eq] at h
      omega
  refine told_pl (fun a b ha hb => ?_) (fun a b ha hb h2 c hbc hcn => ?_)
  · unfold bondRf isRf bnd
    simp only [Bool.and_eq_true, beq_iff_eq]
    constructor
    · intro h
      split at h
      · omega
      · split at h
        · rename_i hq
          exact ⟨(key a b hb hq).1, hq⟩
        · omega
    · rintro ⟨h1, h2⟩
      rw [if_neg (by rw [(key a b hb h2).2]; simp), if_pos h2]
  · unfold bondRf bnd at h2
    split at h2
    · rename_i hs
      unfold isRf
      rw [Bool.and_eq_false_iff]
      right
      rw [beq_eq_false_iff_ne]
      intro e
      rw [(key a c hcn e).2] at hs
      cases hs
    · split at h2 <;> omega
end Ev
end Go.Proofs.YtecnnkidalkmfaaGreat
end
