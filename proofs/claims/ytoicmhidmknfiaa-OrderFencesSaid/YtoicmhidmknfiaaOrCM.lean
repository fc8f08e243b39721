/-
  OrCM: OrAsk, OrTop, OrSeq, OrRules, OrPpo, OrKnown in one text.
-/
import Derived.Test.YtoicmhidmknfiaaOrBM
import Derived.Test.YtoicmhidmknfiaaEvChk
import Derived.Test.YtoicmhidmknfiaaEvPairs
import Derived.Test.YtoicmhidmknfiaaEvHang
import Derived.Test.YtoicmhidmknfiaaEvCM
import Derived.RangeFuncBox
import Derived.Deep.AppendLies

section
namespace Go.Proofs.Ytoicmhidmknfiaa
open Go.RowKit
set_option linter.unusedVariables false
set_option linter.unusedSimpArgs false
namespace Or
open Ev
def inR (x : X) (n : Int) : Prop := 0 ≤ n ∧ n < (x.ev.length : Int)
/-- what ask answers -/
def AskR (x : X) (ns : List Int) (w : World) (r : Ending) (w' : World) : Prop := Below w.heap.size w w' ∧
  ((check x ≠ 0 ∧ r = .returned (.tuple #[.pointer none, .int .i64 (check x)])) ∨ (check x = 0 ∧ (∃ n ∈ ns, ¬ inR x n) ∧ r = .returned (.tuple #[.pointer none, .int .i64 4])) ∨
   (check x = 0 ∧ (∀ n ∈ ns, inR x n) ∧ ∃ q, r = .returned (.tuple #[.pointer (some ⟨q, 0, none⟩), .int .i64 0]) ∧ As w' q x))
theorem AskR.bad {x : X} {ns : List Int} {w w' : World} {r : Ending} (hb : Below w.heap.size w w') {v : Int} (hv : check x = v) (h : v ≠ 0) (hr : r = .returned (.tuple #[.pointer none, .int .i64 v])) : AskR x ns w r w' := ⟨hb, .inl ⟨hv ▸ h, hv ▸ hr⟩⟩
theorem AskR.no {x : X} {ns : List Int} {w w' : World} {r : Ending} (hb : Below w.heap.size w w') (hv : check x = 0) {n : Int} (hn : n ∈ ns) (h : ¬ inR x n) (hr : r = .returned (.tuple #[.pointer none, .int .i64 4])) : AskR x ns w r w' := ⟨hb, .inr (.inl ⟨hv, ⟨n, hn, h⟩, hr⟩)⟩
theorem AskR.yes {x : X} {ns : List Int} {w w' : World} {r : Ending} (hb : Below w.heap.size w w') (hv : check x = 0) (h : ∀ n ∈ ns, inR x n) (q : Nat) (hr : r = .returned (.tuple #[.pointer (some ⟨q, 0, none⟩), .int .i64 0])) (ha : As w' q x) : AskR x ns w r w' := ⟨hb, .inr (.inr ⟨hv, h, q, hr, ha⟩)⟩
end Or
set_option maxRecDepth 100000 in
set_option maxHeartbeats 8000000 in
theorem ask_any (x : Ev.X) (s : Ev.Sl) (w : World) (hin : Ev.XIn w x) (hs : Ev.IntsIn w s) :
    Calls Try.prog 43 #[.agg (Ev.xcells x).toArray, .slice s.a s.l.length s.c] w (Or.AskR x s.l w) := by
  have hle := hin.ev.le; have hmax := hin.ev.max
  have hsl := hs.2.1; have hsm := hs.2.2.1
  have HIN := Lib.hid hin; have HS := Lib.hid hs; clear hin hs
  obtain ⟨B, hB⟩ : ∃ B, B = w.alloc (.cells (Ev.xcells x).toArray 26) := ⟨_, rfl⟩
  have HB := Lib.hid hB
  have RX := Lib.hid (show B.heap[w.heap.size]? = some (.cells (Ev.xcells x).toArray 26 (0, 0)) by rw [hB]; exact heap_alloc_new _ _)
  have B0 := Lib.hid (show Below w.heap.size w B by rw [hB]; exact (Below.refl w.heap.size w).alloc (Nat.le_refl _) _)
  obtain ⟨v, hv⟩ : ∃ v, Ev.check x = v := ⟨_, rfl⟩
  have HV := Lib.hid hv
  clear hB hv
  go_enter Try.func43, Try.ntmps43
  go_wp2_with (first
    | ((with_reducible show wpList _ _ _ (Oper.mk (some 9) _ _ _ _ _ :: _) _ _); (try rw [show w.alloc (Obj.cells (Ev.xcells x).toArray 26) = B from HB.out.symm]); refine wpList_load_row rfl 26 (.tmp 2) rfl w.heap.size (by kernel_rfl) 26 (Ev.xcells x).toArray (0, 0) _ RX.out Try.underlying26 rfl (by kernel_rfl) ?_))
  refine (check_is HV.out _ (HIN.out.kp (Ev.kp_below B0.out))).mono ?_
  rintro r W1 ⟨rfl, hb1⟩
  have R1 := Lib.hid ((hb1.block w.heap.size (Array.getElem?_eq_some_iff.1 RX.out).1).trans RX.out)
  have B1 := Lib.hid (B0.out.trans (hb1.mono B0.out.size)); clear hb1
  by_cases h0 : v = 0
  case neg =>
    have t0 : (v != 0) = true := by simpa using h0
    have H0 := Lib.hid h0
    clear h0
    go_wp2_with fail
    go_ret2
    exact Or.AskR.bad B1.out HV.out H0.out rfl
  subst h0
  have t0 : ((0 : Int) != 0) = false := by decide
  go_wp2_with fail
  go_loopw [8, 16] (fun _ i wr => ∃ k : Nat, k ≤ s.l.length ∧ i = .int .i64 (k : Int) ∧ (∀ j n, j < k → s.l[j]? = some n → Or.inR x n) ∧ wr = W1) (fun _ i _ => s.l.length - (intOf i).toNat)
  case atStart => exact ⟨0, Nat.zero_le _, rfl, fun j n hj => absurd hj (Nat.not_lt_zero j), rfl⟩
  case round =>
    obtain ⟨k, hk, rfl, hall, rfl⟩ := hrel
    have HALL := Lib.hid hall; clear hall
    by_cases hlt : k < s.l.length
    · have hki : (k : Int) < (s.l.length : Int) := by omega
      obtain ⟨n, hn⟩ : ∃ n, s.l[k]? = some n := ⟨_, List.getElem?_eq_getElem hlt⟩
      obtain ⟨g, o, ea, hc⟩ := (HS.out.kp (Ev.kp_below B1.out)).at_ hn
      have hnb := HS.out.b_ hn
      unfold Ev.i64B at hnb
      have HN := Lib.hid hn
      have cx : wr.cell? ⟨w.heap.size, 0, none⟩ = some (.slice x.ae x.ev.length x.ce) := Ev.xcell0 R1.out
      rw [ea]
      clear ea hn
      by_cases h1 : n < 0
      · have t1 : decide (n < 0) = true := decide_eq_true h1
        have HNO := Lib.hid (show ¬ Or.inR x n by unfold Or.inR; omega)
        go_wp2_with fail
        go_ret2
        exact Or.AskR.no B1.out HV.out (List.mem_of_getElem? HN.out) HNO.out rfl
      have t1 : decide (n < 0) = false := decide_eq_false h1
      by_cases h2 : (x.ev.length : Int) ≤ n
      · have t2 : decide ((x.ev.length : Int) ≤ n) = true := decide_eq_true h2
        have HNO := Lib.hid (show ¬ Or.inR x n by unfold Or.inR; omega)
        go_wp2_with fail
        go_ret2
        exact Or.AskR.no B1.out HV.out (List.mem_of_getElem? HN.out) HNO.out rfl
      have t2 : decide ((x.ev.length : Int) ≤ n) = false := decide_eq_false h2
      have HYES := Lib.hid (show Or.inR x n by unfold Or.inR; omega)
      go_wp2_with fail
      go_roundw
      case rel =>
        refine ⟨k + 1, by omega, by go_num, fun j m hj hm => ?_, by first | rfl | trivial⟩
        rcases Nat.lt_succ_iff_lt_or_eq.1 hj with h | h
        · exact HALL.out j m h hm
        · subst h; rw [HN.out] at hm; cases hm; exact HYES.out
      case measure => simp [intOf]; omega
    · have hki : ¬ (k : Int) < (s.l.length : Int) := by omega
      have HALL2 := Lib.hid (show ∀ n ∈ s.l, Or.inR x n from fun n hn => by
        obtain ⟨j, hj⟩ := List.mem_iff_getElem?.1 hn
        have := (List.getElem?_eq_some_iff.1 hj).1
        exact HALL.out j n (by omega) hj)
      go_wp2_with (first
        | ((with_reducible show wpList _ _ _ (Oper.mk (some 30) _ _ _ _ _ :: _) _ _); refine wpList_load_row rfl 26 (.tmp 2) rfl w.heap.size (by kernel_rfl) 26 (Ev.xcells x).toArray (0, 0) _ R1.out Try.underlying26 rfl (by kernel_rfl) ?_; unfold Ev.xcells))
      go_ret2
      refine Or.AskR.yes (B1.out.trans (((Below.refl _ _).alloc (Nat.le_refl _) _).mono B1.out.size)) HV.out HALL2.out wr.heap.size rfl ⟨heap_alloc_new _ _, (HIN.out.kp (Ev.kp_below B1.out)).kp (Ev.kp_below ((Below.refl _ _).alloc (Nat.le_refl _) _))⟩
end Go.Proofs.Ytoicmhidmknfiaa
end

section
namespace Go.Proofs.Ytoicmhidmknfiaa
open Go.RowKit
set_option linter.unusedVariables false
set_option linter.unusedSimpArgs false
namespace Or
open Ev
theorem inR_nat {x : X} {n : Int} (h : inR x n) : n.toNat < x.ev.length ∧ (n.toNat : Int) = n := by unfold inR at h; omega
/-- what Rule answers -/
def RuleR (x : X) (i a b : Int) (w : World) (r : Ending) (w' : World) : Prop := Below w.heap.size w w' ∧
  ((check x ≠ 0 ∧ r = .returned (.tuple #[.bool false, .int .i64 (check x)])) ∨ (check x = 0 ∧ (¬ (inR x a ∧ inR x b) ∨ i < 1 ∨ 13 < i) ∧ r = .returned (.tuple #[.bool false, .int .i64 4])) ∨
   (check x = 0 ∧ (inR x a ∧ inR x b) ∧ (1 ≤ i ∧ i ≤ 13) ∧ r = .returned (.tuple #[.bool (kept x a.toNat b.toNat && R x i.toNat a.toNat b.toNat), .int .i64 0])))
/-- what Paired answers -/
def pairsWith (x : X) (b : Nat) : Nat → Nat → Option Nat
  | 0, _ => none
  | n + 1, a => if (kept x a b && R x 8 a b) = true then some a else pairsWith x b n (a + 1)
def pairOf (x : X) (b : Nat) : Option Nat := pairsWith x b b 0
def PairR (x : X) (b : Int) (w : World) (r : Ending) (w' : World) : Prop := Below w.heap.size w w' ∧
  (((check x ≠ 0 ∨ ¬ inR x b) ∧ r = .returned (.tuple #[.int .i64 0, .bool false])) ∨
   (check x = 0 ∧ inR x b ∧ r = .returned (.tuple (match pairOf x b.toNat with | none => #[.int .i64 0, .bool false] | some a => #[.int .i64 (a : Int), .bool true]))))
theorem ints2 {w : World} {g : Nat} {t : TypeId} {a b : Int} (h : w.heap[g]? = some (.cells #[.int .i64 a, .int .i64 b] t (0, 0))) (ha : i64B a) (hb : i64B b) : IntsIn w ⟨some ⟨g, 0, none⟩, 2, [a, b]⟩ :=
  ints_of_block (l := [a, b]) h (fun v hv => by rcases List.mem_cons.1 hv with rfl | hv; exact ha; rw [List.mem_singleton.1 hv]; exact hb) (by simp)
theorem ints1 {w : World} {g : Nat} {t : TypeId} {a : Int} (h : w.heap[g]? = some (.cells #[.int .i64 a] t (0, 0))) (ha : i64B a) : IntsIn w ⟨some ⟨g, 0, none⟩, 1, [a]⟩ :=
  ints_of_block (l := [a]) h (fun v hv => by rw [List.mem_singleton.1 hv]; exact ha) (by simp)
end Or
set_option maxRecDepth 100000 in
set_option maxHeartbeats 8000000 in
theorem orule_any (x : Ev.X) (i a b : Int) (hab : Ev.i64B a) (hbb : Ev.i64B b) (w : World) (hin : Ev.XIn w x) :
    Calls Try.prog 25 #[.agg (Ev.xcells x).toArray, .int .i64 i, .int .i64 a, .int .i64 b] w (Or.RuleR x i a b w) := by
  obtain ⟨B, hB⟩ : ∃ B, B = w.alloc (.cells (Ev.xcells x).toArray 26) := ⟨_, rfl⟩
  have HB := Lib.hid hB
  have RX := Lib.hid (show B.heap[w.heap.size]? = some (.cells (Ev.xcells x).toArray 26 (0, 0)) by rw [hB]; exact heap_alloc_new _ _)
  have B0 := Lib.hid (show Below w.heap.size w B by rw [hB]; exact (Below.refl w.heap.size w).alloc (Nat.le_refl _) _)
  obtain ⟨C, hC⟩ : ∃ C, C = B.alloc (.cells #[.int .i64 a, .int .i64 b] 3) := ⟨_, rfl⟩
  have HC := Lib.hid hC
  have C0 := Lib.hid (show Below B.heap.size B C by rw [hC]; exact (Below.refl _ _).alloc (Nat.le_refl _) _)
  have HNS := Lib.hid (show Ev.IntsIn C ⟨some ⟨B.heap.size, 0, none⟩, 2, [a, b]⟩ from Or.ints2 (by rw [hC]; exact heap_alloc_new _ _) hab hbb)
  have HIN := Lib.hid hin
  have BC := Lib.hid (B0.out.trans (C0.out.mono B0.out.size))
  have hle := hin.ev.le; have hmax := hin.ev.max
  clear hB hC hin
  go_enter Try.func25, Try.ntmps25
  go_wp2_with (first
    | ((with_reducible show wpList _ _ _ (Oper.mk (some 13) _ _ _ _ _ :: _) _ _); (try rw [show w.alloc (Obj.cells (Ev.xcells x).toArray 26) = B from HB.out.symm]); refine wpList_load_row rfl 26 (.tmp 4) rfl w.heap.size (by kernel_rfl) 26 (Ev.xcells x).toArray (0, 0) _ RX.out Try.underlying26 rfl (by kernel_rfl) ?_))
  rw [show B.alloc (Obj.cells #[.int .i64 a, .int .i64 b] 3) = C from HC.out.symm]
  refine (ask_any x ⟨some ⟨B.heap.size, 0, none⟩, 2, [a, b]⟩ C (HIN.out.kp (Ev.kp_below BC.out)) HNS.out).mono ?_
  rintro r W1 ⟨hb1, (⟨h1, rfl⟩ | ⟨h1, h2, rfl⟩ | ⟨h1, h2, q, rfl, hq⟩)⟩
  · have B1 := Lib.hid (BC.out.trans (hb1.mono BC.out.size)); have H1 := Lib.hid h1
    have t0 : (Ev.check x != 0) = true := by simpa using h1
    clear h1 hb1
    go_wp2_with fail
    go_ret2
    exact ⟨B1.out, .inl ⟨H1.out, rfl⟩⟩
  · have B1 := Lib.hid (BC.out.trans (hb1.mono BC.out.size)); have H1 := Lib.hid h1
    have HNO := Lib.hid (show ¬ (Or.inR x a ∧ Or.inR x b) from fun hh => by
      obtain ⟨n, hn, hno⟩ := h2
      rcases List.mem_cons.1 hn with rfl | hn
      · exact hno hh.1
      · rw [List.mem_singleton.1 hn] at hno; exact hno hh.2)
    clear h1 h2 hb1
    go_wp2_with fail
    go_ret2
    exact ⟨B1.out, .inr (.inl ⟨H1.out, .inl HNO.out, rfl⟩)⟩
  have B1 := Lib.hid (BC.out.trans (hb1.mono BC.out.size)); have H1 := Lib.hid h1; have HQ := Lib.hid hq
  have HA := Lib.hid (h2 a (List.mem_cons_self)); have HBB := Lib.hid (h2 b (List.mem_cons_of_mem _ (List.mem_cons_self)))
  clear h1 h2 hb1 hq
  by_cases l1 : i < 1
  · have t1 : decide (i < 1) = true := decide_eq_true l1
    have L1 := Lib.hid l1
    clear l1
    go_wp2_with fail
    go_ret2
    exact ⟨B1.out, .inr (.inl ⟨H1.out, .inr (.inl L1.out), rfl⟩)⟩
  have t1 : decide (i < 1) = false := decide_eq_false l1
  by_cases l2 : 13 < i
  · have t2 : decide (13 < i) = true := decide_eq_true l2
    have L1 := Lib.hid l2
    clear l1 l2
    go_wp2_with fail
    go_ret2
    exact ⟨B1.out, .inr (.inl ⟨H1.out, .inr (.inr L1.out), rfl⟩)⟩
  have t2 : decide (13 < i) = false := decide_eq_false l2
  have HI := Lib.hid (show 1 ≤ i ∧ i ≤ 13 by omega)
  have NI := Lib.hid (show ((i.toNat : Nat) : Int) = i ∧ 1 ≤ i.toNat ∧ i.toNat ≤ 13 by omega)
  have NA := Lib.hid (Or.inR_nat HA.out); have NB := Lib.hid (Or.inR_nat HBB.out)
  have HH := Lib.hid (holds_any x q i.toNat a.toNat b.toNat NA.out.1 NB.out.1 (check_from H1.out) NI.out.2.1 NI.out.2.2 W1 HQ.out)
  have hh := HH.out
  rw [NI.out.1, NA.out.2, NB.out.2] at hh
  have HH := Lib.hid hh
  obtain ⟨v, hv⟩ : ∃ v, (Or.kept x a.toNat b.toNat && Or.R x i.toNat a.toNat b.toNat) = v := ⟨_, rfl⟩
  have HV := Lib.hid hv
  clear l1 l2 hh hv
  go_wp2_with fail
  refine HH.out.mono ?_
  rw [HV.out]
  rintro r W2 ⟨rfl, hb2⟩
  have B2 := Lib.hid (B1.out.trans (hb2.mono B1.out.size)); clear hb2
  go_wp2_with fail
  go_ret2
  exact ⟨B2.out, .inr (.inr ⟨H1.out, ⟨HA.out, HBB.out⟩, HI.out, by rw [HV.out]; rfl⟩)⟩
theorem Or.pairs_zero (x : Ev.X) (b a : Nat) : Or.pairsWith x b 0 a = none := rfl
theorem Or.pairs_succ (x : Ev.X) (b n a : Nat) : Or.pairsWith x b (n + 1) a = if (Or.kept x a b && Or.R x 8 a b) = true then some a else Or.pairsWith x b n (a + 1) := rfl
set_option maxRecDepth 100000 in
set_option maxHeartbeats 8000000 in
theorem opaired_any (x : Ev.X) (b : Int) (hbb : Ev.i64B b) (w : World) (hin : Ev.XIn w x) :
    Calls Try.prog 26 #[.agg (Ev.xcells x).toArray, .int .i64 b] w (Or.PairR x b w) := by
  obtain ⟨B, hB⟩ : ∃ B, B = w.alloc (.cells (Ev.xcells x).toArray 26) := ⟨_, rfl⟩
  have HB := Lib.hid hB
  have RX := Lib.hid (show B.heap[w.heap.size]? = some (.cells (Ev.xcells x).toArray 26 (0, 0)) by rw [hB]; exact heap_alloc_new _ _)
  have B0 := Lib.hid (show Below w.heap.size w B by rw [hB]; exact (Below.refl w.heap.size w).alloc (Nat.le_refl _) _)
  obtain ⟨C, hC⟩ : ∃ C, C = B.alloc (.cells #[.int .i64 b] 3) := ⟨_, rfl⟩
  have HC := Lib.hid hC
  have C0 := Lib.hid (show Below B.heap.size B C by rw [hC]; exact (Below.refl _ _).alloc (Nat.le_refl _) _)
  have HNS := Lib.hid (show Ev.IntsIn C ⟨some ⟨B.heap.size, 0, none⟩, 1, [b]⟩ from Or.ints1 (by rw [hC]; exact heap_alloc_new _ _) hbb)
  have HIN := Lib.hid hin
  have BC := Lib.hid (B0.out.trans (C0.out.mono B0.out.size))
  have hle := hin.ev.le; have hmax := hin.ev.max
  clear hB hC hin
  go_enter Try.func26, Try.ntmps26
  go_wp2_with (first
    | ((with_reducible show wpList _ _ _ (Oper.mk (some 10) _ _ _ _ _ :: _) _ _); (try rw [show w.alloc (Obj.cells (Ev.xcells x).toArray 26) = B from HB.out.symm]); refine wpList_load_row rfl 26 (.tmp 2) rfl w.heap.size (by kernel_rfl) 26 (Ev.xcells x).toArray (0, 0) _ RX.out Try.underlying26 rfl (by kernel_rfl) ?_))
  rw [show B.alloc (Obj.cells #[.int .i64 b] 3) = C from HC.out.symm]
  refine (ask_any x ⟨some ⟨B.heap.size, 0, none⟩, 1, [b]⟩ C (HIN.out.kp (Ev.kp_below BC.out)) HNS.out).mono ?_
  rintro r W1 ⟨hb1, (⟨h1, rfl⟩ | ⟨h1, h2, rfl⟩ | ⟨h1, h2, q, rfl, hq⟩)⟩
  · have B1 := Lib.hid (BC.out.trans (hb1.mono BC.out.size)); have H1 := Lib.hid h1
    have t0 : (Ev.check x != 0) = true := by simpa using h1
    clear h1 hb1
    go_wp2_with fail
    go_ret2
    exact ⟨B1.out, .inl ⟨.inl H1.out, rfl⟩⟩
  · have B1 := Lib.hid (BC.out.trans (hb1.mono BC.out.size)); have H1 := Lib.hid h1
    have HNO := Lib.hid (show ¬ Or.inR x b from fun hh => by
      obtain ⟨n, hn, hno⟩ := h2
      rw [List.mem_singleton.1 hn] at hno; exact hno hh)
    clear h1 h2 hb1
    go_wp2_with fail
    go_ret2
    exact ⟨B1.out, .inl ⟨.inr HNO.out, rfl⟩⟩
  have B1 := Lib.hid (BC.out.trans (hb1.mono BC.out.size)); have H1 := Lib.hid h1; have HQ := Lib.hid hq
  have HBB := Lib.hid (h2 b (List.mem_cons_self))
  obtain ⟨nb, hnb⟩ : ∃ nb : Nat, nb = b.toNat := ⟨_, rfl⟩
  have NB := Lib.hid (show nb < x.ev.length ∧ (nb : Int) = b ∧ b.toNat = nb by have := Or.inR_nat HBB.out; omega)
  have hnl := NB.out.1
  clear h1 h2 hb1 hq hnb
  rw [← NB.out.2.1]
  go_wp2_with fail
  go_loopw [8, 19] (fun _ i wr => ∃ a : Nat, a ≤ nb ∧ i = .int .i64 (a : Int) ∧ Or.pairOf x nb = Or.pairsWith x nb (nb - a) a ∧ Below W1.heap.size W1 wr) (fun _ i _ => nb - (intOf i).toNat)
  case atStart => exact ⟨0, Nat.zero_le _, rfl, rfl, Below.refl _ _⟩
  case round =>
    obtain ⟨a, ha, rfl, hgo, hbr⟩ := hrel
    have HGO := Lib.hid hgo; have HBR := Lib.hid hbr
    clear hgo hbr
    by_cases hlt : a < nb
    · have hai : (a : Int) < (nb : Int) := by omega
      obtain ⟨v, hv⟩ : ∃ v, (Or.kept x a nb && Or.R x 8 a nb) = v := ⟨_, rfl⟩
      have HV := Lib.hid hv
      have HG2 := Lib.hid (show Or.pairOf x nb = if v = true then some a else Or.pairsWith x nb (nb - (a + 1)) (a + 1) by
        rw [HGO.out, show nb - a = nb - (a + 1) + 1 by omega, Or.pairs_succ, hv])
      clear hv
      go_wp2_with fail
      refine (holds_is HV.out q (by omega) NB.out.1 (check_from H1.out) (by decide) (by decide) _ (HQ.out.kp HBR.out)).mono ?_
      rintro r W2 ⟨rfl, hb2⟩
      have HB2 := Lib.hid (HBR.out.trans (hb2.mono HBR.out.size)); clear hb2
      cases v
      · have HG3 := Lib.hid (show Or.pairOf x nb = Or.pairsWith x nb (nb - (a + 1)) (a + 1) by rw [HG2.out]; rfl)
        go_wp2_with fail
        go_roundw
        case rel => exact ⟨a + 1, by omega, by go_num, HG3.out, HB2.out⟩
        case measure => simp [intOf]; omega
      · have HG3 := Lib.hid (show Or.pairOf x nb = some a by rw [HG2.out]; rfl)
        go_wp2_with fail
        go_ret2
        exact ⟨B1.out.trans (HB2.out.mono B1.out.size), .inr ⟨H1.out, HBB.out, by rw [NB.out.2.2, HG3.out]; rfl⟩⟩
    · have hai : ¬ (a : Int) < (nb : Int) := by omega
      have HG3 := Lib.hid (show Or.pairOf x nb = none by rw [HGO.out, show nb - a = 0 by omega]; rfl)
      go_wp2_with fail
      go_ret2
      exact ⟨B1.out.trans (HBR.out.mono B1.out.size), .inr ⟨H1.out, HBB.out, by rw [NB.out.2.2, HG3.out]; rfl⟩⟩
end Go.Proofs.Ytoicmhidmknfiaa
end

section
namespace Go.Og
open Go.RowKit
/-- marks of ranges over functions that have ended -/
def marks (Ds : List Nat) : List Deferred := Ds.map fun D => { target := .collected D, args := #[] }
theorem leaves_marks {F : Fence} {n : Nat} {P : Program} {fn : Func} {tmps : Array Value} {R : Ending → World → Prop} : ∀ (Ds : List Nat) (W : World), Ds.Nodup → (∀ D ∈ Ds, W.heap[D]? = some (.deferred (some []))) →
    (∀ W', W'.os = W.os → W'.tape = W.tape → W'.output = W.output → W'.heap.size = W.heap.size → (∀ k, k ∉ Ds → W'.heap[k]? = W.heap[k]?) → ∃ v, (results fn tmps).run P W' = .ok v W' ∧ R (.returned v) W') → LeavesInM F n P fn tmps R (marks Ds) .returning W
  | [], W, _, _, h => h W rfl rfl rfl rfl (fun _ _ => rfl)
  | D :: Ds, W, hn, hd, h => by
    refine ⟨by simp, .inl ⟨_, _, rfl, run_takeDeferred (hd D List.mem_cons_self), ?_⟩⟩
    refine leaves_marks Ds (W.putObj D (.deferred none)) (List.nodup_cons.1 hn).2 (fun E hE => ?_) (fun W' h1 h2 h3 h4 h5 => ?_)
    · rw [World.putObj_heap_other (fun (e : E = D) => (List.nodup_cons.1 hn).1 (by rw [← e]; exact hE))]
      exact hd E (List.mem_cons_of_mem _ hE)
    · refine h W' h1 h2 h3 (by rw [h4]; simp) (fun k hk => ?_)
      rw [h5 k (fun hm => hk (List.mem_cons_of_mem _ hm)), World.putObj_heap_other (fun (e : k = D) => hk (by rw [e]; exact List.mem_cons_self))]
end Go.Og
namespace Go.Proofs.Ytoicmhidmknfiaa
open Go.RowKit
set_option linter.unusedVariables false
set_option linter.unusedSimpArgs false
attribute [local go_sem] or_store_func
attribute [local go_sem] Oper.semAt_some
namespace Or
open Ev
/-- a slice that grows, in its box -/
structure Acc (w : World) (B : Nat) (T E : TypeId) (sz k : Nat) (xs : List Value) (W : World) : Prop where
  bel : Below w.heap.size w W
  out : ∃ v, Boxed W B T v ∧ W.ownsRow w.heap.size E sz v k xs
variable {w : World} {B : Nat} {T E : TypeId} {sz k : Nat} {xs : List Value} {W : World}
theorem Acc.kp (h : Acc w B T E sz k xs W) {W' : World} (hb : Below W.heap.size W W') : Acc w B T E sz k xs W' := by
  obtain ⟨v, h1, h2⟩ := h.out
  exact ⟨h.bel.trans (hb.mono h.bel.size), v, (hb.block B h1.lt).trans h1, Ev.row_below h2 hb⟩
theorem Acc.putObj (h : Acc w B T E sz k xs W) {l : Nat} {o : Obj} (o' : Obj) (hl : w.heap.size ≤ l) (ho : W.heap[l]? = some o) (hc : o.isCells = false) : Acc w B T E sz k xs (W.putObj l o') := by
  obtain ⟨v, h1, h2⟩ := h.out
  have hk : ∀ (j : Nat) (x : Obj), W.heap[j]? = some x → x.isCells = true → (W.putObj l o').heap[j]? = some x := fun j x hx hxc => (World.putObj_heap_other (fun e => by subst e; rw [ho] at hx; cases hx; rw [hc] at hxc; cases hxc)).trans hx
  exact ⟨below_putObj h.bel hl, v, hk B _ h1 rfl, ⟨h2.1, h2.2.imp id fun ⟨g, cap, cur, e1, e2, e3, r⟩ => ⟨g, cap, cur, e1, e2, hk g _ e3 rfl, r⟩⟩⟩
theorem Acc.form (h : Acc w B T E sz k xs W) : ∃ a c, Boxed W B T (.slice a k c) ∧ W.ownsRow w.heap.size E sz (.slice a k c) k xs := by
  obtain ⟨v, h1, h2⟩ := h.out
  rcases h2.2 with ⟨rfl, rfl⟩ | ⟨g, cap, cur, rfl, r⟩
  · exact ⟨_, _, h1, h2⟩
  · exact ⟨_, _, h1, h2⟩
theorem box_putObj {p l : Nat} {t : TypeId} {v : Value} (h : Boxed W p t v) {o : Obj} (o' : Obj) (ho : W.heap[l]? = some o) (hc : o.isCells = false) : Boxed (W.putObj l o') p t v :=
  (World.putObj_heap_other (fun e => by subst e; rw [show W.heap[p]? = _ from h] at ho; cases ho; cases hc)).trans h
theorem row_succ {base : Nat} {v : Value} (h : W.ownsRow base E sz v (k + 1) xs) : ∃ g c, v = .slice (some ⟨g, 0, none⟩) (k + 1) c := by
  rcases h.2 with ⟨_, h⟩ | ⟨g, cap, cur, rfl, _⟩
  · cases h
  · exact ⟨_, _, rfl⟩
end Or
set_option maxRecDepth 100000 in
theorem or_info_int : ∃ i, Try.prog.info? 3 = some i ∧ i.zero = some (.int .i64 0) ∧ i.size = 1 ∧ i.bytes = 8 := ⟨_, rfl, by kernel_rfl, by kernel_rfl, by kernel_rfl⟩
def Or.iv (n : Nat) : Value := .int .i64 (n : Int)
set_option maxRecDepth 100000 in
set_option maxHeartbeats 8000000 in
theorem appendSeq_any (G : FuncId) (caps : Array Value) (R : World → Prop) (ns : List Nat) (hns : ns.length ≤ 4096) (w : World) (hE : ∀ args w, (callFunc G args).run Try.prog w = .ok (.enter G args) w) (hR : ∀ W, Below w.heap.size w W → R W)
    (hit : Og.IterL Fence.wide 4 Try.prog G caps R (fun k : Nat => #[.int .i64 (k : Int)]) ns) :
    Calls Try.prog 71 #[.slice none 0 0, .func (.func G) #[] caps] w fun r w' => ∃ v, r = .returned v ∧ w'.ownsRow w.heap.size 3 1 v ns.length (ns.map Or.iv) ∧ Below w.heap.size w w' := by
  obtain ⟨W0, hW0⟩ : ∃ W0, w.alloc (.cells #[.slice none 0 0] 23) = W0 := ⟨_, rfl⟩
  have hsz : W0.heap.size = w.heap.size + 1 := by rw [← hW0]; simp
  have hA : Or.Acc w w.heap.size 23 3 1 0 [] W0 := by
    rw [← hW0]; exact ⟨(Below.refl _ w).alloc (Nat.le_refl _) _, _, Boxed.new w _ _, World.ownsRow_nil _ _ _ _⟩
  have HA := Lib.hid hA; have HSZ := Lib.hid hsz; have HW0 := Lib.hid hW0; have HR := Lib.hid hR
  have HIT := Lib.hid hit; have HE := Lib.hid hE
  obtain ⟨i0, hi, hz0, hz1, hz2⟩ := or_info_int
  have HI := Lib.hid hi; have HZ0 := Lib.hid hz0; have HZ1 := Lib.hid hz1; have HZ2 := Lib.hid hz2
  clear hA hsz hW0 hR hit hE hi hz0 hz1 hz2
  refine (callsIn_wide (n := 5)).1 ?_
  refine callsIn_of_wp_marks Try.func71 rfl trivial ?_ rfl
  simp only [Try.ntmps71, List.size_toArray, List.length_cons, List.length_nil, Nat.reduceAdd, Nat.reduceSub, Array.replicate_succ, Array.replicate_zero, List.push_toArray, List.append_toArray, List.nil_append, List.cons_append]
  refine wpIn_wide.2 ?_
  go_wp2_with fail
  rw [HW0.out]
  clear HW0
  refine (wpIn_wide (n := 5)).1 ?_
  refine Og.wpIn_rangeFunc_list (α := Nat) rfl (by decide) (gf := G) (lb := caps) rfl trivial HE.out
    HIT.out (fun _ => rfl)
    (fun k W => Or.Acc w w.heap.size 23 3 1 k ((ns.take k).map Or.iv) W) (fun c W => False)
    (fun k A A' h hb => h.kp hb) (fun k A l o o' h hl ho hc => h.putObj o' (by have := HSZ.out; omega) ho hc) (fun c A l o o' h hl ho hc => h)
    (fun k A h => HR.out A h.bel) HA.out
    (fun m => { tmps := #[.slice none 0 0, .func (.func G) #[] caps, .pointer (some ⟨w.heap.size, 0, none⟩), undef, .slice none 0 0, .int .i64 (m : Int), .func (.func G) #[] caps, .int .i64 (m : Int), undef, undef, undef, undef, undef], defers := [] })
    ?assign ?body ?done ?stop
  case assign =>
    rintro l m W K hK
    have HK := Lib.hid hK; clear hK
    gi_wp2_with fail
    exact HK.out
  case body =>
    rintro l k m W hm hA
    obtain ⟨ad, cc, hv, hr⟩ := hA.form
    have hkl := (List.getElem?_eq_some_iff.1 hm).1
    have c2 := hv.cell
    have HV := Lib.hid hv; have HRR := Lib.hid hr; have HB := Lib.hid hA.bel
    have HT := Lib.hid (show (ns.take (k + 1)).map Or.iv = (ns.take k).map Or.iv ++ [.int .i64 (m : Int)] by
      rw [List.take_add_one, hm]; simp [Or.iv])
    have hk31 : k + 1 ≤ 4096 := by omega
    clear hm hA hv hr
    gi_wp2_with (first
      | ((with_reducible show wpListIn _ _ _ _ _ (Oper.mk (some 11) _ _ _ _ _ :: _) _ _); refine wpListIn_append_own (W.alloc (.cells #[.int .i64 (m : Int)] 3)) rfl (.tmp 8) (.tmp 10) 23 rfl w.heap.size 3 i0 (.int .i64 0) 1 8 Try.underlying23 HI.out HZ0.out HZ1.out HZ2.out rfl (by decide) _ k _ rfl (HRR.out.alloc _) ⟨W.heap.size, 0, none⟩ 1 1 [.int .i64 (m : Int)] rfl rfl (World.news_of_block (heap_alloc_new _ _)) (by simp [Value.oneCell']) (by unfold maxLen; omega) (by omega) (by have := HB.out.size; simp only [World.size_alloc]; omega) ?_
         intro v' w3 hown hgrow _
         obtain ⟨gb, cp', rfl⟩ := Or.row_succ hown
         obtain ⟨f1, f2, f3, f4, f5⟩ := Boxed.appended HV.out (by decide) HRR.out HB.out.size (Nat.le_refl _) hown hgrow
         have hf1 := f1.cell; have hf2 := f1.frozen
         have F4 := Lib.hid f4; have F5 := Lib.hid (HB.out.trans f5)
         have FA := Lib.hid (And.intro f2 f3)
         clear f1 f2 f3 f4 f5 hown hgrow c2))
    refine ⟨F4.out, F5.out, _, FA.out.1, ?_⟩
    rw [HT.out]; exact FA.out.2
  case done =>
    rintro D W hD hA hK
    obtain ⟨ad, cc, hv, hr⟩ := hA.form
    have c2 := hv.cell
    have HRR := Lib.hid hr; have HB := Lib.hid hA.bel; have HK := Lib.hid hK; have HDD := Lib.hid hD; have HAA := Lib.hid hA
    clear hv hr hA hK hD
    go_wp2_with fail
    refine ⟨by simp, .inl ⟨_, _, rfl, run_takeDeferred HK.out, ?_⟩⟩
    refine ⟨_, results_tmp (fn := Try.f71) rfl _ _ _, ⟨_, rfl, ?_, Or.below_putObj HB.out (by have := HDD.out; have := HSZ.out; omega)⟩⟩
    have hr := HRR.out
    rw [List.take_length] at hr
    have hk : ∀ (j : Nat) (x : Obj), W.heap[j]? = some x → x.isCells = true → (W.putObj D (.deferred none)).heap[j]? = some x := fun j x hx hxc => (World.putObj_heap_other (fun e => by subst e; rw [HK.out] at hx; cases hx; cases hxc)).trans hx
    exact ⟨hr.1, hr.2.imp id fun ⟨g, cap, cur, e1, e2, e3, r⟩ => ⟨g, cap, cur, e1, e2, hk g _ e3 rfl, r⟩⟩
  case stop =>
    rintro D c W hD h hK
    exact h.elim
theorem collect_any (G : FuncId) (caps : Array Value) (R : World → Prop) (ns : List Nat) (hns : ns.length ≤ 4096) (w : World) (hE : ∀ args w, (callFunc G args).run Try.prog w = .ok (.enter G args) w) (hR : ∀ W, Below w.heap.size w W → R W)
    (hit : Og.IterL Fence.wide 4 Try.prog G caps R (fun k : Nat => #[.int .i64 (k : Int)]) ns) :
    Calls Try.prog 52 #[.func (.func G) #[] caps] w fun r w' => ∃ v, r = .returned v ∧ w'.ownsRow w.heap.size 3 1 v ns.length (ns.map Or.iv) ∧ Below w.heap.size w w' := by
  have HC := Lib.hid (appendSeq_any G caps R ns hns w hE hR hit)
  clear hE hR hit
  go_enter Try.func52, Try.ntmps52
  go_wp2_with fail
  refine HC.out.mono ?_
  rintro r W1 ⟨v, rfl, h1, h2⟩
  have H1 := Lib.hid h1; have H2 := Lib.hid h2
  clear h1 h2
  go_wp2_with fail
  go_ret
  exact ⟨_, rfl, H1.out, H2.out⟩
end Go.Proofs.Ytoicmhidmknfiaa
end

section
namespace Go.Proofs.Ytoicmhidmknfiaa
open Go.RowKit
set_option linter.unusedVariables false
set_option linter.unusedSimpArgs false
namespace Or
open Ev
def ints (ns : List Nat) : List Int := ns.map fun (n : Nat) => (n : Int)
theorem ints_of_row {w : World} {base : Nat} {v : Value} {ns : List Nat} (h : w.ownsRow base 3 1 v ns.length (ns.map iv)) (hb : ∀ n ∈ ns, n ≤ 4096) : ∃ a c, v = .slice a (ints ns).length c ∧ IntsIn w ⟨a, c, ints ns⟩ := by
  have hb2 : ∀ v ∈ ints ns, i64B v := fun v hv => by
    obtain ⟨n, hn, rfl⟩ := List.mem_map.1 hv
    have := hb n hn
    unfold i64B; omega
  have hlen : (ints ns).length = ns.length := by simp [ints]
  rcases h.2 with ⟨rfl, hn⟩ | ⟨g, cap, cur, rfl, _, hh, hnc, hcm, _, ht⟩
  · refine ⟨none, 0, by rw [hlen, hn], fun hp => ?_, ?_, by simp, hb2⟩
    · have hp : 0 < (ints ns).length := hp
      omega
    · show (ints ns).length ≤ 0; omega
  · refine ⟨some ⟨g, 0, none⟩, cap, by rw [hlen], fun _ => ⟨g, 0, rfl, fun j v hv => ?_⟩, by show (ints ns).length ≤ cap; omega, by unfold maxLen at hcm; exact hcm, hb2⟩
    have hv : (ints ns)[j]? = some v := hv
    have hjl : j < ns.length := by have := (List.getElem?_eq_some_iff.1 hv).1; omega
    have h1 : (ns.map iv)[j]? = some (.int .i64 v) := by
      unfold ints at hv
      rw [List.getElem?_map] at hv ⊢
      cases hj : ns[j]? with
      | none => rw [hj] at hv; cases hv
      | some n => rw [hj] at hv; cases hv; rfl
    rw [← ht, List.getElem?_take] at h1
    split at h1
    · rw [cell_of_row w g _ cur _ (0, 0) hh, Nat.zero_add]; simpa using h1
    · cases h1
theorem holdTo_le (x : X) (a b : Nat) : ∀ n, ∀ i ∈ holdTo x a b n, i < n := fun n i hi => List.mem_range.1 (List.mem_filter.1 hi).1
theorem hold_le (x : X) (a b : Nat) : ∀ i ∈ hold x a b, 1 ≤ i ∧ i ≤ 13 := by
  intro i hi
  unfold hold at hi
  split at hi
  · have h1 := holdTo_le x a b 14 i hi
    have h2 := (List.mem_filter.1 hi).2
    simp only [Bool.and_eq_true, decide_eq_true_eq] at h2
    omega
  · cases hi
theorem hold_len (x : X) (a b : Nat) : (hold x a b).length ≤ 14 := by
  unfold hold
  split
  · unfold holdTo
    have := List.length_filter_le (fun i => decide (1 ≤ i) && R x i a b) (List.range 14)
    rwa [List.length_range] at this
  · simp
/-- what Rules answers -/
def RulesR (x : X) (a b : Int) (w : World) (r : Ending) (w' : World) : Prop := Below w.heap.size w w' ∧
  ((check x ≠ 0 ∧ r = .returned (.tuple #[.slice none 0 0, .int .i64 (check x)])) ∨ (check x = 0 ∧ ¬ (inR x a ∧ inR x b) ∧ r = .returned (.tuple #[.slice none 0 0, .int .i64 4])) ∨
   (check x = 0 ∧ (inR x a ∧ inR x b) ∧ ∃ ad c, r = .returned (.tuple #[.slice ad (ints (hold x a.toNat b.toNat)).length c, .int .i64 0]) ∧ IntsIn w' ⟨ad, c, ints (hold x a.toNat b.toNat)⟩))
end Or
set_option maxRecDepth 100000 in
set_option maxHeartbeats 8000000 in
theorem orules_any (x : Ev.X) (a b : Int) (hab : Ev.i64B a) (hbb : Ev.i64B b) (w : World) (hin : Ev.XIn w x) :
    Calls Try.prog 23 #[.agg (Ev.xcells x).toArray, .int .i64 a, .int .i64 b] w (Or.RulesR x a b w) := by
  obtain ⟨B, hB⟩ : ∃ B, B = w.alloc (.cells (Ev.xcells x).toArray 26) := ⟨_, rfl⟩
  have HB := Lib.hid hB
  have RX := Lib.hid (show B.heap[w.heap.size]? = some (.cells (Ev.xcells x).toArray 26 (0, 0)) by rw [hB]; exact heap_alloc_new _ _)
  have B0 := Lib.hid (show Below w.heap.size w B by rw [hB]; exact (Below.refl w.heap.size w).alloc (Nat.le_refl _) _)
  obtain ⟨C, hC⟩ : ∃ C, C = B.alloc (.cells #[.int .i64 a, .int .i64 b] 3) := ⟨_, rfl⟩
  have HC := Lib.hid hC
  have C0 := Lib.hid (show Below B.heap.size B C by rw [hC]; exact (Below.refl _ _).alloc (Nat.le_refl _) _)
  have HNS := Lib.hid (show Ev.IntsIn C ⟨some ⟨B.heap.size, 0, none⟩, 2, [a, b]⟩ from Or.ints2 (by rw [hC]; exact heap_alloc_new _ _) hab hbb)
  have HIN := Lib.hid hin
  have BC := Lib.hid (B0.out.trans (C0.out.mono B0.out.size))
  have hle := hin.ev.le; have hmax := hin.ev.max
  clear hB hC hin
  go_enter Try.func23, Try.ntmps23
  go_wp2_with (first
    | ((with_reducible show wpList _ _ _ (Oper.mk (some 11) _ _ _ _ _ :: _) _ _); (try rw [show w.alloc (Obj.cells (Ev.xcells x).toArray 26) = B from HB.out.symm]); refine wpList_load_row rfl 26 (.tmp 3) rfl w.heap.size (by kernel_rfl) 26 (Ev.xcells x).toArray (0, 0) _ RX.out Try.underlying26 rfl (by kernel_rfl) ?_))
  rw [show B.alloc (Obj.cells #[.int .i64 a, .int .i64 b] 3) = C from HC.out.symm]
  refine (ask_any x ⟨some ⟨B.heap.size, 0, none⟩, 2, [a, b]⟩ C (HIN.out.kp (Ev.kp_below BC.out)) HNS.out).mono ?_
  rintro r W1 ⟨hb1, (⟨h1, rfl⟩ | ⟨h1, h2, rfl⟩ | ⟨h1, h2, q, rfl, hq⟩)⟩
  · have B1 := Lib.hid (BC.out.trans (hb1.mono BC.out.size)); have H1 := Lib.hid h1
    have t0 : (Ev.check x != 0) = true := by simpa using h1
    clear h1 hb1
    go_wp2_with fail
    go_ret2
    exact ⟨B1.out, .inl ⟨H1.out, rfl⟩⟩
  · have B1 := Lib.hid (BC.out.trans (hb1.mono BC.out.size)); have H1 := Lib.hid h1
    have HNO := Lib.hid (show ¬ (Or.inR x a ∧ Or.inR x b) from fun hh => by
      obtain ⟨n, hn, hno⟩ := h2
      rcases List.mem_cons.1 hn with rfl | hn
      · exact hno hh.1
      · rw [List.mem_singleton.1 hn] at hno; exact hno hh.2)
    clear h1 h2 hb1
    go_wp2_with fail
    go_ret2
    exact ⟨B1.out, .inr (.inl ⟨H1.out, HNO.out, rfl⟩)⟩
  have B1 := Lib.hid (BC.out.trans (hb1.mono BC.out.size)); have H1 := Lib.hid h1; have HQ := Lib.hid hq
  have HA := Lib.hid (h2 a (List.mem_cons_self)); have HBB := Lib.hid (h2 b (List.mem_cons_of_mem _ (List.mem_cons_self)))
  clear h1 h2 hb1 hq
  have NA := Lib.hid (Or.inR_nat HA.out); have NB := Lib.hid (Or.inR_nat HBB.out)
  obtain ⟨V, hV⟩ : ∃ V, V = ((W1.alloc (.cells #[.pointer (some ⟨q, 0, none⟩)] 72)).alloc (.cells #[.int .i64 a] 3)).alloc (.cells #[.int .i64 b] 3) := ⟨_, rfl⟩
  have BV := Lib.hid (show Below W1.heap.size W1 V by rw [hV]; exact (((Below.refl _ _).alloc (Nat.le_refl _) _).alloc (by simp) _).alloc (by simp; omega) _)
  have HHIN := Lib.hid (show ∀ W, Below V.heap.size V W → Or.Hin x q a.toNat b.toNat W1.heap.size (W1.heap.size + 1) (W1.heap.size + 1 + 1) W from fun W hW => by
    have al : ∀ (y : World) (o : Obj), Below y.heap.size y (y.alloc o) := fun y o => (Below.refl _ _).alloc (Nat.le_refl _) _
    refine ⟨(HQ.out.kp BV.out).kp hW, Or.Box.kp ?_ hW, Or.Box.kp ?_ hW, Or.Box.kp ?_ hW⟩
    · rw [hV]; exact ((Or.box_new _ _ _).kp (al _ _)).kp (al _ _)
    · rw [hV, NA.out.2]; have h := (Or.box_new (W1.alloc (.cells #[.pointer (some ⟨q, 0, none⟩)] 72)) 3 (.int .i64 a)).kp (al _ (.cells #[.int .i64 b] 3)); simp only [World.size_alloc] at h; exact h
    · rw [hV, NB.out.2]; have h := Or.box_new ((W1.alloc (.cells #[.pointer (some ⟨q, 0, none⟩)] 72)).alloc (.cells #[.int .i64 a] 3)) 3 (.int .i64 b); simp only [World.size_alloc] at h; exact h)
  have HVV := Lib.hid hV
  clear hV
  go_wp2_with (go_at_call 44; refine (holding_any _ _ _ _).mono ?_; rintro r w9 ⟨rfl, rfl⟩)
  rw [show ((W1.alloc (Obj.cells #[Value.pointer (some ⟨q, 0, none⟩)] 72)).alloc (Obj.cells #[Value.int .i64 a] 3)).alloc (Obj.cells #[Value.int .i64 b] 3) = V from HVV.out.symm]
  refine (collect_any 67 _ (Or.Hin x q a.toNat b.toNat W1.heap.size (W1.heap.size + 1) (W1.heap.size + 1 + 1)) (Or.hold x a.toNat b.toNat) (by have := Or.hold_len x a.toNat b.toNat; omega) V (enters_of Try.func67 (by kernel_rfl) rfl) HHIN.out (holding_iter 4 (by decide) x q a.toNat b.toNat _ _ _ NA.out.1 NB.out.1 (check_from H1.out))).mono ?_
  rintro r W2 ⟨v, rfl, hr, hb2⟩
  obtain ⟨ad, cc, rfl, hi⟩ := Or.ints_of_row hr (fun n hn => by have := Or.hold_le x a.toNat b.toNat n hn; omega)
  have B2 := Lib.hid (B1.out.trans ((BV.out.trans (hb2.mono BV.out.size)).mono B1.out.size))
  have HII := Lib.hid hi
  clear hr hi hb2
  go_wp2_with fail
  go_ret2
  exact ⟨B2.out, .inr (.inr ⟨H1.out, ⟨HA.out, HBB.out⟩, _, _, rfl, HII.out⟩)⟩
end Go.Proofs.Ytoicmhidmknfiaa
end

section
namespace Go.Proofs.Ytoicmhidmknfiaa
open Go.RowKit
set_option linter.unusedVariables false
set_option linter.unusedSimpArgs false
attribute [local go_sem] or_store_func
attribute [local go_sem] Oper.semAt_some
namespace Or
open Ev
def ppo (x : X) (a b : Nat) : Bool := !(hold x a b).isEmpty
/-- what Ppo answers -/
def PpoR (x : X) (w : World) (r : Ending) (w' : World) : Prop := Below w.heap.size w w' ∧
  ((check x ≠ 0 ∧ r = .returned (.tuple #[.slice none 0 0, .int .i64 (check x)])) ∨
   (check x = 0 ∧ ∃ ad c, r = .returned (.tuple #[.slice ad (pl (ppo x) x.ev.length x.ev.length).length c, .int .i64 0]) ∧ PairsIn w' ad c (pl (ppo x) x.ev.length x.ev.length)))
/-- the marks of ranges that have ended -/
def MarksIn (n0 : Nat) (Ds : List Nat) (W : World) : Prop := Ds.Nodup ∧ ∀ D ∈ Ds, n0 ≤ D ∧ W.heap[D]? = some (.deferred (some []))
theorem MarksIn.kp {n0 : Nat} {Ds : List Nat} {W W' : World} (h : MarksIn n0 Ds W) (hb : Below W.heap.size W W') : MarksIn n0 Ds W' :=
  ⟨h.1, fun D hD => ⟨(h.2 D hD).1, (hb.block D (Array.getElem?_eq_some_iff.1 (h.2 D hD).2).1).trans (h.2 D hD).2⟩⟩
theorem MarksIn.keeps {n0 : Nat} {Ds : List Nat} {W W' : World} (h : MarksIn n0 Ds W) (hk : KeepsOthers W W') : MarksIn n0 Ds W' :=
  ⟨h.1, fun D hD => ⟨(h.2 D hD).1, hk.same _ _ (h.2 D hD).2 rfl⟩⟩
theorem MarksIn.lt {n0 : Nat} {Ds : List Nat} {W : World} (h : MarksIn n0 Ds W) {D : Nat} (hD : D ∈ Ds) : D < W.heap.size := (Array.getElem?_eq_some_iff.1 (h.2 D hD).2).1
theorem MarksIn.putObj {n0 l : Nat} {Ds : List Nat} {W : World} (h : MarksIn n0 Ds W) (o : Obj) (hl : ∀ D ∈ Ds, D < l) : MarksIn n0 Ds (W.putObj l o) :=
  ⟨h.1, fun D hD => ⟨(h.2 D hD).1, (World.putObj_heap_other (by have := hl D hD; omega)).trans (h.2 D hD).2⟩⟩
theorem MarksIn.cons {n0 D : Nat} {Ds : List Nat} {W : World} (h : MarksIn n0 Ds W) (hl : ∀ E ∈ Ds, E < D) (hn : n0 ≤ D) (hd : W.heap[D]? = some (.deferred (some []))) : MarksIn n0 (D :: Ds) W :=
  ⟨List.nodup_cons.2 ⟨fun hm => by have := hl D hm; omega, h.1⟩, fun E hE => by
    rcases List.mem_cons.1 hE with rfl | hE
    · exact ⟨hn, hd⟩
    · exact h.2 E hE⟩
/-- within a round: what a pair is asked of -/
structure Rnd (W1 : World) (Es : List Nat) (x : X) (q k m pk pm c0 c1 c2 : Nat) (L : List (Nat × Nat)) (Y : World) : Prop where
  mrk : MarksIn W1.heap.size Es Y
  bk : Boxed Y pk 3 (.int .i64 (k : Int))
  bm : Boxed Y pm 3 (.int .i64 (m : Int))
  acc : Acc W1 W1.heap.size 33 43 2 L.length (L.flatMap pv) Y
  hin : Hin x q k m c0 c1 c2 Y
theorem kp_putObj {w : World} {l : Nat} {o : Obj} (o' : Obj) (ho : w.heap[l]? = some o) (hc : o.isCells = false) : Kp w (w.putObj l o') := fun p v e => by
  obtain ⟨o2, ho2, hc2⟩ := cells_of_cell e
  exact (World.cell?_of_block (World.putObj_heap_other (fun e2 => by rw [e2, ho] at ho2; cases ho2; rw [hc] at hc2; cases hc2))).trans e
theorem Hin.kp {x : X} {q a b c0 c1 c2 : Nat} {W W' : World} (h : Hin x q a b c0 c1 c2 W) (hb : Below W.heap.size W W') : Hin x q a b c0 c1 c2 W' := ⟨h.as_.kp hb, h.k0.kp hb, h.k1.kp hb, h.k2.kp hb⟩
theorem Hin.putObj {x : X} {q a b c0 c1 c2 l : Nat} {W : World} {o : Obj} (h : Hin x q a b c0 c1 c2 W) (o' : Obj) (ho : W.heap[l]? = some o) (hc : o.isCells = false) : Hin x q a b c0 c1 c2 (W.putObj l o') :=
  ⟨⟨(World.putObj_heap_other (fun e => by subst e; rw [h.as_.row] at ho; cases ho; cases hc)).trans h.as_.row, h.as_.xin.kp (kp_putObj o' ho hc)⟩, box_putObj h.k0 o' ho hc, box_putObj h.k1 o' ho hc, box_putObj h.k2 o' ho hc⟩
theorem Rnd.kp {W1 : World} {Es : List Nat} {x : X} {q k m pk pm c0 c1 c2 : Nat} {L : List (Nat × Nat)} {Y Y' : World} (h : Rnd W1 Es x q k m pk pm c0 c1 c2 L Y) (hb : Below Y.heap.size Y Y') : Rnd W1 Es x q k m pk pm c0 c1 c2 L Y' :=
  ⟨h.mrk.kp hb, (hb.block pk h.bk.lt).trans h.bk, (hb.block pm h.bm.lt).trans h.bm, h.acc.kp hb, h.hin.kp hb⟩
theorem Rnd.putObj {W1 : World} {Es : List Nat} {x : X} {q k m pk pm c0 c1 c2 l : Nat} {L : List (Nat × Nat)} {Y : World} {o : Obj} (h : Rnd W1 Es x q k m pk pm c0 c1 c2 L Y) (o' : Obj) (hl : W1.heap.size ≤ l) (hm : ∀ D ∈ Es, D < l) (ho : Y.heap[l]? = some o) (hc : o.isCells = false) : Rnd W1 Es x q k m pk pm c0 c1 c2 L (Y.putObj l o') :=
  ⟨h.mrk.putObj o' hm, box_putObj h.bk o' ho hc, box_putObj h.bm o' ho hc, h.acc.putObj o' hl ho hc, h.hin.putObj o' ho hc⟩
/-- behind a pair's round -/
structure Nxt (W1 : World) (Es : List Nat) (k pk : Nat) (L : List (Nat × Nat)) (Y : World) : Prop where
  mrk : MarksIn W1.heap.size Es Y
  bk : Boxed Y pk 3 (.int .i64 (k : Int))
  acc : Acc W1 W1.heap.size 33 43 2 L.length (L.flatMap pv) Y
theorem Nxt.putObj {W1 : World} {Es : List Nat} {k pk l : Nat} {L : List (Nat × Nat)} {Y : World} {o : Obj} (h : Nxt W1 Es k pk L Y) (o' : Obj) (hl : W1.heap.size ≤ l) (hm : ∀ D ∈ Es, D < l) (ho : Y.heap[l]? = some o) (hc : o.isCells = false) : Nxt W1 Es k pk L (Y.putObj l o') :=
  ⟨h.mrk.putObj o' hm, box_putObj h.bk o' ho hc, h.acc.putObj o' hl ho hc⟩
end Or
set_option maxRecDepth 100000 in
set_option maxHeartbeats 16000000 in
theorem oppo_any (x : Ev.X) (w : World) (hin : Ev.XIn w x) :
    Calls Try.prog 19 #[.agg (Ev.xcells x).toArray] w (Or.PpoR x w) := by
  obtain ⟨B, hB⟩ : ∃ B, B = w.alloc (.cells (Ev.xcells x).toArray 26) := ⟨_, rfl⟩
  have HB := Lib.hid hB
  have RX := Lib.hid (show B.heap[w.heap.size]? = some (.cells (Ev.xcells x).toArray 26 (0, 0)) by rw [hB]; exact heap_alloc_new _ _)
  have B0 := Lib.hid (show Below w.heap.size w B by rw [hB]; exact (Below.refl w.heap.size w).alloc (Nat.le_refl _) _)
  have HIN := Lib.hid hin
  have hle := hin.ev.le; have hmax := hin.ev.max
  clear hB hin
  refine (callsIn_wide (n := 5)).1 ?_
  refine callsIn_of_wp_marks Try.func19 rfl trivial ?_ rfl
  simp only [Try.ntmps19, List.size_toArray, List.length_cons, List.length_nil, Nat.reduceAdd, Nat.reduceSub, Array.replicate_succ, Array.replicate_zero, List.push_toArray, List.append_toArray, List.nil_append, List.cons_append]
  refine wpIn_wide.2 ?_
  go_wp2_with (first
    | ((with_reducible show wpList _ _ _ (Oper.mk (some 10) _ _ _ _ _ :: _) _ _); (try rw [show w.alloc (Obj.cells (Ev.xcells x).toArray 26) = B from HB.out.symm]); refine wpList_load_row rfl 26 (.tmp 1) rfl w.heap.size (by kernel_rfl) 26 (Ev.xcells x).toArray (0, 0) _ RX.out Try.underlying26 rfl (by kernel_rfl) ?_))
  refine (ask_any x ⟨none, 0, []⟩ B (HIN.out.kp (Ev.kp_below B0.out)) (Ev.ints_none _)).mono ?_
  rintro r W1 ⟨hb1, (⟨h1, rfl⟩ | ⟨h1, h2, rfl⟩ | ⟨h1, h2, q, rfl, hq⟩)⟩
  · have B1 := Lib.hid (B0.out.trans (hb1.mono B0.out.size)); have H1 := Lib.hid h1
    have t0 : (Ev.check x != 0) = true := by simpa using h1
    clear h1 hb1
    go_wp2_with fail
    exact ⟨_, results_tmp2 (fn := Try.f19) rfl _ _ _, B1.out, .inl ⟨H1.out, rfl⟩⟩
  · obtain ⟨n, hn, _⟩ := h2; cases hn
  have B1 := Lib.hid (B0.out.trans (hb1.mono B0.out.size)); have H1 := Lib.hid h1; have HQ := Lib.hid hq
  clear h1 h2 hb1 hq
  obtain ⟨V, hV⟩ : ∃ V, V = W1.alloc (.cells #[.slice none 0 0] 33) := ⟨_, rfl⟩
  have HV := Lib.hid hV
  have BV := Lib.hid (show Below W1.heap.size W1 V by rw [hV]; exact (Below.refl _ _).alloc (Nat.le_refl _) _)
  have HACC := Lib.hid (show Or.Acc W1 W1.heap.size 33 43 2 0 [] V by rw [hV]; exact ⟨(Below.refl _ _).alloc (Nat.le_refl _) _, _, Boxed.new _ _ _, World.ownsRow_nil _ _ _ _⟩)
  have CX := Lib.hid (show ∀ W, Below W1.heap.size W1 W → W.cell? ⟨q, 0, none⟩ = some (.slice x.ae x.ev.length x.ce) from fun W h => (HQ.out.kp h).c0)
  have cx := CX.out V BV.out
  have cx0 := CX.out _ ((Below.refl _ _).alloc (Nat.le_refl _) (.cells #[.slice none 0 0] 33))
  clear hV
  go_wp2_with fail
  have HFL := Lib.hid (check_from H1.out)
  have h64 : x.ev.length ≤ 64 := (Ev.check_order H1.out).2.2
  obtain ⟨i0, hi, hz0, hz1, hz2⟩ := info_pair
  have HI := Lib.hid hi; have HZ0 := Lib.hid hz0; have HZ1 := Lib.hid hz1; have HZ2 := Lib.hid hz2; clear hi hz0 hz1 hz2
  refine wp_loop (fun (a : Act) (W : World) => ∃ (k : Nat) (Ds : List Nat) (c u7 u8 u24 u25 u26 u27 u28 u29 u30 u31 u32 u33 u34 u35 u36 u37 u38 u39 u40 u41 u42 u43 u44 u45 u46 u47 : Value), a = { tmps := #[.agg (Ev.xcells x).toArray, .pointer (some ⟨w.heap.size, 0, none⟩), .slice none 0 0, .int .i64 0, .pointer (some ⟨q, 0, none⟩), .int .i64 0, .pointer (some ⟨W1.heap.size, 0, none⟩), u7, u8, .tuple #[.pointer (some ⟨q, 0, none⟩), .int .i64 0], .agg (Ev.xcells x).toArray, .tuple #[.pointer (some ⟨q, 0, none⟩), .int .i64 0], .pointer (some ⟨q, 0, none⟩), .int .i64 0, .int .i64 0, .bool false, undef, .pointer (some ⟨q, 0, none⟩), .pointer (some ⟨q, 0, none⟩), .pointer (some ⟨q, 0, none⟩), .pointer (some ⟨q, 0, none⟩), .slice x.ae x.ev.length x.ce, .int .i64 (x.ev.length : Int), c, u24, u25, u26, u27, u28, u29, u30, u31, u32, u33, u34, u35, u36, u37, u38, u39, u40, u41, u42, u43, u44, u45, u46, u47, undef], defers := Og.marks Ds } ∧ c = .int .i64 (k : Int) ∧ k ≤ x.ev.length ∧ Or.MarksIn W1.heap.size Ds W ∧ Or.Acc W1 W1.heap.size 33 43 2 (Ev.pl (Or.ppo x) x.ev.length k).length ((Ev.pl (Or.ppo x) x.ev.length k).flatMap Ev.pv) W) (fun (a : Act) (W : World) => x.ev.length - (intOf (a.tmps.getD 23 undef)).toNat) ?_ ?_
  · rw [show W1.alloc (Obj.cells #[.slice none 0 0] 33) = V from HV.out.symm]
    exact ⟨0, [], _, undef, undef, undef, undef, undef, undef, undef, undef, undef, undef, undef, undef, undef, undef, undef, undef, undef, undef, undef, undef, undef, undef, undef, undef, undef, undef, rfl, rfl, Nat.zero_le _, ⟨List.nodup_nil, fun D hD => (by cases hD)⟩, HACC.out⟩
  clear HACC HV cx cx0
  rintro a W ⟨k, Ds, c, u7, u8, u24, u25, u26, u27, u28, u29, u30, u31, u32, u33, u34, u35, u36, u37, u38, u39, u40, u41, u42, u43, u44, u45, u46, u47, rfl, rfl, hk, hmk, hacc⟩
  have HMK := Lib.hid hmk; have HACC := Lib.hid hacc
  have cx := CX.out W hacc.bel
  have HPK := Lib.hid (show W1.heap.size < W.heap.size by obtain ⟨_, _, h, _⟩ := hacc.form; exact h.lt)
  clear hmk hacc
  by_cases hlt : k < x.ev.length
  · have hki : (k : Int) < (x.ev.length : Int) := by omega
    have al : Below W.heap.size W (W.alloc (Obj.cells #[Value.int .i64 (k : Int)] 3)) := (Below.refl _ _).alloc (Nat.le_refl _) _
    have HN1 := Lib.hid (show Or.Nxt W1 Ds k W.heap.size (Ev.pl (Or.ppo x) x.ev.length k ++ Ev.rowL (Or.ppo x) k (List.range 0)) (W.alloc (Obj.cells #[Value.int .i64 (k : Int)] 3)) from ⟨HMK.out.kp al, Boxed.new W 3 (.int .i64 (k : Int)), by simpa [Ev.rowL] using HACC.out.kp al⟩)
    have cx1 := CX.out _ HN1.out.acc.bel
    clear al
    go_wp2_with fail
    go_step3
    go_wp2_with fail
    go_step3
    go_wp2_with fail
    clear cx cx1
    refine wp_loop (fun (a : Act) (Z : World) => ∃ (m : Nat) (Es : List Nat) (c v8 v33 v34 v35 v36 v37 v38 v39 v40 v41 v42 v43 v44 v45 v46 : Value), a = { tmps := #[.agg (Ev.xcells x).toArray, .pointer (some ⟨w.heap.size, 0, none⟩), .slice none 0 0, .int .i64 0, .pointer (some ⟨q, 0, none⟩), .int .i64 0, .pointer (some ⟨W1.heap.size, 0, none⟩), .pointer (some ⟨W.heap.size, 0, none⟩), v8, .tuple #[.pointer (some ⟨q, 0, none⟩), .int .i64 0], .agg (Ev.xcells x).toArray, .tuple #[.pointer (some ⟨q, 0, none⟩), .int .i64 0], .pointer (some ⟨q, 0, none⟩), .int .i64 0, .int .i64 0, .bool false, undef, .pointer (some ⟨q, 0, none⟩), .pointer (some ⟨q, 0, none⟩), .pointer (some ⟨q, 0, none⟩), .pointer (some ⟨q, 0, none⟩), .slice x.ae x.ev.length x.ce, .int .i64 (x.ev.length : Int), .int .i64 (k : Int), .bool true, .int .i64 (k : Int), .pointer (some ⟨q, 0, none⟩), .pointer (some ⟨q, 0, none⟩), .pointer (some ⟨q, 0, none⟩), .pointer (some ⟨q, 0, none⟩), .slice x.ae x.ev.length x.ce, .int .i64 (x.ev.length : Int), c, v33, v34, v35, v36, v37, v38, v39, v40, v41, v42, v43, v44, v45, v46, u47, undef], defers := Og.marks Es } ∧ c = .int .i64 (m : Int) ∧ m ≤ x.ev.length ∧ Or.Nxt W1 Es k W.heap.size (Ev.pl (Or.ppo x) x.ev.length k ++ Ev.rowL (Or.ppo x) k (List.range m)) Z) (fun (a : Act) (Z : World) => x.ev.length - (intOf (a.tmps.getD 32 undef)).toNat) ?_ ?_
    · exact ⟨0, Ds, _, u8, u33, u34, u35, u36, u37, u38, u39, u40, u41, u42, u43, u44, u45, u46, rfl, rfl, Nat.zero_le _, HN1.out⟩
    clear HN1
    rintro a Z ⟨m, Es, c, v8, v33, v34, v35, v36, v37, v38, v39, v40, v41, v42, v43, v44, v45, v46, rfl, rfl, hm, hnx⟩
    obtain ⟨L, hL⟩ : ∃ L, L = (Ev.pl (Or.ppo x) x.ev.length k ++ Ev.rowL (Or.ppo x) k (List.range m)) := ⟨_, rfl⟩
    have hlen : L.length ≤ 4160 := by
      have hlen1 := Ev.pl_len (Or.ppo x) x.ev.length k
      have hlen2 := Ev.rowL_len (Or.ppo x) k m
      have hmul : k * x.ev.length ≤ 64 * 64 := Nat.mul_le_mul (by omega) h64
      rw [hL, List.length_append]; omega
    rw [← hL] at hnx
    have HNX := Lib.hid hnx; have HL := Lib.hid hL; have HLEN := Lib.hid hlen
    clear hnx hL hlen
    by_cases hml : m < x.ev.length
    · have hmi : (m : Int) < (x.ev.length : Int) := by omega
      have al : ∀ (y : World) (o : Obj), Below y.heap.size y (y.alloc o) := fun y o => (Below.refl _ _).alloc (Nat.le_refl _) _
      obtain ⟨Y, hY⟩ : ∃ Y, Y = ((((Z.alloc (Obj.cells #[Value.int .i64 (m : Int)] 3)).alloc (Obj.cells #[Value.pointer (some ⟨q, 0, none⟩)] 72)).alloc (Obj.cells #[Value.int .i64 (k : Int)] 3)).alloc (Obj.cells #[Value.int .i64 (m : Int)] 3)) := ⟨_, rfl⟩
      have HBY := Lib.hid (show Below Z.heap.size Z Y by rw [hY]; exact ((((Below.refl _ _).alloc (Nat.le_refl _) _).alloc (by simp) _).alloc (by simp; omega) _).alloc (by simp; omega) _)
      have c7 := (show Boxed (Z.alloc (Obj.cells #[Value.int .i64 (m : Int)] 3)) W.heap.size 3 (.int .i64 (k : Int)) from HNX.out.bk.alloc _).cell
      have c8 := (Boxed.new Z 3 (.int .i64 (m : Int))).cell
      have HRND := Lib.hid (show Or.Rnd W1 Es x q k m W.heap.size Z.heap.size (Z.heap.size + 1) (Z.heap.size + 1 + 1) (Z.heap.size + 1 + 1 + 1) L Y from by
        refine ⟨HNX.out.mrk.kp HBY.out, (HBY.out.block _ HNX.out.bk.lt).trans HNX.out.bk, ?_, HNX.out.acc.kp HBY.out, (HQ.out.kp HNX.out.acc.bel).kp HBY.out, ?_, ?_, ?_⟩
        · rw [hY]; exact (((Boxed.new Z 3 (.int .i64 (m : Int))).alloc _).alloc _).alloc _
        · rw [hY]; have h := ((Boxed.new (Z.alloc (Obj.cells #[Value.int .i64 (m : Int)] 3)) 72 (.pointer (some ⟨q, 0, none⟩))).alloc (.cells #[.int .i64 (k : Int)] 3)).alloc (.cells #[.int .i64 (m : Int)] 3); simp only [World.size_alloc] at h; exact h
        · rw [hY]; have h := (Boxed.new ((Z.alloc (Obj.cells #[Value.int .i64 (m : Int)] 3)).alloc (Obj.cells #[Value.pointer (some ⟨q, 0, none⟩)] 72)) 3 (.int .i64 (k : Int))).alloc (.cells #[.int .i64 (m : Int)] 3); simp only [World.size_alloc] at h; exact h
        · rw [hY]; have h := Boxed.new (((Z.alloc (Obj.cells #[Value.int .i64 (m : Int)] 3)).alloc (Obj.cells #[Value.pointer (some ⟨q, 0, none⟩)] 72)).alloc (Obj.cells #[Value.int .i64 (k : Int)] 3)) 3 (.int .i64 (m : Int)); simp only [World.size_alloc] at h; exact h)
      have HYS := Lib.hid (show Y.heap.size = Z.heap.size + 4 by rw [hY]; simp)
      have HYY := Lib.hid hY
      clear hY al
      go_wp2_with (go_at_call 44; refine (holding_any _ _ _ _).mono ?_; rintro r w9 ⟨rfl, rfl⟩)
      rw [show ((((Z.alloc (Obj.cells #[Value.int .i64 (m : Int)] 3)).alloc (Obj.cells #[Value.pointer (some ⟨q, 0, none⟩)] 72)).alloc (Obj.cells #[Value.int .i64 (k : Int)] 3)).alloc (Obj.cells #[Value.int .i64 (m : Int)] 3)) = Y from HYY.out.symm]
      try simp only [World.size_alloc]
      clear c7 c8 HYY
      refine (wpIn_wide (n := 5)).1 ?_
      refine Og.wpIn_rangeFunc_list (α := Nat) rfl (by decide) (gf := 67) (lb := #[.pointer (some ⟨Z.heap.size + 1, 0, none⟩), .pointer (some ⟨Z.heap.size + 1 + 1, 0, none⟩), .pointer (some ⟨Z.heap.size + 1 + 1 + 1, 0, none⟩)]) rfl trivial (enters_of Try.func67 (by kernel_rfl) rfl)
        (holding_iter 4 (by decide) x q k m _ _ _ hlt hml HFL.out) (fun _ => rfl)
        (fun j U => j = 0 ∧ Or.Rnd W1 Es x q k m W.heap.size Z.heap.size (Z.heap.size + 1) (Z.heap.size + 1 + 1) (Z.heap.size + 1 + 1 + 1) L U) (fun c U => c = .exit 3 ∧ Or.ppo x k m = true ∧ Or.Nxt W1 Es k W.heap.size (L ++ [(k, m)]) U)
        (fun j A A' h hb => ⟨h.1, h.2.kp hb⟩) (fun j A l o o' h hl ho hc => ⟨h.1, h.2.putObj o' (by have := HNX.out.acc.bel.size; have := HYS.out; omega) (fun D hD => by have := HNX.out.mrk.lt hD; have := HYS.out; omega) ho hc⟩)
        (fun c A l o o' h hl ho hc => ⟨h.1, h.2.1, h.2.2.putObj o' (by have := HNX.out.acc.bel.size; have := HYS.out; omega) (fun D hD => by have := HNX.out.mrk.lt hD; have := HYS.out; omega) ho hc⟩)
        (fun j A h => h.2.hin) ⟨rfl, HRND.out⟩
        (fun s => { tmps := #[.agg (Ev.xcells x).toArray, .pointer (some ⟨w.heap.size, 0, none⟩), .slice none 0 0, .int .i64 0, .pointer (some ⟨q, 0, none⟩), .int .i64 0, .pointer (some ⟨W1.heap.size, 0, none⟩), .pointer (some ⟨W.heap.size, 0, none⟩), .pointer (some ⟨Z.heap.size, 0, none⟩), .tuple #[.pointer (some ⟨q, 0, none⟩), .int .i64 0], .agg (Ev.xcells x).toArray, .tuple #[.pointer (some ⟨q, 0, none⟩), .int .i64 0], .pointer (some ⟨q, 0, none⟩), .int .i64 0, .int .i64 0, .bool false, undef, .pointer (some ⟨q, 0, none⟩), .pointer (some ⟨q, 0, none⟩), .pointer (some ⟨q, 0, none⟩), .pointer (some ⟨q, 0, none⟩), .slice x.ae x.ev.length x.ce, .int .i64 (x.ev.length : Int), .int .i64 (k : Int), .bool true, .int .i64 (k : Int), .pointer (some ⟨q, 0, none⟩), .pointer (some ⟨q, 0, none⟩), .pointer (some ⟨q, 0, none⟩), .pointer (some ⟨q, 0, none⟩), .slice x.ae x.ev.length x.ce, .int .i64 (x.ev.length : Int), .int .i64 (m : Int), .bool true, .int .i64 (m : Int), .pointer (some ⟨q, 0, none⟩), .int .i64 (k : Int), .int .i64 (m : Int), .func (.func 67) #[] #[.pointer (some ⟨Z.heap.size + 1, 0, none⟩), .pointer (some ⟨Z.heap.size + 1 + 1, 0, none⟩), .pointer (some ⟨Z.heap.size + 1 + 1 + 1, 0, none⟩)], .int .i64 (s : Int), v40, v41, v42, v43, v44, v45, v46, u47, undef], defers := [] })
        ?assign ?body ?done ?stop
      case assign =>
        rintro l s U K hK
        have HK := Lib.hid hK; clear hK
        gi_wp2_with fail
        exact HK.out
      case body =>
        rintro l j s U hs ⟨rfl, hR⟩
        have HPP := Lib.hid (show Or.ppo x k m = true by unfold Or.ppo; cases h : Or.hold x k m with | nil => rw [h] at hs; simp at hs | cons _ _ => rfl)
        obtain ⟨ad, cc, hv, hr⟩ := hR.acc.form
        have hlen := HLEN.out
        have c2 := hv.cell; have c7 := hR.bk.cell; have c8 := hR.bm.cell
        have HV := Lib.hid hv; have HRR := Lib.hid hr; have HR := Lib.hid hR
        clear hs hR hv hr
        gi_wp2_with (first
          | ((with_reducible show wpListIn _ _ _ _ _ (Oper.mk (some 45) _ _ _ _ _ :: _) _ _); refine wpListIn_append_own (U.alloc (.cells #[.int .i64 (k : Int), .int .i64 (m : Int)] 43)) rfl (.tmp 40) (.tmp 44) 33 rfl W1.heap.size 43 i0 (.agg #[.int .i64 0, .int .i64 0]) 2 16 Try.underlying33 HI.out HZ0.out HZ1.out HZ2.out rfl (by decide) _ _ _ rfl (HRR.out.alloc _) ⟨U.heap.size, 0, none⟩ 1 1 (Ev.pv (k, m)) rfl rfl (fun j u hu => World.news_of_block (heap_alloc_new U _) j u hu) (Ev.pv_one _) (by unfold maxLen; omega) (by omega) (by have := HR.out.acc.bel.size; simp only [World.size_alloc]; omega) ?_
             intro v' w3 hown hgrow _
             obtain ⟨gb, cp', rfl⟩ := Or.row_succ hown
             obtain ⟨f1, f2, f3, f4, f5⟩ := Boxed.appended HV.out (by decide) HRR.out HR.out.acc.bel.size (Nat.le_refl _) hown hgrow
             have hf1 := f1.cell; have hf2 := f1.frozen
             have F4 := Lib.hid f4; have F5 := Lib.hid (HR.out.acc.bel.trans f5)
             have FA := Lib.hid (And.intro f2 f3)
             have FB := Lib.hid (((HR.out.bk.alloc _).kept hgrow (HR.out.bk.not_row (by decide) HRR.out)).other (B' := W1.heap.size) (by have := HPK.out; omega) (.slice (some ⟨gb, 0, none⟩) (L.length + 1) cp'))
             clear f1 f2 f3 f4 f5 hown hgrow c2 c7 c8))
        refine ⟨F4.out, rfl, HPP.out, HR.out.mrk.keeps F4.out, FB.out, F5.out, _, FA.out.1, ?_⟩
        have h := FA.out.2
        rw [List.length_append, List.flatMap_append]
        simpa using h
      case done =>
        rintro D U hD ⟨hj, hR⟩ hK
        have HPP := Lib.hid (show Or.ppo x k m = false by unfold Or.ppo; cases h : Or.hold x k m with | nil => rfl | cons _ _ => rw [h] at hj; simp at hj)
        have HR := Lib.hid hR; have HK := Lib.hid hK; have HDD := Lib.hid hD
        clear hj hR hK hD
        go_wp2_with fail
        refine ⟨⟨m + 1, D :: Es, _, _, _, _, _, _, _, _, _, _, _, _, _, _, _, _, rfl, by go_num, by omega, HR.out.mrk.cons (fun E hE => by have := HNX.out.mrk.lt hE; have := HDD.out; have := HYS.out; omega) (by have := HNX.out.acc.bel.size; have := HDD.out; have := HYS.out; omega) HK.out, HR.out.bk, ?_⟩, by simp [intOf]; omega⟩
        have h := HR.out.acc
        rw [Ev.rowL_succ, HPP.out, show (if false = true then [(k, m)] else []) = ([] : List (Nat × Nat)) from rfl, List.append_nil, ← HL.out]
        exact h
      case stop =>
        rintro D c U hD ⟨rfl, hpp, hN⟩ hK
        refine wpIn_wide.2 ?_
        have HPP := Lib.hid hpp
        have HR := Lib.hid hN; have HK := Lib.hid hK; have HDD := Lib.hid hD
        clear hpp hN hK hD
        go_wp2_with fail
        refine ⟨⟨m + 1, D :: Es, _, _, _, _, _, _, _, _, _, _, _, _, _, _, _, _, rfl, by go_num, by omega, HR.out.mrk.cons (fun E hE => by have := HNX.out.mrk.lt hE; have := HDD.out; have := HYS.out; omega) (by have := HNX.out.acc.bel.size; have := HDD.out; have := HYS.out; omega) HK.out, HR.out.bk, ?_⟩, by simp [intOf]; omega⟩
        have h := HR.out.acc
        rw [Ev.rowL_succ, HPP.out, show (if true = true then [(k, m)] else []) = [(k, m)] from rfl, ← List.append_assoc, ← HL.out]
        exact h
    · have hmi : ¬ (m : Int) < (x.ev.length : Int) := by omega
      have HM := Lib.hid (show m = x.ev.length by omega)
      clear hml
      go_wp2_with fail
      refine ⟨⟨k + 1, Es, _, _, _, _, _, _, _, _, _, _, _, _, _, _, _, _, _, _, _, _, _, _, _, _, _, _, _, rfl, by go_num, by omega, HNX.out.mrk, ?_⟩, by simp [intOf]; omega⟩
      have h := HNX.out.acc
      rw [HL.out, HM.out] at h
      rw [Ev.pl_succ]
      exact h
  · have hki : ¬ (k : Int) < (x.ev.length : Int) := by omega
    have HKN := Lib.hid (show k = x.ev.length by omega)
    obtain ⟨ad, cc, hv, hr⟩ := HACC.out.form
    have c6 := hv.cell
    have HRR := Lib.hid hr
    clear hv hr hlt
    go_wp2_with fail
    refine Og.leaves_marks Ds W HMK.out.1 (fun D hD => (HMK.out.2 D hD).2) (fun W' e1 e2 e3 e4 e5 => ⟨_, results_tmp2 (fn := Try.f19) rfl _ _ _, ?_⟩)
    have hlow : Below W1.heap.size W W' := ⟨e1, e2, e3, by rw [e4]; exact Nat.le_refl _, fun j hj => e5 j (fun hm => by have := (HMK.out.2 j hm).1; omega)⟩
    have hcells : ∀ (j : Nat) (o : Obj), W.heap[j]? = some o → o.isCells = true → W'.heap[j]? = some o := fun j o ho hc => (e5 j (fun hm => by have h := (HMK.out.2 j hm).2; rw [ho] at h; cases h; cases hc)).trans ho
    have hrow : W'.ownsRow W1.heap.size 43 2 (.slice ad (Ev.pl (Or.ppo x) x.ev.length k).length cc) (Ev.pl (Or.ppo x) x.ev.length k).length ((Ev.pl (Or.ppo x) x.ev.length k).flatMap Ev.pv) :=
      ⟨HRR.out.1, HRR.out.2.imp id fun ⟨g, cap, cur, d1, d2, d3, r⟩ => ⟨g, cap, cur, d1, d2, hcells g _ d3 rfl, r⟩⟩
    obtain ⟨A, C, hAC, hp⟩ := Ev.pairs_of_row hrow
    rw [hAC]
    rw [HKN.out] at hp ⊢
    exact ⟨B1.out.trans ((HACC.out.bel.trans hlow).mono B1.out.size), .inr ⟨H1.out, A, C, rfl, hp⟩⟩
end Go.Proofs.Ytoicmhidmknfiaa
end

section
namespace Go.Proofs.Ytoicmhidmknfiaa
open Go.RowKit
set_option linter.unusedVariables false
set_option linter.unusedSimpArgs false
namespace Ev
def kZ0 : R := ⟨-1, 5, 0, 0, 0, false, false, 0, 0, false, N0, N0, N0⟩
def kZ1 : R := ⟨0, 1, 0, 0, 0, false, false, 0, 0, false, N0, N0, N0⟩
def kZ2 : R := ⟨0, 2, 0, 1, 0, false, false, 0, 0, false, N0, N0, N0⟩
def kY (s : Nat) : X := ⟨some ⟨s, 0, none⟩, 3, [kZ0, kZ1, kZ2], ⟨some ⟨s + 1, 0, none⟩, 3, [-1, 0, -1]⟩, some ⟨s + 1 + 1 + 1, 0, none⟩, 1, [⟨some ⟨s + 1 + 1, 0, none⟩, 2, [0, 2]⟩]⟩
theorem kY_in {W : World} {s : Nat} (h0 : W.heap[s]? = some (.cells ([kZ0, kZ1, kZ2].map cells).flatten.toArray 54 (0, 0))) (h1 : W.heap[s + 1]? = some (.cells #[.int .i64 (-1), .int .i64 0, .int .i64 (-1)] 3 (0, 0)))
    (h2 : W.heap[s + 1 + 1]? = some (.cells #[.int .i64 0, .int .i64 2] 3 (0, 0))) (h3 : W.heap[s + 1 + 1 + 1]? = some (.cells #[.slice (some ⟨s + 1 + 1, 0, none⟩) 2 2] 23 (0, 0))) : XIn W (kY s) := by
  refine ⟨⟨rows_of_block (xs := [kZ0, kZ1, kZ2].map cells) h0 ?_, ?_, by show 3 ≤ 3; omega, by show 3 ≤ _; omega⟩, ints_of_block (l := [-1, 0, -1]) h1 ?_ (by simp), ⟨rows_of_block (xs := [[.slice (some ⟨s + 1 + 1, 0, none⟩) 2 2]]) h3 ?_, ?_, by show 1 ≤ 1; omega, by show 1 ≤ _; omega⟩⟩
  · intro v hv
    obtain ⟨e, _, rfl⟩ := List.mem_map.1 hv
    rfl
  · intro x hx
    have hx' : x = kZ0 ∨ x = kZ1 ∨ x = kZ2 := by simpa [kY] using hx
    rcases hx' with rfl | rfl | rfl
    all_goals exact ⟨by unfold i64B; decide, by unfold i64B; decide, by unfold u32B; decide, by unfold u32B; decide, by unfold u32B; decide, by unfold i64B; decide, by unfold i64B; decide, ints_none W, ints_none W, ints_none W⟩
  · intro v hv
    have hv' : v = -1 ∨ v = 0 ∨ v = -1 := by simpa using hv
    rcases hv' with rfl | rfl | rfl <;> (unfold i64B; decide)
  · intro v hv
    have : v = [.slice (some ⟨s + 1 + 1, 0, none⟩) 2 2] := by simpa using hv
    subst this; rfl
  · intro x hx
    have : x = ⟨some ⟨s + 1 + 1, 0, none⟩, 2, [0, 2]⟩ := by simpa [kY] using hx
    subst this
    refine ints_of_block (l := [0, 2]) h2 ?_ (by simp)
    intro v hv
    have hv' : v = 0 ∨ v = 2 := by simpa using hv
    rcases hv' with rfl | rfl <;> (unfold i64B; decide)
theorem kY_check (s : Nat) : check (kY s) = 0 := by kernel_rfl
theorem kY_pl (s : Nat) : pl (Or.ppo (kY s)) (kY s).ev.length (kY s).ev.length = [(1, 2)] := by kernel_rfl
theorem kY_rule (s : Nat) : (Or.kept (kY s) 1 2 && Or.R (kY s) 1 1 2) = true := by kernel_rfl
end Ev
set_option maxRecDepth 100000 in
set_option maxHeartbeats 4000000 in
theorem known7_any (w : World) : Calls Try.prog 18 #[] w fun e w' => e = .returned (.bool true) ∧ Below w.heap.size w w' := by
  obtain ⟨s, hs⟩ : ∃ s, s = w.heap.size := ⟨_, rfl⟩
  obtain ⟨W5, hW5⟩ : ∃ W5, W5 = (((((w.alloc (Obj.cells ([Ev.kZ0, Ev.kZ1, Ev.kZ2].map Ev.cells).flatten.toArray 54)).alloc (Obj.cells #[.int .i64 (-1), .int .i64 0, .int .i64 (-1)] 3)).alloc (Obj.cells #[.int .i64 0, .int .i64 2] 3)).alloc (Obj.cells #[.slice (some ⟨w.heap.size + 1 + 1, 0, none⟩) 2 2] 23)).alloc (Obj.cells (Ev.xcells (Ev.kY w.heap.size)).toArray 26)) := ⟨_, rfl⟩
  obtain ⟨h0, h1, h2, h3, h4⟩ := heap_a5 w (Obj.cells ([Ev.kZ0, Ev.kZ1, Ev.kZ2].map Ev.cells).flatten.toArray 54) (Obj.cells #[.int .i64 (-1), .int .i64 0, .int .i64 (-1)] 3) (Obj.cells #[.int .i64 0, .int .i64 2] 3) (Obj.cells #[.slice (some ⟨w.heap.size + 1 + 1, 0, none⟩) 2 2] 23) (Obj.cells (Ev.xcells (Ev.kY w.heap.size)).toArray 26)
  rw [← hW5] at h0 h1 h2 h3 h4
  have HIN := Lib.hid (Ev.kY_in h0 h1 h2 h3)
  have R5 := Lib.hid h4
  have B5 := Lib.hid (show Below w.heap.size w W5 by
    rw [hW5]
    exact (((((Below.refl _ _).alloc (Nat.le_refl _) _).alloc (by simp only [World.size_alloc]; omega) _).alloc (by simp only [World.size_alloc]; omega) _).alloc (by simp only [World.size_alloc]; omega) _).alloc (by simp only [World.size_alloc]; omega) _)
  have HW5 := Lib.hid hW5
  have PP := Lib.hid (oppo_any (Ev.kY w.heap.size) W5 HIN.out)
  clear hW5 h0 h1 h2 h3 h4 hs
  go_enter Try.func18, Try.ntmps18
  go_wp2_with fail
  show Calls Try.prog 19 #[.agg (Ev.xcells (Ev.kY w.heap.size)).toArray] (((((w.alloc (Obj.cells ([Ev.kZ0, Ev.kZ1, Ev.kZ2].map Ev.cells).flatten.toArray 54)).alloc (Obj.cells #[.int .i64 (-1), .int .i64 0, .int .i64 (-1)] 3)).alloc (Obj.cells #[.int .i64 0, .int .i64 2] 3)).alloc (Obj.cells #[.slice (some ⟨w.heap.size + 1 + 1, 0, none⟩) 2 2] 23)).alloc (Obj.cells (Ev.xcells (Ev.kY w.heap.size)).toArray 26)) _
  rw [← HW5.out]
  refine PP.out.mono ?_
  rintro e W6 ⟨hb, (⟨h, _⟩ | ⟨_, ad, cc, rfl, hp⟩)⟩
  · exact absurd (Ev.kY_check _) h
  rw [Ev.kY_pl] at hp ⊢
  obtain ⟨g, o, rfl, hrows⟩ := hp.rows (by simp)
  have p0 := hrows 0 _ rfl 0 _ rfl
  have p1 := hrows 0 _ rfl 1 _ rfl
  have hcl := hp.le; have hcm := hp.max
  have R6 := Lib.hid ((hb.block _ (Array.getElem?_eq_some_iff.1 R5.out).1).trans R5.out)
  have B6 := Lib.hid (B5.out.trans (hb.mono B5.out.size))
  have RR := Lib.hid (orule_any (Ev.kY w.heap.size) 1 1 2 (by unfold Ev.i64B; omega) (by unfold Ev.i64B; omega) W6 (HIN.out.kp (Ev.kp_below hb)))
  clear hb hp hrows PP
  go_wp2_with ((with_reducible show wpList _ _ _ (Oper.mk (some 20) _ _ _ _ _ :: _) _ _); refine wpList_load_row rfl 26 (.tmp 1) rfl (w.heap.size + 1 + 1 + 1 + 1) (by kernel_rfl) 26 (Ev.xcells (Ev.kY w.heap.size)).toArray (0, 0) _ R6.out Try.underlying26 rfl (by kernel_rfl) ?_)
  refine RR.out.mono ?_
  rintro e W7 ⟨hb, (⟨h, _⟩ | ⟨_, h, _⟩ | ⟨_, _, _, rfl⟩)⟩
  · exact absurd (Ev.kY_check _) h
  · exfalso
    rcases h with h | h | h
    · exact h ⟨⟨by decide, by show (1 : Int) < 3; decide⟩, ⟨by decide, by show (2 : Int) < 3; decide⟩⟩
    · omega
    · omega
  rw [show ((1 : Int).toNat) = 1 from rfl, show ((2 : Int).toNat) = 2 from rfl, Ev.kY_rule]
  have q0 := Ev.kp_below hb _ _ p0
  have q1 := Ev.kp_below hb _ _ p1
  have B7 := Lib.hid (B6.out.trans (hb.mono B6.out.size))
  clear hb p0 p1 RR
  simp only [Nat.zero_mul, Nat.add_zero] at q0 q1
  go_wp2_with fail
  go_ret
  exact ⟨rfl, B7.out⟩
end Go.Proofs.Ytoicmhidmknfiaa
end
