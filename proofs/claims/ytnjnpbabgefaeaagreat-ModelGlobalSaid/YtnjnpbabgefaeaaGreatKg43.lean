import Derived.Test.YtnjnpbabgefaeaaGreatKg42
import Derived.Test.YtnjnpbabgefaeaaGreatKg16
import Derived.Test.YtnjnpbabgefaeaaGreatKg18
import Derived.Test.YtnjnpbabgefaeaaGreatKg11
import Derived.Test.YtnjnpbabgefaeaaGreatKg19
import Derived.RangeFuncBox
import Derived.Deep.AppendLies
set_option linter.unusedVariables false
set_option linter.unusedSimpArgs false

section
namespace Go.Proofs.YtnjnpbabgefaeaaGreat
open Go.RowKit
namespace Or
open Ev
def inR (x : X) (n : Int) : Prop := 0 ≤ n ∧ n < (x.ev.length : Int)
def AskR (x : X) (ns : List Int) (w : World) (r : Ending) (w' : World) : Prop := Below w.heap.size w w' ∧
  ((check x ≠ 0 ∧ r = .returned (.tuple #[.pointer none, .int .i64 (check x)])) ∨ (check x = 0 ∧ (∃ n ∈ ns, ¬ inR x n) ∧ r = .returned (.tuple #[.pointer none, .int .i64 4])) ∨
   (check x = 0 ∧ (∀ n ∈ ns, inR x n) ∧ ∃ q, r = .returned (.tuple #[.pointer (some ⟨q, 0, none⟩), .int .i64 0]) ∧ As w' q x))
theorem AskR.bad {x : X} {ns : List Int} {w w' : World} {r : Ending} (hb : Below w.heap.size w w') {v : Int} (hv : check x = v) (h : v ≠ 0) (hr : r = .returned (.tuple #[.pointer none, .int .i64 v])) : AskR x ns w r w' := ⟨hb, .inl ⟨hv ▸ h, hv ▸ hr⟩⟩
theorem AskR.no {x : X} {ns : List Int} {w w' : World} {r : Ending} (hb : Below w.heap.size w w') (hv : check x = 0) {n : Int} (hn : n ∈ ns) (h : ¬ inR x n) (hr : r = .returned (.tuple #[.pointer none, .int .i64 4])) : AskR x ns w r w' := ⟨hb, .inr (.inl ⟨hv, ⟨n, hn, h⟩, hr⟩)⟩
theorem AskR.yes {x : X} {ns : List Int} {w w' : World} {r : Ending} (hb : Below w.heap.size w w') (hv : check x = 0) (h : ∀ n ∈ ns, inR x n) (q : Nat) (hr : r = .returned (.tuple #[.pointer (some ⟨q, 0, none⟩), .int .i64 0])) (ha : As w' q x) : AskR x ns w r w' := ⟨hb, .inr (.inr ⟨hv, h, q, hr, ha⟩)⟩
end Or
set_option maxRecDepth 100000 in
set_option maxHeartbeats 8000000 in
theorem ask_any (x : Ev.X) (s : Ev.Sl) (w : World) (hin : Ev.XIn w x) (hs : Ev.IntsIn w s) :
    Calls Tryz.prog 81 #[.agg (Ev.xcells x).toArray, .slice s.a s.l.length s.c] w (Or.AskR x s.l w) := by
  have hle := hin.ev.le; have hmax := hin.ev.max
  have hsl := hs.2.1; have hsm := hs.2.2.1
  have HIN := Lib.hid hin; have HS := Lib.hid hs; clear hin hs
  obtain ⟨B, hB⟩ : ∃ B, B = w.alloc (.cells (Ev.xcells x).toArray 26) := ⟨_, rfl⟩
  have HB := Lib.hid hB
  have RX := Lib.hid (show B.heap[w.heap.size]? = some (.cells (Ev.xcells x).toArray 26 (0, 0)) by rw [hB]; exact heap_alloc_new _ _)
  have B0 := Lib.hid (show Below w.heap.size w B by rw [hB]; exact (Below.refl w.heap.size w).alloc (Nat.le_refl _) _)
  obtain ⟨v, hv⟩ : ∃ v, Ev.check x = v := ⟨_, rfl⟩
  have HV := Lib.hid hv
  clear hB hv
  go_enter Tryz.func81, Tryz.ntmps81
  go_wp2_with (first
    | ((with_reducible show wpList _ _ _ (Oper.mk (some 9) _ _ _ _ _ :: _) _ _); (try rw [show w.alloc (Obj.cells (Ev.xcells x).toArray 26) = B from HB.out.symm]); refine wpList_load_row rfl 26 (.tmp 2) rfl w.heap.size (by kernel_rfl) 26 (Ev.xcells x).toArray (0, 0) _ RX.out Tryz.underlying26 rfl (by kernel_rfl) ?_))
  refine (check_is HV.out _ (HIN.out.kp (Ev.kp_below B0.out))).mono ?_
  rintro r W1 ⟨rfl, hb1⟩
  have R1 := Lib.hid ((hb1.block w.heap.size (Array.getElem?_eq_some_iff.1 RX.out).1).trans RX.out)
  have B1 := Lib.hid (B0.out.trans (hb1.mono B0.out.size)); clear hb1
  by_cases h0 : v = 0
  case neg =>
    have t0 : (v != 0) = true := by simpa using h0
    have H0 := Lib.hid h0
    clear h0
    go_wp2_with fail
    go_ret2
    exact Or.AskR.bad B1.out HV.out H0.out rfl
  subst h0
  have t0 : ((0 : Int) != 0) = false := by decide
  go_wp2_with fail
  go_loopw [8, 16] (fun _ i wr => ∃ k : Nat, k ≤ s.l.length ∧ i = .int .i64 (k : Int) ∧ (∀ j n, j < k → s.l[j]? = some n → Or.inR x n) ∧ wr = W1) (fun _ i _ => s.l.length - (intOf i).toNat)
  case atStart => exact ⟨0, Nat.zero_le _, rfl, fun j n hj => absurd hj (Nat.not_lt_zero j), rfl⟩
  case round =>
    obtain ⟨k, hk, rfl, hall, rfl⟩ := hrel
    have HALL := Lib.hid hall; clear hall
    by_cases hlt : k < s.l.length
    · have hki : (k : Int) < (s.l.length : Int) := by omega
      obtain ⟨n, hn⟩ : ∃ n, s.l[k]? = some n := ⟨_, List.getElem?_eq_getElem hlt⟩
      obtain ⟨g, o, ea, hc⟩ := (HS.out.kp (Ev.kp_below B1.out)).at_ hn
      have hnb := HS.out.b_ hn
      unfold Ev.i64B at hnb
      have HN := Lib.hid hn
      have cx : wr.cell? ⟨w.heap.size, 0, none⟩ = some (.slice x.ae x.ev.length x.ce) := Ev.xcell0 R1.out
      rw [ea]
      clear ea hn
      by_cases h1 : n < 0
      · have t1 : decide (n < 0) = true := decide_eq_true h1
        have HNO := Lib.hid (show ¬ Or.inR x n by unfold Or.inR; omega)
        go_wp2_with fail
        go_ret2
        exact Or.AskR.no B1.out HV.out (List.mem_of_getElem? HN.out) HNO.out rfl
      have t1 : decide (n < 0) = false := decide_eq_false h1
      by_cases h2 : (x.ev.length : Int) ≤ n
      · have t2 : decide ((x.ev.length : Int) ≤ n) = true := decide_eq_true h2
        have HNO := Lib.hid (show ¬ Or.inR x n by unfold Or.inR; omega)
        go_wp2_with fail
        go_ret2
        exact Or.AskR.no B1.out HV.out (List.mem_of_getElem? HN.out) HNO.out rfl
      have t2 : decide ((x.ev.length : Int) ≤ n) = false := decide_eq_false h2
      have HYES := Lib.hid (show Or.inR x n by unfold Or.inR; omega)
      go_wp2_with fail
      go_roundw
      case rel =>
        refine ⟨k + 1, by omega, by go_num, fun j m hj hm => ?_, by first | rfl | trivial⟩
        rcases Nat.lt_succ_iff_lt_or_eq.1 hj with h | h
        · exact HALL.out j m h hm
        · subst h; rw [HN.out] at hm; cases hm; exact HYES.out
      case measure => simp [intOf]; omega
    · have hki : ¬ (k : Int) < (s.l.length : Int) := by omega
      have HALL2 := Lib.hid (show ∀ n ∈ s.l, Or.inR x n from fun n hn => by
        obtain ⟨j, hj⟩ := List.mem_iff_getElem?.1 hn
        have := (List.getElem?_eq_some_iff.1 hj).1
        exact HALL.out j n (by omega) hj)
      go_wp2_with (first
        | ((with_reducible show wpList _ _ _ (Oper.mk (some 30) _ _ _ _ _ :: _) _ _); refine wpList_load_row rfl 26 (.tmp 2) rfl w.heap.size (by kernel_rfl) 26 (Ev.xcells x).toArray (0, 0) _ R1.out Tryz.underlying26 rfl (by kernel_rfl) ?_; unfold Ev.xcells))
      go_ret2
      refine Or.AskR.yes (B1.out.trans (((Below.refl _ _).alloc (Nat.le_refl _) _).mono B1.out.size)) HV.out HALL2.out wr.heap.size rfl ⟨heap_alloc_new _ _, (HIN.out.kp (Ev.kp_below B1.out)).kp (Ev.kp_below ((Below.refl _ _).alloc (Nat.le_refl _) _))⟩
end Go.Proofs.YtnjnpbabgefaeaaGreat
end

section
namespace Go.Proofs.YtnjnpbabgefaeaaGreat
open Go.RowKit
namespace Or
open Ev
theorem inR_nat {x : X} {n : Int} (h : inR x n) : n.toNat < x.ev.length ∧ (n.toNat : Int) = n := by unfold inR at h; omega
def pairsWith (x : X) (b : Nat) : Nat → Nat → Option Nat
  | 0, _ => none
  | n + 1, a => if (kept x a b && R x 8 a b) = true then some a else pairsWith x b n (a + 1)
def pairOf (x : X) (b : Nat) : Option Nat := pairsWith x b b 0
def PairR (x : X) (b : Int) (w : World) (r : Ending) (w' : World) : Prop := Below w.heap.size w w' ∧
  (((check x ≠ 0 ∨ ¬ inR x b) ∧ r = .returned (.tuple #[.int .i64 0, .bool false])) ∨
   (check x = 0 ∧ inR x b ∧ r = .returned (.tuple (match pairOf x b.toNat with | none => #[.int .i64 0, .bool false] | some a => #[.int .i64 (a : Int), .bool true]))))
theorem ints1 {w : World} {g : Nat} {t : TypeId} {a : Int} (h : w.heap[g]? = some (.cells #[.int .i64 a] t (0, 0))) (ha : i64B a) : IntsIn w ⟨some ⟨g, 0, none⟩, 1, [a]⟩ :=
  ints_of_block (l := [a]) h (fun v hv => by rw [List.mem_singleton.1 hv]; exact ha) (by simp)
end Or
theorem Or.pairs_succ (x : Ev.X) (b n a : Nat) : Or.pairsWith x b (n + 1) a = if (Or.kept x a b && Or.R x 8 a b) = true then some a else Or.pairsWith x b n (a + 1) := rfl
set_option maxRecDepth 100000 in
set_option maxHeartbeats 8000000 in
theorem opaired_any (x : Ev.X) (b : Int) (hbb : Ev.i64B b) (w : World) (hin : Ev.XIn w x) :
    Calls Tryz.prog 104 #[.agg (Ev.xcells x).toArray, .int .i64 b] w (Or.PairR x b w) := by
  obtain ⟨B, hB⟩ : ∃ B, B = w.alloc (.cells (Ev.xcells x).toArray 26) := ⟨_, rfl⟩
  have HB := Lib.hid hB
  have RX := Lib.hid (show B.heap[w.heap.size]? = some (.cells (Ev.xcells x).toArray 26 (0, 0)) by rw [hB]; exact heap_alloc_new _ _)
  have B0 := Lib.hid (show Below w.heap.size w B by rw [hB]; exact (Below.refl w.heap.size w).alloc (Nat.le_refl _) _)
  obtain ⟨C, hC⟩ : ∃ C, C = B.alloc (.cells #[.int .i64 b] 3) := ⟨_, rfl⟩
  have HC := Lib.hid hC
  have C0 := Lib.hid (show Below B.heap.size B C by rw [hC]; exact (Below.refl _ _).alloc (Nat.le_refl _) _)
  have HNS := Lib.hid (show Ev.IntsIn C ⟨some ⟨B.heap.size, 0, none⟩, 1, [b]⟩ from Or.ints1 (by rw [hC]; exact heap_alloc_new _ _) hbb)
  have HIN := Lib.hid hin
  have BC := Lib.hid (B0.out.trans (C0.out.mono B0.out.size))
  have hle := hin.ev.le; have hmax := hin.ev.max
  clear hB hC hin
  go_enter Tryz.func104, Tryz.ntmps104
  go_wp2_with (first
    | ((with_reducible show wpList _ _ _ (Oper.mk (some 10) _ _ _ _ _ :: _) _ _); (try rw [show w.alloc (Obj.cells (Ev.xcells x).toArray 26) = B from HB.out.symm]); refine wpList_load_row rfl 26 (.tmp 2) rfl w.heap.size (by kernel_rfl) 26 (Ev.xcells x).toArray (0, 0) _ RX.out Tryz.underlying26 rfl (by kernel_rfl) ?_))
  rw [show B.alloc (Obj.cells #[.int .i64 b] 3) = C from HC.out.symm]
  refine (ask_any x ⟨some ⟨B.heap.size, 0, none⟩, 1, [b]⟩ C (HIN.out.kp (Ev.kp_below BC.out)) HNS.out).mono ?_
  rintro r W1 ⟨hb1, (⟨h1, rfl⟩ | ⟨h1, h2, rfl⟩ | ⟨h1, h2, q, rfl, hq⟩)⟩
  · have B1 := Lib.hid (BC.out.trans (hb1.mono BC.out.size)); have H1 := Lib.hid h1
    have t0 : (Ev.check x != 0) = true := by simpa using h1
    clear h1 hb1
    go_wp2_with fail
    go_ret2
    exact ⟨B1.out, .inl ⟨.inl H1.out, rfl⟩⟩
  · have B1 := Lib.hid (BC.out.trans (hb1.mono BC.out.size)); have H1 := Lib.hid h1
    have HNO := Lib.hid (show ¬ Or.inR x b from fun hh => by
      obtain ⟨n, hn, hno⟩ := h2
      rw [List.mem_singleton.1 hn] at hno; exact hno hh)
    clear h1 h2 hb1
    go_wp2_with fail
    go_ret2
    exact ⟨B1.out, .inl ⟨.inr HNO.out, rfl⟩⟩
  have B1 := Lib.hid (BC.out.trans (hb1.mono BC.out.size)); have H1 := Lib.hid h1; have HQ := Lib.hid hq
  have HBB := Lib.hid (h2 b (List.mem_cons_self))
  obtain ⟨nb, hnb⟩ : ∃ nb : Nat, nb = b.toNat := ⟨_, rfl⟩
  have NB := Lib.hid (show nb < x.ev.length ∧ (nb : Int) = b ∧ b.toNat = nb by have := Or.inR_nat HBB.out; omega)
  have hnl := NB.out.1
  clear h1 h2 hb1 hq hnb
  rw [← NB.out.2.1]
  go_wp2_with fail
  go_loopw [8, 19] (fun _ i wr => ∃ a : Nat, a ≤ nb ∧ i = .int .i64 (a : Int) ∧ Or.pairOf x nb = Or.pairsWith x nb (nb - a) a ∧ Below W1.heap.size W1 wr) (fun _ i _ => nb - (intOf i).toNat)
  case atStart => exact ⟨0, Nat.zero_le _, rfl, rfl, Below.refl _ _⟩
  case round =>
    obtain ⟨a, ha, rfl, hgo, hbr⟩ := hrel
    have HGO := Lib.hid hgo; have HBR := Lib.hid hbr
    clear hgo hbr
    by_cases hlt : a < nb
    · have hai : (a : Int) < (nb : Int) := by omega
      obtain ⟨v, hv⟩ : ∃ v, (Or.kept x a nb && Or.R x 8 a nb) = v := ⟨_, rfl⟩
      have HV := Lib.hid hv
      have HG2 := Lib.hid (show Or.pairOf x nb = if v = true then some a else Or.pairsWith x nb (nb - (a + 1)) (a + 1) by
        rw [HGO.out, show nb - a = nb - (a + 1) + 1 by omega, Or.pairs_succ, hv])
      clear hv
      go_wp2_with fail
      refine (holds_is HV.out q (by omega) NB.out.1 (check_from H1.out) (by decide) (by decide) _ (HQ.out.kp HBR.out)).mono ?_
      rintro r W2 ⟨rfl, hb2⟩
      have HB2 := Lib.hid (HBR.out.trans (hb2.mono HBR.out.size)); clear hb2
      cases v
      · have HG3 := Lib.hid (show Or.pairOf x nb = Or.pairsWith x nb (nb - (a + 1)) (a + 1) by rw [HG2.out]; rfl)
        go_wp2_with fail
        go_roundw
        case rel => exact ⟨a + 1, by omega, by go_num, HG3.out, HB2.out⟩
        case measure => simp [intOf]; omega
      · have HG3 := Lib.hid (show Or.pairOf x nb = some a by rw [HG2.out]; rfl)
        go_wp2_with fail
        go_ret2
        exact ⟨B1.out.trans (HB2.out.mono B1.out.size), .inr ⟨H1.out, HBB.out, by rw [NB.out.2.2, HG3.out]; rfl⟩⟩
    · have hai : ¬ (a : Int) < (nb : Int) := by omega
      have HG3 := Lib.hid (show Or.pairOf x nb = none by rw [HGO.out, show nb - a = 0 by omega]; rfl)
      go_wp2_with fail
      go_ret2
      exact ⟨B1.out.trans (HBR.out.mono B1.out.size), .inr ⟨H1.out, HBB.out, by rw [NB.out.2.2, HG3.out]; rfl⟩⟩
end Go.Proofs.YtnjnpbabgefaeaaGreat
end

section
namespace Go.Og
open Go.RowKit
def marks (Ds : List Nat) : List Deferred := Ds.map fun D => { target := .collected D, args := #[] }
theorem leaves_marks {F : Fence} {n : Nat} {P : Program} {fn : Func} {tmps : Array Value} {R : Ending → World → Prop} : ∀ (Ds : List Nat) (W : World), Ds.Nodup → (∀ D ∈ Ds, W.heap[D]? = some (.deferred (some []))) →
    (∀ W', W'.os = W.os → W'.tape = W.tape → W'.output = W.output → W'.heap.size = W.heap.size → (∀ k, k ∉ Ds → W'.heap[k]? = W.heap[k]?) → ∃ v, (results fn tmps).run P W' = .ok v W' ∧ R (.returned v) W') → LeavesInM F n P fn tmps R (marks Ds) .returning W
  | [], W, _, _, h => h W rfl rfl rfl rfl (fun _ _ => rfl)
  | D :: Ds, W, hn, hd, h => by
    refine ⟨by simp, .inl ⟨_, _, rfl, run_takeDeferred (hd D List.mem_cons_self), ?_⟩⟩
    refine leaves_marks Ds (W.putObj D (.deferred none)) (List.nodup_cons.1 hn).2 (fun E hE => ?_) (fun W' h1 h2 h3 h4 h5 => ?_)
    · rw [World.putObj_heap_other (fun (e : E = D) => (List.nodup_cons.1 hn).1 (by rw [← e]; exact hE))]
      exact hd E (List.mem_cons_of_mem _ hE)
    · refine h W' h1 h2 h3 (by rw [h4]; simp) (fun k hk => ?_)
      rw [h5 k (fun hm => hk (List.mem_cons_of_mem _ hm)), World.putObj_heap_other (fun (e : k = D) => hk (by rw [e]; exact List.mem_cons_self))]
end Go.Og
namespace Go.Proofs.YtnjnpbabgefaeaaGreat
open Go.RowKit
attribute [local go_sem] or_store_func
attribute [local go_sem] Oper.semAt_some
namespace Or
open Ev
structure Acc (w : World) (B : Nat) (T E : TypeId) (sz k : Nat) (xs : List Value) (W : World) : Prop where
  bel : Below w.heap.size w W
  out : ∃ v, Boxed W B T v ∧ W.ownsRow w.heap.size E sz v k xs
variable {w : World} {B : Nat} {T E : TypeId} {sz k : Nat} {xs : List Value} {W : World}
theorem Acc.kp (h : Acc w B T E sz k xs W) {W' : World} (hb : Below W.heap.size W W') : Acc w B T E sz k xs W' := by
  obtain ⟨v, h1, h2⟩ := h.out
  exact ⟨h.bel.trans (hb.mono h.bel.size), v, (hb.block B h1.lt).trans h1, Ev.row_below h2 hb⟩
theorem Acc.putObj (h : Acc w B T E sz k xs W) {l : Nat} {o : Obj} (o' : Obj) (hl : w.heap.size ≤ l) (ho : W.heap[l]? = some o) (hc : o.isCells = false) : Acc w B T E sz k xs (W.putObj l o') := by
  obtain ⟨v, h1, h2⟩ := h.out
  have hk : ∀ (j : Nat) (x : Obj), W.heap[j]? = some x → x.isCells = true → (W.putObj l o').heap[j]? = some x := fun j x hx hxc => (World.putObj_heap_other (fun e => by subst e; rw [ho] at hx; cases hx; rw [hc] at hxc; cases hxc)).trans hx
  exact ⟨below_putObj h.bel hl, v, hk B _ h1 rfl, ⟨h2.1, h2.2.imp id fun ⟨g, cap, cur, e1, e2, e3, r⟩ => ⟨g, cap, cur, e1, e2, hk g _ e3 rfl, r⟩⟩⟩
theorem Acc.form (h : Acc w B T E sz k xs W) : ∃ a c, Boxed W B T (.slice a k c) ∧ W.ownsRow w.heap.size E sz (.slice a k c) k xs := by
  obtain ⟨v, h1, h2⟩ := h.out
  rcases h2.2 with ⟨rfl, rfl⟩ | ⟨g, cap, cur, rfl, r⟩
  · exact ⟨_, _, h1, h2⟩
  · exact ⟨_, _, h1, h2⟩
theorem box_putObj {p l : Nat} {t : TypeId} {v : Value} (h : Boxed W p t v) {o : Obj} (o' : Obj) (ho : W.heap[l]? = some o) (hc : o.isCells = false) : Boxed (W.putObj l o') p t v :=
  (World.putObj_heap_other (fun e => by subst e; rw [show W.heap[p]? = _ from h] at ho; cases ho; cases hc)).trans h
theorem row_succ {base : Nat} {v : Value} (h : W.ownsRow base E sz v (k + 1) xs) : ∃ g c, v = .slice (some ⟨g, 0, none⟩) (k + 1) c := by
  rcases h.2 with ⟨_, h⟩ | ⟨g, cap, cur, rfl, _⟩
  · cases h
  · exact ⟨_, _, rfl⟩
end Or
end Go.Proofs.YtnjnpbabgefaeaaGreat
end

section
namespace Go.Proofs.YtnjnpbabgefaeaaGreat
open Go.RowKit Go.Maps Go.WideElems
namespace Md
open Ev
structure PL where
  a : Option Addr
  c : Nat
  l : List (Nat × Nat)
def PL.v (s : PL) : Value := .slice s.a s.l.length s.c
structure RelsIn (w : World) (a : Option Addr) (c : Nat) (rs : List PL) : Prop where
  rows : Ev.RowsIn w a 1 (rs.map fun s => [s.v])
  ok : ∀ r ∈ rs, PairsIn w r.a r.c r.l ∧ r.l.length ≤ 8192 ∧ ∀ p ∈ r.l, p.1 < 64 ∧ p.2 < 64
  len : rs.length ≤ 8
  le : rs.length ≤ c
  max : c ≤ 9223372036854775807
theorem PairsIn.kp {w w' : World} {a c ps} (h : PairsIn w a c ps) (k : Kp w w') : PairsIn w' a c ps := ⟨h.rows.kp k, h.le, h.max⟩
theorem RelsIn.kp {w w' : World} {a c rs} (h : RelsIn w a c rs) (k : Kp w w') : RelsIn w' a c rs := ⟨h.rows.kp k, fun r hr => ⟨PairsIn.kp (h.ok r hr).1 k, (h.ok r hr).2⟩, h.len, h.le, h.max⟩
theorem RelsIn.at_ {w : World} {a c rs} (h : RelsIn w a c rs) {k : Nat} {s : PL} (hk : rs[k]? = some s) : ∃ g o, a = some ⟨g, o, none⟩ ∧ w.cell? ⟨g, o + k, none⟩ = some (.slice s.a s.l.length s.c) := by
  have hl := (List.getElem?_eq_some_iff.1 hk).1
  obtain ⟨g, o, e, hc⟩ := h.rows (by simp; omega)
  exact ⟨g, o, e, by have := hc k [s.v] (by rw [List.getElem?_map, hk]; rfl) 0 _ rfl; simpa [PL.v] using this⟩
theorem PairsIn.at_ {w : World} {a c ps} (h : PairsIn w a c ps) {k : Nat} {p : Nat × Nat} (hk : ps[k]? = some p) :
    ∃ g o, a = some ⟨g, o, none⟩ ∧ (∀ i c, (pv p)[i]? = some c → w.cell? ⟨g, o + k * 2 + i, none⟩ = some c) := by
  have hl := (List.getElem?_eq_some_iff.1 hk).1
  obtain ⟨g, o, e, hc⟩ := h.rows (by simp; omega)
  exact ⟨g, o, e, fun i c hi => hc k (pv p) (by rw [List.getElem?_map, hk]; rfl) i c hi⟩
def flat (rs : List PL) : List (Nat × Nat) := rs.flatMap (·.l)
theorem flat_len {w : World} {a c rs} (h : RelsIn w a c rs) (k : Nat) : (flat (rs.take k)).length ≤ 65536 := by
  have : ∀ l : List PL, (∀ r ∈ l, r.l.length ≤ 8192) → (flat l).length ≤ l.length * 8192 := by
    intro l
    induction l with
    | nil => simp [flat]
    | cons r t ih =>
      intro hl
      have h1 := hl r (by simp)
      have h2 := ih fun q hq => hl q (by simp [hq])
      simp only [flat, List.flatMap_cons, List.length_append, List.length_cons] at h2 ⊢
      omega
  have h1 := this (rs.take k) fun r hr => (h.ok r (List.mem_of_mem_take hr)).2.1
  have h2 := h.len
  have h3 : (rs.take k).length ≤ rs.length := by simp; omega
  omega
theorem flat_snoc {rs : List PL} {k : Nat} {s : PL} (h : rs[k]? = some s) : flat (rs.take (k + 1)) = flat (rs.take k) ++ s.l := by
  rw [List.take_add_one, h]; simp [flat]
theorem take_snoc' {α : Type} {l : List α} {k : Nat} {p : α} (h : l[k]? = some p) : l.take (k + 1) = l.take k ++ [p] := by rw [List.take_add_one, h]; rfl
theorem pset_put {w' w : World} {b n : Nat} {S : List (Nat × Nat)} {q : Nat × Nat} {D : DataW Unit} (h : PSet w b n S) (ho : w.ownsMap Tryz.prog 72 unitElem b n D)
    (hD : (∀ p : Nat × Nat, p.1 < 64 ∧ p.2 < 64 → Maps.has D (plit p) = decide (p ∈ S)) ∧ ∀ l, Maps.has D l = true → ∃ p ∈ S, l = plit p) (hq : q.1 < 64 ∧ q.2 < 64)
    (hn : w'.ownsMap Tryz.prog 72 unitElem b (n + 1) (D.put (plit q) (.agg []))) : PSet w' b (n + 1) (S ++ [q]) :=
  ⟨⟨_, hn, put_ok ho.isMap hD hq⟩, fun p hp => by rcases List.mem_append.1 hp with h1 | h1; exact h.lt p h1; simp at h1; subst h1; exact hq⟩
end Md
set_option maxRecDepth 100000 in
set_option maxHeartbeats 4000000 in
theorem arrowsOf_any (a : Option Addr) (c : Nat) (rs : List Md.PL) (w : World) (hin : Md.RelsIn w a c rs) :
    Calls Tryz.prog 55 #[.slice a rs.length c] w fun e w' => ∃ n b, e = .returned (.map (some b)) ∧ w.heap.size ≤ b ∧ n ≤ 65536 ∧ Md.PSet w' b n (Md.flat rs) ∧ Below w.heap.size w w' := by
  have hmax := hin.max; have hle := hin.le
  have HIN := Lib.hid hin; clear hin
  have hmm := @run_makeMap Tryz.prog
  go_enter Tryz.func55, Tryz.ntmps55
  go_wp2
  go_loopw [5, 7, 11, 17] (fun _ _ i _ wr => ∃ k : Nat, k ≤ rs.length ∧ i = .int .i64 (k : Int) ∧ Md.PSet wr w.heap.size (Md.flat (rs.take k)).length (Md.flat (rs.take k)) ∧ Below w.heap.size w wr) (fun _ _ i _ _ => rs.length - (intOf i).toNat)
  case atStart =>
    exact ⟨0, Nat.zero_le _, rfl, Md.PSet.new w, (Below.refl _ _).alloc (Nat.le_refl _) _⟩
  case round =>
    obtain ⟨k, hk, rfl, hps, hbr⟩ := hrel
    obtain ⟨wo, rfl⟩ : ∃ wo : World, wo = wr := ⟨_, rfl⟩
    have HPS := Lib.hid hps; have HBR := Lib.hid hbr
    clear hps hbr
    by_cases hlt : k < rs.length
    · obtain ⟨s, hs⟩ : ∃ s, rs[k]? = some s := ⟨_, List.getElem?_eq_getElem hlt⟩
      obtain ⟨g, o, ea, hcx⟩ := (HIN.out.kp (Ev.kp_below HBR.out)).at_ hs
      have hok := HIN.out.ok s (List.mem_of_getElem? hs)
      have hsl := hok.2.1
      have hsle := hok.1.le; have hsmax := hok.1.max
      have HOK := Lib.hid hok
      have HFS := Lib.hid (Md.flat_snoc hs)
      have HFL := Lib.hid (Md.flat_len HIN.out k)
      have hki : (k : Int) < (rs.length : Int) := by omega
      clear hok hs
      rw [ea]; clear ea
      go_wp2
      go_loopw [7, 17] (fun _ i wr => ∃ m : Nat, m ≤ s.l.length ∧ i = .int .i64 (m : Int) ∧ Md.PSet wr w.heap.size ((Md.flat (rs.take k)).length + m) (Md.flat (rs.take k) ++ s.l.take m) ∧ Below w.heap.size w wr) (fun _ i _ => s.l.length - (intOf i).toNat)
      case atStart =>
        exact ⟨0, Nat.zero_le _, rfl, by simpa using HPS.out, HBR.out⟩
      case round =>
        clear hcx
        obtain ⟨m, hm, rfl, hps, hbr⟩ := hrel
        have HPS2 := Lib.hid hps; have HBR2 := Lib.hid hbr
        clear hps hbr
        by_cases hml : m < s.l.length
        · obtain ⟨p, hp⟩ : ∃ p, s.l[m]? = some p := ⟨_, List.getElem?_eq_getElem hml⟩
          obtain ⟨g2, o2, ea2, hc2⟩ := Md.PairsIn.at_ (Md.PairsIn.kp HOK.out.1 (Ev.kp_below HBR2.out)) hp
          have hpb := HOK.out.2.2 p (List.mem_of_getElem? hp)
          have HKEY := Lib.hid (Md.key_mk hpb)
          have HPB := Lib.hid hpb
          have HTS := Lib.hid (Md.take_snoc' hp)
          have HC2 := Lib.hid hc2
          obtain ⟨D, ho, hD⟩ := HPS2.out.ex
          have HO := Lib.hid ho; have HD := Lib.hid hD
          have hnl : (Md.flat (rs.take k)).length + m ≤ 131072 := by have := HFL.out; omega
          have HNL := Lib.hid hnl
          have hmi : (m : Int) < (s.l.length : Int) := by omega
          clear hp hc2 hpb ho hD hnl
          rw [ea2]; clear ea2
          go_wp2_with (first
            | ((with_reducible show wpList _ _ _ (Oper.mk (some 20) _ _ _ _ _ :: _) _ _); refine wpList_load_at rfl 72 (.tmp 19) rfl g2 (o2 + m * 2) (by kernel_rfl) [.int .i64 (p.1 : Int), .int .i64 (p.2 : Int)] _ HC2.out Tryz.underlying72 rfl (by kernel_rfl) ?_)
            | ((with_reducible show wpList _ _ _ (Oper.mk none (Op.store 72 _ _) _ _ _ _ :: _) _ _); refine wpList_store_own rfl 72 (.tmp 7) (.tmp 20) rfl wr.heap.size #[.int .i64 (p.1 : Int), .int .i64 (p.2 : Int)] rfl rfl 72 #[.int .i64 0, .int .i64 0] (heap_alloc_new _ _) (by kernel_rfl) (by kernel_rfl) (by kernel_rfl) ?_
               intro W1 HW1
               have B1 := Lib.hid (((Below.refl wr.heap.size wr).alloc (Nat.le_refl _) _).trans HW1.below)
               have RW1 := Lib.hid HW1.row
               clear HW1)
            | ((with_reducible show wpList _ _ _ (Oper.mk (some 22) _ _ _ _ _ :: _) _ _); refine wpList_load_row rfl 72 (.tmp 7) rfl wr.heap.size (by kernel_rfl) 72 #[.int .i64 (p.1 : Int), .int .i64 (p.2 : Int)] (0, 0) _ RW1.out Tryz.underlying72 rfl (by kernel_rfl) ?_)
            | (at_mapUpdate; refine wpList_mapUpdate_own _ rfl _ _ _ 77 rfl 72 94 Md.law_pair Tryz.underlying77 unitElem (w.heap.size) _ D rfl (HO.out.kept (row := none) (World.grownBy.but_of B1.out) (by simp)) (by have := HNL.out; unfold maxLen; omega) _ _ _ rfl rfl HKEY.out (.agg []) [] unitElem_mk ?_
               intro w1 hown1 hgrow1
               have HN := Lib.hid hown1; have HG := Lib.hid hgrow1
               clear hown1 hgrow1))
          try go_frame
          go_roundw
          case rel =>
            refine ⟨m + 1, by omega, by go_num, ?_, (HBR2.out.trans (B1.out.mono HBR2.out.size)).grown HG.out (Nat.le_trans HBR2.out.size B1.out.size) (fun j hj => by cases hj; omega)⟩
            rw [HTS.out, ← List.append_assoc, ← Nat.add_assoc]
            exact Md.pset_put (HPS2.out.kp B1.out) (HO.out.kept (row := none) (World.grownBy.but_of B1.out) (by simp)) HD.out HPB.out HN.out
          case measure => simp [intOf]; omega
        · have hmi : ¬ (m : Int) < (s.l.length : Int) := by omega
          have HM := Lib.hid (show m = s.l.length by omega)
          clear hml
          go_wp2
          go_roundw
          case rel =>
            refine ⟨k + 1, by omega, by go_num, ?_, HBR2.out⟩
            have h := HPS2.out
            rw [HM.out, List.take_length, ← HFS.out] at h
            rw [HFS.out, List.length_append, ← HFS.out]
            exact h
          case measure => simp [intOf]; omega
    · have hki : ¬ (k : Int) < (rs.length : Int) := by omega
      have HK := Lib.hid (show k = rs.length by omega)
      clear hlt
      go_wp2
      go_ret
      have h := HPS.out
      have hl := Md.flat_len HIN.out k
      rw [HK.out, List.take_length] at h hl
      exact ⟨_, _, rfl, Nat.le_refl _, hl, h, HBR.out⟩
end Go.Proofs.YtnjnpbabgefaeaaGreat
end
