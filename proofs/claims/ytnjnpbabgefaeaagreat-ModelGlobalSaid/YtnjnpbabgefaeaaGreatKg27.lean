import Derived.Test.YtnjnpbabgefaeaaGreatKg23
import Derived.Test.YtnjnpbabgefaeaaGreatKg03
import Derived.Laws.MakeOwn
import Derived.BigGuardPart
import Derived.Deep.QuietTactic
import Derived.BigQuiet
import Derived.Test.YtnjnpbabgefaeaaGreatKg06
import Derived.Test.YtnjnpbabgefaeaaGreatKg24
import Derived.Test.YtnjnpbabgefaeaaGreatKg19
import Derived.Test.YtnjnpbabgefaeaaGreatKg04
set_option linter.unusedVariables false
set_option linter.unusedSimpArgs false

section
namespace Go.Proofs.YtnjnpbabgefaeaaGreat
open Go.RowKit
namespace Ev
def GBlk (w : World) (g : Nat) (G : List Bool) : Prop := w.heap[g]? = some (.cells (G.map Value.bool).toArray 4 (0, 0))
theorem GBlk.cell {w : World} {g : Nat} {G : List Bool} (h : GBlk w g G) {i : Nat} (hi : i < G.length) : w.cell? ⟨g, i, none⟩ = some (.bool (G.getD i false)) := by
  rw [cell_of_row w g i _ _ _ h]
  simp [List.getD, hi]
theorem GBlk.set_ {w : World} {g : Nat} {G : List Bool} (h : GBlk w g G) (i : Nat) : GBlk (w.setCell ⟨g, i, none⟩ (.bool true)) g (G.set i true) := by
  unfold GBlk at h ⊢
  simp [World.setCell, Array.getElem?_modify, h, List.map_set]
theorem GBlk.frozen {w : World} {g : Nat} {G : List Bool} (h : GBlk w g G) (i : Nat) : w.frozen? ⟨g, i, none⟩ = false := by
  unfold GBlk at h
  simp [World.frozen?, h]
end Ev
end Go.Proofs.YtnjnpbabgefaeaaGreat
end

section
namespace Go.Proofs.YtnjnpbabgefaeaaGreat
open Go.RowKit
set_option maxRecDepth 100000 in
set_option maxHeartbeats 8000000 in
theorem wide8_any (x : Ev.X) (w : World) (hin : Ev.XIn w x) : Calls Tryz.prog 11 #[Ev.exV x] w (Ev.CPost (fun b => b = false → x.ev.length ≤ 20 ∧ x.fr.l.length ≤ 200 ∧ x.od.length ≤ 200) w) := by
  have HIN := Lib.hid hin
  have e1 := hin.ev.le; have e2 := hin.ev.max; have e3 := hin.fr.2.1; have e4 := hin.fr.2.2.1; have e5 := hin.od.le; have e6 := hin.od.max
  clear hin
  have R0 := Lib.hid (heap_alloc_new w (.cells (Ev.xcells x).toArray 26))
  have B0 := Lib.hid ((Below.refl w.heap.size w).alloc (Nat.le_refl _) (.cells (Ev.xcells x).toArray 26))
  have c0 : (w.alloc (.cells (Ev.xcells x).toArray 26)).cell? ⟨w.heap.size, 0, none⟩ = some (.slice x.ae x.ev.length x.ce) := by rw [cell_of_row _ _ _ _ _ _ R0.out]; rfl
  have c1 : (w.alloc (.cells (Ev.xcells x).toArray 26)).cell? ⟨w.heap.size, 1, none⟩ = some (.slice x.fr.a x.fr.l.length x.fr.c) := by rw [cell_of_row _ _ _ _ _ _ R0.out]; rfl
  have c2 : (w.alloc (.cells (Ev.xcells x).toArray 26)).cell? ⟨w.heap.size, 2, none⟩ = some (.slice x.ao x.od.length x.co) := by rw [cell_of_row _ _ _ _ _ _ R0.out]; rfl
  have C0 := Lib.hid c0; have C2 := Lib.hid c2
  unfold Ev.xcells at c0 c1 c2
  unfold Ev.exV Ev.xcells
  have FIN := Lib.hid (show ∀ (e : Ending) (w' : World), e = .returned (.bool true) → Below w.heap.size w w' → Ev.CPost (fun b => b = false → x.ev.length ≤ 20 ∧ x.fr.l.length ≤ 200 ∧ x.od.length ≤ 200) w e w' from fun _ _ h1 h2 => Ev.CPost.mk true h1 (fun h => by cases h) h2)
  by_cases t0 : 20 < x.ev.length
  · have hi : (20 : Int) < (x.ev.length : Int) := by omega
    clear t0
    go_enter Tryz.func11, Tryz.ntmps11
    go_wp2
    try (go_step3; go_wp2)
    try rw [Exit.noGoto_ret]
    go_ret
    exact FIN.out _ _ rfl B0.out
  have hi0 : ¬ (20 : Int) < (x.ev.length : Int) := by omega
  by_cases t1 : 200 < x.fr.l.length
  · have hi : (200 : Int) < (x.fr.l.length : Int) := by omega
    clear t1 t0
    go_enter Tryz.func11, Tryz.ntmps11
    go_wp2
    try (go_step3; go_wp2)
    try rw [Exit.noGoto_ret]
    go_ret
    exact FIN.out _ _ rfl B0.out
  have hi1 : ¬ (200 : Int) < (x.fr.l.length : Int) := by omega
  by_cases t2 : 200 < x.od.length
  · have hi : (200 : Int) < (x.od.length : Int) := by omega
    clear t2 t1 t0
    go_enter Tryz.func11, Tryz.ntmps11
    go_wp2
    try (go_step3; go_wp2)
    try rw [Exit.noGoto_ret]
    go_ret
    exact FIN.out _ _ rfl B0.out
  have hi2 : ¬ (200 : Int) < (x.od.length : Int) := by omega
  go_enter Tryz.func11, Tryz.ntmps11
  go_wp2
  try (go_step3; go_wp2)
  clear c0 c1 c2
  go_loopw [3, 4] (fun m i wr => ∃ (n : Int) (k : Nat), k ≤ x.od.length ∧ m = .int .i64 n ∧ i = .int .i64 (k : Int) ∧ wr.cell? ⟨w.heap.size, 0, none⟩ = some (.slice x.ae x.ev.length x.ce) ∧ wr.cell? ⟨w.heap.size, 2, none⟩ = some (.slice x.ao x.od.length x.co) ∧ Below w.heap.size w wr) (fun _ i _ => x.od.length - (intOf i).toNat)
  case atStart => exact ⟨_, 0, Nat.zero_le _, rfl, rfl, C0.out, C2.out, B0.out⟩
  case round =>
    obtain ⟨n, k, hk, rfl, rfl, c0, c2, hbr⟩ := hrel
    have HBR := Lib.hid hbr; have D0 := Lib.hid c0; have D2 := Lib.hid c2
    clear hbr
    by_cases hlt : k < x.od.length
    · have hki : (k : Int) < (x.od.length : Int) := by omega
      obtain ⟨s, hs⟩ : ∃ s, x.od[k]? = some s := ⟨_, List.getElem?_eq_getElem hlt⟩
      obtain ⟨g, o, ea, cs⟩ := (HIN.out.od.kp (Ev.kp_below HBR.out)).at_ hs
      rw [ea] at c2
      clear ea hs c0
      go_wp2
      · try rw [Exit.noGoto_ret]
        go_ret
        exact FIN.out _ _ rfl HBR.out
      · exact ⟨⟨_, k + 1, by omega, rfl, by go_num, D0.out, D2.out, HBR.out⟩, by simp [intOf]; omega⟩
    · have hki : ¬ (k : Int) < (x.od.length : Int) := by omega
      go_wp2
      clear c2 c0 D2
      go_loopw [3, 5] (fun m i w2 => ∃ (n : Int) (k : Nat), k ≤ x.ev.length ∧ m = .int .i64 n ∧ i = .int .i64 (k : Int) ∧ w2.cell? ⟨w.heap.size, 0, none⟩ = some (.slice x.ae x.ev.length x.ce) ∧ Below w.heap.size w w2) (fun _ i _ => x.ev.length - (intOf i).toNat)
      case atStart => exact ⟨_, 0, Nat.zero_le _, rfl, rfl, D0.out, HBR.out⟩
      case round =>
        obtain ⟨m, j, hj, rfl, rfl, c0, hb2⟩ := hrel
        have HB2 := Lib.hid hb2; have D0 := Lib.hid c0
        clear hb2
        by_cases hlj : j < x.ev.length
        · have hji : (j : Int) < (x.ev.length : Int) := by omega
          obtain ⟨y, hy⟩ : ∃ y, x.ev[j]? = some y := ⟨_, List.getElem?_eq_getElem hlj⟩
          obtain ⟨g, o, ea, cs⟩ := (HIN.out.ev.kp (Ev.kp_below HB2.out)).at_ hy
          have l1 := cs 10 _ rfl; have l2 := cs 11 _ rfl; have l3 := cs 12 _ rfl
          rw [ea] at c0
          clear ea hy cs
          go_wp2
          go_quiet ((fail))
          go_wp2
          · try rw [Exit.noGoto_ret]
            go_ret
            exact FIN.out _ _ rfl (below_drewN HB2.out _)
          · exact ⟨⟨_, j + 1, by omega, rfl, by go_num, D0.out, below_drewN HB2.out _⟩, by simp [intOf]; omega⟩
        · have hji : ¬ (j : Int) < (x.ev.length : Int) := by omega
          go_wp2
          try rw [Exit.noGoto_ret]
          go_ret
          exact Ev.CPost.mk false rfl (fun _ => ⟨by omega, by omega, by omega⟩) HB2.out
end Go.Proofs.YtnjnpbabgefaeaaGreat
end

section
namespace Go.Proofs.YtnjnpbabgefaeaaGreat
open Go.RowKit
namespace Or
def ms (a b : Nat) : List Nat := (List.range (b - (a + 1))).map fun i => a + 1 + i
theorem ms_len (a b : Nat) : (ms a b).length = b - (a + 1) := by simp [ms]
theorem ms_get {a b k : Nat} (h : a + 1 + k < b) : (ms a b)[k]? = some (a + 1 + k) := by
  unfold ms; rw [List.getElem?_map, List.getElem?_range (by omega)]; rfl
theorem ms_at {a b k m : Nat} (h : (ms a b)[k]? = some m) : m = a + 1 + k ∧ a + 1 + k < b := by
  have hl := (List.getElem?_eq_some_iff.1 h).1
  rw [ms_len] at hl
  rw [ms_get (by omega)] at h
  exact ⟨(Option.some.inj h).symm, by omega⟩
theorem ms_mem {a b m : Nat} : m ∈ ms a b ↔ a < m ∧ m < b := by
  unfold ms
  constructor
  · intro h
    obtain ⟨i, hi, rfl⟩ := List.mem_map.1 h
    have := List.mem_range.1 hi
    omega
  · intro h
    exact List.mem_map.2 ⟨m - (a + 1), List.mem_range.2 (by omega), by omega⟩
end Or
set_option maxRecDepth 100000 in
set_option maxHeartbeats 4000000 in
theorem between_iter (m : Nat) (hm : 1 ≤ m) (ca cb a b : Nat) (ha : a < 9223372036854775807) (hb : b ≤ 9223372036854775807) :
    Og.IterL Fence.wide m Tryz.prog 169 #[.pointer (some ⟨ca, 0, none⟩), .pointer (some ⟨cb, 0, none⟩)] (fun W => Or.Box W ca 3 (.int .i64 (a : Int)) ∧ Or.Box W cb 3 (.int .i64 (b : Int))) (fun k : Nat => #[.int .i64 (k : Int)]) (Or.ms a b) := by
  intro l J Jx W hst hR hY h0
  have HST := Lib.hid hst; have HR := Lib.hid hR; have HY := Lib.hid hY; have H0 := Lib.hid h0
  have c1 := (hR _ _ h0).1.cell
  clear hst hR hY h0
  refine callsIn_of_wp Tryz.func169 rfl trivial ?_ rfl
  simp only [Tryz.ntmps169, List.size_toArray, List.length_cons, List.length_nil, Nat.reduceAdd, Nat.reduceSub, Array.replicate_succ, Array.replicate_zero, List.push_toArray, List.append_toArray, List.nil_append, List.cons_append]
  gi_wp2_with fail
  clear c1
  gi_loopw [4] (fun i wr => ∃ k : Nat, k ≤ (Or.ms a b).length ∧ i = .int .i64 ((a : Int) + 1 + (k : Int)) ∧ J k wr) (fun i _ => b - (intOf i).toNat)
  case atStart => exact ⟨0, Nat.zero_le _, by go_num, H0.out⟩
  case round =>
    obtain ⟨k, hk, rfl, hj⟩ := hrel
    have HJ := Lib.hid hj
    have c2 := (HR.out _ _ hj).2.cell
    have HLEN := Lib.hid (Or.ms_len a b)
    rw [HLEN.out] at hk
    clear hj
    by_cases hlt : a + 1 + k < b
    · have hi : (a : Int) + 1 + (k : Int) < (b : Int) := by omega
      have HG := Lib.hid (Or.ms_get hlt)
      obtain ⟨fn, tmps, assign, body, hy, hRd⟩ := HY.out k _ wr HG.out HJ.out
      rw [show ((a + 1 + k : Nat) : Int) = (a : Int) + 1 + (k : Int) by omega] at hy
      gi_wp2_with fail
      refine hRd.mono ?_
      rintro e W3 (⟨rfl, hJ3⟩ | ⟨rfl, hJx3⟩)
      · have HJ3 := Lib.hid hJ3; clear hJ3 hy hRd
        gi_wp2_with fail
        go_roundw
        case rel => exact ⟨k + 1, by rw [HLEN.out]; omega, by go_num, HJ3.out⟩
        case measure => simp [intOf]; omega
      · have HJ3 := Lib.hid hJx3; clear hJx3 hy hRd
        gi_wp2_with fail
        refine bodyPost_ret (results_none rfl _ _ _) rfl ?_
        exact ⟨⟨_, rfl⟩, .inr HJ3.out⟩
    · have hi : ¬ (a : Int) + 1 + (k : Int) < (b : Int) := by omega
      have HK := Lib.hid (show k = (Or.ms a b).length by rw [HLEN.out]; omega)
      gi_wp2_with fail
      refine bodyPost_end (results_none rfl _ _ _) rfl ?_
      exact ⟨⟨_, rfl⟩, .inl (by rw [← HK.out]; exact HJ.out)⟩
end Go.Proofs.YtnjnpbabgefaeaaGreat
end

section
namespace Go.Proofs.YtnjnpbabgefaeaaGreat
open Go.RowKit
namespace Ev
end Ev
namespace Ev
theorem PairsIn.at_ {w : World} {a : Option Addr} {c : Nat} {ps : List (Nat × Nat)} (h : PairsIn w a c ps) {k : Nat} {p : Nat × Nat} (hk : ps[k]? = some p) :
    ∃ g o, a = some ⟨g, o, none⟩ ∧ ∀ i c, (pv p)[i]? = some c → w.cell? ⟨g, o + k * 2 + i, none⟩ = some c := by
  have hl := (List.getElem?_eq_some_iff.1 hk).1
  obtain ⟨g, o, e, hc⟩ := h.rows (by simp; omega)
  exact ⟨g, o, e, fun i c hi => hc k (pv p) (by rw [List.getElem?_map, hk]; rfl) i c hi⟩
theorem PairsIn.kp {w w' : World} {a : Option Addr} {c : Nat} {ps : List (Nat × Nat)} (h : PairsIn w a c ps) (k : Kp w w') : PairsIn w' a c ps := ⟨h.rows.kp k, h.le, h.max⟩
end Ev
end Go.Proofs.YtnjnpbabgefaeaaGreat
end

section
namespace Go.Proofs.YtnjnpbabgefaeaaGreat
open Go.RowKit
set_option maxRecDepth 100000 in
set_option maxHeartbeats 4000000 in
theorem rule_no (x : Ev.X) (r : Int) (a b : Nat) (ha : a < x.ev.length) (hb : b < x.ev.length) (hno : Ev.isPo x a b = false ∨ (Ev.nth x.ev a).k = 4 ∨ (Ev.nth x.ev b).k = 4) (w : World) (hin : Ev.XIn w x) :
    Calls Tryz.prog 65 #[Ev.exV x, .int .i64 r, .int .i64 (a : Int), .int .i64 (b : Int)] w fun e w' => e = .returned (.bool false) ∧ Below w.heap.size w w' := by
  have hl1 := hin.ev.le; have hl2 := hin.ev.max
  obtain ⟨B, hB⟩ : ∃ B, B = w.alloc (Obj.cells (Ev.xcells x).toArray 26) := ⟨_, rfl⟩
  have HB := Lib.hid hB
  have B0 := Lib.hid (show Below w.heap.size w B by rw [hB]; exact (Below.refl w.heap.size w).alloc (Nat.le_refl _) _)
  have HX := Lib.hid (show Ev.XIn B x from hin.kp (Ev.kp_below B0.out))
  have RX := Lib.hid (show B.heap[w.heap.size]? = some (.cells (Ev.xcells x).toArray 26 (0, 0)) by rw [hB]; exact heap_alloc_new _ _)
  obtain ⟨e, he⟩ : ∃ e, x.ev[a]? = some e := ⟨_, List.getElem?_eq_getElem ha⟩
  obtain ⟨f, hf⟩ : ∃ f, x.ev[b]? = some f := ⟨_, List.getElem?_eq_getElem hb⟩
  obtain ⟨g, o, eg, hce⟩ := HX.out.ev.at_ he
  obtain ⟨g', o', eg', hcf⟩ := HX.out.ev.at_ hf
  obtain ⟨rfl, rfl⟩ : g' = g ∧ o' = o := by rw [eg] at eg'; cases eg'; exact ⟨rfl, rfl⟩
  have HEO := Lib.hid (HX.out.ev.ok_ he); have HFO := Lib.hid (HX.out.ev.ok_ hf)
  have HE := Lib.hid (Ev.nth_some he); have HF := Lib.hid (Ev.nth_some hf)
  have HCE := Lib.hid hce; have HCF := Lib.hid hcf
  have hai : (a : Int) < (x.ev.length : Int) := by omega
  have hbi : (b : Int) < (x.ev.length : Int) := by omega
  have CX := Lib.hid (show ∀ W, Below B.heap.size B W → W.cell? ⟨w.heap.size, 0, none⟩ = some (.slice (some ⟨g', o', none⟩) x.ev.length x.ce) from fun W h => by
    rw [← eg]; exact Ev.xcell0 ((h.block w.heap.size (Array.getElem?_eq_some_iff.1 RX.out).1).trans RX.out))
  clear hin hB he hf eg eg' hce hcf
  obtain ⟨po, hpo⟩ : ∃ v, Ev.isPo x a b = v := ⟨_, rfl⟩
  have HPO := Lib.hid hpo
  rw [hpo, HE.out, HF.out] at hno
  clear hpo
  obtain ⟨bx0⟩ : Nonempty (B.cell? ⟨w.heap.size, 0, none⟩ = some (.slice (some ⟨g', o', none⟩) x.ev.length x.ce)) := ⟨CX.out B (Below.refl _ _)⟩
  unfold Ev.exV Ev.xcells
  go_enter Tryz.func65, Tryz.ntmps65
  go_wp2_with (first
    | ((with_reducible show wpList _ _ _ (Oper.mk (some 16) _ _ _ _ _ :: _) _ _); (try rw [show w.alloc (Obj.cells #[Value.slice x.ae x.ev.length x.ce, Value.slice x.fr.a x.fr.l.length x.fr.c, Value.slice x.ao x.od.length x.co] 26) = B from HB.out.symm]); refine wpList_load_row rfl 26 (.tmp 4) rfl w.heap.size (by kernel_rfl) 26 (Ev.xcells x).toArray (0, 0) _ RX.out Tryz.underlying26 rfl (by kernel_rfl) ?_))
  refine (rpo_is HPO.out ha hb _ HX.out).mono ?_
  rintro q W1 ⟨rfl, hb1⟩
  have B1 := Lib.hid hb1
  have cx := CX.out W1 hb1
  have cek : W1.cell? ⟨g', o' + a * 13 + 1, none⟩ = some (.int .i64 e.k) := Ev.kp_below hb1 _ _ (HCE.out 1 _ rfl)
  have cfk : W1.cell? ⟨g', o' + b * 13 + 1, none⟩ = some (.int .i64 f.k) := Ev.kp_below hb1 _ _ (HCF.out 1 _ rfl)
  clear hb1 bx0
  cases po
  · clear hno
    go_wp2_with fail
    go_ret
    exact ⟨rfl, B0.out.trans (B1.out.mono B0.out.size)⟩
  by_cases h1 : e.k = 4
  · have t1 : (e.k == 4) = true := by simpa using h1
    clear hno h1
    go_wp2_with fail
    go_ret
    exact ⟨rfl, B0.out.trans (B1.out.mono B0.out.size)⟩
  have t1 : (e.k == 4) = false := by simpa using h1
  have t2 : (f.k == 4) = true := by simpa [h1] using hno
  clear hno h1
  go_wp2_with fail
  go_ret
  exact ⟨rfl, B0.out.trans (B1.out.mono B0.out.size)⟩
end Go.Proofs.YtnjnpbabgefaeaaGreat
end

section
namespace Go.Proofs.YtnjnpbabgefaeaaGreat
open Go.RowKit
namespace Ev
def upTo (a m : Nat) : List Nat := (List.range (m - (a + 1))).map fun i => a + 1 + i
theorem upTo_zero (a : Nat) : upTo a (a + 1) = [] := by unfold upTo; simp
theorem upTo_succ {a m : Nat} (h : a + 1 ≤ m) : upTo a (m + 1) = upTo a m ++ [m] := by
  unfold upTo
  rw [show m + 1 - (a + 1) = (m - (a + 1)) + 1 by omega, List.range_succ, List.map_append]
  simp; omega
def cl (x : X) (a m : Nat) : Bool := !(stores (nth x.ev m).k && (nth x.ev m).a == (nth x.ev a).a)
def so (x : X) (K : Nat) (a b m : Nat) : Bool :=
  if K = 4 then (nth x.ev m).k == 4 && inSet (nth x.ev m).p (nth x.ev a) && inSet (nth x.ev m).s (nth x.ev b)
  else if K = 12 then loads (nth x.ev b).k && stores (nth x.ev m).k && frAt x b == (m : Int) && (decide (0 ≤ at_ (nth x.ev m).d1.l a) || decide (0 ≤ at_ (nth x.ev m).d2.l a))
  else if K = 13 then stores (nth x.ev b).k && decide (0 ≤ at_ (nth x.ev m).d1.l a) else false
theorem all_succ {p : Nat → Bool} {a m : Nat} (h : a + 1 ≤ m) : (upTo a (m + 1)).all p = ((upTo a m).all p && p m) := by rw [upTo_succ h, List.all_append]; simp
theorem any_succ {p : Nat → Bool} {a m : Nat} (h : a + 1 ≤ m) : (upTo a (m + 1)).any p = ((upTo a m).any p || p m) := by rw [upTo_succ h, List.any_append]; simp
theorem rule2_is (x : X) (a b : Nat) : ruleOf x 2 a b = (loads (nth x.ev a).k && loads (nth x.ev b).k && (nth x.ev a).a == (nth x.ev b).a && !(frAt x a == frAt x b) && (upTo a b).all (cl x a)) := rfl
theorem rule4_is (x : X) (a b : Nat) : ruleOf x 4 a b = (upTo a b).any (so x 4 a b) := by
  show (upTo a b).any _ = _
  congr 1 <;> (funext m; simp [so])
theorem rule12_is (x : X) (a b : Nat) : ruleOf x 12 a b = (upTo a b).any (so x 12 a b) := by
  show (upTo a b).any _ = _
  congr 1 <;> (funext m; simp [so])
theorem rule13_is (x : X) (a b : Nat) : ruleOf x 13 a b = (upTo a b).any (so x 13 a b) := by
  show (upTo a b).any _ = _
  congr 1 <;> (funext m; simp [so])
theorem po_lt {x : X} {a b : Nat} (h : isPo x a b = true) : a < b := by
  unfold isPo at h
  simp only [Bool.and_eq_true, decide_eq_true_eq] at h
  exact h.1.1
end Ev
end Go.Proofs.YtnjnpbabgefaeaaGreat
end
