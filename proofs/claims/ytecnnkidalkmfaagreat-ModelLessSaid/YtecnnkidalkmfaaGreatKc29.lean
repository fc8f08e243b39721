import Derived.Test.YtecnnkidalkmfaaGreatKc28
import Derived.StillTailTactics
import Derived.Shelf.SlSortCmp.NoneTotal
import Derived.Shelf.SlGeneric
import Derived.Ground.SlsfProg
import Derived.Test.YtecnnkidalkmfaaGreatProg
import Derived.Test.YtecnnkidalkmfaaGreatKc11
set_option linter.unusedVariables false
set_option linter.unusedSimpArgs false

section
namespace Go.Proofs.YtecnnkidalkmfaaGreat
open Go.RowKit
def Md.cmpI (a b : Int) : Int := if a < b then -1 else if b < a then 1 else 0
def Md.orI (a b : Int) : Int := if a = 0 then b else a
def Md.cmpP (p q : Nat × Nat) : Int := Md.orI (Md.cmpI (p.1 : Int) (q.1 : Int)) (Md.cmpI (p.2 : Int) (q.2 : Int))
theorem isNaN_any (a : Int) (w : World) : Calls Tryz.prog 90 #[.int .i64 a] w fun e w' => e = .returned (.bool false) ∧ w = w' := by
  go_enter Tryz.func90, Tryz.ntmps90
  go_wp2
  go_ret
  exact ⟨rfl, rfl⟩
set_option maxHeartbeats 1000000 in
theorem compare_any (a b : Int) (w : World) : Calls Tryz.prog 64 #[.int .i64 a, .int .i64 b] w fun e w' => e = .returned (.int .i64 (Md.cmpI a b)) ∧ w = w' := by
  obtain ⟨r, hr⟩ : ∃ r, Md.cmpI a b = r := ⟨_, rfl⟩
  have HR := Lib.hid hr
  rw [hr]
  clear hr
  have hc : a < b ∨ (¬ a < b ∧ b < a) ∨ (¬ a < b ∧ ¬ b < a) := by omega
  rcases hc with h | ⟨h1, h2⟩ | ⟨h1, h2⟩
  · have HV := Lib.hid (show r = -1 by rw [← HR.out]; unfold Md.cmpI; rw [if_pos h])
    go_enter Tryz.func64, Tryz.ntmps64
    go_wp2_with (go_at_call 90; refine (isNaN_any _ _).mono ?_; rintro e w' ⟨rfl, rfl⟩)
    go_ret
    exact ⟨by rw [HV.out]; rfl, rfl⟩
  · have HV := Lib.hid (show r = 1 by rw [← HR.out]; unfold Md.cmpI; rw [if_neg h1, if_pos h2])
    go_enter Tryz.func64, Tryz.ntmps64
    go_wp2_with (go_at_call 90; refine (isNaN_any _ _).mono ?_; rintro e w' ⟨rfl, rfl⟩)
    go_ret
    exact ⟨by rw [HV.out]; rfl, rfl⟩
  · have HV := Lib.hid (show r = 0 by rw [← HR.out]; unfold Md.cmpI; rw [if_neg h1, if_neg h2])
    go_enter Tryz.func64, Tryz.ntmps64
    go_wp2_with (go_at_call 90; refine (isNaN_any _ _).mono ?_; rintro e w' ⟨rfl, rfl⟩)
    go_ret
    exact ⟨by rw [HV.out]; rfl, rfl⟩
set_option maxHeartbeats 1000000 in
theorem cmpOr_any (g : Nat) (a b : Int) (w : World) (h0 : w.cell? ⟨g, 0, none⟩ = some (.int .i64 a)) (h1 : w.cell? ⟨g, 1, none⟩ = some (.int .i64 b)) :
    Calls Tryz.prog 63 #[.slice (some ⟨g, 0, none⟩) 2 2] w fun e w' => e = .returned (.int .i64 (Md.orI a b)) ∧ w = w' := by
  obtain ⟨r, hr⟩ : ∃ r, Md.orI a b = r := ⟨_, rfl⟩
  have HR := Lib.hid hr
  rw [hr]
  clear hr
  by_cases ha : a = 0
  · subst ha
    by_cases hb : b = 0
    · subst hb
      have HV := Lib.hid (show r = 0 by rw [← HR.out]; rfl)
      go_enter Tryz.func63, Tryz.ntmps63
      go_wp2
      refine wp_loop_rounds 3 ?_
      rw [rounds_succ]
      go_wp2
      rw [rounds_succ]
      go_wp2
      rw [rounds_succ]
      go_wp2
      go_ret
      exact ⟨by rw [HV.out]; rfl, rfl⟩
    · have HV := Lib.hid (show r = b by rw [← HR.out]; rfl)
      have hb' : (b != 0) = true := by simpa using hb
      go_enter Tryz.func63, Tryz.ntmps63
      go_wp2
      refine wp_loop_rounds 3 ?_
      rw [rounds_succ]
      go_wp2
      rw [rounds_succ]
      go_wp2
      go_ret
      exact ⟨by rw [HV.out]; rfl, rfl⟩
  · have HV := Lib.hid (show r = a by rw [← HR.out]; unfold Md.orI; rw [if_neg ha])
    have ha' : (a != 0) = true := by simpa using ha
    go_enter Tryz.func63, Tryz.ntmps63
    go_wp2
    refine wp_loop_rounds 3 ?_
    rw [rounds_succ]
    go_wp2
    go_ret
    exact ⟨by rw [HV.out]; rfl, rfl⟩
theorem Md.grow3 (w : World) (a b c : Obj) : World.alloc { (w.alloc a).alloc b with drawn := ((w.alloc a).alloc b).drawn + 1 } c = Sort.grow (w.drewN 1) #[a, b, c] := by
  have h : ((w.heap.push a).push b).push c = w.heap ++ #[a, b, c] := by apply Array.ext'; simp
  unfold Sort.grow World.drewN
  rw [← h]
  rfl
set_option maxRecDepth 100000 in
set_option maxHeartbeats 2000000 in
theorem cmpP_any (p q : Nat × Nat) (w : World) : Calls Tryz.prog 62 #[Md.pkV p, Md.pkV q] w fun e w' => e = .returned (.int .i64 (Md.cmpP p q)) ∧ ∃ n os', w' = Sort.grow (w.drewN n) os' := by
  unfold Md.pkV
  obtain ⟨r, hr⟩ : ∃ r, Md.cmpP p q = r := ⟨_, rfl⟩
  have HR := Lib.hid hr
  rw [hr]
  clear hr
  go_enter Tryz.func62, Tryz.ntmps62
  go_wp2
  obtain ⟨B, hB⟩ : ∃ B, B = (w.alloc (.cells #[.int .i64 (p.1 : Int), .int .i64 (p.2 : Int)] 72)).alloc (.cells #[.int .i64 (q.1 : Int), .int .i64 (q.2 : Int)] 72) := ⟨_, rfl⟩
  rw [← hB]
  obtain ⟨V, hV⟩ : ∃ V : World, V = { B with drawn := B.drawn + 1 } := ⟨_, rfl⟩
  have r0 : V.heap[w.heap.size]? = some (.cells #[.int .i64 (p.1 : Int), .int .i64 (p.2 : Int)] 72 (0, 0)) := by
    rw [hV, hB]; exact (((Below.refl _ _).alloc (Nat.le_refl _) _).block _ (by simp)).trans (heap_alloc_new w _)
  have r1 : V.heap[w.heap.size + 1]? = some (.cells #[.int .i64 (q.1 : Int), .int .i64 (q.2 : Int)] 72 (0, 0)) := by
    rw [hV, hB]; have h := heap_alloc_new (w.alloc (.cells #[.int .i64 (p.1 : Int), .int .i64 (p.2 : Int)] 72)) (.cells #[.int .i64 (q.1 : Int), .int .i64 (q.2 : Int)] 72); rw [World.size_alloc] at h; exact h
  have c0 : V.cell? ⟨w.heap.size, 0, none⟩ = some (.int .i64 (p.1 : Int)) := by rw [cell_of_row _ _ _ _ _ _ r0]; rfl
  have c1 : V.cell? ⟨w.heap.size, 1, none⟩ = some (.int .i64 (p.2 : Int)) := by rw [cell_of_row _ _ _ _ _ _ r0]; rfl
  have c2 : V.cell? ⟨w.heap.size + 1, 0, none⟩ = some (.int .i64 (q.1 : Int)) := by rw [cell_of_row _ _ _ _ _ _ r1]; rfl
  have c3 : V.cell? ⟨w.heap.size + 1, 1, none⟩ = some (.int .i64 (q.2 : Int)) := by rw [cell_of_row _ _ _ _ _ _ r1]; rfl
  have HB := Lib.hid hB; have HV := Lib.hid hV; clear hB r0 r1
  refine wp_region_still_tail 10 (by kernel_rfl) (by kernel_rfl) ?_
  rw [← hV]
  clear hV
  simp only [List.take_succ_cons, List.take_zero, List.drop_succ_cons, List.drop_zero]
  still_step
  still_step
  still_step
  still_step
  still_call ((compare_any _ _ _).mono fun _ _ h => ⟨h.1, h.2.symm⟩)
  still_step
  still_step
  still_step
  still_step
  still_call ((compare_any _ _ _).mono fun _ _ h => ⟨h.1, h.2.symm⟩)
  refine wpStill_nil ?_
  clear c0 c1 c2 c3
  obtain ⟨d1, hd1⟩ : ∃ d, Md.cmpI (p.1 : Int) (q.1 : Int) = d := ⟨_, rfl⟩
  obtain ⟨d2, hd2⟩ : ∃ d, Md.cmpI (p.2 : Int) (q.2 : Int) = d := ⟨_, rfl⟩
  rw [hd1, hd2]
  have HD1 := Lib.hid hd1; have HD2 := Lib.hid hd2
  clear hd1 hd2
  go_wp2_with (go_at_call 63; refine (cmpOr_any V.heap.size d1 d2 _ (by rw [cell_of_row _ _ _ _ _ _ (heap_alloc_new V _)]; rfl) (by rw [cell_of_row _ _ _ _ _ _ (heap_alloc_new V _)]; rfl)).mono ?_; rintro e w' ⟨rfl, rfl⟩)
  go_ret
  refine ⟨?_, 1, #[.cells #[.int .i64 (p.1 : Int), .int .i64 (p.2 : Int)] 72, .cells #[.int .i64 (q.1 : Int), .int .i64 (q.2 : Int)] 72, .cells #[.int .i64 d1, .int .i64 d2] 3], ?_⟩
  · rw [← HR.out, ← HD1.out, ← HD2.out]; rfl
  · rw [HV.out, HB.out]
    exact Md.grow3 w _ _ _
end Go.Proofs.YtecnnkidalkmfaaGreat
end

section
namespace Go.Proofs
open Go.Shelf
def Tryz.sortPairs_ren : Go.Shelf.Ren := ⟨fun | 6 => 88 | 15 => 115 | 14 => 114 | 28 => 146 | 29 => 147 | 20 => 138 | 21 => 139 | 22 => 140 | 23 => 141 | 24 => 142 | 25 => 143 | 26 => 144 | 27 => 145 | 46 => 161 | 47 => 162 | 48 => 163 | 49 => 164 | 50 => 165 | 57 => 168 | n => n, fun | 22 => 37 | 24 => 72 | 25 => 97 | 3 => 3 | 39 => 145 | 0 => 0 | 53 => 46 | 55 => 164 | 4 => 4 | 46 => 157 | 45 => 156 | 50 => 109 | 5 => 5 | 9 => 9 | 66 => 170 | 70 => 174 | 76 => 176 | 77 => 177 | n => n, fun | n => n⟩
theorem Tryz.sortPairs : Go.Proofs.SlLaysF0.n6 Tryz.prog Tryz.sortPairs_ren := {
  mixed := by kernel_rfl
  f6 := ⟨Tryz.f88.name, by decide, Tryz.func88.trans (congrArg some (by kernel_rfl))⟩
  f14 := ⟨Tryz.f114.name, by decide, Tryz.func114.trans (congrArg some (by kernel_rfl))⟩
  f15 := Tryz.func115.trans (congrArg some (by kernel_rfl))
  f20 := ⟨Tryz.f138.name, by decide, Tryz.func138.trans (congrArg some (by kernel_rfl))⟩
  f21 := ⟨Tryz.f139.name, by decide, Tryz.func139.trans (congrArg some (by kernel_rfl))⟩
  f22 := ⟨Tryz.f140.name, by decide, Tryz.func140.trans (congrArg some (by kernel_rfl))⟩
  f23 := ⟨Tryz.f141.name, by decide, Tryz.func141.trans (congrArg some (by kernel_rfl))⟩
  f24 := ⟨Tryz.f142.name, by decide, Tryz.func142.trans (congrArg some (by kernel_rfl))⟩
  f25 := ⟨Tryz.f143.name, by decide, Tryz.func143.trans (congrArg some (by kernel_rfl))⟩
  f26 := ⟨Tryz.f144.name, by decide, Tryz.func144.trans (congrArg some (by kernel_rfl))⟩
  f27 := ⟨Tryz.f145.name, by decide, Tryz.func145.trans (congrArg some (by kernel_rfl))⟩
  f28 := Tryz.func146.trans (congrArg some (by kernel_rfl))
  f29 := Tryz.func147.trans (congrArg some (by kernel_rfl))
  f46 := ⟨Tryz.f161.name, by decide, Tryz.func161.trans (congrArg some (by kernel_rfl))⟩
  f47 := Tryz.func162.trans (congrArg some (by kernel_rfl))
  f48 := Tryz.func163.trans (congrArg some (by kernel_rfl))
  f49 := ⟨Tryz.f164.name, by decide, Tryz.func164.trans (congrArg some (by kernel_rfl))⟩
  f50 := ⟨Tryz.f165.name, by decide, Tryz.func165.trans (congrArg some (by kernel_rfl))⟩
  f57 := ⟨Tryz.f168.name, by decide, Tryz.func168.trans (congrArg some (by kernel_rfl))⟩
  t0 := Tryz.underlying0
  a0 := Tryz.isAgg0
  z0 := Tryz.sizeOf0
  v0 := Tryz.zeroValue0
  t3 := Tryz.underlying3
  a3 := Tryz.isAgg3
  z3 := Tryz.sizeOf3
  v3 := Tryz.zeroValue3
  t4 := Tryz.underlying4
  a4 := Tryz.isAgg4
  z4 := Tryz.sizeOf4
  v4 := Tryz.zeroValue4
  t5 := Tryz.underlying5
  a5 := Tryz.isAgg5
  z5 := Tryz.sizeOf5
  v5 := Tryz.zeroValue5
  t9 := Tryz.underlying9
  a9 := Tryz.isAgg9
  z9 := Tryz.sizeOf9
  v9 := Tryz.zeroValue9
  t22 := Tryz.underlying37
  a22 := Tryz.isAgg37
  z22 := Tryz.sizeOf37
  v22 := Tryz.zeroValue37
  t25 := Tryz.underlying97
  a25 := Tryz.isAgg97
  z25 := Tryz.sizeOf97
  v25 := Tryz.zeroValue97
  t39 := Tryz.underlying145
  a39 := Tryz.isAgg145
  z39 := Tryz.sizeOf145
  v39 := Tryz.zeroValue145
  t45 := Tryz.underlying156
  a45 := Tryz.isAgg156
  z45 := Tryz.sizeOf156
  v45 := Tryz.zeroValue156
  t46 := Tryz.underlying157
  a46 := Tryz.isAgg157
  z46 := Tryz.sizeOf157
  v46 := Tryz.zeroValue157
  t50 := Tryz.underlying109
  a50 := Tryz.isAgg109
  z50 := Tryz.sizeOf109
  v50 := Tryz.zeroValue109
  t53 := Tryz.underlying46
  a53 := Tryz.isAgg46
  z53 := Tryz.sizeOf46
  v53 := Tryz.zeroValue46
  t55 := Tryz.underlying164
  a55 := Tryz.isAgg164
  z55 := Tryz.sizeOf164
  v55 := Tryz.zeroValue164
  t66 := Tryz.underlying170
  a66 := Tryz.isAgg170
  z66 := Tryz.sizeOf170
  v66 := Tryz.zeroValue170
  t70 := Tryz.underlying174
  a70 := Tryz.isAgg174
  z70 := Tryz.sizeOf174
  v70 := Tryz.zeroValue174
  t76 := Tryz.underlying176
  a76 := Tryz.isAgg176
  z76 := Tryz.sizeOf176
  v76 := Tryz.zeroValue176
  t77 := Tryz.underlying177
  a77 := Tryz.isAgg177
  z77 := Tryz.sizeOf177
  v77 := Tryz.zeroValue177 }
end Go.Proofs
end

section
namespace Go.Proofs.YtecnnkidalkmfaaGreat
open Go.RowKit Go.Shelf Go.Lib Go.Sort
namespace Md
def ltP (p q : Nat × Nat) : Bool := decide (p.1 < q.1) || (p.1 == q.1 && decide (p.2 < q.2))
theorem ltOf_cmp : ltOf cmpP = ltP := by
  funext p q
  unfold ltOf cmpP orI cmpI ltP
  rw [Bool.eq_iff_iff]
  simp only [decide_eq_true_eq, Bool.or_eq_true, Bool.and_eq_true, beq_iff_eq]
  by_cases h1 : p.1 < q.1
  · simp [h1]
  · by_cases h2 : q.1 < p.1
    · have : ¬ p.1 = q.1 := by omega
      simp [h1, h2, this]
    · have : p.1 = q.1 := by omega
      by_cases h3 : p.2 < q.2
      · simp [h1, h2, h3, this]
      · by_cases h4 : q.2 < p.2 <;> simp [h1, h2, h3, h4, this]
theorem ltP_iff {p q : Nat × Nat} : ltP p q = true ↔ p.1 < q.1 ∨ (p.1 = q.1 ∧ p.2 < q.2) := by simp [ltP]
theorem ltP_no {p q : Nat × Nat} : ltP p q = false ↔ ¬ (p.1 < q.1 ∨ (p.1 = q.1 ∧ p.2 < q.2)) := by rw [← ltP_iff]; simp
theorem swo : SWO (ltOf cmpP) where
  irrefl x := by rw [ltOf_cmp, ltP_no]; omega
  trans x y z h1 h2 := by rw [ltOf_cmp, ltP_iff] at *; omega
  ntrans x y z h1 h2 := by rw [ltOf_cmp, ltP_no] at *; omega
theorem apart {x y : Nat × Nat} (h1 : ltOf cmpP x y = false) (h2 : ltOf cmpP y x = false) : x = y := by
  rw [ltOf_cmp, ltP_no] at *
  exact Prod.ext (by omega) (by omega)
theorem lays (blk off size : Nat) (w : World) : CmpLays Tryz.prog 62 #[] Ev.pv 2 cmpP blk off size w := fun _ _ _ _ x y => cmpP_any x y _
def le (x y : Nat × Nat) : Bool := !(ltOf cmpP) y x
theorem le_iff {x y : Nat × Nat} : le x y = true ↔ x.1 < y.1 ∨ (x.1 = y.1 ∧ x.2 ≤ y.2) := by
  unfold le
  rw [ltOf_cmp, Bool.not_eq_true', ltP_no]; omega
theorem sorted_ok (ss : List (Nat × Nat)) : (ss.mergeSort le).Pairwise (fun a b => le a b = true) :=
  List.pairwise_mergeSort (fun a b c h1 h2 => by rw [le_iff] at *; omega) (fun a b => by simp only [Bool.or_eq_true, le_iff]; omega) ss
theorem holds_of_row {w : World} {base : Nat} {g cap : Nat} {ss : List (Nat × Nat)} (h : w.ownsRow base 72 2 (.slice (some ⟨g, 0, none⟩) ss.length cap) ss.length (ss.flatMap Ev.pv)) : HoldsK Ev.pv 2 w g 0 ss.toArray ∧ g < w.heap.size ∧ base ≤ g := by
  rcases h.2 with ⟨h, _⟩ | ⟨g', cap', cur, e, hb, hh, hnc, hcm, _, ht⟩
  · simp at h
  · obtain ⟨rfl, rfl⟩ : g = g' ∧ cap = cap' := by simpa using e
    refine ⟨fun j hj => ?_, (Array.getElem?_eq_some_iff.1 hh).1, hb⟩
    have hj2 : j < ss.length * 2 := by simpa using hj
    have hd : j / 2 < ss.length := by omega
    refine ⟨?_, ?_⟩
    · rw [get_flatK _ _ _ _ (by simpa using hj2), cell_of_row w g _ cur 72 (0, 0) hh]
      have h1 := Ev.pv_flat ss (j / 2) ss[j / 2] (j % 2) ((Ev.pv ss[j / 2])[j % 2]!) (by rw [List.getElem?_eq_getElem hd]) (by
        have : j % 2 < (Ev.pv ss[j / 2]).length := by simp [Ev.pv]; omega
        simp [this])
      rw [show j / 2 * 2 + j % 2 = j by omega, ← ht, List.getElem?_take] at h1
      rw [if_pos (by simpa [Nat.mul_comm] using hj2)] at h1
      simp only [Nat.zero_add]
      have e1 : ss.toArray[j / 2]! = ss[j / 2] := by simp [hd]
      rw [e1]
      simpa using h1
    · exact frozen_of_row w _ _ _ _ hh
theorem pairs_of_holds {w : World} {g cap : Nat} {L : List (Nat × Nat)} (h : HoldsK Ev.pv 2 w g 0 L.toArray) (h1 : L.length ≤ cap) (h2 : cap ≤ 9223372036854775807) : Ev.PairsIn w (some ⟨g, 0, none⟩) cap L := by
  refine ⟨fun hp => ⟨g, 0, rfl, fun j v hv i c hi => ?_⟩, h1, h2⟩
  rw [List.getElem?_map] at hv
  cases hj : L[j]? with
  | none => rw [hj] at hv; cases hv
  | some p =>
    rw [hj] at hv
    have hvp : Ev.pv p = v := by simpa using hv
    subst hvp
    have hjl := (List.getElem?_eq_some_iff.1 hj).1
    have hil : i < 2 := by have := (List.getElem?_eq_some_iff.1 hi).1; simpa [Ev.pv] using this
    have hc := (h (j * 2 + i) (by simp; omega)).1
    rw [get_flatK _ _ _ _ (by simp; omega), show (j * 2 + i) / 2 = j by omega, show (j * 2 + i) % 2 = i by omega] at hc
    rw [show 0 + j * 2 + i = 0 + (j * 2 + i) by omega, hc]
    have e1 : L.toArray[j]! = p := by
      have := (List.getElem?_eq_some_iff.1 hj).2
      simp [hjl, this]
    rw [e1]
    have e2 := (List.getElem?_eq_some_iff.1 hi)
    obtain ⟨e3, e4⟩ := e2
    simp [e3, ← e4]
theorem below_sorted {w W : World} {g n : Nat} {d : Array (Nat × Nat)} {os : Array Obj} (h : Below w.heap.size w W) (hg : w.heap.size ≤ g) (hW : g < W.heap.size) : Below w.heap.size w (sortWorldK Ev.pv 2 W g 0 n d os) := by
  refine ⟨h.os, h.tape, h.output, Nat.le_trans h.size ?_, fun i hi => ?_⟩
  · exact size_sortWorldK_c _ _ _ _ _ _ _ _
  · refine Eq.trans ?_ (h.block i hi)
    have hi2 := Nat.lt_of_lt_of_le hi h.size
    show ((W.heap.modify g _) ++ os)[i]? = W.heap[i]?
    rw [Array.getElem?_append_left (by simp; exact hi2), Array.getElem?_modify, if_neg (by omega)]
end Md
set_option maxRecDepth 100000 in
theorem isAgg_pair (w : World) : (isAgg 72).run Tryz.prog w = .ok true w := Tryz.isAgg72 w
set_option maxRecDepth 100000 in
set_option maxHeartbeats 2000000 in
theorem psort_any (v : Value) (ss : List (Nat × Nat)) (hlen : ss.length ≤ 65536) (w W : World) (h : W.ownsRow w.heap.size 72 2 v ss.length (ss.flatMap Ev.pv)) (hb : Below w.heap.size w W) :
    Calls Tryz.prog 88 #[v, .func (.func 62) #[] #[]] W fun e w' => e = .returned (.tuple #[]) ∧ (∃ a c, v = .slice a ss.length c ∧ Ev.PairsIn w' a c (ss.mergeSort Md.le)) ∧ Below w.heap.size w w' := by
  rcases h.2 with ⟨rfl, hz⟩ | ⟨g, cap, cur, rfl, hbase, hh, hnc, hcm, hrest⟩
  · have hs : ss = [] := List.length_eq_zero_iff.1 hz
    subst hs
    exact (AnyF.slices_SortFunc_none (L := Tryz.sortPairs) none 0 _ W).mono fun e w' ⟨he, hw⟩ => ⟨he, ⟨none, 0, rfl, ⟨fun hp => by simp at hp, by simp, by omega⟩⟩, by rw [hw]; exact hb⟩
  · obtain ⟨hH, hlt, hge⟩ := Md.holds_of_row h
    have hcap : cap ≤ 9223372036854775807 := by unfold maxLen at hcm; exact hcm
    have hcon := AnyQ.slices_SortFunc_total Tryz.sortPairs 2 isAgg_pair (fun w => Tryz.sizeOf72 w) Ev.pv (fun _ => rfl) Ev.pv_one Md.cmpP Md.swo 62 #[] g 0 cap ss.toArray W
      (enters_of Tryz.func62 (by kernel_rfl) rfl) (Md.lays _ _ _ _) hH hlt (by simp; omega) (fun x y h1 h2 => Md.apart h1 h2)
    simp only [List.size_toArray] at hcon
    refine hcon.mono fun e w' hpost => ?_
    obtain ⟨he, n, os, hw⟩ := hpost
    refine ⟨he, ⟨_, _, rfl, ?_⟩, ?_⟩
    · refine Md.pairs_of_holds ?_ (by rw [List.length_mergeSort]; exact hnc) hcap
      rw [hw]
      exact holdsK_sortWorldK Ev.pv 2 W g 0 n ss.toArray _ os hlt hH (by simp [List.length_mergeSort])
    · rw [hw]
      exact Md.below_sorted hb hbase hlt
set_option maxHeartbeats 1000000 in
theorem pcollect_any (G : FuncId) (caps : Array Value) (R : World → Prop) (S : List (Nat × Nat)) (hS : S.length ≤ 65536) (w : World) (hE : ∀ args w, (callFunc G args).run Tryz.prog w = .ok (.enter G args) w) (hR : ∀ (ss : List (Nat × Nat)) (W : World), Below w.heap.size w W → R W)
    (hit : Og.IterS Fence.wide 4 Tryz.prog G caps R (fun p : Nat × Nat => #[Md.pkV p]) (Md.kst S) [] (Md.kfin S)) :
    Calls Tryz.prog 87 #[.func (.func G) #[] caps] w fun r w' => ∃ v ss, r = .returned v ∧ Md.kfin S ss ∧ w'.ownsRow w.heap.size 72 2 v ss.length (ss.flatMap Ev.pv) ∧ Below w.heap.size w w' := by
  have HC := Lib.hid (pappendSeq_any G caps R S hS w hE hR hit)
  clear hit hR hE
  go_enter Tryz.func87, Tryz.ntmps87
  go_wp2_with fail
  refine HC.out.mono ?_
  rintro r W1 ⟨v, ss, rfl, h0, h1, h2⟩
  have H0 := Lib.hid h0; have H1 := Lib.hid h1; have H2 := Lib.hid h2
  clear h0 h1 h2
  go_wp2_with fail
  go_ret
  exact ⟨_, ss, rfl, H0.out, H1.out, H2.out⟩
theorem Md.kfin_len {S ss : List (Nat × Nat)} (h : Md.kfin S ss) (hS : S.length ≤ 65536) : ss.length ≤ 65536 := Nat.le_trans (Ev.nodup_le h.1 fun x hx => (h.2 x).1 hx) hS
set_option maxHeartbeats 1000000 in
theorem sortedFunc_any (G : FuncId) (caps : Array Value) (R : World → Prop) (S : List (Nat × Nat)) (hS : S.length ≤ 65536) (w : World) (hE : ∀ args w, (callFunc G args).run Tryz.prog w = .ok (.enter G args) w) (hR : ∀ (ss : List (Nat × Nat)) (W : World), Below w.heap.size w W → R W)
    (hit : Og.IterS Fence.wide 4 Tryz.prog G caps R (fun p : Nat × Nat => #[Md.pkV p]) (Md.kst S) [] (Md.kfin S)) :
    Calls Tryz.prog 60 #[.func (.func G) #[] caps, .func (.func 62) #[] #[]] w fun r w' => ∃ a c ss, r = .returned (.slice a ss.length c) ∧ Md.kfin S ss ∧ Ev.PairsIn w' a c (ss.mergeSort Md.le) ∧ Below w.heap.size w w' := by
  have HC := Lib.hid (pcollect_any G caps R S hS w hE hR hit)
  clear hit hR hE
  go_enter Tryz.func60, Tryz.ntmps60
  go_wp2_with fail
  refine HC.out.mono ?_
  rintro r W1 ⟨v, ss, rfl, h0, h1, h2⟩
  have H0 := Lib.hid h0
  have HP := Lib.hid (psort_any v ss (Md.kfin_len h0 hS) w W1 h1 h2)
  clear h0 h1 h2
  go_wp2_with fail
  refine HP.out.mono ?_
  rintro r W2 ⟨rfl, ⟨a, c, rfl, h1⟩, h2⟩
  have H1 := Lib.hid h1; have H2 := Lib.hid h2
  clear h1 h2
  go_wp2_with fail
  go_ret
  exact ⟨_, _, ss, rfl, H0.out, H1.out, H2.out⟩
set_option maxHeartbeats 1000000 in
theorem keys_any (b : Nat) (w : World) : Calls Tryz.prog 61 #[.map (some b)] w fun r w' => r = .returned (.func (.func 89) #[] #[.pointer (some ⟨w.heap.size, 0, none⟩)]) ∧ w' = w.alloc (.cells #[.map (some b)] 77) := by
  go_enter Tryz.func61, Tryz.ntmps61
  go_wp2
  go_ret
  exact ⟨rfl, rfl⟩
def Md.Ris (S L : List (Nat × Nat)) : Prop := L.Pairwise (fun p q => Md.ltP p q = true) ∧ ∀ p, p ∈ L ↔ p ∈ S
theorem Md.ris_sort {S ss : List (Nat × Nat)} (h : Md.kfin S ss) : Md.Ris S (ss.mergeSort Md.le) := by
  refine ⟨?_, fun p => by rw [List.mem_mergeSort]; exact h.2 p⟩
  have h1 := Md.sorted_ok ss
  have h2 : (ss.mergeSort Md.le).Nodup := (List.mergeSort_perm ss Md.le).nodup_iff.2 h.1
  refine (h1.and h2).imp fun {p q} hpq => ?_
  obtain ⟨hle, hne⟩ := hpq
  rw [Md.le_iff] at hle
  rw [Md.ltP_iff]
  have : ¬ (p.1 = q.1 ∧ p.2 = q.2) := fun e => hne (Prod.ext e.1 e.2)
  omega
set_option maxHeartbeats 1000000 in
theorem rising_any (b n : Nat) (S : List (Nat × Nat)) (hS : S.length ≤ 65536) (w : World) (hin : Md.PSet w b n S) :
    Calls Tryz.prog 41 #[.map (some b)] w fun r w' => ∃ a c L, r = .returned (.slice a L.length c) ∧ Md.Ris S L ∧ Ev.PairsIn w' a c L ∧ Below w.heap.size w w' := by
  obtain ⟨W0, hW0⟩ : ∃ W0, W0 = w.alloc (.cells #[.map (some b)] 77) := ⟨_, rfl⟩
  have hb0 : Below w.heap.size w W0 := by rw [hW0]; exact (Below.refl _ _).alloc (Nat.le_refl _) _
  have hbx : W0.heap[w.heap.size]? = some (.cells #[.map (some b)] 77 (0, 0)) := by rw [hW0]; exact heap_alloc_new _ _
  have hlt : w.heap.size < W0.heap.size := (Array.getElem?_eq_some_iff.1 hbx).1
  have HC := Lib.hid (sortedFunc_any 89 #[.pointer (some ⟨w.heap.size, 0, none⟩)] (Md.KIn w.heap.size b n S) S hS W0
    (enters_of Tryz.func89 (by kernel_rfl) rfl)
    (fun ss W hb => ⟨by rw [(cell_of_row _ _ _ _ _ _ ((hb.block _ hlt).trans hbx))]; rfl, (hin.kp hb0).kp hb⟩) (keys_iter 4 (by decide) w.heap.size b n S))
  have HW0 := Lib.hid hW0; have HB0 := Lib.hid hb0
  clear hW0 hb0 hbx hlt hin
  go_enter Tryz.func41, Tryz.ntmps41
  go_wp2_with fail
  refine (keys_any b w).mono ?_
  rintro r W1 ⟨rfl, hw1⟩
  rw [← HW0.out] at hw1
  subst hw1
  go_wp2_with fail
  refine HC.out.mono ?_
  rintro r W2 ⟨a, c, ss, rfl, h0, h1, h2⟩
  have H0 := Lib.hid h0; have H1 := Lib.hid h1; have H2 := Lib.hid h2
  clear h0 h1 h2
  go_wp2_with fail
  go_ret
  refine ⟨a, c, ss.mergeSort Md.le, ?_, Md.ris_sort H0.out, H1.out, HB0.out.trans (H2.out.mono HB0.out.size)⟩
  rw [List.length_mergeSort]
  rfl
end Go.Proofs.YtecnnkidalkmfaaGreat
end

section
namespace Go.Proofs.YtecnnkidalkmfaaGreat
open Go.RowKit
namespace Ev
def rowL (is : Nat → Nat → Bool) (a : Nat) (l : List Nat) : List (Nat × Nat) := (l.filter fun b => is a b).map fun b => (a, b)
def pl (is : Nat → Nat → Bool) (n k : Nat) : List (Nat × Nat) := (List.range k).flatMap fun a => rowL is a (List.range n)
theorem pl_succ (is : Nat → Nat → Bool) (n k : Nat) : pl is n (k + 1) = pl is n k ++ rowL is k (List.range n) := by unfold pl; rw [List.range_succ, List.flatMap_append]; simp
theorem rowL_succ (is : Nat → Nat → Bool) (a q : Nat) : rowL is a (List.range (q + 1)) = rowL is a (List.range q) ++ if is a q then [(a, q)] else [] := by
  unfold rowL
  rw [List.range_succ, List.filter_append, List.map_append]
  congr 1
  cases h : is a q <;> simp [h]
theorem rowL_len (is : Nat → Nat → Bool) (a q : Nat) : (rowL is a (List.range q)).length ≤ q := by
  unfold rowL
  rw [List.length_map]
  have := List.length_filter_le (fun b => is a b) (List.range q)
  rwa [List.length_range] at this
theorem pl_len (is : Nat → Nat → Bool) (n : Nat) : ∀ k, (pl is n k).length ≤ k * n
  | 0 => by simp [pl]
  | k + 1 => by
    rw [pl_succ, List.length_append, Nat.succ_mul]
    have := pl_len is n k
    have := rowL_len is k n
    omega
end Ev
end Go.Proofs.YtecnnkidalkmfaaGreat
end
