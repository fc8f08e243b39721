import Derived.Test.YtecnnkidalkmfaaGreatKa01
import Derived.Laws.BitsAllLaws
import Derived.Laws.BitsLemmas
import Derived.Test.YtecnnkidalkmfaaGreatKa04

section
namespace Go.Proofs.YtecnnkidalkmfaaGreat
open Go.RowKit
set_option linter.unusedVariables false
set_option linter.unusedSimpArgs false
namespace Ev
/-- the parts that are not zero, one behind the other -/
def fl (x : R) : List (Nat × Bool) := [(1, x.a != 0), (2, x.v != 0), (4, x.r != 0), (8, x.q), (16, x.l), (32, x.p != 0), (64, x.s != 0), (128, x.z), (256, (x.d1.l.length : Int) != 0), (512, (x.d2.l.length : Int) != 0), (1024, (x.d3.l.length : Int) != 0)]
def filled (x : R) : Nat := (fl x).foldl (fun m y => m ||| bit y.2 y.1) 0
theorem or_lt (m p : Nat) (hm : m < 2048) (hp : p < 2048) : m ||| p < 2048 := Nat.or_lt_two_pow (n := 11) hm hp
theorem bit_lt (b : Bool) (p : Nat) (hp : p < 2048) : bit b p < 2048 := by unfold bit; split <;> omega
theorem ofInt_i64 (a : Nat) (ha : a < 9223372036854775808) : (BitVec.ofInt 64 (a : Int)).toNat = a := by
  rw [BitVec.ofInt_natCast, BitVec.toNat_ofNat]; exact Nat.mod_eq_of_lt (by omega)
theorem i64_or_nat (a b : Nat) (ha : a < 9223372036854775808) (hb : b < 9223372036854775808) : bits .or .i64 (a : Int) (b : Int) = ((a ||| b : Nat) : Int) := by
  have hx : a ||| b < 2 ^ 63 := Nat.or_lt_two_pow (by omega) (by omega)
  show IntKind.i64.wrap ((BitVec.ofInt 64 (a : Int) ||| BitVec.ofInt 64 (b : Int)).toNat : Int) = _
  rw [BitVec.toNat_or, ofInt_i64 a ha, ofInt_i64 b hb, IntKind.wrap_i64]
  omega
/-- a cell that is one's own, behind a block -/
structure Two (W : World) (n : Nat) (row : Array Value) (m : Nat) : Prop where
  box : W.heap[n]? = some (.cells row 48 (0, 0))
  cell : W.heap[n + 1]? = some (.cells #[.int .i64 (m : Int)] 146 (0, 0))
end Ev
theorem note_any (g m p : Nat) (b : Bool) (w : World) (hm : m < 2048) (hp : p < 2048) (hg : w.heap[g]? = some (.cells #[.int .i64 (m : Int)] 146 (0, 0))) :
    Calls Tryz.prog 148 #[.int .i64 (p : Int), .bool b, .pointer (some ⟨g, 0, none⟩)] w fun e w' => e = .returned (.tuple #[]) ∧ Ev.Set1 w w' g 146 #[.int .i64 ((m ||| Ev.bit b p : Nat) : Int)] := by
  have hc : w.cell? ⟨g, 0, none⟩ = some (.int .i64 (m : Int)) := by rw [cell_of_row w g 0 _ _ _ hg]; rfl
  have hf : w.frozen? ⟨g, 0, none⟩ = false := by simp [World.frozen?, hg]
  have HG := Lib.hid hg; clear hg
  cases b
  · go_enter Tryz.func148, Tryz.ntmps148
    go_wp2
    go_end0
    refine ⟨rfl, ?_⟩
    have h0 : m ||| Ev.bit false p = m := by simp [Ev.bit]
    rw [h0]
    exact ⟨HG.out, rfl, Below.refl _ _, fun _ _ => rfl⟩
  · have ho := Ev.i64_or_nat m p (by omega) (by omega)
    go_enter Tryz.func148, Tryz.ntmps148
    go_wp2
    go_end0
    refine ⟨rfl, ?_⟩
    have e : w.setCell ⟨g, 0, none⟩ (.int .i64 ((m ||| p : Nat) : Int)) = w.setRow g #[.int .i64 ((m ||| p : Nat) : Int)] := by
      simp only [World.setCell, World.setRow]
      congr 1
      apply Array.ext
      · simp
      · intro i h1 h2
        simp only [Array.getElem_modify]
        split
        · rename_i hi
          have h3 := Array.getElem?_eq_some_iff.1 HG.out
          obtain ⟨h4, h5⟩ := h3
          subst hi
          rw [h5]
          rfl
        · rfl
    have e2 : Ev.bit true p = p := rfl
    rw [e2]
    first | rw [e] | (simp only [ho] at *; rw [e])
    exact Ev.set1 HG.out rfl

theorem Ev.two_next {W W' : World} {n : Nat} {row : Array Value} {m m' : Nat} (h : Ev.Two W n row m) (s : Ev.Set1 W W' (n + 1) 146 #[.int .i64 (m' : Int)]) : Ev.Two W' n row m' :=
  ⟨(s.block n (by omega)).trans h.box, s.row⟩
set_option maxRecDepth 100000 in
set_option maxHeartbeats 2000000 in
theorem filled_any (x : Ev.R) (w : World) : Calls Tryz.prog 117 #[Ev.evV x] w fun e w' => e = .returned (.int .i64 ((Ev.filled x : Nat) : Int)) ∧ Ev.filled x < 2048 ∧ Below w.heap.size w w' := by
  unfold Ev.evV Ev.cells
  obtain ⟨m0, hm0⟩ : ∃ m : Nat, m = 0 := ⟨_, rfl⟩
  obtain ⟨m1, hm1⟩ : ∃ m : Nat, m = m0 ||| Ev.bit (x.a != 0) 1 := ⟨_, rfl⟩
  obtain ⟨m2, hm2⟩ : ∃ m : Nat, m = m1 ||| Ev.bit (x.v != 0) 2 := ⟨_, rfl⟩
  obtain ⟨m3, hm3⟩ : ∃ m : Nat, m = m2 ||| Ev.bit (x.r != 0) 4 := ⟨_, rfl⟩
  obtain ⟨m4, hm4⟩ : ∃ m : Nat, m = m3 ||| Ev.bit (x.q) 8 := ⟨_, rfl⟩
  obtain ⟨m5, hm5⟩ : ∃ m : Nat, m = m4 ||| Ev.bit (x.l) 16 := ⟨_, rfl⟩
  obtain ⟨m6, hm6⟩ : ∃ m : Nat, m = m5 ||| Ev.bit (x.p != 0) 32 := ⟨_, rfl⟩
  obtain ⟨m7, hm7⟩ : ∃ m : Nat, m = m6 ||| Ev.bit (x.s != 0) 64 := ⟨_, rfl⟩
  obtain ⟨m8, hm8⟩ : ∃ m : Nat, m = m7 ||| Ev.bit (x.z) 128 := ⟨_, rfl⟩
  obtain ⟨m9, hm9⟩ : ∃ m : Nat, m = m8 ||| Ev.bit ((x.d1.l.length : Int) != 0) 256 := ⟨_, rfl⟩
  obtain ⟨m10, hm10⟩ : ∃ m : Nat, m = m9 ||| Ev.bit ((x.d2.l.length : Int) != 0) 512 := ⟨_, rfl⟩
  obtain ⟨m11, hm11⟩ : ∃ m : Nat, m = m10 ||| Ev.bit ((x.d3.l.length : Int) != 0) 1024 := ⟨_, rfl⟩
  have hres : Ev.filled x = m11 := by rw [hm11, hm10, hm9, hm8, hm7, hm6, hm5, hm4, hm3, hm2, hm1, hm0]; rfl
  have l0 : m0 < 2048 := by omega
  have l1 : m1 < 2048 := by rw [hm1]; exact Ev.or_lt _ _ l0 (Ev.bit_lt _ _ (by omega))
  have l2 : m2 < 2048 := by rw [hm2]; exact Ev.or_lt _ _ l1 (Ev.bit_lt _ _ (by omega))
  have l3 : m3 < 2048 := by rw [hm3]; exact Ev.or_lt _ _ l2 (Ev.bit_lt _ _ (by omega))
  have l4 : m4 < 2048 := by rw [hm4]; exact Ev.or_lt _ _ l3 (Ev.bit_lt _ _ (by omega))
  have l5 : m5 < 2048 := by rw [hm5]; exact Ev.or_lt _ _ l4 (Ev.bit_lt _ _ (by omega))
  have l6 : m6 < 2048 := by rw [hm6]; exact Ev.or_lt _ _ l5 (Ev.bit_lt _ _ (by omega))
  have l7 : m7 < 2048 := by rw [hm7]; exact Ev.or_lt _ _ l6 (Ev.bit_lt _ _ (by omega))
  have l8 : m8 < 2048 := by rw [hm8]; exact Ev.or_lt _ _ l7 (Ev.bit_lt _ _ (by omega))
  have l9 : m9 < 2048 := by rw [hm9]; exact Ev.or_lt _ _ l8 (Ev.bit_lt _ _ (by omega))
  have l10 : m10 < 2048 := by rw [hm10]; exact Ev.or_lt _ _ l9 (Ev.bit_lt _ _ (by omega))
  have l11 : m11 < 2048 := by rw [hm11]; exact Ev.or_lt _ _ l10 (Ev.bit_lt _ _ (by omega))
  rw [hres]
  have HM0 := Lib.hid hm0; clear hm0
  have HM1 := Lib.hid hm1; clear hm1
  have HM2 := Lib.hid hm2; clear hm2
  have HM3 := Lib.hid hm3; clear hm3
  have HM4 := Lib.hid hm4; clear hm4
  have HM5 := Lib.hid hm5; clear hm5
  have HM6 := Lib.hid hm6; clear hm6
  have HM7 := Lib.hid hm7; clear hm7
  have HM8 := Lib.hid hm8; clear hm8
  have HM9 := Lib.hid hm9; clear hm9
  have HM10 := Lib.hid hm10; clear hm10
  have HM11 := Lib.hid hm11; clear hm11
  clear hres
  have T0 : Ev.Two (((w.alloc (.cells #[.int .i64 x.h, .int .i64 x.k, .int .u32 x.a, .int .u32 x.v, .int .u32 x.r, .bool x.q, .bool x.l, .int .i64 x.p, .int .i64 x.s, .bool x.z, .slice x.d1.a x.d1.l.length x.d1.c, .slice x.d2.a x.d2.l.length x.d2.c, .slice x.d3.a x.d3.l.length x.d3.c] 48)).alloc (.cells #[.int .i64 0] 146))) w.heap.size #[.int .i64 x.h, .int .i64 x.k, .int .u32 x.a, .int .u32 x.v, .int .u32 x.r, .bool x.q, .bool x.l, .int .i64 x.p, .int .i64 x.s, .bool x.z, .slice x.d1.a x.d1.l.length x.d1.c, .slice x.d2.a x.d2.l.length x.d2.c, .slice x.d3.a x.d3.l.length x.d3.c] m0 := by
    rw [HM0.out]
    exact ⟨(Below.heap_alloc _ _ _ (by simp)).trans (heap_alloc_new _ _), heap_alloc2_new w _ _⟩
  have B0 : Below w.heap.size w ((w.alloc (.cells #[.int .i64 x.h, .int .i64 x.k, .int .u32 x.a, .int .u32 x.v, .int .u32 x.r, .bool x.q, .bool x.l, .int .i64 x.p, .int .i64 x.s, .bool x.z, .slice x.d1.a x.d1.l.length x.d1.c, .slice x.d2.a x.d2.l.length x.d2.c, .slice x.d3.a x.d3.l.length x.d3.c] 48)).alloc (.cells #[.int .i64 0] 146)) := ((Below.refl _ _).alloc (Nat.le_refl _) _).alloc (by simp only [World.size_alloc]; omega) _
  have HT0 := Lib.hid T0; have HB0 := Lib.hid B0; clear T0 B0
  go_enter Tryz.func117, Tryz.ntmps117
  go_wp2_with fail
  refine (note_any (w.heap.size + 1) m0 1 (x.a != 0) _ l0 (by omega) HT0.out.cell).mono ?_
  rintro e W1 ⟨rfl, hs1⟩
  rw [← HM1.out] at hs1
  have HT1 := Lib.hid (Ev.two_next HT0.out hs1)
  have HB1 := Lib.hid (HB0.out.trans (hs1.below.mono (Nat.le_succ _)))
  clear hs1
  have c1 : W1.cell? ⟨w.heap.size, 3, none⟩ = some (.int .u32 x.v) := by rw [cell_of_row _ _ _ _ _ _ HT1.out.box]; rfl
  go_wp2_with fail
  clear c1
  refine (note_any (w.heap.size + 1) m1 2 (x.v != 0) _ l1 (by omega) HT1.out.cell).mono ?_
  rintro e W2 ⟨rfl, hs2⟩
  rw [← HM2.out] at hs2
  have HT2 := Lib.hid (Ev.two_next HT1.out hs2)
  have HB2 := Lib.hid (HB1.out.trans (hs2.below.mono (Nat.le_succ _)))
  clear hs2
  have c2 : W2.cell? ⟨w.heap.size, 4, none⟩ = some (.int .u32 x.r) := by rw [cell_of_row _ _ _ _ _ _ HT2.out.box]; rfl
  go_wp2_with fail
  clear c2
  refine (note_any (w.heap.size + 1) m2 4 (x.r != 0) _ l2 (by omega) HT2.out.cell).mono ?_
  rintro e W3 ⟨rfl, hs3⟩
  rw [← HM3.out] at hs3
  have HT3 := Lib.hid (Ev.two_next HT2.out hs3)
  have HB3 := Lib.hid (HB2.out.trans (hs3.below.mono (Nat.le_succ _)))
  clear hs3
  have c3 : W3.cell? ⟨w.heap.size, 5, none⟩ = some (.bool x.q) := by rw [cell_of_row _ _ _ _ _ _ HT3.out.box]; rfl
  go_wp2_with fail
  clear c3
  refine (note_any (w.heap.size + 1) m3 8 (x.q) _ l3 (by omega) HT3.out.cell).mono ?_
  rintro e W4 ⟨rfl, hs4⟩
  rw [← HM4.out] at hs4
  have HT4 := Lib.hid (Ev.two_next HT3.out hs4)
  have HB4 := Lib.hid (HB3.out.trans (hs4.below.mono (Nat.le_succ _)))
  clear hs4
  have c4 : W4.cell? ⟨w.heap.size, 6, none⟩ = some (.bool x.l) := by rw [cell_of_row _ _ _ _ _ _ HT4.out.box]; rfl
  go_wp2_with fail
  clear c4
  refine (note_any (w.heap.size + 1) m4 16 (x.l) _ l4 (by omega) HT4.out.cell).mono ?_
  rintro e W5 ⟨rfl, hs5⟩
  rw [← HM5.out] at hs5
  have HT5 := Lib.hid (Ev.two_next HT4.out hs5)
  have HB5 := Lib.hid (HB4.out.trans (hs5.below.mono (Nat.le_succ _)))
  clear hs5
  have c5 : W5.cell? ⟨w.heap.size, 7, none⟩ = some (.int .i64 x.p) := by rw [cell_of_row _ _ _ _ _ _ HT5.out.box]; rfl
  go_wp2_with fail
  clear c5
  refine (note_any (w.heap.size + 1) m5 32 (x.p != 0) _ l5 (by omega) HT5.out.cell).mono ?_
  rintro e W6 ⟨rfl, hs6⟩
  rw [← HM6.out] at hs6
  have HT6 := Lib.hid (Ev.two_next HT5.out hs6)
  have HB6 := Lib.hid (HB5.out.trans (hs6.below.mono (Nat.le_succ _)))
  clear hs6
  have c6 : W6.cell? ⟨w.heap.size, 8, none⟩ = some (.int .i64 x.s) := by rw [cell_of_row _ _ _ _ _ _ HT6.out.box]; rfl
  go_wp2_with fail
  clear c6
  refine (note_any (w.heap.size + 1) m6 64 (x.s != 0) _ l6 (by omega) HT6.out.cell).mono ?_
  rintro e W7 ⟨rfl, hs7⟩
  rw [← HM7.out] at hs7
  have HT7 := Lib.hid (Ev.two_next HT6.out hs7)
  have HB7 := Lib.hid (HB6.out.trans (hs7.below.mono (Nat.le_succ _)))
  clear hs7
  have c7 : W7.cell? ⟨w.heap.size, 9, none⟩ = some (.bool x.z) := by rw [cell_of_row _ _ _ _ _ _ HT7.out.box]; rfl
  go_wp2_with fail
  clear c7
  refine (note_any (w.heap.size + 1) m7 128 (x.z) _ l7 (by omega) HT7.out.cell).mono ?_
  rintro e W8 ⟨rfl, hs8⟩
  rw [← HM8.out] at hs8
  have HT8 := Lib.hid (Ev.two_next HT7.out hs8)
  have HB8 := Lib.hid (HB7.out.trans (hs8.below.mono (Nat.le_succ _)))
  clear hs8
  have c8 : W8.cell? ⟨w.heap.size, 10, none⟩ = some (.slice x.d1.a x.d1.l.length x.d1.c) := by rw [cell_of_row _ _ _ _ _ _ HT8.out.box]; rfl
  go_wp2_with fail
  clear c8
  refine (note_any (w.heap.size + 1) m8 256 ((x.d1.l.length : Int) != 0) _ l8 (by omega) HT8.out.cell).mono ?_
  rintro e W9 ⟨rfl, hs9⟩
  rw [← HM9.out] at hs9
  have HT9 := Lib.hid (Ev.two_next HT8.out hs9)
  have HB9 := Lib.hid (HB8.out.trans (hs9.below.mono (Nat.le_succ _)))
  clear hs9
  have c9 : W9.cell? ⟨w.heap.size, 11, none⟩ = some (.slice x.d2.a x.d2.l.length x.d2.c) := by rw [cell_of_row _ _ _ _ _ _ HT9.out.box]; rfl
  go_wp2_with fail
  clear c9
  refine (note_any (w.heap.size + 1) m9 512 ((x.d2.l.length : Int) != 0) _ l9 (by omega) HT9.out.cell).mono ?_
  rintro e W10 ⟨rfl, hs10⟩
  rw [← HM10.out] at hs10
  have HT10 := Lib.hid (Ev.two_next HT9.out hs10)
  have HB10 := Lib.hid (HB9.out.trans (hs10.below.mono (Nat.le_succ _)))
  clear hs10
  have c10 : W10.cell? ⟨w.heap.size, 12, none⟩ = some (.slice x.d3.a x.d3.l.length x.d3.c) := by rw [cell_of_row _ _ _ _ _ _ HT10.out.box]; rfl
  go_wp2_with fail
  clear c10
  refine (note_any (w.heap.size + 1) m10 1024 ((x.d3.l.length : Int) != 0) _ l10 (by omega) HT10.out.cell).mono ?_
  rintro e W11 ⟨rfl, hs11⟩
  rw [← HM11.out] at hs11
  have HT11 := Lib.hid (Ev.two_next HT10.out hs11)
  have HB11 := Lib.hid (HB10.out.trans (hs11.below.mono (Nat.le_succ _)))
  clear hs11
  have c11 : W11.cell? ⟨w.heap.size + 1, 0, none⟩ = some (.int .i64 (m11 : Int)) := by rw [cell_of_row _ _ _ _ _ _ HT11.out.cell]; rfl
  go_wp2
  go_ret
  exact ⟨rfl, l11, HB11.out⟩
end Go.Proofs.YtecnnkidalkmfaaGreat
end

section
namespace Go.Proofs.YtecnnkidalkmfaaGreat
open Go.RowKit
set_option linter.unusedVariables false
set_option linter.unusedSimpArgs false
namespace Ev
/-- has it a part that its kind does not name? -/
def extra (x : R) : Bool := bits .andNot .i64 ((filled x : Nat) : Int) (parts x.k) != 0
def partsOk (x : R) : Bool := parts x.k != 0 && !(extra x) && hartOk x && x.a % 4 == 0 && inB x.p 4 && inB x.s 4
end Ev
set_option maxRecDepth 100000 in
set_option maxHeartbeats 4000000 in
theorem partsOk_any (x : Ev.R) (w : World) (ha : Ev.u32B x.a) : Calls Tryz.prog 94 #[Ev.evV x] w fun e w' => e = .returned (.bool (Ev.partsOk x)) ∧ Below w.heap.size w w' := by
  have R0 := Lib.hid (heap_alloc_new w (.cells (Ev.cells x).toArray 48))
  have B0 := Lib.hid ((Below.refl w.heap.size w).alloc (Nat.le_refl _) (.cells (Ev.cells x).toArray 48))
  have hm : x.a.tmod 4 = x.a % 4 := Int.tmod_eq_emod_of_nonneg ha.1
  have HU := Lib.hid ha; clear ha
  by_cases h0 : (Ev.parts x.k == 0) = true
  · have e : Ev.partsOk x = false := by unfold Ev.partsOk; simp at h0; simp [h0]
    rw [e]; clear e
    unfold Ev.evV Ev.cells
    go_enter Tryz.func94, Tryz.ntmps94
    go_wp2_with fail
    refine (parts_any _ _).mono ?_
    rintro e w' ⟨rfl, rfl⟩
    go_wp2_with fail
    go_ret
    exact ⟨rfl, B0.out⟩
  have h0 : (Ev.parts x.k == 0) = false := by simpa using h0
  have n0 : (Ev.parts x.k != 0) = true := by simpa using h0
  by_cases h1 : Ev.extra x = true
  · have e : Ev.partsOk x = false := by unfold Ev.partsOk; simp [h1]
    have h1' : (bits .andNot .i64 ((Ev.filled x : Nat) : Int) (Ev.parts x.k) != 0) = true := h1
    rw [e]; clear e h1 n0
    unfold Ev.evV Ev.cells
    go_enter Tryz.func94, Tryz.ntmps94
    go_wp2_with fail
    refine (parts_any _ _).mono ?_
    rintro e w' ⟨rfl, rfl⟩
    go_wp2_with (show wpList _ _ _ (Oper.mk (some 10) _ _ _ _ _ :: _) _ _; refine wpList_load_row rfl 48 (.tmp 1) rfl w.heap.size rfl 48 (Ev.cells x).toArray (0, 0) _ R0.out Tryz.underlying48 rfl (by kernel_rfl) ?_)
    refine (filled_any x _).mono ?_
    rintro e w2 ⟨rfl, hlt, hb⟩
    have HB := Lib.hid (B0.out.trans (hb.mono (by simp only [World.size_alloc]; omega))); clear hb
    go_wp2_with fail
    go_ret
    exact ⟨rfl, HB.out⟩
  have h1 : Ev.extra x = false := by simpa using h1
  have h1' : (bits .andNot .i64 ((Ev.filled x : Nat) : Int) (Ev.parts x.k) != 0) = false := h1
  have eq : Ev.partsOk x = (Ev.hartOk x && x.a % 4 == 0 && Ev.inB x.p 4 && Ev.inB x.s 4) := by unfold Ev.partsOk; rw [h1, n0]; simp
  rw [eq]; clear eq n0 h1
  obtain ⟨b1, hb1⟩ : ∃ b, b = Ev.hartOk x := ⟨_, rfl⟩
  obtain ⟨b3, hb3⟩ : ∃ b, b = Ev.inB x.p 4 := ⟨_, rfl⟩
  obtain ⟨b4, hb4⟩ : ∃ b, b = Ev.inB x.s 4 := ⟨_, rfl⟩
  rw [← hb1, ← hb3, ← hb4]
  have HB1 := Lib.hid hb1; have HB3 := Lib.hid hb3; have HB4 := Lib.hid hb4; clear hb1 hb3 hb4
  have main : ∀ b2 : Bool, (x.a % 4 == 0) = b2 → Calls Tryz.prog 94 #[Ev.evV x] w fun e w' => e = .returned (.bool (b1 && b2 && b3 && b4)) ∧ Below w.heap.size w w' := by
    intro b2 h2
    have h2t : (x.a.tmod 4 == 0) = b2 := by rw [hm]; exact h2
    unfold Ev.evV Ev.cells
    clear hm
    cases b1 <;> cases b2 <;> cases b3 <;> cases b4
    all_goals
      go_enter Tryz.func94, Tryz.ntmps94
      go_wp2_with fail
      refine (parts_any _ _).mono ?_
      rintro e w' ⟨rfl, rfl⟩
      go_wp2_with (show wpList _ _ _ (Oper.mk (some 10) _ _ _ _ _ :: _) _ _; refine wpList_load_row rfl 48 (.tmp 1) rfl w.heap.size rfl 48 (Ev.cells x).toArray (0, 0) _ R0.out Tryz.underlying48 rfl (by kernel_rfl) ?_)
      refine (filled_any x _).mono ?_
      rintro e w2 ⟨rfl, hlt, hb⟩
      have R2 := Lib.hid ((hb.block w.heap.size (by simp only [World.size_alloc]; omega)).trans R0.out)
      have HB := Lib.hid (B0.out.trans (hb.mono (by simp only [World.size_alloc]; omega))); clear hb
      go_wp2_with (show wpList _ _ _ (Oper.mk (some 16) _ _ _ _ _ :: _) _ _; refine wpList_load_row rfl 48 (.tmp 1) rfl w.heap.size rfl 48 (Ev.cells x).toArray (0, 0) _ R2.out Tryz.underlying48 rfl (by kernel_rfl) ?_)
      refine (hart_any x _).mono ?_
      rintro e w3 ⟨rfl, hb⟩
      have R3 := (hb.block w.heap.size (Array.getElem?_eq_some_iff.1 R2.out).1).trans R2.out
      have c2 : w3.cell? ⟨w.heap.size, 2, none⟩ = some (.int .u32 x.a) := by rw [cell_of_row _ _ _ _ _ _ R3]; rfl
      have c7 : w3.cell? ⟨w.heap.size, 7, none⟩ = some (.int .i64 x.p) := by rw [cell_of_row _ _ _ _ _ _ R3]; rfl
      have c8 : w3.cell? ⟨w.heap.size, 8, none⟩ = some (.int .i64 x.s) := by rw [cell_of_row _ _ _ _ _ _ R3]; rfl
      have HBB := Lib.hid (HB.out.trans (hb.mono HB.out.size)); clear hb R3
      rw [← HB1.out]
      go_wp2_with (first
        | (go_at_call 119; refine (inB_any _ _ _).mono ?_; rintro e w' ⟨rfl, rfl⟩; (first | rw [← HB3.out] | rw [← HB4.out])))
      go_ret
      exact ⟨by first | rfl | simp, HBB.out⟩
  exact main _ rfl
end Go.Proofs.YtecnnkidalkmfaaGreat
end

section
namespace Go.Proofs.YtecnnkidalkmfaaGreat
open Go.RowKit
set_option linter.unusedVariables false
set_option linter.unusedSimpArgs false
namespace Ev
def evAt (xs : List R) (k : Nat) : Bool := partsOk (nth xs k) && depsOk xs k && (k == 0 || follow (nth xs ((k : Int) - 1)) (nth xs k))
def evsOk (xs : List R) : Bool := (List.range xs.length).all (evAt xs) && begun xs
end Ev
theorem follow_is {x y : Ev.R} {b : Bool} (h : Ev.follow x y = b) (w : World) : Calls Tryz.prog 96 #[.agg (Ev.cells x).toArray, .agg (Ev.cells y).toArray] w fun e w' => e = .returned (.bool b) ∧ Below w.heap.size w w' := h ▸ follow_any x y w
set_option maxRecDepth 100000 in
set_option maxHeartbeats 4000000 in
theorem evs_any (a : Option Addr) (c : Nat) (xs : List Ev.R) (w : World) (hin : Ev.EvsIn w a c xs) :
    Calls Tryz.prog 71 #[.slice a xs.length c] w fun e w' => e = .returned (.bool (Ev.evsOk xs)) ∧ Below w.heap.size w w' := by
  have hmax := hin.max; have hle := hin.le
  have HIN := Lib.hid hin; clear hin
  go_enter Tryz.func71, Tryz.ntmps71
  go_wp2
  go_loopw [3, 7] (fun _ i wr => ∃ k : Nat, k ≤ xs.length ∧ i = .int .i64 (k : Int) ∧ (∀ j, j < k → Ev.evAt xs j = true) ∧ Below w.heap.size w wr) (fun _ i _ => xs.length - (intOf i).toNat)
  case atStart => exact ⟨0, Nat.zero_le _, rfl, fun j hj => absurd hj (by omega), Below.refl _ _⟩
  case round =>
    obtain ⟨k, hk, rfl, hall, hbr⟩ := hrel
    have HA := Lib.hid hall; have HBR := Lib.hid hbr; clear hall hbr
    by_cases hlt : k < xs.length
    · obtain ⟨x, hx⟩ : ∃ x, xs[k]? = some x := ⟨_, List.getElem?_eq_getElem hlt⟩
      have hxn := Ev.nth_some hx
      have KW := Ev.kp_below HBR.out
      obtain ⟨g, o, ea, hcx⟩ := (HIN.out.kp KW).at_ hx
      have hxa := (HIN.out.ok_ hx).a
      have HC := Lib.hid hcx; have HXN := Lib.hid hxn; have HXA := Lib.hid hxa; have HEA := Lib.hid ea; have HX := Lib.hid hx
      have hki : (k : Int) < (xs.length : Int) := by omega
      have fin : Ev.evAt xs k = false → Ev.evsOk xs = false := fun e => by
        unfold Ev.evsOk
        have : (List.range xs.length).all (Ev.evAt xs) = false := by rw [List.all_eq_false]; exact ⟨k, List.mem_range.2 hlt, by rw [e]; simp⟩
        rw [this]; rfl
      have FIN := Lib.hid fin
      have HAT := Lib.hid (show Ev.evAt xs k = (Ev.partsOk x && Ev.depsOk xs k && (k == 0 || Ev.follow (Ev.nth xs ((k : Int) - 1)) x)) by unfold Ev.evAt; rw [hxn])
      clear hx hxn hcx hxa KW fin
      rw [ea]; clear ea
      go_wp2_with (first
          | (show wpList _ _ _ (Oper.mk (some 11) _ _ _ _ _ :: _) _ _; refine wpList_load_at rfl 48 (.tmp 10) rfl g (o + k * 13) rfl (Ev.cells x) _ HC.out Tryz.underlying48 rfl (by kernel_rfl) ?_)
          | (show wpList _ _ _ (Oper.mk none (Op.store 48 _ _) _ _ _ _ :: _) _ _; refine wpList_store_own rfl 48 (.tmp 4) (.tmp 11) rfl wr.heap.size (Ev.cells x).toArray rfl rfl 48 (Ev.cells Ev.R0).toArray (heap_alloc_new _ _) (by kernel_rfl) (by kernel_rfl) (by kernel_rfl) ?_
             intro W1 HW1
             have B1 := Lib.hid (((Below.refl wr.heap.size wr).alloc (Nat.le_refl _) _).trans HW1.below)
             have RW := Lib.hid HW1.row
             clear HW1)
          | (show wpList _ _ _ (Oper.mk (some 12) _ _ _ _ _ :: _) _ _; refine wpList_load_row rfl 48 (.tmp 4) rfl wr.heap.size (by kernel_rfl) 48 (Ev.cells x).toArray (0, 0) _ RW.out Tryz.underlying48 rfl (by kernel_rfl) ?_))
      refine (partsOk_any x _ HXA.out).mono ?_
      rintro e W2 ⟨rfl, hb2⟩
      have RW2 := Lib.hid ((hb2.block wr.heap.size (Array.getElem?_eq_some_iff.1 RW.out).1).trans RW.out)
      have B2 := Lib.hid (B1.out.trans (hb2.mono B1.out.size)); clear hb2
      obtain ⟨b1, hb1⟩ : ∃ b, Ev.partsOk x = b := ⟨_, rfl⟩
      have H1 := Lib.hid hb1
      rw [hb1]; clear hb1
      cases b1
      · go_wp2_with fail
        go_ret
        exact ⟨by rw [FIN.out (by rw [HAT.out, H1.out]; rfl)]; rfl, HBR.out.trans (B2.out.mono HBR.out.size)⟩
      go_wp2_with fail
      refine (deps_any (some ⟨g, o, none⟩) c xs k hlt _ (by rw [← HEA.out]; exact (HIN.out.kp (Ev.kp_below HBR.out)).kp (Ev.kp_below B2.out))).mono ?_
      rintro e W3 ⟨rfl, hb3⟩
      have RW3 := Lib.hid ((hb3.block wr.heap.size (Array.getElem?_eq_some_iff.1 RW2.out).1).trans RW2.out)
      have B3 := Lib.hid (B2.out.trans (hb3.mono B2.out.size)); clear hb3
      obtain ⟨b2, hb2⟩ : ∃ b, Ev.depsOk xs k = b := ⟨_, rfl⟩
      have H2 := Lib.hid hb2
      rw [hb2]; clear hb2
      cases b2
      · go_wp2_with fail
        go_ret
        exact ⟨by rw [FIN.out (by rw [HAT.out, H1.out, H2.out]; rfl)]; rfl, HBR.out.trans (B3.out.mono HBR.out.size)⟩
      by_cases h0 : k = 0
      · have HK0 := Lib.hid h0
        have hkz : decide (0 < (k : Int)) = false := decide_eq_false (by omega)
        have hkz' : decide (0 < k) = false := decide_eq_false (by omega)
        clear h0
        go_wp2_with fail
        refine Og.regionB (by kernel_rfl) (by kernel_rfl) ?_
        repeat (first
          | go_big_quiet_skip
          | (go_big_quiet_want
             first
              | (go_big_quiet_op
                 first
                  | go_big_quiet_on)))
        refine wpQuiet_nil ?_
        intro _ hw'
        obtain ⟨q9, hw''⟩ := hw'
        subst hw''
        have HEND := Lib.hid (B3.out.trans (q9.b.mono B3.out.size))
        go_wp2_with fail
        go_roundw
        case rel =>
          refine ⟨k + 1, by omega, by go_num, fun j hj => ?_, HBR.out.trans (HEND.out.mono HBR.out.size)⟩
          by_cases hjk : j = k
          · subst hjk; rw [HAT.out, H1.out, H2.out, HK0.out]; rfl
          · exact HA.out j (by omega)
        case measure => simp [intOf]; omega
      · have hkz : decide (0 < (k : Int)) = true := decide_eq_true (by omega)
        have hkz' : decide (0 < k) = true := decide_eq_true (by omega)
        obtain ⟨p, hp⟩ : ∃ p, k = p + 1 := ⟨k - 1, by omega⟩
        have hpi : (k : Int) - 1 = (p : Int) := by omega
        have hpl : p < xs.length := by omega
        obtain ⟨y, hy⟩ : ∃ y, xs[p]? = some y := ⟨_, List.getElem?_eq_getElem hpl⟩
        have hyn := Ev.nth_some hy
        obtain ⟨g', o', eg, hcy⟩ := (HIN.out.kp (Ev.kp_below HBR.out)).at_ hy
        obtain ⟨rfl, rfl⟩ : g' = g ∧ o' = o := by rw [HEA.out] at eg; cases eg; exact ⟨rfl, rfl⟩
        have LY := Lib.hid (fun z : Og.On W3.heap.size W3 => Ev.ld (w := z.x) (g := g') (o := o' + p * 13) (x := y) (fun i c hi => Og.cellB z (Ev.kp_below B3.out _ _ (hcy i c hi))))
        have LX := Lib.hid (fun z : Og.On W3.heap.size W3 => Og.rowB (P := Tryz.prog) z 48 _ RW3.out Tryz.underlying48 rfl (by kernel_rfl))
        obtain ⟨b3, hb3⟩ : ∃ b, Ev.follow y x = b := ⟨_, rfl⟩
        have H3 := Lib.hid hb3
        have HAT2 := Lib.hid (show Ev.evAt xs k = b3 by rw [HAT.out, H1.out, H2.out, hpi, hyn, hb3]; simp [h0])
        have hpx : (p : Int) < (xs.length : Int) := by omega
        have hw1 : IntKind.i64.wrap ((k : Int) - 1) = (p : Int) := by rw [hpi]; exact IntWalk.i64_in _ (by omega)
        clear hy hyn eg hcy hb3 hp h0
        have CF := Lib.hid (fun z : Og.On W3.heap.size W3 => Og.callB (q := z) (follow_is H3.out z.x))
        cases b3
        · go_wp2_with fail
          refine Og.regionB (by kernel_rfl) (by kernel_rfl) ?_
          repeat (first
            | go_big_quiet_skip
            | (go_big_quiet_want
               first
                | (refine Og.quiet_load 48 (.tmp 27) rfl (.agg (Ev.cells y).toArray) ⟨g', o' + p * 13, none⟩ _ rfl (by rintro _ ⟨z, rfl⟩; exact LY.out z) (by simp only [Act.put, List.setIfInBounds_toArray, List.set_cons_zero, List.set_cons_succ]; rfl) ?_
                   go_big_quiet_on)
                | (refine Og.quiet_load 48 (.tmp 4) rfl (.agg (Ev.cells x).toArray) ⟨wr.heap.size, 0, none⟩ _ rfl (by rintro _ ⟨z, rfl⟩; exact LX.out z) (by simp only [Act.put, List.setIfInBounds_toArray, List.set_cons_zero, List.set_cons_succ]; rfl) ?_
                   go_big_quiet_on)
                | (go_big_quiet_op
                   first
                    | go_big_quiet_on
                    | (apply Exists.intro
                       refine ⟨fun z => ?_, ?_⟩
                       · first
                          | exact CF.out z
                       go_big_quiet_on))))
          refine wpQuiet_nil ?_
          intro _ hw'
          obtain ⟨q9, hw''⟩ := hw'
          subst hw''
          have HEND := Lib.hid (B3.out.trans (q9.b.mono B3.out.size))
          go_wp2_with fail
          go_ret
          exact ⟨by rw [FIN.out HAT2.out]; rfl, HBR.out.trans (HEND.out.mono HBR.out.size)⟩
        · go_wp2_with fail
          refine Og.regionB (by kernel_rfl) (by kernel_rfl) ?_
          repeat (first
            | go_big_quiet_skip
            | (go_big_quiet_want
               first
                | (refine Og.quiet_load 48 (.tmp 27) rfl (.agg (Ev.cells y).toArray) ⟨g', o' + p * 13, none⟩ _ rfl (by rintro _ ⟨z, rfl⟩; exact LY.out z) (by simp only [Act.put, List.setIfInBounds_toArray, List.set_cons_zero, List.set_cons_succ]; rfl) ?_
                   go_big_quiet_on)
                | (refine Og.quiet_load 48 (.tmp 4) rfl (.agg (Ev.cells x).toArray) ⟨wr.heap.size, 0, none⟩ _ rfl (by rintro _ ⟨z, rfl⟩; exact LX.out z) (by simp only [Act.put, List.setIfInBounds_toArray, List.set_cons_zero, List.set_cons_succ]; rfl) ?_
                   go_big_quiet_on)
                | (go_big_quiet_op
                   first
                    | go_big_quiet_on
                    | (apply Exists.intro
                       refine ⟨fun z => ?_, ?_⟩
                       · first
                          | exact CF.out z
                       go_big_quiet_on))))
          refine wpQuiet_nil ?_
          intro _ hw'
          obtain ⟨q9, hw''⟩ := hw'
          subst hw''
          have HEND := Lib.hid (B3.out.trans (q9.b.mono B3.out.size))
          go_wp2_with fail
          go_roundw
          case rel =>
            refine ⟨k + 1, by omega, by go_num, fun j hj => ?_, HBR.out.trans (HEND.out.mono HBR.out.size)⟩
            by_cases hjk : j = k
            · subst hjk; exact HAT2.out
            · exact HA.out j (by omega)
          case measure => simp [intOf]; omega
    · have hki : ¬ (k : Int) < (xs.length : Int) := by omega
      have HF := Lib.hid (show Ev.evsOk xs = Ev.begun xs by
        unfold Ev.evsOk
        have : (List.range xs.length).all (Ev.evAt xs) = true := by
          rw [List.all_eq_true]; intro j hj; exact HA.out j (by have := List.mem_range.1 hj; omega)
        rw [this, Bool.true_and])
      go_wp2_with fail
      refine (begun_any a c xs _ (HIN.out.kp (Ev.kp_below HBR.out))).mono ?_
      rintro e W2 ⟨rfl, hb2⟩
      have HEND := Lib.hid (HBR.out.trans (hb2.mono HBR.out.size)); clear hb2
      go_wp2_with fail
      go_ret
      exact ⟨by rw [HF.out]; rfl, HEND.out⟩
end Go.Proofs.YtecnnkidalkmfaaGreat
end
