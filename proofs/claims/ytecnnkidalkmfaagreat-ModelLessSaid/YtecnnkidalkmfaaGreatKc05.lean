import Derived.Test.YtecnnkidalkmfaaGreatKc01
import Derived.Laws.BitsAllLaws
import Derived.Laws.BitsLemmas
set_option linter.unusedVariables false
set_option linter.unusedSimpArgs false

section
namespace Go.Proofs.YtecnnkidalkmfaaGreat
open Go.RowKit
namespace Ev
def fl (x : R) : List (Nat × Bool) := [(1, x.a != 0), (2, x.v != 0), (4, x.r != 0), (8, x.q), (16, x.l), (32, x.p != 0), (64, x.s != 0), (128, x.z), (256, (x.d1.l.length : Int) != 0), (512, (x.d2.l.length : Int) != 0), (1024, (x.d3.l.length : Int) != 0)]
def filled (x : R) : Nat := (fl x).foldl (fun m y => m ||| bit y.2 y.1) 0
theorem or_lt (m p : Nat) (hm : m < 2048) (hp : p < 2048) : m ||| p < 2048 := Nat.or_lt_two_pow (n := 11) hm hp
theorem bit_lt (b : Bool) (p : Nat) (hp : p < 2048) : bit b p < 2048 := by unfold bit; split <;> omega
theorem ofInt_i64 (a : Nat) (ha : a < 9223372036854775808) : (BitVec.ofInt 64 (a : Int)).toNat = a := by
  rw [BitVec.ofInt_natCast, BitVec.toNat_ofNat]; exact Nat.mod_eq_of_lt (by omega)
theorem i64_or_nat (a b : Nat) (ha : a < 9223372036854775808) (hb : b < 9223372036854775808) : bits .or .i64 (a : Int) (b : Int) = ((a ||| b : Nat) : Int) := by
  have hx : a ||| b < 2 ^ 63 := Nat.or_lt_two_pow (by omega) (by omega)
  show IntKind.i64.wrap ((BitVec.ofInt 64 (a : Int) ||| BitVec.ofInt 64 (b : Int)).toNat : Int) = _
  rw [BitVec.toNat_or, ofInt_i64 a ha, ofInt_i64 b hb, IntKind.wrap_i64]
  omega
structure Two (W : World) (n : Nat) (row : Array Value) (m : Nat) : Prop where
  box : W.heap[n]? = some (.cells row 48 (0, 0))
  cell : W.heap[n + 1]? = some (.cells #[.int .i64 (m : Int)] 146 (0, 0))
end Ev
theorem note_any (g m p : Nat) (b : Bool) (w : World) (hm : m < 2048) (hp : p < 2048) (hg : w.heap[g]? = some (.cells #[.int .i64 (m : Int)] 146 (0, 0))) :
    Calls Tryz.prog 148 #[.int .i64 (p : Int), .bool b, .pointer (some ⟨g, 0, none⟩)] w fun e w' => e = .returned (.tuple #[]) ∧ Ev.Set1 w w' g 146 #[.int .i64 ((m ||| Ev.bit b p : Nat) : Int)] := by
  have hc : w.cell? ⟨g, 0, none⟩ = some (.int .i64 (m : Int)) := by rw [cell_of_row w g 0 _ _ _ hg]; rfl
  have hf : w.frozen? ⟨g, 0, none⟩ = false := by simp [World.frozen?, hg]
  have HG := Lib.hid hg; clear hg
  cases b
  · go_enter Tryz.func148, Tryz.ntmps148
    go_wp2
    go_end0
    refine ⟨rfl, ?_⟩
    have h0 : m ||| Ev.bit false p = m := by simp [Ev.bit]
    rw [h0]
    exact ⟨HG.out, rfl, Below.refl _ _, fun _ _ => rfl⟩
  · have ho := Ev.i64_or_nat m p (by omega) (by omega)
    go_enter Tryz.func148, Tryz.ntmps148
    go_wp2
    go_end0
    refine ⟨rfl, ?_⟩
    have e : w.setCell ⟨g, 0, none⟩ (.int .i64 ((m ||| p : Nat) : Int)) = w.setRow g #[.int .i64 ((m ||| p : Nat) : Int)] := by
      simp only [World.setCell, World.setRow]
      congr 1
      apply Array.ext
      · simp
      · intro i h1 h2
        simp only [Array.getElem_modify]
        split
        · rename_i hi
          have h3 := Array.getElem?_eq_some_iff.1 HG.out
          obtain ⟨h4, h5⟩ := h3
          subst hi
          rw [h5]
          rfl
        · rfl
    have e2 : Ev.bit true p = p := rfl
    rw [e2]
    first | rw [e] | (simp only [ho] at *; rw [e])
    exact Ev.set1 HG.out rfl
theorem Ev.two_next {W W' : World} {n : Nat} {row : Array Value} {m m' : Nat} (h : Ev.Two W n row m) (s : Ev.Set1 W W' (n + 1) 146 #[.int .i64 (m' : Int)]) : Ev.Two W' n row m' :=
  ⟨(s.block n (by omega)).trans h.box, s.row⟩
set_option maxRecDepth 100000 in
set_option maxHeartbeats 2000000 in
theorem filled_any (x : Ev.R) (w : World) : Calls Tryz.prog 117 #[Ev.evV x] w fun e w' => e = .returned (.int .i64 ((Ev.filled x : Nat) : Int)) ∧ Ev.filled x < 2048 ∧ Below w.heap.size w w' := by
  unfold Ev.evV Ev.cells
  obtain ⟨m0, hm0⟩ : ∃ m : Nat, m = 0 := ⟨_, rfl⟩
  obtain ⟨m1, hm1⟩ : ∃ m : Nat, m = m0 ||| Ev.bit (x.a != 0) 1 := ⟨_, rfl⟩
  obtain ⟨m2, hm2⟩ : ∃ m : Nat, m = m1 ||| Ev.bit (x.v != 0) 2 := ⟨_, rfl⟩
  obtain ⟨m3, hm3⟩ : ∃ m : Nat, m = m2 ||| Ev.bit (x.r != 0) 4 := ⟨_, rfl⟩
  obtain ⟨m4, hm4⟩ : ∃ m : Nat, m = m3 ||| Ev.bit (x.q) 8 := ⟨_, rfl⟩
  obtain ⟨m5, hm5⟩ : ∃ m : Nat, m = m4 ||| Ev.bit (x.l) 16 := ⟨_, rfl⟩
  obtain ⟨m6, hm6⟩ : ∃ m : Nat, m = m5 ||| Ev.bit (x.p != 0) 32 := ⟨_, rfl⟩
  obtain ⟨m7, hm7⟩ : ∃ m : Nat, m = m6 ||| Ev.bit (x.s != 0) 64 := ⟨_, rfl⟩
  obtain ⟨m8, hm8⟩ : ∃ m : Nat, m = m7 ||| Ev.bit (x.z) 128 := ⟨_, rfl⟩
  obtain ⟨m9, hm9⟩ : ∃ m : Nat, m = m8 ||| Ev.bit ((x.d1.l.length : Int) != 0) 256 := ⟨_, rfl⟩
  obtain ⟨m10, hm10⟩ : ∃ m : Nat, m = m9 ||| Ev.bit ((x.d2.l.length : Int) != 0) 512 := ⟨_, rfl⟩
  obtain ⟨m11, hm11⟩ : ∃ m : Nat, m = m10 ||| Ev.bit ((x.d3.l.length : Int) != 0) 1024 := ⟨_, rfl⟩
  have hres : Ev.filled x = m11 := by rw [hm11, hm10, hm9, hm8, hm7, hm6, hm5, hm4, hm3, hm2, hm1, hm0]; rfl
  have l0 : m0 < 2048 := by omega
  have l1 : m1 < 2048 := by rw [hm1]; exact Ev.or_lt _ _ l0 (Ev.bit_lt _ _ (by omega))
  have l2 : m2 < 2048 := by rw [hm2]; exact Ev.or_lt _ _ l1 (Ev.bit_lt _ _ (by omega))
  have l3 : m3 < 2048 := by rw [hm3]; exact Ev.or_lt _ _ l2 (Ev.bit_lt _ _ (by omega))
  have l4 : m4 < 2048 := by rw [hm4]; exact Ev.or_lt _ _ l3 (Ev.bit_lt _ _ (by omega))
  have l5 : m5 < 2048 := by rw [hm5]; exact Ev.or_lt _ _ l4 (Ev.bit_lt _ _ (by omega))
  have l6 : m6 < 2048 := by rw [hm6]; exact Ev.or_lt _ _ l5 (Ev.bit_lt _ _ (by omega))
  have l7 : m7 < 2048 := by rw [hm7]; exact Ev.or_lt _ _ l6 (Ev.bit_lt _ _ (by omega))
  have l8 : m8 < 2048 := by rw [hm8]; exact Ev.or_lt _ _ l7 (Ev.bit_lt _ _ (by omega))
  have l9 : m9 < 2048 := by rw [hm9]; exact Ev.or_lt _ _ l8 (Ev.bit_lt _ _ (by omega))
  have l10 : m10 < 2048 := by rw [hm10]; exact Ev.or_lt _ _ l9 (Ev.bit_lt _ _ (by omega))
  have l11 : m11 < 2048 := by rw [hm11]; exact Ev.or_lt _ _ l10 (Ev.bit_lt _ _ (by omega))
  rw [hres]
  have HM0 := Lib.hid hm0; clear hm0
  have HM1 := Lib.hid hm1; clear hm1
  have HM2 := Lib.hid hm2; clear hm2
  have HM3 := Lib.hid hm3; clear hm3
  have HM4 := Lib.hid hm4; clear hm4
  have HM5 := Lib.hid hm5; clear hm5
  have HM6 := Lib.hid hm6; clear hm6
  have HM7 := Lib.hid hm7; clear hm7
  have HM8 := Lib.hid hm8; clear hm8
  have HM9 := Lib.hid hm9; clear hm9
  have HM10 := Lib.hid hm10; clear hm10
  have HM11 := Lib.hid hm11; clear hm11
  clear hres
  have T0 : Ev.Two (((w.alloc (.cells #[.int .i64 x.h, .int .i64 x.k, .int .u32 x.a, .int .u32 x.v, .int .u32 x.r, .bool x.q, .bool x.l, .int .i64 x.p, .int .i64 x.s, .bool x.z, .slice x.d1.a x.d1.l.length x.d1.c, .slice x.d2.a x.d2.l.length x.d2.c, .slice x.d3.a x.d3.l.length x.d3.c] 48)).alloc (.cells #[.int .i64 0] 146))) w.heap.size #[.int .i64 x.h, .int .i64 x.k, .int .u32 x.a, .int .u32 x.v, .int .u32 x.r, .bool x.q, .bool x.l, .int .i64 x.p, .int .i64 x.s, .bool x.z, .slice x.d1.a x.d1.l.length x.d1.c, .slice x.d2.a x.d2.l.length x.d2.c, .slice x.d3.a x.d3.l.length x.d3.c] m0 := by
    rw [HM0.out]
    exact ⟨(Below.heap_alloc _ _ _ (by simp)).trans (heap_alloc_new _ _), heap_alloc2_new w _ _⟩
  have B0 : Below w.heap.size w ((w.alloc (.cells #[.int .i64 x.h, .int .i64 x.k, .int .u32 x.a, .int .u32 x.v, .int .u32 x.r, .bool x.q, .bool x.l, .int .i64 x.p, .int .i64 x.s, .bool x.z, .slice x.d1.a x.d1.l.length x.d1.c, .slice x.d2.a x.d2.l.length x.d2.c, .slice x.d3.a x.d3.l.length x.d3.c] 48)).alloc (.cells #[.int .i64 0] 146)) := ((Below.refl _ _).alloc (Nat.le_refl _) _).alloc (by simp only [World.size_alloc]; omega) _
  have HT0 := Lib.hid T0; have HB0 := Lib.hid B0; clear T0 B0
  go_enter Tryz.func117, Tryz.ntmps117
  go_wp2_with fail
  refine (note_any (w.heap.size + 1) m0 1 (x.a != 0) _ l0 (by omega) HT0.out.cell).mono ?_
  rintro e W1 ⟨rfl, hs1⟩
  rw [← HM1.out] at hs1
  have HT1 := Lib.hid (Ev.two_next HT0.out hs1)
  have HB1 := Lib.hid (HB0.out.trans (hs1.below.mono (Nat.le_succ _)))
  clear hs1
  have c1 : W1.cell? ⟨w.heap.size, 3, none⟩ = some (.int .u32 x.v) := by rw [cell_of_row _ _ _ _ _ _ HT1.out.box]; rfl
  go_wp2_with fail
  clear c1
  refine (note_any (w.heap.size + 1) m1 2 (x.v != 0) _ l1 (by omega) HT1.out.cell).mono ?_
  rintro e W2 ⟨rfl, hs2⟩
  rw [← HM2.out] at hs2
  have HT2 := Lib.hid (Ev.two_next HT1.out hs2)
  have HB2 := Lib.hid (HB1.out.trans (hs2.below.mono (Nat.le_succ _)))
  clear hs2
  have c2 : W2.cell? ⟨w.heap.size, 4, none⟩ = some (.int .u32 x.r) := by rw [cell_of_row _ _ _ _ _ _ HT2.out.box]; rfl
  go_wp2_with fail
  clear c2
  refine (note_any (w.heap.size + 1) m2 4 (x.r != 0) _ l2 (by omega) HT2.out.cell).mono ?_
  rintro e W3 ⟨rfl, hs3⟩
  rw [← HM3.out] at hs3
  have HT3 := Lib.hid (Ev.two_next HT2.out hs3)
  have HB3 := Lib.hid (HB2.out.trans (hs3.below.mono (Nat.le_succ _)))
  clear hs3
  have c3 : W3.cell? ⟨w.heap.size, 5, none⟩ = some (.bool x.q) := by rw [cell_of_row _ _ _ _ _ _ HT3.out.box]; rfl
  go_wp2_with fail
  clear c3
  refine (note_any (w.heap.size + 1) m3 8 (x.q) _ l3 (by omega) HT3.out.cell).mono ?_
  rintro e W4 ⟨rfl, hs4⟩
  rw [← HM4.out] at hs4
  have HT4 := Lib.hid (Ev.two_next HT3.out hs4)
  have HB4 := Lib.hid (HB3.out.trans (hs4.below.mono (Nat.le_succ _)))
  clear hs4
  have c4 : W4.cell? ⟨w.heap.size, 6, none⟩ = some (.bool x.l) := by rw [cell_of_row _ _ _ _ _ _ HT4.out.box]; rfl
  go_wp2_with fail
  clear c4
  refine (note_any (w.heap.size + 1) m4 16 (x.l) _ l4 (by omega) HT4.out.cell).mono ?_
  rintro e W5 ⟨rfl, hs5⟩
  rw [← HM5.out] at hs5
  have HT5 := Lib.hid (Ev.two_next HT4.out hs5)
  have HB5 := Lib.hid (HB4.out.trans (hs5.below.mono (Nat.le_succ _)))
  clear hs5
  have c5 : W5.cell? ⟨w.heap.size, 7, none⟩ = some (.int .i64 x.p) := by rw [cell_of_row _ _ _ _ _ _ HT5.out.box]; rfl
  go_wp2_with fail
  clear c5
  refine (note_any (w.heap.size + 1) m5 32 (x.p != 0) _ l5 (by omega) HT5.out.cell).mono ?_
  rintro e W6 ⟨rfl, hs6⟩
  rw [← HM6.out] at hs6
  have HT6 := Lib.hid (Ev.two_next HT5.out hs6)
  have HB6 := Lib.hid (HB5.out.trans (hs6.below.mono (Nat.le_succ _)))
  clear hs6
  have c6 : W6.cell? ⟨w.heap.size, 8, none⟩ = some (.int .i64 x.s) := by rw [cell_of_row _ _ _ _ _ _ HT6.out.box]; rfl
  go_wp2_with fail
  clear c6
  refine (note_any (w.heap.size + 1) m6 64 (x.s != 0) _ l6 (by omega) HT6.out.cell).mono ?_
  rintro e W7 ⟨rfl, hs7⟩
  rw [← HM7.out] at hs7
  have HT7 := Lib.hid (Ev.two_next HT6.out hs7)
  have HB7 := Lib.hid (HB6.out.trans (hs7.below.mono (Nat.le_succ _)))
  clear hs7
  have c7 : W7.cell? ⟨w.heap.size, 9, none⟩ = some (.bool x.z) := by rw [cell_of_row _ _ _ _ _ _ HT7.out.box]; rfl
  go_wp2_with fail
  clear c7
  refine (note_any (w.heap.size + 1) m7 128 (x.z) _ l7 (by omega) HT7.out.cell).mono ?_
  rintro e W8 ⟨rfl, hs8⟩
  rw [← HM8.out] at hs8
  have HT8 := Lib.hid (Ev.two_next HT7.out hs8)
  have HB8 := Lib.hid (HB7.out.trans (hs8.below.mono (Nat.le_succ _)))
  clear hs8
  have c8 : W8.cell? ⟨w.heap.size, 10, none⟩ = some (.slice x.d1.a x.d1.l.length x.d1.c) := by rw [cell_of_row _ _ _ _ _ _ HT8.out.box]; rfl
  go_wp2_with fail
  clear c8
  refine (note_any (w.heap.size + 1) m8 256 ((x.d1.l.length : Int) != 0) _ l8 (by omega) HT8.out.cell).mono ?_
  rintro e W9 ⟨rfl, hs9⟩
  rw [← HM9.out] at hs9
  have HT9 := Lib.hid (Ev.two_next HT8.out hs9)
  have HB9 := Lib.hid (HB8.out.trans (hs9.below.mono (Nat.le_succ _)))
  clear hs9
  have c9 : W9.cell? ⟨w.heap.size, 11, none⟩ = some (.slice x.d2.a x.d2.l.length x.d2.c) := by rw [cell_of_row _ _ _ _ _ _ HT9.out.box]; rfl
  go_wp2_with fail
  clear c9
  refine (note_any (w.heap.size + 1) m9 512 ((x.d2.l.length : Int) != 0) _ l9 (by omega) HT9.out.cell).mono ?_
  rintro e W10 ⟨rfl, hs10⟩
  rw [← HM10.out] at hs10
  have HT10 := Lib.hid (Ev.two_next HT9.out hs10)
  have HB10 := Lib.hid (HB9.out.trans (hs10.below.mono (Nat.le_succ _)))
  clear hs10
  have c10 : W10.cell? ⟨w.heap.size, 12, none⟩ = some (.slice x.d3.a x.d3.l.length x.d3.c) := by rw [cell_of_row _ _ _ _ _ _ HT10.out.box]; rfl
  go_wp2_with fail
  clear c10
  refine (note_any (w.heap.size + 1) m10 1024 ((x.d3.l.length : Int) != 0) _ l10 (by omega) HT10.out.cell).mono ?_
  rintro e W11 ⟨rfl, hs11⟩
  rw [← HM11.out] at hs11
  have HT11 := Lib.hid (Ev.two_next HT10.out hs11)
  have HB11 := Lib.hid (HB10.out.trans (hs11.below.mono (Nat.le_succ _)))
  clear hs11
  have c11 : W11.cell? ⟨w.heap.size + 1, 0, none⟩ = some (.int .i64 (m11 : Int)) := by rw [cell_of_row _ _ _ _ _ _ HT11.out.cell]; rfl
  go_wp2
  go_ret
  exact ⟨rfl, l11, HB11.out⟩
end Go.Proofs.YtecnnkidalkmfaaGreat
end

section
namespace Go.Proofs.YtecnnkidalkmfaaGreat
open Go.RowKit
namespace Ev
def extra (x : R) : Bool := bits .andNot .i64 ((filled x : Nat) : Int) (parts x.k) != 0
def partsOk (x : R) : Bool := parts x.k != 0 && !(extra x) && hartOk x && x.a % 4 == 0 && inB x.p 4 && inB x.s 4
end Ev
set_option maxRecDepth 100000 in
set_option maxHeartbeats 4000000 in
theorem partsOk_any (x : Ev.R) (w : World) (ha : Ev.u32B x.a) : Calls Tryz.prog 94 #[Ev.evV x] w fun e w' => e = .returned (.bool (Ev.partsOk x)) ∧ Below w.heap.size w w' := by
  have R0 := Lib.hid (heap_alloc_new w (.cells (Ev.cells x).toArray 48))
  have B0 := Lib.hid ((Below.refl w.heap.size w).alloc (Nat.le_refl _) (.cells (Ev.cells x).toArray 48))
  have hm : x.a.tmod 4 = x.a % 4 := Int.tmod_eq_emod_of_nonneg ha.1
  have HU := Lib.hid ha; clear ha
  by_cases h0 : (Ev.parts x.k == 0) = true
  · have e : Ev.partsOk x = false := by unfold Ev.partsOk; simp at h0; simp [h0]
    rw [e]; clear e
    unfold Ev.evV Ev.cells
    go_enter Tryz.func94, Tryz.ntmps94
    go_wp2_with fail
    refine (parts_any _ _).mono ?_
    rintro e w' ⟨rfl, rfl⟩
    go_wp2_with fail
    go_ret
    exact ⟨rfl, B0.out⟩
  have h0 : (Ev.parts x.k == 0) = false := by simpa using h0
  have n0 : (Ev.parts x.k != 0) = true := by simpa using h0
  by_cases h1 : Ev.extra x = true
  · have e : Ev.partsOk x = false := by unfold Ev.partsOk; simp [h1]
    have h1' : (bits .andNot .i64 ((Ev.filled x : Nat) : Int) (Ev.parts x.k) != 0) = true := h1
    rw [e]; clear e h1 n0
    unfold Ev.evV Ev.cells
    go_enter Tryz.func94, Tryz.ntmps94
    go_wp2_with fail
    refine (parts_any _ _).mono ?_
    rintro e w' ⟨rfl, rfl⟩
    go_wp2_with (show wpList _ _ _ (Oper.mk (some 10) _ _ _ _ _ :: _) _ _; refine wpList_load_row rfl 48 (.tmp 1) rfl w.heap.size rfl 48 (Ev.cells x).toArray (0, 0) _ R0.out Tryz.underlying48 rfl (by kernel_rfl) ?_)
    refine (filled_any x _).mono ?_
    rintro e w2 ⟨rfl, hlt, hb⟩
    have HB := Lib.hid (B0.out.trans (hb.mono (by simp only [World.size_alloc]; omega))); clear hb
    go_wp2_with fail
    go_ret
    exact ⟨rfl, HB.out⟩
  have h1 : Ev.extra x = false := by simpa using h1
  have h1' : (bits .andNot .i64 ((Ev.filled x : Nat) : Int) (Ev.parts x.k) != 0) = false := h1
  have eq : Ev.partsOk x = (Ev.hartOk x && x.a % 4 == 0 && Ev.inB x.p 4 && Ev.inB x.s 4) := by unfold Ev.partsOk; rw [h1, n0]; simp
  rw [eq]; clear eq n0 h1
  obtain ⟨b1, hb1⟩ : ∃ b, b = Ev.hartOk x := ⟨_, rfl⟩
  obtain ⟨b3, hb3⟩ : ∃ b, b = Ev.inB x.p 4 := ⟨_, rfl⟩
  obtain ⟨b4, hb4⟩ : ∃ b, b = Ev.inB x.s 4 := ⟨_, rfl⟩
  rw [← hb1, ← hb3, ← hb4]
  have HB1 := Lib.hid hb1; have HB3 := Lib.hid hb3; have HB4 := Lib.hid hb4; clear hb1 hb3 hb4
  have main : ∀ b2 : Bool, (x.a % 4 == 0) = b2 → Calls Tryz.prog 94 #[Ev.evV x] w fun e w' => e = .returned (.bool (b1 && b2 && b3 && b4)) ∧ Below w.heap.size w w' := by
    intro b2 h2
    have h2t : (x.a.tmod 4 == 0) = b2 := by rw [hm]; exact h2
    unfold Ev.evV Ev.cells
    clear hm
    cases b1 <;> cases b2 <;> cases b3 <;> cases b4
    all_goals
      go_enter Tryz.func94, Tryz.ntmps94
      go_wp2_with fail
      refine (parts_any _ _).mono ?_
      rintro e w' ⟨rfl, rfl⟩
      go_wp2_with (show wpList _ _ _ (Oper.mk (some 10) _ _ _ _ _ :: _) _ _; refine wpList_load_row rfl 48 (.tmp 1) rfl w.heap.size rfl 48 (Ev.cells x).toArray (0, 0) _ R0.out Tryz.underlying48 rfl (by kernel_rfl) ?_)
      refine (filled_any x _).mono ?_
      rintro e w2 ⟨rfl, hlt, hb⟩
      have R2 := Lib.hid ((hb.block w.heap.size (by simp only [World.size_alloc]; omega)).trans R0.out)
      have HB := Lib.hid (B0.out.trans (hb.mono (by simp only [World.size_alloc]; omega))); clear hb
      go_wp2_with (show wpList _ _ _ (Oper.mk (some 16) _ _ _ _ _ :: _) _ _; refine wpList_load_row rfl 48 (.tmp 1) rfl w.heap.size rfl 48 (Ev.cells x).toArray (0, 0) _ R2.out Tryz.underlying48 rfl (by kernel_rfl) ?_)
      refine (hart_any x _).mono ?_
      rintro e w3 ⟨rfl, hb⟩
      have R3 := (hb.block w.heap.size (Array.getElem?_eq_some_iff.1 R2.out).1).trans R2.out
      have c2 : w3.cell? ⟨w.heap.size, 2, none⟩ = some (.int .u32 x.a) := by rw [cell_of_row _ _ _ _ _ _ R3]; rfl
      have c7 : w3.cell? ⟨w.heap.size, 7, none⟩ = some (.int .i64 x.p) := by rw [cell_of_row _ _ _ _ _ _ R3]; rfl
      have c8 : w3.cell? ⟨w.heap.size, 8, none⟩ = some (.int .i64 x.s) := by rw [cell_of_row _ _ _ _ _ _ R3]; rfl
      have HBB := Lib.hid (HB.out.trans (hb.mono HB.out.size)); clear hb R3
      rw [← HB1.out]
      go_wp2_with (first
        | (go_at_call 119; refine (inB_any _ _ _).mono ?_; rintro e w' ⟨rfl, rfl⟩; (first | rw [← HB3.out] | rw [← HB4.out])))
      go_ret
      exact ⟨by first | rfl | simp, HBB.out⟩
  exact main _ rfl
end Go.Proofs.YtecnnkidalkmfaaGreat
end
