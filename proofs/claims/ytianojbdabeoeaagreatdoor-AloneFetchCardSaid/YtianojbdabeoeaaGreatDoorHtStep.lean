/-
  A step in memory, and the contracts of its smallest methods: what Rs1, Rs2 have, and Rd written.
-/
import Derived.Test.YtianojbdabeoeaaGreatDoorProg
import Derived.Test.YtianojbdabeoeaaGreatDoorHtMath
import Derived.Test.YtianojbdabeoeaaGreatDoorArith
import Derived.WalkKit
import Derived.WalkSpells
import Derived.WalkLawsBesides
import Derived.Handy
import Derived.Lib.Hide
import Derived.Laws.Rows
import Derived.Laws.Tables
import Derived.Laws.OwnMore
import Derived.Laws.BitsLemmas
import Derived.Deep.QuietTactic
import Derived.BigQuiet
import Derived.StillTailTactics
import Derived.Outline
import Derived.Below
namespace Go.Proofs.YtianojbdabeoeaaGreatDoor
open Go.RowKit
set_option linter.unusedVariables false
namespace Ht
/-- a hart's cells -/
def hcells (h : H) : List Value := [.int .i64 h.id, .int .u32 h.pc,
  .int .u32 (h.R 0), .int .u32 (h.R 1), .int .u32 (h.R 2), .int .u32 (h.R 3), .int .u32 (h.R 4), .int .u32 (h.R 5), .int .u32 (h.R 6), .int .u32 (h.R 7),
  .int .u32 (h.R 8), .int .u32 (h.R 9), .int .u32 (h.R 10), .int .u32 (h.R 11), .int .u32 (h.R 12), .int .u32 (h.R 13), .int .u32 (h.R 14), .int .u32 (h.R 15),
  .int .u32 (h.R 16), .int .u32 (h.R 17), .int .u32 (h.R 18), .int .u32 (h.R 19), .int .u32 (h.R 20), .int .u32 (h.R 21), .int .u32 (h.R 22), .int .u32 (h.R 23),
  .int .u32 (h.R 24), .int .u32 (h.R 25), .int .u32 (h.R 26), .int .u32 (h.R 27), .int .u32 (h.R 28), .int .u32 (h.R 29), .int .u32 (h.R 30), .int .u32 (h.R 31), .int .i64 h.cause]
def icells (i : I) : List Value := [.int .i64 i.op, .int .i64 i.rd, .int .i64 i.rs1, .int .i64 i.rs2, .int .u32 i.imm, .bool i.aq, .bool i.rl]
def acells (a : A) : List Value := [.int .i64 a.kind, .int .u32 a.addr, .int .i64 a.width, .int .u32 a.value, .int .i64 a.op, .bool a.aq, .bool a.rl]
def scells (s : S) : List Value := hcells s.h ++ icells s.i ++ [.int .i64 s.size, .int .u32 s.tv, .bool s.tok] ++ acells s.a ++ [.int .u32 s.next]
def hartV (h : H) : Value := .agg (hcells h).toArray
def accV (a : A) : Value := .agg (acells a).toArray
def stepV (s : S) : Value := .agg (scells s).toArray
/-- a step that stands in block p -/
def Stp (w : World) (p : Nat) (s : S) : Prop := w.heap[p]? = some (.cells (scells s).toArray 87 (0, 0))
theorem Stp.cell {w : World} {p : Nat} {s : S} (h : Stp w p s) (j : Nat) : w.cell? ⟨p, j, none⟩ = (scells s)[j]? := by
  rw [cell_of_row w p j _ _ _ h]; simp
theorem Stp.free {w : World} {p : Nat} {s : S} (h : Stp w p s) (j : Nat) : w.frozen? ⟨p, j, none⟩ = false := frozen_of_row w p j _ _ h
theorem Stp.lt {w : World} {p : Nat} {s : S} (h : Stp w p s) : p < w.heap.size := by
  unfold Stp at h
  exact (Array.getElem?_eq_some_iff.1 h).1
theorem scells_reg (s : S) (k : Nat) (h : k ≤ 31) : (scells s)[2 + k]? = some (.int .u32 (s.h.R k)) := by
  rcases (show k = 0 ∨ k = 1 ∨ k = 2 ∨ k = 3 ∨ k = 4 ∨ k = 5 ∨ k = 6 ∨ k = 7 ∨ k = 8 ∨ k = 9 ∨ k = 10 ∨ k = 11 ∨ k = 12 ∨ k = 13 ∨ k = 14 ∨ k = 15 ∨ k = 16 ∨ k = 17 ∨ k = 18 ∨ k = 19 ∨ k = 20 ∨ k = 21 ∨ k = 22 ∨ k = 23 ∨ k = 24 ∨ k = 25 ∨ k = 26 ∨ k = 27 ∨ k = 28 ∨ k = 29 ∨ k = 30 ∨ k = 31 by omega) with
    rfl | rfl | rfl | rfl | rfl | rfl | rfl | rfl | rfl | rfl | rfl | rfl | rfl | rfl | rfl | rfl | rfl | rfl | rfl | rfl | rfl | rfl | rfl | rfl | rfl | rfl | rfl | rfl | rfl | rfl | rfl | rfl <;> rfl
theorem Stp.reg {w : World} {p : Nat} {s : S} (h : Stp w p s) (k : Nat) (hk : k ≤ 31) : w.cell? ⟨p, 2 + k, none⟩ = some (.int .u32 (s.h.R k)) := by
  rw [h.cell, scells_reg s k hk]
theorem scells_put (s : S) (n : Int) (h0 : s.i.rd ≠ 0) (h : s.i.rd ≤ 31) : (scells s).toArray.setIfInBounds (2 + s.i.rd) (.int .u32 n) = (scells (s.put n)).toArray := by
  have e : ∀ k : Nat, k ≠ 0 → k ≤ 31 → (scells s).set (2 + k) (.int .u32 n) = scells { s with h := { s.h with R := upd s.h.R k n } } := by
    intro k h0 h
    rcases (show k = 1 ∨ k = 2 ∨ k = 3 ∨ k = 4 ∨ k = 5 ∨ k = 6 ∨ k = 7 ∨ k = 8 ∨ k = 9 ∨ k = 10 ∨ k = 11 ∨ k = 12 ∨ k = 13 ∨ k = 14 ∨ k = 15 ∨ k = 16 ∨ k = 17 ∨ k = 18 ∨ k = 19 ∨ k = 20 ∨ k = 21 ∨ k = 22 ∨ k = 23 ∨ k = 24 ∨ k = 25 ∨ k = 26 ∨ k = 27 ∨ k = 28 ∨ k = 29 ∨ k = 30 ∨ k = 31 by omega) with
      rfl | rfl | rfl | rfl | rfl | rfl | rfl | rfl | rfl | rfl | rfl | rfl | rfl | rfl | rfl | rfl | rfl | rfl | rfl | rfl | rfl | rfl | rfl | rfl | rfl | rfl | rfl | rfl | rfl | rfl | rfl <;> rfl
  have e2 : s.put n = { s with h := { s.h with R := upd s.h.R s.i.rd n } } := by unfold S.put Ht.put; rw [if_neg h0]
  rw [e2, ← e s.i.rd h0 h]
  simp
theorem Stp.setCell {w : World} {p : Nat} {s s' : S} (h : Stp w p s) (j : Nat) (v : Value) (he : (scells s).toArray.setIfInBounds j v = (scells s').toArray) : Stp (w.setCell ⟨p, j, none⟩ v) p s' := by
  have := heap_setCell_same w p j _ _ v h
  rw [he] at this
  exact this
end Ht
open Ht
theorem first_any (s : S) (p : Nat) (w : World) (hs : Stp w p s) (h1 : s.i.rs1 ≤ 31) :
    Calls Tryz.prog 110 #[.pointer (some ⟨p, 0, none⟩)] w fun e w' => e = .returned (.int .u32 s.first) ∧ ∃ n, w' = w.drewN n := by
  have c1 : w.cell? ⟨p, 37, none⟩ = some (.int .i64 s.i.rs1) := hs.cell 37
  have c2 := hs.reg s.i.rs1 h1
  have b1 : (s.i.rs1 : Int) < 32 := by omega
  have HS := Lib.hid hs; clear hs
  go_enter Tryz.func110, Tryz.ntmps110
  go_wp2
  go_quiet (fail)
  go_wp2
  go_ret
  exact ⟨rfl, _, rfl⟩
theorem second_any (s : S) (p : Nat) (w : World) (hs : Stp w p s) (h1 : s.i.rs2 ≤ 31) :
    Calls Tryz.prog 113 #[.pointer (some ⟨p, 0, none⟩)] w fun e w' => e = .returned (.int .u32 s.second) ∧ ∃ n, w' = w.drewN n := by
  have c1 : w.cell? ⟨p, 38, none⟩ = some (.int .i64 s.i.rs2) := hs.cell 38
  have c2 := hs.reg s.i.rs2 h1
  have b1 : (s.i.rs2 : Int) < 32 := by omega
  have HS := Lib.hid hs; clear hs
  go_enter Tryz.func113, Tryz.ntmps113
  go_wp2
  go_quiet (fail)
  go_wp2
  go_ret
  exact ⟨rfl, _, rfl⟩
theorem put_zero (s : S) (n : Int) (p : Nat) (w : World) (hs : Stp w p s) (h0 : s.i.rd = 0) :
    Calls Tryz.prog 108 #[.pointer (some ⟨p, 0, none⟩), .int .u32 n] w fun e w' => e = .returned (.tuple #[]) ∧ w' = w := by
  have c1 : w.cell? ⟨p, 36, none⟩ = some (.int .i64 0) := by rw [hs.cell 36]; show some (Value.int .i64 (s.i.rd : Int)) = _; rw [h0]; rfl
  have HS := Lib.hid hs; have H0 := Lib.hid h0; clear hs h0
  go_enter Tryz.func108, Tryz.ntmps108
  go_wp2
  go_end0
  exact ⟨rfl, rfl⟩
set_option maxRecDepth 100000 in
theorem put_some (s : S) (n : Int) (p : Nat) (w : World) (hs : Stp w p s) (h0 : s.i.rd ≠ 0) (h1 : s.i.rd ≤ 31) :
    Calls Tryz.prog 108 #[.pointer (some ⟨p, 0, none⟩), .int .u32 n] w fun e w' => e = .returned (.tuple #[]) ∧ ∃ m, w' = (w.setCell ⟨p, 2 + s.i.rd, none⟩ (.int .u32 n)).drewN m := by
  have c1 : w.cell? ⟨p, 36, none⟩ = some (.int .i64 s.i.rd) := hs.cell 36
  have c2 := hs.reg s.i.rd h1
  have c3 := hs.free (2 + s.i.rd)
  have b0 : ((s.i.rd : Int) != 0) = true := by simpa using h0
  have b1 : (s.i.rd : Int) < 32 := by omega
  have HS := Lib.hid hs; have H0 := Lib.hid h0; clear hs h0
  go_enter Tryz.func108, Tryz.ntmps108
  go_wp2
  go_still_tail 11, (by kernel_rfl)
  go_wp2
  go_end0
  exact ⟨rfl, 1, rfl⟩
theorem hbit_any (b : Bool) (w : World) :
    Calls Tryz.prog 135 #[.bool b] w fun e w' => e = .returned (.int .u32 (b01 b)) ∧ w = w' := by
  cases b
  · go_enter Tryz.func135, Tryz.ntmps135
    go_wp2
    go_ret
    exact ⟨rfl, rfl⟩
  · go_enter Tryz.func135, Tryz.ntmps135
    go_wp2
    go_ret
    exact ⟨rfl, rfl⟩
theorem wraps_u32 (n : Int) (h₀ : 0 ≤ n) (h₁ : n < 2 ^ 32) : IntKind.u32.wrap n = n := by rw [IntKind.wrap_u32]; omega
theorem low_1 {n : Int} (hn : Ar.Wd n) : bits .and .u32 n 255 = low n 1 := by
  unfold Ar.Wd at hn
  exact (bits_mask .u32 32 (by decide) wraps_u32 8 (by omega) n hn.1 (by omega)).trans (by simp [low])
theorem low_2 {n : Int} (hn : Ar.Wd n) : bits .and .u32 n 65535 = low n 2 := by
  unfold Ar.Wd at hn
  exact (bits_mask .u32 32 (by decide) wraps_u32 16 (by omega) n hn.1 (by omega)).trans (by simp [low])
theorem low_4 {n : Int} (hn : Ar.Wd n) : bits .and .u32 n 4294967295 = low n 4 := by
  unfold Ar.Wd at hn
  exact (bits_mask .u32 32 (by decide) wraps_u32 32 (by omega) n hn.1 (by omega)).trans (by simp [low]; omega)
theorem lowest_any (n : Int) (k : Nat) (hk : k = 1 ∨ k = 2 ∨ k = 4) (hn : Ar.Wd n) (w : World) :
    Calls Tryz.prog 206 #[.int .u32 n, .int .i64 k] w fun e w' => e = .returned (.int .u32 (low n k)) ∧ w = w' := by
  have HN := Lib.hid hn; clear hn
  rcases hk with rfl | rfl | rfl
  · go_enter Tryz.func206, Tryz.ntmps206
    go_wp2
    go_ret
    exact ⟨ret_int (low_1 HN.out), rfl⟩
  · go_enter Tryz.func206, Tryz.ntmps206
    go_wp2
    go_ret
    exact ⟨ret_int (low_2 HN.out), rfl⟩
  · go_enter Tryz.func206, Tryz.ntmps206
    go_wp2
    go_ret
    exact ⟨ret_int (low_4 HN.out), rfl⟩
theorem jump_ok (s : S) (n : Int) (p : Nat) (w : World) (hs : Stp w p s) (hn : Ar.Wd n) (h : n % 4 = 0) :
    Calls Tryz.prog 107 #[.pointer (some ⟨p, 0, none⟩), .int .u32 n] w fun e w' => e = .returned (.tuple #[]) ∧ w' = w.setCell ⟨p, 52, none⟩ (.int .u32 n) := by
  have c1 : w.cell? ⟨p, 52, none⟩ = some (.int .u32 s.next) := hs.cell 52
  have c3 := hs.free 52
  unfold Ar.Wd at hn
  have HS := Lib.hid hs; clear hs
  go_enter Tryz.func107, Tryz.ntmps107
  go_wp2
  go_end0
  exact ⟨rfl, rfl⟩
theorem jump_bad (n : Int) (p : Nat) (w : World) (hn : Ar.Wd n) (h : n % 4 ≠ 0) :
    Calls Tryz.prog 107 #[.pointer (some ⟨p, 0, none⟩), .int .u32 n] w fun e w' => e = .panicked [{ v := .iface 24 (.int .i64 3), recovered := false }] ∧ w' = w := by
  unfold Ar.Wd at hn
  go_enter Tryz.func107, Tryz.ntmps107
  go_wp2
  exact ⟨rfl, rfl, rfl⟩
theorem branch_no (p : Nat) (w : World) :
    Calls Tryz.prog 112 #[.pointer (some ⟨p, 0, none⟩), .bool false] w fun e w' => e = .returned (.tuple #[]) ∧ w' = w := by
  go_enter Tryz.func112, Tryz.ntmps112
  go_wp2
  go_end0
  exact ⟨rfl, rfl⟩
theorem Ht.Stp.drewN {w : World} {p : Nat} {s : S} (h : Stp w p s) (n : Nat) : Stp (w.drewN n) p s := h
end Go.Proofs.YtianojbdabeoeaaGreatDoor
