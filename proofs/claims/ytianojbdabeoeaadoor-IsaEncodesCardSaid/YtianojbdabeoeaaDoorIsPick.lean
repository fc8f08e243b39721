/-
  take and lay of any form; the row of an Op, if it is one; what is true of the table.
-/
import Derived.Test.YtianojbdabeoeaaDoorIsTakeA
import Derived.Test.YtianojbdabeoeaaDoorIsTakeB
import Derived.Test.YtianojbdabeoeaaDoorIsTakeC
import Derived.Test.YtianojbdabeoeaaDoorIsLayA
import Derived.Test.YtianojbdabeoeaaDoorIsLayB
import Derived.Test.YtianojbdabeoeaaDoorIsLayC
import Derived.Test.YtianojbdabeoeaaDoorOgL
namespace Go.Proofs.YtianojbdabeoeaaDoor
open Go.RowKit Go.Maps
set_option linter.unusedVariables false
set_option linter.unusedSimpArgs false

theorem take_any (k : Nat) (hk : 1 ≤ k ∧ k ≤ 13) (x : Int) (hx : Is.Wd x) (w : World) :
    Calls Tryd.prog 12 #[fo k, .int .u32 x] w fun e w' => e = .returned (inst 0 (Is.rdO k x) (Is.rs1O k x) (Is.rs2O k x) (Is.immO k x) (Is.aqO k x) (Is.rlO k x)) ∧ Below w.heap.size w w' := by
  rcases (show k = 1 ∨ k = 2 ∨ k = 3 ∨ k = 4 ∨ k = 5 ∨ k = 6 ∨ k = 7 ∨ k = 8 ∨ k = 9 ∨ k = 10 ∨ k = 11 ∨ k = 12 ∨ k = 13 by omega) with rfl | rfl | rfl | rfl | rfl | rfl | rfl | rfl | rfl | rfl | rfl | rfl | rfl
  · exact take1 x hx w
  · exact take2 x hx w
  · exact take3 x hx w
  · exact take4 x hx w
  · exact take5 x hx w
  · exact take6 x hx w
  · exact take7 x hx w
  · exact take8 x hx w
  · exact take9 x hx w
  · exact take10 x hx w
  · exact take11 x hx w
  · exact take12 x hx w
  · exact take13 x hx w
theorem lay_any (k : Nat) (hk : 1 ≤ k ∧ k ≤ 13) (op rd rs1 rs2 imm : Int) (aq rl : Bool) (h1 : -9223372036854775808 ≤ rd ∧ rd ≤ 9223372036854775807) (h2 : -9223372036854775808 ≤ rs1 ∧ rs1 ≤ 9223372036854775807) (h3 : -9223372036854775808 ≤ rs2 ∧ rs2 ≤ 9223372036854775807) (hi : Is.Wd imm) (w : World) :
    Calls Tryd.prog 11 #[fo k, inst op rd rs1 rs2 imm aq rl] w fun e w' => e = .returned (.int .u32 (Is.layO k rd rs1 rs2 imm aq rl)) ∧ Below w.heap.size w w' := by
  rcases (show k = 1 ∨ k = 2 ∨ k = 3 ∨ k = 4 ∨ k = 5 ∨ k = 6 ∨ k = 7 ∨ k = 8 ∨ k = 9 ∨ k = 10 ∨ k = 11 ∨ k = 12 ∨ k = 13 by omega) with rfl | rfl | rfl | rfl | rfl | rfl | rfl | rfl | rfl | rfl | rfl | rfl | rfl
  · exact lay1 op rd rs1 rs2 imm aq rl h1 h2 h3 hi w
  · exact lay2 op rd rs1 rs2 imm aq rl h1 h2 h3 hi w
  · exact lay3 op rd rs1 rs2 imm aq rl h1 h2 h3 hi w
  · exact lay4 op rd rs1 rs2 imm aq rl h1 h2 h3 hi w
  · exact lay5 op rd rs1 rs2 imm aq rl h1 h2 h3 hi w
  · exact lay6 op rd rs1 rs2 imm aq rl h1 h2 h3 hi w
  · exact lay7 op rd rs1 rs2 imm aq rl h1 h2 h3 hi w
  · exact lay8 op rd rs1 rs2 imm aq rl h1 h2 h3 hi w
  · exact lay9 op rd rs1 rs2 imm aq rl h1 h2 h3 hi w
  · exact lay10 op rd rs1 rs2 imm aq rl h1 h2 h3 hi w
  · exact lay11 op rd rs1 rs2 imm aq rl h1 h2 h3 hi w
  · exact lay12 op rd rs1 rs2 imm aq rl h1 h2 h3 hi w
  · exact lay13 op rd rs1 rs2 imm aq rl h1 h2 h3 hi w

set_option maxRecDepth 100000 in
set_option maxHeartbeats 1000000 in
theorem rowOf_yes (op : Nat) (h : 1 ≤ op ∧ op ≤ 59) (w : World) :
    Calls Tryd.prog 9 #[.int .i64 (op : Int)] w fun e w' => e = .returned (.tuple #[row op, .bool true]) ∧ Below w.heap.size w w' := by
  have hi : ∀ w : World, (Instr.index 56 (.agg TB) (.int .i64 (op : Int))).run Tryd.prog w = .ok (.agg #[.string ⟨(Is.nm op).toArray⟩, .int .i64 (Is.fm op : Int), .int .u32 (Is.wd op)]) w := fun w => index_row op (by omega) w
  have t1 : ¬ ((op : Int) < 1) := by omega
  have t2 : ¬ ((59 : Int) < op) := by omega
  go_enter Tryd.func9, Tryd.ntmps9
  go_wp2_with fail
  refine (table_any _).mono ?_
  rintro e w1 ⟨rfl, hb⟩
  have hz : w.heap.size < w1.heap.size := by have := hb.size; simp at this; omega
  have hc0 : w1.cell? ⟨w.heap.size, 0, none⟩ = some (.string ⟨#[]⟩) := (hb.cell (p := ⟨w.heap.size, 0, none⟩) (by simp)).trans (by go_simp)
  have hc1 : w1.cell? ⟨w.heap.size, 1, none⟩ = some (.int .i64 0) := (hb.cell (p := ⟨w.heap.size, 1, none⟩) (by simp)).trans (by go_simp)
  have hc2 : w1.cell? ⟨w.heap.size, 2, none⟩ = some (.int .u32 0) := (hb.cell (p := ⟨w.heap.size, 2, none⟩) (by simp)).trans (by go_simp)
  have hf0 : w1.frozen? ⟨w.heap.size, 0, none⟩ = false := (hb.frozen (p := ⟨w.heap.size, 0, none⟩) (by simp)).trans (by go_simp)
  have hf1 : w1.frozen? ⟨w.heap.size, 1, none⟩ = false := (hb.frozen (p := ⟨w.heap.size, 1, none⟩) (by simp)).trans (by go_simp)
  have hf2 : w1.frozen? ⟨w.heap.size, 2, none⟩ = false := (hb.frozen (p := ⟨w.heap.size, 2, none⟩) (by simp)).trans (by go_simp)
  have HB := Lib.hid hb; clear hb
  go_wp2_with fail
  refine bodyPost_ret (v := .tuple #[row op, .bool true]) (by simp [results, Tryd.results9, go_sem, hc0, hc1, hc2, row]) rfl ⟨rfl, ?_⟩
  exact ((((Below.refl w.heap.size w).alloc (Nat.le_refl _) _).trans (HB.out.mono (by simp))).setCell (Nat.le_refl _) _).setCell (Nat.le_refl _) _ |>.setCell (Nat.le_refl _) _
set_option maxRecDepth 100000 in
theorem rowOf_no (n : Int) (h : n < 1 ∨ 59 < n) (hb : -9223372036854775808 ≤ n ∧ n ≤ 9223372036854775807) (w : World) :
    Calls Tryd.prog 9 #[.int .i64 n] w fun e w' => e = .returned (.tuple #[row 0, .bool false]) ∧ Below w.heap.size w w' := by
  rcases h with h | h
  · go_enter Tryd.func9, Tryd.ntmps9
    go_wp2_with fail
    refine bodyPost_ret (v := .tuple #[.agg #[.string ⟨#[]⟩, .int .i64 0, .int .u32 0], .bool false]) (by simp [results, Tryd.results9, go_sem]) rfl ⟨rfl, ?_⟩
    exact (Below.refl _ _).alloc (Nat.le_refl _) _
  · have h' : ¬ n < 1 := by omega
    go_enter Tryd.func9, Tryd.ntmps9
    go_wp2_with fail
    refine bodyPost_ret (v := .tuple #[.agg #[.string ⟨#[]⟩, .int .i64 0, .int .u32 0], .bool false]) (by simp [results, Tryd.results9, go_sem]) rfl ⟨rfl, ?_⟩
    exact (Below.refl _ _).alloc (Nat.le_refl _) _
end Go.Proofs.YtianojbdabeoeaaDoor
