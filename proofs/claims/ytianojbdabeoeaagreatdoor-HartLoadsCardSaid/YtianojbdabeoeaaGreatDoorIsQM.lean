/-
  IsQM: IsRefb, IsRefc, IsForm, IsOpc, IsF7 in one text.
-/
import Derived.Test.YtianojbdabeoeaaGreatDoorIsRef
import Derived.Test.YtianojbdabeoeaaGreatDoorIsTab
import Derived.BigGuardPart

section
namespace Go.Proofs.YtianojbdabeoeaaGreatDoor
open Go.RowKit
set_option linter.unusedVariables false
set_option linter.unusedSimpArgs false
namespace Is
def fbL : List Int := [0, 117, 106, 105, 108, 104, 98, 115, 114, 102, 101, 97, 113, 99]
/-- the document's letter of a form -/
def fb (k : Nat) : Int := fbL.getD k 0
def f3L : List Int := [0, 0, 0, 0, 0, 0, 1, 4, 5, 6, 7, 0, 1, 2, 4, 5, 0, 1, 2, 0, 2, 3, 4, 6, 7, 1, 5, 5, 0, 0, 1, 2, 3, 4, 5, 5, 6, 7, 0, 0, 0, 1, 2, 3, 4, 5, 6, 7, 2, 2, 2, 2, 2, 2, 2, 2, 2, 2, 2, 2]
def f3 (op : Nat) : Int := f3L.getD op 0
/-- f7, of A four times the five bits -/
def f7 (op : Nat) : Int := if op = 27 ∨ op = 29 ∨ op = 35 then 32 else if 40 ≤ op ∧ op ≤ 47 then 1 else if 48 ≤ op ∧ op ≤ 58 then 4 * [2, 3, 1, 0, 4, 12, 8, 16, 20, 24, 28].getD (op - 48) 0 else 0
end Is

theorem f3_at (op : Nat) (h : op < 60) : (#[.int .u32 0, .int .u32 0, .int .u32 0, .int .u32 0, .int .u32 0, .int .u32 0, .int .u32 1, .int .u32 4, .int .u32 5, .int .u32 6, .int .u32 7, .int .u32 0, .int .u32 1, .int .u32 2, .int .u32 4, .int .u32 5, .int .u32 0, .int .u32 1, .int .u32 2, .int .u32 0, .int .u32 2, .int .u32 3, .int .u32 4, .int .u32 6, .int .u32 7, .int .u32 1, .int .u32 5, .int .u32 5, .int .u32 0, .int .u32 0, .int .u32 1, .int .u32 2, .int .u32 3, .int .u32 4, .int .u32 5, .int .u32 5, .int .u32 6, .int .u32 7, .int .u32 0, .int .u32 0, .int .u32 0, .int .u32 1, .int .u32 2, .int .u32 3, .int .u32 4, .int .u32 5, .int .u32 6, .int .u32 7, .int .u32 2, .int .u32 2, .int .u32 2, .int .u32 2, .int .u32 2, .int .u32 2, .int .u32 2, .int .u32 2, .int .u32 2, .int .u32 2, .int .u32 2, .int .u32 2] : Array Value)[op]? = some (.int .u32 (Is.f3 op)) := by
  rcases (show op = 0 ∨ 1 ≤ op by omega) with rfl | h1
  · rfl
  rcases (show op = 1 ∨ 2 ≤ op by omega) with rfl | h2
  · rfl
  rcases (show op = 2 ∨ 3 ≤ op by omega) with rfl | h3
  · rfl
  rcases (show op = 3 ∨ 4 ≤ op by omega) with rfl | h4
  · rfl
  rcases (show op = 4 ∨ 5 ≤ op by omega) with rfl | h5
  · rfl
  rcases (show op = 5 ∨ 6 ≤ op by omega) with rfl | h6
  · rfl
  rcases (show op = 6 ∨ 7 ≤ op by omega) with rfl | h7
  · rfl
  rcases (show op = 7 ∨ 8 ≤ op by omega) with rfl | h8
  · rfl
  rcases (show op = 8 ∨ 9 ≤ op by omega) with rfl | h9
  · rfl
  rcases (show op = 9 ∨ 10 ≤ op by omega) with rfl | h10
  · rfl
  rcases (show op = 10 ∨ 11 ≤ op by omega) with rfl | h11
  · rfl
  rcases (show op = 11 ∨ 12 ≤ op by omega) with rfl | h12
  · rfl
  rcases (show op = 12 ∨ 13 ≤ op by omega) with rfl | h13
  · rfl
  rcases (show op = 13 ∨ 14 ≤ op by omega) with rfl | h14
  · rfl
  rcases (show op = 14 ∨ 15 ≤ op by omega) with rfl | h15
  · rfl
  rcases (show op = 15 ∨ 16 ≤ op by omega) with rfl | h16
  · rfl
  rcases (show op = 16 ∨ 17 ≤ op by omega) with rfl | h17
  · rfl
  rcases (show op = 17 ∨ 18 ≤ op by omega) with rfl | h18
  · rfl
  rcases (show op = 18 ∨ 19 ≤ op by omega) with rfl | h19
  · rfl
  rcases (show op = 19 ∨ 20 ≤ op by omega) with rfl | h20
  · rfl
  rcases (show op = 20 ∨ 21 ≤ op by omega) with rfl | h21
  · rfl
  rcases (show op = 21 ∨ 22 ≤ op by omega) with rfl | h22
  · rfl
  rcases (show op = 22 ∨ 23 ≤ op by omega) with rfl | h23
  · rfl
  rcases (show op = 23 ∨ 24 ≤ op by omega) with rfl | h24
  · rfl
  rcases (show op = 24 ∨ 25 ≤ op by omega) with rfl | h25
  · rfl
  rcases (show op = 25 ∨ 26 ≤ op by omega) with rfl | h26
  · rfl
  rcases (show op = 26 ∨ 27 ≤ op by omega) with rfl | h27
  · rfl
  rcases (show op = 27 ∨ 28 ≤ op by omega) with rfl | h28
  · rfl
  rcases (show op = 28 ∨ 29 ≤ op by omega) with rfl | h29
  · rfl
  rcases (show op = 29 ∨ 30 ≤ op by omega) with rfl | h30
  · rfl
  rcases (show op = 30 ∨ 31 ≤ op by omega) with rfl | h31
  · rfl
  rcases (show op = 31 ∨ 32 ≤ op by omega) with rfl | h32
  · rfl
  rcases (show op = 32 ∨ 33 ≤ op by omega) with rfl | h33
  · rfl
  rcases (show op = 33 ∨ 34 ≤ op by omega) with rfl | h34
  · rfl
  rcases (show op = 34 ∨ 35 ≤ op by omega) with rfl | h35
  · rfl
  rcases (show op = 35 ∨ 36 ≤ op by omega) with rfl | h36
  · rfl
  rcases (show op = 36 ∨ 37 ≤ op by omega) with rfl | h37
  · rfl
  rcases (show op = 37 ∨ 38 ≤ op by omega) with rfl | h38
  · rfl
  rcases (show op = 38 ∨ 39 ≤ op by omega) with rfl | h39
  · rfl
  rcases (show op = 39 ∨ 40 ≤ op by omega) with rfl | h40
  · rfl
  rcases (show op = 40 ∨ 41 ≤ op by omega) with rfl | h41
  · rfl
  rcases (show op = 41 ∨ 42 ≤ op by omega) with rfl | h42
  · rfl
  rcases (show op = 42 ∨ 43 ≤ op by omega) with rfl | h43
  · rfl
  rcases (show op = 43 ∨ 44 ≤ op by omega) with rfl | h44
  · rfl
  rcases (show op = 44 ∨ 45 ≤ op by omega) with rfl | h45
  · rfl
  rcases (show op = 45 ∨ 46 ≤ op by omega) with rfl | h46
  · rfl
  rcases (show op = 46 ∨ 47 ≤ op by omega) with rfl | h47
  · rfl
  rcases (show op = 47 ∨ 48 ≤ op by omega) with rfl | h48
  · rfl
  rcases (show op = 48 ∨ 49 ≤ op by omega) with rfl | h49
  · rfl
  rcases (show op = 49 ∨ 50 ≤ op by omega) with rfl | h50
  · rfl
  rcases (show op = 50 ∨ 51 ≤ op by omega) with rfl | h51
  · rfl
  rcases (show op = 51 ∨ 52 ≤ op by omega) with rfl | h52
  · rfl
  rcases (show op = 52 ∨ 53 ≤ op by omega) with rfl | h53
  · rfl
  rcases (show op = 53 ∨ 54 ≤ op by omega) with rfl | h54
  · rfl
  rcases (show op = 54 ∨ 55 ≤ op by omega) with rfl | h55
  · rfl
  rcases (show op = 55 ∨ 56 ≤ op by omega) with rfl | h56
  · rfl
  rcases (show op = 56 ∨ 57 ≤ op by omega) with rfl | h57
  · rfl
  rcases (show op = 57 ∨ 58 ≤ op by omega) with rfl | h58
  · rfl
  rcases (show op = 58 ∨ 59 ≤ op by omega) with rfl | h59
  · rfl
  obtain rfl : op = 59 := by omega
  rfl
set_option maxRecDepth 100000 in
set_option maxHeartbeats 2000000 in
theorem rf3_any (op : Nat) (h : 1 ≤ op ∧ op ≤ 59) (w : World) :
    Calls Tryz.prog 92 #[.int .i64 (op : Int)] w fun e w' => e = .returned (.int .u32 (Is.f3 op)) ∧ Below w.heap.size w w' := by
  have hx := f3_at op (by omega)
  go_enter Tryz.func92, Tryz.ntmps92
  go_wp2
  go_ret
  exact ⟨rfl, (Below.refl _ _).alloc (Nat.le_refl _) _⟩
end Go.Proofs.YtianojbdabeoeaaGreatDoor
end

section
namespace Go.Proofs.YtianojbdabeoeaaGreatDoor
open Go.RowKit
set_option linter.unusedVariables false
theorem Is.f3_bd (op : Nat) (h : op < 60) : 0 ≤ Is.f3 op ∧ Is.f3 op ≤ 7 := by
  have t : ((List.range 60).all fun q => decide (0 ≤ Is.f3 q) && decide (Is.f3 q ≤ 7)) = true := by decide +kernel
  have := List.all_eq_true.1 t op (List.mem_range.2 h)
  simpa using this
theorem Is.f7_bd (op : Nat) (h : op < 60) : 0 ≤ Is.f7 op ∧ Is.f7 op ≤ 127 := by
  have t : ((List.range 60).all fun q => decide (0 ≤ Is.f7 q) && decide (Is.f7 q ≤ 127)) = true := by decide +kernel
  have := List.all_eq_true.1 t op (List.mem_range.2 h)
  simpa using this
theorem rpow_lit (n v : Int) (hn : 0 ≤ n ∧ n ≤ 31) (hv : Is.pw n = v) (w : World) :
    Calls Tryz.prog 60 #[.int .i64 n] w fun e w' => e = .returned (.int .u32 v) ∧ w = w' := by
  rw [← hv]; exact rpow_any n hn w
theorem rbits_lit (x hi lo v : Int) (hx : Is.Wd x) (h0 : 0 ≤ lo) (h1 : lo ≤ hi) (h2 : hi ≤ 31) (hv : Is.bt x hi lo = v) (w : World) :
    Calls Tryz.prog 58 #[.int .u32 x, .int .i64 hi, .int .i64 lo] w fun e w' => e = .returned (.int .u32 v) ∧ w = w' := by
  rw [← hv]; exact rbits_any x hi lo hx h0 h1 h2 w

end Go.Proofs.YtianojbdabeoeaaGreatDoor
end

section
namespace Go.Proofs.YtianojbdabeoeaaGreatDoor
open Go.RowKit
set_option linter.unusedVariables false
set_option linter.unusedSimpArgs false
set_option maxRecDepth 100000 in
set_option maxHeartbeats 40000000 in
theorem rform_yes (op : Nat) (h : 1 ≤ op ∧ op ≤ 59) (w : World) :
    Calls Tryz.prog 57 #[.int .i64 (op : Int)] w fun e w' => e = .returned (.int .u8 (Is.fb (Is.fm op))) ∧ w = w' := by
  rcases (show op = 1 ∨ op = 2 ∨ op = 3 ∨ op = 4 ∨ op = 5 ∨ op = 6 ∨ op = 7 ∨ op = 8 ∨ op = 9 ∨ op = 10 ∨ op = 11 ∨ op = 12 ∨ op = 13 ∨ op = 14 ∨ op = 15 ∨ op = 16 ∨ op = 17 ∨ op = 18 ∨ op = 19 ∨ op = 20 ∨ op = 21 ∨ op = 22 ∨ op = 23 ∨ op = 24 ∨ op = 25 ∨ op = 26 ∨ op = 27 ∨ op = 28 ∨ op = 29 ∨ op = 30 ∨ op = 31 ∨ op = 32 ∨ op = 33 ∨ op = 34 ∨ op = 35 ∨ op = 36 ∨ op = 37 ∨ op = 38 ∨ op = 39 ∨ op = 40 ∨ op = 41 ∨ op = 42 ∨ op = 43 ∨ op = 44 ∨ op = 45 ∨ op = 46 ∨ op = 47 ∨ op = 48 ∨ op = 49 ∨ op = 50 ∨ op = 51 ∨ op = 52 ∨ op = 53 ∨ op = 54 ∨ op = 55 ∨ op = 56 ∨ op = 57 ∨ op = 58 ∨ op = 59 by omega) with rfl | rfl | rfl | rfl | rfl | rfl | rfl | rfl | rfl | rfl | rfl | rfl | rfl | rfl | rfl | rfl | rfl | rfl | rfl | rfl | rfl | rfl | rfl | rfl | rfl | rfl | rfl | rfl | rfl | rfl | rfl | rfl | rfl | rfl | rfl | rfl | rfl | rfl | rfl | rfl | rfl | rfl | rfl | rfl | rfl | rfl | rfl | rfl | rfl | rfl | rfl | rfl | rfl | rfl | rfl | rfl | rfl | rfl | rfl
  all_goals
    go_enter Tryz.func57, Tryz.ntmps57
    go_wp2
    go_ret
    exact ⟨rfl, rfl⟩
end Go.Proofs.YtianojbdabeoeaaGreatDoor
end

section
namespace Go.Proofs.YtianojbdabeoeaaGreatDoor
open Go.RowKit
set_option linter.unusedVariables false
set_option linter.unusedSimpArgs false
set_option maxRecDepth 100000 in
set_option maxHeartbeats 40000000 in
theorem ropcode_any (op : Nat) (h : 1 ≤ op ∧ op ≤ 59) (w : World) :
    Calls Tryz.prog 91 #[.int .i64 (op : Int)] w fun e w' => e = .returned (.int .u32 (Is.wd op % 128)) ∧ w = w' := by
  rcases (show op = 1 ∨ op = 2 ∨ op = 3 ∨ op = 4 ∨ op = 5 ∨ op = 6 ∨ op = 7 ∨ op = 8 ∨ op = 9 ∨ op = 10 ∨ op = 11 ∨ op = 12 ∨ op = 13 ∨ op = 14 ∨ op = 15 ∨ op = 16 ∨ op = 17 ∨ op = 18 ∨ op = 19 ∨ op = 20 ∨ op = 21 ∨ op = 22 ∨ op = 23 ∨ op = 24 ∨ op = 25 ∨ op = 26 ∨ op = 27 ∨ op = 28 ∨ op = 29 ∨ op = 30 ∨ op = 31 ∨ op = 32 ∨ op = 33 ∨ op = 34 ∨ op = 35 ∨ op = 36 ∨ op = 37 ∨ op = 38 ∨ op = 39 ∨ op = 40 ∨ op = 41 ∨ op = 42 ∨ op = 43 ∨ op = 44 ∨ op = 45 ∨ op = 46 ∨ op = 47 ∨ op = 48 ∨ op = 49 ∨ op = 50 ∨ op = 51 ∨ op = 52 ∨ op = 53 ∨ op = 54 ∨ op = 55 ∨ op = 56 ∨ op = 57 ∨ op = 58 ∨ op = 59 by omega) with rfl | rfl | rfl | rfl | rfl | rfl | rfl | rfl | rfl | rfl | rfl | rfl | rfl | rfl | rfl | rfl | rfl | rfl | rfl | rfl | rfl | rfl | rfl | rfl | rfl | rfl | rfl | rfl | rfl | rfl | rfl | rfl | rfl | rfl | rfl | rfl | rfl | rfl | rfl | rfl | rfl | rfl | rfl | rfl | rfl | rfl | rfl | rfl | rfl | rfl | rfl | rfl | rfl | rfl | rfl | rfl | rfl | rfl | rfl
  all_goals
    go_enter Tryz.func91, Tryz.ntmps91
    go_wp2
    go_ret
    exact ⟨rfl, rfl⟩
end Go.Proofs.YtianojbdabeoeaaGreatDoor
end

section
namespace Go.Proofs.YtianojbdabeoeaaGreatDoor
open Go.RowKit
set_option linter.unusedVariables false
set_option linter.unusedSimpArgs false
set_option maxRecDepth 100000 in
set_option maxHeartbeats 40000000 in
theorem rf7_any (op : Nat) (h : 1 ≤ op ∧ op ≤ 59) (w : World) :
    Calls Tryz.prog 93 #[.int .i64 (op : Int)] w fun e w' => e = .returned (.int .u32 (Is.f7 op)) ∧ Below w.heap.size w w' := by
  rcases (show op = 1 ∨ op = 2 ∨ op = 3 ∨ op = 4 ∨ op = 5 ∨ op = 6 ∨ op = 7 ∨ op = 8 ∨ op = 9 ∨ op = 10 ∨ op = 11 ∨ op = 12 ∨ op = 13 ∨ op = 14 ∨ op = 15 ∨ op = 16 ∨ op = 17 ∨ op = 18 ∨ op = 19 ∨ op = 20 ∨ op = 21 ∨ op = 22 ∨ op = 23 ∨ op = 24 ∨ op = 25 ∨ op = 26 ∨ op = 27 ∨ op = 28 ∨ op = 29 ∨ op = 30 ∨ op = 31 ∨ op = 32 ∨ op = 33 ∨ op = 34 ∨ op = 35 ∨ op = 36 ∨ op = 37 ∨ op = 38 ∨ op = 39 ∨ op = 40 ∨ op = 41 ∨ op = 42 ∨ op = 43 ∨ op = 44 ∨ op = 45 ∨ op = 46 ∨ op = 47 ∨ op = 48 ∨ op = 49 ∨ op = 50 ∨ op = 51 ∨ op = 52 ∨ op = 53 ∨ op = 54 ∨ op = 55 ∨ op = 56 ∨ op = 57 ∨ op = 58 ∨ op = 59 by omega) with rfl | rfl | rfl | rfl | rfl | rfl | rfl | rfl | rfl | rfl | rfl | rfl | rfl | rfl | rfl | rfl | rfl | rfl | rfl | rfl | rfl | rfl | rfl | rfl | rfl | rfl | rfl | rfl | rfl | rfl | rfl | rfl | rfl | rfl | rfl | rfl | rfl | rfl | rfl | rfl | rfl | rfl | rfl | rfl | rfl | rfl | rfl | rfl | rfl | rfl | rfl | rfl | rfl | rfl | rfl | rfl | rfl | rfl | rfl
  all_goals
    go_enter Tryz.func93, Tryz.ntmps93
    go_wp2
    go_ret
    exact ⟨rfl, by first | exact Below.refl _ _ | exact (Below.refl _ _).alloc (Nat.le_refl _) _⟩
end Go.Proofs.YtianojbdabeoeaaGreatDoor
end
