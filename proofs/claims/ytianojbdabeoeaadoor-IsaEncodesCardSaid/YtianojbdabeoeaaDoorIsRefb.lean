/-
  The document's own answers of layer 3: forms, opcodes, f3, f7, names.
-/
import Derived.Test.YtianojbdabeoeaaDoorIsRef
import Derived.Test.YtianojbdabeoeaaDoorIsTab
import Derived.BigGuardPart
namespace Go.Proofs.YtianojbdabeoeaaDoor
open Go.RowKit
set_option linter.unusedVariables false
set_option linter.unusedSimpArgs false
namespace Is
def fbL : List Int := [0, 117, 106, 105, 108, 104, 98, 115, 114, 102, 101, 97, 113, 99]
/-- the document's letter of a form -/
def fb (k : Nat) : Int := fbL.getD k 0
def f3L : List Int := [0, 0, 0, 0, 0, 0, 1, 4, 5, 6, 7, 0, 1, 2, 4, 5, 0, 1, 2, 0, 2, 3, 4, 6, 7, 1, 5, 5, 0, 0, 1, 2, 3, 4, 5, 5, 6, 7, 0, 0, 0, 1, 2, 3, 4, 5, 6, 7, 2, 2, 2, 2, 2, 2, 2, 2, 2, 2, 2, 2]
def f3 (op : Nat) : Int := f3L.getD op 0
/-- f7, of A four times the five bits -/
def f7 (op : Nat) : Int := if op = 27 ∨ op = 29 ∨ op = 35 then 32 else if 40 ≤ op ∧ op ≤ 47 then 1 else if 48 ≤ op ∧ op ≤ 58 then 4 * [2, 3, 1, 0, 4, 12, 8, 16, 20, 24, 28].getD (op - 48) 0 else 0
end Is

set_option maxHeartbeats 2000000 in
theorem rform_no (n : Int) (h : n < 1 ∨ 59 < n) (w : World) :
    Calls Tryd.prog 13 #[.int .i64 n] w fun e w' => e = .returned (.int .u8 0) ∧ w = w' := by
  rcases h with h | h
  all_goals
    go_enter Tryd.func13, Tryd.ntmps13
    go_wp2
    all_goals
      first
      | omega
      | (go_ret; exact ⟨rfl, rfl⟩)
theorem f3_at (op : Nat) (h : op < 60) : (#[.int .u32 0, .int .u32 0, .int .u32 0, .int .u32 0, .int .u32 0, .int .u32 0, .int .u32 1, .int .u32 4, .int .u32 5, .int .u32 6, .int .u32 7, .int .u32 0, .int .u32 1, .int .u32 2, .int .u32 4, .int .u32 5, .int .u32 0, .int .u32 1, .int .u32 2, .int .u32 0, .int .u32 2, .int .u32 3, .int .u32 4, .int .u32 6, .int .u32 7, .int .u32 1, .int .u32 5, .int .u32 5, .int .u32 0, .int .u32 0, .int .u32 1, .int .u32 2, .int .u32 3, .int .u32 4, .int .u32 5, .int .u32 5, .int .u32 6, .int .u32 7, .int .u32 0, .int .u32 0, .int .u32 0, .int .u32 1, .int .u32 2, .int .u32 3, .int .u32 4, .int .u32 5, .int .u32 6, .int .u32 7, .int .u32 2, .int .u32 2, .int .u32 2, .int .u32 2, .int .u32 2, .int .u32 2, .int .u32 2, .int .u32 2, .int .u32 2, .int .u32 2, .int .u32 2, .int .u32 2] : Array Value)[op]? = some (.int .u32 (Is.f3 op)) := by
  rcases (show op = 0 ∨ 1 ≤ op by omega) with rfl | h1
  · rfl
  rcases (show op = 1 ∨ 2 ≤ op by omega) with rfl | h2
  · rfl
  rcases (show op = 2 ∨ 3 ≤ op by omega) with rfl | h3
  · rfl
  rcases (show op = 3 ∨ 4 ≤ op by omega) with rfl | h4
  · rfl
  rcases (show op = 4 ∨ 5 ≤ op by omega) with rfl | h5
  · rfl
  rcases (show op = 5 ∨ 6 ≤ op by omega) with rfl | h6
  · rfl
  rcases (show op = 6 ∨ 7 ≤ op by omega) with rfl | h7
  · rfl
  rcases (show op = 7 ∨ 8 ≤ op by omega) with rfl | h8
  · rfl
  rcases (show op = 8 ∨ 9 ≤ op by omega) with rfl | h9
  · rfl
  rcases (show op = 9 ∨ 10 ≤ op by omega) with rfl | h10
  · rfl
  rcases (show op = 10 ∨ 11 ≤ op by omega) with rfl | h11
  · rfl
  rcases (show op = 11 ∨ 12 ≤ op by omega) with rfl | h12
  · rfl
  rcases (show op = 12 ∨ 13 ≤ op by omega) with rfl | h13
  · rfl
  rcases (show op = 13 ∨ 14 ≤ op by omega) with rfl | h14
  · rfl
  rcases (show op = 14 ∨ 15 ≤ op by omega) with rfl | h15
  · rfl
  rcases (show op = 15 ∨ 16 ≤ op by omega) with rfl | h16
  · rfl
  rcases (show op = 16 ∨ 17 ≤ op by omega) with rfl | h17
  · rfl
  rcases (show op = 17 ∨ 18 ≤ op by omega) with rfl | h18
  · rfl
  rcases (show op = 18 ∨ 19 ≤ op by omega) with rfl | h19
  · rfl
  rcases (show op = 19 ∨ 20 ≤ op by omega) with rfl | h20
  · rfl
  rcases (show op = 20 ∨ 21 ≤ op by omega) with rfl | h21
  · rfl
  rcases (show op = 21 ∨ 22 ≤ op by omega) with rfl | h22
  · rfl
  rcases (show op = 22 ∨ 23 ≤ op by omega) with rfl | h23
  · rfl
  rcases (show op = 23 ∨ 24 ≤ op by omega) with rfl | h24
  · rfl
  rcases (show op = 24 ∨ 25 ≤ op by omega) with rfl | h25
  · rfl
  rcases (show op = 25 ∨ 26 ≤ op by omega) with rfl | h26
  · rfl
  rcases (show op = 26 ∨ 27 ≤ op by omega) with rfl | h27
  · rfl
  rcases (show op = 27 ∨ 28 ≤ op by omega) with rfl | h28
  · rfl
  rcases (show op = 28 ∨ 29 ≤ op by omega) with rfl | h29
  · rfl
  rcases (show op = 29 ∨ 30 ≤ op by omega) with rfl | h30
  · rfl
  rcases (show op = 30 ∨ 31 ≤ op by omega) with rfl | h31
  · rfl
  rcases (show op = 31 ∨ 32 ≤ op by omega) with rfl | h32
  · rfl
  rcases (show op = 32 ∨ 33 ≤ op by omega) with rfl | h33
  · rfl
  rcases (show op = 33 ∨ 34 ≤ op by omega) with rfl | h34
  · rfl
  rcases (show op = 34 ∨ 35 ≤ op by omega) with rfl | h35
  · rfl
  rcases (show op = 35 ∨ 36 ≤ op by omega) with rfl | h36
  · rfl
  rcases (show op = 36 ∨ 37 ≤ op by omega) with rfl | h37
  · rfl
  rcases (show op = 37 ∨ 38 ≤ op by omega) with rfl | h38
  · rfl
  rcases (show op = 38 ∨ 39 ≤ op by omega) with rfl | h39
  · rfl
  rcases (show op = 39 ∨ 40 ≤ op by omega) with rfl | h40
  · rfl
  rcases (show op = 40 ∨ 41 ≤ op by omega) with rfl | h41
  · rfl
  rcases (show op = 41 ∨ 42 ≤ op by omega) with rfl | h42
  · rfl
  rcases (show op = 42 ∨ 43 ≤ op by omega) with rfl | h43
  · rfl
  rcases (show op = 43 ∨ 44 ≤ op by omega) with rfl | h44
  · rfl
  rcases (show op = 44 ∨ 45 ≤ op by omega) with rfl | h45
  · rfl
  rcases (show op = 45 ∨ 46 ≤ op by omega) with rfl | h46
  · rfl
  rcases (show op = 46 ∨ 47 ≤ op by omega) with rfl | h47
  · rfl
  rcases (show op = 47 ∨ 48 ≤ op by omega) with rfl | h48
  · rfl
  rcases (show op = 48 ∨ 49 ≤ op by omega) with rfl | h49
  · rfl
  rcases (show op = 49 ∨ 50 ≤ op by omega) with rfl | h50
  · rfl
  rcases (show op = 50 ∨ 51 ≤ op by omega) with rfl | h51
  · rfl
  rcases (show op = 51 ∨ 52 ≤ op by omega) with rfl | h52
  · rfl
  rcases (show op = 52 ∨ 53 ≤ op by omega) with rfl | h53
  · rfl
  rcases (show op = 53 ∨ 54 ≤ op by omega) with rfl | h54
  · rfl
  rcases (show op = 54 ∨ 55 ≤ op by omega) with rfl | h55
  · rfl
  rcases (show op = 55 ∨ 56 ≤ op by omega) with rfl | h56
  · rfl
  rcases (show op = 56 ∨ 57 ≤ op by omega) with rfl | h57
  · rfl
  rcases (show op = 57 ∨ 58 ≤ op by omega) with rfl | h58
  · rfl
  rcases (show op = 58 ∨ 59 ≤ op by omega) with rfl | h59
  · rfl
  obtain rfl : op = 59 := by omega
  rfl
theorem f7_at (i : Nat) (h : i < 11) : (#[.int .u32 2, .int .u32 3, .int .u32 1, .int .u32 0, .int .u32 4, .int .u32 12, .int .u32 8, .int .u32 16, .int .u32 20, .int .u32 24, .int .u32 28] : Array Value)[i]? = some (.int .u32 ([2, 3, 1, 0, 4, 12, 8, 16, 20, 24, 28].getD i 0)) := by
  rcases (show i = 0 ∨ 1 ≤ i by omega) with rfl | h1
  · rfl
  rcases (show i = 1 ∨ 2 ≤ i by omega) with rfl | h2
  · rfl
  rcases (show i = 2 ∨ 3 ≤ i by omega) with rfl | h3
  · rfl
  rcases (show i = 3 ∨ 4 ≤ i by omega) with rfl | h4
  · rfl
  rcases (show i = 4 ∨ 5 ≤ i by omega) with rfl | h5
  · rfl
  rcases (show i = 5 ∨ 6 ≤ i by omega) with rfl | h6
  · rfl
  rcases (show i = 6 ∨ 7 ≤ i by omega) with rfl | h7
  · rfl
  rcases (show i = 7 ∨ 8 ≤ i by omega) with rfl | h8
  · rfl
  rcases (show i = 8 ∨ 9 ≤ i by omega) with rfl | h9
  · rfl
  rcases (show i = 9 ∨ 10 ≤ i by omega) with rfl | h10
  · rfl
  obtain rfl : i = 10 := by omega
  rfl
theorem nm_at (op : Nat) (h : op < 60) : (#[.string ⟨#[]⟩, .string ⟨#[108, 117, 105]⟩, .string ⟨#[97, 117, 105, 112, 99]⟩, .string ⟨#[106, 97, 108]⟩, .string ⟨#[106, 97, 108, 114]⟩, .string ⟨#[98, 101, 113]⟩, .string ⟨#[98, 110, 101]⟩, .string ⟨#[98, 108, 116]⟩, .string ⟨#[98, 103, 101]⟩, .string ⟨#[98, 108, 116, 117]⟩, .string ⟨#[98, 103, 101, 117]⟩, .string ⟨#[108, 98]⟩, .string ⟨#[108, 104]⟩, .string ⟨#[108, 119]⟩, .string ⟨#[108, 98, 117]⟩, .string ⟨#[108, 104, 117]⟩, .string ⟨#[115, 98]⟩, .string ⟨#[115, 104]⟩, .string ⟨#[115, 119]⟩, .string ⟨#[97, 100, 100, 105]⟩, .string ⟨#[115, 108, 116, 105]⟩, .string ⟨#[115, 108, 116, 105, 117]⟩, .string ⟨#[120, 111, 114, 105]⟩, .string ⟨#[111, 114, 105]⟩, .string ⟨#[97, 110, 100, 105]⟩, .string ⟨#[115, 108, 108, 105]⟩, .string ⟨#[115, 114, 108, 105]⟩, .string ⟨#[115, 114, 97, 105]⟩, .string ⟨#[97, 100, 100]⟩, .string ⟨#[115, 117, 98]⟩, .string ⟨#[115, 108, 108]⟩, .string ⟨#[115, 108, 116]⟩, .string ⟨#[115, 108, 116, 117]⟩, .string ⟨#[120, 111, 114]⟩, .string ⟨#[115, 114, 108]⟩, .string ⟨#[115, 114, 97]⟩, .string ⟨#[111, 114]⟩, .string ⟨#[97, 110, 100]⟩, .string ⟨#[102, 101, 110, 99, 101]⟩, .string ⟨#[101, 99, 97, 108, 108]⟩, .string ⟨#[109, 117, 108]⟩, .string ⟨#[109, 117, 108, 104]⟩, .string ⟨#[109, 117, 108, 104, 115, 117]⟩, .string ⟨#[109, 117, 108, 104, 117]⟩, .string ⟨#[100, 105, 118]⟩, .string ⟨#[100, 105, 118, 117]⟩, .string ⟨#[114, 101, 109]⟩, .string ⟨#[114, 101, 109, 117]⟩, .string ⟨#[108, 114]⟩, .string ⟨#[115, 99]⟩, .string ⟨#[97, 109, 111, 115, 119, 97, 112]⟩, .string ⟨#[97, 109, 111, 97, 100, 100]⟩, .string ⟨#[97, 109, 111, 120, 111, 114]⟩, .string ⟨#[97, 109, 111, 97, 110, 100]⟩, .string ⟨#[97, 109, 111, 111, 114]⟩, .string ⟨#[97, 109, 111, 109, 105, 110]⟩, .string ⟨#[97, 109, 111, 109, 97, 120]⟩, .string ⟨#[97, 109, 111, 109, 105, 110, 117]⟩, .string ⟨#[97, 109, 111, 109, 97, 120, 117]⟩, .string ⟨#[104, 97, 114, 116, 105, 100]⟩] : Array Value)[op]? = some (.string ⟨(Is.nm op).toArray⟩) := by
  rcases (show op = 0 ∨ 1 ≤ op by omega) with rfl | h1
  · rfl
  rcases (show op = 1 ∨ 2 ≤ op by omega) with rfl | h2
  · rfl
  rcases (show op = 2 ∨ 3 ≤ op by omega) with rfl | h3
  · rfl
  rcases (show op = 3 ∨ 4 ≤ op by omega) with rfl | h4
  · rfl
  rcases (show op = 4 ∨ 5 ≤ op by omega) with rfl | h5
  · rfl
  rcases (show op = 5 ∨ 6 ≤ op by omega) with rfl | h6
  · rfl
  rcases (show op = 6 ∨ 7 ≤ op by omega) with rfl | h7
  · rfl
  rcases (show op = 7 ∨ 8 ≤ op by omega) with rfl | h8
  · rfl
  rcases (show op = 8 ∨ 9 ≤ op by omega) with rfl | h9
  · rfl
  rcases (show op = 9 ∨ 10 ≤ op by omega) with rfl | h10
  · rfl
  rcases (show op = 10 ∨ 11 ≤ op by omega) with rfl | h11
  · rfl
  rcases (show op = 11 ∨ 12 ≤ op by omega) with rfl | h12
  · rfl
  rcases (show op = 12 ∨ 13 ≤ op by omega) with rfl | h13
  · rfl
  rcases (show op = 13 ∨ 14 ≤ op by omega) with rfl | h14
  · rfl
  rcases (show op = 14 ∨ 15 ≤ op by omega) with rfl | h15
  · rfl
  rcases (show op = 15 ∨ 16 ≤ op by omega) with rfl | h16
  · rfl
  rcases (show op = 16 ∨ 17 ≤ op by omega) with rfl | h17
  · rfl
  rcases (show op = 17 ∨ 18 ≤ op by omega) with rfl | h18
  · rfl
  rcases (show op = 18 ∨ 19 ≤ op by omega) with rfl | h19
  · rfl
  rcases (show op = 19 ∨ 20 ≤ op by omega) with rfl | h20
  · rfl
  rcases (show op = 20 ∨ 21 ≤ op by omega) with rfl | h21
  · rfl
  rcases (show op = 21 ∨ 22 ≤ op by omega) with rfl | h22
  · rfl
  rcases (show op = 22 ∨ 23 ≤ op by omega) with rfl | h23
  · rfl
  rcases (show op = 23 ∨ 24 ≤ op by omega) with rfl | h24
  · rfl
  rcases (show op = 24 ∨ 25 ≤ op by omega) with rfl | h25
  · rfl
  rcases (show op = 25 ∨ 26 ≤ op by omega) with rfl | h26
  · rfl
  rcases (show op = 26 ∨ 27 ≤ op by omega) with rfl | h27
  · rfl
  rcases (show op = 27 ∨ 28 ≤ op by omega) with rfl | h28
  · rfl
  rcases (show op = 28 ∨ 29 ≤ op by omega) with rfl | h29
  · rfl
  rcases (show op = 29 ∨ 30 ≤ op by omega) with rfl | h30
  · rfl
  rcases (show op = 30 ∨ 31 ≤ op by omega) with rfl | h31
  · rfl
  rcases (show op = 31 ∨ 32 ≤ op by omega) with rfl | h32
  · rfl
  rcases (show op = 32 ∨ 33 ≤ op by omega) with rfl | h33
  · rfl
  rcases (show op = 33 ∨ 34 ≤ op by omega) with rfl | h34
  · rfl
  rcases (show op = 34 ∨ 35 ≤ op by omega) with rfl | h35
  · rfl
  rcases (show op = 35 ∨ 36 ≤ op by omega) with rfl | h36
  · rfl
  rcases (show op = 36 ∨ 37 ≤ op by omega) with rfl | h37
  · rfl
  rcases (show op = 37 ∨ 38 ≤ op by omega) with rfl | h38
  · rfl
  rcases (show op = 38 ∨ 39 ≤ op by omega) with rfl | h39
  · rfl
  rcases (show op = 39 ∨ 40 ≤ op by omega) with rfl | h40
  · rfl
  rcases (show op = 40 ∨ 41 ≤ op by omega) with rfl | h41
  · rfl
  rcases (show op = 41 ∨ 42 ≤ op by omega) with rfl | h42
  · rfl
  rcases (show op = 42 ∨ 43 ≤ op by omega) with rfl | h43
  · rfl
  rcases (show op = 43 ∨ 44 ≤ op by omega) with rfl | h44
  · rfl
  rcases (show op = 44 ∨ 45 ≤ op by omega) with rfl | h45
  · rfl
  rcases (show op = 45 ∨ 46 ≤ op by omega) with rfl | h46
  · rfl
  rcases (show op = 46 ∨ 47 ≤ op by omega) with rfl | h47
  · rfl
  rcases (show op = 47 ∨ 48 ≤ op by omega) with rfl | h48
  · rfl
  rcases (show op = 48 ∨ 49 ≤ op by omega) with rfl | h49
  · rfl
  rcases (show op = 49 ∨ 50 ≤ op by omega) with rfl | h50
  · rfl
  rcases (show op = 50 ∨ 51 ≤ op by omega) with rfl | h51
  · rfl
  rcases (show op = 51 ∨ 52 ≤ op by omega) with rfl | h52
  · rfl
  rcases (show op = 52 ∨ 53 ≤ op by omega) with rfl | h53
  · rfl
  rcases (show op = 53 ∨ 54 ≤ op by omega) with rfl | h54
  · rfl
  rcases (show op = 54 ∨ 55 ≤ op by omega) with rfl | h55
  · rfl
  rcases (show op = 55 ∨ 56 ≤ op by omega) with rfl | h56
  · rfl
  rcases (show op = 56 ∨ 57 ≤ op by omega) with rfl | h57
  · rfl
  rcases (show op = 57 ∨ 58 ≤ op by omega) with rfl | h58
  · rfl
  rcases (show op = 58 ∨ 59 ≤ op by omega) with rfl | h59
  · rfl
  obtain rfl : op = 59 := by omega
  rfl

set_option maxRecDepth 100000 in
set_option maxHeartbeats 2000000 in
theorem rf3_any (op : Nat) (h : 1 ≤ op ∧ op ≤ 59) (w : World) :
    Calls Tryd.prog 16 #[.int .i64 (op : Int)] w fun e w' => e = .returned (.int .u32 (Is.f3 op)) ∧ Below w.heap.size w w' := by
  have hx := f3_at op (by omega)
  go_enter Tryd.func16, Tryd.ntmps16
  go_wp2
  go_ret
  exact ⟨rfl, (Below.refl _ _).alloc (Nat.le_refl _) _⟩
end Go.Proofs.YtianojbdabeoeaaDoor
