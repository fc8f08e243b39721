/-
  The table of Ops: what it holds, and the program's own function that makes it.
-/
import Derived.Test.YtianojbdabeoeaaGreatDoorProg
import Derived.Laws.Tables
import Derived.Laws.Rows
import Derived.Deep.Cut
import Derived.WalkKit
import Derived.Handy
import Derived.Outline
namespace Go.Proofs.YtianojbdabeoeaaGreatDoor
open Go.RowKit
set_option linter.unusedVariables false

namespace Is
/-- the Ops' names, by number -/
def nmL : List (List UInt8) := [[], [108, 117, 105], [97, 117, 105, 112, 99], [106, 97, 108], [106, 97, 108, 114], [98, 101, 113], [98, 110, 101], [98, 108, 116], [98, 103, 101], [98, 108, 116, 117], [98, 103, 101, 117], [108, 98], [108, 104], [108, 119], [108, 98, 117], [108, 104, 117], [115, 98], [115, 104], [115, 119], [97, 100, 100, 105], [115, 108, 116, 105], [115, 108, 116, 105, 117], [120, 111, 114, 105], [111, 114, 105], [97, 110, 100, 105], [115, 108, 108, 105], [115, 114, 108, 105], [115, 114, 97, 105], [97, 100, 100], [115, 117, 98], [115, 108, 108], [115, 108, 116], [115, 108, 116, 117], [120, 111, 114], [115, 114, 108], [115, 114, 97], [111, 114], [97, 110, 100], [102, 101, 110, 99, 101], [101, 99, 97, 108, 108], [109, 117, 108], [109, 117, 108, 104], [109, 117, 108, 104, 115, 117], [109, 117, 108, 104, 117], [100, 105, 118], [100, 105, 118, 117], [114, 101, 109], [114, 101, 109, 117], [108, 114], [115, 99], [97, 109, 111, 115, 119, 97, 112], [97, 109, 111, 97, 100, 100], [97, 109, 111, 120, 111, 114], [97, 109, 111, 97, 110, 100], [97, 109, 111, 111, 114], [97, 109, 111, 109, 105, 110], [97, 109, 111, 109, 97, 120], [97, 109, 111, 109, 105, 110, 117], [97, 109, 111, 109, 97, 120, 117], [104, 97, 114, 116, 105, 100]]
/-- the Ops' forms, by number -/
def fmL : List Nat := [0, 1, 1, 2, 4, 6, 6, 6, 6, 6, 6, 4, 4, 4, 4, 4, 7, 7, 7, 3, 3, 3, 3, 3, 3, 5, 5, 5, 8, 8, 8, 8, 8, 8, 8, 8, 8, 8, 9, 10, 8, 8, 8, 8, 8, 8, 8, 8, 12, 11, 11, 11, 11, 11, 11, 11, 11, 11, 11, 13]
/-- the Ops' own bits, by number -/
def wdL : List Int := [0, 55, 23, 111, 103, 99, 4195, 16483, 20579, 24675, 28771, 3, 4099, 8195, 16387, 20483, 35, 4131, 8227, 19, 8211, 12307, 16403, 24595, 28691, 4115, 20499, 1073762323, 51, 1073741875, 4147, 8243, 12339, 16435, 20531, 1073762355, 24627, 28723, 15, 115, 33554483, 33558579, 33562675, 33566771, 33570867, 33574963, 33579059, 33583155, 268443695, 402661423, 134225967, 8239, 536879151, 1610620975, 1073750063, 2147491887, 2684362799, 3221233711, 3758104623, 4047511667]
def nm (op : Nat) : List UInt8 := nmL.getD op []
def fm (op : Nat) : Nat := fmL.getD op 0
def wd (op : Nat) : Int := wdL.getD op 0
end Is
/-- a row of the table -/
def row (op : Nat) : Value := .agg #[.string ⟨(Is.nm op).toArray⟩, .int .i64 (Is.fm op : Int), .int .u32 (Is.wd op)]
/-- the whole table, cell by cell -/
def TB : Array Value := #[.string ⟨#[]⟩, .int .i64 0, .int .u32 0, .string ⟨#[108, 117, 105]⟩, .int .i64 1, .int .u32 55, .string ⟨#[97, 117, 105, 112, 99]⟩, .int .i64 1, .int .u32 23, .string ⟨#[106, 97, 108]⟩, .int .i64 2, .int .u32 111, .string ⟨#[106, 97, 108, 114]⟩, .int .i64 4, .int .u32 103, .string ⟨#[98, 101, 113]⟩, .int .i64 6, .int .u32 99, .string ⟨#[98, 110, 101]⟩, .int .i64 6, .int .u32 4195, .string ⟨#[98, 108, 116]⟩, .int .i64 6, .int .u32 16483, .string ⟨#[98, 103, 101]⟩, .int .i64 6, .int .u32 20579, .string ⟨#[98, 108, 116, 117]⟩, .int .i64 6, .int .u32 24675, .string ⟨#[98, 103, 101, 117]⟩, .int .i64 6, .int .u32 28771, .string ⟨#[108, 98]⟩, .int .i64 4, .int .u32 3, .string ⟨#[108, 104]⟩, .int .i64 4, .int .u32 4099, .string ⟨#[108, 119]⟩, .int .i64 4, .int .u32 8195, .string ⟨#[108, 98, 117]⟩, .int .i64 4, .int .u32 16387, .string ⟨#[108, 104, 117]⟩, .int .i64 4, .int .u32 20483, .string ⟨#[115, 98]⟩, .int .i64 7, .int .u32 35, .string ⟨#[115, 104]⟩, .int .i64 7, .int .u32 4131, .string ⟨#[115, 119]⟩, .int .i64 7, .int .u32 8227, .string ⟨#[97, 100, 100, 105]⟩, .int .i64 3, .int .u32 19, .string ⟨#[115, 108, 116, 105]⟩, .int .i64 3, .int .u32 8211, .string ⟨#[115, 108, 116, 105, 117]⟩, .int .i64 3, .int .u32 12307, .string ⟨#[120, 111, 114, 105]⟩, .int .i64 3, .int .u32 16403, .string ⟨#[111, 114, 105]⟩, .int .i64 3, .int .u32 24595, .string ⟨#[97, 110, 100, 105]⟩, .int .i64 3, .int .u32 28691, .string ⟨#[115, 108, 108, 105]⟩, .int .i64 5, .int .u32 4115, .string ⟨#[115, 114, 108, 105]⟩, .int .i64 5, .int .u32 20499, .string ⟨#[115, 114, 97, 105]⟩, .int .i64 5, .int .u32 1073762323, .string ⟨#[97, 100, 100]⟩, .int .i64 8, .int .u32 51, .string ⟨#[115, 117, 98]⟩, .int .i64 8, .int .u32 1073741875, .string ⟨#[115, 108, 108]⟩, .int .i64 8, .int .u32 4147, .string ⟨#[115, 108, 116]⟩, .int .i64 8, .int .u32 8243, .string ⟨#[115, 108, 116, 117]⟩, .int .i64 8, .int .u32 12339, .string ⟨#[120, 111, 114]⟩, .int .i64 8, .int .u32 16435, .string ⟨#[115, 114, 108]⟩, .int .i64 8, .int .u32 20531, .string ⟨#[115, 114, 97]⟩, .int .i64 8, .int .u32 1073762355, .string ⟨#[111, 114]⟩, .int .i64 8, .int .u32 24627, .string ⟨#[97, 110, 100]⟩, .int .i64 8, .int .u32 28723, .string ⟨#[102, 101, 110, 99, 101]⟩, .int .i64 9, .int .u32 15, .string ⟨#[101, 99, 97, 108, 108]⟩, .int .i64 10, .int .u32 115, .string ⟨#[109, 117, 108]⟩, .int .i64 8, .int .u32 33554483, .string ⟨#[109, 117, 108, 104]⟩, .int .i64 8, .int .u32 33558579, .string ⟨#[109, 117, 108, 104, 115, 117]⟩, .int .i64 8, .int .u32 33562675, .string ⟨#[109, 117, 108, 104, 117]⟩, .int .i64 8, .int .u32 33566771, .string ⟨#[100, 105, 118]⟩, .int .i64 8, .int .u32 33570867, .string ⟨#[100, 105, 118, 117]⟩, .int .i64 8, .int .u32 33574963, .string ⟨#[114, 101, 109]⟩, .int .i64 8, .int .u32 33579059, .string ⟨#[114, 101, 109, 117]⟩, .int .i64 8, .int .u32 33583155, .string ⟨#[108, 114]⟩, .int .i64 12, .int .u32 268443695, .string ⟨#[115, 99]⟩, .int .i64 11, .int .u32 402661423, .string ⟨#[97, 109, 111, 115, 119, 97, 112]⟩, .int .i64 11, .int .u32 134225967, .string ⟨#[97, 109, 111, 97, 100, 100]⟩, .int .i64 11, .int .u32 8239, .string ⟨#[97, 109, 111, 120, 111, 114]⟩, .int .i64 11, .int .u32 536879151, .string ⟨#[97, 109, 111, 97, 110, 100]⟩, .int .i64 11, .int .u32 1610620975, .string ⟨#[97, 109, 111, 111, 114]⟩, .int .i64 11, .int .u32 1073750063, .string ⟨#[97, 109, 111, 109, 105, 110]⟩, .int .i64 11, .int .u32 2147491887, .string ⟨#[97, 109, 111, 109, 97, 120]⟩, .int .i64 11, .int .u32 2684362799, .string ⟨#[97, 109, 111, 109, 105, 110, 117]⟩, .int .i64 11, .int .u32 3221233711, .string ⟨#[97, 109, 111, 109, 97, 120, 117]⟩, .int .i64 11, .int .u32 3758104623, .string ⟨#[104, 97, 114, 116, 105, 100]⟩, .int .i64 13, .int .u32 4047511667]

/-- what operations that build make of a frame -/
def builds (P : Program) : List Oper → Act → Option Act
  | [], a => some a
  | o :: l, a =>
    match o.guard, o.op with
    | none, .build t parts =>
      match P.built t (parts.map fun (i, x) => (i, a.eval x)).toList with
      | some cells => builds P l (a.put o.dst (.agg cells))
      | none => none
    | _, _ => none
theorem wpList_builds {P : Program} {ops : Array Oper} {Q : Exit → Act → World → Prop} {w : World} (rest : List Oper) : ∀ (l : List Oper) (a a' : Act), builds P l a = some a' → wpList P ops Q rest a' w → wpList P ops Q (l ++ rest) a w
  | [], a, a', h, k => by
    simp only [builds, Option.some.injEq] at h
    subst h
    exact k
  | o :: l, a, a', h, k => by
    unfold builds at h
    split at h
    · rename_i t parts hg ho
      split at h
      · rename_i cells hc
        refine wpList_build hg t parts ho (by rw [hc]; rfl) ?_
        rw [hc]
        exact wpList_builds rest l _ a' h k
      · cases h
    · cases h
theorem wpList_buildsAt {P : Program} {ops : Array Oper} {Q : Exit → Act → World → Prop} {w : World} (n : Nat) {l : List Oper} {a : Act} (h : (builds P (l.take n) a).isSome = true)
    (k : wpList P ops Q (l.drop n) ((builds P (l.take n) a).getD a) w) : wpList P ops Q l a w := by
  obtain ⟨a', e⟩ := Option.isSome_iff_exists.1 h
  rw [e] at k
  rw [← List.take_append_drop n l]
  exact wpList_builds _ _ _ _ e k

theorem index_row (i : Nat) (h : i < 60) (w : World) : (Instr.index 173 (.agg TB) (.int .i64 (i : Int))).run Tryz.prog w = .ok (row i) w := by
  rcases (show i = 0 ∨ 1 ≤ i by omega) with rfl | h1
  · exact (by as_aux_lemma => kernel_rfl)
  rcases (show i = 1 ∨ 2 ≤ i by omega) with rfl | h2
  · exact (by as_aux_lemma => kernel_rfl)
  rcases (show i = 2 ∨ 3 ≤ i by omega) with rfl | h3
  · exact (by as_aux_lemma => kernel_rfl)
  rcases (show i = 3 ∨ 4 ≤ i by omega) with rfl | h4
  · exact (by as_aux_lemma => kernel_rfl)
  rcases (show i = 4 ∨ 5 ≤ i by omega) with rfl | h5
  · exact (by as_aux_lemma => kernel_rfl)
  rcases (show i = 5 ∨ 6 ≤ i by omega) with rfl | h6
  · exact (by as_aux_lemma => kernel_rfl)
  rcases (show i = 6 ∨ 7 ≤ i by omega) with rfl | h7
  · exact (by as_aux_lemma => kernel_rfl)
  rcases (show i = 7 ∨ 8 ≤ i by omega) with rfl | h8
  · exact (by as_aux_lemma => kernel_rfl)
  rcases (show i = 8 ∨ 9 ≤ i by omega) with rfl | h9
  · exact (by as_aux_lemma => kernel_rfl)
  rcases (show i = 9 ∨ 10 ≤ i by omega) with rfl | h10
  · exact (by as_aux_lemma => kernel_rfl)
  rcases (show i = 10 ∨ 11 ≤ i by omega) with rfl | h11
  · exact (by as_aux_lemma => kernel_rfl)
  rcases (show i = 11 ∨ 12 ≤ i by omega) with rfl | h12
  · exact (by as_aux_lemma => kernel_rfl)
  rcases (show i = 12 ∨ 13 ≤ i by omega) with rfl | h13
  · exact (by as_aux_lemma => kernel_rfl)
  rcases (show i = 13 ∨ 14 ≤ i by omega) with rfl | h14
  · exact (by as_aux_lemma => kernel_rfl)
  rcases (show i = 14 ∨ 15 ≤ i by omega) with rfl | h15
  · exact (by as_aux_lemma => kernel_rfl)
  rcases (show i = 15 ∨ 16 ≤ i by omega) with rfl | h16
  · exact (by as_aux_lemma => kernel_rfl)
  rcases (show i = 16 ∨ 17 ≤ i by omega) with rfl | h17
  · exact (by as_aux_lemma => kernel_rfl)
  rcases (show i = 17 ∨ 18 ≤ i by omega) with rfl | h18
  · exact (by as_aux_lemma => kernel_rfl)
  rcases (show i = 18 ∨ 19 ≤ i by omega) with rfl | h19
  · exact (by as_aux_lemma => kernel_rfl)
  rcases (show i = 19 ∨ 20 ≤ i by omega) with rfl | h20
  · exact (by as_aux_lemma => kernel_rfl)
  rcases (show i = 20 ∨ 21 ≤ i by omega) with rfl | h21
  · exact (by as_aux_lemma => kernel_rfl)
  rcases (show i = 21 ∨ 22 ≤ i by omega) with rfl | h22
  · exact (by as_aux_lemma => kernel_rfl)
  rcases (show i = 22 ∨ 23 ≤ i by omega) with rfl | h23
  · exact (by as_aux_lemma => kernel_rfl)
  rcases (show i = 23 ∨ 24 ≤ i by omega) with rfl | h24
  · exact (by as_aux_lemma => kernel_rfl)
  rcases (show i = 24 ∨ 25 ≤ i by omega) with rfl | h25
  · exact (by as_aux_lemma => kernel_rfl)
  rcases (show i = 25 ∨ 26 ≤ i by omega) with rfl | h26
  · exact (by as_aux_lemma => kernel_rfl)
  rcases (show i = 26 ∨ 27 ≤ i by omega) with rfl | h27
  · exact (by as_aux_lemma => kernel_rfl)
  rcases (show i = 27 ∨ 28 ≤ i by omega) with rfl | h28
  · exact (by as_aux_lemma => kernel_rfl)
  rcases (show i = 28 ∨ 29 ≤ i by omega) with rfl | h29
  · exact (by as_aux_lemma => kernel_rfl)
  rcases (show i = 29 ∨ 30 ≤ i by omega) with rfl | h30
  · exact (by as_aux_lemma => kernel_rfl)
  rcases (show i = 30 ∨ 31 ≤ i by omega) with rfl | h31
  · exact (by as_aux_lemma => kernel_rfl)
  rcases (show i = 31 ∨ 32 ≤ i by omega) with rfl | h32
  · exact (by as_aux_lemma => kernel_rfl)
  rcases (show i = 32 ∨ 33 ≤ i by omega) with rfl | h33
  · exact (by as_aux_lemma => kernel_rfl)
  rcases (show i = 33 ∨ 34 ≤ i by omega) with rfl | h34
  · exact (by as_aux_lemma => kernel_rfl)
  rcases (show i = 34 ∨ 35 ≤ i by omega) with rfl | h35
  · exact (by as_aux_lemma => kernel_rfl)
  rcases (show i = 35 ∨ 36 ≤ i by omega) with rfl | h36
  · exact (by as_aux_lemma => kernel_rfl)
  rcases (show i = 36 ∨ 37 ≤ i by omega) with rfl | h37
  · exact (by as_aux_lemma => kernel_rfl)
  rcases (show i = 37 ∨ 38 ≤ i by omega) with rfl | h38
  · exact (by as_aux_lemma => kernel_rfl)
  rcases (show i = 38 ∨ 39 ≤ i by omega) with rfl | h39
  · exact (by as_aux_lemma => kernel_rfl)
  rcases (show i = 39 ∨ 40 ≤ i by omega) with rfl | h40
  · exact (by as_aux_lemma => kernel_rfl)
  rcases (show i = 40 ∨ 41 ≤ i by omega) with rfl | h41
  · exact (by as_aux_lemma => kernel_rfl)
  rcases (show i = 41 ∨ 42 ≤ i by omega) with rfl | h42
  · exact (by as_aux_lemma => kernel_rfl)
  rcases (show i = 42 ∨ 43 ≤ i by omega) with rfl | h43
  · exact (by as_aux_lemma => kernel_rfl)
  rcases (show i = 43 ∨ 44 ≤ i by omega) with rfl | h44
  · exact (by as_aux_lemma => kernel_rfl)
  rcases (show i = 44 ∨ 45 ≤ i by omega) with rfl | h45
  · exact (by as_aux_lemma => kernel_rfl)
  rcases (show i = 45 ∨ 46 ≤ i by omega) with rfl | h46
  · exact (by as_aux_lemma => kernel_rfl)
  rcases (show i = 46 ∨ 47 ≤ i by omega) with rfl | h47
  · exact (by as_aux_lemma => kernel_rfl)
  rcases (show i = 47 ∨ 48 ≤ i by omega) with rfl | h48
  · exact (by as_aux_lemma => kernel_rfl)
  rcases (show i = 48 ∨ 49 ≤ i by omega) with rfl | h49
  · exact (by as_aux_lemma => kernel_rfl)
  rcases (show i = 49 ∨ 50 ≤ i by omega) with rfl | h50
  · exact (by as_aux_lemma => kernel_rfl)
  rcases (show i = 50 ∨ 51 ≤ i by omega) with rfl | h51
  · exact (by as_aux_lemma => kernel_rfl)
  rcases (show i = 51 ∨ 52 ≤ i by omega) with rfl | h52
  · exact (by as_aux_lemma => kernel_rfl)
  rcases (show i = 52 ∨ 53 ≤ i by omega) with rfl | h53
  · exact (by as_aux_lemma => kernel_rfl)
  rcases (show i = 53 ∨ 54 ≤ i by omega) with rfl | h54
  · exact (by as_aux_lemma => kernel_rfl)
  rcases (show i = 54 ∨ 55 ≤ i by omega) with rfl | h55
  · exact (by as_aux_lemma => kernel_rfl)
  rcases (show i = 55 ∨ 56 ≤ i by omega) with rfl | h56
  · exact (by as_aux_lemma => kernel_rfl)
  rcases (show i = 56 ∨ 57 ≤ i by omega) with rfl | h57
  · exact (by as_aux_lemma => kernel_rfl)
  rcases (show i = 57 ∨ 58 ≤ i by omega) with rfl | h58
  · exact (by as_aux_lemma => kernel_rfl)
  rcases (show i = 58 ∨ 59 ≤ i by omega) with rfl | h59
  · exact (by as_aux_lemma => kernel_rfl)
  obtain rfl : i = 59 := by omega
  exact (by as_aux_lemma => kernel_rfl)

attribute [local irreducible] wpList Code.wp
set_option maxRecDepth 100000 in
set_option maxHeartbeats 4000000 in
theorem table_any (w : World) :
    Calls Tryz.prog 105 #[] w fun e w' => e = .returned (.agg TB) ∧ Below w.heap.size w w' := by
  go_enter Tryz.func105, Tryz.ntmps105
  go_upto_region 1 with (fail)
  apply wp_region_lit
  refine wpList_buildsAt 60 (by as_aux_lemma => kernel_rfl) ?_
  refine wpList_store_row rfl 173 (.tmp 0) (.tmp 60) rfl w.heap.size TB (by as_aux_lemma => kernel_rfl) (by as_aux_lemma => kernel_rfl) 173 _ (heap_alloc_new _ _) (by as_aux_lemma => kernel_rfl) (by as_aux_lemma => kernel_rfl) (by as_aux_lemma => kernel_rfl) ?_
  apply wpList_nil
  rename_i Q K hK
  refine hK _ _ ?_
  refine wp_ret ?_
  refine bodyPost_ret (results_cell_row (fn := Tryz.f105) rfl _ _ w.heap.size 173 TB (0, 0) _ (by as_aux_lemma => kernel_rfl) (setRow_heap _ _ _ _ _ _ (heap_alloc_new _ _)) Tryz.underlying173 (by as_aux_lemma => kernel_rfl) (by as_aux_lemma => kernel_rfl)) (by as_aux_lemma => kernel_rfl) ?_
  refine ⟨rfl, ?_⟩
  exact ((Below.refl w.heap.size w).alloc (Nat.le_refl _) (Obj.cells Tryz.zeroCells173 173)).trans ⟨rfl, rfl, rfl, by simp, fun k hk => setRow_other _ _ _ _ (by omega)⟩
end Go.Proofs.YtianojbdabeoeaaGreatDoor
