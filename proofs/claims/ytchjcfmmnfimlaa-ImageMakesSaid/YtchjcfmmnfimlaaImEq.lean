/-
  Two arrays of sixteen bytes that hold the same are alike.
-/
import Derived.Test.YtchjcfmmnfimlaaImOpen
namespace Go.Proofs.Ytchjcfmmnfimlaa
open Go.RowKit
set_option linter.unusedVariables false

theorem part_byte (w : World) (xs : List Int) (i : Nat) (h : i < xs.length) : (part 5 (Im.vals xs).toArray (i * 1)).run Try.prog w = .ok (.int .u8 (xs.getD i 0)) w := by
  have hi : (isAgg 5).run Try.prog w = .ok false w := by kernel_rfl
  have e : (Im.vals xs).toArray[i * 1]? = some (.int .u8 (xs.getD i 0)) := by simp [Im.vals, h, List.getD_eq_getElem?_getD]
  unfold part
  simp only [Sem.run_bind, hi, Result.andThen_ok, e]
  rfl
theorem eq_loop (d : Nat) (w : World) (xs : List Int) : ∀ l : List Nat, (∀ i ∈ l, i < xs.length) →
    (forIn l ((none, ()) : Option Bool × Unit) (fun i _ => do
            let a ← part 5 (Im.vals xs).toArray (i * 1)
            let b ← part 5 (Im.vals xs).toArray (i * 1)
            let c ← Op.equalIn (d + 1) 5 a b
            if (!c) = true then pure (ForInStep.done (some false, ())) else pure (ForInStep.yield (none, ())) : Nat → Option Bool × Unit → Sem (ForInStep (Option Bool × Unit)))).run Try.prog w = .ok (none, ()) w
  | [], _ => by simp [Sem.run_pure]
  | i :: l, h => by
    have hp := part_byte w xs i (h i List.mem_cons_self)
    have he := run_equalIn_int (P := Try.prog) w d 5 .u8 .u8 (xs.getD i 0) (xs.getD i 0) Try.underlying5
    simp only [List.forIn_cons, Sem.run_bind, hp, he, Result.andThen_ok, beq_self_eq_true, Bool.not_true, Bool.false_eq_true, if_false, Sem.run_pure]
    exact eq_loop d w xs l (fun j hj => h j (List.mem_cons_of_mem _ hj))
theorem eq_arr' (d : Nat) (w : World) (xs : List Int) (hx : xs.length = 16) : (Op.equalIn (d + 1 + 1) 45 (.agg (Im.vals xs).toArray) (.agg (Im.vals xs).toArray)).run Try.prog w = .ok true w := by
  have hs : (sizeOf 5).run Try.prog w = .ok 1 w := by kernel_rfl
  unfold Op.equalIn
  simp only [Sem.run_bind, run_underlying Try.underlying45, Result.andThen_ok, hs]
  rw [Std.Legacy.Range.forIn_eq_forIn_range']
  have hl := eq_loop d w xs (List.range' 0 16 1) (fun i hi => by rw [List.mem_range'_1] at hi; omega)
  rw [show (List.range' [:16].start [:16].size [:16].step) = List.range' 0 16 1 from rfl, hl]
  rfl
theorem eq_arr (w : World) (xs : List Int) (hx : xs.length = 16) : (Op.equalIn 10000 45 (.agg (Im.vals xs).toArray) (.agg (Im.vals xs).toArray)).run Try.prog w = .ok true w :=
  eq_arr' 9998 w xs hx
theorem eql_arr (w : World) (xs : List Int) (hx : xs.length = 16) : (binOp .eql 45 (.agg (Im.vals xs).toArray) (.agg (Im.vals xs).toArray)).run Try.prog w = .ok (.bool true) w := by
  rw [run_eql_struct, eq_arr w xs hx]; rfl
/-- an operation that is wanted, guarded or not -/
theorem wpList_want {P : Program} {ops : Array Oper} {rest : List Oper} {o : Oper} {a : Act} {w : World} {Q : Exit → Act → World → Prop} (hg : Region.wanted o (yielded ops a.tmps) = true)
    (h : ∀ K : Act → World → Prop, (∀ a w, wpList P ops Q rest a w → K a w) → o.wp P a w K Q) : wpList P ops Q (o :: rest) a w :=
  wpList_step fun K hK => by rw [if_pos hg]; exact h K hK
theorem wpList_load_arr {ops : Array Oper} {rest : List Oper} {o : Oper} {a : Act} {w : World} {Q : Exit → Act → World → Prop} (hgd : Region.wanted o (yielded ops a.tmps) = true) (x : Operand) (ho : o.op = .load 45 x)
    (g : Nat) (hx : a.eval x = .pointer (some ⟨g, 0, none⟩)) (ls : List Int) (hl : ls.length = 16) (hg : Arr w g ls)
    (h : wpList Try.prog ops Q rest (a.put o.dst (.agg (Im.vals ls).toArray)) w) : wpList Try.prog ops Q (o :: rest) a w :=
  wpList_want hgd fun _ hK => wp_load_row 45 x ho g hx 45 (Im.vals ls).toArray (0, 0) _ hg Try.underlying45 rfl (by rw [size45, List.size_toArray, len_vals, hl]) (hK _ _ h)
theorem wpList_store_arr {ops : Array Oper} {rest : List Oper} {o : Oper} {a : Act} {w : World} {Q : Exit → Act → World → Prop} (hgd : Region.wanted o (yielded ops a.tmps) = true) (x y : Operand) (ho : o.op = .store 45 x y)
    (g : Nat) (ls old : List Int) (hx : a.eval x = .pointer (some ⟨g, 0, none⟩)) (hy : a.eval y = .agg (Im.vals ls).toArray) (hl : ls.length = 16) (hol : old.length = 16) (hg : Arr w g old)
    (h : ∀ w', Arr w' g ls → w.grownBy w' (some g) → wpList Try.prog ops Q rest (a.put o.dst undef) w') : wpList Try.prog ops Q (o :: rest) a w :=
  wpList_want hgd fun _ hK => wp_store_row 45 x y ho g (Im.vals ls).toArray hx hy 45 (Im.vals old).toArray hg (by rw [size45, List.size_toArray, len_vals, hl]) (by rw [List.size_toArray, List.size_toArray, len_vals, len_vals, hl, hol]) (one_vals ls)
    (hK _ _ (h _ (setRow_heap _ _ _ _ _ _ hg) (grownBy_setRow (World.grownBy.refl _ _) _)))
theorem Arr.old {w w' : World} {r : Nat} {ls : List Int} (h : Arr w r ls) (hb : Below w.heap.size w w') : Arr w' r ls := (hb.block r (heap_lt h)).trans h
theorem Arr.kept {w w' : World} {r : Nat} {ls : List Int} {row : Option Nat} (h : Arr w r ls) (hg : w.grownBy w' row) (hne : some r ≠ row) : Arr w' r ls := (hg.block r (heap_lt h) hne).trans h
theorem Arr.lt {w : World} {r : Nat} {ls : List Int} (h : Arr w r ls) : r < w.heap.size := heap_lt h
/-- a store into a block that has just been made -/
theorem below_new {w w' : World} {o : Obj} (h : (w.alloc o).grownBy w' (some w.heap.size)) : Below w.heap.size w w' :=
  ((Below.refl w.heap.size w).alloc (Nat.le_refl _) o).grown h (by simp) (fun k hk => by cases hk; exact Nat.le_refl _)
/-- the first block that a call makes, an array, behind whatever has grown since -/
theorem arr_first {w w1 : World} {ls : List Int} (h : Below (w.alloc (.cells (Im.vals ls).toArray 45)).heap.size (w.alloc (.cells (Im.vals ls).toArray 45)) w1) : Below w.heap.size w w1 ∧ Arr w1 w.heap.size ls := blk_new w _ h
theorem win_same {bs ls : List Int} {off : Nat} (h : off + 16 ≤ bs.length) (hl : ls.length = 16) : Im.win (Im.sets bs off (Im.nth ls) 16) off 16 = ls :=
  Im.ext_getD (by rw [Im.length_win (by rw [Im.length_sets]; exact h), hl]) (fun j hj => by
    rw [Im.length_win (by rw [Im.length_sets]; exact h)] at hj
    rw [Im.get_win _ _ _ _ hj, Im.get_sets _ _ _ _ h, if_pos (by omega), show off + j - off = j by omega]; rfl)
theorem win_other {bs : List Int} {f : Nat → Int} {off o2 : Nat} (h : off + 16 ≤ bs.length) (h2 : o2 + 16 ≤ bs.length) (hd : o2 + 16 ≤ off ∨ off + 16 ≤ o2) : Im.win (Im.sets bs off f 16) o2 16 = Im.win bs o2 16 :=
  Im.ext_getD (by rw [Im.length_win (by rw [Im.length_sets]; exact h2), Im.length_win h2]) (fun j hj => by
    rw [Im.length_win (by rw [Im.length_sets]; exact h2)] at hj
    rw [Im.get_win _ _ _ _ hj, Im.get_win _ _ _ _ hj, Im.get_sets _ _ _ _ h, if_neg (by omega)])
/-- an array of noughts as it is built, against one in memory -/
theorem eq_zeros (w : World) : (Op.equalIn 10000 45 (.agg (Im.vals zs16).toArray) (.agg #[.int .u8 0, .int .u8 0, .int .u8 0, .int .u8 0, .int .u8 0, .int .u8 0, .int .u8 0, .int .u8 0, .int .u8 0, .int .u8 0, .int .u8 0, .int .u8 0, .int .u8 0, .int .u8 0, .int .u8 0, .int .u8 0])).run Try.prog w = .ok true w := eq_arr w zs16 rfl
end Go.Proofs.Ytchjcfmmnfimlaa
