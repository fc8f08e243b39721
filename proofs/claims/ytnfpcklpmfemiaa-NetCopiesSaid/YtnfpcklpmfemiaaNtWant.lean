/-
  What each kind of message wants: the map that is made of it.
-/
import Derived.Test.YtnfpcklpmfemiaaNtLow
import Derived.Maps.OwnSet
import Derived.Laws.Rows
namespace Go.Proofs.Ytnfpcklpmfemiaa
open Go.RowKit
open Go.Maps (Keyed int_keyed keyOf_int_mk)
set_option linter.unusedVariables false
set_option linter.unusedSimpArgs false
namespace Nt
set_option maxRecDepth 100000
theorem wf_i64 {n : Int} (h : Ev.i64B n) : (Lit.int .i64 n).wf = true := by
  unfold Ev.i64B at h
  have h1 : IntKind.i64.min = -9223372036854775808 := by decide
  have h2 : IntKind.i64.max = 9223372036854775807 := by decide
  simp only [Lit.wf, h1, h2, Bool.and_eq_true, decide_eq_true_eq]; omega
/-- does a kind go to the home -/
def hm (k : Int) : Bool := k == 1 || k == 2 || k == 3 || k == 11 || k == 12 || k == 13
/-- does a kind bring bytes -/
def bs (k : Int) : Bool := k == 3 || k == 8 || k == 9 || k == 10 || k == 11
theorem wantOf_any (k : Nat) (h1 : 1 ≤ k) (h2 : k ≤ 13) (w : World) : Calls Try.prog 78 #[.int .i64 (k : Int)] w fun e w' => e = .returned (.agg #[.bool (hm k), .bool (bs k)]) ∧ Below w.heap.size w w' := by
  have hk : k = 1 ∨ k = 2 ∨ k = 3 ∨ k = 4 ∨ k = 5 ∨ k = 6 ∨ k = 7 ∨ k = 8 ∨ k = 9 ∨ k = 10 ∨ k = 11 ∨ k = 12 ∨ k = 13 := by omega
  clear h1 h2
  rcases hk with rfl | rfl | rfl | rfl | rfl | rfl | rfl | rfl | rfl | rfl | rfl | rfl | rfl <;>
  · go_enter Try.func78, Try.ntmps78
    go_wp2
    refine bodyPost_ret (results_cell_row (fn := Try.f78) rfl _ _ w.heap.size 120 _ (0, 0) _ rfl (heap_alloc2_old w _ _) Try.underlying120 rfl (by kernel_rfl)) rfl ⟨?_, ?_⟩
    · kernel_rfl
    · exact ((Below.refl w.heap.size w).alloc (Nat.le_refl _) _).alloc (by simp) _
theorem wantOf_s (k : Nat) (h2 : k < 13) (w : World) : Calls Try.prog 78 #[.int .i64 ((k : Int) + 1)] w fun e w' => e = .returned (.agg #[.bool (hm ((k : Int) + 1)), .bool (bs ((k : Int) + 1))]) ∧ Below w.heap.size w w' := wantOf_any (k + 1) (by omega) (by omega) w
/-- how an element of the map reads -/
def wantElem (v : Value) : Option (DataW Unit × List MemPlace) :=
  match v with
  | .agg cs => match cs.toList with
    | [.bool x, .bool y] => some (.agg [.lit (.bool x), .lit (.bool y)], [])
    | _ => none
  | _ => none
theorem wantElem_mk (x y : Bool) : wantElem (.agg #[.bool x, .bool y]) = some (.agg [.lit (.bool x), .lit (.bool y)], []) := rfl
theorem wantElem_inv {v : Value} {x y : Bool} {ps : List MemPlace} (h : wantElem v = some (.agg [.lit (.bool x), .lit (.bool y)], ps)) : v = .agg #[.bool x, .bool y] := by
  unfold wantElem at h
  split at h
  · rename_i cs
    split at h
    · rename_i x' y' e
      injection h with h
      injection h with h1 h2
      injection h1 with h1
      injection h1 with h3 h4
      injection h4 with h4 h5
      injection h3 with h3; injection h4 with h4
      injection h3 with h3; injection h4 with h4
      subst h3; subst h4
      congr 1
      exact Array.toList_inj.1 e
    · cases h
  · cases h
def datum (k : Nat) : DataW Unit := .agg [.lit (.bool (hm ((k : Int) + 1))), .lit (.bool (bs ((k : Int) + 1)))]
def D (k : Nat) : DataW Unit := (List.range k).foldl (fun (d : DataW Unit) (j : Nat) => d.put (.int .i64 ((j : Int) + 1)) (datum j)) (.map [])
theorem D_succ (k : Nat) : D (k + 1) = (D k).put (.int .i64 ((k : Int) + 1)) (datum k) := by
  unfold D
  rw [List.range_succ, List.foldl_append]
  rfl
theorem law_kind : Keyed Try.prog 55 := int_keyed Try.underlying55
theorem wants_any (w : World) : Calls Try.prog 74 #[] w fun e w' => ∃ b, e = .returned (.map (some b)) ∧ w.heap.size ≤ b ∧ w'.ownsMap Try.prog 55 wantElem b 13 (D 13) ∧ Below w.heap.size w w' := by
  have OM := Lib.hid (World.ownsMap_made (H := Unit) w Try.prog 55 wantElem)
  have B0 := Lib.hid ((Below.refl w.heap.size w).alloc (Nat.le_refl _) (.map #[] 0))
  have hmm : (Instr.makeMap 122 (some (.int .i64 13))).run Try.prog w = .ok (.map (some w.heap.size)) (w.alloc (.map #[] 0)) := by first | rfl | kernel_rfl | simp [Instr.makeMap]
  go_enter Try.func74, Try.ntmps74
  go_wp2_with fail
  have B0' := B0.out; have OM' := OM.out
  obtain ⟨W0, hW0⟩ : ∃ W0, W0 = w.alloc (.map #[] 0) := ⟨_, rfl⟩
  obtain ⟨b, hb⟩ : ∃ b, b = w.heap.size := ⟨_, rfl⟩
  rw [← hW0] at B0' OM' ⊢
  rw [← hb] at OM' ⊢
  have HB := Lib.hid hb
  clear B0 OM hmm hW0 hb
  have B0 := Lib.hid B0'; have OM := Lib.hid OM'
  clear B0' OM'
  go_loopw [2] (fun i wr => ∃ k : Nat, k ≤ 13 ∧ i = .int .i64 ((k : Int) + 1) ∧ wr.ownsMap Try.prog 55 wantElem b k (D k) ∧ Below w.heap.size w wr) (fun i _ => 14 - (intOf i).toNat)
  case atStart => exact ⟨0, by omega, rfl, OM.out, B0.out⟩
  case round =>
    obtain ⟨k, hk, rfl, hom, hbl⟩ := hrel
    have OMk := Lib.hid hom; have BK := Lib.hid hbl
    clear hom hbl
    by_cases hlt : k < 13
    · have hki : ((k : Int) + 1) ≤ 13 := by omega
      have hk0 : (0 : Int) ≤ ((k : Int) + 1) := by omega
      go_wp2_with (first
        | (go_at_call 78; (with_reducible refine (wantOf_s k hlt wr).mono ?_); rintro e W2 ⟨rfl, hb2⟩
           have OM2 := Lib.hid (OMk.out.kept (row := none) (⟨hb2.os, hb2.tape, hb2.output, hb2.size, fun j hj _ => hb2.block j hj⟩) (by simp)); have BL2 := Lib.hid (BK.out.trans (hb2.mono BK.out.size))
           clear hb2)
        | (at_mapUpdate; go_loud (refine wpList_mapUpdate_own _ rfl _ _ _ 122 rfl 55 120 law_kind Try.underlying122 wantElem b k (D k) rfl OM2.out (by unfold maxLen; omega) _ _ (.int .i64 ((k : Int) + 1)) rfl rfl (keyOf_int_mk (P := Try.prog) Try.underlying55 (wf_i64 (by unfold Ev.i64B; omega))) _ [] (wantElem_mk _ _) ?_)
           intro W3 hown3 hg3
           have OM3 := Lib.hid hown3; have G3 := Lib.hid hg3
           clear hown3 hg3))
      go_roundw
      case rel =>
        refine ⟨k + 1, by omega, by go_num, ?_, ?_⟩
        · rw [D_succ]; exact OM3.out
        · refine BL2.out.trans ?_
          exact ⟨G3.out.os, G3.out.tape, G3.out.output, G3.out.size, fun j hj => G3.out.block j (Nat.lt_of_lt_of_le hj BL2.out.size) (fun e => by injection e with e; have := HB.out; omega)⟩
      case measure => simp [intOf]; omega
    · obtain rfl : k = 13 := by omega
      have hki : ¬ ((13 : Nat) : Int) + 1 ≤ 13 := by omega
      go_wp2_with fail
      go_ret
      exact ⟨b, rfl, by rw [HB.out]; exact Nat.le_refl _, OMk.out, BK.out⟩
end Nt
end Go.Proofs.Ytnfpcklpmfemiaa
