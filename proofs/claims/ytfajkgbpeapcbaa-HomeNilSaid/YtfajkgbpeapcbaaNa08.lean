import Derived.Test.YtfajkgbpeapcbaaNa06
import Derived.Maps.OwnSet
import Derived.Laws.Rows
import Derived.Test.YtfajkgbpeapcbaaNa07
import Derived.Laws.BytesArg
import Derived.Laws.AppendOwn
set_option linter.unusedVariables false
set_option linter.unusedSimpArgs false

section
namespace Go.Proofs.Ytfajkgbpeapcbaa
open Go.RowKit
open Go.Maps (Keyed int_keyed keyOf_int_mk)
namespace Nt
set_option maxRecDepth 100000
theorem wf_i64 {n : Int} (h : Ev.i64B n) : (Lit.int .i64 n).wf = true := by
  unfold Ev.i64B at h
  have h1 : IntKind.i64.min = -9223372036854775808 := by decide
  have h2 : IntKind.i64.max = 9223372036854775807 := by decide
  simp only [Lit.wf, h1, h2, Bool.and_eq_true, decide_eq_true_eq]; omega
def hm (k : Int) : Bool := k == 1 || k == 2 || k == 3 || k == 11 || k == 12 || k == 13
def bs (k : Int) : Bool := k == 3 || k == 8 || k == 9 || k == 10 || k == 11
theorem wantOf_any (k : Nat) (h1 : 1 ≤ k) (h2 : k ≤ 13) (w : World) : Calls Try.prog 114 #[.int .i64 (k : Int)] w fun e w' => e = .returned (.agg #[.bool (hm k), .bool (bs k)]) ∧ Below w.heap.size w w' := by
  have hk : k = 1 ∨ k = 2 ∨ k = 3 ∨ k = 4 ∨ k = 5 ∨ k = 6 ∨ k = 7 ∨ k = 8 ∨ k = 9 ∨ k = 10 ∨ k = 11 ∨ k = 12 ∨ k = 13 := by omega
  clear h1 h2
  rcases hk with rfl | rfl | rfl | rfl | rfl | rfl | rfl | rfl | rfl | rfl | rfl | rfl | rfl <;>
  · go_enter Try.func114, Try.ntmps114
    go_wp2
    refine bodyPost_ret (results_cell_row (fn := Try.f114) rfl _ _ w.heap.size 162 _ (0, 0) _ rfl (heap_alloc2_old w _ _) Try.underlying162 rfl (by kernel_rfl)) rfl ⟨?_, ?_⟩
    · kernel_rfl
    · exact ((Below.refl w.heap.size w).alloc (Nat.le_refl _) _).alloc (by simp) _
theorem wantOf_s (k : Nat) (h2 : k < 13) (w : World) : Calls Try.prog 114 #[.int .i64 ((k : Int) + 1)] w fun e w' => e = .returned (.agg #[.bool (hm ((k : Int) + 1)), .bool (bs ((k : Int) + 1))]) ∧ Below w.heap.size w w' := wantOf_any (k + 1) (by omega) (by omega) w
def wantElem (v : Value) : Option (DataW Unit × List MemPlace) :=
  match v with
  | .agg cs => match cs.toList with
    | [.bool x, .bool y] => some (.agg [.lit (.bool x), .lit (.bool y)], [])
    | _ => none
  | _ => none
theorem wantElem_mk (x y : Bool) : wantElem (.agg #[.bool x, .bool y]) = some (.agg [.lit (.bool x), .lit (.bool y)], []) := rfl
theorem wantElem_inv {v : Value} {x y : Bool} {ps : List MemPlace} (h : wantElem v = some (.agg [.lit (.bool x), .lit (.bool y)], ps)) : v = .agg #[.bool x, .bool y] := by
  unfold wantElem at h
  split at h
  · rename_i cs
    split at h
    · rename_i x' y' e
      injection h with h
      injection h with h1 h2
      injection h1 with h1
      injection h1 with h3 h4
      injection h4 with h4 h5
      injection h3 with h3; injection h4 with h4
      injection h3 with h3; injection h4 with h4
      subst h3; subst h4
      congr 1
      exact Array.toList_inj.1 e
    · cases h
  · cases h
def datum (k : Nat) : DataW Unit := .agg [.lit (.bool (hm ((k : Int) + 1))), .lit (.bool (bs ((k : Int) + 1)))]
def D (k : Nat) : DataW Unit := (List.range k).foldl (fun (d : DataW Unit) (j : Nat) => d.put (.int .i64 ((j : Int) + 1)) (datum j)) (.map [])
theorem D_succ (k : Nat) : D (k + 1) = (D k).put (.int .i64 ((k : Int) + 1)) (datum k) := by
  unfold D
  rw [List.range_succ, List.foldl_append]
  rfl
theorem law_kind : Keyed Try.prog 65 := int_keyed Try.underlying65
theorem wants_any (w : World) : Calls Try.prog 104 #[] w fun e w' => ∃ b, e = .returned (.map (some b)) ∧ w.heap.size ≤ b ∧ w'.ownsMap Try.prog 65 wantElem b 13 (D 13) ∧ Below w.heap.size w w' := by
  have OM := Lib.hid (World.ownsMap_made (H := Unit) w Try.prog 65 wantElem)
  have B0 := Lib.hid ((Below.refl w.heap.size w).alloc (Nat.le_refl _) (.map #[] 0))
  have hmm : (Instr.makeMap 164 (some (.int .i64 13))).run Try.prog w = .ok (.map (some w.heap.size)) (w.alloc (.map #[] 0)) := by first | rfl | kernel_rfl | simp [Instr.makeMap]
  go_enter Try.func104, Try.ntmps104
  go_wp2_with fail
  have B0' := B0.out; have OM' := OM.out
  obtain ⟨W0, hW0⟩ : ∃ W0, W0 = w.alloc (.map #[] 0) := ⟨_, rfl⟩
  obtain ⟨b, hb⟩ : ∃ b, b = w.heap.size := ⟨_, rfl⟩
  rw [← hW0] at B0' OM' ⊢
  rw [← hb] at OM' ⊢
  have HB := Lib.hid hb
  clear B0 OM hmm hW0 hb
  have B0 := Lib.hid B0'; have OM := Lib.hid OM'
  clear B0' OM'
  go_loopw [2] (fun i wr => ∃ k : Nat, k ≤ 13 ∧ i = .int .i64 ((k : Int) + 1) ∧ wr.ownsMap Try.prog 65 wantElem b k (D k) ∧ Below w.heap.size w wr) (fun i _ => 14 - (intOf i).toNat)
  case atStart => exact ⟨0, by omega, rfl, OM.out, B0.out⟩
  case round =>
    obtain ⟨k, hk, rfl, hom, hbl⟩ := hrel
    have OMk := Lib.hid hom; have BK := Lib.hid hbl
    clear hom hbl
    by_cases hlt : k < 13
    · have hki : ((k : Int) + 1) ≤ 13 := by omega
      have hk0 : (0 : Int) ≤ ((k : Int) + 1) := by omega
      go_wp2_with (first
        | (go_at_call 114; (with_reducible refine (wantOf_s k hlt wr).mono ?_); rintro e W2 ⟨rfl, hb2⟩
           have OM2 := Lib.hid (OMk.out.kept (row := none) (⟨hb2.os, hb2.tape, hb2.output, hb2.size, fun j hj _ => hb2.block j hj⟩) (by simp)); have BL2 := Lib.hid (BK.out.trans (hb2.mono BK.out.size))
           clear hb2)
        | (at_mapUpdate; go_loud (refine wpList_mapUpdate_own _ rfl _ _ _ 164 rfl 65 162 law_kind Try.underlying164 wantElem b k (D k) rfl OM2.out (by unfold maxLen; omega) _ _ (.int .i64 ((k : Int) + 1)) rfl rfl (keyOf_int_mk (P := Try.prog) Try.underlying65 (wf_i64 (by unfold Ev.i64B; omega))) _ [] (wantElem_mk _ _) ?_)
           intro W3 hown3 hg3
           have OM3 := Lib.hid hown3; have G3 := Lib.hid hg3
           clear hown3 hg3))
      go_roundw
      case rel =>
        refine ⟨k + 1, by omega, by go_num, ?_, ?_⟩
        · rw [D_succ]; exact OM3.out
        · refine BL2.out.trans ?_
          exact ⟨G3.out.os, G3.out.tape, G3.out.output, G3.out.size, fun j hj => G3.out.block j (Nat.lt_of_lt_of_le hj BL2.out.size) (fun e => by injection e with e; have := HB.out; omega)⟩
      case measure => simp [intOf]; omega
    · obtain rfl : k = 13 := by omega
      have hki : ¬ ((13 : Nat) : Int) + 1 ≤ 13 := by omega
      go_wp2_with fail
      go_ret
      exact ⟨b, rfl, by rw [HB.out]; exact Nat.le_refl _, OMk.out, BK.out⟩
end Nt
end Go.Proofs.Ytfajkgbpeapcbaa
end

section
namespace Go.Proofs.Ytfajkgbpeapcbaa
set_option maxRecDepth 100000
open Go.RowKit Go.Maps
theorem size_any (p g n : Nat) (w : World) (hn : n ≤ 9223372036854775807) (hc : w.cell? ⟨p, 0, none⟩ = some (.slice (some ⟨g, 0, none⟩) n n)) :
    Calls Try.prog 72 #[.pointer (some ⟨p, 0, none⟩)] w fun e w' => e = .returned (.int .i64 n) ∧ w = w' := by
  have HC := Lib.hid hc; clear hc
  go_enter Try.func72, Try.ntmps72
  go_wp2_with (go_at_call 91; refine (own_any _ _ _ _ HC.out).mono ?_; rintro e w' ⟨rfl, rfl⟩)
  go_ret
  exact ⟨rfl, rfl⟩
theorem copy_any (p g : Nat) (xs : List Int) (w : World) (hi : Img w p g xs) :
    Calls Try.prog 74 #[.pointer (some ⟨p, 0, none⟩)] w fun e w' => ∃ p' g', e = .returned (.pointer (some ⟨p', 0, none⟩)) ∧ Img w' p' g' xs ∧ w.heap.size ≤ p' ∧ w.heap.size ≤ g' ∧ Below w.heap.size w w' := by
  have HI := Lib.hid hi; clear hi
  go_enter Try.func74, Try.ntmps74
  go_wp2_with (first
    | (go_at_call 91; refine (own_any _ _ _ _ HI.out.cell).mono ?_; rintro e w' ⟨rfl, rfl⟩)
    | (go_at_call 57; refine (of_yes xs.length xs.length _ xs HI.out.ok rfl HI.out.byt _ (Sl.of_row HI.out.row)).mono ?_; rintro e w1 ⟨p', g', rfl, h'⟩; have H' := Lib.hid h'; clear h'))
  go_ret
  exact ⟨p', g', rfl, H'.out⟩
theorem copy_nil (w : World) :
    Calls Try.prog 74 #[.pointer none] w fun e w' => e = .returned (.pointer none) ∧ Below w.heap.size w w' := by
  go_enter Try.func74, Try.ntmps74
  go_wp2_with (first
    | (go_at_call 91; refine (own_nil _).mono ?_; rintro e w' ⟨rfl, rfl⟩)
    | (go_at_call 57; refine (of_no 0 0 _ (by decide) (by omega) _).mono ?_; rintro e w1 ⟨rfl, hb⟩))
  go_ret
  exact ⟨rfl, hb⟩
end Go.Proofs.Ytfajkgbpeapcbaa
end

section
namespace Go.Proofs.Ytfajkgbpeapcbaa
open Go.RowKit
open Go.Maps (Keyed int_keyed keyOf_int_mk IsMap)
namespace Nt
set_option maxRecDepth 100000
def kd (k : Int) : Bool := decide (1 ≤ k ∧ k ≤ 13)
theorem isMap_D (n : Nat) : IsMap (D n) := by
  induction n with
  | zero => exact ⟨[], rfl⟩
  | succ n ih =>
    obtain ⟨es, h⟩ := ih
    rw [D_succ, h]
    exact ⟨_, rfl⟩
theorem iskey (k : Int) : WideAt.IsKeyLit (.int .i64 k) := by first | trivial | exact rfl | simp [WideAt.IsKeyLit]
theorem has_D (n : Nat) (k : Int) : Maps.has (D n) (.int .i64 k) = decide (1 ≤ k ∧ k ≤ (n : Int)) := by
  induction n with
  | zero => rw [decide_eq_false (by omega)]; rfl
  | succ n ih =>
    rw [D_succ]
    by_cases e : k = (n : Int) + 1
    · subst e
      rw [Maps.has_put_same (isMap_D n) (iskey _), decide_eq_true (by omega)]
    · rw [Maps.has_put_other (by intro h; injection h with _ h; exact e h), ih]
      exact decide_eq_decide.2 (by omega)
theorem at_D (n : Nat) (k : Int) (z : DataW Unit) : (D n).atKey (.int .i64 k) z = if 1 ≤ k ∧ k ≤ (n : Int) then .agg [.lit (.bool (hm k)), .lit (.bool (bs k))] else z := by
  induction n with
  | zero => rw [if_neg (by omega)]; rfl
  | succ n ih =>
    rw [D_succ]
    by_cases e : k = (n : Int) + 1
    · subst e
      rw [Maps.atKey_put_same (isMap_D n) (iskey _), if_pos (by omega)]
      rfl
    · rw [Maps.atKey_put_other (by intro h; injection h with _ h; exact e h), ih]
      by_cases h : 1 ≤ k ∧ k ≤ (n : Int)
      · rw [if_pos h, if_pos (by omega)]
      · rw [if_neg h, if_neg (by omega)]
theorem hm_no {k : Int} (h : ¬ (1 ≤ k ∧ k ≤ 13)) : hm k = false := by
  unfold hm
  have h1 : ∀ j : Int, 1 ≤ j → j ≤ 13 → (k == j) = false := fun j h1 h2 => by simp; omega
  rw [h1 1 (by decide) (by decide), h1 2 (by decide) (by decide), h1 3 (by decide) (by decide), h1 11 (by decide) (by decide), h1 12 (by decide) (by decide), h1 13 (by decide) (by decide)]; rfl
theorem bs_no {k : Int} (h : ¬ (1 ≤ k ∧ k ≤ 13)) : bs k = false := by
  unfold bs
  have h1 : ∀ j : Int, 1 ≤ j → j ≤ 13 → (k == j) = false := fun j h1 h2 => by simp; omega
  rw [h1 3 (by decide) (by decide), h1 8 (by decide) (by decide), h1 9 (by decide) (by decide), h1 10 (by decide) (by decide), h1 11 (by decide) (by decide)]; rfl
theorem zero_want (w : World) : (zeroValue 162).run Try.prog w = .ok (.agg #[.bool false, .bool false]) w := by kernel_rfl
theorem look_want {w : World} {b : Nat} (h : w.ownsMap Try.prog 65 wantElem b 13 (D 13)) {k : Int} (hk : Ev.i64B k) :
    (Instr.lookup 164 (.map (some b)) (.int .i64 k) true).run Try.prog w = .ok (.tuple #[.agg #[.bool (hm k), .bool (bs k)], .bool (kd k)]) w := by
  obtain ⟨v, ps, hr, hv⟩ := h.look_ok law_kind Try.underlying164 (zero_want w) (wantElem_mk false false) (keyOf_int_mk (P := Try.prog) Try.underlying65 (wf_i64 hk))
  rw [has_D] at hr
  rw [at_D] at hv
  have e : v = .agg #[.bool (hm k), .bool (bs k)] := by
    by_cases h1 : 1 ≤ k ∧ k ≤ ((13 : Nat) : Int)
    · rw [if_pos h1] at hv
      exact wantElem_inv hv
    · rw [if_neg h1] at hv
      rw [hm_no h1, bs_no h1]
      exact wantElem_inv hv
  rw [hr, e]; rfl
theorem look_to {o : Oper} {ρ : Operand → Value} {w : World} {b : Nat} (h : w.ownsMap Try.prog 65 wantElem b 13 (D 13)) {k : Int} (hk : Ev.i64B k) (m x : Operand) (ho : o.op = .lookup 164 m x true) (hm' : ρ m = .map (some b)) (hx : ρ x = .int .i64 k) :
    (execOp ρ o).run Try.prog w = .ok (.value (.tuple #[.agg #[.bool (hm k), .bool (bs k)], .bool (kd k)])) w := by
  have hr := look_want h hk
  simp [execOp, ho, hm', hx, hr, Result.andThen]
end Nt
end Go.Proofs.Ytfajkgbpeapcbaa
end
