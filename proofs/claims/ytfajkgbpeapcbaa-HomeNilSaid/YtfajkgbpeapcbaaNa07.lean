import Derived.Test.YtfajkgbpeapcbaaNa06
import Derived.Test.YtfajkgbpeapcbaaNa04
import Derived.Laws.StructEq
set_option linter.unusedVariables false
set_option linter.unusedSimpArgs false

section
namespace Go.Proofs.Ytfajkgbpeapcbaa
open Go.RowKit
namespace Nt
theorem sixteen {l : List Int} (h : l.length = 16) : ∃ a b c d e f g h i j k m n o p q, l = [a, b, c, d, e, f, g, h, i, j, k, m, n, o, p, q] := by
  match l, h with
  | [a, b, c, d, e, f, g, h, i, j, k, m, n, o, p, q], _ => exact ⟨a, b, c, d, e, f, g, h, i, j, k, m, n, o, p, q, rfl⟩
def bys (b : List Int) : List Value := b.map (Value.int .u8)
def sameB (a b : List Int) : Bool := (List.range 16).all fun i => a.getD i 0 == b.getD i 0
theorem part_by (w : World) (b : List Int) (hb : b.length = 16) (i : Nat) (hi : i < 16) : (part 5 (bys b).toArray (i * 1)).run Try.prog w = .ok (.int .u8 (b.getD i 0)) w := by
  have ha : (isAgg 5).run Try.prog w = .ok false w := by kernel_rfl
  have e : (bys b).toArray[i * 1]? = some (.int .u8 (b.getD i 0)) := by simp [bys, List.getD, hb, hi]
  unfold part
  simp only [Sem.run_bind, ha, Result.andThen_ok, e]
  rfl
theorem eq_items (d : Nat) (w : World) (a b : List Int) (ha : a.length = 16) (hb : b.length = 16) : ∀ is : List Nat, (∀ i ∈ is, i < 16) → (Op.eqItems (d + 1) 5 1 (bys a).toArray (bys b).toArray is).run Try.prog w = .ok (is.all fun i => a.getD i 0 == b.getD i 0) w
  | [], _ => by simp [Op.eqItems]
  | i :: is, hi => by
    have p1 := part_by w a ha i (hi i List.mem_cons_self)
    have p2 := part_by w b hb i (hi i List.mem_cons_self)
    have he := run_equalIn_int (P := Try.prog) w d 5 .u8 .u8 (a.getD i 0) (b.getD i 0) Try.underlying5
    have ih := eq_items d w a b ha hb is (fun j hj => hi j (List.mem_cons_of_mem _ hj))
    simp only [Op.eqItems, Sem.run_bind, p1, p2, he, Result.andThen_ok, List.all_cons]
    cases a.getD i 0 == b.getD i 0
    · simp
    · simpa using ih
theorem eq_bytes (d : Nat) (w : World) (a b : List Int) (ha : a.length = 16) (hb : b.length = 16) : (Op.equalIn (d + 2) 25 (.agg (bys a).toArray) (.agg (bys b).toArray)).run Try.prog w = .ok (sameB a b) w := by
  have hs : (Try.prog.info? 5).isSome = true := by kernel_rfl
  have u1 : Try.prog.cellsOf 5 = 1 := by kernel_rfl
  obtain ⟨i, hi⟩ := Option.isSome_iff_exists.1 hs
  rw [show d + 2 = (d + 1) + 1 from rfl, run_equalIn_array w (d + 1) _ _ Try.underlying25 hi, u1]
  exact eq_items d w a b ha hb (List.range 16) (fun j hj => List.mem_range.1 hj)
theorem guard_bytes : Try.prog.eqGuardType Try.prog.depth 25 = false := by kernel_rfl
def zb (b : List Int) : Bool := sameB b E0.b
theorem neq_bytes {o : Oper} {ρ : Operand → Value} (x y : Operand) (ho : o.op = .binOp .neq 25 x y 25) {a : List Int} (ha : a.length = 16) (hx : ρ x = .agg (bys a).toArray) (hy : ρ y = .agg (bys E0.b).toArray) (w : World) : (execOp ρ o).run Try.prog w = .ok (.value (.bool (!zb a))) w := by
  unfold execOp
  rw [ho]
  simp only [hx, hy]
  have e : (binOp .neq 25 (.agg (bys a).toArray) (.agg (bys E0.b).toArray)).run Try.prog w = .ok (.bool (!zb a)) w := by
    rw [run_neq_struct, eq_bytes 9998 w a E0.b ha rfl]; rfl
  simp only [Sem.run_bind, run_eqGuard_agg w .neq 25 x y _ _ guard_bytes, Result.andThen_ok, e, Sem.run_pure]
theorem wpList_val_g {P : Program} {ops : Array Oper} {rest : List Oper} {o : Oper} {a : Act} {w : World} {Q : Exit → Act → World → Prop} (hw : Region.wanted o (yielded ops a.tmps) = true) {v : Value} (h : (execOp a.eval o).run P w = .ok (.value v) w) (hk : wpList P ops Q rest (a.put o.dst v) w) : wpList P ops Q (o :: rest) a w := by
  unfold wpList
  rw [if_pos hw]
  exact .inl (Og.run_to h hk)
end Nt
end Go.Proofs.Ytfajkgbpeapcbaa
end

section
namespace Go.Proofs.Ytfajkgbpeapcbaa
set_option maxRecDepth 100000
open Go.RowKit Go.Maps
def Sl (w : World) (a : Option Addr) (xs : List Int) : Prop := 0 < xs.length → ∃ g o, a = some ⟨g, o, none⟩ ∧ ∀ j, j < xs.length → w.cell? ⟨g, o + j, none⟩ = some (.int .u8 (xs.getD j 0))
theorem Sl.old {w w' : World} {a : Option Addr} {xs : List Int} (h : Sl w a xs) (hb : Below w.heap.size w w') : Sl w' a xs := fun hp => by
  obtain ⟨g, o, e, hc⟩ := h hp
  exact ⟨g, o, e, fun j hj => (hb.cell (p := ⟨g, o + j, none⟩) (World.block_lt_of_cell? w ⟨g, o + j, none⟩ (hc j hj))).trans (hc j hj)⟩
theorem Sl.of_row {w : World} {g : Nat} {xs : List Int} (h : Row w g xs) : Sl w (some ⟨g, 0, none⟩) xs := fun _ => ⟨g, 0, rfl, fun j hj => by rw [Nat.zero_add]; exact h.cell hj⟩
theorem Sl.nil (w : World) (a : Option Addr) : Sl w a [] := fun h => absurd h (by simp)
theorem info5 : (Try.prog.info? 5).map (fun i => (i.zero, i.size, i.bytes)) = some (some (.int .u8 0), 1, 1) := by kernel_rfl
theorem row_of_own {w : World} {base g n : Nat} {bs : List Int} (h : w.ownsRow base 5 1 (.slice (some ⟨g, 0, none⟩) n n) n (Im.vals bs)) : Row w g bs ∧ base ≤ g := by
  obtain ⟨h1, h2 | ⟨g', cap, cur, hv, hb, hg, hnc, hcm, hcs, ht⟩⟩ := h
  · simp at h2
  · injection hv with e1 e2 e3
    injection e1 with e1
    injection e1 with e1
    subst e1
    obtain rfl : n = cap := e3
    refine ⟨?_, hb⟩
    unfold Row
    rw [hg, ← ht, List.take_of_length_le (by simp; omega)]
theorem made_zeros (n : Nat) : (madeCells (Value.int .u8 0).cells (n * 1)).toList = Im.vals (List.replicate n 0) := by
  show (madeCells #[Value.int .u8 0] (n * 1)).toList = _
  rw [toList_madeCells_one]
  simp [Im.vals]
theorem build_no (n : Int) (F : Value) (h : -9223372036854775808 ≤ n ∧ n ≤ 9223372036854775807) (hn : Im.okB n = false) (w : World) :
    Calls Try.prog 76 #[.int .i64 n, F] w fun e w' => e = .returned (.tuple #[.pointer none, .int .i64 2]) ∧ w = w' := by
  have HN := Lib.hid hn; clear hn
  go_enter Try.func76, Try.ntmps76
  go_wp2_with (go_at_call 94; refine (maybe_any n h _).mono ?_; rintro e w' ⟨rfl, rfl⟩; rw [HN.out])
  go_ret2
  exact ⟨rfl, rfl⟩
set_option maxHeartbeats 1000000 in
theorem build_yes (n : Nat) (f : FuncId) (cs : Array Value) (xs : List Int) (hn : Im.okB n = true) (hl : xs.length = n) (hx : Im.Byt xs) (w : World)
    (hf : (f = 84 ∧ ∃ r, cs = #[.pointer (some ⟨r, 0, none⟩)]) ∨ (f = 77 ∧ cs = #[]))
    (hk : ∀ w1 g, Below w.heap.size w w1 → w.heap.size ≤ g → Row w1 g (List.replicate n 0) → Calls Try.prog f (#[.slice (some ⟨g, 0, none⟩) n n] ++ cs) w1 fun e w' => e = .returned (.tuple #[]) ∧ Row w' g xs ∧ w1.grownBy w' (some g)) :
    Calls Try.prog 76 #[.int .i64 n, .func (.func f) #[] cs] w fun e w' => ∃ p g, e = .returned (.tuple #[.pointer (some ⟨p, 0, none⟩), .int .i64 0]) ∧ Img w' p g xs ∧ w.heap.size ≤ p ∧ w.heap.size ≤ g ∧ Below w.heap.size w w' := by
  have HN := Lib.hid hn; clear hn
  have HK := Lib.hid hk; clear hk
  have HL := Lib.hid hl; clear hl
  obtain ⟨i0, hi, hz0, hz1, hz2⟩ := info_parts info5
  have hbd := Im.okB_bd HN.out
  have HI := Lib.hid hi; have HZ0 := Lib.hid hz0; have HZ1 := Lib.hid hz1; have HZ2 := Lib.hid hz2; clear hi hz0 hz1 hz2
  rcases hf with ⟨rfl, r, rfl⟩ | ⟨rfl, rfl⟩
  all_goals
    go_enter Try.func76, Try.ntmps76
    go_wp2_with (first
      | (go_at_call 94; refine (maybe_any n (by omega) _).mono ?_; rintro e w' ⟨rfl, rfl⟩; rw [HN.out])
      | (at_make; refine wpList_make_full _ rfl _ _ 55 rfl w.heap.size 5 i0 (.int .u8 0) 1 Try.underlying55 HI.out HZ0.out HZ1.out .i64 .i64 _ _ n rfl rfl rfl rfl (by rw [HZ2.out]; omega) (by unfold maxLen; omega) (Nat.le_refl _) ?_; intro w1 hown hg1))
    have hrow := (row_of_own (by rw [← made_zeros]; exact hown)).1
    have hsz := hrow.lt
    have hb1 := grown_below hg1
    have hb2 : Below w.heap.size w (w1.alloc (.cells #[.slice (some ⟨w.heap.size, 0, none⟩) n n] 156)) := hb1.alloc hb1.size _
    have hrow2 := hrow.alloc (.cells #[.slice (some ⟨w.heap.size, 0, none⟩) n n] 156)
    have hp2 := heap_alloc_last w1 (.cells #[.slice (some ⟨w.heap.size, 0, none⟩) n n] 156)
    have H := Lib.hid (And.intro hb1 (And.intro hb2 (And.intro hrow2 hp2)))
    clear hown hg1 hrow hb1 hb2 hrow2 hp2
    refine (HK.out _ _ H.out.2.1 (Nat.le_refl _) H.out.2.2.1).mono ?_
    rintro e w3 ⟨rfl, hrow3, hg3⟩
    have H3 := Lib.hid (And.intro hrow3 hg3); clear hrow3 hg3
    go_wp2
    go_ret2
    refine ⟨w1.heap.size, w.heap.size, rfl, ⟨?_, H3.out.1, by rw [HL.out]; exact HN.out, hx⟩, H.out.1.size, Nat.le_refl _, H.out.2.1.grown H3.out.2 H.out.2.1.size (fun k hk => by cases hk; exact Nat.le_refl _)⟩
    rw [H3.out.2.block w1.heap.size (by simp) (by simp; omega), HL.out]
    exact H.out.2.2.2
theorem new1_any (g n : Nat) (w : World) (hr : Row w g (List.replicate n 0)) :
    Calls Try.prog 77 #[.slice (some ⟨g, 0, none⟩) n n] w fun e w' => e = .returned (.tuple #[]) ∧ Row w' g (List.replicate n 0) ∧ w.grownBy w' (some g) := by
  have HR := Lib.hid hr; clear hr
  go_enter Try.func77, Try.ntmps77
  go_wp2
  go_end0
  exact ⟨rfl, HR.out, World.grownBy.refl _ _⟩
theorem byt_zeros (n : Nat) : Im.Byt (List.replicate n 0) := by
  intro x hx
  obtain ⟨_, rfl⟩ := List.mem_replicate.1 hx
  omega
theorem new_yes (n : Nat) (hn : Im.okB n = true) (w : World) :
    Calls Try.prog 38 #[.int .i64 n] w fun e w' => ∃ p g, e = .returned (.tuple #[.pointer (some ⟨p, 0, none⟩), .int .i64 0]) ∧ Img w' p g (List.replicate n 0) ∧ w.heap.size ≤ p ∧ w.heap.size ≤ g ∧ Below w.heap.size w w' := by
  have HN := Lib.hid hn; clear hn
  go_enter Try.func38, Try.ntmps38
  go_wp2_with fail
  refine (build_yes n 77 #[] (List.replicate n 0) HN.out (by simp) (byt_zeros n) _ (.inr ⟨rfl, rfl⟩) (fun w1 g _ _ hr => new1_any g n w1 hr)).mono ?_
  rintro e w' ⟨p, g, rfl, H⟩
  have HH := Lib.hid H; clear H
  go_wp2
  go_ret2
  exact ⟨p, g, rfl, HH.out⟩
set_option maxRecDepth 100000 in
theorem of1_any (g n c r : Nat) (a : Option Addr) (bs xs : List Int) (w : World) (hr : Row w g bs) (hl : bs.length = n) (hx : xs.length = n) (hs : Sl w a xs) (hc : w.cell? ⟨r, 0, none⟩ = some (.slice a n c)) :
    Calls Try.prog 84 #[.slice (some ⟨g, 0, none⟩) n n, .pointer (some ⟨r, 0, none⟩)] w fun e w' => e = .returned (.tuple #[]) ∧ Row w' g xs ∧ w.grownBy w' (some g) := by
  have HR := Lib.hid hr; have HS := Lib.hid hs; have HL := Lib.hid hl; have HX := Lib.hid hx; clear hr hs hl hx
  by_cases h0 : 0 < xs.length
  · obtain ⟨b, o, rfl, hcell⟩ := HS.out h0
    have hsrc : ∀ (j : Nat) (v : Value), (Im.vals xs)[j]? = some v → w.cell? ((⟨b, o, none⟩ : Addr).add j) = some v := fun j v hv => by
      have hj : j < xs.length := by have := (List.getElem?_eq_some_iff.1 hv).1; rwa [len_vals] at this
      have e : (⟨b, o, none⟩ : Addr).add j = ⟨b, o + j, none⟩ := by unfold Addr.add; split <;> simp_all
      rw [e, hcell j hj]
      simp [Im.vals, hj, List.getD_eq_getElem?_getD] at hv ⊢
      exact hv
    have HSRC := Lib.hid hsrc; have H0 := Lib.hid h0; clear hsrc hcell h0
    go_enter Try.func84, Try.ntmps84
    go_wp2_with (refine wpList_copy_own (o := ⟨some 5, _, _, _, _, _⟩) rfl (.tmp 3) (.tmp 4) 55 55 rfl 5 Try.underlying55 (by kernel_rfl) g 0 n n ⟨b, o, none⟩ n c rfl rfl (Im.vals bs).toArray 5 HR.out (Im.vals xs) ?_ HSRC.out ?_ (ints_oneCell .u8 xs) ?_; rotate_right)
    · go_end0
      refine ⟨rfl, ?_, grownBy_setRow (World.grownBy.refl _ _) _⟩
      unfold Row
      rw [setRow_heap _ _ _ _ _ _ HR.out]
      have e1 : List.drop (Im.vals xs).length (Im.vals bs) = [] := List.drop_eq_nil_of_le (by rw [len_vals, len_vals, HL.out, HX.out]; exact Nat.le_refl _)
      simp [e1]
    · rw [len_vals, HX.out]; simp
    · rw [len_vals, HX.out, List.size_toArray, len_vals, HL.out]; omega
  · have hn0 : n = 0 := by have := HX.out; omega
    subst hn0
    have hbs : bs = [] := List.eq_nil_of_length_eq_zero HL.out
    have hxs : xs = [] := List.eq_nil_of_length_eq_zero HX.out
    subst hbs hxs
    go_enter Try.func84, Try.ntmps84
    go_wp2_with (refine wpList_copy_nothing (o := ⟨some 5, _, _, _, _, _⟩) rfl (.tmp 3) (.tmp 4) 55 55 rfl 5 Try.underlying55 (by kernel_rfl) _ _ 0 0 0 c rfl rfl rfl ?_)
    go_end0
    exact ⟨rfl, HR.out, World.grownBy.refl _ _⟩
theorem of_no (n c : Nat) (a : Option Addr) (hn : Im.okB n = false) (hm : n ≤ 9223372036854775807) (w : World) :
    Calls Try.prog 57 #[.slice a n c] w fun e w' => e = .returned (.tuple #[.pointer none, .int .i64 2]) ∧ Below w.heap.size w w' := by
  have HN := Lib.hid hn; clear hn
  go_enter Try.func57, Try.ntmps57
  go_wp2_with (go_at_call 76; refine (build_no n _ (by omega) HN.out _).mono ?_; rintro e w' ⟨rfl, rfl⟩)
  go_ret2
  exact ⟨rfl, (Below.refl _ _).alloc (Nat.le_refl _) _⟩
theorem of_yes (n c : Nat) (a : Option Addr) (xs : List Int) (hn : Im.okB n = true) (hl : xs.length = n) (hx : Im.Byt xs) (w : World) (hs : Sl w a xs) :
    Calls Try.prog 57 #[.slice a n c] w fun e w' => ∃ p g, e = .returned (.tuple #[.pointer (some ⟨p, 0, none⟩), .int .i64 0]) ∧ Img w' p g xs ∧ w.heap.size ≤ p ∧ w.heap.size ≤ g ∧ Below w.heap.size w w' := by
  have HN := Lib.hid hn; have HS := Lib.hid hs; have HL := Lib.hid hl; clear hn hs hl
  go_enter Try.func57, Try.ntmps57
  go_wp2_with fail
  have hb := (Below.refl w.heap.size w).alloc (Nat.le_refl _) (.cells #[.slice a n c] 55)
  have HB := Lib.hid hb; clear hb
  refine (build_yes n 84 #[.pointer (some ⟨w.heap.size, 0, none⟩)] xs HN.out HL.out hx _ (.inl ⟨rfl, _, rfl⟩) (fun w1 g hb1 hg hr => ?_)).mono ?_
  · obtain ⟨hb2, hc, _⟩ := one_new w _ _ hb1
    exact of1_any g n c w.heap.size a (List.replicate n 0) xs w1 hr (by simp) HL.out (HS.out.old hb2) hc
  rintro e w' ⟨p, g, rfl, hi, hp, hg, hb⟩
  have HI := Lib.hid hi; have HP := Lib.hid hp; have HG := Lib.hid hg; have HB2 := Lib.hid hb; clear hi hp hg hb
  go_wp2
  go_ret2
  exact ⟨p, g, rfl, HI.out, Nat.le_trans HB.out.size HP.out, Nat.le_trans HB.out.size HG.out, HB.out.trans (HB2.out.mono HB.out.size)⟩
end Go.Proofs.Ytfajkgbpeapcbaa
end
