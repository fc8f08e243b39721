/-
  HartBranchesM: HlM, HlBits, HartBranches in one text.
-/
import Derived.Test.YtaokpphlfhnleaaGreatDoorHlOpen
import Derived.Test.YtaokpphlfhnleaaGreatDoorHtDoM
import Derived.ChangeKeysEq
import Derived.Laws.StructEq
import Derived.Deep.Slices
import Derived.Test.YtaokpphlfhnleaaGreatDoorHrDoneM

section

section
namespace Go.Proofs.YtaokpphlfhnleaaGreatDoor
open Go.Joins Go.ChangeShapes Go.WideShapes Go.ChangeAt Go.RowKit Go.Deep Ht
set_option linter.unusedVariables false
theorem cellsU32 : Tryz.prog.cellsOf 22 = 1 := by kernel_rfl
theorem cellsInt : Tryz.prog.cellsOf 3 = 1 := by kernel_rfl
theorem cellsBool : Tryz.prog.cellsOf 4 = 1 := by kernel_rfl
theorem cellsCause : Tryz.prog.cellsOf 24 = 1 := by kernel_rfl
theorem cellsRegs : Tryz.prog.cellsOf 23 = 32 := by kernel_rfl
theorem cellsHart : Tryz.prog.cellsOf 26 = 35 := by kernel_rfl
theorem cellsAns : Tryz.prog.cellsOf 40 = 2 := by kernel_rfl
theorem cellsTold : Tryz.prog.cellsOf 42 = 4 := by kernel_rfl
/-- one cell, out of a run of cells -/
theorem cell_in {H : Type} {enc : TypeId × Value → H} {w : World} {base : Nat} {sp : Nat → Bool} {held : Bool} {fuel : Nat} {t : TypeId} {k : IntKind} {cs : List Value} {off z : Nat} {y : DataW H × List MemPlace}
    (ht : Tryz.prog.underlying t = some (.int k)) (hz : z = 1) (h : DataW.trod enc Tryz.prog w base sp held fuel t ((cs.drop off).take z) = some y) : ∃ n, cs[off]? = some (.int k n) ∧ (Lit.int k n).wf = true := by
  subst hz
  obtain ⟨n, hn, _, hw⟩ := DataW.trod_int ht h
  refine ⟨n, ?_, hw⟩
  have := congrArg (fun l : List Value => l[0]?) hn
  simpa [List.getElem?_take, List.getElem?_drop] using this
theorem bool_in {H : Type} {enc : TypeId × Value → H} {w : World} {base : Nat} {sp : Nat → Bool} {held : Bool} {fuel : Nat} {t : TypeId} {cs : List Value} {off z : Nat} {y : DataW H × List MemPlace}
    (ht : Tryz.prog.underlying t = some .bool) (hz : z = 1) (h : DataW.trod enc Tryz.prog w base sp held fuel t ((cs.drop off).take z) = some y) : ∃ b, cs[off]? = some (.bool b) := by
  subst hz
  have e : ∃ b, (cs.drop off).take 1 = [.bool b] := by
    cases fuel with
    | zero => simp [DataW.trod] at h
    | succ fuel =>
      unfold DataW.trod at h
      rw [ht] at h
      split at h <;> simp_all
  obtain ⟨b, e⟩ := e
  refine ⟨b, ?_⟩
  have := congrArg (fun l : List Value => l[0]?) e
  simpa [List.getElem?_take, List.getElem?_drop] using this
section
variable {H : Type} {enc : TypeId × Value → H} {P : Program} {w : World} {base : Nat} {spare : Nat → Bool} {held : Bool}
theorem fields4 {t : TypeId} {f0 f1 f2 f3 : Field} {fuel : Nat} {cs : List Value} {x : DataW H × List MemPlace} (ht : P.underlying t = some (.struct #[f0, f1, f2, f3])) (h : DataW.trod enc P w base spare held fuel t cs = some x) :
    ∃ y0 y1 y2 y3 n, cs.length = P.cellsOf t ∧ DataW.trod enc P w base spare held n f0.type ((cs.drop f0.offset).take (P.cellsOf f0.type)) = some y0 ∧ DataW.trod enc P w base spare held n f1.type ((cs.drop f1.offset).take (P.cellsOf f1.type)) = some y1 ∧
      DataW.trod enc P w base spare held n f2.type ((cs.drop f2.offset).take (P.cellsOf f2.type)) = some y2 ∧ DataW.trod enc P w base spare held n f3.type ((cs.drop f3.offset).take (P.cellsOf f3.type)) = some y3 := by
  obtain ⟨xs, n, _, rfl, hl, hlen, hf⟩ := DataW.trod_struct ht h
  match xs, hlen with
  | [y0, y1, y2, y3], _ => exact ⟨y0, y1, y2, y3, n, hl, by simpa using hf 0 f0 rfl, by simpa using hf 1 f1 rfl, by simpa using hf 2 f2 rfl, by simpa using hf 3 f3 rfl⟩
theorem fields3 {t : TypeId} {f0 f1 f2 : Field} {fuel : Nat} {cs : List Value} {x : DataW H × List MemPlace} (ht : P.underlying t = some (.struct #[f0, f1, f2])) (h : DataW.trod enc P w base spare held fuel t cs = some x) :
    ∃ y0 y1 y2 n, cs.length = P.cellsOf t ∧ DataW.trod enc P w base spare held n f0.type ((cs.drop f0.offset).take (P.cellsOf f0.type)) = some y0 ∧ DataW.trod enc P w base spare held n f1.type ((cs.drop f1.offset).take (P.cellsOf f1.type)) = some y1 ∧
      DataW.trod enc P w base spare held n f2.type ((cs.drop f2.offset).take (P.cellsOf f2.type)) = some y2 := by
  obtain ⟨xs, n, _, rfl, hl, hlen, hf⟩ := DataW.trod_struct ht h
  match xs, hlen with
  | [y0, y1, y2], _ => exact ⟨y0, y1, y2, n, hl, by simpa using hf 0 f0 rfl, by simpa using hf 1 f1 rfl, by simpa using hf 2 f2 rfl⟩
theorem fields2 {t : TypeId} {f0 f1 : Field} {fuel : Nat} {cs : List Value} {x : DataW H × List MemPlace} (ht : P.underlying t = some (.struct #[f0, f1])) (h : DataW.trod enc P w base spare held fuel t cs = some x) :
    ∃ y0 y1 n, cs.length = P.cellsOf t ∧ DataW.trod enc P w base spare held n f0.type ((cs.drop f0.offset).take (P.cellsOf f0.type)) = some y0 ∧ DataW.trod enc P w base spare held n f1.type ((cs.drop f1.offset).take (P.cellsOf f1.type)) = some y1 := by
  obtain ⟨xs, n, _, rfl, hl, hlen, hf⟩ := DataW.trod_struct ht h
  match xs, hlen with
  | [y0, y1], _ => exact ⟨y0, y1, n, hl, by simpa using hf 0 f0 rfl, by simpa using hf 1 f1 rfl⟩
end
theorem some_of {α : Type} {l : List α} {i n : Nat} (h : l.length = n) (hi : i < n) : ∃ z, l[i]? = some z := ⟨l[i]'(by omega), List.getElem?_eq_getElem (by omega)⟩
namespace Ht
theorem hcR (h : H) (k : Nat) (hk : k ≤ 31) : (hcells h)[2 + k]? = some (.int .u32 (h.R k)) := by
  rcases (show k = 0 ∨ k = 1 ∨ k = 2 ∨ k = 3 ∨ k = 4 ∨ k = 5 ∨ k = 6 ∨ k = 7 ∨ k = 8 ∨ k = 9 ∨ k = 10 ∨ k = 11 ∨ k = 12 ∨ k = 13 ∨ k = 14 ∨ k = 15 ∨ k = 16 ∨ k = 17 ∨ k = 18 ∨ k = 19 ∨ k = 20 ∨ k = 21 ∨ k = 22 ∨ k = 23 ∨ k = 24 ∨ k = 25 ∨ k = 26 ∨ k = 27 ∨ k = 28 ∨ k = 29 ∨ k = 30 ∨ k = 31 by omega) with
    rfl | rfl | rfl | rfl | rfl | rfl | rfl | rfl | rfl | rfl | rfl | rfl | rfl | rfl | rfl | rfl | rfl | rfl | rfl | rfl | rfl | rfl | rfl | rfl | rfl | rfl | rfl | rfl | rfl | rfl | rfl | rfl <;> rfl
end Ht
set_option maxRecDepth 100000 in
/-- a hart, out of its cells -/
theorem hart_in {H : Type} {enc : TypeId × Value → H} {W : World} {base : Nat} {sp : Nat → Bool} {held : Bool} {fuel : Nat} {cs : List Value} {y : DataW H × List MemPlace}
    (h : DataW.trod enc Tryz.prog W base sp held fuel 26 cs = some y) : ∃ h : Ht.H, cs = Ht.hcells h ∧ Ht.HB h := by
  obtain ⟨y0, y1, y2, y3, n, hl, f0, f1, f2, f3⟩ := fields4 Tryz.underlying26 h
  rw [cellsHart] at hl
  obtain ⟨id, c0, w0⟩ := cell_in Tryz.underlying3 cellsInt f0
  obtain ⟨pc, c1, w1⟩ := cell_in Tryz.underlying22 cellsU32 f1
  obtain ⟨cause, c3, w3⟩ := cell_in Tryz.underlying24 cellsCause f3
  obtain ⟨xs2, m, _, _, hl2, hxl2, hx2⟩ := DataW.trod_array Tryz.underlying23 f2
  rw [cellsU32] at hx2
  have each : ∀ i, i < 32 → ∃ n : Int, cs[2 + i]? = some (.int .u32 n) ∧ Ar.Wd n := fun i hi => by
    have h1 := hx2 i hi
    obtain ⟨z, hz⟩ := some_of hxl2 hi
    rw [hz, Nat.mul_one] at h1
    obtain ⟨n, hn, hw⟩ := cell_in (off := i) Tryz.underlying22 rfl h1
    refine ⟨n, ?_, wf_u32 hw⟩
    have hn' : ((cs.drop 2).take 32)[i]? = some (.int .u32 n) := by rw [← cellsRegs]; exact hn
    rw [List.getElem?_take_of_lt (by omega), List.getElem?_drop] at hn'
    exact hn'
  refine ⟨⟨id, pc, fun k => if k < 32 then intOf (cs[2 + k]?.getD undef) else 0, cause⟩, ?_, wf_i64 w0, wf_u32 w1, fun k => ?_, wf_i64 w3⟩
  · have reg : ∀ i, i < 32 → cs[2 + i]? = some (.int .u32 (intOf (cs[2 + i]?.getD undef))) := fun i hi => by
      obtain ⟨n, hn, _⟩ := each i hi
      rw [hn]; rfl
    apply List.ext_getElem?
    intro j
    by_cases hj : j < 35
    · rcases (show j = 0 ∨ j = 1 ∨ j = 34 ∨ (2 ≤ j ∧ j < 34) by omega) with rfl | rfl | rfl | ⟨h2, h3⟩
      · exact c0
      · exact c1
      · exact c3
      · obtain ⟨k, rfl⟩ : ∃ k, j = 2 + k := ⟨j - 2, by omega⟩
        rw [hcR _ k (by omega)]
        show _ = some (Value.int .u32 (if k < 32 then intOf (cs[2 + k]?.getD undef) else 0))
        rw [if_pos (by omega)]
        exact reg k (by omega)
    · rw [List.getElem?_eq_none (by omega), List.getElem?_eq_none (show (hcells _).length ≤ j by show 35 ≤ j; omega)]
  · show Ar.Wd (if k < 32 then intOf (cs[2 + k]?.getD undef) else 0)
    split
    · obtain ⟨n, hn, hw⟩ := each k (by assumption)
      rw [hn]; exact hw
    · unfold Ar.Wd; omega
set_option maxRecDepth 100000 in
theorem open_hart {H : Type} {enc : TypeId × Value → H} {W : World} {r : Reach} {b0 base : Nat} {sp : Nat → Bool} {held : Bool} {v : Value} {d0 : DataW H} {p : List MemPlace} (hv : Value.okWide Tryz.prog W r b0 26 v)
    (h0 : DataW.Trod enc Tryz.prog W base sp held 26 v d0 p) : ∃ h : Ht.H, v = Ht.hartV h ∧ Ht.HB h := by
  obtain ⟨cs, rfl, hsz⟩ := okWide_struct Tryz.underlying26 hv
  obtain ⟨fuel, hf⟩ := h0
  obtain ⟨h, he, hb⟩ := hart_in hf
  refine ⟨h, ?_, hb⟩
  unfold Ht.hartV
  rw [← he]; rfl
set_option maxRecDepth 100000 in
theorem open_ans {H : Type} {enc : TypeId × Value → H} {W : World} {r : Reach} {b0 base : Nat} {sp : Nat → Bool} {held : Bool} {v : Value} {d0 : DataW H} {p : List MemPlace} (hv : Value.okWide Tryz.prog W r b0 40 v)
    (h0 : DataW.Trod enc Tryz.prog W base sp held 40 v d0 p) : ∃ (n : Int) (b : Bool), v = Ht.ansV n b ∧ Ar.Wd n := by
  obtain ⟨cs, rfl, hsz⟩ := okWide_struct Tryz.underlying40 hv
  rw [cellsAns] at hsz
  obtain ⟨fuel, hf⟩ := h0
  obtain ⟨y0, y1, n, hl, f0, f1⟩ := fields2 Tryz.underlying40 hf
  obtain ⟨n, c0, w0⟩ := cell_in Tryz.underlying22 cellsU32 f0
  obtain ⟨b, c1⟩ := bool_in Tryz.underlying4 cellsBool f1
  refine ⟨n, b, ?_, wf_u32 w0⟩
  obtain ⟨cs⟩ := cs
  match cs, hsz with
  | [x0, x1], _ =>
    simp [Value.cells] at c0 c1
    subst c0 c1
    rfl
/-- a word, a size, an answer -/
def Ht.toldV (x size tv : Int) (tok : Bool) : Value := .agg #[.int .u32 x, .int .i64 size, .int .u32 tv, .bool tok]
structure Ht.ToldOk (x size tv : Int) : Prop where
  x : Ar.Wd x
  size : -9223372036854775808 ≤ size ∧ size ≤ 9223372036854775807
  tv : Ar.Wd tv
set_option maxRecDepth 100000 in
theorem told_in {H : Type} {enc : TypeId × Value → H} {W : World} {base : Nat} {sp : Nat → Bool} {held : Bool} {fuel : Nat} {cs : List Value} {y : DataW H × List MemPlace}
    (h : DataW.trod enc Tryz.prog W base sp held fuel 42 cs = some y) : ∃ (x size tv : Int) (tok : Bool), cs = [.int .u32 x, .int .i64 size, .int .u32 tv, .bool tok] ∧ Ht.ToldOk x size tv := by
  obtain ⟨y0, y1, y2, n, hl, f0, f1, f2⟩ := fields3 Tryz.underlying42 h
  rw [cellsTold] at hl
  obtain ⟨x, c0, w0⟩ := cell_in Tryz.underlying22 cellsU32 f0
  obtain ⟨size, c1, w1⟩ := cell_in Tryz.underlying3 cellsInt f1
  obtain ⟨z0, z1, m, _, g0, g1⟩ := fields2 Tryz.underlying40 f2
  obtain ⟨tv, c2, w2⟩ := cell_in Tryz.underlying22 cellsU32 g0
  obtain ⟨tok, c3⟩ := bool_in Tryz.underlying4 cellsBool g1
  refine ⟨x, size, tv, tok, ?_, wf_u32 w0, wf_i64 w1, wf_u32 w2⟩
  match cs, hl with
  | [x0, x1, x2, x3], _ =>
    simp [cellsAns] at c0 c1 c2 c3
    subst c0 c1 c2 c3
    rfl
set_option maxRecDepth 100000 in
theorem open_told {H : Type} {enc : TypeId × Value → H} {W : World} {r : Reach} {b0 base : Nat} {sp : Nat → Bool} {held : Bool} {v : Value} {d0 : DataW H} {p : List MemPlace} (hv : Value.okWide Tryz.prog W r b0 42 v)
    (h0 : DataW.Trod enc Tryz.prog W base sp held 42 v d0 p) : ∃ (x size tv : Int) (tok : Bool), v = Ht.toldV x size tv tok ∧ Ht.ToldOk x size tv := by
  obtain ⟨cs, rfl, hsz⟩ := okWide_struct Tryz.underlying42 hv
  obtain ⟨fuel, hf⟩ := h0
  obtain ⟨x, size, tv, tok, he, hb⟩ := told_in hf
  refine ⟨x, size, tv, tok, ?_, hb⟩
  unfold Ht.toldV
  obtain ⟨cs⟩ := cs
  have he' : cs = [.int .u32 x, .int .i64 size, .int .u32 tv, .bool tok] := he
  rw [he']
/-! Whether two are the same. -/
section
variable {P : Program} (w : World) (d : Nat)
theorem eq_struct4 {t : TypeId} {f0 f1 f2 f3 : Field} (hs : P.underlying t = some (.struct #[f0, f1, f2, f3])) (hp : P.stoodInHeld t = false) (xs ys : Array Value) (a0 a1 a2 a3 b0 b1 b2 b3 : Value) (r0 r1 r2 r3 : Bool)
    (hn : f0.name ≠ "_" ∧ f1.name ≠ "_" ∧ f2.name ≠ "_" ∧ f3.name ≠ "_")
    (x0 : (part f0.type xs f0.offset).run P w = .ok a0 w) (x1 : (part f1.type xs f1.offset).run P w = .ok a1 w) (x2 : (part f2.type xs f2.offset).run P w = .ok a2 w) (x3 : (part f3.type xs f3.offset).run P w = .ok a3 w)
    (y0 : (part f0.type ys f0.offset).run P w = .ok b0 w) (y1 : (part f1.type ys f1.offset).run P w = .ok b1 w) (y2 : (part f2.type ys f2.offset).run P w = .ok b2 w) (y3 : (part f3.type ys f3.offset).run P w = .ok b3 w)
    (e0 : (Op.equalIn d f0.type a0 b0).run P w = .ok r0 w) (e1 : (Op.equalIn d f1.type a1 b1).run P w = .ok r1 w) (e2 : (Op.equalIn d f2.type a2 b2).run P w = .ok r2 w) (e3 : (Op.equalIn d f3.type a3 b3).run P w = .ok r3 w) :
    (Op.equalIn (d + 1) t (.agg xs) (.agg ys)).run P w = .ok (r0 && (r1 && (r2 && r3))) w := by
  have hf : P.fieldsOf t = #[f0, f1, f2, f3] := by simp [Program.fieldsOf, hs]
  rw [run_equalIn_struct w d t xs ys (by rw [hf]; exact hs) hp, hf]
  simp only [Op.eqFields, hn.1, hn.2.1, hn.2.2.1, hn.2.2.2, ne_eq, not_false_eq_true, if_true, Sem.run_bind, x0, y0, e0, Result.andThen_ok]
  cases r0 <;> cases r1 <;> cases r2 <;> cases r3 <;> simp [e1, e2, e3, x1, x2, x3, y1, y2, y3]
end
namespace Ht
def regs (h : H) : List Value := (List.range 32).map fun i => .int .u32 (h.R i)
def sameR (h k : H) : Bool := (List.range 32).all fun i => h.R i == k.R i
/-- are two harts the same? -/
def same (h k : H) : Bool := (h.id == k.id) && ((h.pc == k.pc) && (sameR h k && (h.cause == k.cause)))
theorem same_self (h : H) : same h h = true := by unfold same sameR; simp
end Ht
theorem part_reg (w : World) (h : H) (i : Nat) (hi : i < 32) : (part 22 (regs h).toArray (i * 1)).run Tryz.prog w = .ok (.int .u32 (h.R i)) w := by
  have ha : (isAgg 22).run Tryz.prog w = .ok false w := by kernel_rfl
  have e : (regs h).toArray[i * 1]? = some (.int .u32 (h.R i)) := by simp [regs, hi]
  unfold part
  simp only [Sem.run_bind, ha, Result.andThen_ok, e]
  rfl
theorem eq_items (w : World) (h k : H) : ∀ is : List Nat, (∀ i ∈ is, i < 32) → (Op.eqItems 9998 22 1 (regs h).toArray (regs k).toArray is).run Tryz.prog w = .ok (is.all fun i => h.R i == k.R i) w
  | [], _ => by simp [Op.eqItems]
  | i :: is, hi => by
    have p1 := part_reg w h i (hi i List.mem_cons_self)
    have p2 := part_reg w k i (hi i List.mem_cons_self)
    have he := run_equalIn_int (P := Tryz.prog) w 9997 22 .u32 .u32 (h.R i) (k.R i) Tryz.underlying22
    have ih := eq_items w h k is (fun j hj => hi j (List.mem_cons_of_mem _ hj))
    simp only [Op.eqItems, Sem.run_bind, p1, p2, he, Result.andThen_ok, List.all_cons]
    cases h.R i == k.R i
    · simp
    · simpa using ih
theorem eq_regs (w : World) (h k : H) : (Op.equalIn 9999 23 (.agg (regs h).toArray) (.agg (regs k).toArray)).run Tryz.prog w = .ok (sameR h k) w := by
  have hs : (Tryz.prog.info? 22).isSome = true := by kernel_rfl
  obtain ⟨i, hi⟩ := Option.isSome_iff_exists.1 hs
  rw [show (9999 : Nat) = 9998 + 1 from rfl, run_equalIn_array w 9998 _ _ Tryz.underlying23 hi, cellsU32]
  exact eq_items w h k (List.range 32) (fun j hj => List.mem_range.1 hj)
set_option maxRecDepth 100000 in
theorem eq_hart (w : World) (h k : H) : (Op.equalIn 10000 26 (.agg (hcells h).toArray) (.agg (hcells k).toArray)).run Tryz.prog w = .ok (same h k) w :=
  eq_struct4 w 9999 Tryz.underlying26 (by kernel_rfl) _ _ (.int .i64 h.id) (.int .u32 h.pc) (.agg (regs h).toArray) (.int .i64 h.cause) (.int .i64 k.id) (.int .u32 k.pc) (.agg (regs k).toArray) (.int .i64 k.cause) _ _ _ _
    (by decide) (by kernel_rfl) (by kernel_rfl) (by kernel_rfl) (by kernel_rfl) (by kernel_rfl) (by kernel_rfl) (by kernel_rfl) (by kernel_rfl)
    (run_equalIn_int w 9998 _ .i64 .i64 _ _ Tryz.underlying3) (run_equalIn_int w 9998 _ .u32 .u32 _ _ Tryz.underlying22) (eq_regs w h k) (run_equalIn_int w 9998 _ .i64 .i64 _ _ Tryz.underlying24)
theorem eq_acc_self (w : World) (a : A) : (Op.equalIn 10000 30 (.agg (acells a).toArray) (.agg (acells a).toArray)).run Tryz.prog w = .ok true w := by
  unfold acells
  simp [go_sem]
theorem eql_hart (w : World) (h k : H) : (binOp .eql 26 (.agg (hcells h).toArray) (.agg (hcells k).toArray)).run Tryz.prog w = .ok (.bool (same h k)) w := by
  rw [run_eql_struct, eq_hart w h k]; rfl
theorem eql_acc_self (w : World) (a : A) : (binOp .eql 30 (.agg (acells a).toArray) (.agg (acells a).toArray)).run Tryz.prog w = .ok (.bool true) w := by
  rw [run_eql_struct, eq_acc_self w a]; rfl
theorem neq_acc_self (w : World) (a : A) : (binOp .neq 30 (.agg (acells a).toArray) (.agg (acells a).toArray)).run Tryz.prog w = .ok (.bool false) w := by
  rw [run_neq_struct, eq_acc_self w a]; rfl
end Go.Proofs.YtaokpphlfhnleaaGreatDoor
end

section
namespace Go.Proofs.YtaokpphlfhnleaaGreatDoor
open Go.Joins Go.ChangeShapes Go.WideShapes Go.ChangeAt Go.RowKit Go.Deep
set_option linter.unusedVariables false
structure Ht.TV where
  x : Int
  size : Int
  tv : Int
  tok : Bool
def Ht.tcells (v : TV) : List Value := [.int .u32 v.x, .int .i64 v.size, .int .u32 v.tv, .bool v.tok]
def ToldsIn (w : World) (a : Option Addr) (xs : List Ht.TV) : Prop :=
  (0 < xs.length → ∃ g o, a = some ⟨g, o, none⟩ ∧ ∀ j v, xs[j]? = some v → ∀ i c, (Ht.tcells v)[i]? = some c → w.cell? ⟨g, o + j * 4 + i, none⟩ = some c) ∧ ∀ v ∈ xs, Ht.ToldOk v.x v.size v.tv
theorem open_tolds {H : Type} {enc : TypeId × Value → H} {W : World} {a0 : Option Addr} {len cap : Nat} {d0 : DataW H} {p : List MemPlace}
    (h0 : DataW.Trod enc Tryz.prog W 0 (fun _ => true) true 44 (.slice a0 len cap) d0 p) :
    ∃ xs : List Ht.TV, xs.length = len ∧ len ≤ 9223372036854775807 ∧ ToldsIn W a0 xs := by
  obtain ⟨fuel, hf⟩ := h0
  rcases open_slice Tryz.underlying44 hf with ⟨hcs, _⟩ | ⟨a, len', cap', m, n, D, Pl, hcs, hb, hl, hm, hmm, hx, hi⟩
  · simp [Value.cells] at hcs
    obtain ⟨rfl, rfl, rfl⟩ := hcs
    exact ⟨[], rfl, by omega, fun h => absurd h (by simp), fun x hx => by cases hx⟩
  · simp [Value.cells] at hcs
    obtain ⟨rfl, rfl, rfl⟩ := hcs
    simp only [if_true] at hmm
    subst hmm
    unfold maxLen at hm
    rw [cellsTold] at hi
    have each : ∀ i, i < len → ∃ v : Ht.TV, (∀ k c, (Ht.tcells v)[k]? = some c → W.cell? ((a.add (i * 4)).add k) = some c) ∧ Ht.ToldOk v.x v.size v.tv := fun i hil => by
      obtain ⟨cs', hc, ht⟩ := hi i (by omega)
      obtain ⟨x, size, tv, tok, rfl, hok⟩ := told_in ht
      obtain ⟨_, hlen, hat⟩ := World.cells?_some hc
      refine ⟨⟨x, size, tv, tok⟩, fun k c hk => ?_, hok⟩
      have hk4 : k < 4 := by
        have := (List.getElem?_eq_some_iff.1 hk).1
        simpa [Ht.tcells] using this
      rw [hat k hk4]
      exact hk
    let f : Nat → Ht.TV := fun i => if h : i < len then (each i h).choose else ⟨0, 0, 0, false⟩
    have hfi : ∀ i (h : i < len), f i = (each i h).choose := fun i h => dif_pos h
    refine ⟨(List.range len).map f, by simp, by omega, fun hp => ?_, fun v hv => ?_⟩
    · have hp' : 0 < len := by simpa using hp
      obtain ⟨b, off, spot⟩ := a
      have h00 := (each 0 hp').choose_spec.1 0 _ rfl
      have hspot : spot = none := by simpa [Addr.add] using World.cell?_spot h00
      subst hspot
      refine ⟨b, off, rfl, fun j v hv k c hk => ?_⟩
      have hjl : j < len := by have := (List.getElem?_eq_some_iff.1 hv).1; simpa using this
      have hv' : v = f j := by rw [List.getElem?_map, List.getElem?_range hjl] at hv; exact (Option.some.inj hv).symm
      rw [hv', hfi j hjl] at hk
      have := (each j hjl).choose_spec.1 k c hk
      rw [Go.WideShapes.add_plain, Go.WideShapes.add_plain] at this
      exact this
    · obtain ⟨i, hi', rfl⟩ := List.mem_map.1 hv
      rw [hfi i (List.mem_range.1 hi')]
      exact (each i (List.mem_range.1 hi')).choose_spec.2
/-- a struct, loaded cell by cell -/
theorem run_loadVar_at {P : Program} (w : World) (g off : Nat) (ty : TypeId) (cs : List Value) (d : TypeDesc) (hc : ∀ i v, cs[i]? = some v → w.cell? ⟨g, off + i, none⟩ = some v)
    (hu : P.underlying ty = some d) (hd : (match d with | .struct _ | .array _ _ => true | _ => false) = true) (hi : (P.info? ty).map (·.size) = some cs.length) :
    (loadVar ty ⟨g, off, none⟩).run P w = .ok (.agg cs.toArray) w := by
  have hl : (loadCells ⟨g, off, none⟩ cs.length).run P w = .ok cs.toArray w :=
    run_loadCells_list (P := P) w ⟨g, off, none⟩ cs (fun j v hv => by
      have hadd : (⟨g, off, none⟩ : Addr).add j = ⟨g, off + j, none⟩ := by unfold Addr.add; split <;> simp_all
      rw [hadd]; exact hc j v hv)
  cases hq : P.info? ty with
  | none => simp [hq] at hi
  | some i =>
    have hs : i.size = cs.length := by simpa [hq] using hi
    have hagg : (isAgg ty).run P w = .ok true w := by
      unfold isAgg
      rw [Sem.run_bind, run_underlying hu w]
      cases d <;> simp_all
    simp [loadVar, Sem.run_bind, hagg, sizeOf, typeInfo, hq, hs, hl]
theorem wpList_load_at {P : Program} {ops : Array Oper} {rest : List Oper} {o : Oper} {a : Act} {w : World} {Q : Exit → Act → World → Prop} (hgd : o.guard = none) (ty : TypeId) (x : Operand) (ho : o.op = .load ty x)
    (g off : Nat) (hx : a.eval x = .pointer (some ⟨g, off, none⟩)) (cs : List Value) (d : TypeDesc) (hc : ∀ i v, cs[i]? = some v → w.cell? ⟨g, off + i, none⟩ = some v)
    (hu : P.underlying ty = some d) (hd : (match d with | .struct _ | .array _ _ => true | _ => false) = true) (hi : (P.info? ty).map (·.size) = some cs.length)
    (h : wpList P ops Q rest (a.put o.dst (.agg cs.toArray)) w) : wpList P ops Q (o :: rest) a w :=
  wpList_plain hgd fun _ hK => by
    unfold Oper.wp execOp
    simp only [ho, hx, Instr.loadAt, Instr.sureAddr, Sem.run_bind, Sem.run_pure, Result.andThen_ok, run_loadVar_at w g off ty cs d hc hu hd hi]
    exact hK _ _ h
end Go.Proofs.YtaokpphlfhnleaaGreatDoor
end

section
namespace Go.Proofs.YtaokpphlfhnleaaGreatDoor
open Go.RowKit Ht
set_option linter.unusedVariables false
theorem run_eql_op {P : Program} {a : Act} {o : Oper} (t : TypeId) (x y : Operand) (ho : o.op = .binOp .eql t x y t) (xs ys : Array Value) (hx : a.eval x = .agg xs) (hy : a.eval y = .agg ys) (b : Bool) (hm : P.eqGuardType P.depth t = false)
    (hb : ∀ w, (binOp .eql t (.agg xs) (.agg ys)).run P w = .ok (.bool b) w) (w : World) : (execOp a.eval o).run P w = .ok (.value (.bool b)) w := by
  unfold execOp
  rw [ho]
  simp only [hx, hy]
  simp only [Sem.run_bind, run_eqGuard_agg w .eql t x y xs ys hm, Result.andThen_ok, hb, Sem.run_pure]
theorem wpList_eql {P : Program} {ops : Array Oper} {rest : List Oper} {o : Oper} {a : Act} {w : World} {Q : Exit → Act → World → Prop} (hgd : o.guard = none) (t : TypeId) (x y : Operand) (ho : o.op = .binOp .eql t x y t) (xs ys : Array Value)
    (hx : a.eval x = .agg xs) (hy : a.eval y = .agg ys) (b : Bool) (hm : P.eqGuardType P.depth t = false) (hb : ∀ w, (binOp .eql t (.agg xs) (.agg ys)).run P w = .ok (.bool b) w)
    (h : wpList P ops Q rest (a.put o.dst (.bool b)) w) : wpList P ops Q (o :: rest) a w :=
  wpList_plain hgd fun _ hK => by
    unfold Oper.wp
    rw [run_eql_op t x y ho xs ys hx hy b hm hb w]
    exact hK _ _ h

set_option maxRecDepth 100000 in
set_option maxHeartbeats 4000000 in
theorem ldone_any (h : H) (hb : HB h) (x size tv : Int) (tok : Bool) (ht : ToldOk x size tv) (w : World) :
    Calls Tryz.prog 16 #[hartV h, toldV x size tv tok] w fun e w' => e = .returned (.bool true) ∧ Below w.heap.size w w' := by
  obtain ⟨s, err, o⟩ := out_is h x size tv tok
  have HO := Lib.hid o; have HBB := Lib.hid hb; have HT := Lib.hid ht
  cases g : goes h
  · obtain ⟨rfl, rfl⟩ : s = S0 ∧ err = 2 := by
      cases o with
      | arg _ => exact ⟨rfl, rfl⟩
      | ill g' _ => rw [g] at g'; cases g'
      | halt _ g' _ _ => rw [g] at g'; cases g'
      | ok _ g' _ _ => rw [g] at g'; cases g'
    have HG := Lib.hid g
    clear o hb ht g
    unfold hartV toldV
    go_enter Tryz.func16, Tryz.ntmps16
    have k0 := (heap_b2 w (.cells (hcells h).toArray 26) (.cells #[.int .u32 x, .int .i64 size, .int .u32 tv, .bool tok] 42)).1
    have k1 := (heap_b2 w (.cells (hcells h).toArray 26) (.cells #[.int .u32 x, .int .i64 size, .int .u32 tv, .bool tok] 42)).2
    have K0 := Lib.hid k0; have K1 := Lib.hid k1; clear k0 k1
    go_wp2_with (first
      | (refine wpList_load_row rfl 26 (.tmp 2) rfl w.heap.size rfl 26 (hcells h).toArray (0, 0) _ K0.out Tryz.underlying26 rfl (by kernel_rfl) ?_)
      | (refine wpList_load_part rfl 40 (.tmp 13) rfl (w.heap.size + 1) 2 rfl 42 #[.int .u32 x, .int .i64 size, .int .u32 tv, .bool tok] [.int .u32 tv, .bool tok] (0, 0) _ K1.out rfl Tryz.underlying40 rfl (by kernel_rfl) ?_))
    refine (done_any HO.out HBB.out HT.out.x HT.out.size HT.out.tv _).mono ?_
    rintro e w1 ⟨rfl, hb⟩
    have r0 : w1.heap[w.heap.size]? = some (.cells (hcells h).toArray 26) := (hb.block w.heap.size (by simp only [World.size_alloc]; omega)).trans K0.out
    have b1 : Below w.heap.size w w1 := (((Below.refl w.heap.size w).alloc (Nat.le_refl _) _).alloc (by simp only [World.size_alloc]; omega) _).trans (hb.mono (by simp only [World.size_alloc]; omega))
    have z1 : w.heap.size + 2 ≤ w1.heap.size := by have := hb.size; simp only [World.size_alloc] at this; omega
    clear hb
    obtain ⟨W2, hW2⟩ : ∃ W2, W2 = (w1.alloc (.cells hzero 26)).setRow w1.heap.size (hcells S0.h).toArray := ⟨_, rfl⟩
    have q0 : W2.heap[w.heap.size]? = some (.cells (hcells h).toArray 26) := by rw [hW2]; exact (setRow_other _ _ _ _ (by omega)).trans ((Below.heap_alloc _ _ _ (by omega)).trans r0)
    have q1 : W2.heap[w1.heap.size]? = some (.cells (hcells S0.h).toArray 26) := by rw [hW2]; exact setRow_heap _ _ _ _ _ _ (heap_alloc_new _ _)
    have b2 : Below w.heap.size w W2 := by rw [hW2]; exact below_setRow (b1.alloc b1.size _) b1.size
    have z2 : w1.heap.size + 1 ≤ W2.heap.size := by rw [hW2]; simp
    have Q0 := Lib.hid q0; have Q1 := Lib.hid q1; have B2 := Lib.hid b2; have HW2 := Lib.hid hW2; have Z2 := Lib.hid z2; have Z1 := Lib.hid z1
    clear r0 b1 z1 q0 q1 b2 z2 hW2
    unfold hartV
    go_wp2_with (first
      | (refine wpList_store_row rfl 26 (.tmp 5) (.tmp 16) rfl w1.heap.size (hcells S0.h).toArray rfl rfl 26 hzero (heap_alloc_new _ _) (by kernel_rfl) (by kernel_rfl) (by kernel_rfl) ?_; rw [← HW2.out])
      | (refine wpList_load_row rfl 26 (.tmp 2) rfl w.heap.size rfl 26 (hcells h).toArray (0, 0) _ Q0.out Tryz.underlying26 rfl (by kernel_rfl) ?_))
    refine (lgoes_any h _).mono ?_
    rintro e w3 ⟨rfl, hb⟩
    rw [HG.out]
    have R1 := Lib.hid ((hb.block w1.heap.size (by have := Z2.out; omega)).trans Q1.out)
    have B3 := Lib.hid (B2.out.trans (hb.mono B2.out.size))
    clear hb
    go_wp2_with (first
      | (refine wpList_load_row rfl 26 (.tmp 5) rfl w1.heap.size rfl 26 (hcells S0.h).toArray (0, 0) _ R1.out Tryz.underlying26 rfl (by kernel_rfl) ?_)
      | (refine wpList_eql rfl 26 (.tmp 21) (.tmp 22) rfl (hcells S0.h).toArray (hcells S0.h).toArray rfl rfl true (by kernel_rfl) (fun w => by rw [eql_hart w S0.h S0.h, same_self]) ?_))
    go_ret
    exact ⟨rfl, B3.out⟩
  · have he : err = 0 := by
      cases o with
      | arg g' => rw [g] at g'; cases g'
      | ill _ _ => rfl
      | halt _ _ _ _ => rfl
      | ok _ _ _ _ => rfl
    subst he
    have HG := Lib.hid g
    clear o hb ht g
    unfold hartV toldV
    go_enter Tryz.func16, Tryz.ntmps16
    have k0 := (heap_b2 w (.cells (hcells h).toArray 26) (.cells #[.int .u32 x, .int .i64 size, .int .u32 tv, .bool tok] 42)).1
    have k1 := (heap_b2 w (.cells (hcells h).toArray 26) (.cells #[.int .u32 x, .int .i64 size, .int .u32 tv, .bool tok] 42)).2
    have K0 := Lib.hid k0; have K1 := Lib.hid k1; clear k0 k1
    go_wp2_with (first
      | (refine wpList_load_row rfl 26 (.tmp 2) rfl w.heap.size rfl 26 (hcells h).toArray (0, 0) _ K0.out Tryz.underlying26 rfl (by kernel_rfl) ?_)
      | (refine wpList_load_part rfl 40 (.tmp 13) rfl (w.heap.size + 1) 2 rfl 42 #[.int .u32 x, .int .i64 size, .int .u32 tv, .bool tok] [.int .u32 tv, .bool tok] (0, 0) _ K1.out rfl Tryz.underlying40 rfl (by kernel_rfl) ?_))
    refine (done_any HO.out HBB.out HT.out.x HT.out.size HT.out.tv _).mono ?_
    rintro e w1 ⟨rfl, hb⟩
    have r0 : w1.heap[w.heap.size]? = some (.cells (hcells h).toArray 26) := (hb.block w.heap.size (by simp only [World.size_alloc]; omega)).trans K0.out
    have r1 : w1.heap[w.heap.size + 1]? = some (.cells #[.int .u32 x, .int .i64 size, .int .u32 tv, .bool tok] 42) := (hb.block (w.heap.size + 1) (by simp only [World.size_alloc]; omega)).trans K1.out
    have b1 : Below w.heap.size w w1 := (((Below.refl w.heap.size w).alloc (Nat.le_refl _) _).alloc (by simp only [World.size_alloc]; omega) _).trans (hb.mono (by simp only [World.size_alloc]; omega))
    have z1 : w.heap.size + 2 ≤ w1.heap.size := by have := hb.size; simp only [World.size_alloc] at this; omega
    clear hb
    obtain ⟨W2, hW2⟩ : ∃ W2, W2 = (w1.alloc (.cells hzero 26)).setRow w1.heap.size (hcells s.h).toArray := ⟨_, rfl⟩
    have q0 : W2.heap[w.heap.size]? = some (.cells (hcells h).toArray 26) := by rw [hW2]; exact (setRow_other _ _ _ _ (by omega)).trans ((Below.heap_alloc _ _ _ (by omega)).trans r0)
    have q3 : W2.heap[w.heap.size + 1]? = some (.cells #[.int .u32 x, .int .i64 size, .int .u32 tv, .bool tok] 42) := by rw [hW2]; exact (setRow_other _ _ _ _ (by omega)).trans ((Below.heap_alloc _ _ _ (by omega)).trans r1)
    have q1 : W2.heap[w1.heap.size]? = some (.cells (hcells s.h).toArray 26) := by rw [hW2]; exact setRow_heap _ _ _ _ _ _ (heap_alloc_new _ _)
    have b2 : Below w.heap.size w W2 := by rw [hW2]; exact below_setRow (b1.alloc b1.size _) b1.size
    have z2 : w1.heap.size + 1 ≤ W2.heap.size := by rw [hW2]; simp
    have Q0 := Lib.hid q0; have Q1 := Lib.hid q1; have Q3 := Lib.hid q3; have B2 := Lib.hid b2; have HW2 := Lib.hid hW2; have Z2 := Lib.hid z2; have Z1 := Lib.hid z1
    clear r0 r1 b1 z1 q0 q1 q3 b2 z2 hW2
    unfold hartV
    go_wp2_with (first
      | (refine wpList_store_row rfl 26 (.tmp 5) (.tmp 16) rfl w1.heap.size (hcells s.h).toArray rfl rfl 26 hzero (heap_alloc_new _ _) (by kernel_rfl) (by kernel_rfl) (by kernel_rfl) ?_; rw [← HW2.out])
      | (refine wpList_load_row rfl 26 (.tmp 2) rfl w.heap.size rfl 26 (hcells h).toArray (0, 0) _ Q0.out Tryz.underlying26 rfl (by kernel_rfl) ?_))
    refine (lgoes_any h _).mono ?_
    rintro e w3 ⟨rfl, hb⟩
    rw [HG.out]
    have r0 := (hb.block w.heap.size (by have := Z2.out; have := Z1.out; omega)).trans Q0.out
    have r1 := (hb.block w1.heap.size (by have := Z2.out; omega)).trans Q1.out
    have r3 := (hb.block (w.heap.size + 1) (by have := Z2.out; have := Z1.out; omega)).trans Q3.out
    have B3 := Lib.hid (B2.out.trans (hb.mono B2.out.size))
    have R0 := Lib.hid r0; have R1 := Lib.hid r1; have R3 := Lib.hid r3
    have l0 : ∀ z : Og.On w3.heap.size w3, (loadVar 26 ⟨w.heap.size, 0, none⟩).run Tryz.prog z.x = .ok (.agg (hcells h).toArray) z.x := fun z => Og.rowB z 26 _ R0.out Tryz.underlying26 rfl (by kernel_rfl)
    have l1 : ∀ z : Og.On w3.heap.size w3, (loadVar 26 ⟨w1.heap.size, 0, none⟩).run Tryz.prog z.x = .ok (.agg (hcells s.h).toArray) z.x := fun z => Og.rowB z 26 _ R1.out Tryz.underlying26 rfl (by kernel_rfl)
    have l2 : ∀ z : Og.On w3.heap.size w3, (loadVar 40 ⟨w.heap.size + 1, 2, none⟩).run Tryz.prog z.x = .ok (.agg #[.int .u32 tv, .bool tok]) z.x := fun z =>
      run_loadVar_part z.x (w.heap.size + 1) 2 42 40 #[.int .u32 x, .int .i64 size, .int .u32 tv, .bool tok] [.int .u32 tv, .bool tok] (0, 0) _ ((z.b.block _ (Array.getElem?_eq_some_iff.1 R3.out).1).trans R3.out) rfl Tryz.underlying40 rfl (by kernel_rfl)
    have c0 : ∀ z : Og.On w3.heap.size w3, z.x.cell? ⟨w.heap.size + 1, 0, none⟩ = some (.int .u32 x) := fun z => Og.cellB z (by rw [cell_of_row w3 _ 0 _ _ _ R3.out]; rfl)
    have c1 : ∀ z : Og.On w3.heap.size w3, z.x.cell? ⟨w.heap.size + 1, 1, none⟩ = some (.int .i64 size) := fun z => Og.cellB z (by rw [cell_of_row w3 _ 1 _ _ _ R3.out]; rfl)
    have he : ∀ z : Og.On w3.heap.size w3, (binOp .eql 26 (.agg (hcells s.h).toArray) (.agg (hcells s.h).toArray)).run Tryz.prog z.x = .ok (.bool true) z.x := fun z => by rw [eql_hart z.x s.h s.h, same_self]
    clear hb r0 r1 r3 Q0 Q1 Q3 HW2
    go_wp2
    refine Og.regionB (by kernel_rfl) (by kernel_rfl) ?_
    repeat (first
      | go_big_quiet_skip
      | (go_big_quiet_want
         first
          | (refine Og.quiet_load 26 (.tmp 5) rfl (.agg (hcells s.h).toArray) ⟨w1.heap.size, 0, none⟩ _ rfl (by rintro _ ⟨z, rfl⟩; exact l1 z) (by simp only [Act.put, List.setIfInBounds_toArray, List.set_cons_zero, List.set_cons_succ]; rfl) ?_
             go_big_quiet_on)
          | (refine Og.quiet_load 26 (.tmp 2) rfl (.agg (hcells h).toArray) ⟨w.heap.size, 0, none⟩ _ rfl (by rintro _ ⟨z, rfl⟩; exact l0 z) (by simp only [Act.put, List.setIfInBounds_toArray, List.set_cons_zero, List.set_cons_succ]; rfl) ?_
             go_big_quiet_on)
          | (refine Og.quiet_load 40 (.tmp 37) rfl (.agg #[.int .u32 tv, .bool tok]) ⟨w.heap.size + 1, 2, none⟩ _ rfl (by rintro _ ⟨z, rfl⟩; exact l2 z) (by simp only [Act.put, List.setIfInBounds_toArray, List.set_cons_zero, List.set_cons_succ]; rfl) ?_
             go_big_quiet_on)
          | (refine Og.quiet_eql true _ (fun w => run_eql_op 26 (.tmp 31) (.tmp 39) rfl (hcells s.h).toArray (hcells s.h).toArray rfl rfl true (by kernel_rfl) (fun w => by rw [eql_hart w s.h s.h, same_self]) w) (by simp only [Act.put, List.setIfInBounds_toArray, List.set_cons_zero, List.set_cons_succ]; rfl) ?_
             go_big_quiet_on)
          | (go_big_quiet_op
             first
              | go_big_quiet_on
              | (apply Exists.intro
                 refine ⟨fun z => ?_, ?_⟩
                 · (go_at_call 28; exact Og.callB (rdone_of HO.out HG.out HBB.out HT.out.x HT.out.size HT.out.tv _))
                 go_big_quiet_on))))
    refine wpQuiet_nil ?_
    intro _ hw'
    obtain ⟨q9, hw''⟩ := hw'
    subst hw''
    go_wp2
    go_ret
    exact ⟨rfl, B3.out.trans (q9.b.mono B3.out.size)⟩
end Go.Proofs.YtaokpphlfhnleaaGreatDoor
end

section
namespace Go.Proofs.YtaokpphlfhnleaaGreatDoor
open Go.RowKit Ht
set_option linter.unusedVariables false
set_option maxRecDepth 100000 in
set_option maxHeartbeats 1000000 in
theorem same_any (h k : H) (w : World) :
    Calls Tryz.prog 18 #[hartV h, hartV k] w fun e w' => e = .returned (.bool (same h k)) ∧ Below w.heap.size w w' := by
  have K0 := Lib.hid (heap_b2 w (.cells (hcells h).toArray 26) (.cells (hcells k).toArray 26)).1
  have K1 := Lib.hid (heap_b2 w (.cells (hcells h).toArray 26) (.cells (hcells k).toArray 26)).2
  unfold hartV
  go_enter Tryz.func18, Tryz.ntmps18
  go_wp2_with (first
    | (refine wpList_load_row rfl 26 (.tmp 2) rfl w.heap.size rfl 26 (hcells h).toArray (0, 0) _ K0.out Tryz.underlying26 rfl (by kernel_rfl) ?_)
    | (refine wpList_load_row rfl 26 (.tmp 3) rfl (w.heap.size + 1) rfl 26 (hcells k).toArray (0, 0) _ K1.out Tryz.underlying26 rfl (by kernel_rfl) ?_)
    | (refine wpList_eql rfl 26 (.tmp 5) (.tmp 6) rfl (hcells h).toArray (hcells k).toArray rfl rfl (same h k) (by kernel_rfl) (fun w => eql_hart w h k) ?_))
  go_ret
  exact ⟨rfl, ((Below.refl w.heap.size w).alloc (Nat.le_refl _) _).alloc (by simp only [World.size_alloc]; omega) _⟩
end Go.Proofs.YtaokpphlfhnleaaGreatDoor
end

section
namespace Go.Proofs.YtaokpphlfhnleaaGreatDoor
/-- how the hart of noughts reads -/
def Ht.hdat {H : Type} : DataW H := .agg [.lit (.int .i64 0), .lit (.int .u32 0), .agg (List.replicate 32 (.lit (.int .u32 0))), .lit (.int .i64 0)]
end Go.Proofs.YtaokpphlfhnleaaGreatDoor
end
end

section
namespace Go.Proofs.YtaokpphlfhnleaaGreatDoor
open Go.RowKit Ht
set_option linter.unusedVariables false
/-- a hart at pc whose x5 and x6 have a and b -/
def Ht.hv (pc a b : Int) : H := ⟨0, pc, fun k => if k = 5 then a else if k = 6 then b else 0, 0⟩
theorem Ht.hv_ok {pc a b : Int} (hp : Ar.Wd pc) (ha : Ar.Wd a) (hb : Ar.Wd b) : HB (hv pc a b) := by
  refine ⟨⟨by show (-9223372036854775808 : Int) ≤ 0; omega, by show (0 : Int) ≤ 9223372036854775807; omega⟩, hp, fun k => ?_, ⟨by show (-9223372036854775808 : Int) ≤ 0; omega, by show (0 : Int) ≤ 9223372036854775807; omega⟩⟩
  show Ar.Wd (if k = 5 then a else if k = 6 then b else 0)
  split
  · exact ha
  · split
    · exact hb
    · unfold Ar.Wd; omega
def Ht.hp (pc : Int) : H := ⟨0, pc, fun _ => 0, 0⟩
theorem Ht.hv_cells (pc a b : Int) : ((hcells (hp pc)).toArray.setIfInBounds 7 (.int .u32 a)).setIfInBounds 8 (.int .u32 b) = (hcells (hv pc a b)).toArray := rfl
/-- the hart's block, laid -/
theorem laid_hart (w : World) (pc a b : Int) : ∃ W1, W1 = (w.alloc (.cells hzero 26)).setRow w.heap.size (hcells (hp pc)).toArray ∧ W1.cell? ⟨w.heap.size, 7, none⟩ = some (.int .u32 0) ∧ W1.cell? ⟨w.heap.size, 8, none⟩ = some (.int .u32 0) ∧
    W1.frozen? ⟨w.heap.size, 7, none⟩ = false ∧ W1.frozen? ⟨w.heap.size, 8, none⟩ = false ∧
    Below w.heap.size w ((W1.setCell ⟨w.heap.size, 7, none⟩ (.int .u32 a)).setCell ⟨w.heap.size, 8, none⟩ (.int .u32 b)) ∧
    ((W1.setCell ⟨w.heap.size, 7, none⟩ (.int .u32 a)).setCell ⟨w.heap.size, 8, none⟩ (.int .u32 b)).heap[w.heap.size]? = some (.cells (hcells (hv pc a b)).toArray 26) := by
  refine ⟨_, rfl, ?_⟩
  have q := setRow_heap (w.alloc (.cells hzero 26)) w.heap.size hzero (hcells (hp pc)).toArray 26 (0, 0) (heap_alloc_new _ _)
  have b1 : Below w.heap.size w ((w.alloc (.cells hzero 26)).setRow w.heap.size (hcells (hp pc)).toArray) := below_setRow ((Below.refl _ _).alloc (Nat.le_refl _) _) (Nat.le_refl _)
  generalize (w.alloc (.cells hzero 26)).setRow w.heap.size (hcells (hp pc)).toArray = W1 at q b1 ⊢
  refine ⟨by rw [cell_of_row W1 _ 7 _ _ _ q]; rfl, by rw [cell_of_row W1 _ 8 _ _ _ q]; rfl, frozen_of_row W1 w.heap.size 7 _ _ q, frozen_of_row W1 w.heap.size 8 _ _ q, (b1.setCell (Nat.le_refl _) _).setCell (Nat.le_refl _) _, ?_⟩
  have q7 := heap_setCell_same W1 w.heap.size 7 _ _ (.int .u32 a) q
  have q8 := heap_setCell_same _ w.heap.size 8 _ _ (.int .u32 b) q7
  rw [hv_cells] at q8
  exact q8
theorem wpList_load_rowW {P : Program} {ops : Array Oper} {rest : List Oper} {o : Oper} {a : Act} {w : World} {Q : Exit → Act → World → Prop} (ty : TypeId) (x : Operand) (ho : o.op = .load ty x)
    (g : Nat) (hx : a.eval x = .pointer (some ⟨g, 0, none⟩)) (hgd : Region.wanted o (yielded ops a.tmps) = true) (t : TypeId) (cs : Array Value) (fr : Nat × Nat) (d : TypeDesc) (hg : w.heap[g]? = some (.cells cs t fr))
    (hu : P.underlying ty = some d) (hd : (match d with | .struct _ | .array _ _ => true | _ => false) = true) (hi : (P.info? ty).map (·.size) = some cs.size)
    (h : wpList P ops Q rest (a.put o.dst (.agg cs)) w) : wpList P ops Q (o :: rest) a w :=
  wpList_step fun K hK => by rw [if_pos hgd]; exact wp_load_row ty x ho g hx t cs fr d hg hu hd hi (hK _ _ h)
end Go.Proofs.YtaokpphlfhnleaaGreatDoor
end

section
namespace Go.Proofs.YtaokpphlfhnleaaGreatDoor.hartBranches
open Go.ChangeShapes Go.WideShapes Go.ChangeAt Go.RowKit
set_option linter.unusedVariables false

/-! THE WALK: the Go text returns true; of memory nothing that stood there has turned. -/
set_option maxRecDepth 100000 in
set_option maxHeartbeats 8000000 in
theorem walk (w : World) (a0 : Int) (w0 : (Lit.int .u32 a0).wf = true) (a1 : Int) (w1 : (Lit.int .u32 a1).wf = true) (a2 : Int) (w2 : (Lit.int .u32 a2).wf = true) :
    Calls Tryz.prog 10 #[.int .u32 a0, .int .u32 a1, .int .u32 a2] w fun e w' => e = .returned (.bool true) ∧ Below w.heap.size w w' := by
  have HA := Lib.hid (Ht.hv_ok (pc := 4096) (by unfold Ar.Wd; omega) (wf_u32 w0) (wf_u32 w1))
  have hb2 := wf_u32 w2
  unfold Ar.Wd at hb2
  clear w0 w1 w2
  obtain ⟨W1, hW1, c7, c8, f7, f8, bq, rq⟩ := laid_hart w 4096 a0 a1
  have HW1 := Lib.hid hW1; have BQ := Lib.hid bq; have RQ := Lib.hid rq; clear hW1 bq rq
  go_enter Tryz.func10, Tryz.ntmps10
  go_wp2_with (refine wpList_store_row rfl 26 (.tmp 7) (.tmp 12) rfl w.heap.size (Ht.hcells (Ht.hp 4096)).toArray rfl rfl 26 Ht.hzero (heap_alloc_new _ _) (by kernel_rfl) (by kernel_rfl) (by kernel_rfl) ?_; rw [← HW1.out])
  clear c7 c8 f7 f8
  go_loopw [8, 9, 10, 11] (fun i _ _ _ wr => ∃ k : Nat, k ≤ 8 ∧ i = .int .u32 (k : Int) ∧ Below w.heap.size w wr ∧ wr.heap[w.heap.size]? = some (.cells (Ht.hcells (Ht.hv 4096 a0 a1)).toArray 26)) (fun i _ _ _ _ => 8 - (intOf i).toNat)
  case atStart => exact ⟨0, by omega, rfl, BQ.out, RQ.out⟩
  case round =>
    clear BQ RQ HW1
    obtain ⟨k, hk, rfl, hbr, hrow⟩ := hrel
    have HBR := Lib.hid hbr; have HROW := Lib.hid hrow; clear hbr hrow
    have hlw := (Array.getElem?_eq_some_iff.1 HROW.out).1
    have HLW := Lib.hid hlw; clear hlw
    by_cases hlt : k < 8
    · have hki : (k : Int) < 8 := by omega
      go_wp2_with (refine wpList_load_row rfl 26 (.tmp 7) rfl w.heap.size rfl 26 (Ht.hcells (Ht.hv 4096 a0 a1)).toArray (0, 0) _ HROW.out Tryz.underlying26 rfl (by kernel_rfl) ?_)
      refine (ldone_any (Ht.hv 4096 a0 a1) HA.out _ 64 0 false ⟨wf_u32 (wf_bits _ _ _ _), ⟨by omega, by omega⟩, by unfold Ar.Wd; omega⟩ _).mono ?_
      rintro e w2 ⟨rfl, hb⟩
      have R2 := Lib.hid ((hb.block w.heap.size HLW.out).trans HROW.out)
      have B2 := Lib.hid (HBR.out.trans (hb.mono HBR.out.size))
      have L2 := Lib.hid (Nat.lt_of_lt_of_le HLW.out hb.size)
      clear hb HROW HBR HLW
      go_wp2_with (refine wpList_load_row rfl 26 (.tmp 7) rfl w.heap.size rfl 26 (Ht.hcells (Ht.hv 4096 a0 a1)).toArray (0, 0) _ R2.out Tryz.underlying26 rfl (by kernel_rfl) ?_)
      refine (ldone_any (Ht.hv 4096 a0 a1) HA.out _ 64 0 false ⟨wf_u32 (wf_bits _ _ _ _), ⟨by omega, by omega⟩, by unfold Ar.Wd; omega⟩ _).mono ?_
      rintro e w4 ⟨rfl, hb⟩
      have R4 := Lib.hid ((hb.block w.heap.size L2.out).trans R2.out)
      have B4 := Lib.hid (B2.out.trans (hb.mono B2.out.size))
      have L4 := Lib.hid (Nat.lt_of_lt_of_le L2.out hb.size)
      clear hb R2 B2 L2
      go_wp2_with (refine wpList_load_rowW 26 (.tmp 7) rfl w.heap.size rfl (by kernel_rfl) 26 (Ht.hcells (Ht.hv 4096 a0 a1)).toArray (0, 0) _ R4.out Tryz.underlying26 rfl (by kernel_rfl) ?_)
      refine (ldone_any (Ht.hv 4096 a0 a1) HA.out _ 64 0 false ⟨wf_u32 (wf_bits _ _ _ _), ⟨by omega, by omega⟩, by unfold Ar.Wd; omega⟩ _).mono ?_
      rintro e w6 ⟨rfl, hb⟩
      have R6 := Lib.hid ((hb.block w.heap.size L4.out).trans R4.out)
      have B6 := Lib.hid (B4.out.trans (hb.mono B4.out.size))
      clear hb R4 B4 L4
      go_wp2_with fail
      go_roundw
      case rel => exact ⟨k + 1, by omega, by go_num, B6.out, R6.out⟩
      case measure => simp [intOf]; omega
    · obtain rfl : k = 8 := by omega
      go_wp2_with fail
      refine (known_any _).mono ?_
      rintro e w3 ⟨rfl, hb3⟩
      have HB3 := Lib.hid (HBR.out.trans (hb3.mono HBR.out.size)); clear hb3
      go_wp2_with fail
      go_ret
      exact ⟨rfl, HB3.out⟩

/-! THE ROW -/
set_option maxRecDepth 100000 in
theorem contract (H : Type) (enc : TypeId × Value → H) (W : World) (base : Nat) (args : Array Value) (ds gs : List (DataW H)) (before : List MemPlace)
    (hval0 : ∀ (j : Nat) t v, Tryz.f10.params[j]? = some t → args[j]? = some v → Value.okWide Tryz.prog W .any base t v)
    (hW : DataW.Whole enc Tryz.prog Tryz.f10.params.toList Rows.hartBranchesSpec.vars false W args.toList ds gs before) (hL : laidMet Tryz.prog Rows.hartBranchesRow.laid W) :
    Calls Tryz.prog 10 args W fun e W' => ∃ v, e = .returned v ∧ Rows.hartBranchesSpec.post enc Tryz.prog Tryz.f10 false true false false W args v W' := by
  have hval : ∀ (j : Nat) t v, Tryz.f10.params[j]? = some t → args[j]? = some v → Value.okWide Tryz.prog W .any base t v := hval0
  have hW' := hW
  obtain ⟨p, q, hA0, hV, rfl, hfz, hnd⟩ := hW
  have hA : DataW.TrodAll enc Tryz.prog W 0 (fun _ => true) true Tryz.f10.params.toList args.toList ds p := hA0
  rw [Tryz.params10] at hA hval
  obtain ⟨v0, vs0, d0, ds0, p0, q0, hargs, rfl, rfl, h0, r0⟩ := trodAll_cons hA
  obtain ⟨v1, vs1, d1, ds1, p1, q1, rfl, rfl, rfl, h1, r1⟩ := trodAll_cons r0
  obtain ⟨v2, vs2, d2, ds2, p2, q2, rfl, rfl, rfl, h2, r2⟩ := trodAll_cons r1
  obtain ⟨rfl, rfl, rfl⟩ := trodAll_nil r2
  obtain rfl : args = #[v0, v1, v2] := by cases args; simp_all
  obtain ⟨rfl, rfl⟩ := trodVars_none hV
  clear hA0 hval0
  simp only [List.append_nil] at hW'
  have hlt : ∀ x ∈ p0 ++ (p1 ++ (p2)), x.block < W.heap.size := fun x hx => by simpa using hW'.lt x (by simpa using hx)
  have h0k := h0
  obtain ⟨a0, rfl, rfl, rfl, w0⟩ := open_int Tryz.underlying22 (hval 0 22 v0 rfl rfl) h0
  have h1k := h1
  obtain ⟨a1, rfl, rfl, rfl, w1⟩ := open_int Tryz.underlying22 (hval 1 22 v1 rfl rfl) h1
  have h2k := h2
  obtain ⟨a2, rfl, rfl, rfl, w2⟩ := open_int Tryz.underlying22 (hval 2 22 v2 rfl rfl) h2
  refine (walk W a0 w0 a1 w1 a2 w2).mono fun e W' ⟨he, hb⟩ => ?_
  subst he
  have harg0 : DataW.Trod enc Tryz.prog W' 0 (fun b => decide (b < W.heap.size)) true 22 _ _ _ := Below.trod laidOut (by kernel_rfl) (of_decide_eq_true (by kernel_rfl)) h0k hb (fun x hx => by cases hx)
  have harg1 : DataW.Trod enc Tryz.prog W' 0 (fun b => decide (b < W.heap.size)) true 22 _ _ _ := Below.trod laidOut (by kernel_rfl) (of_decide_eq_true (by kernel_rfl)) h1k hb (fun x hx => by cases hx)
  have harg2 : DataW.Trod enc Tryz.prog W' 0 (fun b => decide (b < W.heap.size)) true 22 _ _ _ := Below.trod laidOut (by kernel_rfl) (of_decide_eq_true (by kernel_rfl)) h2k hb (fun x hx => by cases hx)
  exact ⟨_, rfl, _, _, _, [], _, [], hW', trodAll_mk1 (shut_bool Tryz.underlying4 _), (trodAll_cons_mk harg0 (trodAll_cons_mk harg1 (trodAll_cons_mk harg2 trodAll_mk0))), rfl, hb.frame _, fun h => by cases h⟩
theorem laid_met (os : Os) : laidMet Tryz.prog Rows.hartBranchesRow.laid ((laidWorld os).forCall (fun _ _ => 0) ⟨#[], #[.int .u32 0, .int .u32 0, .int .u32 0], []⟩).memory :=
  laidMet_of_run' 8 (by kernel_rfl) (by kernel_rfl)
theorem reads (os : Os) {H : Type} (enc : TypeId × Value → H) : ∃ places, DataW.whole enc Tryz.prog ((laidWorld os).forCall (fun _ _ => 0) ⟨#[], #[.int .u32 0, .int .u32 0, .int .u32 0], []⟩).memory Tryz.f10.params.toList Rows.hartBranchesSpec.vars false (#[.int .u32 0, .int .u32 0, .int .u32 0] : Array Value).toList 8 = some ([.lit (.int .u32 0), .lit (.int .u32 0), .lit (.int .u32 0)], [], places) :=
  ⟨[], by kernel_rfl⟩
set_option maxRecDepth 100000 in
theorem lifted (os : Os) (started : os.Started) (H : Type) (enc : TypeId × Value → H) (F : Stop.Interp) :
    ReturnsInHanded {} Tryz.checked os 10 .any ((OpenSpec.ofChange Rows.hartBranchesSpec).preRow enc Tryz.prog Tryz.f10 Rows.hartBranchesRow.domain false Rows.hartBranchesRow.laid) (((OpenSpec.ofChange Rows.hartBranchesSpec).at F).post enc Tryz.prog Tryz.f10 false true false false) := by
  obtain ⟨places, hx⟩ := reads os enc
  refine returnsInHanded_of_row (C := Tryz.checked) (s := OpenSpec.ofChange Rows.hartBranchesSpec) own started (by kernel_rfl) Tryz.func10
    (witness_row_at (enc := enc) (C := Tryz.checked) false (laidWorld os) #[.int .u32 0, .int .u32 0, .int .u32 0] rfl (by kernel_rfl) (by kernel_rfl) (by kernel_rfl)
      (OpenSpec.preRow_of_cond 8 hx (by kernel_rfl) (fun k hk => by cases hk) (by kernel_rfl) (laid_met os))) ?_
  intro W base args ds gs before hval hW _ _ _ hL _ _
  exact contract H enc W base args ds gs before hval hW hL
theorem said : Rows.HartBranchesSaid :=
  OpenClaim.holds_of_cond 10 Tryz.f10 rfl rfl rfl rfl rfl rfl rfl ⟨rfl, rfl, rfl, rfl, rfl⟩ rfl rfl rfl rfl rfl (by kernel_rfl) Tryz.func10 (by kernel_rfl)
    (of_decide_eq_true (by kernel_rfl)) (by unfold Func.isWrapper; first | (rw [if_pos (by decide +kernel)]; kernel_rfl) | (rw [if_neg (by decide +kernel)]; exact ⟨rfl, rfl⟩))
    (fun os started H enc _ F => by rw [OpenClaim.pre_eq_preRow]; exact lifted os started H enc F)
/-- no parameter wants a stand-in; the program's own looks: what the card asks -/
theorem plain (f : FuncId) (fn : Func) (hf : Tryz.pinned.checked.prog.funcNamed "quadrille/quadrillelaw04.HartBranches" = some f) (hfn : Tryz.pinned.checked.prog.funcs[f]? = some fn) :
    true = Tryz.pinned.checked.prog.looks [] ∧ ∀ (j : Nat) t, fn.params[j]? = some t → Tryz.pinned.checked.prog.wantsStandIn t = false := by
  obtain rfl : f = 10 := Option.some.inj ((show Tryz.prog.funcNamed "quadrille/quadrillelaw04.HartBranches" = some 10 by kernel_rfl).symm.trans hf) |>.symm
  obtain rfl : fn = Tryz.f10 := (Option.some.inj (Tryz.func10.symm.trans hfn)).symm
  refine ⟨by kernel_rfl, fun j t ht => ?_⟩
  rw [Tryz.params10] at ht
  have hm : t = 22 := by simpa using Array.mem_of_getElem? ht
  rcases hm with rfl
  exact (show Tryz.prog.wantsStandIn 22 = false by kernel_rfl)
/-- THE STATEMENT: the card -/
theorem proved : Rows.HartBranchesCardSaid :=
  Claim7.holds_tied_plain_at .later [] _ _ _ _ said (fun _ h => by cases h) (by kernel_rfl) (fun _ h => by cases h) hartBranches_row_tie rfl ⟨rfl, rfl⟩ (by kernel_rfl) rfl plain (by kernel_rfl)
end Go.Proofs.YtaokpphlfhnleaaGreatDoor.hartBranches
end
