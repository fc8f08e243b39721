/-
  HlEM: HlOpen, HlArgs, HlEql, HlSame, HtAct in one text.
-/
import Derived.Test.YtianojbdabeoeaaGreatDoorCards
import Derived.Test.YtianojbdabeoeaaGreatDoorTie
import Derived.Test.YtianojbdabeoeaaGreatDoorHtMath
import Derived.ProofKit
import Derived.OpenShut
import Derived.Lib.SmallJoins
import Derived.Carry
import Derived.LaidMore
import Derived.Deep.DeepHandedRow
import Derived.Test.YtianojbdabeoeaaGreatDoorHtDoM
import Derived.ChangeKeysEq
import Derived.Laws.StructEq
import Derived.StillTailTactics
import Derived.BigRegion

section
namespace Go.Proofs.YtianojbdabeoeaaGreatDoor
open Go.ChangeShapes Go.WideShapes Go.ChangeAt Go.RowKit
set_option linter.unusedVariables false
theorem own : ownKnob Tryz.prog.godebug = none := by kernel_rfl
theorem laidOut : laidOutB Tryz.prog = true := by kernel_rfl
noncomputable def laidWorld (os : Os) : World := World.doorLaid Tryz.prog 200 os
theorem wf_i64 {n : Int} (h : (Lit.int .i64 n).wf = true) : -9223372036854775808 ≤ n ∧ n ≤ 9223372036854775807 := by
  simp [Lit.wf, IntKind.bits, IntKind.signed, IntKind.min, IntKind.max] at h; omega
theorem wf_u32 {n : Int} (h : (Lit.int .u32 n).wf = true) : Ar.Wd n := by
  unfold Ar.Wd
  simp [Lit.wf, IntKind.bits, IntKind.signed, IntKind.min, IntKind.max] at h; omega
end Go.Proofs.YtianojbdabeoeaaGreatDoor
end

section
namespace Go.Proofs.YtianojbdabeoeaaGreatDoor
open Go.Joins Go.ChangeShapes Go.WideShapes Go.ChangeAt Go.RowKit Go.Deep Ht
set_option linter.unusedVariables false
theorem cellsU32 : Tryz.prog.cellsOf 22 = 1 := by kernel_rfl
theorem cellsInt : Tryz.prog.cellsOf 3 = 1 := by kernel_rfl
theorem cellsBool : Tryz.prog.cellsOf 4 = 1 := by kernel_rfl
theorem cellsCause : Tryz.prog.cellsOf 24 = 1 := by kernel_rfl
theorem cellsRegs : Tryz.prog.cellsOf 23 = 32 := by kernel_rfl
theorem cellsHart : Tryz.prog.cellsOf 26 = 35 := by kernel_rfl
theorem cellsAns : Tryz.prog.cellsOf 28 = 2 := by kernel_rfl
theorem cellsTold : Tryz.prog.cellsOf 30 = 4 := by kernel_rfl
/-- one cell, out of a run of cells -/
theorem heap_b2 (w : World) (o1 o2 : Obj) : ((w.alloc o1).alloc o2).heap[w.heap.size]? = some o1 ∧ ((w.alloc o1).alloc o2).heap[w.heap.size + 1]? = some o2 := by
  refine ⟨heap_a1 w o1 o2, ?_⟩
  have := heap_alloc_new (w.alloc o1) o2
  rwa [World.size_alloc] at this
theorem cell_in {H : Type} {enc : TypeId × Value → H} {w : World} {base : Nat} {sp : Nat → Bool} {held : Bool} {fuel : Nat} {t : TypeId} {k : IntKind} {cs : List Value} {off z : Nat} {y : DataW H × List MemPlace}
    (ht : Tryz.prog.underlying t = some (.int k)) (hz : z = 1) (h : DataW.trod enc Tryz.prog w base sp held fuel t ((cs.drop off).take z) = some y) : ∃ n, cs[off]? = some (.int k n) ∧ (Lit.int k n).wf = true := by
  subst hz
  obtain ⟨n, hn, _, hw⟩ := DataW.trod_int ht h
  refine ⟨n, ?_, hw⟩
  have := congrArg (fun l : List Value => l[0]?) hn
  simpa [List.getElem?_take, List.getElem?_drop] using this
theorem bool_in {H : Type} {enc : TypeId × Value → H} {w : World} {base : Nat} {sp : Nat → Bool} {held : Bool} {fuel : Nat} {t : TypeId} {cs : List Value} {off z : Nat} {y : DataW H × List MemPlace}
    (ht : Tryz.prog.underlying t = some .bool) (hz : z = 1) (h : DataW.trod enc Tryz.prog w base sp held fuel t ((cs.drop off).take z) = some y) : ∃ b, cs[off]? = some (.bool b) := by
  subst hz
  have e : ∃ b, (cs.drop off).take 1 = [.bool b] := by
    cases fuel with
    | zero => simp [DataW.trod] at h
    | succ fuel =>
      unfold DataW.trod at h
      rw [ht] at h
      split at h <;> simp_all
  obtain ⟨b, e⟩ := e
  refine ⟨b, ?_⟩
  have := congrArg (fun l : List Value => l[0]?) e
  simpa [List.getElem?_take, List.getElem?_drop] using this
section
variable {H : Type} {enc : TypeId × Value → H} {P : Program} {w : World} {base : Nat} {spare : Nat → Bool} {held : Bool}
theorem fields4 {t : TypeId} {f0 f1 f2 f3 : Field} {fuel : Nat} {cs : List Value} {x : DataW H × List MemPlace} (ht : P.underlying t = some (.struct #[f0, f1, f2, f3])) (h : DataW.trod enc P w base spare held fuel t cs = some x) :
    ∃ y0 y1 y2 y3 n, cs.length = P.cellsOf t ∧ DataW.trod enc P w base spare held n f0.type ((cs.drop f0.offset).take (P.cellsOf f0.type)) = some y0 ∧ DataW.trod enc P w base spare held n f1.type ((cs.drop f1.offset).take (P.cellsOf f1.type)) = some y1 ∧
      DataW.trod enc P w base spare held n f2.type ((cs.drop f2.offset).take (P.cellsOf f2.type)) = some y2 ∧ DataW.trod enc P w base spare held n f3.type ((cs.drop f3.offset).take (P.cellsOf f3.type)) = some y3 := by
  obtain ⟨xs, n, _, rfl, hl, hlen, hf⟩ := DataW.trod_struct ht h
  match xs, hlen with
  | [y0, y1, y2, y3], _ => exact ⟨y0, y1, y2, y3, n, hl, by simpa using hf 0 f0 rfl, by simpa using hf 1 f1 rfl, by simpa using hf 2 f2 rfl, by simpa using hf 3 f3 rfl⟩
theorem fields3 {t : TypeId} {f0 f1 f2 : Field} {fuel : Nat} {cs : List Value} {x : DataW H × List MemPlace} (ht : P.underlying t = some (.struct #[f0, f1, f2])) (h : DataW.trod enc P w base spare held fuel t cs = some x) :
    ∃ y0 y1 y2 n, cs.length = P.cellsOf t ∧ DataW.trod enc P w base spare held n f0.type ((cs.drop f0.offset).take (P.cellsOf f0.type)) = some y0 ∧ DataW.trod enc P w base spare held n f1.type ((cs.drop f1.offset).take (P.cellsOf f1.type)) = some y1 ∧
      DataW.trod enc P w base spare held n f2.type ((cs.drop f2.offset).take (P.cellsOf f2.type)) = some y2 := by
  obtain ⟨xs, n, _, rfl, hl, hlen, hf⟩ := DataW.trod_struct ht h
  match xs, hlen with
  | [y0, y1, y2], _ => exact ⟨y0, y1, y2, n, hl, by simpa using hf 0 f0 rfl, by simpa using hf 1 f1 rfl, by simpa using hf 2 f2 rfl⟩
theorem fields2 {t : TypeId} {f0 f1 : Field} {fuel : Nat} {cs : List Value} {x : DataW H × List MemPlace} (ht : P.underlying t = some (.struct #[f0, f1])) (h : DataW.trod enc P w base spare held fuel t cs = some x) :
    ∃ y0 y1 n, cs.length = P.cellsOf t ∧ DataW.trod enc P w base spare held n f0.type ((cs.drop f0.offset).take (P.cellsOf f0.type)) = some y0 ∧ DataW.trod enc P w base spare held n f1.type ((cs.drop f1.offset).take (P.cellsOf f1.type)) = some y1 := by
  obtain ⟨xs, n, _, rfl, hl, hlen, hf⟩ := DataW.trod_struct ht h
  match xs, hlen with
  | [y0, y1], _ => exact ⟨y0, y1, n, hl, by simpa using hf 0 f0 rfl, by simpa using hf 1 f1 rfl⟩
end
theorem some_of {α : Type} {l : List α} {i n : Nat} (h : l.length = n) (hi : i < n) : ∃ z, l[i]? = some z := ⟨l[i]'(by omega), List.getElem?_eq_getElem (by omega)⟩
namespace Ht
theorem hcR (h : H) (k : Nat) (hk : k ≤ 31) : (hcells h)[2 + k]? = some (.int .u32 (h.R k)) := by
  rcases (show k = 0 ∨ k = 1 ∨ k = 2 ∨ k = 3 ∨ k = 4 ∨ k = 5 ∨ k = 6 ∨ k = 7 ∨ k = 8 ∨ k = 9 ∨ k = 10 ∨ k = 11 ∨ k = 12 ∨ k = 13 ∨ k = 14 ∨ k = 15 ∨ k = 16 ∨ k = 17 ∨ k = 18 ∨ k = 19 ∨ k = 20 ∨ k = 21 ∨ k = 22 ∨ k = 23 ∨ k = 24 ∨ k = 25 ∨ k = 26 ∨ k = 27 ∨ k = 28 ∨ k = 29 ∨ k = 30 ∨ k = 31 by omega) with
    rfl | rfl | rfl | rfl | rfl | rfl | rfl | rfl | rfl | rfl | rfl | rfl | rfl | rfl | rfl | rfl | rfl | rfl | rfl | rfl | rfl | rfl | rfl | rfl | rfl | rfl | rfl | rfl | rfl | rfl | rfl | rfl <;> rfl
end Ht
set_option maxRecDepth 100000 in
/-- a hart, out of its cells -/
theorem hart_in {H : Type} {enc : TypeId × Value → H} {W : World} {base : Nat} {sp : Nat → Bool} {held : Bool} {fuel : Nat} {cs : List Value} {y : DataW H × List MemPlace}
    (h : DataW.trod enc Tryz.prog W base sp held fuel 26 cs = some y) : ∃ h : Ht.H, cs = Ht.hcells h ∧ Ht.HB h := by
  obtain ⟨y0, y1, y2, y3, n, hl, f0, f1, f2, f3⟩ := fields4 Tryz.underlying26 h
  rw [cellsHart] at hl
  obtain ⟨id, c0, w0⟩ := cell_in Tryz.underlying3 cellsInt f0
  obtain ⟨pc, c1, w1⟩ := cell_in Tryz.underlying22 cellsU32 f1
  obtain ⟨cause, c3, w3⟩ := cell_in Tryz.underlying24 cellsCause f3
  obtain ⟨xs2, m, _, _, hl2, hxl2, hx2⟩ := DataW.trod_array Tryz.underlying23 f2
  rw [cellsU32] at hx2
  have each : ∀ i, i < 32 → ∃ n : Int, cs[2 + i]? = some (.int .u32 n) ∧ Ar.Wd n := fun i hi => by
    have h1 := hx2 i hi
    obtain ⟨z, hz⟩ := some_of hxl2 hi
    rw [hz, Nat.mul_one] at h1
    obtain ⟨n, hn, hw⟩ := cell_in (off := i) Tryz.underlying22 rfl h1
    refine ⟨n, ?_, wf_u32 hw⟩
    have hn' : ((cs.drop 2).take 32)[i]? = some (.int .u32 n) := by rw [← cellsRegs]; exact hn
    rw [List.getElem?_take_of_lt (by omega), List.getElem?_drop] at hn'
    exact hn'
  refine ⟨⟨id, pc, fun k => if k < 32 then intOf (cs[2 + k]?.getD undef) else 0, cause⟩, ?_, wf_i64 w0, wf_u32 w1, fun k => ?_, wf_i64 w3⟩
  · have reg : ∀ i, i < 32 → cs[2 + i]? = some (.int .u32 (intOf (cs[2 + i]?.getD undef))) := fun i hi => by
      obtain ⟨n, hn, _⟩ := each i hi
      rw [hn]; rfl
    apply List.ext_getElem?
    intro j
    by_cases hj : j < 35
    · rcases (show j = 0 ∨ j = 1 ∨ j = 34 ∨ (2 ≤ j ∧ j < 34) by omega) with rfl | rfl | rfl | ⟨h2, h3⟩
      · exact c0
      · exact c1
      · exact c3
      · obtain ⟨k, rfl⟩ : ∃ k, j = 2 + k := ⟨j - 2, by omega⟩
        rw [hcR _ k (by omega)]
        show _ = some (Value.int .u32 (if k < 32 then intOf (cs[2 + k]?.getD undef) else 0))
        rw [if_pos (by omega)]
        exact reg k (by omega)
    · rw [List.getElem?_eq_none (by omega), List.getElem?_eq_none (show (hcells _).length ≤ j by show 35 ≤ j; omega)]
  · show Ar.Wd (if k < 32 then intOf (cs[2 + k]?.getD undef) else 0)
    split
    · obtain ⟨n, hn, hw⟩ := each k (by assumption)
      rw [hn]; exact hw
    · unfold Ar.Wd; omega
set_option maxRecDepth 100000 in
theorem open_hart {H : Type} {enc : TypeId × Value → H} {W : World} {r : Reach} {b0 base : Nat} {sp : Nat → Bool} {held : Bool} {v : Value} {d0 : DataW H} {p : List MemPlace} (hv : Value.okWide Tryz.prog W r b0 26 v)
    (h0 : DataW.Trod enc Tryz.prog W base sp held 26 v d0 p) : ∃ h : Ht.H, v = Ht.hartV h ∧ Ht.HB h := by
  obtain ⟨cs, rfl, hsz⟩ := okWide_struct Tryz.underlying26 hv
  obtain ⟨fuel, hf⟩ := h0
  obtain ⟨h, he, hb⟩ := hart_in hf
  refine ⟨h, ?_, hb⟩
  unfold Ht.hartV
  rw [← he]; rfl
set_option maxRecDepth 100000 in
theorem open_ans {H : Type} {enc : TypeId × Value → H} {W : World} {r : Reach} {b0 base : Nat} {sp : Nat → Bool} {held : Bool} {v : Value} {d0 : DataW H} {p : List MemPlace} (hv : Value.okWide Tryz.prog W r b0 28 v)
    (h0 : DataW.Trod enc Tryz.prog W base sp held 28 v d0 p) : ∃ (n : Int) (b : Bool), v = Ht.ansV n b ∧ Ar.Wd n := by
  obtain ⟨cs, rfl, hsz⟩ := okWide_struct Tryz.underlying28 hv
  rw [cellsAns] at hsz
  obtain ⟨fuel, hf⟩ := h0
  obtain ⟨y0, y1, n, hl, f0, f1⟩ := fields2 Tryz.underlying28 hf
  obtain ⟨n, c0, w0⟩ := cell_in Tryz.underlying22 cellsU32 f0
  obtain ⟨b, c1⟩ := bool_in Tryz.underlying4 cellsBool f1
  refine ⟨n, b, ?_, wf_u32 w0⟩
  obtain ⟨cs⟩ := cs
  match cs, hsz with
  | [x0, x1], _ =>
    simp [Value.cells] at c0 c1
    subst c0 c1
    rfl
/-- a word, a size, an answer -/
def Ht.toldV (x size tv : Int) (tok : Bool) : Value := .agg #[.int .u32 x, .int .i64 size, .int .u32 tv, .bool tok]
structure Ht.ToldOk (x size tv : Int) : Prop where
  x : Ar.Wd x
  size : -9223372036854775808 ≤ size ∧ size ≤ 9223372036854775807
  tv : Ar.Wd tv
set_option maxRecDepth 100000 in
theorem told_in {H : Type} {enc : TypeId × Value → H} {W : World} {base : Nat} {sp : Nat → Bool} {held : Bool} {fuel : Nat} {cs : List Value} {y : DataW H × List MemPlace}
    (h : DataW.trod enc Tryz.prog W base sp held fuel 30 cs = some y) : ∃ (x size tv : Int) (tok : Bool), cs = [.int .u32 x, .int .i64 size, .int .u32 tv, .bool tok] ∧ Ht.ToldOk x size tv := by
  obtain ⟨y0, y1, y2, n, hl, f0, f1, f2⟩ := fields3 Tryz.underlying30 h
  rw [cellsTold] at hl
  obtain ⟨x, c0, w0⟩ := cell_in Tryz.underlying22 cellsU32 f0
  obtain ⟨size, c1, w1⟩ := cell_in Tryz.underlying3 cellsInt f1
  obtain ⟨z0, z1, m, _, g0, g1⟩ := fields2 Tryz.underlying28 f2
  obtain ⟨tv, c2, w2⟩ := cell_in Tryz.underlying22 cellsU32 g0
  obtain ⟨tok, c3⟩ := bool_in Tryz.underlying4 cellsBool g1
  refine ⟨x, size, tv, tok, ?_, wf_u32 w0, wf_i64 w1, wf_u32 w2⟩
  match cs, hl with
  | [x0, x1, x2, x3], _ =>
    simp [cellsAns] at c0 c1 c2 c3
    subst c0 c1 c2 c3
    rfl
set_option maxRecDepth 100000 in
theorem open_told {H : Type} {enc : TypeId × Value → H} {W : World} {r : Reach} {b0 base : Nat} {sp : Nat → Bool} {held : Bool} {v : Value} {d0 : DataW H} {p : List MemPlace} (hv : Value.okWide Tryz.prog W r b0 30 v)
    (h0 : DataW.Trod enc Tryz.prog W base sp held 30 v d0 p) : ∃ (x size tv : Int) (tok : Bool), v = Ht.toldV x size tv tok ∧ Ht.ToldOk x size tv := by
  obtain ⟨cs, rfl, hsz⟩ := okWide_struct Tryz.underlying30 hv
  obtain ⟨fuel, hf⟩ := h0
  obtain ⟨x, size, tv, tok, he, hb⟩ := told_in hf
  refine ⟨x, size, tv, tok, ?_, hb⟩
  unfold Ht.toldV
  obtain ⟨cs⟩ := cs
  have he' : cs = [.int .u32 x, .int .i64 size, .int .u32 tv, .bool tok] := he
  rw [he']
/-! Whether two are the same. -/
section
variable {P : Program} (w : World) (d : Nat)
theorem eq_struct4 {t : TypeId} {f0 f1 f2 f3 : Field} (hs : P.underlying t = some (.struct #[f0, f1, f2, f3])) (hp : P.stoodInHeld t = false) (xs ys : Array Value) (a0 a1 a2 a3 b0 b1 b2 b3 : Value) (r0 r1 r2 r3 : Bool)
    (hn : f0.name ≠ "_" ∧ f1.name ≠ "_" ∧ f2.name ≠ "_" ∧ f3.name ≠ "_")
    (x0 : (part f0.type xs f0.offset).run P w = .ok a0 w) (x1 : (part f1.type xs f1.offset).run P w = .ok a1 w) (x2 : (part f2.type xs f2.offset).run P w = .ok a2 w) (x3 : (part f3.type xs f3.offset).run P w = .ok a3 w)
    (y0 : (part f0.type ys f0.offset).run P w = .ok b0 w) (y1 : (part f1.type ys f1.offset).run P w = .ok b1 w) (y2 : (part f2.type ys f2.offset).run P w = .ok b2 w) (y3 : (part f3.type ys f3.offset).run P w = .ok b3 w)
    (e0 : (Op.equalIn d f0.type a0 b0).run P w = .ok r0 w) (e1 : (Op.equalIn d f1.type a1 b1).run P w = .ok r1 w) (e2 : (Op.equalIn d f2.type a2 b2).run P w = .ok r2 w) (e3 : (Op.equalIn d f3.type a3 b3).run P w = .ok r3 w) :
    (Op.equalIn (d + 1) t (.agg xs) (.agg ys)).run P w = .ok (r0 && (r1 && (r2 && r3))) w := by
  have hf : P.fieldsOf t = #[f0, f1, f2, f3] := by simp [Program.fieldsOf, hs]
  rw [run_equalIn_struct w d t xs ys (by rw [hf]; exact hs) hp, hf]
  simp only [Op.eqFields, hn.1, hn.2.1, hn.2.2.1, hn.2.2.2, ne_eq, not_false_eq_true, if_true, Sem.run_bind, x0, y0, e0, Result.andThen_ok]
  cases r0 <;> cases r1 <;> cases r2 <;> cases r3 <;> simp [e1, e2, e3, x1, x2, x3, y1, y2, y3]
end
namespace Ht
def regs (h : H) : List Value := (List.range 32).map fun i => .int .u32 (h.R i)
def sameR (h k : H) : Bool := (List.range 32).all fun i => h.R i == k.R i
/-- are two harts the same? -/
def same (h k : H) : Bool := (h.id == k.id) && ((h.pc == k.pc) && (sameR h k && (h.cause == k.cause)))
theorem same_self (h : H) : same h h = true := by unfold same sameR; simp
end Ht
theorem part_reg (w : World) (h : H) (i : Nat) (hi : i < 32) : (part 22 (regs h).toArray (i * 1)).run Tryz.prog w = .ok (.int .u32 (h.R i)) w := by
  have ha : (isAgg 22).run Tryz.prog w = .ok false w := by kernel_rfl
  have e : (regs h).toArray[i * 1]? = some (.int .u32 (h.R i)) := by simp [regs, hi]
  unfold part
  simp only [Sem.run_bind, ha, Result.andThen_ok, e]
  rfl
theorem eq_items (w : World) (h k : H) : ∀ is : List Nat, (∀ i ∈ is, i < 32) → (Op.eqItems 9998 22 1 (regs h).toArray (regs k).toArray is).run Tryz.prog w = .ok (is.all fun i => h.R i == k.R i) w
  | [], _ => by simp [Op.eqItems]
  | i :: is, hi => by
    have p1 := part_reg w h i (hi i List.mem_cons_self)
    have p2 := part_reg w k i (hi i List.mem_cons_self)
    have he := run_equalIn_int (P := Tryz.prog) w 9997 22 .u32 .u32 (h.R i) (k.R i) Tryz.underlying22
    have ih := eq_items w h k is (fun j hj => hi j (List.mem_cons_of_mem _ hj))
    simp only [Op.eqItems, Sem.run_bind, p1, p2, he, Result.andThen_ok, List.all_cons]
    cases h.R i == k.R i
    · simp
    · simpa using ih
theorem eq_regs (w : World) (h k : H) : (Op.equalIn 9999 23 (.agg (regs h).toArray) (.agg (regs k).toArray)).run Tryz.prog w = .ok (sameR h k) w := by
  have hs : (Tryz.prog.info? 22).isSome = true := by kernel_rfl
  obtain ⟨i, hi⟩ := Option.isSome_iff_exists.1 hs
  rw [show (9999 : Nat) = 9998 + 1 from rfl, run_equalIn_array w 9998 _ _ Tryz.underlying23 hi, cellsU32]
  exact eq_items w h k (List.range 32) (fun j hj => List.mem_range.1 hj)
set_option maxRecDepth 100000 in
theorem eq_hart (w : World) (h k : H) : (Op.equalIn 10000 26 (.agg (hcells h).toArray) (.agg (hcells k).toArray)).run Tryz.prog w = .ok (same h k) w :=
  eq_struct4 w 9999 Tryz.underlying26 (by kernel_rfl) _ _ (.int .i64 h.id) (.int .u32 h.pc) (.agg (regs h).toArray) (.int .i64 h.cause) (.int .i64 k.id) (.int .u32 k.pc) (.agg (regs k).toArray) (.int .i64 k.cause) _ _ _ _
    (by decide) (by kernel_rfl) (by kernel_rfl) (by kernel_rfl) (by kernel_rfl) (by kernel_rfl) (by kernel_rfl) (by kernel_rfl) (by kernel_rfl)
    (run_equalIn_int w 9998 _ .i64 .i64 _ _ Tryz.underlying3) (run_equalIn_int w 9998 _ .u32 .u32 _ _ Tryz.underlying22) (eq_regs w h k) (run_equalIn_int w 9998 _ .i64 .i64 _ _ Tryz.underlying24)
theorem eq_acc_self (w : World) (a : A) : (Op.equalIn 10000 37 (.agg (acells a).toArray) (.agg (acells a).toArray)).run Tryz.prog w = .ok true w := by
  unfold acells
  simp [go_sem]
theorem eql_hart (w : World) (h k : H) : (binOp .eql 26 (.agg (hcells h).toArray) (.agg (hcells k).toArray)).run Tryz.prog w = .ok (.bool (same h k)) w := by
  rw [run_eql_struct, eq_hart w h k]; rfl
theorem eql_acc_self (w : World) (a : A) : (binOp .eql 37 (.agg (acells a).toArray) (.agg (acells a).toArray)).run Tryz.prog w = .ok (.bool true) w := by
  rw [run_eql_struct, eq_acc_self w a]; rfl
theorem neq_acc_self (w : World) (a : A) : (binOp .neq 37 (.agg (acells a).toArray) (.agg (acells a).toArray)).run Tryz.prog w = .ok (.bool false) w := by
  rw [run_neq_struct, eq_acc_self w a]; rfl
end Go.Proofs.YtianojbdabeoeaaGreatDoor
end

section
namespace Go.Proofs.YtianojbdabeoeaaGreatDoor
open Go.RowKit Ht
set_option linter.unusedVariables false
theorem run_eql_op {P : Program} {a : Act} {o : Oper} (t : TypeId) (x y : Operand) (ho : o.op = .binOp .eql t x y t) (xs ys : Array Value) (hx : a.eval x = .agg xs) (hy : a.eval y = .agg ys) (b : Bool) (hm : P.eqGuardType P.depth t = false)
    (hb : ∀ w, (binOp .eql t (.agg xs) (.agg ys)).run P w = .ok (.bool b) w) (w : World) : (execOp a.eval o).run P w = .ok (.value (.bool b)) w := by
  unfold execOp
  rw [ho]
  simp only [hx, hy]
  simp only [Sem.run_bind, run_eqGuard_agg w .eql t x y xs ys hm, Result.andThen_ok, hb, Sem.run_pure]
theorem wpList_eql {P : Program} {ops : Array Oper} {rest : List Oper} {o : Oper} {a : Act} {w : World} {Q : Exit → Act → World → Prop} (hgd : o.guard = none) (t : TypeId) (x y : Operand) (ho : o.op = .binOp .eql t x y t) (xs ys : Array Value)
    (hx : a.eval x = .agg xs) (hy : a.eval y = .agg ys) (b : Bool) (hm : P.eqGuardType P.depth t = false) (hb : ∀ w, (binOp .eql t (.agg xs) (.agg ys)).run P w = .ok (.bool b) w)
    (h : wpList P ops Q rest (a.put o.dst (.bool b)) w) : wpList P ops Q (o :: rest) a w :=
  wpList_plain hgd fun _ hK => by
    unfold Oper.wp
    rw [run_eql_op t x y ho xs ys hx hy b hm hb w]
    exact hK _ _ h
/-- how the hart of noughts reads -/
def Ht.hdat {H : Type} : DataW H := .agg [.lit (.int .i64 0), .lit (.int .u32 0), .agg (List.replicate 32 (.lit (.int .u32 0))), .lit (.int .i64 0)]
end Go.Proofs.YtianojbdabeoeaaGreatDoor
end

section
namespace Go.Proofs.YtianojbdabeoeaaGreatDoor
open Go.RowKit Ht
set_option linter.unusedVariables false
set_option maxRecDepth 100000 in
set_option maxHeartbeats 1000000 in
theorem same_any (h k : H) (w : World) :
    Calls Tryz.prog 14 #[hartV h, hartV k] w fun e w' => e = .returned (.bool (same h k)) ∧ Below w.heap.size w w' := by
  have K0 := Lib.hid (heap_b2 w (.cells (hcells h).toArray 26) (.cells (hcells k).toArray 26)).1
  have K1 := Lib.hid (heap_b2 w (.cells (hcells h).toArray 26) (.cells (hcells k).toArray 26)).2
  unfold hartV
  go_enter Tryz.func14, Tryz.ntmps14
  go_wp2_with (first
    | (refine wpList_load_row rfl 26 (.tmp 2) rfl w.heap.size rfl 26 (hcells h).toArray (0, 0) _ K0.out Tryz.underlying26 rfl (by kernel_rfl) ?_)
    | (refine wpList_load_row rfl 26 (.tmp 3) rfl (w.heap.size + 1) rfl 26 (hcells k).toArray (0, 0) _ K1.out Tryz.underlying26 rfl (by kernel_rfl) ?_)
    | (refine wpList_eql rfl 26 (.tmp 5) (.tmp 6) rfl (hcells h).toArray (hcells k).toArray rfl rfl (same h k) (by kernel_rfl) (fun w => eql_hart w h k) ?_))
  go_ret
  exact ⟨rfl, ((Below.refl w.heap.size w).alloc (Nat.le_refl _) _).alloc (by simp only [World.size_alloc]; omega) _⟩
end Go.Proofs.YtianojbdabeoeaaGreatDoor
end

section
namespace Go.Proofs.YtianojbdabeoeaaGreatDoor
open Go.RowKit Ht
set_option linter.unusedVariables false
theorem results_row3 {P : Program} {fn : Func} {p u v : Tmp} {ty : TypeId} (h : fn.results = #[.cell p ty, .tmp u, .tmp v]) (tmps : Array Value) (w : World) (g : Nat) (t : TypeId) (cs : Array Value) (fr : Nat × Nat) (d : TypeDesc)
    (hp : tmps.getD p undef = .pointer (some ⟨g, 0, none⟩)) (hg : w.heap[g]? = some (.cells cs t fr))
    (hu : P.underlying ty = some d) (hd : (match d with | .struct _ | .array _ _ => true | _ => false) = true) (hi : (P.info? ty).map (·.size) = some cs.size) :
    (results fn tmps).run P w = .ok (.tuple #[.agg cs, tmps.getD u undef, tmps.getD v undef]) w := by
  have hp' : tmps[p]?.getD undef = .pointer (some ⟨g, 0, none⟩) := by simpa using hp
  simp [results, h, hp', asAddr, run_loadVar_row w g t ty cs fr d hg hu hd hi]
set_option maxRecDepth 100000 in
set_option maxHeartbeats 4000000 in
theorem act_of (h : H) (x size : Int) (s : S) (err : Int) (w : World)
    (hd : ∀ w, Calls Tryz.prog 31 #[hartV h, .int .u32 x, .int .i64 size, ansV 0 false] w fun e w' => e = .returned (.tuple #[stepV s, .int .i64 err]) ∧ Below w.heap.size w w') :
    Calls Tryz.prog 12 #[hartV h, .int .u32 x, .int .i64 size] w fun e w' => e = .returned (.tuple #[accV s.a, .int .i64 s.h.cause, .int .i64 err]) ∧ Below w.heap.size w w' := by
  have HD := Lib.hid hd; clear hd
  have K0 := Lib.hid (heap_b2 w (.cells (hcells h).toArray 26) (.cells azero 37)).1
  have K1 := Lib.hid (heap_b2 w (.cells (hcells h).toArray 26) (.cells azero 37)).2
  unfold hartV
  go_enter Tryz.func12, Tryz.ntmps12
  go_wp2_with (refine wpList_load_row rfl 26 (.tmp 3) rfl w.heap.size rfl 26 (hcells h).toArray (0, 0) _ K0.out Tryz.underlying26 rfl (by kernel_rfl) ?_)
  refine (HD.out _).mono ?_
  rintro e w1 ⟨rfl, hb⟩
  have r1 : w1.heap[w.heap.size + 1]? = some (.cells azero 37) := (hb.block (w.heap.size + 1) (by simp only [World.size_alloc]; omega)).trans K1.out
  have b1 : Below w.heap.size w w1 := (((Below.refl w.heap.size w).alloc (Nat.le_refl _) _).alloc (by simp only [World.size_alloc]; omega) _).trans (hb.mono (by simp only [World.size_alloc]; omega))
  have z1 : w.heap.size + 2 ≤ w1.heap.size := by have := hb.size; simp only [World.size_alloc] at this; omega
  clear hb
  obtain ⟨W2, hW2⟩ : ∃ W2, W2 = (w1.alloc (.cells szero 87)).setRow w1.heap.size (scells s).toArray := ⟨_, rfl⟩
  have s2 : Stp W2 w1.heap.size s := by rw [hW2]; exact setRow_heap _ _ _ _ _ _ (heap_alloc_new _ _)
  have q1 : W2.heap[w.heap.size + 1]? = some (.cells azero 37) := by rw [hW2]; exact (setRow_other _ _ _ _ (by omega)).trans ((Below.heap_alloc _ _ _ (by omega)).trans r1)
  have b2 : Below w.heap.size w W2 := by rw [hW2]; exact below_setRow (b1.alloc b1.size _) b1.size
  have c34 : W2.cell? ⟨w1.heap.size, 34, none⟩ = some (.int .i64 s.h.cause) := s2.cell 34
  have c45 : W2.cell? ⟨w1.heap.size, 45, none⟩ = some (.int .i64 s.a.kind) := s2.cell 45
  have c46 : W2.cell? ⟨w1.heap.size, 46, none⟩ = some (.int .u32 s.a.addr) := s2.cell 46
  have c47 : W2.cell? ⟨w1.heap.size, 47, none⟩ = some (.int .i64 s.a.width) := s2.cell 47
  have c48 : W2.cell? ⟨w1.heap.size, 48, none⟩ = some (.int .u32 s.a.value) := s2.cell 48
  have c49 : W2.cell? ⟨w1.heap.size, 49, none⟩ = some (.int .i64 s.a.op) := s2.cell 49
  have c50 : W2.cell? ⟨w1.heap.size, 50, none⟩ = some (.bool s.a.aq) := s2.cell 50
  have c51 : W2.cell? ⟨w1.heap.size, 51, none⟩ = some (.bool s.a.rl) := s2.cell 51
  have Q1 := Lib.hid q1; have B2 := Lib.hid b2; have HW2 := Lib.hid hW2; have Z1 := Lib.hid z1
  clear s2 r1 q1 b1 z1 b2 hW2 K0 K1
  unfold stepV
  go_wp2_with (refine wpList_store_row rfl 87 (.tmp 9) (.tmp 17) rfl w1.heap.size (scells s).toArray rfl rfl 87 szero (heap_alloc_new _ _) (by kernel_rfl) (by kernel_rfl) (by kernel_rfl) ?_; rw [← HW2.out])
  have a0 : W2.cell? ⟨w.heap.size + 1, 0, none⟩ = some (.int .i64 0) := by rw [cell_of_row W2 _ 0 _ _ _ Q1.out]; rfl
  have f0 := frozen_of_row W2 (w.heap.size + 1) 0 _ _ Q1.out
  have a1 : W2.cell? ⟨w.heap.size + 1, 1, none⟩ = some (.int .u32 0) := by rw [cell_of_row W2 _ 1 _ _ _ Q1.out]; rfl
  have f1 := frozen_of_row W2 (w.heap.size + 1) 1 _ _ Q1.out
  have a2 : W2.cell? ⟨w.heap.size + 1, 2, none⟩ = some (.int .i64 0) := by rw [cell_of_row W2 _ 2 _ _ _ Q1.out]; rfl
  have f2 := frozen_of_row W2 (w.heap.size + 1) 2 _ _ Q1.out
  have a3 : W2.cell? ⟨w.heap.size + 1, 3, none⟩ = some (.int .u32 0) := by rw [cell_of_row W2 _ 3 _ _ _ Q1.out]; rfl
  have f3 := frozen_of_row W2 (w.heap.size + 1) 3 _ _ Q1.out
  have a4 : W2.cell? ⟨w.heap.size + 1, 4, none⟩ = some (.int .i64 0) := by rw [cell_of_row W2 _ 4 _ _ _ Q1.out]; rfl
  have f4 := frozen_of_row W2 (w.heap.size + 1) 4 _ _ Q1.out
  have a5 : W2.cell? ⟨w.heap.size + 1, 5, none⟩ = some (.bool false) := by rw [cell_of_row W2 _ 5 _ _ _ Q1.out]; rfl
  have f5 := frozen_of_row W2 (w.heap.size + 1) 5 _ _ Q1.out
  have a6 : W2.cell? ⟨w.heap.size + 1, 6, none⟩ = some (.bool false) := by rw [cell_of_row W2 _ 6 _ _ _ Q1.out]; rfl
  have f6 := frozen_of_row W2 (w.heap.size + 1) 6 _ _ Q1.out
  have hne : w1.heap.size ≠ w.heap.size + 1 := by have := Z1.out; omega
  have hg := (heap_setCell_same _ (w.heap.size + 1) 6 _ _ (.bool s.a.rl) (heap_setCell_same _ (w.heap.size + 1) 5 _ _ (.bool s.a.aq) (heap_setCell_same _ (w.heap.size + 1) 4 _ _ (.int .i64 s.a.op) (heap_setCell_same _ (w.heap.size + 1) 3 _ _ (.int .u32 s.a.value) (heap_setCell_same _ (w.heap.size + 1) 2 _ _ (.int .i64 s.a.width) (heap_setCell_same _ (w.heap.size + 1) 1 _ _ (.int .u32 s.a.addr) (heap_setCell_same _ (w.heap.size + 1) 0 _ _ (.int .i64 s.a.kind) Q1.out)))))))
  have hb := (below_step 6 (.bool s.a.rl) (below_step 5 (.bool s.a.aq) (below_step 4 (.int .i64 s.a.op) (below_step 3 (.int .u32 s.a.value) (below_step 2 (.int .i64 s.a.width) (below_step 1 (.int .u32 s.a.addr) (below_step 0 (.int .i64 s.a.kind) B2.out (show w.heap.size ≤ w.heap.size + 1 by omega)) (show w.heap.size ≤ w.heap.size + 1 by omega)) (show w.heap.size ≤ w.heap.size + 1 by omega)) (show w.heap.size ≤ w.heap.size + 1 by omega)) (show w.heap.size ≤ w.heap.size + 1 by omega)) (show w.heap.size ≤ w.heap.size + 1 by omega)) (show w.heap.size ≤ w.heap.size + 1 by omega))
  have HG := Lib.hid hg; have HBB := Lib.hid hb; clear hg hb
  go_wp2
  go_region
  go_wp2
  refine bodyPost_ret (v := .tuple #[.agg (acells s.a).toArray, .int .i64 s.h.cause, .int .i64 err]) ?_ rfl ⟨rfl, ?_⟩
  · exact results_row3 (fn := Tryz.f12) rfl _ _ (w.heap.size + 1) 37 (acells s.a).toArray (0, 0) _ rfl (by rw [heap_drew]; exact HG.out) Tryz.underlying37 rfl (by kernel_rfl)
  · exact HBB.out.drew
theorem act_any {h : H} {x size : Int} {s : S} {err : Int} (o : Out h x size 0 false s err) (hb : HB h) (hx : Is.Wd x) (hs : -9223372036854775808 ≤ size ∧ size ≤ 9223372036854775807) (w : World) :
    Calls Tryz.prog 12 #[hartV h, .int .u32 x, .int .i64 size] w fun e w' => e = .returned (.tuple #[accV s.a, .int .i64 s.h.cause, .int .i64 err]) ∧ Below w.heap.size w w' :=
  act_of h x size s err w (fun w => do_of o hb hx hs (by unfold Ar.Wd; omega) w)
end Go.Proofs.YtianojbdabeoeaaGreatDoor
end
