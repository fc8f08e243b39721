/-
  How a slice of instructions reads as data.
-/
import Derived.Test.YtianojbdabeoeaaDoorIsOpen2
import Derived.Deep.Slices
namespace Go.Proofs.YtianojbdabeoeaaDoor
open Go.Joins Go.ChangeShapes Go.WideShapes Go.ChangeAt Go.RowKit Go.Deep
set_option linter.unusedVariables false
structure Is.IV where
  o : Int
  d : Int
  e : Int
  f : Int
  i : Int
  q : Bool
  r : Bool
def Is.icells (v : IV) : List Value := [.int .i64 v.o, .int .i64 v.d, .int .i64 v.e, .int .i64 v.f, .int .u32 v.i, .bool v.q, .bool v.r]
def Is.IVOk (v : IV) : Prop := InstOk v.o v.d v.e v.f v.i
/-- the values that a slice of instructions has -/
def InstsIn (w : World) (a : Option Addr) (xs : List Is.IV) : Prop :=
  (0 < xs.length → ∃ g o, a = some ⟨g, o, none⟩ ∧ ∀ j v, xs[j]? = some v → ∀ i c, (Is.icells v)[i]? = some c → w.cell? ⟨g, o + j * 7 + i, none⟩ = some c) ∧ ∀ v ∈ xs, Is.IVOk v
theorem inst_in {H : Type} {enc : TypeId × Value → H} {W : World} {base : Nat} {sp : Nat → Bool} {held : Bool} {fuel : Nat} {cs : List Value} {y : DataW H × List MemPlace}
    (h : DataW.trod enc Tryd.prog W base sp held fuel 30 cs = some y) : ∃ v : Is.IV, cs = Is.icells v ∧ Is.IVOk v := by
  obtain ⟨xs, n, _, _, hl, hlen, hg⟩ := DataW.trod_struct Tryd.underlying30 h
  have u0 : Tryd.prog.cellsOf 28 = 1 := by kernel_rfl
  have u1 : Tryd.prog.cellsOf 3 = 1 := by kernel_rfl
  have u4 : Tryd.prog.cellsOf 24 = 1 := by kernel_rfl
  have u5 : Tryd.prog.cellsOf 4 = 1 := by kernel_rfl
  rw [cellsInst] at hl
  match xs, hlen, cs, hl with
  | [y0, y1, y2, y3, y4, y5, y6], _, [c0, c1, c2, c3, c4, c5, c6], _ =>
    have g0 : DataW.trod enc Tryd.prog W base sp held n 28 [c0] = some y0 := by simpa [u0] using hg 0 _ rfl
    have g1 : DataW.trod enc Tryd.prog W base sp held n 3 [c1] = some y1 := by simpa [u1] using hg 1 _ rfl
    have g2 : DataW.trod enc Tryd.prog W base sp held n 3 [c2] = some y2 := by simpa [u1] using hg 2 _ rfl
    have g3 : DataW.trod enc Tryd.prog W base sp held n 3 [c3] = some y3 := by simpa [u1] using hg 3 _ rfl
    have g4 : DataW.trod enc Tryd.prog W base sp held n 24 [c4] = some y4 := by simpa [u4] using hg 4 _ rfl
    have g5 : DataW.trod enc Tryd.prog W base sp held n 4 [c5] = some y5 := by simpa [u5] using hg 5 _ rfl
    have g6 : DataW.trod enc Tryd.prog W base sp held n 4 [c6] = some y6 := by simpa [u5] using hg 6 _ rfl
    obtain ⟨o, rfl, w0⟩ := int_in Tryd.underlying28 g0
    obtain ⟨d, rfl, w1⟩ := int_in Tryd.underlying3 g1
    obtain ⟨e, rfl, w2⟩ := int_in Tryd.underlying3 g2
    obtain ⟨f, rfl, w3⟩ := int_in Tryd.underlying3 g3
    obtain ⟨i, rfl, w4⟩ := int_in Tryd.underlying24 g4
    obtain ⟨q, rfl⟩ := bool_in Tryd.underlying4 g5
    obtain ⟨r, rfl⟩ := bool_in Tryd.underlying4 g6
    exact ⟨⟨o, d, e, f, i, q, r⟩, rfl, wf_i64 w0, wf_i64 w1, wf_i64 w2, wf_i64 w3, wf_u32 w4⟩
theorem open_insts {H : Type} {enc : TypeId × Value → H} {W : World} {a0 : Option Addr} {len cap : Nat} {d0 : DataW H} {p : List MemPlace}
    (h0 : DataW.Trod enc Tryd.prog W 0 (fun _ => true) true 22 (.slice a0 len cap) d0 p) :
    ∃ xs : List Is.IV, xs.length = len ∧ len ≤ 9223372036854775807 ∧ InstsIn W a0 xs := by
  obtain ⟨fuel, hf⟩ := h0
  rcases open_slice Tryd.underlying22 hf with ⟨hcs, _⟩ | ⟨a, len', cap', m, n, D, Pl, hcs, hb, hl, hm, hmm, hx, hi⟩
  · simp [Value.cells] at hcs
    obtain ⟨rfl, rfl, rfl⟩ := hcs
    exact ⟨[], rfl, by omega, fun h => absurd h (by simp), fun x hx => by cases hx⟩
  · simp [Value.cells] at hcs
    obtain ⟨rfl, rfl, rfl⟩ := hcs
    simp only [if_true] at hmm
    subst hmm
    unfold maxLen at hm
    rw [cellsInst] at hi
    have each : ∀ i, i < len → ∃ v : Is.IV, (∀ k c, (Is.icells v)[k]? = some c → W.cell? ((a.add (i * 7)).add k) = some c) ∧ Is.IVOk v := fun i hil => by
      obtain ⟨cs', hc, ht⟩ := hi i (by omega)
      obtain ⟨v, rfl, hok⟩ := inst_in ht
      obtain ⟨_, hlen, hat⟩ := World.cells?_some hc
      refine ⟨v, fun k c hk => ?_, hok⟩
      have hk4 : k < 7 := by
        have := (List.getElem?_eq_some_iff.1 hk).1
        simpa [Is.icells] using this
      rw [hat k hk4]
      exact hk
    let f : Nat → Is.IV := fun i => if h : i < len then (each i h).choose else ⟨0, 0, 0, 0, 0, false, false⟩
    have hfi : ∀ i (h : i < len), f i = (each i h).choose := fun i h => dif_pos h
    refine ⟨(List.range len).map f, by simp, by omega, fun hp => ?_, fun v hv => ?_⟩
    · have hp' : 0 < len := by simpa using hp
      obtain ⟨b, off, spot⟩ := a
      have h00 := (each 0 hp').choose_spec.1 0 _ rfl
      have hspot : spot = none := by simpa [Addr.add] using World.cell?_spot h00
      subst hspot
      refine ⟨b, off, rfl, fun j v hv k c hk => ?_⟩
      have hjl : j < len := by have := (List.getElem?_eq_some_iff.1 hv).1; simpa using this
      have hv' : v = f j := by rw [List.getElem?_map, List.getElem?_range hjl] at hv; exact (Option.some.inj hv).symm
      rw [hv', hfi j hjl] at hk
      have := (each j hjl).choose_spec.1 k c hk
      rw [Go.WideShapes.add_plain, Go.WideShapes.add_plain] at this
      exact this
    · obtain ⟨i, hi', rfl⟩ := List.mem_map.1 hv
      rw [hfi i (List.mem_range.1 hi')]
      exact (each i (List.mem_range.1 hi')).choose_spec.2
/-- a struct, loaded cell by cell -/
theorem run_loadVar_at {P : Program} (w : World) (g off : Nat) (ty : TypeId) (cs : List Value) (d : TypeDesc) (hc : ∀ i v, cs[i]? = some v → w.cell? ⟨g, off + i, none⟩ = some v)
    (hu : P.underlying ty = some d) (hd : (match d with | .struct _ | .array _ _ => true | _ => false) = true) (hi : (P.info? ty).map (·.size) = some cs.length) :
    (loadVar ty ⟨g, off, none⟩).run P w = .ok (.agg cs.toArray) w := by
  have hl : (loadCells ⟨g, off, none⟩ cs.length).run P w = .ok cs.toArray w :=
    run_loadCells_list (P := P) w ⟨g, off, none⟩ cs (fun j v hv => by
      have hadd : (⟨g, off, none⟩ : Addr).add j = ⟨g, off + j, none⟩ := by unfold Addr.add; split <;> simp_all
      rw [hadd]; exact hc j v hv)
  cases hq : P.info? ty with
  | none => simp [hq] at hi
  | some i =>
    have hs : i.size = cs.length := by simpa [hq] using hi
    have hagg : (isAgg ty).run P w = .ok true w := by
      unfold isAgg
      rw [Sem.run_bind, run_underlying hu w]
      cases d <;> simp_all
    simp [loadVar, Sem.run_bind, hagg, sizeOf, typeInfo, hq, hs, hl]
theorem wpList_load_at {P : Program} {ops : Array Oper} {rest : List Oper} {o : Oper} {a : Act} {w : World} {Q : Exit → Act → World → Prop} (hgd : o.guard = none) (ty : TypeId) (x : Operand) (ho : o.op = .load ty x)
    (g off : Nat) (hx : a.eval x = .pointer (some ⟨g, off, none⟩)) (cs : List Value) (d : TypeDesc) (hc : ∀ i v, cs[i]? = some v → w.cell? ⟨g, off + i, none⟩ = some v)
    (hu : P.underlying ty = some d) (hd : (match d with | .struct _ | .array _ _ => true | _ => false) = true) (hi : (P.info? ty).map (·.size) = some cs.length)
    (h : wpList P ops Q rest (a.put o.dst (.agg cs.toArray)) w) : wpList P ops Q (o :: rest) a w :=
  wpList_plain hgd fun _ hK => by
    unfold Oper.wp execOp
    simp only [ho, hx, Instr.loadAt, Instr.sureAddr, Sem.run_bind, Sem.run_pure, Result.andThen_ok, run_loadVar_at w g off ty cs d hc hu hd hi]
    exact hK _ _ h
theorem wpList_load_atW {P : Program} {ops : Array Oper} {rest : List Oper} {o : Oper} {a : Act} {w : World} {Q : Exit → Act → World → Prop} (ty : TypeId) (x : Operand) (ho : o.op = .load ty x) (hgd : Region.wanted o (yielded ops a.tmps) = true)
    (g off : Nat) (hx : a.eval x = .pointer (some ⟨g, off, none⟩)) (cs : List Value) (d : TypeDesc) (hc : ∀ i v, cs[i]? = some v → w.cell? ⟨g, off + i, none⟩ = some v)
    (hu : P.underlying ty = some d) (hd : (match d with | .struct _ | .array _ _ => true | _ => false) = true) (hi : (P.info? ty).map (·.size) = some cs.length)
    (h : wpList P ops Q rest (a.put o.dst (.agg cs.toArray)) w) : wpList P ops Q (o :: rest) a w :=
  wpList_step fun _ hK => by
    rw [if_pos hgd]
    unfold Oper.wp execOp
    simp only [ho, hx, Instr.loadAt, Instr.sureAddr, Sem.run_bind, Sem.run_pure, Result.andThen_ok, run_loadVar_at w g off ty cs d hc hu hd hi]
    exact hK _ _ h
end Go.Proofs.YtianojbdabeoeaaDoor
