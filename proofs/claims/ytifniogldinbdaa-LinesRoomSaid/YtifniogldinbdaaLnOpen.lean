/-
  How lines, calls and questions read as data.
-/
import Derived.Test.YtifniogldinbdaaLnMk
import Derived.ProofKit
import Derived.OpenShut
import Derived.Lib.SmallJoins
import Derived.Carry
import Derived.Deep.Slices
namespace Go.Proofs.Ytifniogldinbdaa
open Go.Joins Go.ChangeShapes Go.WideShapes Go.ChangeAt Go.RowKit Go.Deep
set_option linter.unusedVariables false
set_option linter.unusedSimpArgs false
theorem own : ownKnob Try.prog.godebug = none := by kernel_rfl
theorem laidOut : laidOutB Try.prog = true := by kernel_rfl
theorem cellsInt : Try.prog.cellsOf 3 = 1 := by kernel_rfl
theorem int_in {H : Type} {enc : TypeId × Value → H} {P : Program} {W : World} {base : Nat} {sp : Nat → Bool} {held : Bool} {fuel : Nat} {t : TypeId} {q : IntKind} {c : Value} {y : DataW H × List MemPlace} (ht : P.underlying t = some (.int q))
    (h : DataW.trod enc P W base sp held fuel t [c] = some y) : ∃ n, c = .int q n ∧ (Lit.int q n).wf = true := by
  obtain ⟨n, hn, _, hw⟩ := DataW.trod_int ht h
  exact ⟨n, by simpa using hn, hw⟩
theorem i64_of_wf {n : Int} (h : (Lit.int .i64 n).wf = true) : Ev.i64B n := by
  unfold Ev.i64B
  have h1 : IntKind.i64.min = -9223372036854775808 := by decide
  have h2 : IntKind.i64.max = 9223372036854775807 := by decide
  simp only [Lit.wf, h1, h2, Bool.and_eq_true, decide_eq_true_eq] at h; omega
theorem u32_of_wf {n : Int} (h : (Lit.int .u32 n).wf = true) : Ev.u32B n := by
  unfold Ev.u32B
  have h1 : IntKind.u32.min = 0 := by decide
  have h2 : IntKind.u32.max = 4294967295 := by decide
  simp only [Lit.wf, h1, h2, Bool.and_eq_true, decide_eq_true_eq] at h; omega
section
variable {H : Type} {enc : TypeId × Value → H} {W : World}
/-- a slice of things of n cells each -/
theorem Ln.rows_in {α : Type} (x0 : α) (cells : α → List Value) (OK : α → Prop) (n : Nat) {t e : TypeId} (hn : Try.prog.cellsOf e = n) (hp : 0 < n) (hlen : ∀ x, OK x → (cells x).length = n)
    (each0 : ∀ fuel cs y, DataW.trod enc Try.prog W 0 (fun _ => true) true fuel e cs = some y → ∃ x, cs = cells x ∧ OK x) (ht : Try.prog.underlying t = some (.slice e))
    {fuel : Nat} {c : Value} {y : DataW H × List MemPlace} (h : DataW.trod enc Try.prog W 0 (fun _ => true) true fuel t [c] = some y) :
    ∃ (a : Option Addr) (cap : Nat) (xs : List α), c = .slice a xs.length cap ∧ Ev.RowsIn W a n (xs.map cells) ∧ (∀ x ∈ xs, OK x) ∧ xs.length ≤ cap ∧ cap ≤ 9223372036854775807 := by
  rcases open_slice ht h with ⟨hcs, _⟩ | ⟨a, len, cap, m, nn, D, Pl, hcs, hb, hl, hm, hmm, hx, hi⟩
  · exact ⟨none, 0, [], by simpa using hcs, fun h => absurd h (by simp), (fun x hx => (by cases hx)), by simp, by simp⟩
  · simp only [if_true] at hmm
    subst hmm
    unfold maxLen at hm
    rw [hn] at hi
    have each : ∀ i, i < len → ∃ v : α, (∀ k c, (cells v)[k]? = some c → W.cell? ((a.add (i * n)).add k) = some c) ∧ OK v := fun i hil => by
      obtain ⟨cs', hc, ht⟩ := hi i (by omega)
      obtain ⟨v, rfl, hok⟩ := each0 _ _ _ ht
      have hlv := hlen v hok
      obtain ⟨_, _, hat⟩ := World.cells?_some hc
      refine ⟨v, fun k c hk => ?_, hok⟩
      have hk4 : k < n := by
        have := (List.getElem?_eq_some_iff.1 hk).1
        rw [hlv] at this; exact this
      rw [hat k hk4]
      exact hk
    let f : Nat → α := fun i => if h : i < len then (each i h).choose else x0
    have hfi : ∀ i (h : i < len), f i = (each i h).choose := fun i h => dif_pos h
    refine ⟨some a, _, (List.range len).map f, by simpa using hcs, fun hp2 => ?_, fun v hv => ?_, by simp; omega, hm⟩
    · have hp' : 0 < len := by simpa using hp2
      obtain ⟨b, off, spot⟩ := a
      have hlen0 := hlen (each 0 hp').choose (each 0 hp').choose_spec.2
      obtain ⟨c00, hc00⟩ : ∃ c, (cells (each 0 hp').choose)[0]? = some c := ⟨_, List.getElem?_eq_getElem (by omega)⟩
      have h00 := (each 0 hp').choose_spec.1 0 _ hc00
      have hspot : spot = none := by simpa [Addr.add] using World.cell?_spot h00
      subst hspot
      refine ⟨b, off, rfl, fun j v hv k c hk => ?_⟩
      have hjl : j < len := by have := (List.getElem?_eq_some_iff.1 hv).1; simpa using this
      have hv' : v = cells (f j) := by rw [List.getElem?_map, List.getElem?_map, List.getElem?_range hjl] at hv; exact (Option.some.inj hv).symm
      rw [hv', hfi j hjl] at hk
      have := (each j hjl).choose_spec.1 k c hk
      rw [Go.WideShapes.add_plain, Go.WideShapes.add_plain] at this
      exact this
    · obtain ⟨i, hi', rfl⟩ := List.mem_map.1 hv
      rw [hfi i (List.mem_range.1 hi')]
      exact (each i (List.mem_range.1 hi')).choose_spec.2
theorem bytes_in {fuel : Nat} {cs : List Value} {y : DataW H × List MemPlace} (h : DataW.trod enc Try.prog W 0 (fun _ => true) true fuel 28 cs = some y) : ∃ b : List Int, cs = b.map (Value.int .u8) ∧ b.length = 16 := by
  obtain ⟨xs, m, _, _, hl, hxl, hx⟩ := DataW.trod_array Try.underlying28 h
  have u1 : Try.prog.cellsOf 5 = 1 := by kernel_rfl
  have u2 : Try.prog.cellsOf 28 = 16 := by kernel_rfl
  rw [u1] at hx
  have hcl : cs.length = 16 := by first | exact hl.trans u2 | (rw [u2] at hl; exact hl) | simpa [u1] using hl
  have each : ∀ i, i < 16 → ∃ n : Int, cs[i]? = some (.int .u8 n) := fun i hi => by
    have h1 := hx i hi
    have h2 : (cs.drop (i * 1)).take 1 = [cs[i]'(by omega)] := by
      rw [Nat.mul_one, List.drop_eq_getElem_cons (by omega)]; rfl
    rw [h2, List.getElem?_eq_getElem (by omega)] at h1
    obtain ⟨n, hn, _⟩ := int_in Try.underlying5 h1
    exact ⟨n, by rw [List.getElem?_eq_getElem (by omega), hn]⟩
  refine ⟨(List.range 16).map (fun i => intOf (cs[i]?.getD undef)), ?_, by simp⟩
  apply List.ext_getElem?
  intro i
  by_cases hi : i < 16
  · obtain ⟨n, hn⟩ := each i hi
    rw [hn, List.map_map, List.getElem?_map, List.getElem?_range hi]
    simp [hn, intOf]
  · rw [List.getElem?_eq_none (by omega), List.getElem?_eq_none (by simp; omega)]
theorem cellsLine : Try.prog.cellsOf 30 = 18 := by kernel_rfl
theorem line_in {fuel : Nat} {cs : List Value} {y : DataW H × List MemPlace} (h : DataW.trod enc Try.prog W 0 (fun _ => true) true fuel 30 cs = some y) : ∃ e : Ln.E, cs = Ln.cells e ∧ Ln.Ok e := by
  obtain ⟨xs, n, _, _, hl, hlen, hg⟩ := DataW.trod_struct Try.underlying30 h
  have u1 : Try.prog.cellsOf 26 = 1 := by kernel_rfl
  have u2 : Try.prog.cellsOf 27 = 1 := by kernel_rfl
  have u3 : Try.prog.cellsOf 28 = 16 := by kernel_rfl
  rw [cellsLine] at hl
  match xs, hlen, cs, hl with
  | [y0, y1, y2], _, c0 :: c1 :: r, hr =>
    have hrl : r.length = 16 := by simpa using hr
    have g0 : DataW.trod enc Try.prog W 0 (fun _ => true) true n 26 [c0] = some y0 := by simpa [u1, u2, u3] using hg 0 _ rfl
    have g1 : DataW.trod enc Try.prog W 0 (fun _ => true) true n 27 [c1] = some y1 := by simpa [u1, u2, u3] using hg 1 _ rfl
    have g2 : DataW.trod enc Try.prog W 0 (fun _ => true) true n 28 r = some y2 := by simpa [u1, u2, u3, List.take_of_length_le, hrl] using hg 2 _ rfl
    obtain ⟨a0, rfl, w0⟩ := int_in Try.underlying26 g0
    obtain ⟨a1, rfl, w1⟩ := int_in Try.underlying27 g1
    obtain ⟨b, rfl, hb⟩ := bytes_in g2
    exact ⟨⟨a0, a1, b⟩, rfl, ⟨u32_of_wf w0, i64_of_wf w1, hb⟩⟩
namespace Ln
/-- a call: what, and its line -/
structure Act where
  k : Int
  e : E
def acells (x : Act) : List Value := .int .i64 x.k :: cells x.e
structure AOk (x : Act) : Prop where
  k : Ev.i64B x.k
  e : Ok x.e
def AV (x : Act) : Value := .agg (acells x).toArray
theorem AOk.len {x : Act} (h : AOk x) : (acells x).length = 19 := by unfold acells; rw [List.length_cons, h.e.len]
structure AsIn (w : World) (a : Option Addr) (c : Nat) (l : List Act) : Prop where
  rows : Ev.RowsIn w a 19 (l.map acells)
  ok : ∀ x ∈ l, AOk x
  le : l.length ≤ c
  max : c ≤ 9223372036854775807
end Ln
theorem cellsAct : Try.prog.cellsOf 56 = 19 := by kernel_rfl
theorem act_in {fuel : Nat} {cs : List Value} {y : DataW H × List MemPlace} (h : DataW.trod enc Try.prog W 0 (fun _ => true) true fuel 56 cs = some y) : ∃ x : Ln.Act, cs = Ln.acells x ∧ Ln.AOk x := by
  obtain ⟨xs, n, _, _, hl, hlen, hg⟩ := DataW.trod_struct Try.underlying56 h
  have u1 : Try.prog.cellsOf 3 = 1 := by kernel_rfl
  rw [cellsAct] at hl
  match xs, hlen, cs, hl with
  | [y0, y1], _, c0 :: r, hr =>
    have hrl : r.length = 18 := by simpa using hr
    have g0 : DataW.trod enc Try.prog W 0 (fun _ => true) true n 3 [c0] = some y0 := by simpa [u1, cellsLine] using hg 0 _ rfl
    have g1 : DataW.trod enc Try.prog W 0 (fun _ => true) true n 30 r = some y1 := by simpa [u1, cellsLine, List.take_of_length_le, hrl] using hg 1 _ rfl
    obtain ⟨a0, rfl, w0⟩ := int_in Try.underlying3 g0
    obtain ⟨e, rfl, he⟩ := line_in g1
    exact ⟨⟨a0, e⟩, rfl, ⟨i64_of_wf w0, he⟩⟩
theorem open_lines {a0 : Option Addr} {len cap : Nat} {d0 : DataW H} {p : List MemPlace} (h0 : DataW.Trod enc Try.prog W 0 (fun _ => true) true 38 (.slice a0 len cap) d0 p) :
    ∃ xs : List Ln.E, xs.length = len ∧ Ln.LsIn W a0 cap xs := by
  obtain ⟨fuel, hf⟩ := h0
  obtain ⟨a, c, xs, e, h1, h2, h3, h4⟩ := Ln.rows_in Ln.E0 Ln.cells Ln.Ok 18 cellsLine (by decide) (fun _ h => h.len) (fun _ _ _ h => line_in h) Try.underlying38 (c := .slice a0 len cap) (by simpa [Value.cells] using hf)
  obtain ⟨rfl, rfl, rfl⟩ : a0 = a ∧ len = xs.length ∧ cap = c := by simpa using e
  exact ⟨xs, rfl, ⟨h1, h2, h3, h4⟩⟩
theorem open_acts {a0 : Option Addr} {len cap : Nat} {d0 : DataW H} {p : List MemPlace} (h0 : DataW.Trod enc Try.prog W 0 (fun _ => true) true 44 (.slice a0 len cap) d0 p) :
    ∃ xs : List Ln.Act, xs.length = len ∧ Ln.AsIn W a0 cap xs := by
  obtain ⟨fuel, hf⟩ := h0
  obtain ⟨a, c, xs, e, h1, h2, h3, h4⟩ := Ln.rows_in (⟨0, Ln.E0⟩ : Ln.Act) Ln.acells Ln.AOk 19 cellsAct (by decide) (fun _ h => h.len) (fun _ _ _ h => act_in h) Try.underlying44 (c := .slice a0 len cap) (by simpa [Value.cells] using hf)
  obtain ⟨rfl, rfl, rfl⟩ : a0 = a ∧ len = xs.length ∧ cap = c := by simpa using e
  exact ⟨xs, rfl, ⟨h1, h2, h3, h4⟩⟩
theorem open_act {r : Reach} {b0 : Nat} {v : Value} {d : DataW H} {p : List MemPlace} (hv : Value.okWide Try.prog W r b0 56 v) (h : DataW.Trod enc Try.prog W 0 (fun _ => true) true 56 v d p) :
    ∃ x : Ln.Act, v = Ln.AV x ∧ Ln.AOk x := by
  obtain ⟨cs, rfl, hsz⟩ := okWide_struct Try.underlying56 hv
  obtain ⟨fuel, hf⟩ := h
  obtain ⟨x, hx, hok⟩ := act_in (cs := cs.toList) (by simpa [Value.cells] using hf)
  exact ⟨x, by unfold Ln.AV; rw [← hx], hok⟩
theorem open_ask {r : Reach} {b0 : Nat} {v : Value} {d : DataW H} {p : List MemPlace} (hv : Value.okWide Try.prog W r b0 52 v) (h : DataW.Trod enc Try.prog W 0 (fun _ => true) true 52 v d p) :
    ∃ n k : Int, v = .agg #[.int .u32 n, .int .i64 k] ∧ Ev.u32B n ∧ Ev.i64B k := by
  obtain ⟨cs, rfl, hsz⟩ := okWide_struct Try.underlying52 hv
  obtain ⟨l⟩ := cs
  obtain ⟨fuel, hf⟩ := h
  have u1 : Try.prog.cellsOf 3 = 1 := by kernel_rfl
  have u2 : Try.prog.cellsOf 26 = 1 := by kernel_rfl
  match l, hsz.trans (show Try.prog.cellsOf 52 = 2 from by kernel_rfl) with
  | [c0, c1], _ =>
    obtain ⟨xs, n, _, _, hl, hlen, hg⟩ := DataW.trod_struct Try.underlying52 hf
    match xs, hlen with
    | [y0, y1], _ =>
      have g0 : DataW.trod enc Try.prog W 0 (fun _ => true) true n 26 [c0] = some y0 := by simpa [Value.cells, u1, u2] using hg 0 _ rfl
      have g1 : DataW.trod enc Try.prog W 0 (fun _ => true) true n 3 [c1] = some y1 := by simpa [Value.cells, u1, u2] using hg 1 _ rfl
      obtain ⟨a0, rfl, w0⟩ := int_in Try.underlying26 g0
      obtain ⟨a1, rfl, w1⟩ := int_in Try.underlying3 g1
      exact ⟨a0, a1, rfl, u32_of_wf w0, i64_of_wf w1⟩
end
end Go.Proofs.Ytifniogldinbdaa
