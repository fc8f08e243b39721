/-
  How the statements' arguments of layer 6 read as data: slices of numbers, of arrows.
-/
import Derived.Test.YtnlfdepeimjliaaEvKnown
import Derived.Test.YtnlfdepeimjliaaEvCirc
import Derived.ProofKit
import Derived.OpenShut
import Derived.Lib.SmallJoins
import Derived.Carry
import Derived.Deep.Slices
namespace Go.Proofs.Ytnlfdepeimjliaa
open Go.Joins Go.ChangeShapes Go.WideShapes Go.ChangeAt Go.RowKit Go.Deep
set_option linter.unusedVariables false
set_option linter.unusedSimpArgs false
theorem Ev.circ_ok {n : Nat} {ps : List (Int × Int)} (hr : Ev.InR n ps) {ba bc : Bool} (h1 : Ev.AcyR n ps ba) (h2 : Ev.CircR n ps bc) : bc = !ba := by
  rcases h1 with ⟨_, h⟩ | ⟨rfl, _, x, hx⟩ | ⟨rfl, _, h⟩
  · exact absurd hr h
  · cases bc
    · obtain ⟨L, ht, hL⟩ := h2.1 rfl
      exact absurd ⟨x, Ev.path_rev hx⟩ (Ev.topo_acyclic (Ev.inR_rev hr) ht hL)
    · rfl
  · exact h2.2 h
theorem own : ownKnob Try.prog.godebug = none := by kernel_rfl
theorem laidOut : laidOutB Try.prog = true := by kernel_rfl
theorem cellsInt : Try.prog.cellsOf 3 = 1 := by kernel_rfl
theorem cellsPair : Try.prog.cellsOf 39 = 2 := by kernel_rfl
theorem i64_of_wf {n : Int} (h : (Lit.int .i64 n).wf = true) : Ev.i64B n := by
  unfold Ev.i64B
  have h1 : IntKind.i64.min = -9223372036854775808 := by decide
  have h2 : IntKind.i64.max = 9223372036854775807 := by decide
  simp only [Lit.wf, h1, h2, Bool.and_eq_true, decide_eq_true_eq] at h; exact h
theorem int_in {H : Type} {enc : TypeId × Value → H} {P : Program} {W : World} {base : Nat} {sp : Nat → Bool} {held : Bool} {fuel : Nat} {t : TypeId} {q : IntKind} {c : Value} {y : DataW H × List MemPlace} (ht : P.underlying t = some (.int q))
    (h : DataW.trod enc P W base sp held fuel t [c] = some y) : ∃ n, c = .int q n ∧ (Lit.int q n).wf = true := by
  obtain ⟨n, hn, _, hw⟩ := DataW.trod_int ht h
  exact ⟨n, by simpa using hn, hw⟩
theorem open_numbers {H : Type} {enc : TypeId × Value → H} {W : World} {a0 : Option Addr} {len cap : Nat} {d0 : DataW H} {p : List MemPlace}
    (h0 : DataW.Trod enc Try.prog W 0 (fun _ => true) true 23 (.slice a0 len cap) d0 p) :
    ∃ xs : List Int, xs.length = len ∧ Ev.IntsIn W ⟨a0, cap, xs⟩ := by
  obtain ⟨fuel, hf⟩ := h0
  rcases open_ints Try.underlying23 Try.underlying3 cellsInt hf with ⟨hcs, hx⟩ | ⟨a, len', cap', zs, hcs, _, hl, hm, hz, hx, hcell, hwz⟩
  · simp [Value.cells] at hcs
    obtain ⟨rfl, rfl, rfl⟩ := hcs
    exact ⟨[], rfl, fun h => absurd h (by simp), by simp, by simp, fun x hx => by cases hx⟩
  · simp [Value.cells] at hcs
    obtain ⟨rfl, rfl, rfl⟩ := hcs
    simp only [if_true] at hz
    unfold maxLen at hm
    refine ⟨zs.take len, by simp; omega, fun hp => ?_, by simp; omega, hm, fun x hx => i64_of_wf (hwz x (List.mem_of_mem_take hx))⟩
    have hp' : 0 < zs.length := by simp at hp; omega
    obtain ⟨b, off, rfl, hc⟩ := ints_at hcell hp'
    refine ⟨b, off, rfl, fun j v hv => ?_⟩
    have hj' : j < len := by have := (List.getElem?_eq_some_iff.1 hv).1; simp at this; omega
    rw [hc j (by omega)]
    rw [List.getElem?_take_of_lt hj'] at hv
    simp [List.getD, hv]
theorem pair_in {H : Type} {enc : TypeId × Value → H} {W : World} {base : Nat} {sp : Nat → Bool} {held : Bool} {fuel : Nat} {cs : List Value} {y : DataW H × List MemPlace}
    (h : DataW.trod enc Try.prog W base sp held fuel 39 cs = some y) : ∃ v : Int × Int, cs = Ev.pz v ∧ Ev.i64B v.1 ∧ Ev.i64B v.2 := by
  obtain ⟨xs, n, _, _, hl, hlen, hg⟩ := DataW.trod_struct Try.underlying39 h
  have u1 : Try.prog.cellsOf 3 = 1 := cellsInt
  rw [cellsPair] at hl
  match xs, hlen, cs, hl with
  | [y0, y1], _, [c0, c1], _ =>
    have g0 : DataW.trod enc Try.prog W base sp held n 3 [c0] = some y0 := by simpa [u1] using hg 0 _ rfl
    have g1 : DataW.trod enc Try.prog W base sp held n 3 [c1] = some y1 := by simpa [u1] using hg 1 _ rfl
    obtain ⟨o, rfl, w0⟩ := int_in Try.underlying3 g0
    obtain ⟨d, rfl, w1⟩ := int_in Try.underlying3 g1
    exact ⟨(o, d), rfl, i64_of_wf w0, i64_of_wf w1⟩
theorem open_pairs {H : Type} {enc : TypeId × Value → H} {W : World} {a0 : Option Addr} {len cap : Nat} {d0 : DataW H} {p : List MemPlace}
    (h0 : DataW.Trod enc Try.prog W 0 (fun _ => true) true 32 (.slice a0 len cap) d0 p) :
    ∃ xs : List (Int × Int), xs.length = len ∧ Ev.PsIn W a0 cap xs := by
  obtain ⟨fuel, hf⟩ := h0
  rcases open_slice Try.underlying32 hf with ⟨hcs, _⟩ | ⟨a, len', cap', m, n, D, Pl, hcs, hb, hl, hm, hmm, hx, hi⟩
  · simp [Value.cells] at hcs
    obtain ⟨rfl, rfl, rfl⟩ := hcs
    exact ⟨[], rfl, ⟨fun h => absurd h (by simp), (fun x hx => (by cases hx)), by simp, by simp⟩⟩
  · simp [Value.cells] at hcs
    obtain ⟨rfl, rfl, rfl⟩ := hcs
    simp only [if_true] at hmm
    subst hmm
    unfold maxLen at hm
    rw [cellsPair] at hi
    have each : ∀ i, i < len → ∃ v : Int × Int, (∀ k c, (Ev.pz v)[k]? = some c → W.cell? ((a.add (i * 2)).add k) = some c) ∧ Ev.i64B v.1 ∧ Ev.i64B v.2 := fun i hil => by
      obtain ⟨cs', hc, ht⟩ := hi i (by omega)
      obtain ⟨v, rfl, hok⟩ := pair_in ht
      obtain ⟨_, hlen, hat⟩ := World.cells?_some hc
      refine ⟨v, fun k c hk => ?_, hok⟩
      have hk4 : k < 2 := by
        have := (List.getElem?_eq_some_iff.1 hk).1
        simpa [Ev.pz] using this
      rw [hat k hk4]
      exact hk
    let f : Nat → Int × Int := fun i => if h : i < len then (each i h).choose else (0, 0)
    have hfi : ∀ i (h : i < len), f i = (each i h).choose := fun i h => dif_pos h
    refine ⟨(List.range len).map f, by simp, ⟨fun hp => ?_, fun v hv => ?_, by simp; omega, hm⟩⟩
    · have hp' : 0 < len := by simpa using hp
      obtain ⟨b, off, spot⟩ := a
      have h00 := (each 0 hp').choose_spec.1 0 _ rfl
      have hspot : spot = none := by simpa [Addr.add] using World.cell?_spot h00
      subst hspot
      refine ⟨b, off, rfl, fun j v hv k c hk => ?_⟩
      have hjl : j < len := by have := (List.getElem?_eq_some_iff.1 hv).1; simpa using this
      have hv' : v = Ev.pz (f j) := by rw [List.getElem?_map, List.getElem?_map, List.getElem?_range hjl] at hv; exact (Option.some.inj hv).symm
      rw [hv', hfi j hjl] at hk
      have := (each j hjl).choose_spec.1 k c hk
      rw [Go.WideShapes.add_plain, Go.WideShapes.add_plain] at this
      exact this
    · obtain ⟨i, hi', rfl⟩ := List.mem_map.1 hv
      rw [hfi i (List.mem_range.1 hi')]
      exact (each i (List.mem_range.1 hi')).choose_spec.2
end Go.Proofs.Ytnlfdepeimjliaa
