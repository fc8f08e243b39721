/-
  How the statements' arguments read as data: a slice of bytes, an array of sixteen, an access; and a law's last step.
-/
import Derived.Test.YtchjcfmmnfimlaaRows
import Derived.Test.YtchjcfmmnfimlaaImSized
import Derived.ProofKit
import Derived.OpenShut
import Derived.Lib.SmallJoins
import Derived.Carry
namespace Go.Proofs.Ytchjcfmmnfimlaa
open Go.ChangeShapes Go.WideShapes Go.ChangeAt Go.RowKit
set_option linter.unusedVariables false

theorem own : ownKnob Try.prog.godebug = none := by kernel_rfl
theorem laidOut : laidOutB Try.prog = true := by kernel_rfl
theorem cellsByte : Try.prog.cellsOf 5 = 1 := by kernel_rfl
theorem cellsArr : Try.prog.cellsOf 45 = 16 := by kernel_rfl
theorem cellsAcc : Try.prog.cellsOf 36 = 3 := by kernel_rfl
theorem okWide_array {P : Program} {w : World} {r : Reach} {base : Nat} {t e : TypeId} {n : Nat} {v : Value} (ht : P.underlying t = some (.array n e)) (h : Value.okWide P w r base t v) : ∃ cs, v = .agg cs ∧ cs.size = P.cellsOf t := by
  simp only [Value.okWide, ht] at h
  obtain ⟨cs, h1, h2, _⟩ := h
  exact ⟨cs, h1, h2⟩
theorem open_bytes {H : Type} {enc : TypeId × Value → H} {W : World} {a0 : Option Addr} {len cap : Nat} {d0 : DataW H} {p : List MemPlace}
    (h0 : DataW.Trod enc Try.prog W 0 (fun _ => true) true 22 (.slice a0 len cap) d0 p) :
    ∃ xs : List Int, xs.length = len ∧ len ≤ 9223372036854775807 ∧ BIn W a0 xs := by
  obtain ⟨fuel, hf⟩ := h0
  rcases open_ints Try.underlying22 Try.underlying5 cellsByte hf with ⟨hcs, hx⟩ | ⟨a, len', cap', zs, hcs, _, hl, hm, hz, hx, hcell, hwz⟩
  · simp [Value.cells] at hcs
    obtain ⟨rfl, rfl, rfl⟩ := hcs
    exact ⟨[], rfl, by omega, Sl.nil _ _, fun x hx => by cases hx⟩
  · simp [Value.cells] at hcs
    obtain ⟨rfl, rfl, rfl⟩ := hcs
    simp only [if_true] at hz
    unfold maxLen at hm
    refine ⟨zs.take len, by simp; omega, by omega, fun hp => ?_, fun x hx => bounds_u8 (hwz x (List.mem_of_mem_take hx))⟩
    have hp' : 0 < zs.length := by simp at hp; omega
    obtain ⟨b, off, rfl, hc⟩ := ints_at hcell hp'
    refine ⟨b, off, rfl, fun j hj => ?_⟩
    have hj' : j < len := by simp at hj; omega
    rw [hc j (by omega)]
    simp [List.getD, List.getElem?_take_of_lt hj']
theorem open_arr {H : Type} {enc : TypeId × Value → H} {W : World} {r : Reach} {b0 : Nat} {v : Value} {d0 : DataW H} {p : List MemPlace} (hv : Value.okWide Try.prog W r b0 45 v)
    (h0 : DataW.Trod enc Try.prog W 0 (fun _ => true) true 45 v d0 p) : ∃ ls : List Int, v = .agg (Im.vals ls).toArray ∧ ls.length = 16 ∧ Im.Byt ls := by
  obtain ⟨cs, rfl, hsz⟩ := okWide_array Try.underlying45 hv
  rw [cellsArr] at hsz
  obtain ⟨fuel, hf⟩ := h0
  obtain ⟨xs, m, rfl, _, hl, hxl, hx⟩ := DataW.trod_array Try.underlying45 hf
  rw [cellsByte] at hx
  have each : ∀ i, i < 16 → ∃ n : Int, cs[i]? = some (.int .u8 n) ∧ 0 ≤ n ∧ n ≤ 255 := fun i hi => by
    have h1 := hx i hi
    rw [List.getElem?_eq_getElem (by omega)] at h1
    obtain ⟨n, hn, _, hw⟩ := DataW.trod_int Try.underlying5 h1
    refine ⟨n, ?_, bounds_u8 hw⟩
    have h2 := congrArg (fun l : List Value => l[0]?) hn
    simp [Value.cells, List.getElem?_drop] at h2
    simpa using h2
  refine ⟨(List.range 16).map (fun i => intOf (cs[i]?.getD undef)), ?_, by simp, ?_⟩
  · congr 1
    apply Array.ext
    · simp [Im.vals, hsz]
    · intro i h1 h2
      obtain ⟨n, hn, _⟩ := each i (by omega)
      have h3 : cs[i] = .int .u8 n := by rw [Array.getElem?_eq_getElem h1] at hn; exact Option.some.inj hn
      simp [Im.vals, h3, h1, intOf]
  · intro x hx
    obtain ⟨i, hi, rfl⟩ := List.mem_map.1 hx
    obtain ⟨n, hn, h1, h2⟩ := each i (List.mem_range.1 hi)
    rw [hn]
    simpa [intOf] using And.intro h1 h2
theorem open_acc {H : Type} {enc : TypeId × Value → H} {W : World} {r : Reach} {b0 : Nat} {v : Value} {d0 : DataW H} {p : List MemPlace} (hv : Value.okWide Try.prog W r b0 36 v)
    (h0 : DataW.Trod enc Try.prog W 0 (fun _ => true) true 36 v d0 p) :
    ∃ x y z : Int, v = .agg #[.int .u32 x, .int .i64 y, .int .u32 z] ∧ (Lit.int .u32 x).wf = true ∧ (Lit.int .i64 y).wf = true ∧ (Lit.int .u32 z).wf = true := by
  obtain ⟨c0, c1, c2, y0, y1, y2, m, rfl, _, _, hy0, hy1, hy2⟩ := Joins.open_agg3 Try.underlying36 (by kernel_rfl) cellsAcc hv h0
  obtain ⟨x, hx, _, w0⟩ := DataW.trod_int Try.underlying34 hy0
  obtain ⟨y, hy, _, w1⟩ := DataW.trod_int Try.underlying3 hy1
  obtain ⟨z, hz, _, w2⟩ := DataW.trod_int Try.underlying34 hy2
  injection hx with hx; injection hy with hy; injection hz with hz
  subst hx hy hz
  exact ⟨x, y, z, rfl, w0, w1, w2⟩
end Go.Proofs.Ytchjcfmmnfimlaa
