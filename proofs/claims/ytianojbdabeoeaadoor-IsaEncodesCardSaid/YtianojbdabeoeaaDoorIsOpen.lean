/-
  How the statements' arguments of layer 3 read as data: an instruction, words, instructions; a world in which the library's listed tables lie as the program's text lays them.
-/
import Derived.Test.YtianojbdabeoeaaDoorCards
import Derived.Test.YtianojbdabeoeaaDoorTie
import Derived.Test.YtianojbdabeoeaaDoorIsRdec
import Derived.Test.YtianojbdabeoeaaDoorIsForm
import Derived.Test.YtianojbdabeoeaaDoorIsOpc
import Derived.Test.YtianojbdabeoeaaDoorIsF7
import Derived.ProofKit
import Derived.OpenShut
import Derived.Lib.SmallJoins
import Derived.Carry
import Derived.LaidMore
import Derived.Deep.DeepHandedRow
namespace Go.Proofs.YtianojbdabeoeaaDoor
open Go.ChangeShapes Go.WideShapes Go.ChangeAt Go.RowKit
set_option linter.unusedVariables false
theorem own : ownKnob Tryd.prog.godebug = none := by kernel_rfl
theorem laidOut : laidOutB Tryd.prog = true := by kernel_rfl
noncomputable def laidWorld (os : Os) : World := World.doorLaid Tryd.prog 200 os
theorem wf_i64 {n : Int} (h : (Lit.int .i64 n).wf = true) : -9223372036854775808 ≤ n ∧ n ≤ 9223372036854775807 := by
  simp [Lit.wf, IntKind.bits, IntKind.signed, IntKind.min, IntKind.max] at h; omega
theorem wf_u32 {n : Int} (h : (Lit.int .u32 n).wf = true) : Is.Wd n := by
  unfold Is.Wd
  simp [Lit.wf, IntKind.bits, IntKind.signed, IntKind.min, IntKind.max] at h; omega
theorem cellsWord : Tryd.prog.cellsOf 24 = 1 := by kernel_rfl
theorem cellsInst : Tryd.prog.cellsOf 30 = 7 := by kernel_rfl
/-- words that came in -/
def WordsIn (w : World) (a : Option Addr) (xs : List Int) : Prop :=
  (0 < xs.length → ∃ g o, a = some ⟨g, o, none⟩ ∧ ∀ j, j < xs.length → w.cell? ⟨g, o + j, none⟩ = some (.int .u32 (xs.getD j 0))) ∧ ∀ x ∈ xs, Is.Wd x
theorem open_words {H : Type} {enc : TypeId × Value → H} {W : World} {a0 : Option Addr} {len cap : Nat} {d0 : DataW H} {p : List MemPlace}
    (h0 : DataW.Trod enc Tryd.prog W 0 (fun _ => true) true 63 (.slice a0 len cap) d0 p) :
    ∃ xs : List Int, xs.length = len ∧ len ≤ 9223372036854775807 ∧ WordsIn W a0 xs := by
  obtain ⟨fuel, hf⟩ := h0
  rcases open_ints Tryd.underlying63 Tryd.underlying24 cellsWord hf with ⟨hcs, hx⟩ | ⟨a, len', cap', zs, hcs, _, hl, hm, hz, hx, hcell, hwz⟩
  · simp [Value.cells] at hcs
    obtain ⟨rfl, rfl, rfl⟩ := hcs
    exact ⟨[], rfl, by omega, fun h => absurd h (by simp), fun x hx => by cases hx⟩
  · simp [Value.cells] at hcs
    obtain ⟨rfl, rfl, rfl⟩ := hcs
    simp only [if_true] at hz
    unfold maxLen at hm
    refine ⟨zs.take len, by simp; omega, by omega, fun hp => ?_, fun x hx => wf_u32 (hwz x (List.mem_of_mem_take hx))⟩
    have hp' : 0 < zs.length := by simp at hp; omega
    obtain ⟨b, off, rfl, hc⟩ := ints_at hcell hp'
    refine ⟨b, off, rfl, fun j hj => ?_⟩
    have hj' : j < len := by simp at hj; omega
    rw [hc j (by omega)]
    simp [List.getD, List.getElem?_take_of_lt hj']
end Go.Proofs.YtianojbdabeoeaaDoor
