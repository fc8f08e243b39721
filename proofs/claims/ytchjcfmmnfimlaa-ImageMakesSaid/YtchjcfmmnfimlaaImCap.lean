/-
  Of a slice of bytes that came in and has no address: it has no room; and small steps of ImageMakes.
-/
import Derived.Test.YtchjcfmmnfimlaaImBox
import Derived.Test.YtchjcfmmnfimlaaOg3
import Derived.Maps.AppendAt
import Derived.Laws.AppendOwnNone
namespace Go.Proofs.Ytchjcfmmnfimlaa
open Go.ChangeShapes Go.WideShapes Go.ChangeAt Go.RowKit
set_option linter.unusedVariables false

theorem nil_cap {H : Type} {enc : TypeId × Value → H} {W : World} {a0 : Option Addr} {len cap : Nat} {d0 : DataW H} {p : List MemPlace}
    (h0 : DataW.Trod enc Try.prog W 0 (fun _ => true) true 22 (.slice a0 len cap) d0 p) (ha : a0 = none) : cap = 0 := by
  obtain ⟨fuel, hf⟩ := h0
  rcases open_ints Try.underlying22 Try.underlying5 cellsByte hf with ⟨hcs, hx⟩ | ⟨a, len', cap', zs, hcs, _, hl, hm, hz, hx, hcell, hwz⟩
  · simp [Value.cells] at hcs
    exact hcs.2.2
  · simp [Value.cells] at hcs
    rw [ha] at hcs
    simp at hcs
theorem own_cap {w : World} {base g n cap : Nat} {xs : List Value} (h : w.ownsRow base 5 1 (.slice (some ⟨g, 0, none⟩) n cap) n xs) : n ≤ cap ∧ cap ≤ 9223372036854775807 := by
  rcases h.2 with ⟨h1, _⟩ | ⟨g', cap', cur, h1, _, _, h2, h3, _⟩
  · simp at h1
  · injection h1 with _ _ e
    subst e
    unfold maxLen at h3
    omega
theorem own_lt {w : World} {base g n cap : Nat} {xs : List Value} (h : w.ownsRow base 5 1 (.slice (some ⟨g, 0, none⟩) n cap) n xs) : g < w.heap.size := (h.lt g rfl).2
/-- the first of the elements that are owned -/
theorem sl_front {w : World} {base g n cap : Nat} {xs ys : List Int} (h : w.ownsRow base 5 1 (.slice (some ⟨g, 0, none⟩) n cap) n (Im.vals (xs ++ ys))) : Sl w (some ⟨g, 0, none⟩) xs := fun _ => ⟨g, 0, rfl, fun j hj => by
  have hl : (xs ++ ys).length = n := by have := h.1; rw [len_vals] at this; omega
  rw [Nat.zero_add, own_cell h (by simp at hl; omega)]
  simp [List.getD_eq_getElem?_getD, List.getElem?_append_left hj]⟩
/-- the same slice behind what has grown since -/
theorem own_old {w w' : World} {base n : Nat} {v : Value} {xs : List Value} (h : w.ownsRow base 5 1 v n xs) (hb : Below w.heap.size w w') : w'.ownsRow base 5 1 v n xs := h.kept (row := none) (below_grown hb none) (by cases hv : v.ownBlock <;> simp)
theorem Im.byt_append {l r : List Int} (hl : Im.Byt l) (hr : Im.Byt r) : Im.Byt (l ++ r) := fun x hx => by
  rcases List.mem_append.1 hx with h | h
  · exact hl x h
  · exact hr x h
theorem vals_snoc (xs : List Int) (x : Int) : Im.vals xs ++ [Value.int .u8 x] = Im.vals (xs ++ [x]) := by simp [Im.vals]
end Go.Proofs.Ytchjcfmmnfimlaa
