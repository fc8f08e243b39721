/-
  What OrderFences lays: an execution of nothing, a new row of one number.
-/
import Derived.Test.YtoicmhidmknfiaaOrLay
namespace Go.Proofs.Ytoicmhidmknfiaa
open Go.Joins Go.ChangeShapes Go.WideShapes Go.ChangeAt Go.RowKit Go.Deep
set_option linter.unusedVariables false
set_option linter.unusedSimpArgs false
namespace Ev
theorem heap_at {w : World} {o : Obj} {n : Nat} (h : w.heap.size = n) : (w.alloc o).heap[n]? = some o := by rw [← h]; exact heap_alloc_new _ _
/-- an execution of nothing -/
def nilX : X := ⟨none, 0, [], ⟨none, 0, []⟩, none, 0, []⟩
theorem nilX_lay (w : World) : Lay w (w.alloc (.cells (xcells nilX).toArray 26)) w.heap.size nilX :=
  ⟨(Below.refl w.heap.size w).alloc (Nat.le_refl _) _, Nat.le_refl _, heap_alloc_new _ _, World.ownsRow_nil _ _ _ _, World.ownsRow_nil _ _ _ _, World.ownsRow_nil _ _ _ _, fun b s hs => by simp [nilX] at hs, fun b s hs => by simp [nilX] at hs, fun b c s t hs => by simp [nilX] at hs, fun y hy => by simp [nilX] at hy, fun n hn => by simp [nilX] at hn, fun s hs => by simp [nilX] at hs⟩
variable {w W : World} {B : Nat} {x : X}
/-- a new row of one number -/
theorem Lay.addRow (h : Lay w W B x) {n : Int} (hn : i64B n) {tmp : Obj} {v' : Value} {w1 : World}
    (hown : w1.ownsRow w.heap.size 23 1 v' (x.od.length + 1) (x.od.map Sl.v ++ [.slice (some ⟨W.heap.size, 0, none⟩) 1 1])) (hgrow : ((W.alloc (.cells #[.int .i64 n] 3)).alloc tmp).grownBy w1 (odV x).ownBlock) :
    ∃ a c, v' = .slice a (x.od.length + 1) c ∧ w1.heap[B]? = some (.cells (xcells x).toArray 26 (0, 0)) ∧ Lay w (w1.setCell ⟨B, 2, none⟩ v') B ⟨x.ae, x.ce, x.ev, x.fr, a, c, x.od ++ [⟨some ⟨W.heap.size, 0, none⟩, 1, [n]⟩]⟩ := by
  have hb := (Below.refl W.heap.size W).alloc (Nat.le_refl _) (.cells #[.int .i64 n] 3)
  have hL := h.kp hb
  refine hL.pushRow (s := ⟨some ⟨W.heap.size, 0, none⟩, 1, [n]⟩) (own_of h.bel.size (heap_alloc_new _ _) (show 1 ≤ maxLen by decide) rfl) (.inr fun e => ?_) (fun b t ht => .inr fun e => ?_) (fun m hm => ?_) hown hgrow
  · exact Nat.lt_irrefl _ (h.fr.lt _ e.symm).2
  · exact Nat.lt_irrefl _ ((h.row b t ht).lt _ e.symm).2
  · obtain rfl : m = n := by simpa using hm
    exact hn
theorem Lay.aoSome (h : Lay w W B x) (hl : 0 < x.od.length) : ∃ g, x.ao = some ⟨g, 0, none⟩ := by
  rcases h.od.2 with ⟨e, hn⟩ | ⟨g, cap, cur, e, _⟩
  · omega
  · exact ⟨g, by unfold odV at e; simp at e; exact e.1⟩
/-- what is laid behind i EvBegins -/
structure FenI (w W : World) (B i : Nat) (x : X) : Prop where
  lay : Lay w W B x
  bld : Bld x.ev x.fr.l (x.od.map (·.l))
  len : x.ev.length = i
  ol : x.od.length = i
/-- what is laid behind i numbers more -/
structure FenJ (w W : World) (B n i : Nat) (x : X) : Prop where
  lay : Lay w W B x
  bld : Bld x.ev x.fr.l (x.od.map (·.l))
  len : x.ev.length ≤ n + 2 * i
  ol : x.od.length = n
end Ev
set_option maxRecDepth 100000 in
theorem or_info_row : ∃ i, Try.prog.info? 23 = some i ∧ i.zero = some (.slice none 0 0) ∧ i.size = 1 ∧ i.bytes = 24 := ⟨_, rfl, by kernel_rfl, by kernel_rfl, by kernel_rfl⟩
end Go.Proofs.Ytoicmhidmknfiaa
