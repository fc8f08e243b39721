/-
  What the laws ask of no cache, in cells.
-/
import Derived.Test.YtifniogldinbdaaLnSame0
import Derived.Test.YtifniogldinbdaaLnEq
namespace Go.Proofs.Ytifniogldinbdaa
open Go.RowKit
set_option linter.unusedVariables false
set_option linter.unusedSimpArgs false
theorem mk_find (w : World) : Calls Try.prog 11 #[.pointer none, .int .u32 1] w fun e w' => e = .returned (.tuple #[.agg #[.int .u32 0, .int .i64 0, .int .u8 0, .int .u8 0, .int .u8 0, .int .u8 0, .int .u8 0, .int .u8 0, .int .u8 0, .int .u8 0, .int .u8 0, .int .u8 0, .int .u8 0, .int .u8 0, .int .u8 0, .int .u8 0, .int .u8 0, .int .u8 0], .bool false]) ∧ Below w.heap.size w w' := find_nil 1 w
theorem mk_vic (w : World) : Calls Try.prog 12 #[.pointer none, .int .u32 1, .int .i64 0] w fun e w' => e = .returned (.tuple #[.agg #[.int .u32 0, .int .i64 0, .int .u8 0, .int .u8 0, .int .u8 0, .int .u8 0, .int .u8 0, .int .u8 0, .int .u8 0, .int .u8 0, .int .u8 0, .int .u8 0, .int .u8 0, .int .u8 0, .int .u8 0, .int .u8 0, .int .u8 0, .int .u8 0], .bool false]) ∧ Below w.heap.size w w' := victim_nil 1 0 w
theorem mk_put (w : World) : Calls Try.prog 14 #[.pointer none, .agg #[.int .u32 0, .int .i64 1, .int .u8 0, .int .u8 0, .int .u8 0, .int .u8 0, .int .u8 0, .int .u8 0, .int .u8 0, .int .u8 0, .int .u8 0, .int .u8 0, .int .u8 0, .int .u8 0, .int .u8 0, .int .u8 0, .int .u8 0, .int .u8 0]] w fun e w' => e = .returned (.int .i64 1) ∧ Below w.heap.size w w' := put_nil ⟨0, 1, Ln.E0.b⟩ w
theorem mk_neq (W : World) : (binOp .neq 30 (.agg #[.int .u32 0, .int .i64 0, .int .u8 0, .int .u8 0, .int .u8 0, .int .u8 0, .int .u8 0, .int .u8 0, .int .u8 0, .int .u8 0, .int .u8 0, .int .u8 0, .int .u8 0, .int .u8 0, .int .u8 0, .int .u8 0, .int .u8 0, .int .u8 0]) (.agg #[.int .u32 0, .int .i64 0, .int .u8 0, .int .u8 0, .int .u8 0, .int .u8 0, .int .u8 0, .int .u8 0, .int .u8 0, .int .u8 0, .int .u8 0, .int .u8 0, .int .u8 0, .int .u8 0, .int .u8 0, .int .u8 0, .int .u8 0, .int .u8 0])).run Try.prog W = .ok (.bool false) W := Ln.neq_line (a := Ln.E0) (b := Ln.E0) W Ln.E0_ok Ln.E0_ok
theorem Ln.Cache.kp2 {w w' : World} {F p ways Q} (h : Ln.Cache w F p ways Q) (hs : w'.heap.size = w.heap.size) (hb : ∀ k, F k → w'.heap[k]? = w.heap[k]?) : Ln.Cache w' F p ways Q := h.kept (by omega) hb
theorem Ln.bel_next {w W W' : World} {o : Obj} (h : Below w.heap.size w W) (hb : Below (W.alloc o).heap.size (W.alloc o) W') : Below w.heap.size w W' :=
  (h.alloc h.size o).trans (hb.mono (by have := h.size; simp; omega))
theorem Ln.bel_trans {w W W' : World} (h : Below w.heap.size w W) (hb : Below W.heap.size W W') : Below w.heap.size w W' := h.trans (hb.mono h.size)
end Go.Proofs.Ytifniogldinbdaa
