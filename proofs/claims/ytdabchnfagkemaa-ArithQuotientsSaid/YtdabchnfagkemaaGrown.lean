/-
  Small steps that each law of layer 1 takes.
-/
import Derived.Test.YtdabchnfagkemaaWorks
import Derived.RowKit3
namespace Go.Proofs.Ytdabchnfagkemaa
open Go.RowKit

theorem grown_drewN {W w' : World} (h : Grown W w') : ∀ n, Grown W (w'.drewN n)
  | 0 => h
  | n + 1 => by
    show Grown W ((w'.drewN n).drew)
    exact (grown_drewN h n).drew
theorem wf_wd {a : Int} (h : (Lit.int .u32 a).wf = true) : Ar.Wd a := by
  simp only [Lit.wf, IntKind.min, IntKind.max, IntKind.signed, IntKind.bits, Bool.and_eq_true] at h
  unfold Ar.Wd
  simp at h
  omega
theorem wf_i64 {a : Int} (h : (Lit.int .i64 a).wf = true) : -9223372036854775808 ≤ a ∧ a ≤ 9223372036854775807 := by
  simp only [Lit.wf, IntKind.min, IntKind.max, IntKind.signed, IntKind.bits, Bool.and_eq_true, decide_eq_true_eq] at h
  simp at h
  omega
end Go.Proofs.Ytdabchnfagkemaa
