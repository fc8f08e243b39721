/-
  A region that draws, whose operations read what stands until what waits for them is done, and which makes and turns memory: facts of the world that all its reads share. No program is named here.
-/
import Derived.Test.YtnfpcklpmfemiaaOgS
namespace Go.Proofs.Ytnfpcklpmfemiaa
set_option linter.unusedVariables false
namespace Og
open Go.RowKit
def SF (K : Nat) (Fa : World → Prop) (j : Nat) (x : World) : Prop := j < K → Fa x
theorem keep_sf {ops : Array Oper} {K : Nat} {Fa : World → Prop} {j : Nat} {w w' : World} (h : Fa w → Fa w') : Keep .any ops (SF K Fa) j w w' :=
  fun oj hoj i hij hno hS hi => h (hS hi)
theorem keep_last {ops : Array Oper} {K : Nat} {Fa : World → Prop} {j : Nat} {w w' : World} {o : Oper} (hj : ops[j]? = some o) (hall : ((List.range K).all fun i => decide (i = j) || o.after.any fun e => Region.binds .any e && e.on == i) = true) : Keep .any ops (SF K Fa) j w w' := by
  intro oj hoj i hij hno hS hi
  obtain rfl : o = oj := Option.some.inj (hj.symm.trans hoj)
  have h1 := List.all_eq_true.1 hall i (List.mem_range.2 hi)
  rw [Bool.or_eq_true] at h1
  rcases h1 with h1 | h1
  · exact absurd (of_decide_eq_true h1) hij
  · obtain ⟨k, hk, he⟩ := Array.any_eq_true.1 h1
    rw [Bool.and_eq_true] at he
    exact absurd (by simpa using he.2) (hno _ (Array.getElem_mem hk) he.1)
theorem run_to {P : Program} {o : Oper} {a : Act} {w w' : World} {v : Value} {K : Act → World → Prop} {Q : Exit → Act → World → Prop} (h : (execOp a.eval o).run P w = .ok (.value v) w') (hk : K (a.put o.dst v) w') : o.wp P a w K Q := by
  unfold Oper.wp; rw [h]; exact hk
theorem skip_to {P : Program} {o : Oper} {a : Act} {w w' : World} {K : Act → World → Prop} {Q : Exit → Act → World → Prop} (h : (execOp a.eval o).run P w = .ok .skip w') (hk : K (a.put o.dst undef) w') : o.wp P a w K Q := by
  unfold Oper.wp; rw [h]; exact hk
theorem append_to {P : Program} {o : Oper} {ρ : Operand → Value} {w w' : World} {v sl v' : Value} (s x : Operand) (t : TypeId) (ho : o.op = .call { callee := .builtin .append, args := #[s, x], argTypes := #[t, t] }) (hs : ρ s = v) (hx : ρ x = sl)
    (hr : (Builtin.append_ #[t, t] o.type #[v, sl]).run P w = .ok v' w') : (execOp ρ o).run P w = .ok (.value v') w' := by
  unfold execOp
  simp only [ho, resolve, invoke, builtin, Sem.run_bind, Sem.run_pure, Result.andThen_ok, List.map_toArray, List.map_cons, List.map_nil, hs, hx, hr]
theorem store_to {P : Program} {o : Oper} {ρ : Operand → Value} {w : World} {g b : Nat} {a : Option Addr} {n c : Nat} {u : Value} (ty : TypeId) (x y : Operand) (ho : o.op = .store ty x y) (hx : ρ x = .pointer (some ⟨g, b, none⟩)) (hy : ρ y = .slice a n c)
    (hi : (P.info? ty).map (·.size) = some 1) (hc : w.cell? ⟨g, b, none⟩ = some u) (hf : w.frozen? ⟨g, b, none⟩ = false) : (execOp ρ o).run P w = .ok .skip (w.setCell ⟨g, b, none⟩ (.slice a n c)) := by
  have h0 : (⟨g, b, none⟩ : Addr).add 0 = ⟨g, b, none⟩ := by unfold Addr.add; split <;> simp_all
  cases hq : P.info? ty with
  | none => simp [hq] at hi
  | some i =>
    have hs : i.size = 1 := by simpa [hq] using hi
    have hl : (Instr.storeAt ty (.pointer (some ⟨g, b, none⟩)) (.slice a n c)).run P w = .ok () (w.setCell ⟨g, b, none⟩ (.slice a n c)) := by
      simp [h0, Instr.storeAt, Instr.sureAddr, storeVar, Sem.run_bind, sizeOf, typeInfo, hq, hs, Value.cells, storeCells, run_store_slice, stored, hc, hf]
    unfold execOp
    simp only [ho, hx, hy, Sem.run_bind, hl, Sem.run_pure, Result.andThen_ok]
theorem row_to {P : Program} {o : Oper} {ρ : Operand → Value} {w : World} (ty : TypeId) (x y : Operand) (ho : o.op = .store ty x y) (g : Nat) (cells : Array Value) (hx : ρ x = .pointer (some ⟨g, 0, none⟩)) (hy : ρ y = .agg cells)
    (t : TypeId) (old : Array Value) (hg : w.heap[g]? = some (.cells old t (0, 0))) (hi : (P.info? ty).map (·.size) = some cells.size) (hold : old.size = cells.size) (h1 : cells.all (·.oneCell') = true) :
    (execOp ρ o).run P w = .ok .skip (w.setRow g cells) := by
  unfold execOp
  simp only [ho, hx, hy, Instr.storeAt, Instr.sureAddr, Sem.run_bind, Sem.run_pure, Result.andThen_ok, run_storeVar_row w g t ty old cells hg hi hold h1]
end Og
end Go.Proofs.Ytnfpcklpmfemiaa
