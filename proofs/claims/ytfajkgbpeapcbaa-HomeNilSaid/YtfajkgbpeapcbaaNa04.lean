import Derived.Test.YtfajkgbpeapcbaaNa03
import Derived.Laws.Tables
set_option linter.unusedVariables false
set_option linter.unusedSimpArgs false

section
namespace Go.Proofs.Ytfajkgbpeapcbaa
namespace Og
open Go.RowKit
variable {P : Program}
inductive Sq where
  | is (v : Value)
  | new (o : Obj)
  | sl (o : Obj) (n m : Nat)
  | sat (p : Value → Prop)
def Sq.holds (B : Nat) : Sq → Value → World → Prop
  | .is u, v, _ => v = u
  | .new o, v, w => ∃ b, v = .pointer (some ⟨b, 0, none⟩) ∧ B ≤ b ∧ w.heap[b]? = some o
  | .sl o n m, v, w => ∃ b, v = .slice (some ⟨b, 0, none⟩) n m ∧ B ≤ b ∧ w.heap[b]? = some o
  | .sat p, v, _ => p v
theorem Sq.stab {B : Nat} (s : Sq) {v : Value} {w w' : World} (h : s.holds B v w) (hb : Below w.heap.size w w') : s.holds B v w' := by
  cases s with
  | is u => exact h
  | sat p => exact h
  | new o => obtain ⟨b, h1, h2, h3⟩ := h; exact ⟨b, h1, h2, (hb.block b (Array.getElem?_eq_some_iff.1 h3).1).trans h3⟩
  | sl o n m => obtain ⟨b, h1, h2, h3⟩ := h; exact ⟨b, h1, h2, (hb.block b (Array.getElem?_eq_some_iff.1 h3).1).trans h3⟩
def PhS (w : World) (g : Nat) (cs : Array Value) : Bool → World → Prop
  | false, x => Below w.heap.size w x
  | true, x => ∃ y, Below w.heap.size w y ∧ Below (y.setRow g cs).heap.size (y.setRow g cs) x
theorem PhS.old {w x : World} {g : Nat} {cs : Array Value} {b : Bool} (h : PhS w g cs b x) {k : Nat} {o : Obj} (hk : k ≠ g) (ho : w.heap[k]? = some o) : x.heap[k]? = some o := by
  have hlt := (Array.getElem?_eq_some_iff.1 ho).1
  cases b with
  | false => exact (Below.block h k hlt).trans ho
  | true =>
    obtain ⟨y, h1, h2⟩ := h
    have h3 : (y.setRow g cs).heap[k]? = some o := (setRow_other y g k cs hk).trans ((h1.block k hlt).trans ho)
    exact (h2.block k (Array.getElem?_eq_some_iff.1 h3).1).trans h3
theorem PhS.cell {w x : World} {g : Nat} {cs : Array Value} {b : Bool} (h : PhS w g cs b x) {k j : Nat} {cells : Array Value} {t : TypeId} {fr : Nat × Nat} (hk : k ≠ g) (ho : w.heap[k]? = some (.cells cells t fr)) : x.cell? ⟨k, j, none⟩ = cells[j]? := by
  rw [cell_of_row x k j _ _ _ (h.old hk ho)]
theorem PhS.below {w0 w x : World} {g B : Nat} {cs : Array Value} (h : PhS w g cs true x) (h0 : Below B w0 w) (hB : B ≤ w.heap.size) (hg : B ≤ g) : Below B w0 x := by
  obtain ⟨y, h1, h2⟩ := h
  have h3 : Below B w0 (y.setRow g cs) := (h0.trans (h1.mono hB)).trans ⟨rfl, rfl, rfl, by simp [World.setRow], fun k hk => setRow_other y g k cs (by omega)⟩
  exact h3.trans (h2.mono (by have := h3.size; have := h0.size; have := h1.size; simp [World.setRow] at *; omega))
theorem PhS.new {w x : World} {g : Nat} {cs old : Array Value} {t : TypeId} {fr : Nat × Nat} (h : PhS w g cs true x) (ho : w.heap[g]? = some (.cells old t fr)) : x.heap[g]? = some (.cells cs t fr) := by
  obtain ⟨y, h1, h2⟩ := h
  have h3 : y.heap[g]? = some (.cells old t fr) := (h1.block g (Array.getElem?_eq_some_iff.1 ho).1).trans ho
  have h4 : (y.setRow g cs).heap[g]? = some (.cells cs t fr) := setRow_heap _ _ _ _ _ _ h3
  exact (h2.block g (Array.getElem?_eq_some_iff.1 h4).1).trans h4
structure Kept (q g : Nat) (w w' : World) : Prop where
  os : w'.os = w.os
  tape : w'.tape = w.tape
  output : w'.output = w.output
  size : w.heap.size ≤ w'.heap.size
  block : ∀ k, k < w.heap.size → k ≠ q → k ≠ g → w'.heap[k]? = w.heap[k]?
theorem Kept.refl (q g : Nat) (w : World) : Kept q g w w := ⟨rfl, rfl, rfl, Nat.le_refl _, fun _ _ _ _ => rfl⟩
theorem Kept.trans {q g : Nat} {a b c : World} (h : Kept q g a b) (k : Kept q g b c) : Kept q g a c :=
  ⟨k.os.trans h.os, k.tape.trans h.tape, k.output.trans h.output, Nat.le_trans h.size k.size, fun i hi h1 h2 => (k.block i (Nat.lt_of_lt_of_le hi h.size) h1 h2).trans (h.block i hi h1 h2)⟩
theorem Kept.of_below {q g : Nat} {w w' : World} (h : Below w.heap.size w w') : Kept q g w w' := ⟨h.os, h.tape, h.output, h.size, fun k hk _ _ => h.block k hk⟩
theorem Kept.setCell {q g : Nat} {a w : World} (h : Kept q g a w) (j : Nat) (u : Value) : Kept q g a (w.setCell ⟨q, j, none⟩ u) :=
  h.trans ⟨rfl, rfl, rfl, by simp [World.setCell], fun k hk h1 _ => Below.heap_setCell _ _ _ _ (by simpa using h1)⟩
theorem Kept.below {q g : Nat} {a b c : World} (h : Kept q g a b) (k : Below b.heap.size b c) : Kept q g a c := h.trans (Kept.of_below k)
theorem Kept.setRow {q g r : Nat} {a w : World} (h : Kept q g a w) (hr : a.heap.size ≤ r) (cs : Array Value) : Kept q g a (w.setRow r cs) :=
  ⟨h.os, h.tape, h.output, by simpa [World.setRow] using h.size, fun k hk h1 h2 => (setRow_other w r k cs (by omega)).trans (h.block k hk h1 h2)⟩
def PhK (w : World) (q g : Nat) (Post : World → Prop) : Bool → World → Prop
  | false, x => Below w.heap.size w x
  | true, x => ∃ y z, Below w.heap.size w y ∧ Kept q g y z ∧ Post z ∧ Below z.heap.size z x
theorem PhK.old {w x : World} {q g : Nat} {Post : World → Prop} {b : Bool} (h : PhK w q g Post b x) {k : Nat} {o : Obj} (h1 : k ≠ q) (h2 : k ≠ g) (ho : w.heap[k]? = some o) : x.heap[k]? = some o := by
  have hlt := (Array.getElem?_eq_some_iff.1 ho).1
  cases b with
  | false => exact (Below.block h k hlt).trans ho
  | true =>
    obtain ⟨y, z, hy, hz, _, hx⟩ := h
    have e1 : y.heap[k]? = some o := (hy.block k hlt).trans ho
    have e2 : z.heap[k]? = some o := (hz.block k (Array.getElem?_eq_some_iff.1 e1).1 h1 h2).trans e1
    exact (hx.block k (Array.getElem?_eq_some_iff.1 e2).1).trans e2
theorem PhK.size {w x : World} {q g : Nat} {Post : World → Prop} {b : Bool} (h : PhK w q g Post b x) : w.heap.size ≤ x.heap.size := by
  cases b with
  | false => exact Below.size h
  | true => obtain ⟨y, z, hy, hz, _, hx⟩ := h; exact Nat.le_trans hy.size (Nat.le_trans hz.size hx.size)
theorem PhK.kept {w x : World} {q g : Nat} {Post : World → Prop} {b : Bool} (h : PhK w q g Post b x) : Kept q g w x := by
  cases b with
  | false => exact Kept.of_below h
  | true => obtain ⟨y, z, hy, hz, _, hx⟩ := h; exact ((Kept.of_below hy).trans hz).below hx
end Og
end Go.Proofs.Ytfajkgbpeapcbaa
end

section
namespace Go.Proofs.Ytfajkgbpeapcbaa
open Go.RowKit
theorem reach_range (p g n first sz : Nat) (bits : Int) (F : Value) (h : first ≤ 68719476735) (hs : (sz = 1 ∧ bits = 8) ∨ (sz = 2 ∧ bits = 16) ∨ (sz = 4 ∧ bits = 32) ∨ (sz = 16 ∧ bits = 128)) (ha : first % sz = 0) (hr : n ≤ first) (w : World) (hn : 16 ≤ n ∧ n ≤ 4096)
    (hc : w.cell? ⟨p, 0, none⟩ = some (.slice (some ⟨g, 0, none⟩) n n)) :
    Calls Try.prog 101 #[.pointer (some ⟨p, 0, none⟩), .int .u64 first, .int .i64 bits, F] w fun e w' => e = .returned (.int .i64 4) ∧ w = w' := by
  have h0 : ((n : Int) == 0) = false := by simp; omega
  have HC := Lib.hid hc; clear hc
  rcases hs with ⟨rfl, rfl⟩ | ⟨rfl, rfl⟩ | ⟨rfl, rfl⟩ | ⟨rfl, rfl⟩
  · have h1 : ((first : Int) % 1 != 0) = false := by simp only [bne_eq_false_iff_eq]; omega
    clear ha
    go_enter Try.func101, Try.ntmps101
    go_wp2_with (go_at_call 91; refine (own_any _ _ _ _ HC.out).mono ?_; rintro e w' ⟨rfl, rfl⟩)
    go_ret
    exact ⟨rfl, rfl⟩
  · have h1 : ((first : Int) % 2 != 0) = false := by simp only [bne_eq_false_iff_eq]; omega
    clear ha
    go_enter Try.func101, Try.ntmps101
    go_wp2_with (go_at_call 91; refine (own_any _ _ _ _ HC.out).mono ?_; rintro e w' ⟨rfl, rfl⟩)
    go_ret
    exact ⟨rfl, rfl⟩
  · have h1 : ((first : Int) % 4 != 0) = false := by simp only [bne_eq_false_iff_eq]; omega
    clear ha
    go_enter Try.func101, Try.ntmps101
    go_wp2_with (go_at_call 91; refine (own_any _ _ _ _ HC.out).mono ?_; rintro e w' ⟨rfl, rfl⟩)
    go_ret
    exact ⟨rfl, rfl⟩
  · have h1 : ((first : Int) % 16 != 0) = false := by simp only [bne_eq_false_iff_eq]; omega
    clear ha
    go_enter Try.func101, Try.ntmps101
    go_wp2_with (go_at_call 91; refine (own_any _ _ _ _ HC.out).mono ?_; rintro e w' ⟨rfl, rfl⟩)
    go_ret
    exact ⟨rfl, rfl⟩
set_option maxHeartbeats 4000000 in
theorem reach_goes (p g n first sz : Nat) (bits : Int) (f : FuncId) (hf : f = 103 ∨ f = 120) (cap : Addr) (Post : World → Prop)
    (hs : (sz = 1 ∧ bits = 8) ∨ (sz = 2 ∧ bits = 16) ∨ (sz = 4 ∧ bits = 32) ∨ (sz = 16 ∧ bits = 128)) (ha : first % sz = 0) (hr : first + sz ≤ n) (w : World) (hn : 16 ≤ n ∧ n ≤ 4096)
    (hc : w.cell? ⟨p, 0, none⟩ = some (.slice (some ⟨g, 0, none⟩) n n))
    (hk : Calls Try.prog f #[.slice (some ⟨g, first, none⟩) sz sz, .pointer (some cap)] w fun e w' => e = .returned (.tuple #[]) ∧ Post w') :
    Calls Try.prog 101 #[.pointer (some ⟨p, 0, none⟩), .int .u64 first, .int .i64 bits, .func (.func f) #[] #[.pointer (some cap)]] w fun e w' => e = .returned (.int .i64 0) ∧ Post w' := by
  have h0 : ((n : Int) == 0) = false := by simp; omega
  have HC := Lib.hid hc; clear hc
  have HK := Lib.hid hk; clear hk
  rcases hs with ⟨rfl, rfl⟩ | ⟨rfl, rfl⟩ | ⟨rfl, rfl⟩ | ⟨rfl, rfl⟩
  · have h1 : ((first : Int) % 1 != 0) = false := by simp only [bne_eq_false_iff_eq]; omega
    clear ha
    rcases hf with rfl | rfl
    all_goals
      go_enter Try.func101, Try.ntmps101
      go_wp2_with (first
        | (go_at_call 91; refine (own_any _ _ _ _ HC.out).mono ?_; rintro e w' ⟨rfl, rfl⟩)
        | (refine HK.out.mono ?_; rintro e w' ⟨rfl, hpost⟩))
      go_ret
      exact ⟨rfl, hpost⟩
  · have h1 : ((first : Int) % 2 != 0) = false := by simp only [bne_eq_false_iff_eq]; omega
    clear ha
    rcases hf with rfl | rfl
    all_goals
      go_enter Try.func101, Try.ntmps101
      go_wp2_with (first
        | (go_at_call 91; refine (own_any _ _ _ _ HC.out).mono ?_; rintro e w' ⟨rfl, rfl⟩)
        | (refine HK.out.mono ?_; rintro e w' ⟨rfl, hpost⟩))
      go_ret
      exact ⟨rfl, hpost⟩
  · have h1 : ((first : Int) % 4 != 0) = false := by simp only [bne_eq_false_iff_eq]; omega
    clear ha
    rcases hf with rfl | rfl
    all_goals
      go_enter Try.func101, Try.ntmps101
      go_wp2_with (first
        | (go_at_call 91; refine (own_any _ _ _ _ HC.out).mono ?_; rintro e w' ⟨rfl, rfl⟩)
        | (refine HK.out.mono ?_; rintro e w' ⟨rfl, hpost⟩))
      go_ret
      exact ⟨rfl, hpost⟩
  · have h1 : ((first : Int) % 16 != 0) = false := by simp only [bne_eq_false_iff_eq]; omega
    clear ha
    rcases hf with rfl | rfl
    all_goals
      go_enter Try.func101, Try.ntmps101
      go_wp2_with (first
        | (go_at_call 91; refine (own_any _ _ _ _ HC.out).mono ?_; rintro e w' ⟨rfl, rfl⟩)
        | (refine HK.out.mono ?_; rintro e w' ⟨rfl, hpost⟩))
      go_ret
      exact ⟨rfl, hpost⟩
end Go.Proofs.Ytfajkgbpeapcbaa
end

section
namespace Go.Proofs.Ytfajkgbpeapcbaa
set_option maxRecDepth 100000
namespace Og
open Go.RowKit
def SF (K : Nat) (Fa : World → Prop) (j : Nat) (x : World) : Prop := j < K → Fa x
theorem keep_sf {ops : Array Oper} {K : Nat} {Fa : World → Prop} {j : Nat} {w w' : World} (h : Fa w → Fa w') : Keep .any ops (SF K Fa) j w w' :=
  fun oj hoj i hij hno hS hi => h (hS hi)
theorem keep_last {ops : Array Oper} {K : Nat} {Fa : World → Prop} {j : Nat} {w w' : World} {o : Oper} (hj : ops[j]? = some o) (hall : ((List.range K).all fun i => decide (i = j) || o.after.any fun e => Region.binds .any e && e.on == i) = true) : Keep .any ops (SF K Fa) j w w' := by
  intro oj hoj i hij hno hS hi
  obtain rfl : o = oj := Option.some.inj (hj.symm.trans hoj)
  have h1 := List.all_eq_true.1 hall i (List.mem_range.2 hi)
  rw [Bool.or_eq_true] at h1
  rcases h1 with h1 | h1
  · exact absurd (of_decide_eq_true h1) hij
  · obtain ⟨k, hk, he⟩ := Array.any_eq_true.1 h1
    rw [Bool.and_eq_true] at he
    exact absurd (by simpa using he.2) (hno _ (Array.getElem_mem hk) he.1)
theorem run_to {P : Program} {o : Oper} {a : Act} {w w' : World} {v : Value} {K : Act → World → Prop} {Q : Exit → Act → World → Prop} (h : (execOp a.eval o).run P w = .ok (.value v) w') (hk : K (a.put o.dst v) w') : o.wp P a w K Q := by
  unfold Oper.wp; rw [h]; exact hk
theorem skip_to {P : Program} {o : Oper} {a : Act} {w w' : World} {K : Act → World → Prop} {Q : Exit → Act → World → Prop} (h : (execOp a.eval o).run P w = .ok .skip w') (hk : K (a.put o.dst undef) w') : o.wp P a w K Q := by
  unfold Oper.wp; rw [h]; exact hk
theorem append_to {P : Program} {o : Oper} {ρ : Operand → Value} {w w' : World} {v sl v' : Value} (s x : Operand) (t : TypeId) (ho : o.op = .call { callee := .builtin .append, args := #[s, x], argTypes := #[t, t] }) (hs : ρ s = v) (hx : ρ x = sl)
    (hr : (Builtin.append_ #[t, t] o.type #[v, sl]).run P w = .ok v' w') : (execOp ρ o).run P w = .ok (.value v') w' := by
  unfold execOp
  simp only [ho, resolve, invoke, builtin, Sem.run_bind, Sem.run_pure, Result.andThen_ok, List.map_toArray, List.map_cons, List.map_nil, hs, hx, hr]
theorem row_to {P : Program} {o : Oper} {ρ : Operand → Value} {w : World} (ty : TypeId) (x y : Operand) (ho : o.op = .store ty x y) (g : Nat) (cells : Array Value) (hx : ρ x = .pointer (some ⟨g, 0, none⟩)) (hy : ρ y = .agg cells)
    (t : TypeId) (old : Array Value) (hg : w.heap[g]? = some (.cells old t (0, 0))) (hi : (P.info? ty).map (·.size) = some cells.size) (hold : old.size = cells.size) (h1 : cells.all (·.oneCell') = true) :
    (execOp ρ o).run P w = .ok .skip (w.setRow g cells) := by
  unfold execOp
  simp only [ho, hx, hy, Instr.storeAt, Instr.sureAddr, Sem.run_bind, Sem.run_pure, Result.andThen_ok, run_storeVar_row w g t ty old cells hg hi hold h1]
end Og
end Go.Proofs.Ytfajkgbpeapcbaa
end

section
namespace Go.Proofs.Ytfajkgbpeapcbaa
open Go.RowKit Go.Maps
theorem one_new (w : World) (v : Value) (t : TypeId) {w1 : World} (hb1 : Below (w.alloc (.cells #[v] t)).heap.size (w.alloc (.cells #[v] t)) w1) :
    Below w.heap.size w w1 ∧ w1.cell? ⟨w.heap.size, 0, none⟩ = some v ∧ w1.frozen? ⟨w.heap.size, 0, none⟩ = false := by
  have hz : (w.alloc (Obj.cells #[v] t)).heap.size = w.heap.size + 1 := by simp
  refine ⟨((Below.refl w.heap.size w).alloc (Nat.le_refl _) _).trans (hb1.mono (by omega)), ?_, ?_⟩
  · exact (hb1.cell (p := ⟨w.heap.size, 0, none⟩) (by rw [hz]; exact Nat.lt_succ_self _)).trans (by rw [World.cell?_alloc_at _ _ _ _ rfl]; rfl)
  · exact (hb1.frozen (p := ⟨w.heap.size, 0, none⟩) (by rw [hz]; exact Nat.lt_succ_self _)).trans (World.frozen?_alloc_at _ _ _ _ rfl)
end Go.Proofs.Ytfajkgbpeapcbaa
end
