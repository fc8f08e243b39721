/-
  Whether two messages are the same, as the model compares them.
-/
import Derived.Test.YtnfpcklpmfemiaaNtApp
import Derived.Test.YtnfpcklpmfemiaaOgT
import Derived.Laws.StructEq
namespace Go.Proofs.Ytnfpcklpmfemiaa
open Go.RowKit
set_option linter.unusedVariables false
set_option linter.unusedSimpArgs false
namespace Nt
theorem eq_struct5 {P : Program} (w : World) (d : Nat) {t : TypeId} {f0 f1 f2 f3 f4 : Field} (hs : P.underlying t = some (.struct #[f0, f1, f2, f3, f4])) (hp : P.stoodInHeld t = false) (xs ys : Array Value) (a0 a1 a2 a3 a4 b0 b1 b2 b3 b4 : Value) (r0 r1 r2 r3 r4 : Bool)
    (hn : f0.name ≠ "_" ∧ f1.name ≠ "_" ∧ f2.name ≠ "_" ∧ f3.name ≠ "_" ∧ f4.name ≠ "_")
    (x0 : (part f0.type xs f0.offset).run P w = .ok a0 w) (x1 : (part f1.type xs f1.offset).run P w = .ok a1 w) (x2 : (part f2.type xs f2.offset).run P w = .ok a2 w) (x3 : (part f3.type xs f3.offset).run P w = .ok a3 w) (x4 : (part f4.type xs f4.offset).run P w = .ok a4 w)
    (y0 : (part f0.type ys f0.offset).run P w = .ok b0 w) (y1 : (part f1.type ys f1.offset).run P w = .ok b1 w) (y2 : (part f2.type ys f2.offset).run P w = .ok b2 w) (y3 : (part f3.type ys f3.offset).run P w = .ok b3 w) (y4 : (part f4.type ys f4.offset).run P w = .ok b4 w)
    (e0 : (Op.equalIn d f0.type a0 b0).run P w = .ok r0 w) (e1 : (Op.equalIn d f1.type a1 b1).run P w = .ok r1 w) (e2 : (Op.equalIn d f2.type a2 b2).run P w = .ok r2 w) (e3 : (Op.equalIn d f3.type a3 b3).run P w = .ok r3 w) (e4 : (Op.equalIn d f4.type a4 b4).run P w = .ok r4 w) :
    (Op.equalIn (d + 1) t (.agg xs) (.agg ys)).run P w = .ok (r0 && (r1 && (r2 && (r3 && r4)))) w := by
  have hf : P.fieldsOf t = #[f0, f1, f2, f3, f4] := by simp [Program.fieldsOf, hs]
  rw [run_equalIn_struct w d t xs ys (by rw [hf]; exact hs) hp, hf]
  simp only [Op.eqFields, hn.1, hn.2.1, hn.2.2.1, hn.2.2.2.1, hn.2.2.2.2, ne_eq, not_false_eq_true, if_true, Sem.run_bind, x0, y0, e0, Result.andThen_ok]
  cases r0 <;> cases r1 <;> cases r2 <;> cases r3 <;> cases r4 <;> simp [e1, e2, e3, e4, x1, x2, x3, x4, y1, y2, y3, y4]
theorem sixteen {l : List Int} (h : l.length = 16) : ∃ a b c d e f g h i j k m n o p q, l = [a, b, c, d, e, f, g, h, i, j, k, m, n, o, p, q] := by
  match l, h with
  | [a, b, c, d, e, f, g, h, i, j, k, m, n, o, p, q], _ => exact ⟨a, b, c, d, e, f, g, h, i, j, k, m, n, o, p, q, rfl⟩

def bys (b : List Int) : List Value := b.map (Value.int .u8)
def sameB (a b : List Int) : Bool := (List.range 16).all fun i => a.getD i 0 == b.getD i 0
theorem part_by (w : World) (b : List Int) (hb : b.length = 16) (i : Nat) (hi : i < 16) : (part 5 (bys b).toArray (i * 1)).run Try.prog w = .ok (.int .u8 (b.getD i 0)) w := by
  have ha : (isAgg 5).run Try.prog w = .ok false w := by kernel_rfl
  have e : (bys b).toArray[i * 1]? = some (.int .u8 (b.getD i 0)) := by simp [bys, List.getD, hb, hi]
  unfold part
  simp only [Sem.run_bind, ha, Result.andThen_ok, e]
  rfl
theorem eq_items (d : Nat) (w : World) (a b : List Int) (ha : a.length = 16) (hb : b.length = 16) : ∀ is : List Nat, (∀ i ∈ is, i < 16) → (Op.eqItems (d + 1) 5 1 (bys a).toArray (bys b).toArray is).run Try.prog w = .ok (is.all fun i => a.getD i 0 == b.getD i 0) w
  | [], _ => by simp [Op.eqItems]
  | i :: is, hi => by
    have p1 := part_by w a ha i (hi i List.mem_cons_self)
    have p2 := part_by w b hb i (hi i List.mem_cons_self)
    have he := run_equalIn_int (P := Try.prog) w d 5 .u8 .u8 (a.getD i 0) (b.getD i 0) Try.underlying5
    have ih := eq_items d w a b ha hb is (fun j hj => hi j (List.mem_cons_of_mem _ hj))
    simp only [Op.eqItems, Sem.run_bind, p1, p2, he, Result.andThen_ok, List.all_cons]
    cases a.getD i 0 == b.getD i 0
    · simp
    · simpa using ih
theorem eq_bytes (d : Nat) (w : World) (a b : List Int) (ha : a.length = 16) (hb : b.length = 16) : (Op.equalIn (d + 2) 25 (.agg (bys a).toArray) (.agg (bys b).toArray)).run Try.prog w = .ok (sameB a b) w := by
  have hs : (Try.prog.info? 5).isSome = true := by kernel_rfl
  have u1 : Try.prog.cellsOf 5 = 1 := by kernel_rfl
  obtain ⟨i, hi⟩ := Option.isSome_iff_exists.1 hs
  rw [show d + 2 = (d + 1) + 1 from rfl, run_equalIn_array w (d + 1) _ _ Try.underlying25 hi, u1]
  exact eq_items d w a b ha hb (List.range 16) (fun j hj => List.mem_range.1 hj)
theorem sameB_iff {a b : List Int} (ha : a.length = 16) (hb : b.length = 16) : sameB a b = true ↔ a = b := by
  unfold sameB
  rw [List.all_eq_true]
  constructor
  · intro h
    apply List.ext_getElem (by omega)
    intro i h1 h2
    have := h i (List.mem_range.2 (by omega))
    simpa [List.getD, h1, h2] using this
  · rintro rfl i _
    simp
/-- are two messages the same -/
def eqM (a b : E) : Bool := a.k == b.k && (a.f == b.f && (a.t == b.t && (a.n == b.n && sameB a.b b.b)))
theorem eqM_iff {a b : E} (ha : Ok a) (hb : Ok b) : eqM a b = true ↔ a = b := by
  unfold eqM
  simp only [Bool.and_eq_true, sameB_iff ha.b hb.b]
  cases a; cases b
  simp
theorem eqM_self {a : E} (ha : Ok a) : eqM a a = true := (eqM_iff ha ha).2 rfl
set_option maxRecDepth 100000 in
theorem eq_msg (w : World) (a b : E) (ha : Ok a) (hb : Ok b) : (Op.equalIn 10000 57 (.agg (cells a).toArray) (.agg (cells b).toArray)).run Try.prog w = .ok (eqM a b) w := by
  obtain ⟨k, f, t, n, l⟩ := a
  obtain ⟨k', f', t', n', l'⟩ := b
  have pa : ∀ (e : E) (he : Ok e), (part 25 (cells e).toArray 4).run Try.prog w = .ok (.agg (bys e.b).toArray) w := by
    intro e he
    obtain ⟨k, f, t, n, b⟩ := e
    obtain ⟨b0, b1, b2, b3, b4, b5, b6, b7, b8, b9, b10, b11, b12, b13, b14, b15, rfl⟩ := sixteen he.b
    kernel_rfl
  exact eq_struct5 w 9999 Try.underlying57 (by kernel_rfl) _ _ (.int .i64 k) (.int .i64 f) (.int .i64 t) (.int .u32 n) (.agg (bys l).toArray) (.int .i64 k') (.int .i64 f') (.int .i64 t') (.int .u32 n') (.agg (bys l').toArray) _ _ _ _ _
    (by decide) (by kernel_rfl) (by kernel_rfl) (by kernel_rfl) (by kernel_rfl) (pa ⟨k, f, t, n, l⟩ ha) (by kernel_rfl) (by kernel_rfl) (by kernel_rfl) (by kernel_rfl) (pa ⟨k', f', t', n', l'⟩ hb)
    (run_equalIn_int w 9998 _ .i64 .i64 _ _ Try.underlying55) (run_equalIn_int w 9998 _ .i64 .i64 _ _ Try.underlying3) (run_equalIn_int w 9998 _ .i64 .i64 _ _ Try.underlying3) (run_equalIn_int w 9998 _ .u32 .u32 _ _ Try.underlying23) (eq_bytes 9997 w l l' ha.b hb.b)
theorem eql_msg (w : World) {a b : E} (ha : Ok a) (hb : Ok b) : (binOp .eql 57 (.agg (cells a).toArray) (.agg (cells b).toArray)).run Try.prog w = .ok (.bool (eqM a b)) w := by
  rw [run_eql_struct, eq_msg w a b ha hb]; rfl
theorem neq_msg (w : World) {a b : E} (ha : Ok a) (hb : Ok b) : (binOp .neq 57 (.agg (cells a).toArray) (.agg (cells b).toArray)).run Try.prog w = .ok (.bool (!eqM a b)) w := by
  rw [run_neq_struct, eq_msg w a b ha hb]; rfl
theorem guard_msg : Try.prog.eqGuardType Try.prog.depth 57 = false := by kernel_rfl
theorem neq_op {o : Oper} {ρ : Operand → Value} (x y : Operand) (ho : o.op = .binOp .neq 57 x y 57) {a b : E} (ha : Ok a) (hb : Ok b) (hx : ρ x = EV a) (hy : ρ y = EV b) (v : Bool) (hv : (!eqM a b) = v) (w : World) : (execOp ρ o).run Try.prog w = .ok (.value (.bool v)) w := by
  unfold EV at hx hy
  unfold execOp
  rw [ho]
  simp only [hx, hy]
  simp only [Sem.run_bind, run_eqGuard_agg w .neq 57 x y _ _ guard_msg, Result.andThen_ok, neq_msg w ha hb, hv, Sem.run_pure]
theorem eql_op {o : Oper} {ρ : Operand → Value} (x y : Operand) (ho : o.op = .binOp .eql 57 x y 57) {a b : E} (ha : Ok a) (hb : Ok b) (hx : ρ x = EV a) (hy : ρ y = EV b) (v : Bool) (hv : eqM a b = v) (w : World) : (execOp ρ o).run Try.prog w = .ok (.value (.bool v)) w := by
  unfold EV at hx hy
  unfold execOp
  rw [ho]
  simp only [hx, hy]
  simp only [Sem.run_bind, run_eqGuard_agg w .eql 57 x y _ _ guard_msg, Result.andThen_ok, eql_msg w ha hb, hv, Sem.run_pure]
theorem guard_bytes : Try.prog.eqGuardType Try.prog.depth 25 = false := by kernel_rfl
/-- are all bytes noughts -/
def zb (b : List Int) : Bool := sameB b E0.b
theorem neq_bytes {o : Oper} {ρ : Operand → Value} (x y : Operand) (ho : o.op = .binOp .neq 25 x y 25) {a : List Int} (ha : a.length = 16) (hx : ρ x = .agg (bys a).toArray) (hy : ρ y = .agg (bys E0.b).toArray) (w : World) : (execOp ρ o).run Try.prog w = .ok (.value (.bool (!zb a))) w := by
  unfold execOp
  rw [ho]
  simp only [hx, hy]
  have e : (binOp .neq 25 (.agg (bys a).toArray) (.agg (bys E0.b).toArray)).run Try.prog w = .ok (.bool (!zb a)) w := by
    rw [run_neq_struct, eq_bytes 9998 w a E0.b ha rfl]; rfl
  simp only [Sem.run_bind, run_eqGuard_agg w .neq 25 x y _ _ guard_bytes, Result.andThen_ok, e, Sem.run_pure]
theorem wpList_val {P : Program} {ops : Array Oper} {rest : List Oper} {o : Oper} {a : Act} {w : World} {Q : Exit → Act → World → Prop} (hgd : o.guard = none) {v : Value} (h : (execOp a.eval o).run P w = .ok (.value v) w) (hk : wpList P ops Q rest (a.put o.dst v) w) : wpList P ops Q (o :: rest) a w :=
  wpList_plain hgd fun _ hK => Og.run_to h (hK _ _ hk)
theorem wpList_val_g {P : Program} {ops : Array Oper} {rest : List Oper} {o : Oper} {a : Act} {w : World} {Q : Exit → Act → World → Prop} (hw : Region.wanted o (yielded ops a.tmps) = true) {v : Value} (h : (execOp a.eval o).run P w = .ok (.value v) w) (hk : wpList P ops Q rest (a.put o.dst v) w) : wpList P ops Q (o :: rest) a w := by
  unfold wpList
  rw [if_pos hw]
  exact .inl (Og.run_to h hk)
end Nt
end Go.Proofs.Ytnfpcklpmfemiaa
