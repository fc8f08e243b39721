/-
  How a slice of bytes reads; what OrderReserves lays first.
-/
import Derived.Test.YtoicmhidmknfiaaOrLaw
import Derived.Test.YtoicmhidmknfiaaEvLay
import Derived.Test.YtoicmhidmknfiaaOgS
namespace Go.Proofs.Ytoicmhidmknfiaa
open Go.Joins Go.ChangeShapes Go.WideShapes Go.ChangeAt Go.RowKit Go.Deep
set_option linter.unusedVariables false
set_option linter.unusedSimpArgs false
namespace Ev
/-- a goal that a walk does not see through -/
structure Stop (p : Prop) : Prop where
  out : p
theorem cells_one (y : R) : ∀ u ∈ cells y, u.oneCell' = true := by
  intro u hu
  unfold cells at hu
  simp only [List.mem_cons, List.not_mem_nil, or_false] at hu
  rcases hu with rfl | rfl | rfl | rfl | rfl | rfl | rfl | rfl | rfl | rfl | rfl | rfl | rfl <;> rfl
theorem nv_one (n : Int) : ∀ u ∈ [nv n], u.oneCell' = true := by
  intro u hu
  obtain rfl : u = nv n := by simpa using hu
  rfl
/-- bytes in memory -/
def BsIn (w : World) (a : Option Addr) (xs : List Int) : Prop :=
  (0 < xs.length → ∃ g o, a = some ⟨g, o, none⟩ ∧ ∀ j v, xs[j]? = some v → w.cell? ⟨g, o + j, none⟩ = some (.int .u8 v)) ∧ ∀ v ∈ xs, 0 ≤ v ∧ v ≤ 255
theorem BsIn.kp {w w' : World} {a xs} (h : BsIn w a xs) (k : Kp w w') : BsIn w' a xs :=
  ⟨fun hp => by
    obtain ⟨g, o, e, hc⟩ := h.1 hp
    exact ⟨g, o, e, fun j v hv => k _ _ (hc j v hv)⟩, h.2⟩
end Ev
theorem cellsByte : Try.prog.cellsOf 5 = 1 := by kernel_rfl
theorem u8_of_wf {n : Int} (h : (Lit.int .u8 n).wf = true) : 0 ≤ n ∧ n ≤ 255 := by
  have h1 : IntKind.u8.min = 0 := by decide
  have h2 : IntKind.u8.max = 255 := by decide
  simp only [Lit.wf, h1, h2, Bool.and_eq_true, decide_eq_true_eq] at h; exact h
theorem open_bytes {H : Type} {enc : TypeId × Value → H} {W : World} {a0 : Option Addr} {len cap : Nat} {d0 : DataW H} {p : List MemPlace}
    (h0 : DataW.Trod enc Try.prog W 0 (fun _ => true) true 59 (.slice a0 len cap) d0 p) :
    ∃ xs : List Int, xs.length = len ∧ len ≤ 9223372036854775807 ∧ Ev.BsIn W a0 xs := by
  obtain ⟨fuel, hf⟩ := h0
  rcases open_ints Try.underlying59 Try.underlying5 cellsByte hf with ⟨hcs, hx⟩ | ⟨a, len', cap', zs, hcs, _, hl, hm, hz, hx, hcell, hwz⟩
  · simp [Value.cells] at hcs
    obtain ⟨rfl, rfl, rfl⟩ := hcs
    exact ⟨[], rfl, by omega, fun h => absurd h (by simp), fun x hx => by cases hx⟩
  · simp [Value.cells] at hcs
    obtain ⟨rfl, rfl, rfl⟩ := hcs
    simp only [if_true] at hz
    unfold maxLen at hm
    refine ⟨zs.take len, by simp; omega, by omega, fun hp => ?_, fun x hx => u8_of_wf (hwz x (List.mem_of_mem_take hx))⟩
    have hp' : 0 < zs.length := by simp at hp; omega
    obtain ⟨b, off, rfl, hc⟩ := ints_at hcell hp'
    refine ⟨b, off, rfl, fun j v hv => ?_⟩
    have hj' : j < len := by have := (List.getElem?_eq_some_iff.1 hv).1; simp at this; omega
    rw [hc j (by omega)]
    rw [List.getElem?_take_of_lt hj'] at hv
    simp [List.getD, hv]
theorem heap_a6 (w : World) (A B C D E F : Obj) : (((((((w.alloc A).alloc B).alloc C).alloc D).alloc E).alloc F).heap[w.heap.size]? = some A ∧ ((((((w.alloc A).alloc B).alloc C).alloc D).alloc E).alloc F).heap[w.heap.size + 1]? = some B ∧
    ((((((w.alloc A).alloc B).alloc C).alloc D).alloc E).alloc F).heap[w.heap.size + 1 + 1]? = some C ∧ ((((((w.alloc A).alloc B).alloc C).alloc D).alloc E).alloc F).heap[w.heap.size + 1 + 1 + 1]? = some D ∧ ((((((w.alloc A).alloc B).alloc C).alloc D).alloc E).alloc F).heap[w.heap.size + 1 + 1 + 1 + 1]? = some E ∧ ((((((w.alloc A).alloc B).alloc C).alloc D).alloc E).alloc F).heap[w.heap.size + 1 + 1 + 1 + 1 + 1]? = some F) := by
  obtain ⟨h0, h1, h2, h3, h4⟩ := heap_a5 w A B C D E
  have hs : (((((w.alloc A).alloc B).alloc C).alloc D).alloc E).heap.size = w.heap.size + 1 + 1 + 1 + 1 + 1 := by simp only [World.size_alloc]
  have old : ∀ (o : Obj) (i : Nat) (x : Obj), (((((w.alloc A).alloc B).alloc C).alloc D).alloc E).heap[i]? = some x → ((((((w.alloc A).alloc B).alloc C).alloc D).alloc E).alloc o).heap[i]? = some x := fun o i x hx => (Below.heap_alloc _ o i (Array.getElem?_eq_some_iff.1 hx).1).trans hx
  refine ⟨old _ _ _ h0, old _ _ _ h1, old _ _ _ h2, old _ _ _ h3, old _ _ _ h4, ?_⟩
  have := heap_alloc_new (((((w.alloc A).alloc B).alloc C).alloc D).alloc E) F
  rwa [hs] at this
namespace Ev
/-- what OrderReserves lays first -/
def resX (s : Nat) : X := ⟨some ⟨s, 0, none⟩, 2, [begE 0, begE 4], ⟨some ⟨s + 1, 0, none⟩, 2, [-1, -1]⟩, some ⟨s + 1 + 1 + 1 + 1, 0, none⟩, 2, [⟨some ⟨s + 1 + 1, 0, none⟩, 1, [0]⟩, ⟨some ⟨s + 1 + 1 + 1, 0, none⟩, 1, [1]⟩]⟩
theorem begE_ok (a : Int) (h : u32B a) (V : World) : ROk V (begE a) := by
  have hn : IntsIn V noS := ⟨fun hp => absurd hp (by decide), Nat.le_refl _, by decide, fun n hn => by cases hn⟩
  exact ⟨(show i64B (-1) by unfold i64B; omega), (show i64B 5 by unfold i64B; omega), h, (show u32B 0 by unfold u32B; omega), (show u32B 0 by unfold u32B; omega), (show i64B 0 by unfold i64B; omega), (show i64B 0 by unfold i64B; omega), hn, hn, hn⟩
theorem laid_ok {B : Nat} (hB : B ≤ 64) {y : R} {f : Int} (h : Laid B y f) (hv : u32B y.v) (V : World) : ROk V y := by
  have hn : IntsIn V noS := ⟨fun hp => absurd hp (by decide), Nat.le_refl _, by decide, fun n hn => by cases hn⟩
  cases h with
  | fence p s hp hs => exact ⟨(show i64B 0 by unfold i64B; omega), (show i64B 4 by unfold i64B; omega), (show u32B (0) by unfold u32B; omega), hv, (show u32B 0 by unfold u32B; omega), (show i64B p by unfold i64B; omega), (show i64B s by unfold i64B; omega), hn, hn, hn⟩
  | load w hw z => exact ⟨(show i64B 0 by unfold i64B; omega), (show i64B 1 by unfold i64B; omega), (show u32B (4 * (w : Int)) by unfold u32B; omega), hv, (show u32B 0 by unfold u32B; omega), (show i64B 0 by unfold i64B; omega), (show i64B 0 by unfold i64B; omega), hn, hn, hn⟩
  | store w hw v z => exact ⟨(show i64B 0 by unfold i64B; omega), (show i64B 2 by unfold i64B; omega), (show u32B (4 * (w : Int)) by unfold u32B; omega), hv, (show u32B 0 by unfold u32B; omega), (show i64B 0 by unfold i64B; omega), (show i64B 0 by unfold i64B; omega), hn, hn, hn⟩
  | both w hw v => exact ⟨(show i64B 0 by unfold i64B; omega), (show i64B 3 by unfold i64B; omega), (show u32B (4 * (w : Int)) by unfold u32B; omega), hv, (show u32B 0 by unfold u32B; omega), (show i64B 0 by unfold i64B; omega), (show i64B 0 by unfold i64B; omega), hn, hn, hn⟩
theorem resX_bld (s : Nat) : Bld (resX s).ev (resX s).fr.l ((resX s).od.map (·.l)) := (Bld.nil.begin rfl).begin rfl
theorem own_of {W : World} {base g : Nat} {t : TypeId} {sz n : Nat} {cs : Array Value} (hb : base ≤ g) (h : W.heap[g]? = some (.cells cs t (0, 0))) (hn : n ≤ maxLen) (hs : cs.size = n * sz) : W.ownsRow base t sz (.slice (some ⟨g, 0, none⟩) n n) n cs.toList :=
  ⟨by simpa using hs, .inr ⟨g, n, cs, rfl, hb, h, Nat.le_refl _, hn, hs, List.take_of_length_le (by rw [← hs]; simp)⟩⟩
set_option maxRecDepth 100000 in
theorem resX_lay {w W : World} {s : Nat} (hs : s = w.heap.size) (hb : Below w.heap.size w W) (h0 : W.heap[s]? = some (.cells ([begE 0, begE 4].map cells).flatten.toArray 54 (0, 0))) (h1 : W.heap[s + 1]? = some (.cells #[.int .i64 (-1), .int .i64 (-1)] 3 (0, 0)))
    (h2 : W.heap[s + 1 + 1]? = some (.cells #[.int .i64 0] 3 (0, 0))) (h3 : W.heap[s + 1 + 1 + 1]? = some (.cells #[.int .i64 1] 3 (0, 0)))
    (h4 : W.heap[s + 1 + 1 + 1 + 1]? = some (.cells #[.slice (some ⟨s + 1 + 1, 0, none⟩) 1 1, .slice (some ⟨s + 1 + 1 + 1, 0, none⟩) 1 1] 23 (0, 0)))
    (h5 : W.heap[s + 1 + 1 + 1 + 1 + 1]? = some (.cells (xcells (resX s)).toArray 26 (0, 0))) : Lay w W (s + 1 + 1 + 1 + 1 + 1) (resX s) := by
  have hod : ∀ (b : Nat) t, (resX s).od[b]? = some t → (b = 0 ∧ t = ⟨some ⟨s + 1 + 1, 0, none⟩, 1, [0]⟩) ∨ (b = 1 ∧ t = ⟨some ⟨s + 1 + 1 + 1, 0, none⟩, 1, [1]⟩) := by
    intro b t ht
    match b, ht with
    | 0, ht => exact .inl ⟨rfl, (Option.some.inj ht).symm⟩
    | 1, ht => exact .inr ⟨rfl, (Option.some.inj ht).symm⟩
    | n + 2, ht => simp [resX] at ht
  refine ⟨hb, by omega, h5, own_of (by omega) h0 (show 2 ≤ maxLen by decide) rfl, own_of (by omega) h1 (show 2 ≤ maxLen by decide) rfl, own_of (by omega) h4 (show 2 ≤ maxLen by decide) rfl, fun b t ht => ?_, fun b t ht => ?_, fun b c t u ht hu hbc => ?_, fun y hy V => ?_, fun n hn => ?_, fun t ht n hn => ?_⟩
  · rcases hod b t ht with ⟨rfl, rfl⟩ | ⟨rfl, rfl⟩
    · exact own_of (by omega) h2 (show 1 ≤ maxLen by decide) rfl
    · exact own_of (by omega) h3 (show 1 ≤ maxLen by decide) rfl
  · rcases hod b t ht with ⟨rfl, rfl⟩ | ⟨rfl, rfl⟩ <;> refine .inr ?_ <;> (simp [Sl.v, resX, Value.ownBlock] <;> omega)
  · rcases hod b t ht with ⟨rfl, rfl⟩ | ⟨rfl, rfl⟩ <;> rcases hod c u hu with ⟨rfl, rfl⟩ | ⟨rfl, rfl⟩ <;> first | exact absurd rfl hbc | (refine .inr ?_; simp [Sl.v, Value.ownBlock] <;> omega) | (refine .inr ?_; simp [Sl.v, Value.ownBlock])
  · have : y = begE 0 ∨ y = begE 4 := by simpa [resX] using hy
    rcases this with rfl | rfl
    · exact begE_ok _ (by unfold u32B; decide) V
    · exact begE_ok _ (by unfold u32B; decide) V
  · have : n = -1 := by simpa [resX] using hn
    subst this; unfold i64B; decide
  · have : t = ⟨some ⟨s + 1 + 1, 0, none⟩, 1, [0]⟩ ∨ t = ⟨some ⟨s + 1 + 1 + 1, 0, none⟩, 1, [1]⟩ := by simpa [resX] using ht
    rcases this with rfl | rfl
    · have : n = 0 := by simpa using hn
      subst this; unfold i64B; decide
    · have : n = 1 := by simpa using hn
      subst this; unfold i64B; decide
/-- what OrderReserves has laid behind i bytes -/
structure ResI (w W : World) (B i : Nat) (x : X) : Prop where
  lay : Lay w W B x
  bld : Bld x.ev x.fr.l (x.od.map (·.l))
  len : x.ev.length = 2 + i
  ol : x.od.length = 2
  ao : ∃ g, x.ao = some ⟨g, 0, none⟩
end Ev
theorem Og.run_to {P : Program} {o : Oper} {a : Act} {w w' : World} {v : Value} {K : Act → World → Prop} {Q : Exit → Act → World → Prop} (h : (execOp a.eval o).run P w = .ok (.value v) w') (hk : K (a.put o.dst v) w') : o.wp P a w K Q := by
  unfold Oper.wp; rw [h]; exact hk
theorem Og.append_to {P : Program} {o : Oper} {ρ : Operand → Value} {w w' : World} {v sl v' : Value} (s x : Operand) (t : TypeId) (ho : o.op = .call { callee := .builtin .append, args := #[s, x], argTypes := #[t, t] }) (hs : ρ s = v) (hx : ρ x = sl)
    (hr : (Builtin.append_ #[t, t] o.type #[v, sl]).run P w = .ok v' w') : (execOp ρ o).run P w = .ok (.value v') w' := by
  unfold execOp
  simp only [ho, resolve, invoke, builtin, Sem.run_bind, Sem.run_pure, Result.andThen_ok, List.map_toArray, List.map_cons, List.map_nil, hs, hx, hr]
theorem Og.store_to {P : Program} {o : Oper} {ρ : Operand → Value} {w : World} {g b : Nat} {a : Option Addr} {n c : Nat} {u : Value} (ty : TypeId) (x y : Operand) (ho : o.op = .store ty x y) (hx : ρ x = .pointer (some ⟨g, b, none⟩)) (hy : ρ y = .slice a n c)
    (hi : (P.info? ty).map (·.size) = some 1) (hc : w.cell? ⟨g, b, none⟩ = some u) (hf : w.frozen? ⟨g, b, none⟩ = false) : (execOp ρ o).run P w = .ok .skip (w.setCell ⟨g, b, none⟩ (.slice a n c)) := by
  have h0 : (⟨g, b, none⟩ : Addr).add 0 = ⟨g, b, none⟩ := by unfold Addr.add; split <;> simp_all
  cases hq : P.info? ty with
  | none => simp [hq] at hi
  | some i =>
    have hs : i.size = 1 := by simpa [hq] using hi
    have hl : (Instr.storeAt ty (.pointer (some ⟨g, b, none⟩)) (.slice a n c)).run P w = .ok () (w.setCell ⟨g, b, none⟩ (.slice a n c)) := by
      simp [h0, Instr.storeAt, Instr.sureAddr, storeVar, Sem.run_bind, sizeOf, typeInfo, hq, hs, Value.cells, storeCells, run_store_slice, stored, hc, hf]
    unfold execOp
    simp only [ho, hx, hy, Sem.run_bind, hl, Sem.run_pure, Result.andThen_ok]
theorem Og.skip_to {P : Program} {o : Oper} {a : Act} {w w' : World} {K : Act → World → Prop} {Q : Exit → Act → World → Prop} (h : (execOp a.eval o).run P w = .ok .skip w') (hk : K (a.put o.dst undef) w') : o.wp P a w K Q := by
  unfold Oper.wp; rw [h]; exact hk
namespace Ev
theorem od_cell {w W : World} {B : Nat} {x : X} (h : Lay w W B x) {b : Nat} {s : Sl} (hs : x.od[b]? = some s) {g : Nat} (hg : x.ao = some ⟨g, 0, none⟩) : W.cell? ⟨g, b, none⟩ = some s.v := by
  have h1 := h.od.cells (g := g) (by unfold odV; rw [hg]; rfl) b s.v (by rw [List.getElem?_map, hs]; rfl)
  rw [add_at, Nat.zero_add] at h1; exact h1
theorem cell_alloc {w : World} {p : Addr} {v : Value} (o : Obj) (h : w.cell? p = some v) : (w.alloc o).cell? p = some v := by
  rw [World.cell?_alloc_lt w o p (World.block_lt_of_cell? w p h)]; exact h
theorem grown_box {w W w1 : World} {B : Nat} {x : X} {tmp : Obj} {r : Option Nat} (h : Lay w W B x) (hg : (W.alloc tmp).grownBy w1 r) (hr : r ≠ some B) {i : Nat} : w1.cell? ⟨B, i, none⟩ = (W.alloc tmp).cell? ⟨B, i, none⟩ := by
  have hBl : B < W.heap.size := (Array.getElem?_eq_some_iff.1 h.box).1
  exact World.cell?_of_block (hg.block B (by simp; omega) (fun e => hr e.symm))
theorem ao_ne {w W : World} {B : Nat} {x : X} (h : Lay w W B x) {g : Nat} (hg : x.ao = some ⟨g, 0, none⟩) : g ≠ B := by
  intro e
  exact h.bne.2.2.1 (by unfold odV; rw [hg, e]; rfl)
theorem set_box {w W w1 : World} {B : Nat} {x : X} (h : Lay w W B x) {g b : Nat} (hg : x.ao = some ⟨g, 0, none⟩) {v : Value} {i : Nat} : (w1.setCell ⟨g, b, none⟩ v).cell? ⟨B, i, none⟩ = w1.cell? ⟨B, i, none⟩ :=
  World.cell?_of_block (Below.heap_setCell _ _ _ _ (Ne.symm (ao_ne h hg)))
theorem ecell {W : World} {g : Nat} {cs : Array Value} {t : TypeId} (h : W.heap[g]? = some (.cells cs t (0, 0))) (i : Nat) {v : Value} (hv : cs[i]? = some v) : W.cell? ⟨g, i, none⟩ = some v := by
  rw [cell_of_row _ _ _ _ _ _ h]; exact hv
theorem eb_ne {w W : World} {B : Nat} {x : X} (h : Lay w W B x) {g : Nat} (hg : x.ao = some ⟨g, 0, none⟩) {e : Nat} {cs : Array Value} {f : Nat × Nat} (hR : W.heap[e]? = some (.cells cs 54 f)) : e ≠ g := by
  intro he
  exact row_ne_box h.od hR (by decide) (by unfold odV; rw [hg, he]; rfl)
theorem Bld.rowLen {xs : List R} {fr : List Int} {od : List (List Int)} (h : Bld xs fr od) {b : Nat} {l : List Int} (hb : od[b]? = some l) : l.length ≤ xs.length := by
  rw [(h.rows b l hb).len]; unfold cnt; exact List.length_filter_le _ _
/-- what the loads of a row's push ask: the box's field, the row -/
def Sd (B g b : Nat) (u v : Value) (i : Nat) (x : World) : Prop := x.cell? ⟨B, 2, none⟩ = some u ∧ (i = 7 → x.cell? ⟨g, b, none⟩ = some v)
theorem keep_d {ops : Array Oper} {B g b : Nat} {u v : Value} {j : Nat} {w w' : World} {o : Oper} (hj : ops[j]? = some o) (h7 : (∃ e ∈ o.after, Region.binds .any e = true ∧ e.on = 7) ∨ (w.cell? ⟨g, b, none⟩ = some v → w'.cell? ⟨g, b, none⟩ = some v))
    (hc : w.cell? ⟨B, 2, none⟩ = some u → w'.cell? ⟨B, 2, none⟩ = some u) : Og.Keep .any ops (Sd B g b u v) j w w' := by
  intro oj hoj i hij hno hS
  obtain rfl : o = oj := Option.some.inj (hj.symm.trans hoj)
  refine ⟨hc hS.1, fun e => ?_⟩
  subst e
  rcases h7 with ⟨e, he, hb, ho⟩ | h
  · exact absurd ho (hno e he hb)
  · exact h (hS.2 rfl)
end Ev
set_option maxRecDepth 100000 in
theorem or_info_event : ∃ i, Try.prog.info? 54 = some i ∧ i.zero = some (.agg (Ev.cells Ev.R0).toArray) ∧ i.size = 13 ∧ i.bytes = 128 := ⟨_, rfl, by kernel_rfl, by kernel_rfl, by kernel_rfl⟩
end Go.Proofs.Ytoicmhidmknfiaa
