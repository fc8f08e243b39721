import Derived.Test.YtnjnpbabgefaeaaGreatKg20
import Derived.Lib.SmallJoins
import Derived.Test.YtnjnpbabgefaeaaGreatKg06
import Derived.Maps.GroupsBeside
import Derived.Maps.RangeWalk
set_option linter.unusedVariables false
set_option linter.unusedSimpArgs false

section
namespace Go.Proofs.YtnjnpbabgefaeaaGreat
open Go.Joins Go.ChangeShapes Go.WideShapes Go.ChangeAt Go.RowKit Go.Deep
theorem u32_of_wf {n : Int} (h : (Lit.int .u32 n).wf = true) : Ev.u32B n := by
  unfold Ev.u32B
  have h1 : IntKind.u32.min = 0 := by decide
  have h2 : IntKind.u32.max = 4294967295 := by decide
  simp only [Lit.wf, h1, h2, Bool.and_eq_true, decide_eq_true_eq] at h; omega
theorem bool_in {H : Type} {enc : TypeId × Value → H} {P : Program} {w : World} {base : Nat} {sp : Nat → Bool} {held : Bool} {fuel : Nat} {t : TypeId} {c : Value} {y : DataW H × List MemPlace}
    (ht : P.underlying t = some .bool) (h : DataW.trod enc P w base sp held fuel t [c] = some y) : ∃ b, c = .bool b := by
  cases fuel with
  | zero => simp [DataW.trod] at h
  | succ fuel =>
    cases c <;> simp [DataW.trod, ht] at h
    exact ⟨_, rfl⟩
section
variable {H : Type} {enc : TypeId × Value → H} {W : World}
theorem ints_in {fuel : Nat} {c : Value} {y : DataW H × List MemPlace} (h : DataW.trod enc Tryz.prog W 0 (fun _ => true) true fuel 23 [c] = some y) :
    ∃ s : Ev.Sl, c = .slice s.a s.l.length s.c ∧ Ev.IntsIn W s := by
  rcases open_ints Tryz.underlying23 Tryz.underlying3 cellsInt h with ⟨hcs, _⟩ | ⟨a, len, cap, zs, hcs, _⟩
  · obtain rfl : c = _ := by simpa using hcs
    obtain ⟨xs, hl, hi⟩ := open_numbers (d0 := y.1) (p := y.2) ⟨fuel, by simpa [Value.cells] using h⟩
    exact ⟨⟨none, 0, xs⟩, by simp [hl], hi⟩
  · obtain rfl : c = _ := by simpa using hcs
    obtain ⟨xs, hl, hi⟩ := open_numbers (d0 := y.1) (p := y.2) ⟨fuel, by simpa [Value.cells] using h⟩
    exact ⟨⟨some a, cap, xs⟩, by simp [hl], hi⟩
theorem rows_in {α : Type} (x0 : α) (cells : α → List Value) (OK : α → Prop) (n : Nat) {t e : TypeId} (hn : Tryz.prog.cellsOf e = n) (hp : 0 < n) (hlen : ∀ x, (cells x).length = n)
    (each0 : ∀ fuel cs y, DataW.trod enc Tryz.prog W 0 (fun _ => true) true fuel e cs = some y → ∃ x, cs = cells x ∧ OK x) (ht : Tryz.prog.underlying t = some (.slice e))
    {fuel : Nat} {c : Value} {y : DataW H × List MemPlace} (h : DataW.trod enc Tryz.prog W 0 (fun _ => true) true fuel t [c] = some y) :
    ∃ (a : Option Addr) (cap : Nat) (xs : List α), c = .slice a xs.length cap ∧ Ev.RowsIn W a n (xs.map cells) ∧ (∀ x ∈ xs, OK x) ∧ xs.length ≤ cap ∧ cap ≤ 9223372036854775807 := by
  rcases open_slice ht h with ⟨hcs, _⟩ | ⟨a, len, cap, m, nn, D, Pl, hcs, hb, hl, hm, hmm, hx, hi⟩
  · exact ⟨none, 0, [], by simpa using hcs, fun h => absurd h (by simp), (fun x hx => (by cases hx)), by simp, by simp⟩
  · simp only [if_true] at hmm
    subst hmm
    unfold maxLen at hm
    rw [hn] at hi
    have each : ∀ i, i < len → ∃ v : α, (∀ k c, (cells v)[k]? = some c → W.cell? ((a.add (i * n)).add k) = some c) ∧ OK v := fun i hil => by
      obtain ⟨cs', hc, ht⟩ := hi i (by omega)
      obtain ⟨v, rfl, hok⟩ := each0 _ _ _ ht
      obtain ⟨_, _, hat⟩ := World.cells?_some hc
      refine ⟨v, fun k c hk => ?_, hok⟩
      have hk4 : k < n := by
        have := (List.getElem?_eq_some_iff.1 hk).1
        rw [hlen v] at this; exact this
      rw [hat k hk4]
      exact hk
    let f : Nat → α := fun i => if h : i < len then (each i h).choose else x0
    have hfi : ∀ i (h : i < len), f i = (each i h).choose := fun i h => dif_pos h
    refine ⟨some a, _, (List.range len).map f, by simpa using hcs, fun hp2 => ?_, fun v hv => ?_, by simp; omega, hm⟩
    · have hp' : 0 < len := by simpa using hp2
      obtain ⟨b, off, spot⟩ := a
      have hlen0 := hlen (each 0 hp').choose
      obtain ⟨c00, hc00⟩ : ∃ c, (cells (each 0 hp').choose)[0]? = some c := ⟨_, List.getElem?_eq_getElem (by omega)⟩
      have h00 := (each 0 hp').choose_spec.1 0 _ hc00
      have hspot : spot = none := by simpa [Addr.add] using World.cell?_spot h00
      subst hspot
      refine ⟨b, off, rfl, fun j v hv k c hk => ?_⟩
      have hjl : j < len := by have := (List.getElem?_eq_some_iff.1 hv).1; simpa using this
      have hv' : v = cells (f j) := by rw [List.getElem?_map, List.getElem?_map, List.getElem?_range hjl] at hv; exact (Option.some.inj hv).symm
      rw [hv', hfi j hjl] at hk
      have := (each j hjl).choose_spec.1 k c hk
      rw [Go.WideShapes.add_plain, Go.WideShapes.add_plain] at this
      exact this
    · obtain ⟨i, hi', rfl⟩ := List.mem_map.1 hv
      rw [hfi i (List.mem_range.1 hi')]
      exact (each i (List.mem_range.1 hi')).choose_spec.2
theorem cellsEvent : Tryz.prog.cellsOf 48 = 13 := by kernel_rfl
theorem cellsExec : Tryz.prog.cellsOf 26 = 3 := by kernel_rfl
set_option maxRecDepth 100000 in
set_option maxHeartbeats 4000000 in
theorem event_in {fuel : Nat} {cs : List Value} {y : DataW H × List MemPlace} (h : DataW.trod enc Tryz.prog W 0 (fun _ => true) true fuel 48 cs = some y) : ∃ x : Ev.R, cs = Ev.cells x ∧ Ev.ROk W x := by
  obtain ⟨xs, n, _, _, hl, hlen, hg⟩ := DataW.trod_struct Tryz.underlying48 h
  have u1 : Tryz.prog.cellsOf 3 = 1 := cellsInt
  have u2 : Tryz.prog.cellsOf 45 = 1 := by kernel_rfl
  have u3 : Tryz.prog.cellsOf 46 = 1 := by kernel_rfl
  have u4 : Tryz.prog.cellsOf 4 = 1 := by kernel_rfl
  have u5 : Tryz.prog.cellsOf 23 = 1 := by kernel_rfl
  rw [cellsEvent] at hl
  match xs, hlen, cs, hl with
  | [y0, y1, y2, y3, y4, y5, y6, y7, y8, y9, y10, y11, y12], _, [c0, c1, c2, c3, c4, c5, c6, c7, c8, c9, c10, c11, c12], _ =>
    have g0 : DataW.trod enc Tryz.prog W 0 (fun _ => true) true n 3 [c0] = some y0 := by simpa [u1, u2, u3, u4, u5] using hg 0 _ rfl
    have g1 : DataW.trod enc Tryz.prog W 0 (fun _ => true) true n 45 [c1] = some y1 := by simpa [u1, u2, u3, u4, u5] using hg 1 _ rfl
    have g2 : DataW.trod enc Tryz.prog W 0 (fun _ => true) true n 46 [c2] = some y2 := by simpa [u1, u2, u3, u4, u5] using hg 2 _ rfl
    have g3 : DataW.trod enc Tryz.prog W 0 (fun _ => true) true n 46 [c3] = some y3 := by simpa [u1, u2, u3, u4, u5] using hg 3 _ rfl
    have g4 : DataW.trod enc Tryz.prog W 0 (fun _ => true) true n 46 [c4] = some y4 := by simpa [u1, u2, u3, u4, u5] using hg 4 _ rfl
    have g5 : DataW.trod enc Tryz.prog W 0 (fun _ => true) true n 4 [c5] = some y5 := by simpa [u1, u2, u3, u4, u5] using hg 5 _ rfl
    have g6 : DataW.trod enc Tryz.prog W 0 (fun _ => true) true n 4 [c6] = some y6 := by simpa [u1, u2, u3, u4, u5] using hg 6 _ rfl
    have g7 : DataW.trod enc Tryz.prog W 0 (fun _ => true) true n 3 [c7] = some y7 := by simpa [u1, u2, u3, u4, u5] using hg 7 _ rfl
    have g8 : DataW.trod enc Tryz.prog W 0 (fun _ => true) true n 3 [c8] = some y8 := by simpa [u1, u2, u3, u4, u5] using hg 8 _ rfl
    have g9 : DataW.trod enc Tryz.prog W 0 (fun _ => true) true n 4 [c9] = some y9 := by simpa [u1, u2, u3, u4, u5] using hg 9 _ rfl
    have g10 : DataW.trod enc Tryz.prog W 0 (fun _ => true) true n 23 [c10] = some y10 := by simpa [u1, u2, u3, u4, u5] using hg 10 _ rfl
    have g11 : DataW.trod enc Tryz.prog W 0 (fun _ => true) true n 23 [c11] = some y11 := by simpa [u1, u2, u3, u4, u5] using hg 11 _ rfl
    have g12 : DataW.trod enc Tryz.prog W 0 (fun _ => true) true n 23 [c12] = some y12 := by simpa [u1, u2, u3, u4, u5] using hg 12 _ rfl
    obtain ⟨a0, rfl, w0⟩ := int_in Tryz.underlying3 g0
    obtain ⟨a1, rfl, w1⟩ := int_in Tryz.underlying45 g1
    obtain ⟨a2, rfl, w2⟩ := int_in Tryz.underlying46 g2
    obtain ⟨a3, rfl, w3⟩ := int_in Tryz.underlying46 g3
    obtain ⟨a4, rfl, w4⟩ := int_in Tryz.underlying46 g4
    obtain ⟨a5, rfl⟩ := bool_in Tryz.underlying4 g5
    obtain ⟨a6, rfl⟩ := bool_in Tryz.underlying4 g6
    obtain ⟨a7, rfl, w7⟩ := int_in Tryz.underlying3 g7
    obtain ⟨a8, rfl, w8⟩ := int_in Tryz.underlying3 g8
    obtain ⟨a9, rfl⟩ := bool_in Tryz.underlying4 g9
    obtain ⟨a10, rfl, w10⟩ := ints_in g10
    obtain ⟨a11, rfl, w11⟩ := ints_in g11
    obtain ⟨a12, rfl, w12⟩ := ints_in g12
    exact ⟨⟨a0, a1, a2, a3, a4, a5, a6, a7, a8, a9, a10, a11, a12⟩, rfl, ⟨i64_of_wf w0, i64_of_wf w1, u32_of_wf w2, u32_of_wf w3, u32_of_wf w4, i64_of_wf w7, i64_of_wf w8, w10, w11, w12⟩⟩
theorem evs_in {fuel : Nat} {c : Value} {y : DataW H × List MemPlace} (h : DataW.trod enc Tryz.prog W 0 (fun _ => true) true fuel 22 [c] = some y) :
    ∃ (a : Option Addr) (cap : Nat) (xs : List Ev.R), c = .slice a xs.length cap ∧ Ev.EvsIn W a cap xs := by
  obtain ⟨a, cap, xs, e, h1, h2, h3, h4⟩ := rows_in ⟨0, 0, 0, 0, 0, false, false, 0, 0, false, ⟨none, 0, []⟩, ⟨none, 0, []⟩, ⟨none, 0, []⟩⟩ Ev.cells (Ev.ROk W) 13 cellsEvent (by decide) (fun _ => rfl) (fun _ _ _ h => event_in h) Tryz.underlying22 h
  exact ⟨a, cap, xs, e, h1, h2, h3, h4⟩
set_option maxRecDepth 100000 in
theorem od_in {fuel : Nat} {c : Value} {y : DataW H × List MemPlace} (h : DataW.trod enc Tryz.prog W 0 (fun _ => true) true fuel 24 [c] = some y) :
    ∃ (a : Option Addr) (cap : Nat) (xs : List Ev.Sl), c = .slice a xs.length cap ∧ Ev.OdIn W a cap xs := by
  obtain ⟨a, cap, xs, e, h1, h2, h3, h4⟩ := rows_in (⟨none, 0, []⟩ : Ev.Sl) (fun s => [s.v]) (Ev.IntsIn W) 1 (e := 23) (by kernel_rfl) (by decide) (fun _ => rfl) (fun fuel cs y h => by
    rcases open_ints Tryz.underlying23 Tryz.underlying3 cellsInt h with ⟨rfl, _⟩ | ⟨a, len, cap, zs, rfl, _⟩
    · obtain ⟨s, hs, hi⟩ := ints_in h; exact ⟨s, by rw [hs]; rfl, hi⟩
    · obtain ⟨s, hs, hi⟩ := ints_in h; exact ⟨s, by rw [hs]; rfl, hi⟩) Tryz.underlying24 h
  exact ⟨a, cap, xs, e, h1, h2, h3, h4⟩
set_option maxRecDepth 100000 in
theorem open_exec {r : Reach} {b0 : Nat} {v : Value} {d : DataW H} {p : List MemPlace} (hv : Value.okWide Tryz.prog W r b0 26 v) (h : DataW.Trod enc Tryz.prog W 0 (fun _ => true) true 26 v d p) :
    ∃ x : Ev.X, v = Ev.exV x ∧ Ev.XIn W x := by
  obtain ⟨cs, rfl, hsz⟩ := okWide_struct Tryz.underlying26 hv
  obtain ⟨l⟩ := cs
  obtain ⟨fuel, hf⟩ := h
  have u1 : Tryz.prog.cellsOf 22 = 1 := by kernel_rfl
  have u2 : Tryz.prog.cellsOf 23 = 1 := by kernel_rfl
  have u3 : Tryz.prog.cellsOf 24 = 1 := by kernel_rfl
  match l, hsz.trans cellsExec with
  | [c0, c1, c2], _ =>
    obtain ⟨xs, n, _, _, hl, hlen, hg⟩ := DataW.trod_struct Tryz.underlying26 hf
    match xs, hlen with
    | [y0, y1, y2], _ =>
      have g0 : DataW.trod enc Tryz.prog W 0 (fun _ => true) true n 22 [c0] = some y0 := by simpa [Value.cells, u1, u2, u3] using hg 0 _ rfl
      have g1 : DataW.trod enc Tryz.prog W 0 (fun _ => true) true n 23 [c1] = some y1 := by simpa [Value.cells, u1, u2, u3] using hg 1 _ rfl
      have g2 : DataW.trod enc Tryz.prog W 0 (fun _ => true) true n 24 [c2] = some y2 := by simpa [Value.cells, u1, u2, u3] using hg 2 _ rfl
      obtain ⟨ae, ce, ev, rfl, hev⟩ := evs_in g0
      obtain ⟨fr, rfl, hfr⟩ := ints_in g1
      obtain ⟨ao, co, od, rfl, hod⟩ := od_in g2
      exact ⟨⟨ae, ce, ev, fr, ao, co, od⟩, rfl, ⟨hev, hfr, hod⟩⟩
end
end Go.Proofs.YtnjnpbabgefaeaaGreat
end

section
namespace Go.Proofs.YtnjnpbabgefaeaaGreat
open Go.RowKit Go.Maps
namespace Ev
def pz (p : Int × Int) : List Value := [.int .i64 p.1, .int .i64 p.2]
structure PsIn (w : World) (a : Option Addr) (c : Nat) (ps : List (Int × Int)) : Prop where
  rows : RowsIn w a 2 (ps.map pz)
  ok : ∀ p ∈ ps, i64B p.1 ∧ i64B p.2
  le : ps.length ≤ c
  max : c ≤ 9223372036854775807
theorem PsIn.kp {w w' : World} {a c ps} (h : PsIn w a c ps) (k : Kp w w') : PsIn w' a c ps := ⟨h.rows.kp k, h.ok, h.le, h.max⟩
theorem PsIn.at_ {w : World} {a c ps} (h : PsIn w a c ps) {k : Nat} {p : Int × Int} (hk : ps[k]? = some p) :
    ∃ g o, a = some ⟨g, o, none⟩ ∧ (∀ i c, (pz p)[i]? = some c → w.cell? ⟨g, o + k * 2 + i, none⟩ = some c) := by
  have hl := (List.getElem?_eq_some_iff.1 hk).1
  obtain ⟨g, o, e, hc⟩ := h.rows (by simp; omega)
  exact ⟨g, o, e, fun i c hi => hc k (pz p) (by rw [List.getElem?_map, hk]; rfl) i c hi⟩
def inRB (n : Int) (ps : List (Int × Int)) : Bool := decide (0 ≤ n) && decide (n ≤ 64) && ps.all fun p => inB p.1 n && inB p.2 n
theorem inRB_iff {n : Int} {ps : List (Int × Int)} : inRB n ps = true ↔ InR n ps := by
  unfold inRB InR inB
  simp only [Bool.and_eq_true, decide_eq_true_eq, List.all_eq_true]
  constructor
  · rintro ⟨⟨h1, h2⟩, h3⟩; exact ⟨h1, h2, fun p hp => by have := h3 p hp; exact ⟨this.1.1, this.1.2, this.2.1, this.2.2⟩⟩
  · rintro ⟨h1, h2, h3⟩; exact ⟨⟨h1, h2⟩, fun p hp => by have := h3 p hp; exact ⟨⟨this.1, this.2.1⟩, this.2.2.1, this.2.2.2⟩⟩
def AcyR (n : Int) (ps : List (Int × Int)) (b : Bool) : Prop := (b = false ∧ ¬ InR n ps) ∨ (b = false ∧ InR n ps ∧ Cyc ps) ∨ (b = true ∧ InR n ps ∧ ∃ l, Topo ps l ∧ ∀ x, 0 ≤ x → x < n → x ∈ l)
theorem groups_below {w w' : World} {base b n : Nat} {ps : List (Int × Int)} (h : GroupsAre w base b n ps) (hb : Below w.heap.size w w') : GroupsAre w' base b n ps := by
  obtain ⟨D, ho, hD⟩ := h.ex
  exact ⟨⟨D, ho.kept (World.grownBy.but_of hb) (by simp) (fun _ _ _ x _ => by by_cases h : x.val.ownBlock = none; exact .inl h; exact .inr h), hD⟩⟩
def Sw (wq : World) (g7 : Nat) (A B : Int) (i : Nat) (x : World) : Prop := (i = 6 → Below wq.heap.size wq x) ∧ (x.cell? ⟨g7, 0, none⟩ = some (.int .i64 A) ∧ x.cell? ⟨g7, 1, none⟩ = some (.int .i64 B))
end Ev
theorem Og.wp_run {P : Program} {o : Oper} {a : Act} {w w' : World} {v : Value} {K : Act → World → Prop} {Q : Exit → Act → World → Prop} (h : (execOp a.eval o).run P w = .ok (.value v) w') (hk : K (a.put o.dst v) w') : o.wp P a w K Q := by
  unfold Oper.wp; rw [h]; exact hk
theorem Og.append_run {P : Program} {o : Oper} {ρ : Operand → Value} {w w' : World} {v sl v' : Value} (s x : Operand) (t : TypeId) (ho : o.op = .call { callee := .builtin .append, args := #[s, x], argTypes := #[t, t] }) (hs : ρ s = v) (hx : ρ x = sl)
    (hr : (Builtin.append_ #[t, t] o.type #[v, sl]).run P w = .ok v' w') : (execOp ρ o).run P w = .ok (.value v') w' := by
  unfold execOp
  simp only [ho, resolve, invoke, builtin, Sem.run_bind, Sem.run_pure, Result.andThen_ok, List.map_toArray, List.map_cons, List.map_nil, hs, hx, hr]
theorem Og.wp_skip {P : Program} {o : Oper} {a : Act} {w w' : World} {K : Act → World → Prop} {Q : Exit → Act → World → Prop} (h : (execOp a.eval o).run P w = .ok .skip w') (hk : K (a.put o.dst undef) w') : o.wp P a w K Q := by
  unfold Oper.wp; rw [h]; exact hk
theorem Ev.row_below' {w w' : World} {base : Nat} {e : TypeId} {size n : Nat} {v : Value} {xs : List Value} (h : w.ownsRow base e size v n xs) (hb : Below w.heap.size w w') : w'.ownsRow base e size v n xs :=
  h.kept (World.grownBy.but_of hb) (by by_cases h : v.ownBlock = none; exact .inl h; exact .inr h)
theorem keep_12 {ops : Array Oper} {wq : World} {g7 : Nat} {A B : Int} {j : Nat} {w w' : World} {o : Oper} (hj : ops[j]? = some o) (h6 : (∃ e ∈ o.after, Region.binds .any e = true ∧ e.on = 6) ∨ (Below wq.heap.size wq w → Below wq.heap.size wq w')) (hc : ∀ p, p.block = g7 → w'.cell? p = w.cell? p) : Og.Keep .any ops (Ev.Sw wq g7 A B) j w w' := by
  intro oj hoj i hij hno hS
  obtain rfl : o = oj := Option.some.inj (hj.symm.trans hoj)
  refine ⟨fun e => ?_, (hc _ rfl).trans hS.2.1, (hc _ rfl).trans hS.2.2⟩
  subst e
  rcases h6 with ⟨e, he, hb, ho⟩ | h
  · exact absurd ho (hno e he hb)
  · exact h (hS.1 rfl)
set_option maxRecDepth 100000 in
theorem info_int : ∃ i, Tryz.prog.info? 3 = some i ∧ i.zero = some (.int .i64 0) ∧ i.size = 1 ∧ i.bytes = 8 := ⟨_, rfl, by kernel_rfl, by kernel_rfl, by kernel_rfl⟩
set_option maxRecDepth 100000 in
set_option maxHeartbeats 4000000 in
theorem acyclic_any (n : Int) (hnb : Ev.i64B n) (a : Option Addr) (c : Nat) (ps : List (Int × Int)) (hlen : ps.length ≤ 1000000) (w : World) (hin : Ev.PsIn w a c ps) :
    Calls Tryz.prog 102 #[.int .i64 n, .slice a ps.length c] w (Ev.CPost (Ev.AcyR n ps) w) := by
  have HIN := Lib.hid hin
  have hle := hin.le; have hmax := hin.max
  have hmm := @run_makeMap Tryz.prog
  obtain ⟨i0, hi, hz0, hz1, hz2⟩ := info_int
  have HI := Lib.hid hi; have HZ0 := Lib.hid hz0; have HZ1 := Lib.hid hz1; have HZ2 := Lib.hid hz2
  clear hin hi hz0 hz1 hz2
  have no : ¬ (0 ≤ n ∧ n ≤ 64) → ¬ Ev.InR n ps := fun h h2 => h ⟨h2.1, h2.2.1⟩
  unfold Ev.i64B at hnb
  by_cases h1 : n < 0
  · have HNO := Lib.hid (no (by omega)); clear no
    go_enter Tryz.func102, Tryz.ntmps102
    go_wp2
    go_ret
    exact Ev.CPost.mk false rfl (.inl ⟨rfl, HNO.out⟩) (Below.refl _ _)
  by_cases h2 : 64 < n
  · have HNO := Lib.hid (no (by omega)); clear no
    go_enter Tryz.func102, Tryz.ntmps102
    go_wp2
    go_ret
    exact Ev.CPost.mk false rfl (.inl ⟨rfl, HNO.out⟩) (Below.refl _ _)
  clear no
  obtain ⟨nn, rfl⟩ : ∃ nn : Nat, n = nn := ⟨n.toNat, by omega⟩
  go_enter Tryz.func102, Tryz.ntmps102
  go_wp2
  go_loopw [17] (fun i wr => ∃ k : Nat, k ≤ ps.length ∧ i = .int .i64 (k : Int) ∧ (∀ j p, j < k → ps[j]? = some p → Ev.inB p.1 nn = true ∧ Ev.inB p.2 nn = true) ∧ Ev.GroupsAre wr (w.heap.size + 1) w.heap.size k (ps.take k) ∧ Below w.heap.size w wr ∧ w.heap.size + 1 ≤ wr.heap.size) (fun i _ => ps.length - (intOf i).toNat)
  case atStart => exact ⟨0, Nat.zero_le _, rfl, fun j p hj => absurd hj (by omega), ⟨⟨_, World.ownsGroups_made _ _ _ _ _, fun y _ => rfl⟩⟩, (Below.refl _ _).alloc (Nat.le_refl _) _, by simp⟩
  case round =>
    obtain ⟨k, hk, rfl, hall, hgrp, hbr, hws⟩ := hrel
    have HALL := Lib.hid hall; have HGRP := Lib.hid hgrp; have HBR := Lib.hid hbr; have HWS := Lib.hid hws
    clear hall hgrp hbr hws
    by_cases hlt : k < ps.length
    · obtain ⟨p, hp⟩ : ∃ p, ps[k]? = some p := ⟨_, List.getElem?_eq_getElem hlt⟩
      obtain ⟨g, o, ea, hcx⟩ := (HIN.out.kp (Ev.kp_below HBR.out)).at_ hp
      have hpb := HIN.out.ok p (List.mem_of_getElem? hp)
      have htk : ps.take (k + 1) = ps.take k ++ [p] := by rw [List.take_add_one, hp]; rfl
      have HP := Lib.hid hp; have HC := Lib.hid hcx; have HPB := Lib.hid hpb; have HTK := Lib.hid htk
      have hki : (k : Int) < (ps.length : Int) := by omega
      have bad : (Ev.inB p.1 nn = false ∨ Ev.inB p.2 nn = false) → ¬ Ev.InR (nn : Int) ps := fun h h2 => by
        have h3 := (Ev.inRB_iff).2 h2
        unfold Ev.inRB at h3
        simp only [Bool.and_eq_true, List.all_eq_true] at h3
        have h4 := h3.2 p (List.mem_of_getElem? HP.out)
        rcases h with h | h
        · rw [h] at h4; cases h4.1
        · rw [h] at h4; cases h4.2
      have BAD := Lib.hid bad
      clear hp hcx hpb htk bad
      rw [ea]; clear ea
      go_wp2_with (first
          | (show wpList _ _ _ (Oper.mk (some 20) _ _ _ _ _ :: _) _ _; refine wpList_load_at rfl 72 (.tmp 19) rfl g (o + k * 2) (by kernel_rfl) (Ev.pz p) _ HC.out Tryz.underlying72 rfl (by kernel_rfl) ?_)
          | (show wpList _ _ _ (Oper.mk none (Op.store 72 _ _) _ _ _ _ :: _) _ _; refine wpList_store_own rfl 72 (.tmp 7) (.tmp 20) rfl wr.heap.size (Ev.pz p).toArray rfl rfl 72 #[.int .i64 0, .int .i64 0] (heap_alloc_new _ _) (by kernel_rfl) (by kernel_rfl) (by kernel_rfl) ?_
             intro W1 HW1
             have B1 := Lib.hid (((Below.refl wr.heap.size wr).alloc (Nat.le_refl _) _).trans HW1.below)
             have RW := Lib.hid HW1.row
             have c0 : W1.cell? ⟨wr.heap.size, 0, none⟩ = some (.int .i64 p.1) := by rw [cell_of_row _ _ _ _ _ _ HW1.row]; rfl
             have c1 : W1.cell? ⟨wr.heap.size, 1, none⟩ = some (.int .i64 p.2) := by rw [cell_of_row _ _ _ _ _ _ HW1.row]; rfl
             clear HW1))
      refine (inB_any _ _ _).mono ?_
      rintro e w' ⟨rfl, rfl⟩
      obtain ⟨b1, hb1⟩ : ∃ b, Ev.inB p.1 nn = b := ⟨_, rfl⟩
      have H1 := Lib.hid hb1
      rw [hb1]; clear hb1
      cases b1
      · go_wp2_with fail
        go_ret
        exact Ev.CPost.mk false rfl (.inl ⟨rfl, BAD.out (.inl H1.out)⟩) (HBR.out.trans (B1.out.mono HBR.out.size))
      go_wp2_with fail
      refine (inB_any _ _ _).mono ?_
      rintro e w' ⟨rfl, rfl⟩
      obtain ⟨b2, hb2⟩ : ∃ b, Ev.inB p.2 nn = b := ⟨_, rfl⟩
      have H2 := Lib.hid hb2
      rw [hb2]; clear hb2
      cases b2
      · go_wp2_with fail
        go_ret
        exact Ev.CPost.mk false rfl (.inl ⟨rfl, BAD.out (.inr H2.out)⟩) (HBR.out.trans (B1.out.mono HBR.out.size))
      go_wp2_with fail
      have hg1 := Ev.groups_below HGRP.out B1.out
      obtain ⟨D, ho, hD⟩ := hg1.ex
      have HO := Lib.hid ho; have HD := Lib.hid hD
      obtain ⟨v, zs, hrun, hat, hoi, hzl, hback⟩ := groups_look ho law_int Tryz.underlying152 Ev.zero_ints (by unfold maxLen; omega) (keyOf_int_mk (P := Tryz.prog) Tryz.underlying3 (wf_of_i64 HPB.out.1))
      rw [hD p.1 HPB.out.1] at hat
      have hzs := Ev.rd_of hoi hat
      have HRUN := Lib.hid hrun; have HOI := Lib.hid hoi; have HBACK := Lib.hid hback; have HZS := Lib.hid hzs
      have hzlen : zs.length ≤ k := by omega
      obtain ⟨wq, hwq⟩ : ∃ wq, wq = { W1 with drawn := W1.drawn + 1 } := ⟨_, rfl⟩
      have hbq : Below W1.heap.size W1 wq := by rw [hwq]; exact ⟨rfl, rfl, rfl, Nat.le_refl _, fun _ _ => rfl⟩
      have HBQ := Lib.hid hbq
      have hszq : wq.heap.size = W1.heap.size := by rw [hwq]
      have HSQ := Lib.hid (show ∀ i, Ev.Sw W1 wr.heap.size p.1 p.2 i wq from fun i => ⟨fun _ => HBQ.out, Ev.kp_below HBQ.out _ _ c0, Ev.kp_below HBQ.out _ _ c1⟩)
      have HSZQ := Lib.hid hszq
      have g7lt : wr.heap.size < W1.heap.size := (Array.getElem?_eq_some_iff.1 RW.out).1
      have G7 := Lib.hid g7lt
      have HWQ := Lib.hid hwq
      clear hg1 ho hD hrun hat hoi hzl hback hzs hwq hbq hszq c0 c1 g7lt
      refine Og.region_S (S := Ev.Sw W1 wr.heap.size p.1 p.2) (by kernel_rfl) ?_
      rw [← HWQ.out]
      refine Og.s_take 0 _ (.map (some w.heap.size)) _ rfl rfl (by kernel_rfl) (by kernel_rfl) (by kernel_rfl) (fun _ _ _ h => h) (HSQ.out 0) (fun x hx => ?_) (by simp only [Act.put, List.setIfInBounds_toArray, List.set_cons_zero, List.set_cons_succ]; rfl) ?_
      · go_simp; try (with_reducible rfl)
      refine Og.s_take 1 _ (.pointer (some ⟨wr.heap.size, 0, none⟩)) _ rfl rfl (by kernel_rfl) (by kernel_rfl) (by kernel_rfl) (fun _ _ _ h => h) (HSQ.out 1) (fun x hx => ?_) (by simp only [Act.put, List.setIfInBounds_toArray, List.set_cons_zero, List.set_cons_succ]; rfl) ?_
      · go_simp; try (with_reducible rfl)
      refine Og.s_take 2 _ (.int .i64 p.1) _ rfl rfl (by kernel_rfl) (by kernel_rfl) (by kernel_rfl) (fun _ _ _ h => h) (HSQ.out 2) (fun x hx => ?_) (by simp only [Act.put, List.setIfInBounds_toArray, List.set_cons_zero, List.set_cons_succ]; rfl) ?_
      · have hx0 := hx.2.1; go_simp; try (with_reducible rfl)
      refine Og.s_take 3 _ (.map (some w.heap.size)) _ rfl rfl (by kernel_rfl) (by kernel_rfl) (by kernel_rfl) (fun _ _ _ h => h) (HSQ.out 3) (fun x hx => ?_) (by simp only [Act.put, List.setIfInBounds_toArray, List.set_cons_zero, List.set_cons_succ]; rfl) ?_
      · go_simp; try (with_reducible rfl)
      refine Og.s_take 4 _ (.pointer (some ⟨wr.heap.size, 0, none⟩)) _ rfl rfl (by kernel_rfl) (by kernel_rfl) (by kernel_rfl) (fun _ _ _ h => h) (HSQ.out 4) (fun x hx => ?_) (by simp only [Act.put, List.setIfInBounds_toArray, List.set_cons_zero, List.set_cons_succ]; rfl) ?_
      · go_simp; try (with_reducible rfl)
      refine Og.s_take 5 _ (.int .i64 p.1) _ rfl rfl (by kernel_rfl) (by kernel_rfl) (by kernel_rfl) (fun _ _ _ h => h) (HSQ.out 5) (fun x hx => ?_) (by simp only [Act.put, List.setIfInBounds_toArray, List.set_cons_zero, List.set_cons_succ]; rfl) ?_
      · have hx0 := hx.2.1; go_simp; try (with_reducible rfl)
      refine Og.s_take 6 _ (v) _ rfl rfl (by kernel_rfl) (by kernel_rfl) (by kernel_rfl) (fun _ _ _ h => h) (HSQ.out 6) (fun x hx => ?_) (by simp only [Act.put, List.setIfInBounds_toArray, List.set_cons_zero, List.set_cons_succ]; rfl) ?_
      · have hx0 := HRUN.out x (hx.1 rfl); go_simp; try (with_reducible rfl)
      refine Og.s_take 7 _ (.pointer (some ⟨wr.heap.size, 1, none⟩)) _ rfl rfl (by kernel_rfl) (by kernel_rfl) (by kernel_rfl) (fun _ _ _ h => h) (HSQ.out 7) (fun x hx => ?_) (by simp only [Act.put, List.setIfInBounds_toArray, List.set_cons_zero, List.set_cons_succ]; rfl) ?_
      · go_simp; try (with_reducible rfl)
      refine Og.s_take 8 _ (.int .i64 p.2) _ rfl rfl (by kernel_rfl) (by kernel_rfl) (by kernel_rfl) (fun _ _ _ h => h) (HSQ.out 8) (fun x hx => ?_) (by simp only [Act.put, List.setIfInBounds_toArray, List.set_cons_zero, List.set_cons_succ]; rfl) ?_
      · have hx0 := hx.2.2; go_simp; try (with_reducible rfl)
      have hnev : v.ownBlock ≠ some wr.heap.size := by
        rcases HOI.out.1.2 with ⟨rfl, _⟩ | ⟨g', cap, cur, rfl, _, hh, _⟩
        · simp [Value.ownBlock]
        · intro he
          have : g' = wr.heap.size := by simpa [Value.ownBlock] using he
          subst this
          have := hh.symm.trans RW.out
          injection this with this
          injection this with _ ht
          exact absurd ht (by decide)
      have HNEV := Lib.hid hnev; clear hnev
      -- the new row
      refine Og.s_one 9 _ rfl rfl (by kernel_rfl) ?_
      refine Og.wp_run (v := .slice (some ⟨wq.heap.size, 0, none⟩) 1 1) (w' := wq.alloc (.cells #[.int .i64 p.2] 3)) (by go_simp; try (with_reducible rfl)) ⟨keep_12 rfl (.inr fun h => h.alloc (by have := HSZQ.out; omega) _) (fun q hq => World.cell?_alloc_lt wq _ q (by rw [hq, HSZQ.out]; exact G7.out)), ?_⟩
      have hoi9 : (wq.alloc (.cells #[.int .i64 p.2] 3)).ownsInts (w.heap.size + 1) 3 .i64 v zs := ⟨Ev.row_below' (HOI.out.1) (HBQ.out.alloc (by have := HSZQ.out; omega) _), HOI.out.2⟩
      obtain ⟨v', w10, hrun10, hown10, hgrow10, hnil10, hloc10⟩ := run_append_own_at (P := Tryz.prog) (wq.alloc (.cells #[.int .i64 p.2] 3)) (w.heap.size + 1) 23 23 3 i0 (.int .i64 0) 1 8 Tryz.underlying23 HI.out HZ0.out HZ1.out HZ2.out rfl (by decide) v zs.length (zs.map (Value.int .i64)) hoi9.1 ⟨wq.heap.size, 0, none⟩ 1 1 [.int .i64 p.2] rfl (World.news_of_block (cs := #[.int .i64 p.2]) (heap_alloc_new wq _)) (by intro u hu; simp at hu; subst hu; rfl) (by unfold maxLen; omega) (by omega) (by simp only [World.size_alloc]; have := HSZQ.out; have := HWS.out; have := HBR.out.size; have := B1.out.size; omega)
      have HR10 := Lib.hid hrun10; have HO10 := Lib.hid hown10; have HG10 := Lib.hid hgrow10; have HL10 := Lib.hid hloc10; have HOI9 := Lib.hid hoi9
      clear hrun10 hown10 hgrow10 hnil10 hloc10 hoi9
      refine Og.s_one 10 _ rfl rfl (by kernel_rfl) ?_
      refine Og.wp_run (v := v') (w' := w10) (Og.append_run (.tmp 39) (.tmp 42) 23 (by kernel_rfl) (by kernel_rfl) (by kernel_rfl) HR10.out) ⟨keep_12 rfl (.inl ⟨{ on := 6, ground := .data }, by simp, by kernel_rfl, rfl⟩) (fun q hq => (HG10.out.cell_far q (by simp only [World.size_alloc]; rw [hq, HSZQ.out]; have := G7.out; omega) (by rw [hq]; exact fun e => HNEV.out e.symm)).trans (rfl)), ?_⟩
      have hgw : W1.grownBy w10 v.ownBlock := ((World.grownBy.but_of (HBQ.out.trans ((Below.refl wq.heap.size wq).alloc (Nat.le_refl _) _ |>.mono (by have := HSZQ.out; omega)))).but _).andThen HG10.out fun _ e => .inr e
      obtain ⟨w11, hrun11, hgrp11, hgrow11⟩ := HBACK.out w10 v' (zs ++ [p.2]) hgw (HOI9.out.appended HO10.out (wf_of_i64 HPB.out.2)) (by simp; omega) (HL10.out.imp id fun h => ⟨_, h, by simp only [World.size_alloc]; have := HSZQ.out; omega⟩)
      have hdat := (HOI9.out.appended HO10.out (wf_of_i64 HPB.out.2)).datum_pos (H := Unit) (by simp)
      rw [hdat, HZS.out] at hgrp11
      have HR11 := Lib.hid hrun11; have HGP := Lib.hid hgrp11; have HG11 := Lib.hid hgrow11; have HGW := Lib.hid hgw
      clear hrun11 hgrp11 hgrow11 hgw hdat
      refine Og.s_one 11 _ rfl rfl (by kernel_rfl) ?_
      have hcells : ∀ q : Addr, q.block = wr.heap.size → w11.cell? q = w10.cell? q := fun q hq => HG11.out.cell_far q (Nat.lt_of_lt_of_le (by rw [hq]; exact G7.out) (HGW.out.size)) (by rw [hq]; intro e; injection e with e; have := HWS.out; omega)
      have HCELLS := Lib.hid hcells; clear hcells
      refine Og.wp_skip (w' := w11) ?_ ?_
      · have hr := HR11.out
        go_simp
        try (with_reducible rfl)
      refine And.intro (keep_12 rfl (.inl ?_) HCELLS.out) ?_
      · exact ⟨{ on := 6, ground := .phase }, Array.mem_of_getElem? (i := 10) (by kernel_rfl), by kernel_rfl, rfl⟩
      refine Og.s_done (by kernel_rfl) ?_ _
      simp only [Act.put, List.setIfInBounds_toArray, List.set_cons_zero, List.set_cons_succ]
      have B11 := Lib.hid (((HBR.out.trans (B1.out.mono HBR.out.size)).groups HOI.out HGW.out HG11.out (Nat.le_trans HBR.out.size B1.out.size) (Nat.le_succ _) (Nat.le_refl _)))
      go_wp2_with fail
      go_roundw
      case rel =>
        refine ⟨k + 1, by omega, by go_num, fun j q hj hq => ?_, ?_, B11.out, ?_⟩
        · by_cases hjk : j = k
          · subst hjk; rw [HP.out] at hq; cases hq; exact ⟨H1.out, H2.out⟩
          · exact HALL.out j q (by omega) hq
        · rw [HTK.out]
          exact ⟨⟨_, HGP.out, fun y hy => Ev.groups_step (Ev.groups_isMap HO.out) HD.out y hy⟩⟩
        · have := HWS.out; have := B1.out.size; have := HGW.out.size; have := HG11.out.size; omega
      case measure => simp [intOf]; omega
    · have hkk : k = ps.length := by omega
      have hki : ¬ (k : Int) < (ps.length : Int) := by omega
      have hgr := HGRP.out
      rw [hkk, List.take_length] at hgr
      have HNX := Lib.hid (Ev.next_of hgr (by unfold maxLen; omega))
      have hinr : Ev.InR (nn : Int) ps := Ev.inRB_iff.1 (by
        unfold Ev.inRB
        simp only [Bool.and_eq_true, decide_eq_true_eq, List.all_eq_true]
        exact ⟨⟨by omega, by omega⟩, fun q hq => by
          obtain ⟨j, hj⟩ := List.mem_iff_getElem?.1 hq
          exact HALL.out j q (by have := (List.getElem?_eq_some_iff.1 hj).1; omega) hj⟩)
      have HINR := Lib.hid hinr
      clear hgr hinr hkk
      go_wp2_with fail
      refine (hasCircle_any nn w.heap.size ps wr HINR.out HNX.out).mono ?_
      rintro e w2 ⟨b, rfl, hc, hb⟩
      have HC := Lib.hid hc; have HB := Lib.hid (HBR.out.trans (hb.mono HBR.out.size))
      clear hc hb
      cases b
      · go_wp2_with fail
        go_ret
        refine Ev.CPost.mk true rfl (.inr (.inr ⟨rfl, HINR.out, ?_⟩)) HB.out
        rcases HC.out with ⟨h, _⟩ | ⟨_, h⟩
        · cases h
        · exact h
      · go_wp2_with fail
        go_ret
        refine Ev.CPost.mk false rfl (.inr (.inl ⟨rfl, HINR.out, ?_⟩)) HB.out
        rcases HC.out with ⟨_, h⟩ | ⟨h, _⟩
        · exact h
        · cases h
end Go.Proofs.YtnjnpbabgefaeaaGreat
end
