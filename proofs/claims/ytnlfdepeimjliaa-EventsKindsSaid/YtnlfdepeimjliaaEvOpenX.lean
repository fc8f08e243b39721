/-
  How an execution reads as data: its events, where its loads read from, its orders.
-/
import Derived.Test.YtnlfdepeimjliaaEvOpen
import Derived.Lib.SmallJoins
namespace Go.Proofs.Ytnlfdepeimjliaa
open Go.Joins Go.ChangeShapes Go.WideShapes Go.ChangeAt Go.RowKit Go.Deep
set_option linter.unusedVariables false
set_option linter.unusedSimpArgs false
theorem u32_of_wf {n : Int} (h : (Lit.int .u32 n).wf = true) : Ev.u32B n := by
  unfold Ev.u32B
  have h1 : IntKind.u32.min = 0 := by decide
  have h2 : IntKind.u32.max = 4294967295 := by decide
  simp only [Lit.wf, h1, h2, Bool.and_eq_true, decide_eq_true_eq] at h; omega
theorem bool_in {H : Type} {enc : TypeId × Value → H} {P : Program} {w : World} {base : Nat} {sp : Nat → Bool} {held : Bool} {fuel : Nat} {t : TypeId} {c : Value} {y : DataW H × List MemPlace}
    (ht : P.underlying t = some .bool) (h : DataW.trod enc P w base sp held fuel t [c] = some y) : ∃ b, c = .bool b := by
  cases fuel with
  | zero => simp [DataW.trod] at h
  | succ fuel =>
    cases c <;> simp [DataW.trod, ht] at h
    exact ⟨_, rfl⟩
section
variable {H : Type} {enc : TypeId × Value → H} {W : World}
theorem ints_in {fuel : Nat} {c : Value} {y : DataW H × List MemPlace} (h : DataW.trod enc Try.prog W 0 (fun _ => true) true fuel 23 [c] = some y) :
    ∃ s : Ev.Sl, c = .slice s.a s.l.length s.c ∧ Ev.IntsIn W s := by
  rcases open_ints Try.underlying23 Try.underlying3 cellsInt h with ⟨hcs, _⟩ | ⟨a, len, cap, zs, hcs, _⟩
  · obtain rfl : c = _ := by simpa using hcs
    obtain ⟨xs, hl, hi⟩ := open_numbers (d0 := y.1) (p := y.2) ⟨fuel, by simpa [Value.cells] using h⟩
    exact ⟨⟨none, 0, xs⟩, by simp [hl], hi⟩
  · obtain rfl : c = _ := by simpa using hcs
    obtain ⟨xs, hl, hi⟩ := open_numbers (d0 := y.1) (p := y.2) ⟨fuel, by simpa [Value.cells] using h⟩
    exact ⟨⟨some a, cap, xs⟩, by simp [hl], hi⟩
/-- a slice of things of n cells each -/
theorem rows_in {α : Type} (x0 : α) (cells : α → List Value) (OK : α → Prop) (n : Nat) {t e : TypeId} (hn : Try.prog.cellsOf e = n) (hp : 0 < n) (hlen : ∀ x, (cells x).length = n)
    (each0 : ∀ fuel cs y, DataW.trod enc Try.prog W 0 (fun _ => true) true fuel e cs = some y → ∃ x, cs = cells x ∧ OK x) (ht : Try.prog.underlying t = some (.slice e))
    {fuel : Nat} {c : Value} {y : DataW H × List MemPlace} (h : DataW.trod enc Try.prog W 0 (fun _ => true) true fuel t [c] = some y) :
    ∃ (a : Option Addr) (cap : Nat) (xs : List α), c = .slice a xs.length cap ∧ Ev.RowsIn W a n (xs.map cells) ∧ (∀ x ∈ xs, OK x) ∧ xs.length ≤ cap ∧ cap ≤ 9223372036854775807 := by
  rcases open_slice ht h with ⟨hcs, _⟩ | ⟨a, len, cap, m, nn, D, Pl, hcs, hb, hl, hm, hmm, hx, hi⟩
  · exact ⟨none, 0, [], by simpa using hcs, fun h => absurd h (by simp), (fun x hx => (by cases hx)), by simp, by simp⟩
  · simp only [if_true] at hmm
    subst hmm
    unfold maxLen at hm
    rw [hn] at hi
    have each : ∀ i, i < len → ∃ v : α, (∀ k c, (cells v)[k]? = some c → W.cell? ((a.add (i * n)).add k) = some c) ∧ OK v := fun i hil => by
      obtain ⟨cs', hc, ht⟩ := hi i (by omega)
      obtain ⟨v, rfl, hok⟩ := each0 _ _ _ ht
      obtain ⟨_, _, hat⟩ := World.cells?_some hc
      refine ⟨v, fun k c hk => ?_, hok⟩
      have hk4 : k < n := by
        have := (List.getElem?_eq_some_iff.1 hk).1
        rw [hlen v] at this; exact this
      rw [hat k hk4]
      exact hk
    let f : Nat → α := fun i => if h : i < len then (each i h).choose else x0
    have hfi : ∀ i (h : i < len), f i = (each i h).choose := fun i h => dif_pos h
    refine ⟨some a, _, (List.range len).map f, by simpa using hcs, fun hp2 => ?_, fun v hv => ?_, by simp; omega, hm⟩
    · have hp' : 0 < len := by simpa using hp2
      obtain ⟨b, off, spot⟩ := a
      have hlen0 := hlen (each 0 hp').choose
      obtain ⟨c00, hc00⟩ : ∃ c, (cells (each 0 hp').choose)[0]? = some c := ⟨_, List.getElem?_eq_getElem (by omega)⟩
      have h00 := (each 0 hp').choose_spec.1 0 _ hc00
      have hspot : spot = none := by simpa [Addr.add] using World.cell?_spot h00
      subst hspot
      refine ⟨b, off, rfl, fun j v hv k c hk => ?_⟩
      have hjl : j < len := by have := (List.getElem?_eq_some_iff.1 hv).1; simpa using this
      have hv' : v = cells (f j) := by rw [List.getElem?_map, List.getElem?_map, List.getElem?_range hjl] at hv; exact (Option.some.inj hv).symm
      rw [hv', hfi j hjl] at hk
      have := (each j hjl).choose_spec.1 k c hk
      rw [Go.WideShapes.add_plain, Go.WideShapes.add_plain] at this
      exact this
    · obtain ⟨i, hi', rfl⟩ := List.mem_map.1 hv
      rw [hfi i (List.mem_range.1 hi')]
      exact (each i (List.mem_range.1 hi')).choose_spec.2
theorem cellsEvent : Try.prog.cellsOf 44 = 13 := by kernel_rfl
theorem cellsExec : Try.prog.cellsOf 26 = 3 := by kernel_rfl
set_option maxRecDepth 100000 in
set_option maxHeartbeats 4000000 in
theorem event_in {fuel : Nat} {cs : List Value} {y : DataW H × List MemPlace} (h : DataW.trod enc Try.prog W 0 (fun _ => true) true fuel 44 cs = some y) : ∃ x : Ev.R, cs = Ev.cells x ∧ Ev.ROk W x := by
  obtain ⟨xs, n, _, _, hl, hlen, hg⟩ := DataW.trod_struct Try.underlying44 h
  have u1 : Try.prog.cellsOf 3 = 1 := cellsInt
  have u2 : Try.prog.cellsOf 41 = 1 := by kernel_rfl
  have u3 : Try.prog.cellsOf 42 = 1 := by kernel_rfl
  have u4 : Try.prog.cellsOf 4 = 1 := by kernel_rfl
  have u5 : Try.prog.cellsOf 23 = 1 := by kernel_rfl
  rw [cellsEvent] at hl
  match xs, hlen, cs, hl with
  | [y0, y1, y2, y3, y4, y5, y6, y7, y8, y9, y10, y11, y12], _, [c0, c1, c2, c3, c4, c5, c6, c7, c8, c9, c10, c11, c12], _ =>
    have g0 : DataW.trod enc Try.prog W 0 (fun _ => true) true n 3 [c0] = some y0 := by simpa [u1, u2, u3, u4, u5] using hg 0 _ rfl
    have g1 : DataW.trod enc Try.prog W 0 (fun _ => true) true n 41 [c1] = some y1 := by simpa [u1, u2, u3, u4, u5] using hg 1 _ rfl
    have g2 : DataW.trod enc Try.prog W 0 (fun _ => true) true n 42 [c2] = some y2 := by simpa [u1, u2, u3, u4, u5] using hg 2 _ rfl
    have g3 : DataW.trod enc Try.prog W 0 (fun _ => true) true n 42 [c3] = some y3 := by simpa [u1, u2, u3, u4, u5] using hg 3 _ rfl
    have g4 : DataW.trod enc Try.prog W 0 (fun _ => true) true n 42 [c4] = some y4 := by simpa [u1, u2, u3, u4, u5] using hg 4 _ rfl
    have g5 : DataW.trod enc Try.prog W 0 (fun _ => true) true n 4 [c5] = some y5 := by simpa [u1, u2, u3, u4, u5] using hg 5 _ rfl
    have g6 : DataW.trod enc Try.prog W 0 (fun _ => true) true n 4 [c6] = some y6 := by simpa [u1, u2, u3, u4, u5] using hg 6 _ rfl
    have g7 : DataW.trod enc Try.prog W 0 (fun _ => true) true n 3 [c7] = some y7 := by simpa [u1, u2, u3, u4, u5] using hg 7 _ rfl
    have g8 : DataW.trod enc Try.prog W 0 (fun _ => true) true n 3 [c8] = some y8 := by simpa [u1, u2, u3, u4, u5] using hg 8 _ rfl
    have g9 : DataW.trod enc Try.prog W 0 (fun _ => true) true n 4 [c9] = some y9 := by simpa [u1, u2, u3, u4, u5] using hg 9 _ rfl
    have g10 : DataW.trod enc Try.prog W 0 (fun _ => true) true n 23 [c10] = some y10 := by simpa [u1, u2, u3, u4, u5] using hg 10 _ rfl
    have g11 : DataW.trod enc Try.prog W 0 (fun _ => true) true n 23 [c11] = some y11 := by simpa [u1, u2, u3, u4, u5] using hg 11 _ rfl
    have g12 : DataW.trod enc Try.prog W 0 (fun _ => true) true n 23 [c12] = some y12 := by simpa [u1, u2, u3, u4, u5] using hg 12 _ rfl
    obtain ⟨a0, rfl, w0⟩ := int_in Try.underlying3 g0
    obtain ⟨a1, rfl, w1⟩ := int_in Try.underlying41 g1
    obtain ⟨a2, rfl, w2⟩ := int_in Try.underlying42 g2
    obtain ⟨a3, rfl, w3⟩ := int_in Try.underlying42 g3
    obtain ⟨a4, rfl, w4⟩ := int_in Try.underlying42 g4
    obtain ⟨a5, rfl⟩ := bool_in Try.underlying4 g5
    obtain ⟨a6, rfl⟩ := bool_in Try.underlying4 g6
    obtain ⟨a7, rfl, w7⟩ := int_in Try.underlying3 g7
    obtain ⟨a8, rfl, w8⟩ := int_in Try.underlying3 g8
    obtain ⟨a9, rfl⟩ := bool_in Try.underlying4 g9
    obtain ⟨a10, rfl, w10⟩ := ints_in g10
    obtain ⟨a11, rfl, w11⟩ := ints_in g11
    obtain ⟨a12, rfl, w12⟩ := ints_in g12
    exact ⟨⟨a0, a1, a2, a3, a4, a5, a6, a7, a8, a9, a10, a11, a12⟩, rfl, ⟨i64_of_wf w0, i64_of_wf w1, u32_of_wf w2, u32_of_wf w3, u32_of_wf w4, i64_of_wf w7, i64_of_wf w8, w10, w11, w12⟩⟩
theorem evs_in {fuel : Nat} {c : Value} {y : DataW H × List MemPlace} (h : DataW.trod enc Try.prog W 0 (fun _ => true) true fuel 22 [c] = some y) :
    ∃ (a : Option Addr) (cap : Nat) (xs : List Ev.R), c = .slice a xs.length cap ∧ Ev.EvsIn W a cap xs := by
  obtain ⟨a, cap, xs, e, h1, h2, h3, h4⟩ := rows_in ⟨0, 0, 0, 0, 0, false, false, 0, 0, false, ⟨none, 0, []⟩, ⟨none, 0, []⟩, ⟨none, 0, []⟩⟩ Ev.cells (Ev.ROk W) 13 cellsEvent (by decide) (fun _ => rfl) (fun _ _ _ h => event_in h) Try.underlying22 h
  exact ⟨a, cap, xs, e, h1, h2, h3, h4⟩
theorem od_in {fuel : Nat} {c : Value} {y : DataW H × List MemPlace} (h : DataW.trod enc Try.prog W 0 (fun _ => true) true fuel 24 [c] = some y) :
    ∃ (a : Option Addr) (cap : Nat) (xs : List Ev.Sl), c = .slice a xs.length cap ∧ Ev.OdIn W a cap xs := by
  obtain ⟨a, cap, xs, e, h1, h2, h3, h4⟩ := rows_in (⟨none, 0, []⟩ : Ev.Sl) (fun s => [s.v]) (Ev.IntsIn W) 1 (e := 23) (by kernel_rfl) (by decide) (fun _ => rfl) (fun fuel cs y h => by
    rcases open_ints Try.underlying23 Try.underlying3 cellsInt h with ⟨rfl, _⟩ | ⟨a, len, cap, zs, rfl, _⟩
    · obtain ⟨s, hs, hi⟩ := ints_in h; exact ⟨s, by rw [hs]; rfl, hi⟩
    · obtain ⟨s, hs, hi⟩ := ints_in h; exact ⟨s, by rw [hs]; rfl, hi⟩) Try.underlying24 h
  exact ⟨a, cap, xs, e, h1, h2, h3, h4⟩
/-- an execution, given by value -/
theorem open_exec {r : Reach} {b0 : Nat} {v : Value} {d : DataW H} {p : List MemPlace} (hv : Value.okWide Try.prog W r b0 26 v) (h : DataW.Trod enc Try.prog W 0 (fun _ => true) true 26 v d p) :
    ∃ x : Ev.X, v = Ev.exV x ∧ Ev.XIn W x := by
  obtain ⟨cs, rfl, hsz⟩ := okWide_struct Try.underlying26 hv
  obtain ⟨l⟩ := cs
  obtain ⟨fuel, hf⟩ := h
  have u1 : Try.prog.cellsOf 22 = 1 := by kernel_rfl
  have u2 : Try.prog.cellsOf 23 = 1 := by kernel_rfl
  have u3 : Try.prog.cellsOf 24 = 1 := by kernel_rfl
  match l, hsz.trans cellsExec with
  | [c0, c1, c2], _ =>
    obtain ⟨xs, n, _, _, hl, hlen, hg⟩ := DataW.trod_struct Try.underlying26 hf
    match xs, hlen with
    | [y0, y1, y2], _ =>
      have g0 : DataW.trod enc Try.prog W 0 (fun _ => true) true n 22 [c0] = some y0 := by simpa [Value.cells, u1, u2, u3] using hg 0 _ rfl
      have g1 : DataW.trod enc Try.prog W 0 (fun _ => true) true n 23 [c1] = some y1 := by simpa [Value.cells, u1, u2, u3] using hg 1 _ rfl
      have g2 : DataW.trod enc Try.prog W 0 (fun _ => true) true n 24 [c2] = some y2 := by simpa [Value.cells, u1, u2, u3] using hg 2 _ rfl
      obtain ⟨ae, ce, ev, rfl, hev⟩ := evs_in g0
      obtain ⟨fr, rfl, hfr⟩ := ints_in g1
      obtain ⟨ao, co, od, rfl, hod⟩ := od_in g2
      exact ⟨⟨ae, ce, ev, fr, ao, co, od⟩, rfl, ⟨hev, hfr, hod⟩⟩
end
end Go.Proofs.Ytnlfdepeimjliaa
