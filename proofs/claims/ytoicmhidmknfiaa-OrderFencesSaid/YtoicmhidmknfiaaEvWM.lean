/-
  EvWM: EvOpenB, EvOpenX, EvWide7 in one text.
-/
import Derived.Test.YtoicmhidmknfiaaEvRelB
import Derived.ProofKit
import Derived.OpenShut
import Derived.Lib.SmallJoins
import Derived.Carry
import Derived.Deep.Slices
import Derived.BigGuardPart
import Derived.Deep.QuietTactic
import Derived.BigQuiet
import Derived.Test.YtoicmhidmknfiaaEvEqB

section
namespace Go.Proofs.Ytoicmhidmknfiaa
open Go.Joins Go.ChangeShapes Go.WideShapes Go.ChangeAt Go.RowKit Go.Deep
set_option linter.unusedVariables false
set_option linter.unusedSimpArgs false
theorem own : ownKnob Try.prog.godebug = none := by kernel_rfl
theorem laidOut : laidOutB Try.prog = true := by kernel_rfl
theorem cellsInt : Try.prog.cellsOf 3 = 1 := by kernel_rfl
theorem i64_of_wf {n : Int} (h : (Lit.int .i64 n).wf = true) : Ev.i64B n := by
  unfold Ev.i64B
  have h1 : IntKind.i64.min = -9223372036854775808 := by decide
  have h2 : IntKind.i64.max = 9223372036854775807 := by decide
  simp only [Lit.wf, h1, h2, Bool.and_eq_true, decide_eq_true_eq] at h; exact h
theorem int_in {H : Type} {enc : TypeId × Value → H} {P : Program} {W : World} {base : Nat} {sp : Nat → Bool} {held : Bool} {fuel : Nat} {t : TypeId} {q : IntKind} {c : Value} {y : DataW H × List MemPlace} (ht : P.underlying t = some (.int q))
    (h : DataW.trod enc P W base sp held fuel t [c] = some y) : ∃ n, c = .int q n ∧ (Lit.int q n).wf = true := by
  obtain ⟨n, hn, _, hw⟩ := DataW.trod_int ht h
  exact ⟨n, by simpa using hn, hw⟩
theorem open_numbers {H : Type} {enc : TypeId × Value → H} {W : World} {a0 : Option Addr} {len cap : Nat} {d0 : DataW H} {p : List MemPlace}
    (h0 : DataW.Trod enc Try.prog W 0 (fun _ => true) true 23 (.slice a0 len cap) d0 p) :
    ∃ xs : List Int, xs.length = len ∧ Ev.IntsIn W ⟨a0, cap, xs⟩ := by
  obtain ⟨fuel, hf⟩ := h0
  rcases open_ints Try.underlying23 Try.underlying3 cellsInt hf with ⟨hcs, hx⟩ | ⟨a, len', cap', zs, hcs, _, hl, hm, hz, hx, hcell, hwz⟩
  · simp [Value.cells] at hcs
    obtain ⟨rfl, rfl, rfl⟩ := hcs
    exact ⟨[], rfl, fun h => absurd h (by simp), by simp, by simp, fun x hx => by cases hx⟩
  · simp [Value.cells] at hcs
    obtain ⟨rfl, rfl, rfl⟩ := hcs
    simp only [if_true] at hz
    unfold maxLen at hm
    refine ⟨zs.take len, by simp; omega, fun hp => ?_, by simp; omega, hm, fun x hx => i64_of_wf (hwz x (List.mem_of_mem_take hx))⟩
    have hp' : 0 < zs.length := by simp at hp; omega
    obtain ⟨b, off, rfl, hc⟩ := ints_at hcell hp'
    refine ⟨b, off, rfl, fun j v hv => ?_⟩
    have hj' : j < len := by have := (List.getElem?_eq_some_iff.1 hv).1; simp at this; omega
    rw [hc j (by omega)]
    rw [List.getElem?_take_of_lt hj'] at hv
    simp [List.getD, hv]
end Go.Proofs.Ytoicmhidmknfiaa
end

section
namespace Go.Proofs.Ytoicmhidmknfiaa
open Go.Joins Go.ChangeShapes Go.WideShapes Go.ChangeAt Go.RowKit Go.Deep
set_option linter.unusedVariables false
set_option linter.unusedSimpArgs false
theorem u32_of_wf {n : Int} (h : (Lit.int .u32 n).wf = true) : Ev.u32B n := by
  unfold Ev.u32B
  have h1 : IntKind.u32.min = 0 := by decide
  have h2 : IntKind.u32.max = 4294967295 := by decide
  simp only [Lit.wf, h1, h2, Bool.and_eq_true, decide_eq_true_eq] at h; omega
theorem bool_in {H : Type} {enc : TypeId × Value → H} {P : Program} {w : World} {base : Nat} {sp : Nat → Bool} {held : Bool} {fuel : Nat} {t : TypeId} {c : Value} {y : DataW H × List MemPlace}
    (ht : P.underlying t = some .bool) (h : DataW.trod enc P w base sp held fuel t [c] = some y) : ∃ b, c = .bool b := by
  cases fuel with
  | zero => simp [DataW.trod] at h
  | succ fuel =>
    cases c <;> simp [DataW.trod, ht] at h
    exact ⟨_, rfl⟩
section
variable {H : Type} {enc : TypeId × Value → H} {W : World}
theorem ints_in {fuel : Nat} {c : Value} {y : DataW H × List MemPlace} (h : DataW.trod enc Try.prog W 0 (fun _ => true) true fuel 23 [c] = some y) :
    ∃ s : Ev.Sl, c = .slice s.a s.l.length s.c ∧ Ev.IntsIn W s := by
  rcases open_ints Try.underlying23 Try.underlying3 cellsInt h with ⟨hcs, _⟩ | ⟨a, len, cap, zs, hcs, _⟩
  · obtain rfl : c = _ := by simpa using hcs
    obtain ⟨xs, hl, hi⟩ := open_numbers (d0 := y.1) (p := y.2) ⟨fuel, by simpa [Value.cells] using h⟩
    exact ⟨⟨none, 0, xs⟩, by simp [hl], hi⟩
  · obtain rfl : c = _ := by simpa using hcs
    obtain ⟨xs, hl, hi⟩ := open_numbers (d0 := y.1) (p := y.2) ⟨fuel, by simpa [Value.cells] using h⟩
    exact ⟨⟨some a, cap, xs⟩, by simp [hl], hi⟩
/-- a slice of things of n cells each -/
theorem rows_in {α : Type} (x0 : α) (cells : α → List Value) (OK : α → Prop) (n : Nat) {t e : TypeId} (hn : Try.prog.cellsOf e = n) (hp : 0 < n) (hlen : ∀ x, (cells x).length = n)
    (each0 : ∀ fuel cs y, DataW.trod enc Try.prog W 0 (fun _ => true) true fuel e cs = some y → ∃ x, cs = cells x ∧ OK x) (ht : Try.prog.underlying t = some (.slice e))
    {fuel : Nat} {c : Value} {y : DataW H × List MemPlace} (h : DataW.trod enc Try.prog W 0 (fun _ => true) true fuel t [c] = some y) :
    ∃ (a : Option Addr) (cap : Nat) (xs : List α), c = .slice a xs.length cap ∧ Ev.RowsIn W a n (xs.map cells) ∧ (∀ x ∈ xs, OK x) ∧ xs.length ≤ cap ∧ cap ≤ 9223372036854775807 := by
  rcases open_slice ht h with ⟨hcs, _⟩ | ⟨a, len, cap, m, nn, D, Pl, hcs, hb, hl, hm, hmm, hx, hi⟩
  · exact ⟨none, 0, [], by simpa using hcs, fun h => absurd h (by simp), (fun x hx => (by cases hx)), by simp, by simp⟩
  · simp only [if_true] at hmm
    subst hmm
    unfold maxLen at hm
    rw [hn] at hi
    have each : ∀ i, i < len → ∃ v : α, (∀ k c, (cells v)[k]? = some c → W.cell? ((a.add (i * n)).add k) = some c) ∧ OK v := fun i hil => by
      obtain ⟨cs', hc, ht⟩ := hi i (by omega)
      obtain ⟨v, rfl, hok⟩ := each0 _ _ _ ht
      obtain ⟨_, _, hat⟩ := World.cells?_some hc
      refine ⟨v, fun k c hk => ?_, hok⟩
      have hk4 : k < n := by
        have := (List.getElem?_eq_some_iff.1 hk).1
        rw [hlen v] at this; exact this
      rw [hat k hk4]
      exact hk
    let f : Nat → α := fun i => if h : i < len then (each i h).choose else x0
    have hfi : ∀ i (h : i < len), f i = (each i h).choose := fun i h => dif_pos h
    refine ⟨some a, _, (List.range len).map f, by simpa using hcs, fun hp2 => ?_, fun v hv => ?_, by simp; omega, hm⟩
    · have hp' : 0 < len := by simpa using hp2
      obtain ⟨b, off, spot⟩ := a
      have hlen0 := hlen (each 0 hp').choose
      obtain ⟨c00, hc00⟩ : ∃ c, (cells (each 0 hp').choose)[0]? = some c := ⟨_, List.getElem?_eq_getElem (by omega)⟩
      have h00 := (each 0 hp').choose_spec.1 0 _ hc00
      have hspot : spot = none := by simpa [Addr.add] using World.cell?_spot h00
      subst hspot
      refine ⟨b, off, rfl, fun j v hv k c hk => ?_⟩
      have hjl : j < len := by have := (List.getElem?_eq_some_iff.1 hv).1; simpa using this
      have hv' : v = cells (f j) := by rw [List.getElem?_map, List.getElem?_map, List.getElem?_range hjl] at hv; exact (Option.some.inj hv).symm
      rw [hv', hfi j hjl] at hk
      have := (each j hjl).choose_spec.1 k c hk
      rw [Go.WideShapes.add_plain, Go.WideShapes.add_plain] at this
      exact this
    · obtain ⟨i, hi', rfl⟩ := List.mem_map.1 hv
      rw [hfi i (List.mem_range.1 hi')]
      exact (each i (List.mem_range.1 hi')).choose_spec.2
theorem cellsEvent : Try.prog.cellsOf 54 = 13 := by kernel_rfl
theorem cellsExec : Try.prog.cellsOf 26 = 3 := by kernel_rfl
set_option maxRecDepth 100000 in
set_option maxHeartbeats 4000000 in
theorem event_in {fuel : Nat} {cs : List Value} {y : DataW H × List MemPlace} (h : DataW.trod enc Try.prog W 0 (fun _ => true) true fuel 54 cs = some y) : ∃ x : Ev.R, cs = Ev.cells x ∧ Ev.ROk W x := by
  obtain ⟨xs, n, _, _, hl, hlen, hg⟩ := DataW.trod_struct Try.underlying54 h
  have u1 : Try.prog.cellsOf 3 = 1 := cellsInt
  have u2 : Try.prog.cellsOf 51 = 1 := by kernel_rfl
  have u3 : Try.prog.cellsOf 52 = 1 := by kernel_rfl
  have u4 : Try.prog.cellsOf 4 = 1 := by kernel_rfl
  have u5 : Try.prog.cellsOf 23 = 1 := by kernel_rfl
  rw [cellsEvent] at hl
  match xs, hlen, cs, hl with
  | [y0, y1, y2, y3, y4, y5, y6, y7, y8, y9, y10, y11, y12], _, [c0, c1, c2, c3, c4, c5, c6, c7, c8, c9, c10, c11, c12], _ =>
    have g0 : DataW.trod enc Try.prog W 0 (fun _ => true) true n 3 [c0] = some y0 := by simpa [u1, u2, u3, u4, u5] using hg 0 _ rfl
    have g1 : DataW.trod enc Try.prog W 0 (fun _ => true) true n 51 [c1] = some y1 := by simpa [u1, u2, u3, u4, u5] using hg 1 _ rfl
    have g2 : DataW.trod enc Try.prog W 0 (fun _ => true) true n 52 [c2] = some y2 := by simpa [u1, u2, u3, u4, u5] using hg 2 _ rfl
    have g3 : DataW.trod enc Try.prog W 0 (fun _ => true) true n 52 [c3] = some y3 := by simpa [u1, u2, u3, u4, u5] using hg 3 _ rfl
    have g4 : DataW.trod enc Try.prog W 0 (fun _ => true) true n 52 [c4] = some y4 := by simpa [u1, u2, u3, u4, u5] using hg 4 _ rfl
    have g5 : DataW.trod enc Try.prog W 0 (fun _ => true) true n 4 [c5] = some y5 := by simpa [u1, u2, u3, u4, u5] using hg 5 _ rfl
    have g6 : DataW.trod enc Try.prog W 0 (fun _ => true) true n 4 [c6] = some y6 := by simpa [u1, u2, u3, u4, u5] using hg 6 _ rfl
    have g7 : DataW.trod enc Try.prog W 0 (fun _ => true) true n 3 [c7] = some y7 := by simpa [u1, u2, u3, u4, u5] using hg 7 _ rfl
    have g8 : DataW.trod enc Try.prog W 0 (fun _ => true) true n 3 [c8] = some y8 := by simpa [u1, u2, u3, u4, u5] using hg 8 _ rfl
    have g9 : DataW.trod enc Try.prog W 0 (fun _ => true) true n 4 [c9] = some y9 := by simpa [u1, u2, u3, u4, u5] using hg 9 _ rfl
    have g10 : DataW.trod enc Try.prog W 0 (fun _ => true) true n 23 [c10] = some y10 := by simpa [u1, u2, u3, u4, u5] using hg 10 _ rfl
    have g11 : DataW.trod enc Try.prog W 0 (fun _ => true) true n 23 [c11] = some y11 := by simpa [u1, u2, u3, u4, u5] using hg 11 _ rfl
    have g12 : DataW.trod enc Try.prog W 0 (fun _ => true) true n 23 [c12] = some y12 := by simpa [u1, u2, u3, u4, u5] using hg 12 _ rfl
    obtain ⟨a0, rfl, w0⟩ := int_in Try.underlying3 g0
    obtain ⟨a1, rfl, w1⟩ := int_in Try.underlying51 g1
    obtain ⟨a2, rfl, w2⟩ := int_in Try.underlying52 g2
    obtain ⟨a3, rfl, w3⟩ := int_in Try.underlying52 g3
    obtain ⟨a4, rfl, w4⟩ := int_in Try.underlying52 g4
    obtain ⟨a5, rfl⟩ := bool_in Try.underlying4 g5
    obtain ⟨a6, rfl⟩ := bool_in Try.underlying4 g6
    obtain ⟨a7, rfl, w7⟩ := int_in Try.underlying3 g7
    obtain ⟨a8, rfl, w8⟩ := int_in Try.underlying3 g8
    obtain ⟨a9, rfl⟩ := bool_in Try.underlying4 g9
    obtain ⟨a10, rfl, w10⟩ := ints_in g10
    obtain ⟨a11, rfl, w11⟩ := ints_in g11
    obtain ⟨a12, rfl, w12⟩ := ints_in g12
    exact ⟨⟨a0, a1, a2, a3, a4, a5, a6, a7, a8, a9, a10, a11, a12⟩, rfl, ⟨i64_of_wf w0, i64_of_wf w1, u32_of_wf w2, u32_of_wf w3, u32_of_wf w4, i64_of_wf w7, i64_of_wf w8, w10, w11, w12⟩⟩
theorem evs_in {fuel : Nat} {c : Value} {y : DataW H × List MemPlace} (h : DataW.trod enc Try.prog W 0 (fun _ => true) true fuel 22 [c] = some y) :
    ∃ (a : Option Addr) (cap : Nat) (xs : List Ev.R), c = .slice a xs.length cap ∧ Ev.EvsIn W a cap xs := by
  obtain ⟨a, cap, xs, e, h1, h2, h3, h4⟩ := rows_in ⟨0, 0, 0, 0, 0, false, false, 0, 0, false, ⟨none, 0, []⟩, ⟨none, 0, []⟩, ⟨none, 0, []⟩⟩ Ev.cells (Ev.ROk W) 13 cellsEvent (by decide) (fun _ => rfl) (fun _ _ _ h => event_in h) Try.underlying22 h
  exact ⟨a, cap, xs, e, h1, h2, h3, h4⟩
set_option maxRecDepth 100000 in
theorem od_in {fuel : Nat} {c : Value} {y : DataW H × List MemPlace} (h : DataW.trod enc Try.prog W 0 (fun _ => true) true fuel 24 [c] = some y) :
    ∃ (a : Option Addr) (cap : Nat) (xs : List Ev.Sl), c = .slice a xs.length cap ∧ Ev.OdIn W a cap xs := by
  obtain ⟨a, cap, xs, e, h1, h2, h3, h4⟩ := rows_in (⟨none, 0, []⟩ : Ev.Sl) (fun s => [s.v]) (Ev.IntsIn W) 1 (e := 23) (by kernel_rfl) (by decide) (fun _ => rfl) (fun fuel cs y h => by
    rcases open_ints Try.underlying23 Try.underlying3 cellsInt h with ⟨rfl, _⟩ | ⟨a, len, cap, zs, rfl, _⟩
    · obtain ⟨s, hs, hi⟩ := ints_in h; exact ⟨s, by rw [hs]; rfl, hi⟩
    · obtain ⟨s, hs, hi⟩ := ints_in h; exact ⟨s, by rw [hs]; rfl, hi⟩) Try.underlying24 h
  exact ⟨a, cap, xs, e, h1, h2, h3, h4⟩
set_option maxRecDepth 100000 in
/-- an execution, given by value -/
theorem open_exec {r : Reach} {b0 : Nat} {v : Value} {d : DataW H} {p : List MemPlace} (hv : Value.okWide Try.prog W r b0 26 v) (h : DataW.Trod enc Try.prog W 0 (fun _ => true) true 26 v d p) :
    ∃ x : Ev.X, v = Ev.exV x ∧ Ev.XIn W x := by
  obtain ⟨cs, rfl, hsz⟩ := okWide_struct Try.underlying26 hv
  obtain ⟨l⟩ := cs
  obtain ⟨fuel, hf⟩ := h
  have u1 : Try.prog.cellsOf 22 = 1 := by kernel_rfl
  have u2 : Try.prog.cellsOf 23 = 1 := by kernel_rfl
  have u3 : Try.prog.cellsOf 24 = 1 := by kernel_rfl
  match l, hsz.trans cellsExec with
  | [c0, c1, c2], _ =>
    obtain ⟨xs, n, _, _, hl, hlen, hg⟩ := DataW.trod_struct Try.underlying26 hf
    match xs, hlen with
    | [y0, y1, y2], _ =>
      have g0 : DataW.trod enc Try.prog W 0 (fun _ => true) true n 22 [c0] = some y0 := by simpa [Value.cells, u1, u2, u3] using hg 0 _ rfl
      have g1 : DataW.trod enc Try.prog W 0 (fun _ => true) true n 23 [c1] = some y1 := by simpa [Value.cells, u1, u2, u3] using hg 1 _ rfl
      have g2 : DataW.trod enc Try.prog W 0 (fun _ => true) true n 24 [c2] = some y2 := by simpa [Value.cells, u1, u2, u3] using hg 2 _ rfl
      obtain ⟨ae, ce, ev, rfl, hev⟩ := evs_in g0
      obtain ⟨fr, rfl, hfr⟩ := ints_in g1
      obtain ⟨ao, co, od, rfl, hod⟩ := od_in g2
      exact ⟨⟨ae, ce, ev, fr, ao, co, od⟩, rfl, ⟨hev, hfr, hod⟩⟩
end
end Go.Proofs.Ytoicmhidmknfiaa
end

section
namespace Go.Proofs.Ytoicmhidmknfiaa
open Go.RowKit
set_option linter.unusedVariables false
set_option linter.unusedSimpArgs false
set_option maxRecDepth 100000 in
set_option maxHeartbeats 8000000 in
theorem wide7_any (x : Ev.X) (w : World) (hin : Ev.XIn w x) : Calls Try.prog 17 #[Ev.exV x] w (Ev.CPost (fun b => b = false → x.ev.length ≤ 70 ∧ x.fr.l.length ≤ 200 ∧ x.od.length ≤ 200) w) := by
  have HIN := Lib.hid hin
  have e1 := hin.ev.le; have e2 := hin.ev.max; have e3 := hin.fr.2.1; have e4 := hin.fr.2.2.1; have e5 := hin.od.le; have e6 := hin.od.max
  clear hin
  have R0 := Lib.hid (heap_alloc_new w (.cells (Ev.xcells x).toArray 26))
  have B0 := Lib.hid ((Below.refl w.heap.size w).alloc (Nat.le_refl _) (.cells (Ev.xcells x).toArray 26))
  have c0 : (w.alloc (.cells (Ev.xcells x).toArray 26)).cell? ⟨w.heap.size, 0, none⟩ = some (.slice x.ae x.ev.length x.ce) := by rw [cell_of_row _ _ _ _ _ _ R0.out]; rfl
  have c1 : (w.alloc (.cells (Ev.xcells x).toArray 26)).cell? ⟨w.heap.size, 1, none⟩ = some (.slice x.fr.a x.fr.l.length x.fr.c) := by rw [cell_of_row _ _ _ _ _ _ R0.out]; rfl
  have c2 : (w.alloc (.cells (Ev.xcells x).toArray 26)).cell? ⟨w.heap.size, 2, none⟩ = some (.slice x.ao x.od.length x.co) := by rw [cell_of_row _ _ _ _ _ _ R0.out]; rfl
  have C0 := Lib.hid c0; have C2 := Lib.hid c2
  unfold Ev.xcells at c0 c1 c2
  unfold Ev.exV Ev.xcells
  have FIN := Lib.hid (show ∀ (e : Ending) (w' : World), e = .returned (.bool true) → Below w.heap.size w w' → Ev.CPost (fun b => b = false → x.ev.length ≤ 70 ∧ x.fr.l.length ≤ 200 ∧ x.od.length ≤ 200) w e w' from fun _ _ h1 h2 => Ev.CPost.mk true h1 (fun h => by cases h) h2)
  by_cases t0 : 70 < x.ev.length
  · have hi : (70 : Int) < (x.ev.length : Int) := by omega
    clear t0
    go_enter Try.func17, Try.ntmps17
    go_wp2
    try (go_step3; go_wp2)
    try rw [Exit.noGoto_ret]
    go_ret
    exact FIN.out _ _ rfl B0.out
  have hi0 : ¬ (70 : Int) < (x.ev.length : Int) := by omega
  by_cases t1 : 200 < x.fr.l.length
  · have hi : (200 : Int) < (x.fr.l.length : Int) := by omega
    clear t1 t0
    go_enter Try.func17, Try.ntmps17
    go_wp2
    try (go_step3; go_wp2)
    try rw [Exit.noGoto_ret]
    go_ret
    exact FIN.out _ _ rfl B0.out
  have hi1 : ¬ (200 : Int) < (x.fr.l.length : Int) := by omega
  by_cases t2 : 200 < x.od.length
  · have hi : (200 : Int) < (x.od.length : Int) := by omega
    clear t2 t1 t0
    go_enter Try.func17, Try.ntmps17
    go_wp2
    try (go_step3; go_wp2)
    try rw [Exit.noGoto_ret]
    go_ret
    exact FIN.out _ _ rfl B0.out
  have hi2 : ¬ (200 : Int) < (x.od.length : Int) := by omega
  go_enter Try.func17, Try.ntmps17
  go_wp2
  try (go_step3; go_wp2)
  clear c0 c1 c2
  go_loopw [3, 4] (fun m i wr => ∃ (n : Int) (k : Nat), k ≤ x.od.length ∧ m = .int .i64 n ∧ i = .int .i64 (k : Int) ∧ wr.cell? ⟨w.heap.size, 0, none⟩ = some (.slice x.ae x.ev.length x.ce) ∧ wr.cell? ⟨w.heap.size, 2, none⟩ = some (.slice x.ao x.od.length x.co) ∧ Below w.heap.size w wr) (fun _ i _ => x.od.length - (intOf i).toNat)
  case atStart => exact ⟨_, 0, Nat.zero_le _, rfl, rfl, C0.out, C2.out, B0.out⟩
  case round =>
    obtain ⟨n, k, hk, rfl, rfl, c0, c2, hbr⟩ := hrel
    have HBR := Lib.hid hbr; have D0 := Lib.hid c0; have D2 := Lib.hid c2
    clear hbr
    by_cases hlt : k < x.od.length
    · have hki : (k : Int) < (x.od.length : Int) := by omega
      obtain ⟨s, hs⟩ : ∃ s, x.od[k]? = some s := ⟨_, List.getElem?_eq_getElem hlt⟩
      obtain ⟨g, o, ea, cs⟩ := (HIN.out.od.kp (Ev.kp_below HBR.out)).at_ hs
      rw [ea] at c2
      clear ea hs c0
      go_wp2
      · try rw [Exit.noGoto_ret]
        go_ret
        exact FIN.out _ _ rfl HBR.out
      · exact ⟨⟨_, k + 1, by omega, rfl, by go_num, D0.out, D2.out, HBR.out⟩, by simp [intOf]; omega⟩
    · have hki : ¬ (k : Int) < (x.od.length : Int) := by omega
      go_wp2
      clear c2 c0 D2
      go_loopw [3, 5] (fun m i w2 => ∃ (n : Int) (k : Nat), k ≤ x.ev.length ∧ m = .int .i64 n ∧ i = .int .i64 (k : Int) ∧ w2.cell? ⟨w.heap.size, 0, none⟩ = some (.slice x.ae x.ev.length x.ce) ∧ Below w.heap.size w w2) (fun _ i _ => x.ev.length - (intOf i).toNat)
      case atStart => exact ⟨_, 0, Nat.zero_le _, rfl, rfl, D0.out, HBR.out⟩
      case round =>
        obtain ⟨m, j, hj, rfl, rfl, c0, hb2⟩ := hrel
        have HB2 := Lib.hid hb2; have D0 := Lib.hid c0
        clear hb2
        by_cases hlj : j < x.ev.length
        · have hji : (j : Int) < (x.ev.length : Int) := by omega
          obtain ⟨y, hy⟩ : ∃ y, x.ev[j]? = some y := ⟨_, List.getElem?_eq_getElem hlj⟩
          obtain ⟨g, o, ea, cs⟩ := (HIN.out.ev.kp (Ev.kp_below HB2.out)).at_ hy
          have l1 := cs 10 _ rfl; have l2 := cs 11 _ rfl; have l3 := cs 12 _ rfl
          rw [ea] at c0
          clear ea hy cs
          go_wp2
          go_quiet ((fail))
          go_wp2
          · try rw [Exit.noGoto_ret]
            go_ret
            exact FIN.out _ _ rfl (below_drewN HB2.out _)
          · exact ⟨⟨_, j + 1, by omega, rfl, by go_num, D0.out, below_drewN HB2.out _⟩, by simp [intOf]; omega⟩
        · have hji : ¬ (j : Int) < (x.ev.length : Int) := by omega
          go_wp2
          try rw [Exit.noGoto_ret]
          go_ret
          exact Ev.CPost.mk false rfl (fun _ => ⟨by omega, by omega, by omega⟩) HB2.out
end Go.Proofs.Ytoicmhidmknfiaa
end
