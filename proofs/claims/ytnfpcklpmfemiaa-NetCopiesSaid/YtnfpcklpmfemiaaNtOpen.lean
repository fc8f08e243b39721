/-
  How messages, calls and choices read as data.
-/
import Derived.Test.YtnfpcklpmfemiaaNtIs
import Derived.ProofKit
import Derived.OpenShut
import Derived.Lib.SmallJoins
import Derived.Carry
import Derived.Deep.Slices
namespace Go.Proofs.Ytnfpcklpmfemiaa
open Go.Joins Go.ChangeShapes Go.WideShapes Go.ChangeAt Go.RowKit Go.Deep
set_option linter.unusedVariables false
set_option linter.unusedSimpArgs false
set_option maxRecDepth 100000
theorem own : ownKnob Try.prog.godebug = none := by kernel_rfl
theorem laidOut : laidOutB Try.prog = true := by kernel_rfl
theorem cellsInt : Try.prog.cellsOf 3 = 1 := by kernel_rfl
theorem int_in {H : Type} {enc : TypeId × Value → H} {P : Program} {W : World} {base : Nat} {sp : Nat → Bool} {held : Bool} {fuel : Nat} {t : TypeId} {q : IntKind} {c : Value} {y : DataW H × List MemPlace} (ht : P.underlying t = some (.int q))
    (h : DataW.trod enc P W base sp held fuel t [c] = some y) : ∃ n, c = .int q n ∧ (Lit.int q n).wf = true := by
  obtain ⟨n, hn, _, hw⟩ := DataW.trod_int ht h
  exact ⟨n, by simpa using hn, hw⟩
theorem i64_of_wf {n : Int} (h : (Lit.int .i64 n).wf = true) : Ev.i64B n := by
  unfold Ev.i64B
  have h1 : IntKind.i64.min = -9223372036854775808 := by decide
  have h2 : IntKind.i64.max = 9223372036854775807 := by decide
  simp only [Lit.wf, h1, h2, Bool.and_eq_true, decide_eq_true_eq] at h; omega
theorem u32_of_wf {n : Int} (h : (Lit.int .u32 n).wf = true) : Ev.u32B n := by
  unfold Ev.u32B
  have h1 : IntKind.u32.min = 0 := by decide
  have h2 : IntKind.u32.max = 4294967295 := by decide
  simp only [Lit.wf, h1, h2, Bool.and_eq_true, decide_eq_true_eq] at h; omega
section
variable {H : Type} {enc : TypeId × Value → H} {W : World}
/-- a slice of things of n cells each -/
theorem Nt.rows_in {α : Type} (x0 : α) (cells : α → List Value) (OK : α → Prop) (n : Nat) {t e : TypeId} (hn : Try.prog.cellsOf e = n) (hp : 0 < n) (hlen : ∀ x, OK x → (cells x).length = n)
    (each0 : ∀ fuel cs y, DataW.trod enc Try.prog W 0 (fun _ => true) true fuel e cs = some y → ∃ x, cs = cells x ∧ OK x) (ht : Try.prog.underlying t = some (.slice e))
    {fuel : Nat} {c : Value} {y : DataW H × List MemPlace} (h : DataW.trod enc Try.prog W 0 (fun _ => true) true fuel t [c] = some y) :
    ∃ (a : Option Addr) (cap : Nat) (xs : List α), c = .slice a xs.length cap ∧ Ev.RowsIn W a n (xs.map cells) ∧ (∀ x ∈ xs, OK x) ∧ xs.length ≤ cap ∧ cap ≤ 9223372036854775807 := by
  rcases open_slice ht h with ⟨hcs, _⟩ | ⟨a, len, cap, m, nn, D, Pl, hcs, hb, hl, hm, hmm, hx, hi⟩
  · exact ⟨none, 0, [], by simpa using hcs, fun h => absurd h (by simp), (fun x hx => (by cases hx)), by simp, by simp⟩
  · simp only [if_true] at hmm
    subst hmm
    unfold maxLen at hm
    rw [hn] at hi
    have each : ∀ i, i < len → ∃ v : α, (∀ k c, (cells v)[k]? = some c → W.cell? ((a.add (i * n)).add k) = some c) ∧ OK v := fun i hil => by
      obtain ⟨cs', hc, ht⟩ := hi i (by omega)
      obtain ⟨v, rfl, hok⟩ := each0 _ _ _ ht
      have hlv := hlen v hok
      obtain ⟨_, _, hat⟩ := World.cells?_some hc
      refine ⟨v, fun k c hk => ?_, hok⟩
      have hk4 : k < n := by
        have := (List.getElem?_eq_some_iff.1 hk).1
        rw [hlv] at this; exact this
      rw [hat k hk4]
      exact hk
    let f : Nat → α := fun i => if h : i < len then (each i h).choose else x0
    have hfi : ∀ i (h : i < len), f i = (each i h).choose := fun i h => dif_pos h
    refine ⟨some a, _, (List.range len).map f, by simpa using hcs, fun hp2 => ?_, fun v hv => ?_, by simp; omega, hm⟩
    · have hp' : 0 < len := by simpa using hp2
      obtain ⟨b, off, spot⟩ := a
      have hlen0 := hlen (each 0 hp').choose (each 0 hp').choose_spec.2
      obtain ⟨c00, hc00⟩ : ∃ c, (cells (each 0 hp').choose)[0]? = some c := ⟨_, List.getElem?_eq_getElem (by omega)⟩
      have h00 := (each 0 hp').choose_spec.1 0 _ hc00
      have hspot : spot = none := by simpa [Addr.add] using World.cell?_spot h00
      subst hspot
      refine ⟨b, off, rfl, fun j v hv k c hk => ?_⟩
      have hjl : j < len := by have := (List.getElem?_eq_some_iff.1 hv).1; simpa using this
      have hv' : v = cells (f j) := by rw [List.getElem?_map, List.getElem?_map, List.getElem?_range hjl] at hv; exact (Option.some.inj hv).symm
      rw [hv', hfi j hjl] at hk
      have := (each j hjl).choose_spec.1 k c hk
      rw [Go.WideShapes.add_plain, Go.WideShapes.add_plain] at this
      exact this
    · obtain ⟨i, hi', rfl⟩ := List.mem_map.1 hv
      rw [hfi i (List.mem_range.1 hi')]
      exact (each i (List.mem_range.1 hi')).choose_spec.2
theorem bytes_in {fuel : Nat} {cs : List Value} {y : DataW H × List MemPlace} (h : DataW.trod enc Try.prog W 0 (fun _ => true) true fuel 25 cs = some y) : ∃ b : List Int, cs = b.map (Value.int .u8) ∧ b.length = 16 := by
  obtain ⟨xs, m, _, _, hl, hxl, hx⟩ := DataW.trod_array Try.underlying25 h
  have u1 : Try.prog.cellsOf 5 = 1 := by kernel_rfl
  have u2 : Try.prog.cellsOf 25 = 16 := by kernel_rfl
  rw [u1] at hx
  have hcl : cs.length = 16 := by first | exact hl.trans u2 | (rw [u2] at hl; exact hl) | simpa [u1] using hl
  have each : ∀ i, i < 16 → ∃ n : Int, cs[i]? = some (.int .u8 n) := fun i hi => by
    have h1 := hx i hi
    have h2 : (cs.drop (i * 1)).take 1 = [cs[i]'(by omega)] := by
      rw [Nat.mul_one, List.drop_eq_getElem_cons (by omega)]; rfl
    rw [h2, List.getElem?_eq_getElem (by omega)] at h1
    obtain ⟨n, hn, _⟩ := int_in Try.underlying5 h1
    exact ⟨n, by rw [List.getElem?_eq_getElem (by omega), hn]⟩
  refine ⟨(List.range 16).map (fun i => intOf (cs[i]?.getD undef)), ?_, by simp⟩
  apply List.ext_getElem?
  intro i
  by_cases hi : i < 16
  · obtain ⟨n, hn⟩ := each i hi
    rw [hn, List.map_map, List.getElem?_map, List.getElem?_range hi]
    simp [hn, intOf]
  · rw [List.getElem?_eq_none (by omega), List.getElem?_eq_none (by simp; omega)]
theorem cellsMsg : Try.prog.cellsOf 57 = 20 := by kernel_rfl
theorem msg_in {fuel : Nat} {cs : List Value} {y : DataW H × List MemPlace} (h : DataW.trod enc Try.prog W 0 (fun _ => true) true fuel 57 cs = some y) : ∃ e : Nt.E, cs = Nt.cells e ∧ Nt.Ok e := by
  obtain ⟨xs, n, _, _, hl, hlen, hg⟩ := DataW.trod_struct Try.underlying57 h
  have u0 : Try.prog.cellsOf 55 = 1 := by kernel_rfl
  have u1 : Try.prog.cellsOf 23 = 1 := by kernel_rfl
  have u2 : Try.prog.cellsOf 3 = 1 := by kernel_rfl
  have u3 : Try.prog.cellsOf 25 = 16 := by kernel_rfl
  rw [cellsMsg] at hl
  match xs, hlen, cs, hl with
  | [y0, y1, y2, y3, y4], _, c0 :: c1 :: c2 :: c3 :: r, hr =>
    have hrl : r.length = 16 := by simpa using hr
    have g0 : DataW.trod enc Try.prog W 0 (fun _ => true) true n 55 [c0] = some y0 := by simpa [u0, u1, u2, u3] using hg 0 _ rfl
    have g1 : DataW.trod enc Try.prog W 0 (fun _ => true) true n 3 [c1] = some y1 := by simpa [u0, u1, u2, u3] using hg 1 _ rfl
    have g2 : DataW.trod enc Try.prog W 0 (fun _ => true) true n 3 [c2] = some y2 := by simpa [u0, u1, u2, u3] using hg 2 _ rfl
    have g3 : DataW.trod enc Try.prog W 0 (fun _ => true) true n 23 [c3] = some y3 := by simpa [u0, u1, u2, u3] using hg 3 _ rfl
    have g4 : DataW.trod enc Try.prog W 0 (fun _ => true) true n 25 r = some y4 := by simpa [u0, u1, u2, u3, List.take_of_length_le, hrl] using hg 4 _ rfl
    obtain ⟨a0, rfl, w0⟩ := int_in Try.underlying55 g0
    obtain ⟨a1, rfl, w1⟩ := int_in Try.underlying3 g1
    obtain ⟨a2, rfl, w2⟩ := int_in Try.underlying3 g2
    obtain ⟨a3, rfl, w3⟩ := int_in Try.underlying23 g3
    obtain ⟨b, rfl, hb⟩ := bytes_in g4
    exact ⟨⟨a0, a1, a2, a3, b⟩, rfl, ⟨i64_of_wf w0, i64_of_wf w1, i64_of_wf w2, u32_of_wf w3, hb⟩⟩
namespace Nt
/-- a call: what, its message, its choice -/
structure Act where
  k : Int
  e : E
  p : Int
def acells (x : Act) : List Value := .int .i64 x.k :: (cells x.e ++ [.int .i64 x.p])
structure AOk (x : Act) : Prop where
  k : Ev.i64B x.k
  e : Ok x.e
  p : Ev.i64B x.p
def AV (x : Act) : Value := .agg (acells x).toArray
theorem AOk.len {x : Act} (h : AOk x) : (acells x).length = 22 := by unfold acells; rw [List.length_cons, List.length_append, h.e.len]; rfl
structure AsIn (w : World) (a : Option Addr) (c : Nat) (l : List Act) : Prop where
  rows : Ev.RowsIn w a 22 (l.map acells)
  ok : ∀ x ∈ l, AOk x
  le : l.length ≤ c
  max : c ≤ 9223372036854775807
structure PsIn (w : World) (a : Option Addr) (c : Nat) (l : List Int) : Prop where
  rows : Ev.RowsIn w a 1 (l.map fun n => [Value.int .i64 n])
  ok : ∀ x ∈ l, Ev.i64B x
  le : l.length ≤ c
  max : c ≤ 9223372036854775807
theorem AsIn.kp {w w' : World} {a c l} (h : AsIn w a c l) (k : Ev.Kp w w') : AsIn w' a c l := ⟨h.rows.kp k, h.ok, h.le, h.max⟩
theorem AsIn.at_ {w : World} {a c} {l : List Act} (h : AsIn w a c l) {k : Nat} {x : Act} (hk : l[k]? = some x) :
    ∃ g o, a = some ⟨g, o, none⟩ ∧ (∀ i c, (acells x)[i]? = some c → w.cell? ⟨g, o + k * 22 + i, none⟩ = some c) := by
  have hl := (List.getElem?_eq_some_iff.1 hk).1
  obtain ⟨g, o, e1, hc⟩ := h.rows (by simp; omega)
  exact ⟨g, o, e1, fun i c hi => hc k (acells x) (by rw [List.getElem?_map, hk]; rfl) i c hi⟩
theorem PsIn.kp {w w' : World} {a c l} (h : PsIn w a c l) (k : Ev.Kp w w') : PsIn w' a c l := ⟨h.rows.kp k, h.ok, h.le, h.max⟩
theorem PsIn.at_ {w : World} {a c} {l : List Int} (h : PsIn w a c l) {k : Nat} {x : Int} (hk : l[k]? = some x) : ∃ g o, a = some ⟨g, o, none⟩ ∧ w.cell? ⟨g, o + k, none⟩ = some (.int .i64 x) := by
  have hl := (List.getElem?_eq_some_iff.1 hk).1
  obtain ⟨g, o, e1, hc⟩ := h.rows (by simp; omega)
  have := hc k [Value.int .i64 x] (by rw [List.getElem?_map, hk]; rfl) 0 _ rfl
  rw [Nat.mul_one, Nat.add_zero] at this
  exact ⟨g, o, e1, this⟩
theorem acells_one (x : Act) : ∀ u ∈ acells x, u.oneCell' = true := by
  intro u hu
  unfold acells at hu
  rcases List.mem_cons.1 hu with rfl | hu
  · rfl
  rcases List.mem_append.1 hu with hu | hu
  · exact cells_one x.e u hu
  · obtain rfl : u = _ := by simpa using hu
    rfl
theorem acells_all (x : Act) : (acells x).toArray.all (·.oneCell') = true := by
  rw [Array.all_eq_true']
  intro u hu
  exact acells_one x u (by simpa using hu)
set_option maxRecDepth 100000 in
theorem size_act : (Try.prog.info? 82).map (·.size) = some 22 := by kernel_rfl
theorem acell0 (x : Act) : (acells x)[0]? = some (.int .i64 x.k) := rfl
theorem acell21 {x : Act} (h : Ok x.e) : (acells x)[21]? = some (.int .i64 x.p) := by
  unfold acells
  rw [List.getElem?_cons_succ, List.getElem?_append_right (by rw [h.len]; exact Nat.le_refl _), h.len]
  rfl
theorem acellm {x : Act} {i : Nat} {c : Value} (h : (cells x.e)[i]? = some c) : (acells x)[1 + i]? = some c := by
  unfold acells
  rw [Nat.add_comm, List.getElem?_cons_succ, List.getElem?_append_left (List.getElem?_eq_some_iff.1 h).1]
  exact h
end Nt
theorem cellsAct : Try.prog.cellsOf 82 = 22 := by kernel_rfl
theorem act_in {fuel : Nat} {cs : List Value} {y : DataW H × List MemPlace} (h : DataW.trod enc Try.prog W 0 (fun _ => true) true fuel 82 cs = some y) : ∃ x : Nt.Act, cs = Nt.acells x ∧ Nt.AOk x := by
  obtain ⟨xs, n, _, _, hl, hlen, hg⟩ := DataW.trod_struct Try.underlying82 h
  have u1 : Try.prog.cellsOf 3 = 1 := by kernel_rfl
  rw [cellsAct] at hl
  match xs, hlen, cs, hl with
  | [y0, y1, y2], _, c0 :: r, hr =>
    have hrl : r.length = 21 := by simpa using hr
    have g0 : DataW.trod enc Try.prog W 0 (fun _ => true) true n 3 [c0] = some y0 := by simpa [u1, cellsMsg] using hg 0 _ rfl
    have g1 : DataW.trod enc Try.prog W 0 (fun _ => true) true n 57 (r.take 20) = some y1 := by simpa [u1, cellsMsg] using hg 1 _ rfl
    have g2 : DataW.trod enc Try.prog W 0 (fun _ => true) true n 3 (r.drop 20) = some y2 := by simpa [u1, cellsMsg, List.take_of_length_le, hrl] using hg 2 _ rfl
    obtain ⟨a0, rfl, w0⟩ := int_in Try.underlying3 g0
    obtain ⟨e, he, hok⟩ := msg_in g1
    obtain ⟨c2, hc2⟩ : ∃ c2, r.drop 20 = [c2] := by
      have hd : (r.drop 20).length = 1 := by rw [List.length_drop]; omega
      match hm : r.drop 20, hd with
      | [c], _ => exact ⟨c, rfl⟩
    rw [hc2] at g2
    obtain ⟨a2, rfl, w2⟩ := int_in Try.underlying3 g2
    refine ⟨⟨a0, e, a2⟩, ?_, ⟨i64_of_wf w0, hok, i64_of_wf w2⟩⟩
    unfold Nt.acells
    simp only
    rw [← he, ← hc2, List.take_append_drop]
theorem open_msgs {a0 : Option Addr} {len cap : Nat} {d0 : DataW H} {p : List MemPlace} (h0 : DataW.Trod enc Try.prog W 0 (fun _ => true) true 68 (.slice a0 len cap) d0 p) :
    ∃ xs : List Nt.E, xs.length = len ∧ Nt.LsIn W a0 cap xs := by
  obtain ⟨fuel, hf⟩ := h0
  obtain ⟨a, c, xs, e, h1, h2, h3, h4⟩ := Nt.rows_in Nt.E0 Nt.cells Nt.Ok 20 cellsMsg (by decide) (fun _ h => h.len) (fun _ _ _ h => msg_in h) Try.underlying68 (c := .slice a0 len cap) (by simpa [Value.cells] using hf)
  obtain ⟨rfl, rfl, rfl⟩ : a0 = a ∧ len = xs.length ∧ cap = c := by simpa using e
  exact ⟨xs, rfl, ⟨h1, h2, h3, h4⟩⟩
theorem open_acts {a0 : Option Addr} {len cap : Nat} {d0 : DataW H} {p : List MemPlace} (h0 : DataW.Trod enc Try.prog W 0 (fun _ => true) true 74 (.slice a0 len cap) d0 p) :
    ∃ xs : List Nt.Act, xs.length = len ∧ Nt.AsIn W a0 cap xs := by
  obtain ⟨fuel, hf⟩ := h0
  obtain ⟨a, c, xs, e, h1, h2, h3, h4⟩ := Nt.rows_in (⟨0, Nt.E0, 0⟩ : Nt.Act) Nt.acells Nt.AOk 22 cellsAct (by decide) (fun _ h => h.len) (fun _ _ _ h => act_in h) Try.underlying74 (c := .slice a0 len cap) (by simpa [Value.cells] using hf)
  obtain ⟨rfl, rfl, rfl⟩ : a0 = a ∧ len = xs.length ∧ cap = c := by simpa using e
  exact ⟨xs, rfl, ⟨h1, h2, h3, h4⟩⟩
theorem open_picks {a0 : Option Addr} {len cap : Nat} {d0 : DataW H} {p : List MemPlace} (h0 : DataW.Trod enc Try.prog W 0 (fun _ => true) true 91 (.slice a0 len cap) d0 p) :
    ∃ xs : List Int, xs.length = len ∧ Nt.PsIn W a0 cap xs := by
  obtain ⟨fuel, hf⟩ := h0
  obtain ⟨a, c, xs, e, h1, h2, h3, h4⟩ := Nt.rows_in (0 : Int) (fun n => [Value.int .i64 n]) Ev.i64B 1 cellsInt (by decide) (fun _ _ => rfl) (fun fuel cs y h => by
    obtain ⟨n, hn, _, hw⟩ := DataW.trod_int Try.underlying3 h
    exact ⟨n, by simpa using hn, i64_of_wf hw⟩) Try.underlying91 (c := .slice a0 len cap) (by simpa [Value.cells] using hf)
  obtain ⟨rfl, rfl, rfl⟩ : a0 = a ∧ len = xs.length ∧ cap = c := by simpa using e
  exact ⟨xs, rfl, ⟨h1, h2, h3, h4⟩⟩
theorem open_act {r : Reach} {b0 : Nat} {v : Value} {d : DataW H} {p : List MemPlace} (hv : Value.okWide Try.prog W r b0 82 v) (h : DataW.Trod enc Try.prog W 0 (fun _ => true) true 82 v d p) :
    ∃ x : Nt.Act, v = Nt.AV x ∧ Nt.AOk x := by
  obtain ⟨cs, rfl, hsz⟩ := okWide_struct Try.underlying82 hv
  obtain ⟨fuel, hf⟩ := h
  obtain ⟨x, hx, hok⟩ := act_in (cs := cs.toList) (by simpa [Value.cells] using hf)
  exact ⟨x, by unfold Nt.AV; rw [← hx], hok⟩
theorem open_msg {r : Reach} {b0 : Nat} {v : Value} {d : DataW H} {p : List MemPlace} (hv : Value.okWide Try.prog W r b0 57 v) (h : DataW.Trod enc Try.prog W 0 (fun _ => true) true 57 v d p) :
    ∃ x : Nt.E, v = Nt.EV x ∧ Nt.Ok x := by
  obtain ⟨cs, rfl, hsz⟩ := okWide_struct Try.underlying57 hv
  obtain ⟨fuel, hf⟩ := h
  obtain ⟨x, hx, hok⟩ := msg_in (cs := cs.toList) (by simpa [Value.cells] using hf)
  exact ⟨x, by unfold Nt.EV; rw [← hx], hok⟩
end
end Go.Proofs.Ytnfpcklpmfemiaa
