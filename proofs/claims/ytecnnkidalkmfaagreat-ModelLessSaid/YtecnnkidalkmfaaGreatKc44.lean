import Derived.Test.YtecnnkidalkmfaaGreatKc11
import Derived.ProofKit
import Derived.OpenShut
import Derived.Lib.SmallJoins
import Derived.Carry
import Derived.Deep.Slices
import Derived.Test.YtecnnkidalkmfaaGreatKc30
import Derived.Test.YtecnnkidalkmfaaGreatKc34
import Derived.Test.YtecnnkidalkmfaaGreatKc35
import Derived.Test.YtecnnkidalkmfaaGreatKc43
import Derived.Test.YtecnnkidalkmfaaGreatKc32
import Derived.Test.YtecnnkidalkmfaaGreatKc40
set_option linter.unusedVariables false
set_option linter.unusedSimpArgs false

section
namespace Go.Proofs.YtecnnkidalkmfaaGreat
open Go.Joins Go.ChangeShapes Go.WideShapes Go.ChangeAt Go.RowKit Go.Deep
theorem own : ownKnob Tryz.prog.godebug = none := by kernel_rfl
theorem laidOut : laidOutB Tryz.prog = true := by kernel_rfl
theorem cellsInt : Tryz.prog.cellsOf 3 = 1 := by kernel_rfl
theorem i64_of_wf {n : Int} (h : (Lit.int .i64 n).wf = true) : Ev.i64B n := by
  unfold Ev.i64B
  have h1 : IntKind.i64.min = -9223372036854775808 := by decide
  have h2 : IntKind.i64.max = 9223372036854775807 := by decide
  simp only [Lit.wf, h1, h2, Bool.and_eq_true, decide_eq_true_eq] at h; exact h
theorem int_in {H : Type} {enc : TypeId × Value → H} {P : Program} {W : World} {base : Nat} {sp : Nat → Bool} {held : Bool} {fuel : Nat} {t : TypeId} {q : IntKind} {c : Value} {y : DataW H × List MemPlace} (ht : P.underlying t = some (.int q))
    (h : DataW.trod enc P W base sp held fuel t [c] = some y) : ∃ n, c = .int q n ∧ (Lit.int q n).wf = true := by
  obtain ⟨n, hn, _, hw⟩ := DataW.trod_int ht h
  exact ⟨n, by simpa using hn, hw⟩
theorem open_numbers {H : Type} {enc : TypeId × Value → H} {W : World} {a0 : Option Addr} {len cap : Nat} {d0 : DataW H} {p : List MemPlace}
    (h0 : DataW.Trod enc Tryz.prog W 0 (fun _ => true) true 23 (.slice a0 len cap) d0 p) :
    ∃ xs : List Int, xs.length = len ∧ Ev.IntsIn W ⟨a0, cap, xs⟩ := by
  obtain ⟨fuel, hf⟩ := h0
  rcases open_ints Tryz.underlying23 Tryz.underlying3 cellsInt hf with ⟨hcs, hx⟩ | ⟨a, len', cap', zs, hcs, _, hl, hm, hz, hx, hcell, hwz⟩
  · simp [Value.cells] at hcs
    obtain ⟨rfl, rfl, rfl⟩ := hcs
    exact ⟨[], rfl, fun h => absurd h (by simp), by simp, by simp, fun x hx => by cases hx⟩
  · simp [Value.cells] at hcs
    obtain ⟨rfl, rfl, rfl⟩ := hcs
    simp only [if_true] at hz
    unfold maxLen at hm
    refine ⟨zs.take len, by simp; omega, fun hp => ?_, by simp; omega, hm, fun x hx => i64_of_wf (hwz x (List.mem_of_mem_take hx))⟩
    have hp' : 0 < zs.length := by simp at hp; omega
    obtain ⟨b, off, rfl, hc⟩ := ints_at hcell hp'
    refine ⟨b, off, rfl, fun j v hv => ?_⟩
    have hj' : j < len := by have := (List.getElem?_eq_some_iff.1 hv).1; simp at this; omega
    rw [hc j (by omega)]
    rw [List.getElem?_take_of_lt hj'] at hv
    simp [List.getD, hv]
end Go.Proofs.YtecnnkidalkmfaaGreat
end

section
namespace Go.Proofs.YtecnnkidalkmfaaGreat
open Go.Joins Go.ChangeShapes Go.WideShapes Go.ChangeAt Go.RowKit Go.Deep
theorem u32_of_wf {n : Int} (h : (Lit.int .u32 n).wf = true) : Ev.u32B n := by
  unfold Ev.u32B
  have h1 : IntKind.u32.min = 0 := by decide
  have h2 : IntKind.u32.max = 4294967295 := by decide
  simp only [Lit.wf, h1, h2, Bool.and_eq_true, decide_eq_true_eq] at h; omega
theorem bool_in {H : Type} {enc : TypeId × Value → H} {P : Program} {w : World} {base : Nat} {sp : Nat → Bool} {held : Bool} {fuel : Nat} {t : TypeId} {c : Value} {y : DataW H × List MemPlace}
    (ht : P.underlying t = some .bool) (h : DataW.trod enc P w base sp held fuel t [c] = some y) : ∃ b, c = .bool b := by
  cases fuel with
  | zero => simp [DataW.trod] at h
  | succ fuel =>
    cases c <;> simp [DataW.trod, ht] at h
    exact ⟨_, rfl⟩
section
variable {H : Type} {enc : TypeId × Value → H} {W : World}
theorem ints_in {fuel : Nat} {c : Value} {y : DataW H × List MemPlace} (h : DataW.trod enc Tryz.prog W 0 (fun _ => true) true fuel 23 [c] = some y) :
    ∃ s : Ev.Sl, c = .slice s.a s.l.length s.c ∧ Ev.IntsIn W s := by
  rcases open_ints Tryz.underlying23 Tryz.underlying3 cellsInt h with ⟨hcs, _⟩ | ⟨a, len, cap, zs, hcs, _⟩
  · obtain rfl : c = _ := by simpa using hcs
    obtain ⟨xs, hl, hi⟩ := open_numbers (d0 := y.1) (p := y.2) ⟨fuel, by simpa [Value.cells] using h⟩
    exact ⟨⟨none, 0, xs⟩, by simp [hl], hi⟩
  · obtain rfl : c = _ := by simpa using hcs
    obtain ⟨xs, hl, hi⟩ := open_numbers (d0 := y.1) (p := y.2) ⟨fuel, by simpa [Value.cells] using h⟩
    exact ⟨⟨some a, cap, xs⟩, by simp [hl], hi⟩
theorem rows_in {α : Type} (x0 : α) (cells : α → List Value) (OK : α → Prop) (n : Nat) {t e : TypeId} (hn : Tryz.prog.cellsOf e = n) (hp : 0 < n) (hlen : ∀ x, (cells x).length = n)
    (each0 : ∀ fuel cs y, DataW.trod enc Tryz.prog W 0 (fun _ => true) true fuel e cs = some y → ∃ x, cs = cells x ∧ OK x) (ht : Tryz.prog.underlying t = some (.slice e))
    {fuel : Nat} {c : Value} {y : DataW H × List MemPlace} (h : DataW.trod enc Tryz.prog W 0 (fun _ => true) true fuel t [c] = some y) :
    ∃ (a : Option Addr) (cap : Nat) (xs : List α), c = .slice a xs.length cap ∧ Ev.RowsIn W a n (xs.map cells) ∧ (∀ x ∈ xs, OK x) ∧ xs.length ≤ cap ∧ cap ≤ 9223372036854775807 := by
  rcases open_slice ht h with ⟨hcs, _⟩ | ⟨a, len, cap, m, nn, D, Pl, hcs, hb, hl, hm, hmm, hx, hi⟩
  · exact ⟨none, 0, [], by simpa using hcs, fun h => absurd h (by simp), (fun x hx => (by cases hx)), by simp, by simp⟩
  · simp only [if_true] at hmm
    subst hmm
    unfold maxLen at hm
    rw [hn] at hi
    have each : ∀ i, i < len → ∃ v : α, (∀ k c, (cells v)[k]? = some c → W.cell? ((a.add (i * n)).add k) = some c) ∧ OK v := fun i hil => by
      obtain ⟨cs', hc, ht⟩ := hi i (by omega)
      obtain ⟨v, rfl, hok⟩ := each0 _ _ _ ht
      obtain ⟨_, _, hat⟩ := World.cells?_some hc
      refine ⟨v, fun k c hk => ?_, hok⟩
      have hk4 : k < n := by
        have := (List.getElem?_eq_some_iff.1 hk).1
        rw [hlen v] at this; exact this
      rw [hat k hk4]
      exact hk
    let f : Nat → α := fun i => if h : i < len then (each i h).choose else x0
    have hfi : ∀ i (h : i < len), f i = (each i h).choose := fun i h => dif_pos h
    refine ⟨some a, _, (List.range len).map f, by simpa using hcs, fun hp2 => ?_, fun v hv => ?_, by simp; omega, hm⟩
    · have hp' : 0 < len := by simpa using hp2
      obtain ⟨b, off, spot⟩ := a
      have hlen0 := hlen (each 0 hp').choose
      obtain ⟨c00, hc00⟩ : ∃ c, (cells (each 0 hp').choose)[0]? = some c := ⟨_, List.getElem?_eq_getElem (by omega)⟩
      have h00 := (each 0 hp').choose_spec.1 0 _ hc00
      have hspot : spot = none := by simpa [Addr.add] using World.cell?_spot h00
      subst hspot
      refine ⟨b, off, rfl, fun j v hv k c hk => ?_⟩
      have hjl : j < len := by have := (List.getElem?_eq_some_iff.1 hv).1; simpa using this
      have hv' : v = cells (f j) := by rw [List.getElem?_map, List.getElem?_map, List.getElem?_range hjl] at hv; exact (Option.some.inj hv).symm
      rw [hv', hfi j hjl] at hk
      have := (each j hjl).choose_spec.1 k c hk
      rw [Go.WideShapes.add_plain, Go.WideShapes.add_plain] at this
      exact this
    · obtain ⟨i, hi', rfl⟩ := List.mem_map.1 hv
      rw [hfi i (List.mem_range.1 hi')]
      exact (each i (List.mem_range.1 hi')).choose_spec.2
theorem cellsEvent : Tryz.prog.cellsOf 48 = 13 := by kernel_rfl
theorem cellsExec : Tryz.prog.cellsOf 26 = 3 := by kernel_rfl
set_option maxRecDepth 100000 in
set_option maxHeartbeats 4000000 in
theorem event_in {fuel : Nat} {cs : List Value} {y : DataW H × List MemPlace} (h : DataW.trod enc Tryz.prog W 0 (fun _ => true) true fuel 48 cs = some y) : ∃ x : Ev.R, cs = Ev.cells x ∧ Ev.ROk W x := by
  obtain ⟨xs, n, _, _, hl, hlen, hg⟩ := DataW.trod_struct Tryz.underlying48 h
  have u1 : Tryz.prog.cellsOf 3 = 1 := cellsInt
  have u2 : Tryz.prog.cellsOf 45 = 1 := by kernel_rfl
  have u3 : Tryz.prog.cellsOf 46 = 1 := by kernel_rfl
  have u4 : Tryz.prog.cellsOf 4 = 1 := by kernel_rfl
  have u5 : Tryz.prog.cellsOf 23 = 1 := by kernel_rfl
  rw [cellsEvent] at hl
  match xs, hlen, cs, hl with
  | [y0, y1, y2, y3, y4, y5, y6, y7, y8, y9, y10, y11, y12], _, [c0, c1, c2, c3, c4, c5, c6, c7, c8, c9, c10, c11, c12], _ =>
    have g0 : DataW.trod enc Tryz.prog W 0 (fun _ => true) true n 3 [c0] = some y0 := by simpa [u1, u2, u3, u4, u5] using hg 0 _ rfl
    have g1 : DataW.trod enc Tryz.prog W 0 (fun _ => true) true n 45 [c1] = some y1 := by simpa [u1, u2, u3, u4, u5] using hg 1 _ rfl
    have g2 : DataW.trod enc Tryz.prog W 0 (fun _ => true) true n 46 [c2] = some y2 := by simpa [u1, u2, u3, u4, u5] using hg 2 _ rfl
    have g3 : DataW.trod enc Tryz.prog W 0 (fun _ => true) true n 46 [c3] = some y3 := by simpa [u1, u2, u3, u4, u5] using hg 3 _ rfl
    have g4 : DataW.trod enc Tryz.prog W 0 (fun _ => true) true n 46 [c4] = some y4 := by simpa [u1, u2, u3, u4, u5] using hg 4 _ rfl
    have g5 : DataW.trod enc Tryz.prog W 0 (fun _ => true) true n 4 [c5] = some y5 := by simpa [u1, u2, u3, u4, u5] using hg 5 _ rfl
    have g6 : DataW.trod enc Tryz.prog W 0 (fun _ => true) true n 4 [c6] = some y6 := by simpa [u1, u2, u3, u4, u5] using hg 6 _ rfl
    have g7 : DataW.trod enc Tryz.prog W 0 (fun _ => true) true n 3 [c7] = some y7 := by simpa [u1, u2, u3, u4, u5] using hg 7 _ rfl
    have g8 : DataW.trod enc Tryz.prog W 0 (fun _ => true) true n 3 [c8] = some y8 := by simpa [u1, u2, u3, u4, u5] using hg 8 _ rfl
    have g9 : DataW.trod enc Tryz.prog W 0 (fun _ => true) true n 4 [c9] = some y9 := by simpa [u1, u2, u3, u4, u5] using hg 9 _ rfl
    have g10 : DataW.trod enc Tryz.prog W 0 (fun _ => true) true n 23 [c10] = some y10 := by simpa [u1, u2, u3, u4, u5] using hg 10 _ rfl
    have g11 : DataW.trod enc Tryz.prog W 0 (fun _ => true) true n 23 [c11] = some y11 := by simpa [u1, u2, u3, u4, u5] using hg 11 _ rfl
    have g12 : DataW.trod enc Tryz.prog W 0 (fun _ => true) true n 23 [c12] = some y12 := by simpa [u1, u2, u3, u4, u5] using hg 12 _ rfl
    obtain ⟨a0, rfl, w0⟩ := int_in Tryz.underlying3 g0
    obtain ⟨a1, rfl, w1⟩ := int_in Tryz.underlying45 g1
    obtain ⟨a2, rfl, w2⟩ := int_in Tryz.underlying46 g2
    obtain ⟨a3, rfl, w3⟩ := int_in Tryz.underlying46 g3
    obtain ⟨a4, rfl, w4⟩ := int_in Tryz.underlying46 g4
    obtain ⟨a5, rfl⟩ := bool_in Tryz.underlying4 g5
    obtain ⟨a6, rfl⟩ := bool_in Tryz.underlying4 g6
    obtain ⟨a7, rfl, w7⟩ := int_in Tryz.underlying3 g7
    obtain ⟨a8, rfl, w8⟩ := int_in Tryz.underlying3 g8
    obtain ⟨a9, rfl⟩ := bool_in Tryz.underlying4 g9
    obtain ⟨a10, rfl, w10⟩ := ints_in g10
    obtain ⟨a11, rfl, w11⟩ := ints_in g11
    obtain ⟨a12, rfl, w12⟩ := ints_in g12
    exact ⟨⟨a0, a1, a2, a3, a4, a5, a6, a7, a8, a9, a10, a11, a12⟩, rfl, ⟨i64_of_wf w0, i64_of_wf w1, u32_of_wf w2, u32_of_wf w3, u32_of_wf w4, i64_of_wf w7, i64_of_wf w8, w10, w11, w12⟩⟩
theorem evs_in {fuel : Nat} {c : Value} {y : DataW H × List MemPlace} (h : DataW.trod enc Tryz.prog W 0 (fun _ => true) true fuel 22 [c] = some y) :
    ∃ (a : Option Addr) (cap : Nat) (xs : List Ev.R), c = .slice a xs.length cap ∧ Ev.EvsIn W a cap xs := by
  obtain ⟨a, cap, xs, e, h1, h2, h3, h4⟩ := rows_in ⟨0, 0, 0, 0, 0, false, false, 0, 0, false, ⟨none, 0, []⟩, ⟨none, 0, []⟩, ⟨none, 0, []⟩⟩ Ev.cells (Ev.ROk W) 13 cellsEvent (by decide) (fun _ => rfl) (fun _ _ _ h => event_in h) Tryz.underlying22 h
  exact ⟨a, cap, xs, e, h1, h2, h3, h4⟩
set_option maxRecDepth 100000 in
theorem od_in {fuel : Nat} {c : Value} {y : DataW H × List MemPlace} (h : DataW.trod enc Tryz.prog W 0 (fun _ => true) true fuel 24 [c] = some y) :
    ∃ (a : Option Addr) (cap : Nat) (xs : List Ev.Sl), c = .slice a xs.length cap ∧ Ev.OdIn W a cap xs := by
  obtain ⟨a, cap, xs, e, h1, h2, h3, h4⟩ := rows_in (⟨none, 0, []⟩ : Ev.Sl) (fun s => [s.v]) (Ev.IntsIn W) 1 (e := 23) (by kernel_rfl) (by decide) (fun _ => rfl) (fun fuel cs y h => by
    rcases open_ints Tryz.underlying23 Tryz.underlying3 cellsInt h with ⟨rfl, _⟩ | ⟨a, len, cap, zs, rfl, _⟩
    · obtain ⟨s, hs, hi⟩ := ints_in h; exact ⟨s, by rw [hs]; rfl, hi⟩
    · obtain ⟨s, hs, hi⟩ := ints_in h; exact ⟨s, by rw [hs]; rfl, hi⟩) Tryz.underlying24 h
  exact ⟨a, cap, xs, e, h1, h2, h3, h4⟩
set_option maxRecDepth 100000 in
theorem open_exec {r : Reach} {b0 : Nat} {v : Value} {d : DataW H} {p : List MemPlace} (hv : Value.okWide Tryz.prog W r b0 26 v) (h : DataW.Trod enc Tryz.prog W 0 (fun _ => true) true 26 v d p) :
    ∃ x : Ev.X, v = Ev.exV x ∧ Ev.XIn W x := by
  obtain ⟨cs, rfl, hsz⟩ := okWide_struct Tryz.underlying26 hv
  obtain ⟨l⟩ := cs
  obtain ⟨fuel, hf⟩ := h
  have u1 : Tryz.prog.cellsOf 22 = 1 := by kernel_rfl
  have u2 : Tryz.prog.cellsOf 23 = 1 := by kernel_rfl
  have u3 : Tryz.prog.cellsOf 24 = 1 := by kernel_rfl
  match l, hsz.trans cellsExec with
  | [c0, c1, c2], _ =>
    obtain ⟨xs, n, _, _, hl, hlen, hg⟩ := DataW.trod_struct Tryz.underlying26 hf
    match xs, hlen with
    | [y0, y1, y2], _ =>
      have g0 : DataW.trod enc Tryz.prog W 0 (fun _ => true) true n 22 [c0] = some y0 := by simpa [Value.cells, u1, u2, u3] using hg 0 _ rfl
      have g1 : DataW.trod enc Tryz.prog W 0 (fun _ => true) true n 23 [c1] = some y1 := by simpa [Value.cells, u1, u2, u3] using hg 1 _ rfl
      have g2 : DataW.trod enc Tryz.prog W 0 (fun _ => true) true n 24 [c2] = some y2 := by simpa [Value.cells, u1, u2, u3] using hg 2 _ rfl
      obtain ⟨ae, ce, ev, rfl, hev⟩ := evs_in g0
      obtain ⟨fr, rfl, hfr⟩ := ints_in g1
      obtain ⟨ao, co, od, rfl, hod⟩ := od_in g2
      exact ⟨⟨ae, ce, ev, fr, ao, co, od⟩, rfl, ⟨hev, hfr, hod⟩⟩
end
end Go.Proofs.YtecnnkidalkmfaaGreat
end

section
namespace Go.Proofs.YtecnnkidalkmfaaGreat
open Go.RowKit
theorem rcheck_is {x : Ev.X} {v : Int} (h : Ev.check x = v) (w : World) (hin : Ev.XIn w x) : Calls Tryz.prog 12 #[.agg (Ev.xcells x).toArray] w fun e w' => e = .returned (.int .i64 v) ∧ Below w.heap.size w w' := h ▸ rcheck_any x w hin
theorem ppo_pl {x : Ev.X} (hc : Ev.check x = 0) : Ev.pl (Or.ppo x) x.ev.length x.ev.length = Ev.pl (Ev.isPpo x) x.ev.length x.ev.length := by
  refine Or.pl_congr fun a b ha hb => ?_
  unfold Or.ppo Ev.isPpo
  rw [Or.hold_eq hc ha hb, Bool.eq_iff_iff]
  simp only [Bool.not_eq_true', List.isEmpty_eq_false_iff_exists_mem, List.mem_filter, List.mem_range, Bool.and_eq_true, decide_eq_true_eq, List.any_eq_true]
  constructor
  · rintro ⟨i, h1, h2, h3⟩
    exact ⟨i - 1, by omega, by rw [show i - 1 + 1 = i by omega]; exact h3⟩
  · rintro ⟨i, h1, h2⟩
    exact ⟨i + 1, by omega, by omega, h2⟩
end Go.Proofs.YtecnnkidalkmfaaGreat
end

section
namespace Go.Proofs.YtecnnkidalkmfaaGreat
open Go.RowKit
namespace Ev
theorem rk_place {x : X} (hc : check x = 0) {n : Nat} (hn : n < x.ev.length) (hs : stores (nth x.ev n).k = true) : rk x n = place x n := by
  have he := ev_all hc
  obtain ⟨h1, _, _⟩ := check_order hc
  obtain ⟨i, hi, ha⟩ := beg_of he hn hs
  have hod : x.od.length = beg x.ev := by
    unfold orderOk at h1
    simp only [Bool.and_eq_true, beq_iff_eq] at h1
    exact h1.1
  obtain ⟨s, hsi⟩ : ∃ s, x.od[i]? = some s := ⟨_, List.getElem?_eq_getElem (by omega)⟩
  obtain ⟨_, hr, hd, _⟩ := od_at hc hsi
  have hm : (n : Int) ∈ s.l := hr.1 n hn hs ha.symm
  obtain ⟨v, hv⟩ := List.mem_iff_getElem?.1 hm
  have hat := at_at hd hv
  have key : ∀ t ∈ x.od, (n : Int) ∈ t.l → t = s := fun t ht hnt => by
    obtain ⟨k, hk⟩ := List.mem_iff_getElem?.1 ht
    obtain ⟨hkb, _, _, hka⟩ := od_at hc hk
    have hki : k = i := beg_inj he hkb hi (by rw [ha]; exact (hka _ hnt).symm)
    subst hki
    rw [hk] at hsi
    exact Option.some.inj hsi
  have hp : place x n = v := by
    unfold place
    refine place_of ⟨s, List.mem_of_getElem? hsi, hm⟩ (fun t ht hnt => ?_)
    rw [key t ht hnt, hat]
  rw [hp]
  unfold rk rkL
  refine rk_fold (fun p hp hpn => ?_) (.inr ⟨((n : Int), v), ?_, rfl⟩)
  · unfold zall at hp
    rw [List.mem_flatMap] at hp
    obtain ⟨t, ht, hpt⟩ := hp
    rw [List.take_length] at ht
    unfold zs at hpt
    rw [List.mem_map] at hpt
    obtain ⟨j, hj, rfl⟩ := hpt
    have hjl := List.mem_range.1 hj
    have hg := List.getElem?_eq_getElem hjl
    have e : t.l.getD j 0 = t.l[j] := by simp [List.getD, hg]
    have hpn' : t.l[j] = (n : Int) := by rw [← e]; exact hpn
    rw [hpn'] at hg
    have hts := key t ht (List.mem_of_getElem? hg)
    subst hts
    have := at_at hd hg
    show j = v
    omega
  · unfold zall
    rw [List.mem_flatMap, List.take_length]
    refine ⟨s, List.mem_of_getElem? hsi, ?_⟩
    unfold zs
    rw [List.mem_map]
    have hvl := (List.getElem?_eq_some_iff.1 hv).1
    exact ⟨v, List.mem_range.2 hvl, by simp [List.getD, hv]⟩
theorem bh_co {x : X} (hc : check x = 0) {a b : Nat} (ha : a < x.ev.length) (hb : b < x.ev.length) (hs : stores (nth x.ev a).k = true) : bh x a b = isCo x a b := by
  unfold bh isCo
  rw [hs, Bool.true_and]
  cases hsb : stores (nth x.ev (b : Int)).k
  · rfl
  · rw [rk_place hc ha hs, rk_place hc hb hsb, Bool.true_and, Bool.true_and]
    congr 1
    rw [Bool.eq_iff_iff]
    simp only [beq_iff_eq]
    exact eq_comm
theorem co_eq {x : X} (hc : check x = 0) : told (bondCo x) x.ev.length x.ev.length = pl (fun a b : Nat => isCo x (a : Int) (b : Int)) x.ev.length x.ev.length := by
  refine told_pl (fun a b ha hb => ?_) (fun a b ha hb h2 c hbc hcn => ?_)
  · unfold bondCo bnd
    by_cases h : stores (nth x.ev (a : Int)).k = false
    · rw [if_pos h]
      constructor
      · intro e; omega
      · intro e
        unfold isCo at e
        rw [h] at e
        simp at e
    · have h' : stores (nth x.ev (a : Int)).k = true := by simpa using h
      rw [if_neg h, ← bh_co hc ha hb h']
      cases bh x a b <;> simp
  · unfold bondCo bnd at h2
    by_cases h : stores (nth x.ev (a : Int)).k = false
    · unfold isCo
      rw [h]; rfl
    · rw [if_neg h] at h2
      split at h2 <;> omega
theorem fr_eq {x : X} (hc : check x = 0) : told (bondFr x) x.ev.length x.ev.length = pl (isFr x) x.ev.length x.ev.length := by
  have key : ∀ a b : Nat, a < x.ev.length → b < x.ev.length → loads (nth x.ev (a : Int)).k = true → bh x (frAt x a) b = isCo x (frAt x a) b := fun a b ha hb hl => by
    obtain ⟨f, hf, hfa, hfr⟩ := from_in hc ha hl
    obtain ⟨_, h2, _⟩ := check_order hc
    unfold fromOk at h2
    simp only [Bool.and_eq_true, beq_iff_eq, List.all_eq_true] at h2
    have := h2.2 a (List.mem_range.2 ha)
    unfold fromAt at this
    have e2 : x.fr.l.getD a 0 = (f : Int) := hfr
    rw [if_pos hl, e2] at this
    unfold readOk at this
    simp only [Bool.and_eq_true] at this
    rw [hfr]
    exact bh_co hc hf hb this.1.1.2
  refine told_pl (fun a b ha hb => ?_) (fun a b ha hb h2 c hbc hcn => ?_)
  · unfold bondFr isFr bnd
    by_cases h : loads (nth x.ev (a : Int)).k = false
    · rw [if_pos h, h]
      simp
    · have h' : loads (nth x.ev (a : Int)).k = true := by simpa using h
      rw [if_neg h, h', key a b ha hb h', Bool.and_true]
      cases (!decide (a = b) && isCo x (frAt x a) b) <;> simp
  · unfold bondFr bnd at h2
    by_cases h : loads (nth x.ev (a : Int)).k = false
    · unfold isFr
      rw [h]; simp
    · rw [if_neg h] at h2
      split at h2 <;> omega
end Ev
end Go.Proofs.YtecnnkidalkmfaaGreat
end
