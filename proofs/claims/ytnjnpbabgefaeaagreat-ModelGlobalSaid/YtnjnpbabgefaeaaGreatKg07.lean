import Derived.Test.YtnjnpbabgefaeaaGreatKg04
import Derived.Laws.Tables
import Derived.Test.YtnjnpbabgefaeaaGreatKg05
import Derived.Maps.OwnSet
import Derived.Maps.OwnOps
set_option linter.unusedVariables false
set_option linter.unusedSimpArgs false

section
namespace Go.Proofs.YtnjnpbabgefaeaaGreat
namespace Og
open Go.RowKit
variable {P : Program}
inductive Sq where
  | is (v : Value)
  | new (o : Obj)
  | sl (o : Obj) (n m : Nat)
  | sat (p : Value → Prop)
def Sq.holds (B : Nat) : Sq → Value → World → Prop
  | .is u, v, _ => v = u
  | .new o, v, w => ∃ b, v = .pointer (some ⟨b, 0, none⟩) ∧ B ≤ b ∧ w.heap[b]? = some o
  | .sl o n m, v, w => ∃ b, v = .slice (some ⟨b, 0, none⟩) n m ∧ B ≤ b ∧ w.heap[b]? = some o
  | .sat p, v, _ => p v
theorem Sq.stab {B : Nat} (s : Sq) {v : Value} {w w' : World} (h : s.holds B v w) (hb : Below w.heap.size w w') : s.holds B v w' := by
  cases s with
  | is u => exact h
  | sat p => exact h
  | new o => obtain ⟨b, h1, h2, h3⟩ := h; exact ⟨b, h1, h2, (hb.block b (Array.getElem?_eq_some_iff.1 h3).1).trans h3⟩
  | sl o n m => obtain ⟨b, h1, h2, h3⟩ := h; exact ⟨b, h1, h2, (hb.block b (Array.getElem?_eq_some_iff.1 h3).1).trans h3⟩
def PhS (w : World) (g : Nat) (cs : Array Value) : Bool → World → Prop
  | false, x => Below w.heap.size w x
  | true, x => ∃ y, Below w.heap.size w y ∧ Below (y.setRow g cs).heap.size (y.setRow g cs) x
theorem PhS.old {w x : World} {g : Nat} {cs : Array Value} {b : Bool} (h : PhS w g cs b x) {k : Nat} {o : Obj} (hk : k ≠ g) (ho : w.heap[k]? = some o) : x.heap[k]? = some o := by
  have hlt := (Array.getElem?_eq_some_iff.1 ho).1
  cases b with
  | false => exact (Below.block h k hlt).trans ho
  | true =>
    obtain ⟨y, h1, h2⟩ := h
    have h3 : (y.setRow g cs).heap[k]? = some o := (setRow_other y g k cs hk).trans ((h1.block k hlt).trans ho)
    exact (h2.block k (Array.getElem?_eq_some_iff.1 h3).1).trans h3
theorem PhS.cell {w x : World} {g : Nat} {cs : Array Value} {b : Bool} (h : PhS w g cs b x) {k j : Nat} {cells : Array Value} {t : TypeId} {fr : Nat × Nat} (hk : k ≠ g) (ho : w.heap[k]? = some (.cells cells t fr)) : x.cell? ⟨k, j, none⟩ = cells[j]? := by
  rw [cell_of_row x k j _ _ _ (h.old hk ho)]
theorem PhS.below {w0 w x : World} {g B : Nat} {cs : Array Value} (h : PhS w g cs true x) (h0 : Below B w0 w) (hB : B ≤ w.heap.size) (hg : B ≤ g) : Below B w0 x := by
  obtain ⟨y, h1, h2⟩ := h
  have h3 : Below B w0 (y.setRow g cs) := (h0.trans (h1.mono hB)).trans ⟨rfl, rfl, rfl, by simp [World.setRow], fun k hk => setRow_other y g k cs (by omega)⟩
  exact h3.trans (h2.mono (by have := h3.size; have := h0.size; have := h1.size; simp [World.setRow] at *; omega))
theorem PhS.new {w x : World} {g : Nat} {cs old : Array Value} {t : TypeId} {fr : Nat × Nat} (h : PhS w g cs true x) (ho : w.heap[g]? = some (.cells old t fr)) : x.heap[g]? = some (.cells cs t fr) := by
  obtain ⟨y, h1, h2⟩ := h
  have h3 : y.heap[g]? = some (.cells old t fr) := (h1.block g (Array.getElem?_eq_some_iff.1 ho).1).trans ho
  have h4 : (y.setRow g cs).heap[g]? = some (.cells cs t fr) := setRow_heap _ _ _ _ _ _ h3
  exact (h2.block g (Array.getElem?_eq_some_iff.1 h4).1).trans h4
structure Kept (q g : Nat) (w w' : World) : Prop where
  os : w'.os = w.os
  tape : w'.tape = w.tape
  output : w'.output = w.output
  size : w.heap.size ≤ w'.heap.size
  block : ∀ k, k < w.heap.size → k ≠ q → k ≠ g → w'.heap[k]? = w.heap[k]?
theorem Kept.refl (q g : Nat) (w : World) : Kept q g w w := ⟨rfl, rfl, rfl, Nat.le_refl _, fun _ _ _ _ => rfl⟩
theorem Kept.trans {q g : Nat} {a b c : World} (h : Kept q g a b) (k : Kept q g b c) : Kept q g a c :=
  ⟨k.os.trans h.os, k.tape.trans h.tape, k.output.trans h.output, Nat.le_trans h.size k.size, fun i hi h1 h2 => (k.block i (Nat.lt_of_lt_of_le hi h.size) h1 h2).trans (h.block i hi h1 h2)⟩
theorem Kept.of_below {q g : Nat} {w w' : World} (h : Below w.heap.size w w') : Kept q g w w' := ⟨h.os, h.tape, h.output, h.size, fun k hk _ _ => h.block k hk⟩
theorem Kept.setCell {q g : Nat} {a w : World} (h : Kept q g a w) (j : Nat) (u : Value) : Kept q g a (w.setCell ⟨q, j, none⟩ u) :=
  h.trans ⟨rfl, rfl, rfl, by simp [World.setCell], fun k hk h1 _ => Below.heap_setCell _ _ _ _ (by simpa using h1)⟩
theorem Kept.below {q g : Nat} {a b c : World} (h : Kept q g a b) (k : Below b.heap.size b c) : Kept q g a c := h.trans (Kept.of_below k)
theorem Kept.setRow {q g r : Nat} {a w : World} (h : Kept q g a w) (hr : a.heap.size ≤ r) (cs : Array Value) : Kept q g a (w.setRow r cs) :=
  ⟨h.os, h.tape, h.output, by simpa [World.setRow] using h.size, fun k hk h1 h2 => (setRow_other w r k cs (by omega)).trans (h.block k hk h1 h2)⟩
def PhK (w : World) (q g : Nat) (Post : World → Prop) : Bool → World → Prop
  | false, x => Below w.heap.size w x
  | true, x => ∃ y z, Below w.heap.size w y ∧ Kept q g y z ∧ Post z ∧ Below z.heap.size z x
theorem PhK.old {w x : World} {q g : Nat} {Post : World → Prop} {b : Bool} (h : PhK w q g Post b x) {k : Nat} {o : Obj} (h1 : k ≠ q) (h2 : k ≠ g) (ho : w.heap[k]? = some o) : x.heap[k]? = some o := by
  have hlt := (Array.getElem?_eq_some_iff.1 ho).1
  cases b with
  | false => exact (Below.block h k hlt).trans ho
  | true =>
    obtain ⟨y, z, hy, hz, _, hx⟩ := h
    have e1 : y.heap[k]? = some o := (hy.block k hlt).trans ho
    have e2 : z.heap[k]? = some o := (hz.block k (Array.getElem?_eq_some_iff.1 e1).1 h1 h2).trans e1
    exact (hx.block k (Array.getElem?_eq_some_iff.1 e2).1).trans e2
theorem PhK.size {w x : World} {q g : Nat} {Post : World → Prop} {b : Bool} (h : PhK w q g Post b x) : w.heap.size ≤ x.heap.size := by
  cases b with
  | false => exact Below.size h
  | true => obtain ⟨y, z, hy, hz, _, hx⟩ := h; exact Nat.le_trans hy.size (Nat.le_trans hz.size hx.size)
theorem PhK.kept {w x : World} {q g : Nat} {Post : World → Prop} {b : Bool} (h : PhK w q g Post b x) : Kept q g w x := by
  cases b with
  | false => exact Kept.of_below h
  | true => obtain ⟨y, z, hy, hz, _, hx⟩ := h; exact ((Kept.of_below hy).trans hz).below hx
end Og
end Go.Proofs.YtnjnpbabgefaeaaGreat
end

section
namespace Go.Proofs.YtnjnpbabgefaeaaGreat
open Go.RowKit Go.Maps
theorem inB_is {n m : Int} {b : Bool} (h : Ev.inB n m = b) (w : World) : Calls Tryz.prog 119 #[.int .i64 n, .int .i64 m] w fun e w' => e = .returned (.bool b) ∧ w = w' := h ▸ inB_any n m w
theorem stores_is {x : Ev.R} {b : Bool} (h : Ev.stores x.k = b) (w : World) : Calls Tryz.prog 100 #[.agg (Ev.cells x).toArray] w fun e w' => e = .returned (.bool b) ∧ Below w.heap.size w w' := h ▸ stores_any x w
theorem World.grownBy.but_of {a w : World} (h : Below a.heap.size a w) : a.grownBy w none := ⟨h.os, h.tape, h.output, h.size, fun i hi _ => h.block i hi⟩
theorem law_u32 : Keyed Tryz.prog 46 := int_keyed Tryz.underlying46
theorem law_int : Keyed Tryz.prog 3 := int_keyed Tryz.underlying3
theorem zero_int (w : World) : (zeroValue 3).run Tryz.prog w = .ok (.int .i64 0) w := by kernel_rfl
theorem zero_unit (w : World) : (zeroValue 94).run Tryz.prog w = .ok (.agg #[]) w := by kernel_rfl
theorem wf_of_i64 {n : Int} (h : Ev.i64B n) : (Lit.int .i64 n).wf = true := by
  unfold Ev.i64B at h
  have h1 : IntKind.i64.min = -9223372036854775808 := by decide
  have h2 : IntKind.i64.max = 9223372036854775807 := by decide
  simp only [Lit.wf, h1, h2, Bool.and_eq_true, decide_eq_true_eq]; exact h
theorem wf_of_u32 {n : Int} (h : Ev.u32B n) : (Lit.int .u32 n).wf = true := by
  unfold Ev.u32B at h
  have h1 : IntKind.u32.min = 0 := by decide
  have h2 : IntKind.u32.max = 4294967295 := by decide
  simp only [Lit.wf, h1, h2, Bool.and_eq_true, decide_eq_true_eq]; omega
namespace Ev
def onceAt (xs : List R) (h0 : Int) (n : Int) : Bool := inB n xs.length && stores (nth xs n).k && (nth xs n).a == (nth xs h0).a
def onceOk (xs : List R) (l : List Int) : Bool := l.all (onceAt xs (l.getD 0 0)) && decide l.Nodup
structure SetIs (w : World) (b n : Nat) (l : List Int) : Prop where
  ex : ∃ D : DataW Unit, w.ownsMap Tryz.prog 3 unitElem b n D ∧ (∀ x, i64B x → Maps.has D (.int .i64 x) = decide (x ∈ l)) ∧ ∃ m, Maps.size D = m ∧ m ≤ l.length ∧ (m = l.length ↔ l.Nodup)
theorem iskey_int (q : IntKind) (x : Int) : WideAt.IsKeyLit (.int q x) := by first | trivial | exact rfl | simp [WideAt.IsKeyLit]
theorem set_step {D : DataW Unit} {l : List Int} {x : Int} (ht : Tidy D) (hx : i64B x) (hh : ∀ x, i64B x → Maps.has D (.int .i64 x) = decide (x ∈ l)) (hm : ∃ m, Maps.size D = m ∧ m ≤ l.length ∧ (m = l.length ↔ l.Nodup)) :
    (∀ y, i64B y → Maps.has (D.put (.int .i64 x) (.agg [])) (.int .i64 y) = decide (y ∈ l ++ [x])) ∧ ∃ m, Maps.size (D.put (.int .i64 x) (.agg [])) = m ∧ m ≤ (l ++ [x]).length ∧ (m = (l ++ [x]).length ↔ (l ++ [x]).Nodup) := by
  obtain ⟨m, h1, h2, h3⟩ := hm
  refine ⟨fun y hy => ?_, ?_⟩
  · by_cases hxy : y = x
    · subst hxy
      rw [Maps.has_put_same ht.isMap (iskey_int _ _)]; simp
    · rw [Maps.has_put_other (by intro e; injection e with _ e; exact hxy e), hh y hy]; simp [hxy]
  · rw [Maps.size_put ht, hh x hx, h1]
    by_cases hx : x ∈ l
    · have hn : ¬ (l ++ [x]).Nodup := fun h => by
        rw [List.nodup_append] at h
        exact h.2.2 x hx x (by simp) rfl
      refine ⟨m, by simp [hx], by simp; omega, ?_⟩
      constructor
      · intro e; simp at e; omega
      · intro e; exact absurd e hn
    · refine ⟨m + 1, by simp [hx], by simp; omega, ?_⟩
      have hn : (l ++ [x]).Nodup ↔ l.Nodup := by
        rw [List.nodup_append]
        constructor
        · exact fun h => h.1
        · exact fun h => ⟨h, by simp, fun a ha b hb => by simp at hb; subst hb; intro e; subst e; exact hx ha⟩
      rw [hn, ← h3]
      simp
end Ev
set_option maxRecDepth 100000 in
set_option maxHeartbeats 4000000 in
theorem once_any (a : Option Addr) (c : Nat) (xs : List Ev.R) (s : Ev.Sl) (h0 : Nat) (hh : s.l[0]? = some (h0 : Int)) (hh0 : h0 < xs.length) (w : World) (hin : Ev.EvsIn w a c xs) (hs : Ev.IntsIn w s) :
    Calls Tryz.prog 101 #[.slice a xs.length c, .slice s.a s.l.length s.c] w fun e w' => e = .returned (.bool (Ev.onceOk xs s.l)) ∧ Below w.heap.size w w' := by
  have hmax := hin.max; have hle := hin.le; have hsm := hs.2.2.1; have hsl := hs.2.1
  have HIN := Lib.hid hin; have HS := Lib.hid hs
  obtain ⟨z0, hz⟩ : ∃ z, xs[h0]? = some z := ⟨_, List.getElem?_eq_getElem hh0⟩
  have hzn := Ev.nth_some hz
  have hl0 : 0 < s.l.length := (List.getElem?_eq_some_iff.1 hh).1
  have hgd : s.l.getD 0 0 = (h0 : Int) := by simp [List.getD, hh]
  have HGD := Lib.hid hgd; have HZN := Lib.hid hzn
  have HH := Lib.hid hh; have HZ := Lib.hid hz
  clear hin hs hgd hzn
  have hmm := @run_makeMap Tryz.prog
  obtain ⟨g0, o0, es, cs0⟩ := HS.out.at_ hh
  obtain ⟨gx, ox, ea, cz⟩ := HIN.out.at_ hz
  have ca0 := cz 2 _ rfl
  have HEA := Lib.hid ea; have HES := Lib.hid es
  clear hh hz cz
  rw [ea, es]; clear ea es
  have hh0i : (h0 : Int) < (xs.length : Int) := by omega
  have hl0i : (0 : Int) < (s.l.length : Int) := by omega
  go_enter Tryz.func101, Tryz.ntmps101
  go_wp2
  go_loopw [7, 11] (fun _ i wr => ∃ k : Nat, k ≤ s.l.length ∧ i = .int .i64 (k : Int) ∧ (∀ j v, j < k → s.l[j]? = some v → Ev.onceAt xs h0 v = true) ∧ Ev.SetIs wr w.heap.size k (s.l.take k) ∧ Below w.heap.size w wr) (fun _ i _ => s.l.length - (intOf i).toNat)
  case atStart => exact ⟨0, Nat.zero_le _, rfl, fun j v hj => absurd hj (by omega), ⟨⟨_, World.ownsMap_made _ _ _ _, fun x _ => by simp [Maps.has], 0, by simp [Maps.size], by simp, by simp⟩⟩, (Below.refl _ _).alloc (Nat.le_refl _) _⟩
  case round =>
    obtain ⟨k, hk, rfl, hall, hset, hbr⟩ := hrel
    have HA := Lib.hid hall; have HBR := Lib.hid hbr; have HSET := Lib.hid hset; clear hall hbr hset
    by_cases hlt : k < s.l.length
    · obtain ⟨v, hv⟩ : ∃ v, s.l[k]? = some v := ⟨_, List.getElem?_eq_getElem hlt⟩
      have hvb := HS.out.b_ hv
      have htk : s.l.take (k + 1) = s.l.take k ++ [v] := by rw [List.take_add_one, hv]; rfl
      obtain ⟨g1, o1, e1, c1⟩ := (HS.out.kp (Ev.kp_below HBR.out)).at_ hv
      obtain ⟨rfl, rfl⟩ : g1 = g0 ∧ o1 = o0 := by have := HES.out; rw [this] at e1; cases e1; exact ⟨rfl, rfl⟩
      have HV := Lib.hid hv; have HTK := Lib.hid htk
      have hki : (k : Int) < (s.l.length : Int) := by omega
      have HVB := Lib.hid hvb
      unfold Ev.i64B at hvb
      clear hv htk e1
      have fin : Ev.onceAt xs h0 v = false → Ev.onceOk xs s.l = false := fun e => by
        unfold Ev.onceOk; rw [HGD.out]
        have : s.l.all (Ev.onceAt xs h0) = false := by rw [List.all_eq_false]; exact ⟨v, List.mem_of_getElem? HV.out, by rw [e]; simp⟩
        rw [this]; rfl
      have FIN := Lib.hid fin; clear fin
      by_cases hb : Ev.inB v xs.length = true
      · have hr : 0 ≤ v ∧ v < (xs.length : Int) := by unfold Ev.inB at hb; simpa using hb
        obtain ⟨vn, rfl⟩ : ∃ vn : Nat, v = vn := ⟨v.toNat, by omega⟩
        have hvl : vn < xs.length := by omega
        obtain ⟨y, hy⟩ : ∃ y, xs[vn]? = some y := ⟨_, List.getElem?_eq_getElem hvl⟩
        have hyn := Ev.nth_some hy
        obtain ⟨gy, oy, ey, cy⟩ := (HIN.out.kp (Ev.kp_below HBR.out)).at_ hy
        obtain ⟨rfl, rfl⟩ : gy = gx ∧ oy = ox := by have := HEA.out; rw [this] at ey; cases ey; exact ⟨rfl, rfl⟩
        have cy2 : ∀ z : Og.On wr.heap.size wr, ∀ i c, (Ev.cells y)[i]? = some c → z.x.cell? ⟨gy, oy + vn * 13 + i, none⟩ = some c := fun z i c hi => Og.cellB z (cy i c hi)
        have LY := Lib.hid (fun z : Og.On wr.heap.size wr => Ev.ld (cy2 z))
        have ca : ∀ z : Og.On wr.heap.size wr, z.x.cell? ⟨gy, oy + vn * 13 + 2, none⟩ = some (.int .u32 y.a) := fun z => cy2 z 2 _ rfl
        have cb : ∀ z : Og.On wr.heap.size wr, z.x.cell? ⟨gy, oy + h0 * 13 + 2, none⟩ = some (.int .u32 z0.a) := fun z => Og.cellB z (Ev.kp_below HBR.out _ _ ca0)
        have cd : ∀ z : Og.On wr.heap.size wr, z.x.cell? ⟨g1, o1, none⟩ = some (.int .i64 (h0 : Int)) := fun z => Og.cellB z (Ev.kp_below HBR.out _ _ (by simpa using cs0))
        have HB := Lib.hid hb; have HY := Lib.hid hyn
        have hvi : (vn : Int) < (xs.length : Int) := by omega
        clear cy cy2 hy hyn hb ey
        obtain ⟨b1, hb1⟩ : ∃ b, Ev.stores y.k = b := ⟨_, rfl⟩
        have HB1 := Lib.hid hb1; clear hb1
        have hat : Ev.onceAt xs h0 vn = (b1 && (y.a == z0.a)) := by unfold Ev.onceAt; rw [HB.out, HY.out, HZN.out, HB1.out]; simp
        have HAT := Lib.hid hat; clear hat
        have cb1 : ∀ z : Og.On wr.heap.size wr, Calls Tryz.prog 100 #[.agg (Ev.cells y).toArray] z.x fun e w'' => e = .returned (.bool b1) ∧ ∃ q' : Og.On wr.heap.size wr, w'' = q'.x := fun z => Og.callB (stores_is HB1.out _)
        have CB1 := Lib.hid cb1; clear cb1
        cases b1
        · go_wp2
          refine Og.regionB (by kernel_rfl) (by kernel_rfl) ?_
          repeat (first
            | go_big_quiet_skip
            | (go_big_quiet_want
               first
                | (refine Og.quiet_load 48 (.tmp 23) rfl (.agg (Ev.cells y).toArray) ⟨gy, oy + vn * 13, none⟩ _ rfl (by rintro _ ⟨z, rfl⟩; exact LY.out z) (by simp only [Act.put, List.setIfInBounds_toArray, List.set_cons_zero, List.set_cons_succ]; rfl) ?_
                   go_big_quiet_on)
                | (go_big_quiet_op
                   first
                    | go_big_quiet_on
                    | (apply Exists.intro
                       refine ⟨fun z => ?_, ?_⟩
                       · first
                          | exact Og.callS (inB_is HB.out _)
                          | exact CB1.out z
                       go_big_quiet_on))))
          refine wpQuiet_nil ?_
          intro _ hw'
          obtain ⟨q9, hw''⟩ := hw'
          subst hw''
          have HEND := Lib.hid (HBR.out.trans (q9.b.mono HBR.out.size))
          go_wp2_with fail
          go_ret
          exact ⟨by rw [FIN.out (by rw [HAT.out]; rfl)]; rfl, HEND.out⟩
        by_cases hya : y.a = z0.a
        · have hq : (y.a != z0.a) = false := by simp [hya]
          have HYA := Lib.hid hya; clear hya
          go_wp2
          refine Og.regionB (by kernel_rfl) (by kernel_rfl) ?_
          repeat (first
            | go_big_quiet_skip
            | (go_big_quiet_want
               first
                | (refine Og.quiet_load 48 (.tmp 23) rfl (.agg (Ev.cells y).toArray) ⟨gy, oy + vn * 13, none⟩ _ rfl (by rintro _ ⟨z, rfl⟩; exact LY.out z) (by simp only [Act.put, List.setIfInBounds_toArray, List.set_cons_zero, List.set_cons_succ]; rfl) ?_
                   go_big_quiet_on)
                | (go_big_quiet_op
                   first
                    | go_big_quiet_on
                    | (apply Exists.intro
                       refine ⟨fun z => ?_, ?_⟩
                       · first
                          | exact Og.callS (inB_is HB.out _)
                          | exact CB1.out z
                       go_big_quiet_on))))
          refine wpQuiet_nil ?_
          intro _ hw'
          obtain ⟨q9, hw''⟩ := hw'
          subst hw''
          have HEND := Lib.hid (HBR.out.trans (q9.b.mono HBR.out.size))
          have hset9 : Ev.SetIs q9.x w.heap.size k (s.l.take k) := by
            obtain ⟨D, ho, h2, h3⟩ := HSET.out.ex
            exact ⟨D, ho.kept (World.grownBy.but_of q9.b) (by simp), h2, h3⟩
          obtain ⟨⟨D, hown, hhas, hsz⟩⟩ := hset9
          have HOWN := Lib.hid hown; have HHAS := Lib.hid hhas; have HSZ := Lib.hid hsz
          have HKEY := Lib.hid (keyOf_int_mk (P := Tryz.prog) Tryz.underlying3 (wf_of_i64 HVB.out))
          clear hown hhas hsz
          go_wp2_with (at_mapUpdate; refine wpList_mapUpdate_own _ rfl _ _ _ 151 rfl 3 94 law_int Tryz.underlying151 unitElem w.heap.size k _ rfl HOWN.out (by unfold maxLen; omega) _ _ _ rfl rfl HKEY.out (.agg []) [] unitElem_mk ?_; intro w1 hown1 hgrow1)
          have HO1 := Lib.hid hown1; have HG1 := Lib.hid hgrow1; clear hown1 hgrow1
          go_roundw
          case rel =>
            have hst := Ev.set_step (HOWN.out.tidy law_int) HVB.out HHAS.out HSZ.out
            refine ⟨k + 1, by omega, by go_num, fun j u hj hu => ?_, ?_, HEND.out.grown HG1.out HEND.out.size (fun j hj => by cases hj; exact Nat.le_refl _)⟩
            · by_cases hjk : j = k
              · subst hjk; rw [HV.out] at hu; cases hu; rw [HAT.out]; simp [HYA.out]
              · exact HA.out j u (by omega) hu
            · rw [HTK.out]
              exact ⟨⟨_, HO1.out, hst.1, hst.2⟩⟩
          case measure => simp [intOf]; omega
        · have hq : (y.a != z0.a) = true := by simpa using hya
          have hq2 : (y.a == z0.a) = false := by simpa using hya
          have HYA := Lib.hid hq2; clear hya hq2
          go_wp2
          refine Og.regionB (by kernel_rfl) (by kernel_rfl) ?_
          repeat (first
            | go_big_quiet_skip
            | (go_big_quiet_want
               first
                | (refine Og.quiet_load 48 (.tmp 23) rfl (.agg (Ev.cells y).toArray) ⟨gy, oy + vn * 13, none⟩ _ rfl (by rintro _ ⟨z, rfl⟩; exact LY.out z) (by simp only [Act.put, List.setIfInBounds_toArray, List.set_cons_zero, List.set_cons_succ]; rfl) ?_
                   go_big_quiet_on)
                | (go_big_quiet_op
                   first
                    | go_big_quiet_on
                    | (apply Exists.intro
                       refine ⟨fun z => ?_, ?_⟩
                       · first
                          | exact Og.callS (inB_is HB.out _)
                          | exact CB1.out z
                       go_big_quiet_on))))
          refine wpQuiet_nil ?_
          intro _ hw'
          obtain ⟨q9, hw''⟩ := hw'
          subst hw''
          have HEND := Lib.hid (HBR.out.trans (q9.b.mono HBR.out.size))
          go_wp2_with fail
          go_ret
          exact ⟨by rw [FIN.out (by rw [HAT.out, HYA.out]; rfl)]; rfl, HEND.out⟩
      · have hb : Ev.inB v xs.length = false := by simpa using hb
        have HB := Lib.hid hb; clear hb
        go_wp2
        refine Og.regionB (by kernel_rfl) (by kernel_rfl) ?_
        repeat (first
          | go_big_quiet_skip
          | (go_big_quiet_want
             first
              | (go_big_quiet_op
                 first
                  | go_big_quiet_on
                  | (apply Exists.intro
                     refine ⟨fun z => ?_, ?_⟩
                     · first
                        | exact Og.callS (inB_is HB.out _)
                     go_big_quiet_on))))
        refine wpQuiet_nil ?_
        intro _ hw'
        obtain ⟨q9, hw''⟩ := hw'
        subst hw''
        have HEND := Lib.hid (HBR.out.trans (q9.b.mono HBR.out.size))
        go_wp2_with fail
        go_ret
        exact ⟨by rw [FIN.out (by unfold Ev.onceAt; rw [HB.out]; rfl)]; rfl, HEND.out⟩
    · have hkk : k = s.l.length := by omega
      have hki : ¬ (k : Int) < (s.l.length : Int) := by omega
      obtain ⟨⟨D, hown, hhas, hsz⟩⟩ := HSET.out
      obtain ⟨m, hm1, hm2, hm3⟩ := hsz
      have HOWN := Lib.hid hown
      have hres : Ev.onceOk xs s.l = (m == s.l.length) := by
        unfold Ev.onceOk
        rw [HGD.out]
        have h1 : s.l.all (Ev.onceAt xs h0) = true := by
          rw [List.all_eq_true]; intro v hv
          obtain ⟨j, hj⟩ := List.mem_iff_getElem?.1 hv
          exact HA.out j v (by have := (List.getElem?_eq_some_iff.1 hj).1; omega) hj
        rw [h1, hkk] at *
        rw [List.take_length] at hm3
        rw [Bool.true_and]
        by_cases hn : s.l.Nodup
        · have := hm3.2 hn; simp [hn, this]
        · have : m ≠ s.l.length := fun e => hn (hm3.1 e)
          simp [hn, this]
      have HRES := Lib.hid hres; have HM1 := Lib.hid hm1
      have hmb : m ≤ s.l.length := by have := hm2; simp at this; omega
      clear hown hhas hm1 hm2 hm3 hres hkk
      go_wp2_with (at_len; refine wpList_len_own _ rfl _ 151 rfl 3 94 Tryz.underlying151 unitElem w.heap.size k D rfl HOWN.out ?_; rw [HM1.out])
      go_ret
      exact ⟨by rw [HRES.out]; show Ending.returned (.bool _) = _; congr 2; rw [Bool.eq_iff_iff]; simp; omega, HBR.out⟩
end Go.Proofs.YtnjnpbabgefaeaaGreat
end

section
namespace Go.Proofs.YtnjnpbabgefaeaaGreat
open Go.RowKit
namespace Ev
def extra (x : R) : Bool := bits .andNot .i64 ((filled x : Nat) : Int) (parts x.k) != 0
def partsOk (x : R) : Bool := parts x.k != 0 && !(extra x) && hartOk x && x.a % 4 == 0 && inB x.p 4 && inB x.s 4
end Ev
set_option maxRecDepth 100000 in
set_option maxHeartbeats 4000000 in
theorem partsOk_any (x : Ev.R) (w : World) (ha : Ev.u32B x.a) : Calls Tryz.prog 94 #[Ev.evV x] w fun e w' => e = .returned (.bool (Ev.partsOk x)) ∧ Below w.heap.size w w' := by
  have R0 := Lib.hid (heap_alloc_new w (.cells (Ev.cells x).toArray 48))
  have B0 := Lib.hid ((Below.refl w.heap.size w).alloc (Nat.le_refl _) (.cells (Ev.cells x).toArray 48))
  have hm : x.a.tmod 4 = x.a % 4 := Int.tmod_eq_emod_of_nonneg ha.1
  have HU := Lib.hid ha; clear ha
  by_cases h0 : (Ev.parts x.k == 0) = true
  · have e : Ev.partsOk x = false := by unfold Ev.partsOk; simp at h0; simp [h0]
    rw [e]; clear e
    unfold Ev.evV Ev.cells
    go_enter Tryz.func94, Tryz.ntmps94
    go_wp2_with fail
    refine (parts_any _ _).mono ?_
    rintro e w' ⟨rfl, rfl⟩
    go_wp2_with fail
    go_ret
    exact ⟨rfl, B0.out⟩
  have h0 : (Ev.parts x.k == 0) = false := by simpa using h0
  have n0 : (Ev.parts x.k != 0) = true := by simpa using h0
  by_cases h1 : Ev.extra x = true
  · have e : Ev.partsOk x = false := by unfold Ev.partsOk; simp [h1]
    have h1' : (bits .andNot .i64 ((Ev.filled x : Nat) : Int) (Ev.parts x.k) != 0) = true := h1
    rw [e]; clear e h1 n0
    unfold Ev.evV Ev.cells
    go_enter Tryz.func94, Tryz.ntmps94
    go_wp2_with fail
    refine (parts_any _ _).mono ?_
    rintro e w' ⟨rfl, rfl⟩
    go_wp2_with (show wpList _ _ _ (Oper.mk (some 10) _ _ _ _ _ :: _) _ _; refine wpList_load_row rfl 48 (.tmp 1) rfl w.heap.size rfl 48 (Ev.cells x).toArray (0, 0) _ R0.out Tryz.underlying48 rfl (by kernel_rfl) ?_)
    refine (filled_any x _).mono ?_
    rintro e w2 ⟨rfl, hlt, hb⟩
    have HB := Lib.hid (B0.out.trans (hb.mono (by simp only [World.size_alloc]; omega))); clear hb
    go_wp2_with fail
    go_ret
    exact ⟨rfl, HB.out⟩
  have h1 : Ev.extra x = false := by simpa using h1
  have h1' : (bits .andNot .i64 ((Ev.filled x : Nat) : Int) (Ev.parts x.k) != 0) = false := h1
  have eq : Ev.partsOk x = (Ev.hartOk x && x.a % 4 == 0 && Ev.inB x.p 4 && Ev.inB x.s 4) := by unfold Ev.partsOk; rw [h1, n0]; simp
  rw [eq]; clear eq n0 h1
  obtain ⟨b1, hb1⟩ : ∃ b, b = Ev.hartOk x := ⟨_, rfl⟩
  obtain ⟨b3, hb3⟩ : ∃ b, b = Ev.inB x.p 4 := ⟨_, rfl⟩
  obtain ⟨b4, hb4⟩ : ∃ b, b = Ev.inB x.s 4 := ⟨_, rfl⟩
  rw [← hb1, ← hb3, ← hb4]
  have HB1 := Lib.hid hb1; have HB3 := Lib.hid hb3; have HB4 := Lib.hid hb4; clear hb1 hb3 hb4
  have main : ∀ b2 : Bool, (x.a % 4 == 0) = b2 → Calls Tryz.prog 94 #[Ev.evV x] w fun e w' => e = .returned (.bool (b1 && b2 && b3 && b4)) ∧ Below w.heap.size w w' := by
    intro b2 h2
    have h2t : (x.a.tmod 4 == 0) = b2 := by rw [hm]; exact h2
    unfold Ev.evV Ev.cells
    clear hm
    cases b1 <;> cases b2 <;> cases b3 <;> cases b4
    all_goals
      go_enter Tryz.func94, Tryz.ntmps94
      go_wp2_with fail
      refine (parts_any _ _).mono ?_
      rintro e w' ⟨rfl, rfl⟩
      go_wp2_with (show wpList _ _ _ (Oper.mk (some 10) _ _ _ _ _ :: _) _ _; refine wpList_load_row rfl 48 (.tmp 1) rfl w.heap.size rfl 48 (Ev.cells x).toArray (0, 0) _ R0.out Tryz.underlying48 rfl (by kernel_rfl) ?_)
      refine (filled_any x _).mono ?_
      rintro e w2 ⟨rfl, hlt, hb⟩
      have R2 := Lib.hid ((hb.block w.heap.size (by simp only [World.size_alloc]; omega)).trans R0.out)
      have HB := Lib.hid (B0.out.trans (hb.mono (by simp only [World.size_alloc]; omega))); clear hb
      go_wp2_with (show wpList _ _ _ (Oper.mk (some 16) _ _ _ _ _ :: _) _ _; refine wpList_load_row rfl 48 (.tmp 1) rfl w.heap.size rfl 48 (Ev.cells x).toArray (0, 0) _ R2.out Tryz.underlying48 rfl (by kernel_rfl) ?_)
      refine (hart_any x _).mono ?_
      rintro e w3 ⟨rfl, hb⟩
      have R3 := (hb.block w.heap.size (Array.getElem?_eq_some_iff.1 R2.out).1).trans R2.out
      have c2 : w3.cell? ⟨w.heap.size, 2, none⟩ = some (.int .u32 x.a) := by rw [cell_of_row _ _ _ _ _ _ R3]; rfl
      have c7 : w3.cell? ⟨w.heap.size, 7, none⟩ = some (.int .i64 x.p) := by rw [cell_of_row _ _ _ _ _ _ R3]; rfl
      have c8 : w3.cell? ⟨w.heap.size, 8, none⟩ = some (.int .i64 x.s) := by rw [cell_of_row _ _ _ _ _ _ R3]; rfl
      have HBB := Lib.hid (HB.out.trans (hb.mono HB.out.size)); clear hb R3
      rw [← HB1.out]
      go_wp2_with (first
        | (go_at_call 119; refine (inB_any _ _ _).mono ?_; rintro e w' ⟨rfl, rfl⟩; (first | rw [← HB3.out] | rw [← HB4.out])))
      go_ret
      exact ⟨by first | rfl | simp, HBB.out⟩
  exact main _ rfl
end Go.Proofs.YtnjnpbabgefaeaaGreat
end
