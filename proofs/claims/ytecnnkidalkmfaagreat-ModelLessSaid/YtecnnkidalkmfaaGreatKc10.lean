import Derived.Test.YtecnnkidalkmfaaGreatKc06
import Derived.Test.YtecnnkidalkmfaaGreatKc08
import Derived.Test.YtecnnkidalkmfaaGreatKc09
import Derived.WalkMore
import Derived.ScopeJumps
import Derived.Laws.AppendOwn
import Derived.Deep.AppendLies
set_option linter.unusedVariables false
set_option linter.unusedSimpArgs false

section
namespace Go.Proofs.YtecnnkidalkmfaaGreat
open Go.RowKit
namespace Ev
theorem nth_get {xs : List R} {k : Nat} (h : k < xs.length) : nth xs k = xs[k] := nth_some (List.getElem?_eq_getElem h)
theorem five_back {xs : List R} (h : ∀ j, j < xs.length → evAt xs j = true) : ∀ j, j < xs.length → (nth xs j).k = 5 → ∀ i, i ≤ j → (nth xs i).k = 5 := by
  intro j
  induction j with
  | zero => intro _ h5 i hi; obtain rfl : i = 0 := by omega
            exact h5
  | succ j ih =>
    intro hj h5 i hi
    by_cases hij : i = j + 1
    · subst hij; exact h5
    · have h1 := h (j + 1) hj
      have h0 := h j (by omega)
      have e : ((j + 1 : Nat) : Int) - 1 = (j : Int) := by omega
      unfold evAt at h1 h0
      rw [e] at h1
      simp only [Bool.and_eq_true, Bool.or_eq_true] at h1 h0
      have hf := h1.2.resolve_left (by simp)
      have hp : (nth xs (j : Int)).k = 5 := by
        apply Classical.byContradiction
        intro hne
        unfold follow at hf
        rw [if_neg (fun e => hne e.2)] at hf
        have ha := h1.1.1
        have hb := h0.1.1
        unfold partsOk at ha hb
        simp only [Bool.and_eq_true] at ha hb
        have ha := ha.1.1.1.2
        have hb := hb.1.1.1.2
        unfold hartOk at ha hb
        rw [if_pos h5] at ha
        rw [if_neg hne] at hb
        unfold inB at hb
        simp at ha hb hf
        omega
      exact ih (by omega) hp i (by omega)
theorem beg_zero {xs : List R} (h : ∀ x ∈ xs, x.k ≠ 5) : beg xs = 0 := by
  unfold beg
  rw [List.length_eq_zero_iff, List.filter_eq_nil_iff]
  intro x hx; simpa using h x hx
theorem beg_pre {xs : List R} (h : ∀ j, j < xs.length → evAt xs j = true) (b : Nat) (hb : b < beg xs) : ∃ x, xs[b]? = some x ∧ x.k = 5 := by
  have hlen : b < xs.length := Nat.lt_of_lt_of_le hb (beg_le xs)
  refine ⟨xs[b], List.getElem?_eq_getElem hlen, ?_⟩
  apply Classical.byContradiction
  intro hne
  have h1 : beg xs = beg (xs.take b) + beg (xs.drop b) := by unfold beg; rw [← List.length_append, ← List.filter_append, List.take_append_drop]
  have h2 : beg (xs.drop b) = 0 := beg_zero fun x hx h5 => by
    obtain ⟨i, hi⟩ := List.mem_iff_getElem?.1 hx
    rw [List.getElem?_drop] at hi
    have hl := (List.getElem?_eq_some_iff.1 hi).1
    have := five_back h (b + i) hl (by rw [nth_some hi]; exact h5) b (by omega)
    rw [nth_get hlen] at this
    exact hne this
  have h3 := beg_le (xs.take b)
  rw [List.length_take] at h3
  omega
theorem evs_all {xs : List R} (h : evsOk xs = true) : ∀ j, j < xs.length → evAt xs j = true := by
  unfold evsOk at h
  rw [Bool.and_eq_true, List.all_eq_true] at h
  exact fun j hj => h.1 j (List.mem_range.2 hj)
def check (x : X) : Int := if 64 < x.ev.length then 3 else if evsOk x.ev = false then 160 else if fromOk x.ev x.fr.l = false then 161 else if orderOk x.ev x.od = false then 162 else 0
end Ev
theorem jump_ret {l : Nat} {J : Act → World → Prop} {Q : Exit → Act → World → Prop} {a : Act} {w : World} : Exit.jump l J Q .ret a w = Q .ret a w := rfl
theorem scope_ahead {P : Program} {a : Act} {w : World} {Q : Exit → Act → World → Prop} {c rest : Code} (l : Nat) (hf : findLabel c l = some rest)
    (h : c.wp P (Exit.jump l (fun a w => rest.wp P (Exit.jump l (fun _ _ => False) Q) a w) Q) a w) : (Code.scope c).wp P Q a w :=
  wp_scope_jumps l (fun a w => rest.wp P (Exit.jump l (fun _ _ => False) Q) a w) (fun _ _ => 0) hf h (fun a w hJ => Code.wp_mono (fun e a' w' hq => by
    cases e with
    | goto l' => exact ⟨hq.1, hq.2.elim⟩
    | normal => exact hq
    | exit id => exact hq
    | ret => exact hq
    | panic ch => exact hq
    | outgrown => exact hq) hJ)
set_option maxRecDepth 100000 in
set_option maxHeartbeats 2000000 in
theorem check_any (x : Ev.X) (w : World) (hin : Ev.XIn w x) :
    Calls Tryz.prog 47 #[Ev.exV x] w fun e w' => e = .returned (.int .i64 (Ev.check x)) ∧ Below w.heap.size w w' := by
  have HIN := Lib.hid hin
  have hle := hin.ev.le; have hmax := hin.ev.max
  clear hin
  have R0 := Lib.hid (heap_alloc_new w (.cells (Ev.xcells x).toArray 26))
  have B0 := Lib.hid ((Below.refl w.heap.size w).alloc (Nat.le_refl _) (.cells (Ev.xcells x).toArray 26))
  unfold Ev.exV Ev.xcells
  by_cases hl : 64 < x.ev.length
  · have e : Ev.check x = 3 := by unfold Ev.check; rw [if_pos hl]
    have hi : (64 : Int) < (x.ev.length : Int) := by omega
    rw [e]; clear e hl
    go_enter Tryz.func47, Tryz.ntmps47
    go_wp2
    refine scope_ahead 0 rfl ?_
    go_wp2
    go_step3
    refine ⟨rfl, ?_⟩
    go_wp2
    try rw [jump_ret]
    go_ret
    exact ⟨rfl, B0.out⟩
  have hi : ¬ (64 : Int) < (x.ev.length : Int) := by omega
  have R1 : ∀ W, Below (w.heap.size + 1) (w.alloc (.cells (Ev.xcells x).toArray 26)) W → W.heap[w.heap.size]? = some (.cells (Ev.xcells x).toArray 26 (0, 0)) := fun W h => (h.block w.heap.size (by omega)).trans R0.out
  have RR := Lib.hid R1; clear R1
  obtain ⟨b1, hb1⟩ : ∃ b, Ev.evsOk x.ev = b := ⟨_, rfl⟩
  have H1 := Lib.hid hb1
  obtain ⟨b2, hb2⟩ : ∃ b, Ev.fromOk x.ev x.fr.l = b := ⟨_, rfl⟩
  have H2 := Lib.hid hb2
  obtain ⟨b3, hb3⟩ : ∃ b, Ev.orderOk x.ev x.od = b := ⟨_, rfl⟩
  have H3 := Lib.hid hb3
  have HRES := Lib.hid (show Ev.check x = if b1 = false then 160 else if b2 = false then 161 else if b3 = false then 162 else 0 by unfold Ev.check; rw [if_neg hl, hb1, hb2, hb3])
  clear hb1 hb2 hb3 hl
  have hsz : (w.alloc (.cells (Ev.xcells x).toArray 26)).heap.size = w.heap.size + 1 := by simp only [World.size_alloc]
  have HSZ := Lib.hid hsz; clear hsz
  have KW := Lib.hid (Ev.kp_below B0.out)
  go_enter Tryz.func47, Tryz.ntmps47
  go_wp2
  refine scope_ahead 0 rfl ?_
  go_wp2_with fail
  refine (evs_any x.ae x.ce x.ev _ (HIN.out.ev.kp KW.out)).mono ?_
  rintro e W1 ⟨rfl, hb⟩
  have B1 := Lib.hid (show Below (w.heap.size + 1) (w.alloc (.cells (Ev.xcells x).toArray 26)) W1 by rw [← HSZ.out]; exact hb)
  clear hb
  rw [H1.out]
  cases b1
  · go_wp2
    go_step3
    refine ⟨rfl, ?_⟩
    go_wp2
    try rw [jump_ret]
    go_ret
    exact ⟨by rw [HRES.out]; rfl, B0.out.trans (B1.out.mono (Nat.le_succ _))⟩
  have c0 : W1.cell? ⟨w.heap.size, 0, none⟩ = some (.slice x.ae x.ev.length x.ce) := by rw [cell_of_row _ _ _ _ _ _ (RR.out W1 B1.out)]; rfl
  have c1 : W1.cell? ⟨w.heap.size, 1, none⟩ = some (.slice x.fr.a x.fr.l.length x.fr.c) := by rw [cell_of_row _ _ _ _ _ _ (RR.out W1 B1.out)]; rfl
  have K1 := Lib.hid (KW.out.trans (Ev.kp_of B1.out (Nat.le_of_eq HSZ.out)))
  go_wp2_with fail
  refine (from_any x.ae x.ce x.ev x.fr _ (HIN.out.ev.kp K1.out) (HIN.out.fr.kp K1.out)).mono ?_
  rintro e W2 ⟨rfl, hb⟩
  have B2 := Lib.hid (B1.out.trans (hb.mono (by have := B1.out.size; rw [HSZ.out] at this; exact this)))
  clear hb c0 c1
  rw [H2.out]
  cases b2
  · go_wp2
    go_step3
    refine ⟨rfl, ?_⟩
    go_wp2
    try rw [jump_ret]
    go_ret
    exact ⟨by rw [HRES.out]; rfl, B0.out.trans (B2.out.mono (Nat.le_succ _))⟩
  have c0 : W2.cell? ⟨w.heap.size, 0, none⟩ = some (.slice x.ae x.ev.length x.ce) := by rw [cell_of_row _ _ _ _ _ _ (RR.out W2 B2.out)]; rfl
  have c1 : W2.cell? ⟨w.heap.size, 2, none⟩ = some (.slice x.ao x.od.length x.co) := by rw [cell_of_row _ _ _ _ _ _ (RR.out W2 B2.out)]; rfl
  have K2 := Lib.hid (KW.out.trans (Ev.kp_of B2.out (Nat.le_of_eq HSZ.out)))
  go_wp2_with fail
  refine (order_any x.ae x.ce x.ev x.ao x.co x.od (Ev.beg_pre (Ev.evs_all H1.out)) _ (HIN.out.ev.kp K2.out) (HIN.out.od.kp K2.out)).mono ?_
  rintro e W3 ⟨rfl, hb⟩
  have B3 := Lib.hid (B2.out.trans (hb.mono (by have := B2.out.size; rw [HSZ.out] at this; exact this)))
  clear hb c0 c1
  rw [H3.out]
  cases b3
  · go_wp2
    go_step3
    refine ⟨rfl, ?_⟩
    go_wp2
    try rw [jump_ret]
    go_ret
    exact ⟨by rw [HRES.out]; rfl, B0.out.trans (B3.out.mono (Nat.le_succ _))⟩
  · go_wp2
    try rw [jump_ret]
    go_ret
    exact ⟨by rw [HRES.out]; rfl, B0.out.trans (B3.out.mono (Nat.le_succ _))⟩
end Go.Proofs.YtecnnkidalkmfaaGreat
end

section
namespace Go.Proofs.YtecnnkidalkmfaaGreat
open Go.RowKit
namespace Ev
def pv (p : Nat × Nat) : List Value := [.int .i64 (p.1 : Int), .int .i64 (p.2 : Int)]
def cutL (bond : Nat → Nat → Int) (a : Nat) : List Nat → List (Nat × Nat)
  | [] => []
  | b :: r => if bond a b = 2 then [] else if bond a b = 1 then (a, b) :: cutL bond a r else cutL bond a r
def told (bond : Nat → Nat → Int) (n a : Nat) : List (Nat × Nat) := (List.range a).flatMap fun i => cutL bond i (List.range n)
theorem told_succ (bond : Nat → Nat → Int) (n a : Nat) : told bond n (a + 1) = told bond n a ++ cutL bond a (List.range n) := by
  unfold told; rw [List.range_succ, List.flatMap_append]; simp
theorem cutL_len (bond : Nat → Nat → Int) (a : Nat) : ∀ l, (cutL bond a l).length ≤ l.length
  | [] => by simp [cutL]
  | b :: r => by
    have := cutL_len bond a r
    unfold cutL
    split
    · simp
    · split <;> simp <;> omega
theorem told_len (bond : Nat → Nat → Int) (n : Nat) : ∀ a, (told bond n a).length ≤ a * n
  | 0 => by simp [told]
  | a + 1 => by
    have h1 := told_len bond n a
    have h2 := cutL_len bond a (List.range n)
    rw [told_succ, List.length_append, Nat.succ_mul]
    simp at h2; omega
theorem drop_range {n b : Nat} (h : b < n) : (List.range n).drop b = b :: (List.range n).drop (b + 1) := by
  rw [List.drop_eq_getElem_cons (by simpa using h)]; simp
structure PairsIn (w : World) (a : Option Addr) (c : Nat) (ps : List (Nat × Nat)) : Prop where
  rows : RowsIn w a 2 (ps.map pv)
  le : ps.length ≤ c
  max : c ≤ 9223372036854775807
def Enters (F : FuncId) : Prop := ∀ args w, (callFunc F args).run Tryz.prog w = .ok (.enter F args) w
def Makes (w : World) (x : X) (F : FuncId) (bond : Nat → Nat → Int) : Prop :=
  ∀ W, XIn W x → Calls Tryz.prog F #[exV x] W fun e w' => ∃ (G : FuncId) (caps : Array Value), e = .returned (.func (.func G) #[] caps) ∧ Enters G ∧ Below W.heap.size W w' ∧
    ∀ W2, Below w'.heap.size w' W2 → ∀ a b, a < x.ev.length → b < x.ev.length → Calls Tryz.prog G (#[.int .i64 (a : Int), .int .i64 (b : Int)] ++ caps) W2 fun e w'' => e = .returned (.int .i64 (bond a b)) ∧ Below W2.heap.size W2 w''
theorem pv_one (p : Nat × Nat) : ∀ u ∈ pv p, u.oneCell' = true := by
  intro u hu; simp [pv] at hu; rcases hu with rfl | rfl <;> rfl
theorem row_below {w w' : World} {base : Nat} {e : TypeId} {size n : Nat} {v : Value} {xs : List Value} (h : w.ownsRow base e size v n xs) (hb : Below w.heap.size w w') : w'.ownsRow base e size v n xs :=
  h.kept (World.grownBy.but_of hb) (by by_cases h : v.ownBlock = none; exact .inl h; exact .inr h)
theorem pv_flat (ps : List (Nat × Nat)) : ∀ (j : Nat) (p : Nat × Nat) (i : Nat) (c : Value), ps[j]? = some p → (pv p)[i]? = some c → (ps.flatMap pv)[j * 2 + i]? = some c := by
  induction ps with
  | nil => intro j p i c h; simp at h
  | cons q r ih =>
    intro j p i c hj hi
    have hil : i < 2 := by have := (List.getElem?_eq_some_iff.1 hi).1; simpa [pv] using this
    cases j with
    | zero =>
      cases Option.some.inj hj
      rw [List.flatMap_cons, List.getElem?_append_left (by simp [pv]; omega)]
      simpa using hi
    | succ j =>
      have h2 := ih j p i c (by simpa using hj) hi
      rw [List.flatMap_cons, List.getElem?_append_right (by simp [pv]; omega)]
      have e : (j + 1) * 2 + i - (pv q).length = j * 2 + i := by simp [pv]; omega
      rw [e]; exact h2
theorem own_ge {w : World} {base : Nat} {e : TypeId} {size n : Nat} {v : Value} {xs : List Value} (h : w.ownsRow base e size v n xs) {k : Nat} (hk : v.ownBlock = some k) : base ≤ k := by
  rcases h.2 with ⟨rfl, _⟩ | ⟨g, cap, cur, rfl, hb, _⟩
  · cases hk
  · have : g = k := by simpa [Value.ownBlock] using hk
    omega
theorem pairs_of_row {w : World} {base : Nat} {e : TypeId} {v : Value} {ps : List (Nat × Nat)} (h : w.ownsRow base e 2 v ps.length (ps.flatMap pv)) : ∃ a c, v = .slice a ps.length c ∧ PairsIn w a c ps := by
  rcases h.2 with ⟨rfl, hn⟩ | ⟨g, cap, cur, rfl, _, hh, hnc, hcm, _, ht⟩
  · refine ⟨none, 0, by rw [hn], ⟨fun hp => ?_, by omega, by omega⟩⟩
    simp at hp; omega
  · refine ⟨some ⟨g, 0, none⟩, cap, rfl, ⟨fun _ => ⟨g, 0, rfl, fun j v hv i c hi => ?_⟩, hnc, by unfold maxLen at hcm; exact hcm⟩⟩
    rw [List.getElem?_map] at hv
    cases hj : ps[j]? with
    | none => rw [hj] at hv; cases hv
    | some p =>
      rw [hj] at hv
      have hvp : pv p = v := by simpa using hv
      subst hvp
      have h1 := pv_flat ps j p i c hj hi
      rw [← ht, List.getElem?_take] at h1
      split at h1
      · rw [cell_of_row w g _ cur e (0, 0) hh]
        simpa using h1
      · cases h1
end Ev
set_option maxRecDepth 100000 in
theorem info_pair : ∃ i, Tryz.prog.info? 72 = some i ∧ i.zero = some (.agg #[.int .i64 0, .int .i64 0]) ∧ i.size = 2 ∧ i.bytes = 16 := ⟨_, rfl, by kernel_rfl, by kernel_rfl, by kernel_rfl⟩
theorem check_is {x : Ev.X} {v : Int} (h : Ev.check x = v) (w : World) (hin : Ev.XIn w x) : Calls Tryz.prog 47 #[.agg (Ev.xcells x).toArray] w fun e w' => e = .returned (.int .i64 v) ∧ Below w.heap.size w w' := h ▸ check_any x w hin
set_option maxRecDepth 100000 in
set_option maxHeartbeats 8000000 in
theorem pairs_yes (x : Ev.X) (F : FuncId) (bond : Nat → Nat → Int) (w : World) (hin : Ev.XIn w x) (hc : Ev.check x = 0) (hcf : Ev.Enters F) (hF : Ev.Makes w x F bond) :
    Calls Tryz.prog 83 #[Ev.exV x, .func (.func F) #[] #[]] w fun e w' => ∃ a c, e = .returned (.slice a (Ev.told bond x.ev.length x.ev.length).length c) ∧ Ev.PairsIn w' a c (Ev.told bond x.ev.length x.ev.length) ∧ Below w.heap.size w w' := by
  have HIN := Lib.hid hin; have HV := Lib.hid hc; have HF := Lib.hid hF
  have hn64 : x.ev.length ≤ 64 := by
    apply Classical.byContradiction; intro h; unfold Ev.check at hc; rw [if_pos (by omega)] at hc; cases hc
  have hle := hin.ev.le; have hmax := hin.ev.max
  have HCF := Lib.hid hcf
  clear hin hc hF hcf
  have R0 := Lib.hid (heap_alloc_new w (.cells (Ev.xcells x).toArray 26))
  have B0 := Lib.hid ((Below.refl w.heap.size w).alloc (Nat.le_refl _) (.cells (Ev.xcells x).toArray 26))
  obtain ⟨n, hn⟩ : ∃ n, n = x.ev.length := ⟨_, rfl⟩
  have HN := Lib.hid hn
  rw [← hn] at hn64 hle ⊢
  clear hn
  unfold Ev.exV Ev.xcells
  go_enter Tryz.func83, Tryz.ntmps83
  go_wp2
  try go_step3
  go_wp2_with (show wpList _ _ _ (Oper.mk (some 9) _ _ _ _ _ :: _) _ _; refine wpList_load_row rfl 26 (.tmp 2) rfl w.heap.size (by kernel_rfl) 26 (Ev.xcells x).toArray (0, 0) _ R0.out Tryz.underlying26 rfl (by kernel_rfl) ?_)
  refine (check_is HV.out _ (HIN.out.kp (Ev.kp_below B0.out))).mono ?_
  rintro e W1 ⟨rfl, hb⟩
  have R1 := Lib.hid ((hb.block w.heap.size (by simp only [World.size_alloc]; omega)).trans R0.out)
  have B1 := Lib.hid (B0.out.trans (hb.mono (by simp only [World.size_alloc]; omega))); clear hb
  have hcf := HCF.out
  unfold Ev.Enters at hcf
  go_wp2_with (show wpList _ _ _ (Oper.mk (some 13) _ _ _ _ _ :: _) _ _; refine wpList_load_row rfl 26 (.tmp 2) rfl w.heap.size (by kernel_rfl) 26 (Ev.xcells x).toArray (0, 0) _ R1.out Tryz.underlying26 rfl (by kernel_rfl) ?_)
  clear hcf
  refine (HF.out W1 (HIN.out.kp (Ev.kp_below B1.out))).mono ?_
  rintro e W2 ⟨G, caps, rfl, hge, hb, hG⟩
  have HGE := Lib.hid hge; clear hge
  have R2 := Lib.hid ((hb.block w.heap.size (Array.getElem?_eq_some_iff.1 R1.out).1).trans R1.out)
  have B2 := Lib.hid (B1.out.trans (hb.mono B1.out.size)); have HG := Lib.hid hG; clear hb hG
  have c0 : ∀ W, Below W2.heap.size W2 W → W.cell? ⟨w.heap.size, 0, none⟩ = some (.slice x.ae (n : Nat) x.ce) := fun W h => by
    rw [cell_of_row _ _ _ _ _ _ ((h.block w.heap.size (Array.getElem?_eq_some_iff.1 R2.out).1).trans R2.out), HN.out]; rfl
  have C0 := Lib.hid c0
  have c00 := c0 W2 (Below.refl _ _)
  clear c0
  obtain ⟨i0, hi, hz0, hz1, hz2⟩ := info_pair
  have HI := Lib.hid hi; have HZ0 := Lib.hid hz0; have HZ1 := Lib.hid hz1; have HZ2 := Lib.hid hz2; clear hi hz0 hz1 hz2
  go_wp2
  go_step3
  go_wp2
  clear c00
  go_loopw [6, 7, 8, 18] (fun v _ _ i wr => ∃ a : Nat, a ≤ n ∧ i = .int .i64 (a : Int) ∧ wr.ownsRow W2.heap.size 72 2 v (Ev.told bond n a).length ((Ev.told bond n a).flatMap Ev.pv) ∧ Below W2.heap.size W2 wr) (fun _ _ _ i _ => n - (intOf i).toNat)
  case atStart => exact ⟨0, Nat.zero_le _, rfl, World.ownsRow_nil _ _ _ _, Below.refl _ _⟩
  case round =>
    obtain ⟨a, ha, rfl, hrow, hbr⟩ := hrel
    have HROW := Lib.hid hrow; have HBR := Lib.hid hbr
    have c0 := C0.out _ hbr
    clear hrow hbr
    by_cases hlt : a < n
    · have hai : (a : Int) < (n : Int) := by omega
      go_wp2
      clear c0
      go_loopw [6, 8, 24] (fun v _ j w3 => ∃ (b : Nat) (ps : List (Nat × Nat)), b ≤ n ∧ j = .int .i64 (b : Int) ∧ ps.length ≤ b ∧ Ev.cutL bond a (List.range n) = ps ++ Ev.cutL bond a ((List.range n).drop b) ∧ w3.ownsRow W2.heap.size 72 2 v (Ev.told bond n a ++ ps).length ((Ev.told bond n a ++ ps).flatMap Ev.pv) ∧ Below W2.heap.size W2 w3) (fun _ _ j _ => n - (intOf j).toNat)
      case atStart => exact ⟨0, [], Nat.zero_le _, rfl, Nat.le_refl _, by simp, by simpa using HROW.out, HBR.out⟩
      case round =>
        obtain ⟨b, ps, hb, rfl, hpl, hcut, hrow3, hb3⟩ := hrel
        have HR3 := Lib.hid hrow3; have HB3 := Lib.hid hb3; have HCUT := Lib.hid hcut
        clear hrow3 hb3 hcut
        by_cases hbl : b < n
        · have hbi : (b : Int) < (n : Int) := by omega
          have hd := Ev.drop_range hbl
          have HD := Lib.hid hd; clear hd
          have hge := HGE.out
          unfold Ev.Enters at hge
          go_wp2_with fail
          clear hge
          refine (HG.out _ HB3.out a b (by rw [← HN.out]; exact hlt) (by rw [← HN.out]; exact hbl)).mono ?_
          rintro e W4 ⟨rfl, hb4⟩
          have HB4 := Lib.hid (HB3.out.trans (hb4.mono HB3.out.size))
          have HR4 := Lib.hid (Ev.row_below HR3.out hb4)
          clear hb4
          obtain ⟨t, ht⟩ : ∃ t, bond a b = t := ⟨_, rfl⟩
          have HT := Lib.hid ht
          rw [ht]; clear ht
          by_cases h1 : t = 1
          · subst h1
            have HCUT2 := Lib.hid (show Ev.cutL bond a (List.range n) = (ps ++ [(a, b)]) ++ Ev.cutL bond a ((List.range n).drop (b + 1)) by
              rw [HCUT.out, HD.out, List.append_assoc]; congr 1; simp only [Ev.cutL]; rw [HT.out]; simp)
            have htl := Ev.told_len bond n a
            have hmul : a * n ≤ 64 * 64 := Nat.mul_le_mul (by omega) hn64
            have hlen : (Ev.told bond n a ++ ps).length ≤ 4160 := by rw [List.length_append]; omega
            clear htl hmul
            go_wp2_with (show wpList _ _ _ (Oper.mk (some 38) _ _ _ _ _ :: _) _ _; refine wpList_append_own _ rfl (.tmp 33) (.tmp 37) 37 rfl W2.heap.size 72 i0 (.agg #[.int .i64 0, .int .i64 0]) 2 16 Tryz.underlying37 HI.out HZ0.out HZ1.out HZ2.out rfl (by decide) _ _ _ rfl (HR4.out.alloc _) ⟨W4.heap.size, 0, none⟩ 1 1 (Ev.pv (a, b)) rfl rfl (fun j u hu => World.news_of_block (heap_alloc_new W4 _) j u hu) (Ev.pv_one _) (by unfold maxLen; omega) (by omega) (by have := HB4.out.size; simp only [World.size_alloc]; omega) ?_
                         intro v' w5 hown hgrow _
                         have HOWN := Lib.hid hown; have HGR := Lib.hid hgrow; clear hown hgrow)
            have HB5 := Lib.hid (Below.grown (HB4.out.alloc HB4.out.size _) HGR.out (by have := HB4.out.size; simp only [World.size_alloc]; omega) (fun k hk => Ev.own_ge HR4.out hk))
            go_roundw
            case rel =>
              refine ⟨b + 1, ps ++ [(a, b)], by omega, by go_num, by simp; omega, HCUT2.out, ?_, HB5.out⟩
              have := HOWN.out
              rw [← List.append_assoc, List.length_append, List.flatMap_append]
              simpa using this
            case measure => simp [intOf]; omega
          by_cases h2 : t = 2
          · subst h2
            have HTOLD := Lib.hid (show Ev.told bond n (a + 1) = Ev.told bond n a ++ ps by
              rw [Ev.told_succ, HCUT.out, HD.out]; simp only [Ev.cutL]; rw [HT.out]; simp)
            have q1 : ((2 : Int) == 1) = false := by decide
            go_wp2_with fail
            go_roundw
            case rel => exact ⟨a + 1, by omega, by go_num, by rw [HTOLD.out]; exact HR4.out, HB4.out⟩
            case measure => simp [intOf]; omega
          have q1 : (t == 1) = false := by simpa using h1
          have q2 : (t == 2) = false := by simpa using h2
          have HCUT2 := Lib.hid (show Ev.cutL bond a (List.range n) = ps ++ Ev.cutL bond a ((List.range n).drop (b + 1)) by
            rw [HCUT.out, HD.out]; congr 1; simp only [Ev.cutL]; rw [HT.out, if_neg h2, if_neg h1])
          clear h1 h2
          go_wp2_with fail
          go_roundw
          case rel => exact ⟨b + 1, ps, by omega, by go_num, by omega, HCUT2.out, HR4.out, HB4.out⟩
          case measure => simp [intOf]; omega
        · have hbn : b = n := by omega
          have HTOLD := Lib.hid (show Ev.told bond n (a + 1) = Ev.told bond n a ++ ps by
            rw [Ev.told_succ, HCUT.out, hbn, List.drop_eq_nil_of_le (by simp)]; simp [Ev.cutL])
          have hbi : ¬ (b : Int) < (n : Int) := by omega
          clear hbn
          go_wp2_with fail
          go_roundw
          case rel => exact ⟨a + 1, by omega, by go_num, by rw [HTOLD.out]; exact HR3.out, HB3.out⟩
          case measure => simp [intOf]; omega
    · have han : a = n := by omega
      have hai : ¬ (a : Int) < (n : Int) := by omega
      have hrow := HROW.out
      rw [han] at hrow
      obtain ⟨A, c, hv, hp⟩ := Ev.pairs_of_row hrow
      have HP := Lib.hid hp
      subst hv
      clear hrow hp han c0
      go_wp2
      try rw [Exit.noGoto_ret]
      go_ret
      exact ⟨A, c, rfl, HP.out, B2.out.trans (HBR.out.mono B2.out.size)⟩
end Go.Proofs.YtecnnkidalkmfaaGreat
end
