import Derived.Test.YtnjnpbabgefaeaaGreatKg27
import Derived.Test.YtnjnpbabgefaeaaGreatKg19
import Derived.Test.YtnjnpbabgefaeaaGreatKg06
set_option linter.unusedVariables false
set_option linter.unusedSimpArgs false

section
namespace Go.Proofs.YtnjnpbabgefaeaaGreat
open Go.RowKit
namespace Ev
theorem cut_row {bond : Nat → Nat → Int} {is : Nat → Nat → Bool} {a : Nat} : ∀ {n s : Nat}, (∀ b, b < s + n → (bond a b = 1 ↔ is a b = true)) → (∀ b, b < s + n → bond a b = 2 → ∀ c, b ≤ c → c < s + n → is a c = false) →
    cutL bond a (List.range' s n) = rowL is a (List.range' s n)
  | 0, s, _, _ => rfl
  | n + 1, s, h1, h2 => by
    have ih := cut_row (bond := bond) (is := is) (a := a) (n := n) (s := s + 1) (fun b hb => h1 b (by omega)) (fun b hb h c hc hc2 => h2 b (by omega) h c hc (by omega))
    have e : rowL is a (List.range' s (n + 1)) = (if is a s then [(a, s)] else []) ++ rowL is a (List.range' (s + 1) n) := by
      unfold rowL
      rw [List.range'_succ, List.filter_cons]
      cases h : is a s <;> simp
    rw [e, List.range'_succ]
    unfold cutL
    by_cases hb2 : bond a s = 2
    · rw [if_pos hb2]
      have hall : ∀ c ∈ s :: List.range' (s + 1) n, is a c = false := fun c hc => by
        rw [List.mem_cons, List.mem_range'_1] at hc
        rcases hc with rfl | hc
        · exact h2 c (by omega) hb2 c (Nat.le_refl _) (by omega)
        · exact h2 s (by omega) hb2 c (by omega) (by omega)
      rw [hall s List.mem_cons_self]
      have : rowL is a (List.range' (s + 1) n) = [] := by
        unfold rowL
        rw [List.filter_eq_nil_iff.2 (fun c hc => by rw [hall c (List.mem_cons_of_mem _ hc)]; simp)]
        rfl
      rw [this]; simp
    · rw [if_neg hb2]
      by_cases hb1 : bond a s = 1
      · rw [if_pos hb1, (h1 s (by omega)).1 hb1, ih]; simp
      · rw [if_neg hb1, ih]
        have : is a s = false := by
          cases h : is a s
          · rfl
          · exact absurd ((h1 s (by omega)).2 h) hb1
        rw [this]; simp
theorem told_pl {bond : Nat → Nat → Int} {is : Nat → Nat → Bool} {n : Nat} (h1 : ∀ a b, a < n → b < n → (bond a b = 1 ↔ is a b = true)) (h2 : ∀ a b, a < n → b < n → bond a b = 2 → ∀ c, b ≤ c → c < n → is a c = false) :
    told bond n n = pl is n n := by
  unfold told pl
  have : ∀ l : List Nat, (∀ a ∈ l, a < n) → (l.flatMap fun i => cutL bond i (List.range n)) = l.flatMap fun i => rowL is i (List.range n) := by
    intro l
    induction l with
    | nil => intro _; rfl
    | cons a l ih =>
      intro hl
      have ha := hl a List.mem_cons_self
      rw [List.flatMap_cons, List.flatMap_cons, ih (fun b hb => hl b (List.mem_cons_of_mem _ hb))]
      congr 1
      rw [List.range_eq_range']
      exact cut_row (fun b hb => h1 a b ha (by omega)) (fun b hb h c hc hc2 => h2 a b ha (by omega) h c hc (by omega))
  exact this _ (fun a ha => List.mem_range.1 ha)
theorem ev_all {x : X} (h : check x = 0) : evsOk x.ev = true := by
  unfold check at h
  split at h
  · cases h
  split at h
  · cases h
  · rename_i h2; simpa using h2
theorem at_parts {xs : List R} (h : evsOk xs = true) {i : Nat} (hi : i < xs.length) : partsOk (nth xs i) = true ∧ (i = 0 ∨ follow (nth xs ((i : Int) - 1)) (nth xs i) = true) := by
  have := evs_all h i hi
  unfold evAt at this
  simp only [Bool.and_eq_true, Bool.or_eq_true, beq_iff_eq] at this
  exact ⟨this.1.1, this.2⟩
theorem hart5 {xs : List R} (h : evsOk xs = true) {i : Nat} (hi : i < xs.length) : (nth xs i).k = 5 ↔ (nth xs i).h < 0 := by
  have hp := (at_parts h hi).1
  rw [parts_bare] at hp
  simp only [Bool.and_eq_true, Bool.or_eq_true, beq_iff_eq] at hp
  constructor
  · intro h5
    have := bare_five hp.1.1 h5
    omega
  · intro hh
    rcases hp.1.2 with h5 | hb
    · exact h5
    · unfold inB at hb; simp at hb; omega
theorem hart_up {xs : List R} (h : evsOk xs = true) : ∀ (d i : Nat), i + d < xs.length → (nth xs i).h ≤ (nth xs (i + d : Nat)).h := by
  intro d
  induction d with
  | zero => intro i _; exact Int.le_refl _
  | succ d ih =>
    intro i hi
    have h1 := ih i (by omega)
    have h2 := (at_parts h (show i + (d + 1) < xs.length from hi)).2.resolve_left (by omega)
    rw [show ((i + (d + 1) : Nat) : Int) - 1 = ((i + d : Nat) : Int) by omega] at h2
    have h3 : (nth xs (i + d : Nat)).h ≤ (nth xs (i + (d + 1) : Nat)).h := by
      unfold follow at h2
      split at h2
      · rename_i hk
        have a := (at_parts h (show i + d < xs.length by omega)).1
        have b := (at_parts h hi).1
        rw [parts_bare] at a b
        simp only [Bool.and_eq_true] at a b
        rw [bare_five a.1.1 hk.2, bare_five b.1.1 hk.1]
        exact Int.le_refl _
      · exact of_decide_eq_true h2
    exact Int.le_trans h1 h3
theorem po_eq {x : X} (hc : check x = 0) : told (bondPo x) x.ev.length x.ev.length = pl (isPo x) x.ev.length x.ev.length := by
  have he := ev_all hc
  have up : ∀ a b : Nat, a ≤ b → b < x.ev.length → (nth x.ev a).h ≤ (nth x.ev b).h := fun a b hab hb => by
    have := hart_up he (b - a) a (by omega)
    rwa [show a + (b - a) = b by omega] at this
  refine told_pl (fun a b ha hb => ?_) (fun a b ha hb h2 c hbc hcn => ?_)
  · have h5 := hart5 he ha
    unfold bondPo isPo bnd
    simp only [Bool.and_eq_true, decide_eq_true_eq, beq_iff_eq]
    by_cases h : (nth x.ev (a : Int)).k = 5 ∨ (nth x.ev (a : Int)).h < (nth x.ev (b : Int)).h
    · rw [if_pos h]
      constructor
      · intro hh; omega
      · rintro ⟨⟨h1, h2⟩, h3⟩
        rcases h with h | h
        · have := h5.1 h; omega
        · omega
    · rw [if_neg h]
      have hh : ¬ (nth x.ev (a : Int)).h < 0 := fun e => h (.inl (h5.2 e))
      have hh2 : ¬ (nth x.ev (a : Int)).h < (nth x.ev (b : Int)).h := fun e => h (.inr e)
      constructor
      · intro hq
        have hab : a < b := by
          apply Classical.byContradiction
          intro hn
          rw [if_neg (by simp; omega)] at hq
          omega
        have := up a b (by omega) hb
        exact ⟨⟨hab, by omega⟩, by omega⟩
      · rintro ⟨⟨h1, h2⟩, h3⟩
        rw [if_pos (by simp; omega)]
  · have h5 := hart5 he ha
    unfold bondPo bnd at h2
    unfold isPo
    by_cases h : (nth x.ev (a : Int)).k = 5 ∨ (nth x.ev (a : Int)).h < (nth x.ev (b : Int)).h
    · have := up b c hbc hcn
      rcases h with h | h
      · have := h5.1 h
        simp only [Bool.and_eq_false_iff, decide_eq_false_iff_not]
        left; right; omega
      · simp only [Bool.and_eq_false_iff, decide_eq_false_iff_not, beq_eq_false_iff_ne]
        right; omega
    · rw [if_neg h] at h2
      split at h2 <;> omega
theorem rf_eq {x : X} (hc : check x = 0) : told (bondRf x) x.ev.length x.ev.length = pl (isRf x) x.ev.length x.ev.length := by
  obtain ⟨_, hf, _⟩ := check_order hc
  have hfl : x.fr.l.length = x.ev.length := check_from hc
  have hone : ∀ b, b < x.ev.length → fromAt x.ev x.fr.l b = true := by
    unfold fromOk at hf
    simp only [Bool.and_eq_true, List.all_eq_true] at hf
    exact fun b hb => hf.2 b (List.mem_range.2 hb)
  have key : ∀ a b : Nat, b < x.ev.length → frAt x b = (a : Int) → loads (nth x.ev b).k = true ∧ stores (nth x.ev a).k = true := fun a b hb he => by
    have h := hone b hb
    unfold fromAt at h
    have e2 : x.fr.l.getD b 0 = (a : Int) := he
    rw [e2] at h
    split at h
    · rename_i hl
      unfold readOk at h
      simp only [Bool.and_eq_true] at h
      exact ⟨hl, h.1.1.2⟩
    · simp only [beq_iff_eq] at h
      omega
  refine told_pl (fun a b ha hb => ?_) (fun a b ha hb h2 c hbc hcn => ?_)
  · unfold bondRf isRf bnd
    simp only [Bool.and_eq_true, beq_iff_eq]
    constructor
    · intro h
      split at h
      · omega
      · split at h
        · rename_i hq
          exact ⟨(key a b hb hq).1, hq⟩
        · omega
    · rintro ⟨h1, h2⟩
      rw [if_neg (by rw [(key a b hb h2).2]; simp), if_pos h2]
  · unfold bondRf bnd at h2
    split at h2
    · rename_i hs
      unfold isRf
      rw [Bool.and_eq_false_iff]
      right
      rw [beq_eq_false_iff_ne]
      intro e
      rw [(key a c hcn e).2] at hs
      cases hs
    · split at h2 <;> omega
end Ev
end Go.Proofs.YtnjnpbabgefaeaaGreat
end

section
namespace Go.Proofs.YtnjnpbabgefaeaaGreat
open Go.RowKit
set_option maxRecDepth 100000 in
set_option maxHeartbeats 4000000 in
theorem rule_5 (x : Ev.X) (a b : Nat) (ha : a < x.ev.length) (hb : b < x.ev.length) (hpo : Ev.isPo x a b = true) (hk1 : (Ev.nth x.ev a).k ≠ 4) (hk2 : (Ev.nth x.ev b).k ≠ 4) (w : World) (hin : Ev.XIn w x) :
    Calls Tryz.prog 65 #[Ev.exV x, .int .i64 5, .int .i64 (a : Int), .int .i64 (b : Int)] w fun e w' => e = .returned (.bool (Ev.ruleOf x 5 a b)) ∧ Below w.heap.size w w' := by
  have hl1 := hin.ev.le; have hl2 := hin.ev.max
  obtain ⟨B, hB⟩ : ∃ B, B = w.alloc (Obj.cells (Ev.xcells x).toArray 26) := ⟨_, rfl⟩
  have HB := Lib.hid hB
  have B0 := Lib.hid (show Below w.heap.size w B by rw [hB]; exact (Below.refl w.heap.size w).alloc (Nat.le_refl _) _)
  have HX := Lib.hid (show Ev.XIn B x from hin.kp (Ev.kp_below B0.out))
  have RX := Lib.hid (show B.heap[w.heap.size]? = some (.cells (Ev.xcells x).toArray 26 (0, 0)) by rw [hB]; exact heap_alloc_new _ _)
  obtain ⟨e, he⟩ : ∃ e, x.ev[a]? = some e := ⟨_, List.getElem?_eq_getElem ha⟩
  obtain ⟨f, hf⟩ : ∃ f, x.ev[b]? = some f := ⟨_, List.getElem?_eq_getElem hb⟩
  obtain ⟨g, o, eg, hce⟩ := HX.out.ev.at_ he
  obtain ⟨g', o', eg', hcf⟩ := HX.out.ev.at_ hf
  obtain ⟨rfl, rfl⟩ : g' = g ∧ o' = o := by rw [eg] at eg'; cases eg'; exact ⟨rfl, rfl⟩
  have HEO := Lib.hid (HX.out.ev.ok_ he); have HFO := Lib.hid (HX.out.ev.ok_ hf)
  have HE := Lib.hid (Ev.nth_some he); have HF := Lib.hid (Ev.nth_some hf)
  have HCE := Lib.hid hce; have HCF := Lib.hid hcf
  have hai : (a : Int) < (x.ev.length : Int) := by omega
  have hbi : (b : Int) < (x.ev.length : Int) := by omega
  have CX := Lib.hid (show ∀ W, Below B.heap.size B W → W.cell? ⟨w.heap.size, 0, none⟩ = some (.slice (some ⟨g', o', none⟩) x.ev.length x.ce) from fun W h => by
    rw [← eg]; exact Ev.xcell0 ((h.block w.heap.size (Array.getElem?_eq_some_iff.1 RX.out).1).trans RX.out))
  clear hin hB he hf eg eg' hce hcf
  have HPO := Lib.hid hpo
  rw [HE.out] at hk1; rw [HF.out] at hk2
  have t1 : (e.k == 4) = false := by simpa using hk1
  have t2 : (f.k == 4) = false := by simpa using hk2
  clear hpo hk1 hk2
  obtain ⟨bx0⟩ : Nonempty (B.cell? ⟨w.heap.size, 0, none⟩ = some (.slice (some ⟨g', o', none⟩) x.ev.length x.ce)) := ⟨CX.out B (Below.refl _ _)⟩
  unfold Ev.exV Ev.xcells
  go_enter Tryz.func65, Tryz.ntmps65
  go_wp2_with (first
    | ((with_reducible show wpList _ _ _ (Oper.mk (some 16) _ _ _ _ _ :: _) _ _); (try rw [show w.alloc (Obj.cells #[Value.slice x.ae x.ev.length x.ce, Value.slice x.fr.a x.fr.l.length x.fr.c, Value.slice x.ao x.od.length x.co] 26) = B from HB.out.symm]); refine wpList_load_row rfl 26 (.tmp 4) rfl w.heap.size (by kernel_rfl) 26 (Ev.xcells x).toArray (0, 0) _ RX.out Tryz.underlying26 rfl (by kernel_rfl) ?_))
  refine (rpo_is HPO.out ha hb _ HX.out).mono ?_
  rintro q W1 ⟨rfl, hb1⟩
  have B1 := Lib.hid hb1
  have cx := CX.out W1 hb1
  have cek : W1.cell? ⟨g', o' + a * 13 + 1, none⟩ = some (.int .i64 e.k) := Ev.kp_below hb1 _ _ (HCE.out 1 _ rfl)
  have cfk : W1.cell? ⟨g', o' + b * 13 + 1, none⟩ = some (.int .i64 f.k) := Ev.kp_below hb1 _ _ (HCF.out 1 _ rfl)
  clear hb1 bx0
  go_wp2_with fail
  clear cek cfk
  have LA := Lib.hid (fun (z : World) (hz : Og.Std W1 z) => Ev.ld (w := z) (g := g') (o := o' + a * 13) (x := e) (fun i c hi => Og.std_cell hz (Ev.kp_below B1.out _ _ (HCE.out i c hi))))
  have LF := Lib.hid (fun (z : World) (hz : Og.Std W1 z) => Ev.ld (w := z) (g := g') (o := o' + b * 13) (x := f) (fun i c hi => Og.std_cell hz (Ev.kp_below B1.out _ _ (HCF.out i c hi))))
  refine wp_region_held (S := Og.Std W1) (by kernel_rfl) ?_
  have S0 : Og.Std W1 { W1 with drawn := W1.drawn + 1 } := ⟨rfl, rfl, rfl, Nat.le_refl _, fun _ _ => rfl⟩
  refine Og.held_take 0 _ (.pointer (some ⟨w.heap.size, 0, none⟩)) _ rfl rfl (by kernel_rfl) (by kernel_rfl) (by kernel_rfl) (fun _ _ _ h => h) S0 (fun z hz => ?_) (by simp only [Act.put, List.setIfInBounds_toArray, List.set_cons_zero, List.set_cons_succ]; rfl) ?_
  · go_simp; try (with_reducible rfl)
  refine Og.held_take 1 _ (.slice (some ⟨g', o', none⟩) x.ev.length x.ce) _ rfl rfl (by kernel_rfl) (by kernel_rfl) (by kernel_rfl) (fun _ _ _ h => h) S0 (fun z hz => ?_) (by simp only [Act.put, List.setIfInBounds_toArray, List.set_cons_zero, List.set_cons_succ]; rfl) ?_
  · exact Og.load_run 22 (.tmp 39) rfl ⟨w.heap.size, 0, none⟩ (by kernel_rfl) (run_load_slice Tryz.underlying22 (Og.std_cell hz cx))
  refine Og.held_take 2 _ (.int .i64 (a : Int)) _ rfl rfl (by kernel_rfl) (by kernel_rfl) (by kernel_rfl) (fun _ _ _ h => h) S0 (fun z hz => ?_) (by simp only [Act.put, List.setIfInBounds_toArray, List.set_cons_zero, List.set_cons_succ]; rfl) ?_
  · go_simp; try (with_reducible rfl)
  refine Og.held_take 3 _ (.pointer (some ⟨g', o' + a * 13, none⟩)) _ rfl rfl (by kernel_rfl) (by kernel_rfl) (by kernel_rfl) (fun _ _ _ h => h) S0 (fun z hz => ?_) (by simp only [Act.put, List.setIfInBounds_toArray, List.set_cons_zero, List.set_cons_succ]; rfl) ?_
  · go_simp; try (with_reducible rfl)
  refine Og.held_take 4 _ (.agg (Ev.cells e).toArray) _ rfl rfl (by kernel_rfl) (by kernel_rfl) (by kernel_rfl) (fun _ _ _ h => h) S0 (fun z hz => ?_) (by simp only [Act.put, List.setIfInBounds_toArray, List.set_cons_zero, List.set_cons_succ]; rfl) ?_
  · exact Og.load_run 48 (.tmp 42) rfl ⟨g', o' + a * 13, none⟩ (by kernel_rfl) (LA.out z hz)
  refine Og.held_take 5 _ (.pointer (some ⟨w.heap.size, 0, none⟩)) _ rfl rfl (by kernel_rfl) (by kernel_rfl) (by kernel_rfl) (fun _ _ _ h => h) S0 (fun z hz => ?_) (by simp only [Act.put, List.setIfInBounds_toArray, List.set_cons_zero, List.set_cons_succ]; rfl) ?_
  · go_simp; try (with_reducible rfl)
  refine Og.held_take 6 _ (.slice (some ⟨g', o', none⟩) x.ev.length x.ce) _ rfl rfl (by kernel_rfl) (by kernel_rfl) (by kernel_rfl) (fun _ _ _ h => h) S0 (fun z hz => ?_) (by simp only [Act.put, List.setIfInBounds_toArray, List.set_cons_zero, List.set_cons_succ]; rfl) ?_
  · exact Og.load_run 22 (.tmp 44) rfl ⟨w.heap.size, 0, none⟩ (by kernel_rfl) (run_load_slice Tryz.underlying22 (Og.std_cell hz cx))
  refine Og.held_take 7 _ (.int .i64 (b : Int)) _ rfl rfl (by kernel_rfl) (by kernel_rfl) (by kernel_rfl) (fun _ _ _ h => h) S0 (fun z hz => ?_) (by simp only [Act.put, List.setIfInBounds_toArray, List.set_cons_zero, List.set_cons_succ]; rfl) ?_
  · go_simp; try (with_reducible rfl)
  refine Og.held_take 8 _ (.pointer (some ⟨g', o' + b * 13, none⟩)) _ rfl rfl (by kernel_rfl) (by kernel_rfl) (by kernel_rfl) (fun _ _ _ h => h) S0 (fun z hz => ?_) (by simp only [Act.put, List.setIfInBounds_toArray, List.set_cons_zero, List.set_cons_succ]; rfl) ?_
  · go_simp; try (with_reducible rfl)
  refine Og.held_take 9 _ (.agg (Ev.cells f).toArray) _ rfl rfl (by kernel_rfl) (by kernel_rfl) (by kernel_rfl) (fun _ _ _ h => h) S0 (fun z hz => ?_) (by simp only [Act.put, List.setIfInBounds_toArray, List.set_cons_zero, List.set_cons_succ]; rfl) ?_
  · exact Og.load_run 48 (.tmp 47) rfl ⟨g', o' + b * 13, none⟩ (by kernel_rfl) (LF.out z hz)
  refine Og.four (p := 10) (q := 11) (s1 := 12) (s2 := 13) (dp := 9) (dq := 10) (x1 := 43) (x2 := 48) (T := 48) (Z := (Ev.cells Ev.R0).toArray) (c1 := (Ev.cells e).toArray) (c2 := (Ev.cells f).toArray)
    ⟨⟨_, rfl, rfl, rfl, fun ρ w => by kernel_rfl⟩, ⟨_, rfl, rfl, rfl, fun ρ w => by kernel_rfl⟩, ⟨_, rfl, rfl, rfl, rfl⟩, ⟨_, rfl, rfl, rfl, rfl⟩, (by kernel_rfl), (by kernel_rfl), (by kernel_rfl), (by kernel_rfl), (by kernel_rfl), (by kernel_rfl), (by kernel_rfl), (by kernel_rfl), (by kernel_rfl), (by kernel_rfl), (by kernel_rfl), of_decide_eq_true (by kernel_rfl), of_decide_eq_true (by kernel_rfl), (by decide), rfl, rfl, (by kernel_rfl), (by kernel_rfl), (by kernel_rfl), (by kernel_rfl)⟩ S0 ?_
  intro W g1 g2 HT
  simp only [Act.put, List.setIfInBounds_toArray, List.set_cons_zero, List.set_cons_succ]
  have R1 := Lib.hid HT.r1; have R2 := Lib.hid HT.r2; have BW := Lib.hid (B1.out.trans (HT.below.mono B1.out.size))
  clear HT S0 cx
  have c1a : W.cell? ⟨g1, 2, none⟩ = some (.int .u32 e.a) := by rw [cell_of_row _ _ _ _ _ _ R1.out]; rfl
  have c2a : W.cell? ⟨g2, 2, none⟩ = some (.int .u32 f.a) := by rw [cell_of_row _ _ _ _ _ _ R2.out]; rfl
  have HRES := Lib.hid (show Ev.ruleOf x 5 a b = e.q by unfold Ev.ruleOf; rw [HE.out, HF.out]; rfl)
  have c5 : W.cell? ⟨g1, 5, none⟩ = some (.bool e.q) := by rw [cell_of_row _ _ _ _ _ _ R1.out]; rfl
  go_wp2
  go_ret
  exact ⟨by rw [HRES.out]; try rfl, B0.out.trans ((BW.out).mono B0.out.size)⟩
set_option maxRecDepth 100000 in
set_option maxHeartbeats 4000000 in
theorem rule_6 (x : Ev.X) (a b : Nat) (ha : a < x.ev.length) (hb : b < x.ev.length) (hpo : Ev.isPo x a b = true) (hk1 : (Ev.nth x.ev a).k ≠ 4) (hk2 : (Ev.nth x.ev b).k ≠ 4) (w : World) (hin : Ev.XIn w x) :
    Calls Tryz.prog 65 #[Ev.exV x, .int .i64 6, .int .i64 (a : Int), .int .i64 (b : Int)] w fun e w' => e = .returned (.bool (Ev.ruleOf x 6 a b)) ∧ Below w.heap.size w w' := by
  have hl1 := hin.ev.le; have hl2 := hin.ev.max
  obtain ⟨B, hB⟩ : ∃ B, B = w.alloc (Obj.cells (Ev.xcells x).toArray 26) := ⟨_, rfl⟩
  have HB := Lib.hid hB
  have B0 := Lib.hid (show Below w.heap.size w B by rw [hB]; exact (Below.refl w.heap.size w).alloc (Nat.le_refl _) _)
  have HX := Lib.hid (show Ev.XIn B x from hin.kp (Ev.kp_below B0.out))
  have RX := Lib.hid (show B.heap[w.heap.size]? = some (.cells (Ev.xcells x).toArray 26 (0, 0)) by rw [hB]; exact heap_alloc_new _ _)
  obtain ⟨e, he⟩ : ∃ e, x.ev[a]? = some e := ⟨_, List.getElem?_eq_getElem ha⟩
  obtain ⟨f, hf⟩ : ∃ f, x.ev[b]? = some f := ⟨_, List.getElem?_eq_getElem hb⟩
  obtain ⟨g, o, eg, hce⟩ := HX.out.ev.at_ he
  obtain ⟨g', o', eg', hcf⟩ := HX.out.ev.at_ hf
  obtain ⟨rfl, rfl⟩ : g' = g ∧ o' = o := by rw [eg] at eg'; cases eg'; exact ⟨rfl, rfl⟩
  have HEO := Lib.hid (HX.out.ev.ok_ he); have HFO := Lib.hid (HX.out.ev.ok_ hf)
  have HE := Lib.hid (Ev.nth_some he); have HF := Lib.hid (Ev.nth_some hf)
  have HCE := Lib.hid hce; have HCF := Lib.hid hcf
  have hai : (a : Int) < (x.ev.length : Int) := by omega
  have hbi : (b : Int) < (x.ev.length : Int) := by omega
  have CX := Lib.hid (show ∀ W, Below B.heap.size B W → W.cell? ⟨w.heap.size, 0, none⟩ = some (.slice (some ⟨g', o', none⟩) x.ev.length x.ce) from fun W h => by
    rw [← eg]; exact Ev.xcell0 ((h.block w.heap.size (Array.getElem?_eq_some_iff.1 RX.out).1).trans RX.out))
  clear hin hB he hf eg eg' hce hcf
  have HPO := Lib.hid hpo
  rw [HE.out] at hk1; rw [HF.out] at hk2
  have t1 : (e.k == 4) = false := by simpa using hk1
  have t2 : (f.k == 4) = false := by simpa using hk2
  clear hpo hk1 hk2
  obtain ⟨bx0⟩ : Nonempty (B.cell? ⟨w.heap.size, 0, none⟩ = some (.slice (some ⟨g', o', none⟩) x.ev.length x.ce)) := ⟨CX.out B (Below.refl _ _)⟩
  unfold Ev.exV Ev.xcells
  go_enter Tryz.func65, Tryz.ntmps65
  go_wp2_with (first
    | ((with_reducible show wpList _ _ _ (Oper.mk (some 16) _ _ _ _ _ :: _) _ _); (try rw [show w.alloc (Obj.cells #[Value.slice x.ae x.ev.length x.ce, Value.slice x.fr.a x.fr.l.length x.fr.c, Value.slice x.ao x.od.length x.co] 26) = B from HB.out.symm]); refine wpList_load_row rfl 26 (.tmp 4) rfl w.heap.size (by kernel_rfl) 26 (Ev.xcells x).toArray (0, 0) _ RX.out Tryz.underlying26 rfl (by kernel_rfl) ?_))
  refine (rpo_is HPO.out ha hb _ HX.out).mono ?_
  rintro q W1 ⟨rfl, hb1⟩
  have B1 := Lib.hid hb1
  have cx := CX.out W1 hb1
  have cek : W1.cell? ⟨g', o' + a * 13 + 1, none⟩ = some (.int .i64 e.k) := Ev.kp_below hb1 _ _ (HCE.out 1 _ rfl)
  have cfk : W1.cell? ⟨g', o' + b * 13 + 1, none⟩ = some (.int .i64 f.k) := Ev.kp_below hb1 _ _ (HCF.out 1 _ rfl)
  clear hb1 bx0
  go_wp2_with fail
  clear cek cfk
  have LA := Lib.hid (fun (z : World) (hz : Og.Std W1 z) => Ev.ld (w := z) (g := g') (o := o' + a * 13) (x := e) (fun i c hi => Og.std_cell hz (Ev.kp_below B1.out _ _ (HCE.out i c hi))))
  have LF := Lib.hid (fun (z : World) (hz : Og.Std W1 z) => Ev.ld (w := z) (g := g') (o := o' + b * 13) (x := f) (fun i c hi => Og.std_cell hz (Ev.kp_below B1.out _ _ (HCF.out i c hi))))
  refine wp_region_held (S := Og.Std W1) (by kernel_rfl) ?_
  have S0 : Og.Std W1 { W1 with drawn := W1.drawn + 1 } := ⟨rfl, rfl, rfl, Nat.le_refl _, fun _ _ => rfl⟩
  refine Og.held_take 0 _ (.pointer (some ⟨w.heap.size, 0, none⟩)) _ rfl rfl (by kernel_rfl) (by kernel_rfl) (by kernel_rfl) (fun _ _ _ h => h) S0 (fun z hz => ?_) (by simp only [Act.put, List.setIfInBounds_toArray, List.set_cons_zero, List.set_cons_succ]; rfl) ?_
  · go_simp; try (with_reducible rfl)
  refine Og.held_take 1 _ (.slice (some ⟨g', o', none⟩) x.ev.length x.ce) _ rfl rfl (by kernel_rfl) (by kernel_rfl) (by kernel_rfl) (fun _ _ _ h => h) S0 (fun z hz => ?_) (by simp only [Act.put, List.setIfInBounds_toArray, List.set_cons_zero, List.set_cons_succ]; rfl) ?_
  · exact Og.load_run 22 (.tmp 39) rfl ⟨w.heap.size, 0, none⟩ (by kernel_rfl) (run_load_slice Tryz.underlying22 (Og.std_cell hz cx))
  refine Og.held_take 2 _ (.int .i64 (a : Int)) _ rfl rfl (by kernel_rfl) (by kernel_rfl) (by kernel_rfl) (fun _ _ _ h => h) S0 (fun z hz => ?_) (by simp only [Act.put, List.setIfInBounds_toArray, List.set_cons_zero, List.set_cons_succ]; rfl) ?_
  · go_simp; try (with_reducible rfl)
  refine Og.held_take 3 _ (.pointer (some ⟨g', o' + a * 13, none⟩)) _ rfl rfl (by kernel_rfl) (by kernel_rfl) (by kernel_rfl) (fun _ _ _ h => h) S0 (fun z hz => ?_) (by simp only [Act.put, List.setIfInBounds_toArray, List.set_cons_zero, List.set_cons_succ]; rfl) ?_
  · go_simp; try (with_reducible rfl)
  refine Og.held_take 4 _ (.agg (Ev.cells e).toArray) _ rfl rfl (by kernel_rfl) (by kernel_rfl) (by kernel_rfl) (fun _ _ _ h => h) S0 (fun z hz => ?_) (by simp only [Act.put, List.setIfInBounds_toArray, List.set_cons_zero, List.set_cons_succ]; rfl) ?_
  · exact Og.load_run 48 (.tmp 42) rfl ⟨g', o' + a * 13, none⟩ (by kernel_rfl) (LA.out z hz)
  refine Og.held_take 5 _ (.pointer (some ⟨w.heap.size, 0, none⟩)) _ rfl rfl (by kernel_rfl) (by kernel_rfl) (by kernel_rfl) (fun _ _ _ h => h) S0 (fun z hz => ?_) (by simp only [Act.put, List.setIfInBounds_toArray, List.set_cons_zero, List.set_cons_succ]; rfl) ?_
  · go_simp; try (with_reducible rfl)
  refine Og.held_take 6 _ (.slice (some ⟨g', o', none⟩) x.ev.length x.ce) _ rfl rfl (by kernel_rfl) (by kernel_rfl) (by kernel_rfl) (fun _ _ _ h => h) S0 (fun z hz => ?_) (by simp only [Act.put, List.setIfInBounds_toArray, List.set_cons_zero, List.set_cons_succ]; rfl) ?_
  · exact Og.load_run 22 (.tmp 44) rfl ⟨w.heap.size, 0, none⟩ (by kernel_rfl) (run_load_slice Tryz.underlying22 (Og.std_cell hz cx))
  refine Og.held_take 7 _ (.int .i64 (b : Int)) _ rfl rfl (by kernel_rfl) (by kernel_rfl) (by kernel_rfl) (fun _ _ _ h => h) S0 (fun z hz => ?_) (by simp only [Act.put, List.setIfInBounds_toArray, List.set_cons_zero, List.set_cons_succ]; rfl) ?_
  · go_simp; try (with_reducible rfl)
  refine Og.held_take 8 _ (.pointer (some ⟨g', o' + b * 13, none⟩)) _ rfl rfl (by kernel_rfl) (by kernel_rfl) (by kernel_rfl) (fun _ _ _ h => h) S0 (fun z hz => ?_) (by simp only [Act.put, List.setIfInBounds_toArray, List.set_cons_zero, List.set_cons_succ]; rfl) ?_
  · go_simp; try (with_reducible rfl)
  refine Og.held_take 9 _ (.agg (Ev.cells f).toArray) _ rfl rfl (by kernel_rfl) (by kernel_rfl) (by kernel_rfl) (fun _ _ _ h => h) S0 (fun z hz => ?_) (by simp only [Act.put, List.setIfInBounds_toArray, List.set_cons_zero, List.set_cons_succ]; rfl) ?_
  · exact Og.load_run 48 (.tmp 47) rfl ⟨g', o' + b * 13, none⟩ (by kernel_rfl) (LF.out z hz)
  refine Og.four (p := 10) (q := 11) (s1 := 12) (s2 := 13) (dp := 9) (dq := 10) (x1 := 43) (x2 := 48) (T := 48) (Z := (Ev.cells Ev.R0).toArray) (c1 := (Ev.cells e).toArray) (c2 := (Ev.cells f).toArray)
    ⟨⟨_, rfl, rfl, rfl, fun ρ w => by kernel_rfl⟩, ⟨_, rfl, rfl, rfl, fun ρ w => by kernel_rfl⟩, ⟨_, rfl, rfl, rfl, rfl⟩, ⟨_, rfl, rfl, rfl, rfl⟩, (by kernel_rfl), (by kernel_rfl), (by kernel_rfl), (by kernel_rfl), (by kernel_rfl), (by kernel_rfl), (by kernel_rfl), (by kernel_rfl), (by kernel_rfl), (by kernel_rfl), (by kernel_rfl), of_decide_eq_true (by kernel_rfl), of_decide_eq_true (by kernel_rfl), (by decide), rfl, rfl, (by kernel_rfl), (by kernel_rfl), (by kernel_rfl), (by kernel_rfl)⟩ S0 ?_
  intro W g1 g2 HT
  simp only [Act.put, List.setIfInBounds_toArray, List.set_cons_zero, List.set_cons_succ]
  have R1 := Lib.hid HT.r1; have R2 := Lib.hid HT.r2; have BW := Lib.hid (B1.out.trans (HT.below.mono B1.out.size))
  clear HT S0 cx
  have c1a : W.cell? ⟨g1, 2, none⟩ = some (.int .u32 e.a) := by rw [cell_of_row _ _ _ _ _ _ R1.out]; rfl
  have c2a : W.cell? ⟨g2, 2, none⟩ = some (.int .u32 f.a) := by rw [cell_of_row _ _ _ _ _ _ R2.out]; rfl
  have HRES := Lib.hid (show Ev.ruleOf x 6 a b = f.l by unfold Ev.ruleOf; rw [HE.out, HF.out]; rfl)
  have c6 : W.cell? ⟨g2, 6, none⟩ = some (.bool f.l) := by rw [cell_of_row _ _ _ _ _ _ R2.out]; rfl
  go_wp2
  go_ret
  exact ⟨by rw [HRES.out]; try rfl, B0.out.trans ((BW.out).mono B0.out.size)⟩
end Go.Proofs.YtnjnpbabgefaeaaGreat
end
