import Derived.Test.YtecnnkidalkmfaaGreatKc31
import Derived.Test.YtecnnkidalkmfaaGreatKc20
import Derived.Test.YtecnnkidalkmfaaGreatKc19
import Derived.Test.YtecnnkidalkmfaaGreatKc01
import Derived.Test.YtecnnkidalkmfaaGreatKc07
import Derived.Test.YtecnnkidalkmfaaGreatKc11
import Derived.Test.YtecnnkidalkmfaaGreatKc14
import Derived.Deep.CutRange
import Derived.Deep.Cut
import Derived.Deep.DeepCutAuto
set_option linter.unusedVariables false
set_option linter.unusedSimpArgs false

section
namespace Go.Proofs.YtecnnkidalkmfaaGreat
open Go.RowKit
namespace Ev
theorem rk_fold {n : Int} {v : Nat} : ∀ {ps : List (Int × Nat)} {r : Int}, (∀ p ∈ ps, p.1 = n → p.2 = v) → (r = v ∨ ∃ p ∈ ps, p.1 = n) → ps.foldl (fun r p => if p.1 = n then (p.2 : Int) else r) r = v
  | [], r, _, h => by
    rcases h with h | ⟨p, hp, _⟩
    · exact h
    · cases hp
  | p :: t, r, h1, h2 => by
    rw [List.foldl_cons]
    refine rk_fold (fun q hq => h1 q (List.mem_cons_of_mem _ hq)) ?_
    by_cases hp : p.1 = n
    · left; rw [if_pos hp, h1 p List.mem_cons_self hp]
    · rw [if_neg hp]
      rcases h2 with h | ⟨q, hq, hn⟩
      · exact .inl h
      · rcases List.mem_cons.1 hq with rfl | hq
        · exact absurd hn hp
        · exact .inr ⟨q, hq, hn⟩
theorem atGo_at {n : Int} : ∀ {l : List Int} {i : Int} {j : Nat}, l.Nodup → l[j]? = some n → atGo n i l = i + j
  | [], i, j, _, h => by simp at h
  | v :: r, i, 0, _, h => by
    simp at h; unfold atGo; rw [if_pos h]; simp
  | v :: r, i, j + 1, hd, h => by
    rw [List.nodup_cons] at hd
    have h' : r[j]? = some n := by simpa using h
    unfold atGo
    rw [if_neg (fun e => hd.1 (by rw [e]; exact List.mem_of_getElem? h')), atGo_at hd.2 h']
    omega
theorem at_at {n : Int} {l : List Int} {j : Nat} (hd : l.Nodup) (h : l[j]? = some n) : at_ l n = j := by
  unfold at_; rw [atGo_at hd h]; omega
theorem place_of {n v : Int} : ∀ {od : List Sl}, (∃ t ∈ od, n ∈ t.l) → (∀ t ∈ od, n ∈ t.l → at_ t.l n = v) → placeGo n od = v
  | [], h, _ => by obtain ⟨t, ht, _⟩ := h; cases ht
  | s :: r, h1, h2 => by
    unfold placeGo
    by_cases hs : n ∈ s.l
    · have := h2 s List.mem_cons_self hs
      have h0 : ¬ at_ s.l n < 0 := fun e => (at_neg s.l n).1 e hs
      rw [if_pos (by omega)]; exact this
    · have h0 := (at_neg s.l n).2 hs
      rw [if_neg (by omega)]
      refine place_of ?_ (fun t ht => h2 t (List.mem_cons_of_mem _ ht))
      obtain ⟨t, ht, hn⟩ := h1
      rcases List.mem_cons.1 ht with rfl | ht
      · exact absurd hn hs
      · exact ⟨t, ht, hn⟩
theorem five_lt {xs : List R} (h : evsOk xs = true) {i : Nat} (hi : i < xs.length) (e : (nth xs i).k = 5) : i < beg xs := by
  have hall := five_back (evs_all h) i hi e
  have h1 : beg (xs.take (i + 1)) = i + 1 := by
    unfold beg
    rw [List.filter_eq_self.2, List.length_take]
    · omega
    · intro y hy
      obtain ⟨j, hj, hjl, rfl⟩ := mem_take_lt hy
      simpa using hall j (by omega)
  have h2 : beg (xs.take (i + 1)) ≤ beg xs := by
    unfold beg
    exact (List.Sublist.filter _ (List.take_sublist _ _)).length_le
  omega
theorem beg_five {xs : List R} (h : evsOk xs = true) {i : Nat} (hi : i < beg xs) : (nth xs i).k = 5 := by
  obtain ⟨x, hx, hk⟩ := beg_pre (evs_all h) i hi
  rw [nth_some hx]; exact hk
theorem beg_up {xs : List R} (h : evsOk xs = true) : ∀ (d i : Nat), i + d + 1 < beg xs → (nth xs i).a < (nth xs (i + d + 1 : Nat)).a := by
  have hB := beg_le xs
  have step : ∀ i, i + 1 < beg xs → (nth xs i).a < (nth xs (i + 1 : Nat)).a := fun i hi => by
    have hf := (at_parts h (show i + 1 < xs.length by omega)).2.resolve_left (by omega)
    rw [show ((i + 1 : Nat) : Int) - 1 = (i : Int) by omega] at hf
    unfold follow at hf
    rw [if_pos ⟨beg_five h hi, beg_five h (show i < beg xs by omega)⟩] at hf
    exact of_decide_eq_true hf
  intro d
  induction d with
  | zero => exact fun i hi => step i hi
  | succ d ih => exact fun i hi => Int.lt_trans (ih i (by omega)) (step (i + d + 1) hi)
theorem beg_inj {xs : List R} (h : evsOk xs = true) {i j : Nat} (hi : i < beg xs) (hj : j < beg xs) (e : (nth xs i).a = (nth xs j).a) : i = j := by
  rcases Nat.lt_trichotomy i j with hl | hl | hl
  · have := beg_up h (j - i - 1) i (by omega)
    rw [show i + (j - i - 1) + 1 = j by omega] at this
    omega
  · exact hl
  · have := beg_up h (i - j - 1) j (by omega)
    rw [show j + (i - j - 1) + 1 = i by omega] at this
    omega
theorem beg_of {xs : List R} (h : evsOk xs = true) {n : Nat} (hn : n < xs.length) (hs : stores (nth xs n).k = true) : ∃ i, i < beg xs ∧ (nth xs i).a = (nth xs n).a := by
  by_cases h5 : (nth xs n).k = 5
  · exact ⟨n, five_lt h hn h5, rfl⟩
  have hbg : begunAt xs n = true := by
    have h' := h
    unfold evsOk begun at h'
    rw [Bool.and_eq_true, List.all_eq_true (p := begunAt xs)] at h'
    exact h'.2 n (List.mem_range.2 hn)
  unfold begunAt at hbg
  have hacc : acc (nth xs n).k = true := by
    unfold stores at hs; unfold acc
    simp at hs ⊢; omega
  rw [hacc, Bool.not_true, Bool.false_or, List.any_eq_true] at hbg
  obtain ⟨e, he, hq⟩ := hbg
  obtain ⟨j, hj, hjl, rfl⟩ := mem_take_lt he
  unfold isBeg at hq
  simp only [Bool.and_eq_true, beq_iff_eq] at hq
  exact ⟨j, five_lt h hjl hq.1, hq.2⟩
theorem od_at {x : X} (hc : check x = 0) {i : Nat} {s : Sl} (hs : x.od[i]? = some s) : i < beg x.ev ∧ rOrd x.ev (nth x.ev i).a i s.l ∧ s.l.Nodup ∧ ∀ n ∈ s.l, (nth x.ev n).a = (nth x.ev i).a := by
  obtain ⟨h1, _, _⟩ := check_order hc
  unfold orderOk at h1
  simp only [Bool.and_eq_true, beq_iff_eq, List.all_eq_true] at h1
  have hi := (List.getElem?_eq_some_iff.1 hs).1
  have ho := h1.2 i (List.mem_range.2 hi)
  have hr := (ord_iff hs rfl).1 ho
  refine ⟨by omega, hr, ?_⟩
  unfold orderAt at ho
  rw [hs] at ho
  simp only [Bool.and_eq_true, beq_iff_eq] at ho
  have hon := ho.2
  unfold onceOk at hon
  rw [Bool.and_eq_true, List.all_eq_true, decide_eq_true_eq] at hon
  refine ⟨hon.2, fun n hn => ?_⟩
  have := hon.1 n hn
  unfold onceAt at this
  simp only [Bool.and_eq_true, beq_iff_eq] at this
  rw [this.2, ho.1.2]
end Ev
end Go.Proofs.YtecnnkidalkmfaaGreat
end

section
namespace Go.Proofs.YtecnnkidalkmfaaGreat
open Go.RowKit
namespace Ev
theorem pl_mem {is : Nat → Nat → Bool} {n k : Nat} {p : Nat × Nat} : p ∈ pl is n k ↔ p.1 < k ∧ p.2 < n ∧ is p.1 p.2 = true := by
  unfold pl rowL
  rw [List.mem_flatMap]
  constructor
  · rintro ⟨a, ha, hp⟩
    rw [List.mem_map] at hp
    obtain ⟨b, hb, rfl⟩ := hp
    rw [List.mem_filter, List.mem_range] at hb
    exact ⟨List.mem_range.1 ha, hb.1, hb.2⟩
  · rintro ⟨h1, h2, h3⟩
    exact ⟨p.1, List.mem_range.2 h1, List.mem_map.2 ⟨p.2, List.mem_filter.2 ⟨List.mem_range.2 h2, h3⟩, rfl⟩⟩
theorem place_at {x : X} (hc : check x = 0) {n : Nat} (hn : n < x.ev.length) (hs : stores (nth x.ev n).k = true) :
    ∃ (i : Nat) (s : Sl) (v : Nat), x.od[i]? = some s ∧ i < beg x.ev ∧ (nth x.ev i).a = (nth x.ev n).a ∧ s.l[v]? = some (n : Int) ∧ place x n = v := by
  have he := ev_all hc
  obtain ⟨h1, _, _⟩ := check_order hc
  obtain ⟨i, hi, ha⟩ := beg_of he hn hs
  have hod : x.od.length = beg x.ev := by
    unfold orderOk at h1
    simp only [Bool.and_eq_true, beq_iff_eq] at h1
    exact h1.1
  obtain ⟨s, hsi⟩ : ∃ s, x.od[i]? = some s := ⟨_, List.getElem?_eq_getElem (by omega)⟩
  obtain ⟨_, hr, hd, _⟩ := od_at hc hsi
  have hm : (n : Int) ∈ s.l := hr.1 n hn hs ha.symm
  obtain ⟨v, hv⟩ := List.mem_iff_getElem?.1 hm
  have hat := at_at hd hv
  refine ⟨i, s, v, hsi, hi, ha, hv, ?_⟩
  unfold place
  refine place_of ⟨s, List.mem_of_getElem? hsi, hm⟩ (fun t ht hnt => ?_)
  obtain ⟨k, hk⟩ := List.mem_iff_getElem?.1 ht
  obtain ⟨hkb, _, _, hka⟩ := od_at hc hk
  have hki : k = i := beg_inj he hkb hi (by rw [ha]; exact (hka _ hnt).symm)
  subst hki
  rw [hk] at hsi
  rw [Option.some.inj hsi, hat]
theorem place_inj {x : X} (hc : check x = 0) {a b : Nat} (ha : a < x.ev.length) (hb : b < x.ev.length) (hsa : stores (nth x.ev a).k = true) (hsb : stores (nth x.ev b).k = true) (he : (nth x.ev a).a = (nth x.ev b).a) (hp : place x a = place x b) : a = b := by
  obtain ⟨i, s, v, h1, h2, h3, h4, h5⟩ := place_at hc ha hsa
  obtain ⟨j, t, u, k1, k2, k3, k4, k5⟩ := place_at hc hb hsb
  have hij : i = j := beg_inj (ev_all hc) h2 k2 (by rw [h3, k3, he])
  subst hij
  rw [h1] at k1
  cases k1
  have huv : v = u := by omega
  subst huv
  rw [h4] at k4
  have := Option.some.inj k4
  omega
end Ev
end Go.Proofs.YtecnnkidalkmfaaGreat
end

section
namespace Go.Proofs.YtecnnkidalkmfaaGreat
open Go.RowKit
namespace Ev
def pairGo (xs : List R) (e : R) : Nat → Int
  | 0 => -1
  | a + 1 => if (nth xs a).h ≠ e.h then -1 else if ((nth xs a).z && (nth xs a).k == 2) = true then -1 else if (nth xs a).z = true then (if (nth xs a).a = e.a then (a : Int) else -1) else pairGo xs e a
def paired (x : X) (b : Nat) : Int := if ((nth x.ev b).k != 2 || !(nth x.ev b).z) = true then -1 else pairGo x.ev (nth x.ev b) b
end Ev
end Go.Proofs.YtecnnkidalkmfaaGreat
end

section
namespace Go.Proofs.YtecnnkidalkmfaaGreat
open Go.RowKit
namespace Ev
def strong (x : R) : Bool := (x.q || x.l) && (x.k == 3 || x.z)
def inSet (n : Int) (x : R) : Bool := n.tmod 2 == 1 && stores x.k || decide (2 ≤ n) && loads x.k
end Ev
end Go.Proofs.YtecnnkidalkmfaaGreat
end

section
namespace Go.Proofs.YtecnnkidalkmfaaGreat
open Go.RowKit
namespace Ev
def ruleOf (x : X) (r : Int) (a b : Nat) : Bool :=
  let e := nth x.ev a; let f := nth x.ev b
  if r = 1 then e.a == f.a && stores f.k
  else if r = 3 then (e.k == 3 || (e.k == 2 && e.z)) && frAt x b == (a : Int)
  else if r = 5 then e.q
  else if r = 6 then f.l
  else if r = 7 then strong e && strong f
  else if r = 8 then paired x b == (a : Int)
  else if r = 9 then decide (0 ≤ at_ f.d1.l a)
  else if r = 10 then decide (0 ≤ at_ f.d2.l a)
  else if r = 11 then stores f.k && decide (0 ≤ at_ f.d3.l a)
  else
    let ms := (List.range (b - (a + 1))).map fun i => a + 1 + i
    let clear := ms.all fun m => !(stores (nth x.ev m).k && (nth x.ev m).a == e.a)
    let some := ms.any fun m =>
      let g := nth x.ev m
      r == 4 && g.k == 4 && inSet g.p e && inSet g.s f || r == 12 && loads f.k && stores g.k && frAt x b == (m : Int) && (decide (0 ≤ at_ g.d1.l a) || decide (0 ≤ at_ g.d2.l a)) || r == 13 && stores f.k && decide (0 ≤ at_ g.d1.l a)
    if r = 2 then loads e.k && loads f.k && e.a == f.a && !(frAt x a == frAt x b) && clear else some
def rule (x : X) (r : Int) (a b : Nat) : Bool := if isPo x a b = false ∨ (nth x.ev a).k = 4 ∨ (nth x.ev b).k = 4 then false else ruleOf x r a b
end Ev
theorem rpo_is {x : Ev.X} {a b : Nat} {v : Bool} (h : Ev.isPo x a b = v) (ha : a < x.ev.length) (hb : b < x.ev.length) (w : World) (hin : Ev.XIn w x) :
    Calls Tryz.prog 42 #[.agg (Ev.xcells x).toArray, .int .i64 (a : Int), .int .i64 (b : Int)] w fun e w' => e = .returned (.bool v) ∧ Below w.heap.size w w' := h ▸ rpo_any x a b ha hb w hin
end Go.Proofs.YtecnnkidalkmfaaGreat
end

section
namespace Go.Proofs.YtecnnkidalkmfaaGreat
open Go.RowKit
end Go.Proofs.YtecnnkidalkmfaaGreat
end

section
namespace Go.Proofs.YtecnnkidalkmfaaGreat
open Go.RowKit
end Go.Proofs.YtecnnkidalkmfaaGreat
end

section
namespace Go.Proofs.YtecnnkidalkmfaaGreat
open Go.RowKit
set_option maxRecDepth 100000 in
set_option maxHeartbeats 4000000 in
theorem rule_1 (x : Ev.X) (a b : Nat) (ha : a < x.ev.length) (hb : b < x.ev.length) (hpo : Ev.isPo x a b = true) (hk1 : (Ev.nth x.ev a).k ≠ 4) (hk2 : (Ev.nth x.ev b).k ≠ 4) (w : World) (hin : Ev.XIn w x) :
    Calls Tryz.prog 65 #[Ev.exV x, .int .i64 1, .int .i64 (a : Int), .int .i64 (b : Int)] w fun e w' => e = .returned (.bool (Ev.ruleOf x 1 a b)) ∧ Below w.heap.size w w' := by
  have hl1 := hin.ev.le; have hl2 := hin.ev.max
  obtain ⟨B, hB⟩ : ∃ B, B = w.alloc (Obj.cells (Ev.xcells x).toArray 26) := ⟨_, rfl⟩
  have HB := Lib.hid hB
  have B0 := Lib.hid (show Below w.heap.size w B by rw [hB]; exact (Below.refl w.heap.size w).alloc (Nat.le_refl _) _)
  have HX := Lib.hid (show Ev.XIn B x from hin.kp (Ev.kp_below B0.out))
  have RX := Lib.hid (show B.heap[w.heap.size]? = some (.cells (Ev.xcells x).toArray 26 (0, 0)) by rw [hB]; exact heap_alloc_new _ _)
  obtain ⟨e, he⟩ : ∃ e, x.ev[a]? = some e := ⟨_, List.getElem?_eq_getElem ha⟩
  obtain ⟨f, hf⟩ : ∃ f, x.ev[b]? = some f := ⟨_, List.getElem?_eq_getElem hb⟩
  obtain ⟨g, o, eg, hce⟩ := HX.out.ev.at_ he
  obtain ⟨g', o', eg', hcf⟩ := HX.out.ev.at_ hf
  obtain ⟨rfl, rfl⟩ : g' = g ∧ o' = o := by rw [eg] at eg'; cases eg'; exact ⟨rfl, rfl⟩
  have HEO := Lib.hid (HX.out.ev.ok_ he); have HFO := Lib.hid (HX.out.ev.ok_ hf)
  have HE := Lib.hid (Ev.nth_some he); have HF := Lib.hid (Ev.nth_some hf)
  have HCE := Lib.hid hce; have HCF := Lib.hid hcf
  have hai : (a : Int) < (x.ev.length : Int) := by omega
  have hbi : (b : Int) < (x.ev.length : Int) := by omega
  have CX := Lib.hid (show ∀ W, Below B.heap.size B W → W.cell? ⟨w.heap.size, 0, none⟩ = some (.slice (some ⟨g', o', none⟩) x.ev.length x.ce) from fun W h => by
    rw [← eg]; exact Ev.xcell0 ((h.block w.heap.size (Array.getElem?_eq_some_iff.1 RX.out).1).trans RX.out))
  clear hin hB he hf eg eg' hce hcf
  have HPO := Lib.hid hpo
  rw [HE.out] at hk1; rw [HF.out] at hk2
  have t1 : (e.k == 4) = false := by simpa using hk1
  have t2 : (f.k == 4) = false := by simpa using hk2
  clear hpo hk1 hk2
  obtain ⟨bx0⟩ : Nonempty (B.cell? ⟨w.heap.size, 0, none⟩ = some (.slice (some ⟨g', o', none⟩) x.ev.length x.ce)) := ⟨CX.out B (Below.refl _ _)⟩
  unfold Ev.exV Ev.xcells
  go_enter Tryz.func65, Tryz.ntmps65
  go_wp2_with (first
    | ((with_reducible show wpList _ _ _ (Oper.mk (some 16) _ _ _ _ _ :: _) _ _); (try rw [show w.alloc (Obj.cells #[Value.slice x.ae x.ev.length x.ce, Value.slice x.fr.a x.fr.l.length x.fr.c, Value.slice x.ao x.od.length x.co] 26) = B from HB.out.symm]); refine wpList_load_row rfl 26 (.tmp 4) rfl w.heap.size (by kernel_rfl) 26 (Ev.xcells x).toArray (0, 0) _ RX.out Tryz.underlying26 rfl (by kernel_rfl) ?_))
  refine (rpo_is HPO.out ha hb _ HX.out).mono ?_
  rintro q W1 ⟨rfl, hb1⟩
  have B1 := Lib.hid hb1
  have cx := CX.out W1 hb1
  have cek : W1.cell? ⟨g', o' + a * 13 + 1, none⟩ = some (.int .i64 e.k) := Ev.kp_below hb1 _ _ (HCE.out 1 _ rfl)
  have cfk : W1.cell? ⟨g', o' + b * 13 + 1, none⟩ = some (.int .i64 f.k) := Ev.kp_below hb1 _ _ (HCF.out 1 _ rfl)
  clear hb1 bx0
  go_wp2_with fail
  clear cek cfk
  have LA := Lib.hid (fun (z : World) (hz : Og.Std W1 z) => Ev.ld (w := z) (g := g') (o := o' + a * 13) (x := e) (fun i c hi => Og.std_cell hz (Ev.kp_below B1.out _ _ (HCE.out i c hi))))
  have LF := Lib.hid (fun (z : World) (hz : Og.Std W1 z) => Ev.ld (w := z) (g := g') (o := o' + b * 13) (x := f) (fun i c hi => Og.std_cell hz (Ev.kp_below B1.out _ _ (HCF.out i c hi))))
  refine wp_region_held (S := Og.Std W1) (by kernel_rfl) ?_
  have S0 : Og.Std W1 { W1 with drawn := W1.drawn + 1 } := ⟨rfl, rfl, rfl, Nat.le_refl _, fun _ _ => rfl⟩
  refine Og.held_take 0 _ (.pointer (some ⟨w.heap.size, 0, none⟩)) _ rfl rfl (by kernel_rfl) (by kernel_rfl) (by kernel_rfl) (fun _ _ _ h => h) S0 (fun z hz => ?_) (by simp only [Act.put, List.setIfInBounds_toArray, List.set_cons_zero, List.set_cons_succ]; rfl) ?_
  · go_simp; try (with_reducible rfl)
  refine Og.held_take 1 _ (.slice (some ⟨g', o', none⟩) x.ev.length x.ce) _ rfl rfl (by kernel_rfl) (by kernel_rfl) (by kernel_rfl) (fun _ _ _ h => h) S0 (fun z hz => ?_) (by simp only [Act.put, List.setIfInBounds_toArray, List.set_cons_zero, List.set_cons_succ]; rfl) ?_
  · exact Og.load_run 22 (.tmp 39) rfl ⟨w.heap.size, 0, none⟩ (by kernel_rfl) (run_load_slice Tryz.underlying22 (Og.std_cell hz cx))
  refine Og.held_take 2 _ (.int .i64 (a : Int)) _ rfl rfl (by kernel_rfl) (by kernel_rfl) (by kernel_rfl) (fun _ _ _ h => h) S0 (fun z hz => ?_) (by simp only [Act.put, List.setIfInBounds_toArray, List.set_cons_zero, List.set_cons_succ]; rfl) ?_
  · go_simp; try (with_reducible rfl)
  refine Og.held_take 3 _ (.pointer (some ⟨g', o' + a * 13, none⟩)) _ rfl rfl (by kernel_rfl) (by kernel_rfl) (by kernel_rfl) (fun _ _ _ h => h) S0 (fun z hz => ?_) (by simp only [Act.put, List.setIfInBounds_toArray, List.set_cons_zero, List.set_cons_succ]; rfl) ?_
  · go_simp; try (with_reducible rfl)
  refine Og.held_take 4 _ (.agg (Ev.cells e).toArray) _ rfl rfl (by kernel_rfl) (by kernel_rfl) (by kernel_rfl) (fun _ _ _ h => h) S0 (fun z hz => ?_) (by simp only [Act.put, List.setIfInBounds_toArray, List.set_cons_zero, List.set_cons_succ]; rfl) ?_
  · exact Og.load_run 48 (.tmp 42) rfl ⟨g', o' + a * 13, none⟩ (by kernel_rfl) (LA.out z hz)
  refine Og.held_take 5 _ (.pointer (some ⟨w.heap.size, 0, none⟩)) _ rfl rfl (by kernel_rfl) (by kernel_rfl) (by kernel_rfl) (fun _ _ _ h => h) S0 (fun z hz => ?_) (by simp only [Act.put, List.setIfInBounds_toArray, List.set_cons_zero, List.set_cons_succ]; rfl) ?_
  · go_simp; try (with_reducible rfl)
  refine Og.held_take 6 _ (.slice (some ⟨g', o', none⟩) x.ev.length x.ce) _ rfl rfl (by kernel_rfl) (by kernel_rfl) (by kernel_rfl) (fun _ _ _ h => h) S0 (fun z hz => ?_) (by simp only [Act.put, List.setIfInBounds_toArray, List.set_cons_zero, List.set_cons_succ]; rfl) ?_
  · exact Og.load_run 22 (.tmp 44) rfl ⟨w.heap.size, 0, none⟩ (by kernel_rfl) (run_load_slice Tryz.underlying22 (Og.std_cell hz cx))
  refine Og.held_take 7 _ (.int .i64 (b : Int)) _ rfl rfl (by kernel_rfl) (by kernel_rfl) (by kernel_rfl) (fun _ _ _ h => h) S0 (fun z hz => ?_) (by simp only [Act.put, List.setIfInBounds_toArray, List.set_cons_zero, List.set_cons_succ]; rfl) ?_
  · go_simp; try (with_reducible rfl)
  refine Og.held_take 8 _ (.pointer (some ⟨g', o' + b * 13, none⟩)) _ rfl rfl (by kernel_rfl) (by kernel_rfl) (by kernel_rfl) (fun _ _ _ h => h) S0 (fun z hz => ?_) (by simp only [Act.put, List.setIfInBounds_toArray, List.set_cons_zero, List.set_cons_succ]; rfl) ?_
  · go_simp; try (with_reducible rfl)
  refine Og.held_take 9 _ (.agg (Ev.cells f).toArray) _ rfl rfl (by kernel_rfl) (by kernel_rfl) (by kernel_rfl) (fun _ _ _ h => h) S0 (fun z hz => ?_) (by simp only [Act.put, List.setIfInBounds_toArray, List.set_cons_zero, List.set_cons_succ]; rfl) ?_
  · exact Og.load_run 48 (.tmp 47) rfl ⟨g', o' + b * 13, none⟩ (by kernel_rfl) (LF.out z hz)
  refine Og.four (p := 10) (q := 11) (s1 := 12) (s2 := 13) (dp := 9) (dq := 10) (x1 := 43) (x2 := 48) (T := 48) (Z := (Ev.cells Ev.R0).toArray) (c1 := (Ev.cells e).toArray) (c2 := (Ev.cells f).toArray)
    ⟨⟨_, rfl, rfl, rfl, fun ρ w => by kernel_rfl⟩, ⟨_, rfl, rfl, rfl, fun ρ w => by kernel_rfl⟩, ⟨_, rfl, rfl, rfl, rfl⟩, ⟨_, rfl, rfl, rfl, rfl⟩, (by kernel_rfl), (by kernel_rfl), (by kernel_rfl), (by kernel_rfl), (by kernel_rfl), (by kernel_rfl), (by kernel_rfl), (by kernel_rfl), (by kernel_rfl), (by kernel_rfl), (by kernel_rfl), of_decide_eq_true (by kernel_rfl), of_decide_eq_true (by kernel_rfl), (by decide), rfl, rfl, (by kernel_rfl), (by kernel_rfl), (by kernel_rfl), (by kernel_rfl)⟩ S0 ?_
  intro W g1 g2 HT
  simp only [Act.put, List.setIfInBounds_toArray, List.set_cons_zero, List.set_cons_succ]
  have R1 := Lib.hid HT.r1; have R2 := Lib.hid HT.r2; have BW := Lib.hid (B1.out.trans (HT.below.mono B1.out.size))
  clear HT S0 cx
  have c1a : W.cell? ⟨g1, 2, none⟩ = some (.int .u32 e.a) := by rw [cell_of_row _ _ _ _ _ _ R1.out]; rfl
  have c2a : W.cell? ⟨g2, 2, none⟩ = some (.int .u32 f.a) := by rw [cell_of_row _ _ _ _ _ _ R2.out]; rfl
  obtain ⟨s, hs⟩ : ∃ s, Ev.stores f.k = s := ⟨_, rfl⟩
  have HS := Lib.hid hs
  by_cases hq : e.a = f.a
  case neg =>
    have tq : (e.a == f.a) = false := by simpa using hq
    have HRES := Lib.hid (show Ev.ruleOf x 1 a b = false by unfold Ev.ruleOf; rw [HE.out, HF.out]; show (e.a == f.a && Ev.stores f.k) = false; rw [tq]; rfl)
    clear hq hs
    go_wp2
    go_ret
    exact ⟨by rw [HRES.out]; try rfl, B0.out.trans ((BW.out).mono B0.out.size)⟩
  have tq : (e.a == f.a) = true := by simpa using hq
  have HRES := Lib.hid (show Ev.ruleOf x 1 a b = s by unfold Ev.ruleOf; rw [HE.out, HF.out]; show (e.a == f.a && Ev.stores f.k) = s; rw [tq, hs]; rfl)
  clear hq hs
  go_wp2_with ((with_reducible show wpList _ _ _ (Oper.mk (some 59) _ _ _ _ _ :: _) _ _); refine Ev.load_row_g 48 (.tmp 10) rfl rfl g2 (by kernel_rfl) 48 (Ev.cells f).toArray (0, 0) _ R2.out Tryz.underlying48 rfl (by kernel_rfl) ?_)
  refine (rstores_is HS.out _).mono ?_
  rintro q W9 ⟨rfl, hb⟩
  have B9 := Lib.hid (BW.out.trans (hb.mono BW.out.size)); clear hb
  go_wp2_with fail
  go_ret
  exact ⟨by rw [HRES.out]; try rfl, B0.out.trans ((B9.out).mono B0.out.size)⟩
end Go.Proofs.YtecnnkidalkmfaaGreat
end

section
namespace Go.Proofs.YtecnnkidalkmfaaGreat
open Go.RowKit
end Go.Proofs.YtecnnkidalkmfaaGreat
end

section
namespace Go.Proofs.YtecnnkidalkmfaaGreat
open Go.RowKit
namespace Ev
def upTo (a m : Nat) : List Nat := (List.range (m - (a + 1))).map fun i => a + 1 + i
theorem upTo_zero (a : Nat) : upTo a (a + 1) = [] := by unfold upTo; simp
theorem upTo_succ {a m : Nat} (h : a + 1 ≤ m) : upTo a (m + 1) = upTo a m ++ [m] := by
  unfold upTo
  rw [show m + 1 - (a + 1) = (m - (a + 1)) + 1 by omega, List.range_succ, List.map_append]
  simp; omega
def cl (x : X) (a m : Nat) : Bool := !(stores (nth x.ev m).k && (nth x.ev m).a == (nth x.ev a).a)
def so (x : X) (K : Nat) (a b m : Nat) : Bool :=
  if K = 4 then (nth x.ev m).k == 4 && inSet (nth x.ev m).p (nth x.ev a) && inSet (nth x.ev m).s (nth x.ev b)
  else if K = 12 then loads (nth x.ev b).k && stores (nth x.ev m).k && frAt x b == (m : Int) && (decide (0 ≤ at_ (nth x.ev m).d1.l a) || decide (0 ≤ at_ (nth x.ev m).d2.l a))
  else if K = 13 then stores (nth x.ev b).k && decide (0 ≤ at_ (nth x.ev m).d1.l a) else false
theorem all_succ {p : Nat → Bool} {a m : Nat} (h : a + 1 ≤ m) : (upTo a (m + 1)).all p = ((upTo a m).all p && p m) := by rw [upTo_succ h, List.all_append]; simp
theorem rule2_is (x : X) (a b : Nat) : ruleOf x 2 a b = (loads (nth x.ev a).k && loads (nth x.ev b).k && (nth x.ev a).a == (nth x.ev b).a && !(frAt x a == frAt x b) && (upTo a b).all (cl x a)) := rfl
theorem rule4_is (x : X) (a b : Nat) : ruleOf x 4 a b = (upTo a b).any (so x 4 a b) := by
  show (upTo a b).any _ = _
  congr 1 <;> (funext m; simp [so])
theorem rule12_is (x : X) (a b : Nat) : ruleOf x 12 a b = (upTo a b).any (so x 12 a b) := by
  show (upTo a b).any _ = _
  congr 1 <;> (funext m; simp [so])
theorem rule13_is (x : X) (a b : Nat) : ruleOf x 13 a b = (upTo a b).any (so x 13 a b) := by
  show (upTo a b).any _ = _
  congr 1 <;> (funext m; simp [so])
theorem po_lt {x : X} {a b : Nat} (h : isPo x a b = true) : a < b := by
  unfold isPo at h
  simp only [Bool.and_eq_true, decide_eq_true_eq] at h
  exact h.1.1
end Ev
end Go.Proofs.YtecnnkidalkmfaaGreat
end

section
namespace Go.Proofs.YtecnnkidalkmfaaGreat
open Go.RowKit
end Go.Proofs.YtecnnkidalkmfaaGreat
end
