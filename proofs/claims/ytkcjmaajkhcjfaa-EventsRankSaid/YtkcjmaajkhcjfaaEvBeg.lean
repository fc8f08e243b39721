/-
  The contract of begunWhereUsed.
-/
import Derived.Test.YtkcjmaajkhcjfaaEvMeq
import Derived.Sort.KeysCollected
namespace Go.Proofs.Ytkcjmaajkhcjfaa
open Go.RowKit Go.Maps Go.WideElems
set_option linter.unusedVariables false
set_option linter.unusedSimpArgs false
namespace Ev
def acc (k : Int) : Bool := k == 1 || k == 2 || k == 3
def isBeg (y : Int) (e : R) : Bool := e.k == 5 && e.a == y
def isAcc (y : Int) (e : R) : Bool := acc e.k && e.a == y
/-- each address that an access has has a begin, and each that a begin has an access -/
def begun (xs : List R) : Bool := (xs.all fun e => !(acc e.k) || xs.any (isBeg e.a)) && (xs.all fun b => !(b.k == 5) || xs.any (isAcc b.a))
theorem nodup_le {α : Type} [DecidableEq α] : ∀ {a b : List α}, a.Nodup → (∀ x ∈ a, x ∈ b) → a.length ≤ b.length
  | [], b, _, _ => Nat.zero_le _
  | x :: r, b, h, hs => by
    have hn := List.nodup_cons.1 h
    have hx : x ∈ b := hs x List.mem_cons_self
    have h1 : r.length ≤ (b.erase x).length := nodup_le hn.2 fun y hy => by
      have hyx : y ≠ x := fun e => hn.1 (e ▸ hy)
      exact (List.mem_erase_of_ne hyx).2 (hs y (List.mem_cons_of_mem _ hy))
    have h2 := List.length_erase_of_mem hx
    have h3 := List.length_pos_of_mem hx
    simp only [List.length_cons]; omega
theorem back_of_len {α : Type} [DecidableEq α] {a b : List α} (ha : a.Nodup) (hb : b.Nodup) (hl : a.length = b.length) (hs : ∀ x ∈ a, x ∈ b) : ∀ y ∈ b, y ∈ a := fun y hy => by
  apply Classical.byContradiction
  intro hn
  have := nodup_le (a := y :: a) (b := b) (List.nodup_cons.2 ⟨hn, ha⟩) (fun x hx => by
    rcases List.mem_cons.1 hx with rfl | hx
    · exact hy
    · exact hs x hx)
  simp only [List.length_cons] at this
  omega
/-- a set's members as a list -/
theorem set_list {w : World} {b n : Nat} {D : DataW Unit} (h : w.ownsMap Try.prog 42 unitElem b n D) : ∃ l : List Int, l.Nodup ∧ Maps.size D = l.length ∧ (∀ x ∈ l, u32B x) ∧ ∀ x, u32B x → (Maps.has D (.int .u32 x) = true ↔ x ∈ l) := by
  obtain ⟨es, hD, hk⟩ := h.keysOf
  obtain ⟨es2, hD2, hpw⟩ := h.tidy law_u32
  rw [hD] at hD2
  cases hD2
  have hkey' : ∀ p ∈ es, ∃ x, p.1 = .int .u32 x ∧ u32B x := fun p hp => by
    obtain ⟨key, hkk⟩ := hk p hp
    obtain ⟨x, _, h2, h3⟩ := Maps.keyOf_int_inv Try.underlying42 hkk
    exact ⟨x, h2, u32_of_wf h3⟩
  have hkey : ∀ p ∈ es, ∃ x, p.1 = .int .u32 x := fun p hp => (hkey' p hp).imp fun _ h => h.1
  refine ⟨es.map fun p => match p.1 with | .int _ x => x | _ => 0, ?_, by rw [hD, Maps.size_eq, List.length_map], fun x hx => ?_, fun x hx => ?_⟩
  · rw [List.Nodup, List.pairwise_map]
    refine List.Pairwise.imp_of_mem (fun {p q} hp hq hne => ?_) hpw
    obtain ⟨x, hx⟩ := hkey p hp
    obtain ⟨y, hy⟩ := hkey q hq
    rw [hx, hy]
    intro e
    exact hne (by rw [hx, hy]; simpa using e)
  · obtain ⟨p, hp, rfl⟩ := List.mem_map.1 hx
    obtain ⟨y, hy, hb⟩ := hkey' p hp
    rw [hy]; exact hb
  · rw [hD, Maps.has_eq, List.any_eq_true, List.mem_map]
    constructor
    · rintro ⟨p, hp, hs⟩
      refine ⟨p, hp, ?_⟩
      obtain ⟨y, hy⟩ := hkey p hp
      rw [hy, sameKey_u32] at hs
      rw [hy]; simpa using hs
    · rintro ⟨p, hp, hs⟩
      refine ⟨p, hp, ?_⟩
      obtain ⟨y, hy⟩ := hkey p hp
      rw [hy] at hs ⊢
      rw [sameKey_u32]; simpa using hs
theorem eq_iff {w : World} {b1 n1 b2 n2 : Nat} {D1 D2 : DataW Unit} (h1 : w.ownsMap Try.prog 42 unitElem b1 n1 D1) (h2 : w.ownsMap Try.prog 42 unitElem b2 n2 D2) :
    (Maps.size D1 = Maps.size D2 ∧ SubS D1 D2) ↔ ∀ x, u32B x → Maps.has D1 (.int .u32 x) = Maps.has D2 (.int .u32 x) := by
  obtain ⟨l1, n1, s1, b1, m1⟩ := set_list h1
  obtain ⟨l2, n2, s2, b2, m2⟩ := set_list h2
  rw [s1, s2]
  constructor
  · rintro ⟨hl, hs⟩
    have hsub : ∀ x ∈ l1, x ∈ l2 := fun x hx => (m2 x (b1 x hx)).1 (hs x (b1 x hx) ((m1 x (b1 x hx)).2 hx))
    have hback := back_of_len n1 n2 hl hsub
    intro x hx
    rw [Bool.eq_iff_iff, m1 x hx, m2 x hx]
    exact ⟨hsub x, hback x⟩
  · intro he
    have hsub : ∀ x ∈ l1, x ∈ l2 := fun x hx => (m2 x (b1 x hx)).1 (by rw [← he x (b1 x hx)]; exact (m1 x (b1 x hx)).2 hx)
    have hback : ∀ x ∈ l2, x ∈ l1 := fun x hx => (m1 x (b2 x hx)).1 (by rw [he x (b2 x hx)]; exact (m2 x (b2 x hx)).2 hx)
    refine ⟨Nat.le_antisymm (nodup_le n1 hsub) (nodup_le n2 hback), fun x hx h => by rw [← he x hx]; exact h⟩
/-- a set of addresses in memory: those of which f holds -/
structure HasIs (w : World) (b n : Nat) (f : Int → Bool) : Prop where
  ex : ∃ D : DataW Unit, w.ownsMap Try.prog 42 unitElem b n D ∧ ∀ x, u32B x → Maps.has D (.int .u32 x) = f x
theorem HasIs.keep {w w' : World} {b n m : Nat} {f g : Int → Bool} {row : Option Nat} (h : HasIs w b n f) (hg : w.grownBy w' row) (hne : some b ≠ row) (hnm : n ≤ m) (hf : ∀ x, u32B x → f x = g x) : HasIs w' b m g := by
  obtain ⟨D, ho, hD⟩ := h.ex
  exact ⟨⟨D, (ho.kept hg hne).mono hnm, fun x hx => (hD x hx).trans (hf x hx)⟩⟩
theorem has_put {D : DataW Unit} (hm : IsMap D) {a x : Int} : Maps.has (D.put (.int .u32 a) (.agg [])) (.int .u32 x) = (decide (a = x) || Maps.has D (.int .u32 x)) := by
  by_cases h : a = x
  · subst h; rw [Maps.has_put_same hm (iskey_int _ _)]; simp
  · rw [Maps.has_put_other (by intro e; injection e with _ e; exact h e.symm)]; simp [h]
theorem any_snoc {xs : List R} {x : R} {f : R → Bool} : (xs ++ [x]).any f = (xs.any f || f x) := by simp
theorem begun_iff (xs : List R) (hb : ∀ x ∈ xs, u32B x.a) : begun xs = true ↔ ∀ y, u32B y → xs.any (isBeg y) = xs.any (isAcc y) := by
  unfold begun
  rw [Bool.and_eq_true, List.all_eq_true, List.all_eq_true]
  constructor
  · rintro ⟨h1, h2⟩ y hy
    rw [Bool.eq_iff_iff, List.any_eq_true, List.any_eq_true]
    constructor
    · rintro ⟨e, he, hq⟩
      unfold isBeg at hq
      simp only [Bool.and_eq_true, beq_iff_eq] at hq
      have := h2 e he
      rw [hq.1] at this
      simp only [beq_self_eq_true, Bool.not_true, Bool.false_or, List.any_eq_true] at this
      rw [hq.2] at this; exact this
    · rintro ⟨e, he, hq⟩
      unfold isAcc at hq
      simp only [Bool.and_eq_true, beq_iff_eq] at hq
      have := h1 e he
      rw [hq.1] at this
      simp only [Bool.not_true, Bool.false_or, List.any_eq_true] at this
      rw [hq.2] at this; exact this
  · intro h
    refine ⟨fun e he => ?_, fun b hbm => ?_⟩
    · cases hq : acc e.k
      · rfl
      · have : xs.any (isAcc e.a) = true := List.any_eq_true.2 ⟨e, he, by unfold isAcc; rw [hq]; simp⟩
        rw [h e.a (hb e he), this]; rfl
    · cases hq : (b.k == 5)
      · rfl
      · have : xs.any (isBeg b.a) = true := List.any_eq_true.2 ⟨b, hbm, by unfold isBeg; rw [hq]; simp⟩
        rw [← h b.a (hb b hbm), this]; rfl
end Ev
set_option maxRecDepth 100000 in
set_option maxHeartbeats 2000000 in
theorem begun_any (a : Option Addr) (c : Nat) (xs : List Ev.R) (w : World) (hin : Ev.EvsIn w a c xs) :
    Calls Try.prog 58 #[.slice a xs.length c] w fun e w' => e = .returned (.bool (Ev.begun xs)) ∧ Below w.heap.size w w' := by
  have hmax := hin.max; have hle := hin.le
  have HIN := Lib.hid hin; clear hin
  have hmm := @run_makeMap Try.prog
  go_enter Try.func58, Try.ntmps58
  go_wp2
  go_loopw [11, 17, 23] (fun i _ _ wr => ∃ k : Nat, k ≤ xs.length ∧ i = .int .i64 (k : Int) ∧ Ev.HasIs wr w.heap.size k (fun y => (xs.take k).any (Ev.isBeg y)) ∧ Ev.HasIs wr (w.heap.size + 1) k (fun y => (xs.take k).any (Ev.isAcc y)) ∧ Below w.heap.size w wr ∧ w.heap.size + 2 ≤ wr.heap.size) (fun i _ _ _ => xs.length - (intOf i).toNat)
  case atStart =>
    refine ⟨0, Nat.zero_le _, rfl, ⟨⟨.map [], (World.ownsMap_made _ _ _ _).alloc _, fun x _ => rfl⟩⟩, ⟨⟨.map [], ?_, fun x _ => rfl⟩⟩, ((Below.refl _ _).alloc (Nat.le_refl _) _).alloc (by simp only [World.size_alloc]; omega) _, by simp⟩
    have := World.ownsMap_made (H := Unit) (w.alloc (Obj.map #[] 0)) Try.prog 42 unitElem
    simpa only [World.size_alloc] using this
  case round =>
    obtain ⟨k, hk, rfl, hb1, hb2, hbr, hws⟩ := hrel
    have H1 := Lib.hid hb1; have H2 := Lib.hid hb2; have HBR := Lib.hid hbr; have HWS := Lib.hid hws
    clear hb1 hb2 hbr hws
    by_cases hlt : k < xs.length
    · obtain ⟨x, hx⟩ : ∃ x, xs[k]? = some x := ⟨_, List.getElem?_eq_getElem hlt⟩
      obtain ⟨g, o, ea, hcx⟩ := (HIN.out.kp (Ev.kp_below HBR.out)).at_ hx
      have hxa := (HIN.out.ok_ hx).a
      have htk : xs.take (k + 1) = xs.take k ++ [x] := by rw [List.take_add_one, hx]; rfl
      have HC := Lib.hid hcx; have HXA := Lib.hid hxa; have HTK := Lib.hid htk
      have hki : (k : Int) < (xs.length : Int) := by omega
      have HKEY := Lib.hid (keyOf_int_mk (P := Try.prog) Try.underlying42 (wf_of_u32 hxa))
      obtain ⟨D1, ho1, hD1⟩ := H1.out.ex
      obtain ⟨D2, ho2, hD2⟩ := H2.out.ex
      have HO1 := Lib.hid ho1; have HD1 := Lib.hid hD1; have HO2 := Lib.hid ho2; have HD2 := Lib.hid hD2
      clear hx hcx hxa htk ho1 hD1 ho2 hD2
      rw [ea]; clear ea
      have kk : x.k = 5 ∨ x.k = 1 ∨ x.k = 2 ∨ x.k = 3 ∨ (x.k ≠ 5 ∧ x.k ≠ 1 ∧ x.k ≠ 2 ∧ x.k ≠ 3) := by omega
      rcases kk with h5 | h5 | h5 | h5 | h5
      · have q5 : (x.k == 5) = true := by rw [h5]; rfl
        have q1 : (x.k == 1) = false := by rw [h5]; rfl
        have q2 : (x.k == 2) = false := by rw [h5]; rfl
        have q3 : (x.k == 3) = false := by rw [h5]; rfl
        have HB0 := Lib.hid (show ∀ y, Ev.isBeg y x = (x.a == y) from fun y => by unfold Ev.isBeg; rw [q5]; rfl)
        have HA0 := Lib.hid (show ∀ y, Ev.isAcc y x = false from fun y => by unfold Ev.isAcc Ev.acc; rw [q1, q2, q3]; rfl)
        clear h5
        go_wp2_with (first
          | (show wpList _ _ _ (Oper.mk (some 14) _ _ _ _ _ :: _) _ _; refine wpList_load_at rfl 44 (.tmp 13) rfl g (o + k * 13) (by kernel_rfl) (Ev.cells x) _ HC.out Try.underlying44 rfl (by kernel_rfl) ?_)
          | (show wpList _ _ _ (Oper.mk none (Op.store 44 _ _) _ _ _ _ :: _) _ _; refine wpList_store_own rfl 44 (.tmp 6) (.tmp 14) rfl wr.heap.size (Ev.cells x).toArray rfl rfl 44 (Ev.cells Ev.R0).toArray (heap_alloc_new _ _) (by kernel_rfl) (by kernel_rfl) (by kernel_rfl) ?_
             intro W1 HW1
             have B1 := Lib.hid (((Below.refl wr.heap.size wr).alloc (Nat.le_refl _) _).trans HW1.below)
             have c1 : W1.cell? ⟨wr.heap.size, 1, none⟩ = some (.int .i64 x.k) := by rw [cell_of_row _ _ _ _ _ _ HW1.row]; rfl
             have c2 : W1.cell? ⟨wr.heap.size, 2, none⟩ = some (.int .u32 x.a) := by rw [cell_of_row _ _ _ _ _ _ HW1.row]; rfl
             clear HW1)
          | (at_mapUpdate; clear c1 c2; refine wpList_mapUpdate_own _ rfl _ _ _ 88 rfl 42 89 law_u32 Try.underlying88 unitElem (w.heap.size) k D1 rfl (HO1.out.kept (World.grownBy.but_of B1.out) (by simp)) (by unfold maxLen; omega) _ _ _ rfl rfl HKEY.out (.agg []) [] unitElem_mk ?_
             intro w1 hown1 hgrow1
             have HN := Lib.hid hown1; have HG := Lib.hid hgrow1
             clear hown1 hgrow1))
        try go_frame
        go_roundw
        case rel =>
          exact ⟨k + 1, by omega, by go_num, ⟨⟨_, HN.out, fun y hy => by rw [Ev.has_put HO1.out.isMap, HD1.out y hy, HTK.out, Ev.any_snoc, HB0.out y, Bool.or_comm]; congr 1⟩⟩, (H2.out.keep (World.grownBy.but_of B1.out) (by simp) (Nat.le_refl _) (fun _ _ => rfl)).keep HG.out (by simp) (Nat.le_succ _) (fun y hy => by rw [HTK.out, Ev.any_snoc, HA0.out y, Bool.or_false]), (HBR.out.trans (B1.out.mono HBR.out.size)).grown HG.out (Nat.le_trans HBR.out.size B1.out.size) (fun j hj => by cases hj; omega), Nat.le_trans (Nat.le_trans HWS.out B1.out.size) HG.out.size⟩
        case measure => simp [intOf]; omega
      · have q5 : (x.k == 5) = false := by rw [h5]; rfl
        have q1 : (x.k == 1) = true := by rw [h5]; rfl
        have q2 : (x.k == 2) = false := by rw [h5]; rfl
        have q3 : (x.k == 3) = false := by rw [h5]; rfl
        have HB0 := Lib.hid (show ∀ y, Ev.isBeg y x = false from fun y => by unfold Ev.isBeg; rw [q5]; rfl)
        have HA0 := Lib.hid (show ∀ y, Ev.isAcc y x = (x.a == y) from fun y => by unfold Ev.isAcc Ev.acc; rw [q1, q2, q3]; rfl)
        clear h5
        go_wp2_with (first
          | (show wpList _ _ _ (Oper.mk (some 14) _ _ _ _ _ :: _) _ _; refine wpList_load_at rfl 44 (.tmp 13) rfl g (o + k * 13) (by kernel_rfl) (Ev.cells x) _ HC.out Try.underlying44 rfl (by kernel_rfl) ?_)
          | (show wpList _ _ _ (Oper.mk none (Op.store 44 _ _) _ _ _ _ :: _) _ _; refine wpList_store_own rfl 44 (.tmp 6) (.tmp 14) rfl wr.heap.size (Ev.cells x).toArray rfl rfl 44 (Ev.cells Ev.R0).toArray (heap_alloc_new _ _) (by kernel_rfl) (by kernel_rfl) (by kernel_rfl) ?_
             intro W1 HW1
             have B1 := Lib.hid (((Below.refl wr.heap.size wr).alloc (Nat.le_refl _) _).trans HW1.below)
             have c1 : W1.cell? ⟨wr.heap.size, 1, none⟩ = some (.int .i64 x.k) := by rw [cell_of_row _ _ _ _ _ _ HW1.row]; rfl
             have c2 : W1.cell? ⟨wr.heap.size, 2, none⟩ = some (.int .u32 x.a) := by rw [cell_of_row _ _ _ _ _ _ HW1.row]; rfl
             clear HW1)
          | (at_mapUpdate; clear c1 c2; refine wpList_mapUpdate_own _ rfl _ _ _ 88 rfl 42 89 law_u32 Try.underlying88 unitElem (w.heap.size + 1) k D2 rfl (HO2.out.kept (World.grownBy.but_of B1.out) (by simp)) (by unfold maxLen; omega) _ _ _ rfl rfl HKEY.out (.agg []) [] unitElem_mk ?_
             intro w1 hown1 hgrow1
             have HN := Lib.hid hown1; have HG := Lib.hid hgrow1
             clear hown1 hgrow1))
        try go_frame
        go_roundw
        case rel =>
          exact ⟨k + 1, by omega, by go_num, (H1.out.keep (World.grownBy.but_of B1.out) (by simp) (Nat.le_refl _) (fun _ _ => rfl)).keep HG.out (by simp) (Nat.le_succ _) (fun y hy => by rw [HTK.out, Ev.any_snoc, HB0.out y, Bool.or_false]), ⟨⟨_, HN.out, fun y hy => by rw [Ev.has_put HO2.out.isMap, HD2.out y hy, HTK.out, Ev.any_snoc, HA0.out y, Bool.or_comm]; congr 1⟩⟩, (HBR.out.trans (B1.out.mono HBR.out.size)).grown HG.out (Nat.le_trans HBR.out.size B1.out.size) (fun j hj => by cases hj; omega), Nat.le_trans (Nat.le_trans HWS.out B1.out.size) HG.out.size⟩
        case measure => simp [intOf]; omega
      · have q5 : (x.k == 5) = false := by rw [h5]; rfl
        have q1 : (x.k == 1) = false := by rw [h5]; rfl
        have q2 : (x.k == 2) = true := by rw [h5]; rfl
        have q3 : (x.k == 3) = false := by rw [h5]; rfl
        have HB0 := Lib.hid (show ∀ y, Ev.isBeg y x = false from fun y => by unfold Ev.isBeg; rw [q5]; rfl)
        have HA0 := Lib.hid (show ∀ y, Ev.isAcc y x = (x.a == y) from fun y => by unfold Ev.isAcc Ev.acc; rw [q1, q2, q3]; rfl)
        clear h5
        go_wp2_with (first
          | (show wpList _ _ _ (Oper.mk (some 14) _ _ _ _ _ :: _) _ _; refine wpList_load_at rfl 44 (.tmp 13) rfl g (o + k * 13) (by kernel_rfl) (Ev.cells x) _ HC.out Try.underlying44 rfl (by kernel_rfl) ?_)
          | (show wpList _ _ _ (Oper.mk none (Op.store 44 _ _) _ _ _ _ :: _) _ _; refine wpList_store_own rfl 44 (.tmp 6) (.tmp 14) rfl wr.heap.size (Ev.cells x).toArray rfl rfl 44 (Ev.cells Ev.R0).toArray (heap_alloc_new _ _) (by kernel_rfl) (by kernel_rfl) (by kernel_rfl) ?_
             intro W1 HW1
             have B1 := Lib.hid (((Below.refl wr.heap.size wr).alloc (Nat.le_refl _) _).trans HW1.below)
             have c1 : W1.cell? ⟨wr.heap.size, 1, none⟩ = some (.int .i64 x.k) := by rw [cell_of_row _ _ _ _ _ _ HW1.row]; rfl
             have c2 : W1.cell? ⟨wr.heap.size, 2, none⟩ = some (.int .u32 x.a) := by rw [cell_of_row _ _ _ _ _ _ HW1.row]; rfl
             clear HW1)
          | (at_mapUpdate; clear c1 c2; refine wpList_mapUpdate_own _ rfl _ _ _ 88 rfl 42 89 law_u32 Try.underlying88 unitElem (w.heap.size + 1) k D2 rfl (HO2.out.kept (World.grownBy.but_of B1.out) (by simp)) (by unfold maxLen; omega) _ _ _ rfl rfl HKEY.out (.agg []) [] unitElem_mk ?_
             intro w1 hown1 hgrow1
             have HN := Lib.hid hown1; have HG := Lib.hid hgrow1
             clear hown1 hgrow1))
        try go_frame
        go_roundw
        case rel =>
          exact ⟨k + 1, by omega, by go_num, (H1.out.keep (World.grownBy.but_of B1.out) (by simp) (Nat.le_refl _) (fun _ _ => rfl)).keep HG.out (by simp) (Nat.le_succ _) (fun y hy => by rw [HTK.out, Ev.any_snoc, HB0.out y, Bool.or_false]), ⟨⟨_, HN.out, fun y hy => by rw [Ev.has_put HO2.out.isMap, HD2.out y hy, HTK.out, Ev.any_snoc, HA0.out y, Bool.or_comm]; congr 1⟩⟩, (HBR.out.trans (B1.out.mono HBR.out.size)).grown HG.out (Nat.le_trans HBR.out.size B1.out.size) (fun j hj => by cases hj; omega), Nat.le_trans (Nat.le_trans HWS.out B1.out.size) HG.out.size⟩
        case measure => simp [intOf]; omega
      · have q5 : (x.k == 5) = false := by rw [h5]; rfl
        have q1 : (x.k == 1) = false := by rw [h5]; rfl
        have q2 : (x.k == 2) = false := by rw [h5]; rfl
        have q3 : (x.k == 3) = true := by rw [h5]; rfl
        have HB0 := Lib.hid (show ∀ y, Ev.isBeg y x = false from fun y => by unfold Ev.isBeg; rw [q5]; rfl)
        have HA0 := Lib.hid (show ∀ y, Ev.isAcc y x = (x.a == y) from fun y => by unfold Ev.isAcc Ev.acc; rw [q1, q2, q3]; rfl)
        clear h5
        go_wp2_with (first
          | (show wpList _ _ _ (Oper.mk (some 14) _ _ _ _ _ :: _) _ _; refine wpList_load_at rfl 44 (.tmp 13) rfl g (o + k * 13) (by kernel_rfl) (Ev.cells x) _ HC.out Try.underlying44 rfl (by kernel_rfl) ?_)
          | (show wpList _ _ _ (Oper.mk none (Op.store 44 _ _) _ _ _ _ :: _) _ _; refine wpList_store_own rfl 44 (.tmp 6) (.tmp 14) rfl wr.heap.size (Ev.cells x).toArray rfl rfl 44 (Ev.cells Ev.R0).toArray (heap_alloc_new _ _) (by kernel_rfl) (by kernel_rfl) (by kernel_rfl) ?_
             intro W1 HW1
             have B1 := Lib.hid (((Below.refl wr.heap.size wr).alloc (Nat.le_refl _) _).trans HW1.below)
             have c1 : W1.cell? ⟨wr.heap.size, 1, none⟩ = some (.int .i64 x.k) := by rw [cell_of_row _ _ _ _ _ _ HW1.row]; rfl
             have c2 : W1.cell? ⟨wr.heap.size, 2, none⟩ = some (.int .u32 x.a) := by rw [cell_of_row _ _ _ _ _ _ HW1.row]; rfl
             clear HW1)
          | (at_mapUpdate; clear c1 c2; refine wpList_mapUpdate_own _ rfl _ _ _ 88 rfl 42 89 law_u32 Try.underlying88 unitElem (w.heap.size + 1) k D2 rfl (HO2.out.kept (World.grownBy.but_of B1.out) (by simp)) (by unfold maxLen; omega) _ _ _ rfl rfl HKEY.out (.agg []) [] unitElem_mk ?_
             intro w1 hown1 hgrow1
             have HN := Lib.hid hown1; have HG := Lib.hid hgrow1
             clear hown1 hgrow1))
        try go_frame
        go_roundw
        case rel =>
          exact ⟨k + 1, by omega, by go_num, (H1.out.keep (World.grownBy.but_of B1.out) (by simp) (Nat.le_refl _) (fun _ _ => rfl)).keep HG.out (by simp) (Nat.le_succ _) (fun y hy => by rw [HTK.out, Ev.any_snoc, HB0.out y, Bool.or_false]), ⟨⟨_, HN.out, fun y hy => by rw [Ev.has_put HO2.out.isMap, HD2.out y hy, HTK.out, Ev.any_snoc, HA0.out y, Bool.or_comm]; congr 1⟩⟩, (HBR.out.trans (B1.out.mono HBR.out.size)).grown HG.out (Nat.le_trans HBR.out.size B1.out.size) (fun j hj => by cases hj; omega), Nat.le_trans (Nat.le_trans HWS.out B1.out.size) HG.out.size⟩
        case measure => simp [intOf]; omega
      · obtain ⟨n5, n1, n2, n3⟩ := h5
        have q5 : (x.k == 5) = false := by simpa using n5
        have q1 : (x.k == 1) = false := by simpa using n1
        have q2 : (x.k == 2) = false := by simpa using n2
        have q3 : (x.k == 3) = false := by simpa using n3
        have HB0 := Lib.hid (show ∀ y, Ev.isBeg y x = false from fun y => by unfold Ev.isBeg; rw [q5]; rfl)
        have HA0 := Lib.hid (show ∀ y, Ev.isAcc y x = false from fun y => by unfold Ev.isAcc Ev.acc; rw [q1, q2, q3]; rfl)
        clear n5 n1 n2 n3
        go_wp2_with (first
          | (show wpList _ _ _ (Oper.mk (some 14) _ _ _ _ _ :: _) _ _; refine wpList_load_at rfl 44 (.tmp 13) rfl g (o + k * 13) (by kernel_rfl) (Ev.cells x) _ HC.out Try.underlying44 rfl (by kernel_rfl) ?_)
          | (show wpList _ _ _ (Oper.mk none (Op.store 44 _ _) _ _ _ _ :: _) _ _; refine wpList_store_own rfl 44 (.tmp 6) (.tmp 14) rfl wr.heap.size (Ev.cells x).toArray rfl rfl 44 (Ev.cells Ev.R0).toArray (heap_alloc_new _ _) (by kernel_rfl) (by kernel_rfl) (by kernel_rfl) ?_
             intro W1 HW1
             have B1 := Lib.hid (((Below.refl wr.heap.size wr).alloc (Nat.le_refl _) _).trans HW1.below)
             have c1 : W1.cell? ⟨wr.heap.size, 1, none⟩ = some (.int .i64 x.k) := by rw [cell_of_row _ _ _ _ _ _ HW1.row]; rfl
             have c2 : W1.cell? ⟨wr.heap.size, 2, none⟩ = some (.int .u32 x.a) := by rw [cell_of_row _ _ _ _ _ _ HW1.row]; rfl
             clear HW1))
        go_roundw
        case rel =>
          exact ⟨k + 1, by omega, by go_num, H1.out.keep (World.grownBy.but_of B1.out) (by simp) (Nat.le_succ _) (fun y hy => by rw [HTK.out, Ev.any_snoc, HB0.out y, Bool.or_false]), H2.out.keep (World.grownBy.but_of B1.out) (by simp) (Nat.le_succ _) (fun y hy => by rw [HTK.out, Ev.any_snoc, HA0.out y, Bool.or_false]), HBR.out.trans (B1.out.mono HBR.out.size), Nat.le_trans HWS.out B1.out.size⟩
        case measure => simp [intOf]; omega
    · have hkk : k = xs.length := by omega
      have hki : ¬ (k : Int) < (xs.length : Int) := by omega
      obtain ⟨D1, ho1, hD1⟩ := H1.out.ex
      obtain ⟨D2, ho2, hD2⟩ := H2.out.ex
      rw [hkk, List.take_length] at hD1 hD2
      have MEQ := Lib.hid (mapsEq_any w.heap.size (w.heap.size + 1) k k D1 D2 ⟨by omega, by omega⟩ wr ho1 ho2)
      have HIFF := Lib.hid (show (Maps.size D1 = Maps.size D2 ∧ Ev.SubS D1 D2) ↔ Ev.begun xs = true by
        rw [Ev.eq_iff ho1 ho2, Ev.begun_iff xs (fun x hx => (HIN.out.ok x hx).a)]
        exact forall_congr' fun y => forall_congr' fun hy => by rw [hD1 y hy, hD2 y hy])
      clear ho1 hD1 ho2 hD2 hkk
      go_wp2_with fail
      refine MEQ.out.mono ?_
      rintro e w2 ⟨r, rfl, hr, hb⟩
      have hre : Ev.begun xs = r := by rw [Bool.eq_iff_iff]; exact HIFF.out.symm.trans hr.symm
      have HRE := Lib.hid hre; have HB := Lib.hid (HBR.out.trans (hb.mono HBR.out.size))
      clear hr hb hre
      go_wp2_with fail
      go_ret
      exact ⟨by rw [HRE.out]; rfl, HB.out⟩
end Go.Proofs.Ytkcjmaajkhcjfaa
