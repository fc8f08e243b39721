import Derived.Test.YtecnnkidalkmfaaGreatKc36
import Derived.Test.YtecnnkidalkmfaaGreatKc03
import Derived.Maps.OwnRows
import Derived.Maps.Range
import Derived.Laws.AppendOwn
import Derived.Maps.AppendAt
set_option linter.unusedVariables false
set_option linter.unusedSimpArgs false

section
namespace Go.Proofs.YtecnnkidalkmfaaGreat
open Go.RowKit
set_option maxRecDepth 100000 in
set_option maxHeartbeats 2000000 in
theorem po1_any (x : Ev.X) (q a b : Nat) (ha : a < x.ev.length) (hb : b < x.ev.length) (w : World) (hbx : Ev.Bx w q x) :
    Calls Tryz.prog 121 #[.int .i64 (a : Int), .int .i64 (b : Int), .pointer (some ⟨q, 0, none⟩)] w fun e w' => e = .returned (.int .i64 (Ev.bondPo x a b)) ∧ Below w.heap.size w w' := by
  obtain ⟨ea, hea⟩ : ∃ e, x.ev[a]? = some e := ⟨_, List.getElem?_eq_getElem ha⟩
  obtain ⟨eb, heb⟩ : ∃ e, x.ev[b]? = some e := ⟨_, List.getElem?_eq_getElem hb⟩
  obtain ⟨g, o, eg, hcx⟩ := hbx.xin.ev.at_ hea
  obtain ⟨g', o', eg', hcy⟩ := hbx.xin.ev.at_ heb
  obtain ⟨rfl, rfl⟩ : g' = g ∧ o' = o := by rw [eg] at eg'; cases eg'; exact ⟨rfl, rfl⟩
  have hl1 := hbx.xin.ev.le; have hl2 := hbx.xin.ev.max
  have hna := Ev.nth_some hea; have hnb := Ev.nth_some heb
  have HRES := Lib.hid (show Ev.bondPo x a b = if ea.k = 5 ∨ ea.h < eb.h then 2 else Ev.bnd (decide ((a : Int) < (b : Int))) by unfold Ev.bondPo; rw [hna, hnb])
  have c0 := hbx.c0
  rw [eg] at c0
  have HX := Lib.hid hcx; have HY := Lib.hid hcy
  have LX := Lib.hid (fun (z : World) (hz : Og.Std w z) => Ev.ld (w := z) (g := g') (o := o' + a * 13) (x := ea) (fun i c hi => Og.std_cell hz (HX.out i c hi)))
  have LY := Lib.hid (fun (z : World) (hz : Og.Std w z) => Ev.ld (w := z) (g := g') (o := o' + b * 13) (x := eb) (fun i c hi => Og.std_cell hz (HY.out i c hi)))
  have LB := Lib.hid (fun (z : World) (hz : Og.Std w z) => run_load_slice (P := Tryz.prog) Tryz.underlying22 (Og.std_cell hz c0))
  have hai : (a : Int) < (x.ev.length : Int) := by omega
  have hbi : (b : Int) < (x.ev.length : Int) := by omega
  clear hea heb eg eg' hcx hcy hna hnb hbx c0
  go_enter Tryz.func121, Tryz.ntmps121
  go_wp2
  refine wp_region_held (S := Og.Std w) (by kernel_rfl) ?_
  have S0 : Og.Std w { w with drawn := w.drawn + 1 } := ⟨rfl, rfl, rfl, Nat.le_refl _, fun _ _ => rfl⟩
  refine Og.held_take 0 _ (.pointer (some ⟨q, 0, none⟩)) _ rfl rfl (by kernel_rfl) (by kernel_rfl) (by kernel_rfl) (fun _ _ _ h => h) S0 (fun x hx => ?_) (by simp only [Act.put, List.setIfInBounds_toArray, List.set_cons_zero, List.set_cons_succ]; rfl) ?_
  · go_simp; try (with_reducible rfl)
  refine Og.held_take 1 _ (.slice (some ⟨g', o', none⟩) x.ev.length x.ce) _ rfl rfl (by kernel_rfl) (by kernel_rfl) (by kernel_rfl) (fun _ _ _ h => h) S0 (fun x hx => ?_) (by simp only [Act.put, List.setIfInBounds_toArray, List.set_cons_zero, List.set_cons_succ]; rfl) ?_
  · exact Og.load_run 22 (.tmp 8) rfl ⟨q, 0, none⟩ (by kernel_rfl) (LB.out _ hx)
  refine Og.held_take 2 _ (.int .i64 (a : Int)) _ rfl rfl (by kernel_rfl) (by kernel_rfl) (by kernel_rfl) (fun _ _ _ h => h) S0 (fun x hx => ?_) (by simp only [Act.put, List.setIfInBounds_toArray, List.set_cons_zero, List.set_cons_succ]; rfl) ?_
  · go_simp; try (with_reducible rfl)
  refine Og.held_take 3 _ (.pointer (some ⟨g', o' + a * 13, none⟩)) _ rfl rfl (by kernel_rfl) (by kernel_rfl) (by kernel_rfl) (fun _ _ _ h => h) S0 (fun x hx => ?_) (by simp only [Act.put, List.setIfInBounds_toArray, List.set_cons_zero, List.set_cons_succ]; rfl) ?_
  · go_simp; try (with_reducible rfl)
  refine Og.held_take 4 _ (.agg (Ev.cells ea).toArray) _ rfl rfl (by kernel_rfl) (by kernel_rfl) (by kernel_rfl) (fun _ _ _ h => h) S0 (fun x hx => ?_) (by simp only [Act.put, List.setIfInBounds_toArray, List.set_cons_zero, List.set_cons_succ]; rfl) ?_
  · exact Og.load_run 48 (.tmp 11) rfl ⟨g', o' + a * 13, none⟩ (by kernel_rfl) (LX.out _ hx)
  refine Og.held_take 5 _ (.pointer (some ⟨q, 0, none⟩)) _ rfl rfl (by kernel_rfl) (by kernel_rfl) (by kernel_rfl) (fun _ _ _ h => h) S0 (fun x hx => ?_) (by simp only [Act.put, List.setIfInBounds_toArray, List.set_cons_zero, List.set_cons_succ]; rfl) ?_
  · go_simp; try (with_reducible rfl)
  refine Og.held_take 6 _ (.slice (some ⟨g', o', none⟩) x.ev.length x.ce) _ rfl rfl (by kernel_rfl) (by kernel_rfl) (by kernel_rfl) (fun _ _ _ h => h) S0 (fun x hx => ?_) (by simp only [Act.put, List.setIfInBounds_toArray, List.set_cons_zero, List.set_cons_succ]; rfl) ?_
  · exact Og.load_run 22 (.tmp 13) rfl ⟨q, 0, none⟩ (by kernel_rfl) (LB.out _ hx)
  refine Og.held_take 7 _ (.int .i64 (b : Int)) _ rfl rfl (by kernel_rfl) (by kernel_rfl) (by kernel_rfl) (fun _ _ _ h => h) S0 (fun x hx => ?_) (by simp only [Act.put, List.setIfInBounds_toArray, List.set_cons_zero, List.set_cons_succ]; rfl) ?_
  · go_simp; try (with_reducible rfl)
  refine Og.held_take 8 _ (.pointer (some ⟨g', o' + b * 13, none⟩)) _ rfl rfl (by kernel_rfl) (by kernel_rfl) (by kernel_rfl) (fun _ _ _ h => h) S0 (fun x hx => ?_) (by simp only [Act.put, List.setIfInBounds_toArray, List.set_cons_zero, List.set_cons_succ]; rfl) ?_
  · go_simp; try (with_reducible rfl)
  refine Og.held_take 9 _ (.agg (Ev.cells eb).toArray) _ rfl rfl (by kernel_rfl) (by kernel_rfl) (by kernel_rfl) (fun _ _ _ h => h) S0 (fun x hx => ?_) (by simp only [Act.put, List.setIfInBounds_toArray, List.set_cons_zero, List.set_cons_succ]; rfl) ?_
  · exact Og.load_run 48 (.tmp 16) rfl ⟨g', o' + b * 13, none⟩ (by kernel_rfl) (LY.out _ hx)
  refine Og.four (p := 10) (q := 11) (s1 := 12) (s2 := 13) (dp := 6) (dq := 7) (x1 := 12) (x2 := 17) (T := 48) (Z := (Ev.cells Ev.R0).toArray) (c1 := (Ev.cells ea).toArray) (c2 := (Ev.cells eb).toArray)
    ⟨⟨_, rfl, rfl, rfl, fun ρ w => by kernel_rfl⟩, ⟨_, rfl, rfl, rfl, fun ρ w => by kernel_rfl⟩, ⟨_, rfl, rfl, rfl, rfl⟩, ⟨_, rfl, rfl, rfl, rfl⟩, (by kernel_rfl), (by kernel_rfl), (by kernel_rfl), (by kernel_rfl), (by kernel_rfl), (by kernel_rfl), (by kernel_rfl), (by kernel_rfl), (by kernel_rfl), (by kernel_rfl), (by kernel_rfl), of_decide_eq_true (by kernel_rfl), of_decide_eq_true (by kernel_rfl), (by decide), rfl, rfl, (by kernel_rfl), (by kernel_rfl), (by kernel_rfl), (by kernel_rfl)⟩ S0 ?_
  intro W g1 g2 HT
  simp only [Act.put, List.setIfInBounds_toArray, List.set_cons_zero, List.set_cons_succ]
  have R1 := Lib.hid HT.r1; have R2 := Lib.hid HT.r2; have BW := Lib.hid HT.below
  clear HT S0
  have c1 : W.cell? ⟨g1, 1, none⟩ = some (.int .i64 ea.k) := by rw [cell_of_row _ _ _ _ _ _ R1.out]; rfl
  have c2 : W.cell? ⟨g1, 0, none⟩ = some (.int .i64 ea.h) := by rw [cell_of_row _ _ _ _ _ _ R1.out]; rfl
  have c3 : W.cell? ⟨g2, 0, none⟩ = some (.int .i64 eb.h) := by rw [cell_of_row _ _ _ _ _ _ R2.out]; rfl
  by_cases h5 : ea.k = 5
  · have q5 : (ea.k == 5) = true := by simp [h5]
    have HE := Lib.hid (show Ev.bondPo x a b = 2 by rw [HRES.out, if_pos (.inl h5)])
    clear h5
    go_wp2_with fail
    go_ret
    exact ⟨by rw [HE.out]; rfl, BW.out⟩
  have q5 : (ea.k == 5) = false := by simpa using h5
  by_cases hh : ea.h < eb.h
  · have HE := Lib.hid (show Ev.bondPo x a b = 2 by rw [HRES.out, if_pos (.inr hh)])
    clear h5
    go_wp2_with fail
    go_ret
    exact ⟨by rw [HE.out]; rfl, BW.out⟩
  have HE := Lib.hid (show Ev.bondPo x a b = Ev.bnd (decide ((a : Int) < (b : Int))) by rw [HRES.out, if_neg (by intro h; rcases h with h | h; exact h5 h; exact hh h)])
  clear h5
  go_wp2_with (go_at_call 109; refine (bond_is _ _).mono ?_; rintro e w' ⟨rfl, rfl⟩)
  go_ret
  exact ⟨by rw [HE.out]; first | rfl | (simp; done), BW.out⟩
theorem po_makes (x : Ev.X) (w : World) : Ev.Makes w x 103 (Ev.bondPo x) := by
  intro W hin
  have HIN := Lib.hid hin; clear hin
  have HBX := Lib.hid (Ev.bx_new HIN.out)
  have B0 := Lib.hid ((Below.refl W.heap.size W).alloc (Nat.le_refl _) (.cells (Ev.xcells x).toArray 26))
  unfold Ev.exV Ev.xcells
  go_enter Tryz.func103, Tryz.ntmps103
  go_wp2
  go_ret
  refine ⟨121, #[.pointer (some ⟨W.heap.size, 0, none⟩)], rfl, Ev.enters_of _ (fun args w => by kernel_rfl), B0.out, fun W2 hb a b ha hb' => ?_⟩
  exact po1_any x W.heap.size a b ha hb' W2 (HBX.out.kp hb)
end Go.Proofs.YtecnnkidalkmfaaGreat
end

section
namespace Go.Proofs.YtecnnkidalkmfaaGreat
open Go.RowKit Go.Maps Go.WideElems Go.ChangeShapes
section
variable {H : Type} {P : Program} {k E e t : TypeId} {q : IntKind} {w : World} {base b n : Nat} {D : DataW H} {key : Value} {kl : Lit}
theorem groups_look (h : w.ownsGroups P k base e q b n D) (K : Keyed P k) (ht : P.underlying t = some (.map k E)) (hz : ∀ x, (zeroValue E).run P x = .ok (.slice none 0 0) x) (hn : n < maxLen) (hkey : keyOf P k key = some kl) :
    ∃ v zs, (∀ x, Below w.heap.size w x → (Instr.lookup t (.map (some b)) key false).run P x = .ok v x) ∧ D.atKey kl .nil = rowDatum q v zs ∧ w.ownsInts base e q v zs ∧ zs.length ≤ n ∧ w.groupBack P t k base e q b n D key kl v := by
  obtain ⟨v, zs, hrun, hat, hoi, hzl, hback⟩ := h.at (t := t) (E := E) K ht (hz w) hn hkey
  refine ⟨v, zs, fun x hx => ?_, hat, hoi, hzl, hback⟩
  obtain ⟨es, clock, hb, F, hs, hD, hbb, hlen, hap⟩ := h
  have hbx : x.heap[b]? = some (.map es clock) := (hx.block b (Array.getElem?_eq_some_iff.1 hb).1).trans hb
  have ok_inj : ∀ {x : World} {a c : Value}, (Result.ok a x : Result Value) = Result.ok c x → a = c := fun h => by injection h
  rcases Maps.fit_look false K ht (hz w) hb F hkey with ⟨r1, m1, _⟩ | ⟨e0, y0, hm0, hk0, r1, _, _, _⟩
  · rcases Maps.fit_look false K ht (hz x) hbx F hkey with ⟨r2, m2, _⟩ | ⟨e1, y1, hm1, hk1, r2, _, _, _⟩
    · have := ok_inj (hrun.symm.trans r1); simp at this
      rw [r2, this]; rfl
    · exact absurd hk1 (m1 e1 hm1)
  · rcases Maps.fit_look false K ht (hz x) hbx F hkey with ⟨r2, m2, _⟩ | ⟨e1, y1, hm1, hk1, r2, _, _, _⟩
    · exact absurd hk0 (m2 e0 hm0)
    · have he : e0 = e1 := entry_eq_of_key (List.pairwise_map.1 F.stamped.2.2) hm0 hm1 (hk0.trans hk1.symm)
      subst he
      have := ok_inj (hrun.symm.trans r1); simp at this
      rw [r2, this]; rfl
end
namespace Ev
def rd (zs : List Int) : DataW Unit := if zs = [] then .nil else .slice (lits .i64 zs) []
theorem lits_inj : ∀ {a c : List Int}, (lits (H := Unit) .i64 a) = lits .i64 c → a = c := by
  intro a c h
  have h2 := congrArg (List.map fun d : DataW Unit => match d with | .lit (.int _ n) => n | _ => 0) h
  have h3 : ∀ l : List Int, (lits (H := Unit) .i64 l).map (fun d : DataW Unit => match d with | .lit (.int _ n) => n | _ => 0) = l := by
    intro l; induction l with
    | nil => rfl
    | cons x r ih => simp only [lits, List.map_cons] at ih ⊢; rw [ih]
  rw [h3, h3] at h2; exact h2
theorem rd_of {w : World} {base : Nat} {e : TypeId} {v : Value} {zs S : List Int} (ho : w.ownsInts base e .i64 v zs) (h : rd S = rowDatum .i64 v zs) : zs = S := by
  rcases ho.datum (H := Unit) with ⟨h1, h2⟩ | h1
  · rw [h1] at h; unfold rd at h
    split at h
    · rename_i e; rw [h2, e]
    · cases h
  · rw [h1] at h; unfold rd at h
    split at h
    · cases h
    · injection h with h; exact (lits_inj h).symm
def succs (ps : List (Int × Int)) (y : Int) : List Int := (ps.filter fun p => p.1 == y).map (·.2)
theorem succs_snoc (ps : List (Int × Int)) (p : Int × Int) (y : Int) : succs (ps ++ [p]) y = if p.1 = y then succs ps y ++ [p.2] else succs ps y := by
  unfold succs
  rw [List.filter_append, List.map_append]
  by_cases h : p.1 = y
  · simp [h]
  · rw [if_neg h]; simp [h]
theorem mem_succs {ps : List (Int × Int)} {y z : Int} : z ∈ succs ps y ↔ (y, z) ∈ ps := by
  unfold succs
  constructor
  · intro h
    obtain ⟨p, hp, rfl⟩ := List.mem_map.1 h
    obtain ⟨h1, h2⟩ := List.mem_filter.1 hp
    have : p.1 = y := by simpa using h2
    subst this; exact h1
  · intro h
    exact List.mem_map.2 ⟨(y, z), List.mem_filter.2 ⟨h, by simp⟩, rfl⟩
structure GroupsAre (w : World) (base b n : Nat) (ps : List (Int × Int)) : Prop where
  ex : ∃ D : DataW Unit, w.ownsGroups Tryz.prog 3 base 3 .i64 b n D ∧ ∀ y, i64B y → D.atKey (.int .i64 y) .nil = rd (succs ps y)
theorem groups_isMap {H : Type} {P : Program} {k e : TypeId} {q : IntKind} {w : World} {base b n : Nat} {D : DataW H} (h : w.ownsGroups P k base e q b n D) : IsMap D := by
  obtain ⟨es, clock, _, _, _, hD, _⟩ := h
  exact ⟨_, hD⟩
theorem groups_step {D : DataW Unit} {ps : List (Int × Int)} {x z : Int} (hm : IsMap D) (hD : ∀ y, i64B y → D.atKey (.int .i64 y) .nil = rd (succs ps y)) (y : Int) (hy : i64B y) :
    (D.put (.int .i64 x) (.slice (lits .i64 (succs ps x ++ [z])) [])).atKey (.int .i64 y) .nil = rd (succs (ps ++ [(x, z)]) y) := by
  rw [succs_snoc]
  by_cases h : x = y
  · subst h
    rw [Maps.atKey_put_same hm (iskey_int _ _), if_pos rfl]
    unfold rd; rw [if_neg (by simp)]
  · rw [Maps.atKey_put_other (by intro e; injection e with _ e; exact h e.symm), hD y hy, if_neg h]
def NextIn (w : World) (b : Nat) (F : Int → List Int) : Prop :=
  ∀ w', Below w.heap.size w w' → ∀ y, i64B y → ∃ s : Sl, s.l = F y ∧ IntsIn w' s ∧ (Instr.lookup 152 (.map (some b)) (.int .i64 y) false).run Tryz.prog w' = .ok (.slice s.a s.l.length s.c) w'
theorem NextIn.below {w w' : World} {b : Nat} {F : Int → List Int} (h : NextIn w b F) (hb : Below w.heap.size w w') : NextIn w' b F :=
  fun x hx y hy => h x (hb.trans (hx.mono hb.size)) y hy
theorem zero_ints (w : World) : (zeroValue 23).run Tryz.prog w = .ok (.slice none 0 0) w := by kernel_rfl
theorem ints_of_own {w : World} {base : Nat} {e : TypeId} {v : Value} {zs : List Int} (h : w.ownsInts base e .i64 v zs) : ∃ s : Sl, v = .slice s.a s.l.length s.c ∧ s.l = zs ∧ IntsIn w s := by
  have hb : ∀ z ∈ zs, i64B z := fun z hz => by
    have := h.2 z hz
    have h1 : IntKind.i64.min = -9223372036854775808 := by decide
    have h2 : IntKind.i64.max = 9223372036854775807 := by decide
    simp only [Lit.wf, h1, h2, Bool.and_eq_true, decide_eq_true_eq] at this
    exact this
  rcases h.1.2 with ⟨rfl, hn⟩ | ⟨g, cap, cur, rfl, _, hh, hnc, hcm, _, ht⟩
  · refine ⟨⟨none, 0, zs⟩, by simp [hn], rfl, fun hp => ?_, by show zs.length ≤ 0; omega, by show (0 : Nat) ≤ _; omega, hb⟩
    exfalso; have : 0 < zs.length := hp; omega
  · refine ⟨⟨some ⟨g, 0, none⟩, cap, zs⟩, rfl, rfl, fun _ => ⟨g, 0, rfl, fun j v hv => ?_⟩, hnc, by unfold maxLen at hcm; exact hcm, hb⟩
    have h1 : (zs.map (Value.int .i64))[j]? = some (.int .i64 v) := by rw [List.getElem?_map, hv]; rfl
    rw [← ht, List.getElem?_take] at h1
    split at h1
    · rw [cell_of_row w g _ cur e (0, 0) hh]; simpa using h1
    · cases h1
theorem next_of {w : World} {base b n : Nat} {ps : List (Int × Int)} (h : GroupsAre w base b n ps) (hn : n < maxLen) : NextIn w b (succs ps) := by
  obtain ⟨D, ho, hD⟩ := h.ex
  intro w' hb y hy
  obtain ⟨v, zs, hrun, hat, hoi, _, _⟩ := groups_look ho law_int Tryz.underlying152 zero_ints hn (keyOf_int_mk (P := Tryz.prog) Tryz.underlying3 (wf_of_i64 hy))
  rw [hD y hy] at hat
  have hz := rd_of hoi hat
  obtain ⟨s, hv, hs, hin⟩ := ints_of_own hoi
  exact ⟨s, hs.trans hz, hin.kp (kp_below hb), by rw [hrun w' hb, hv]⟩
end Ev
end Go.Proofs.YtecnnkidalkmfaaGreat
end
