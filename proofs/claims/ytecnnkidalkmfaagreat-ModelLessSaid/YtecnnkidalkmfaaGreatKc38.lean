import Derived.Test.YtecnnkidalkmfaaGreatKc37
import Derived.Test.YtecnnkidalkmfaaGreatKc35
import Derived.Deep.AppendLies
import Derived.Test.YtecnnkidalkmfaaGreatKc11
import Derived.Test.YtecnnkidalkmfaaGreatKc07
import Derived.Laws.Entries
set_option linter.unusedVariables false
set_option linter.unusedSimpArgs false

section
namespace Go.Proofs.YtecnnkidalkmfaaGreat
open Go.RowKit Go.Maps
theorem zero_look (w : World) : (zeroValue 167).run Tryz.prog w = .ok (.int .i64 0) w := by kernel_rfl
namespace Ev
structure DEnv where
  ps : List (Int × Int)
  n : Nat
  W0 : World
  W1 : World
  cL : Nat
  cN : Nat
  cF : Nat
  mb : Nat
  nb : Nat
def DEnv.clo (e : DEnv) : Value := .func (.func 149) #[] #[.pointer (some ⟨e.cL, 0, none⟩), .pointer (some ⟨e.cN, 0, none⟩), .pointer (some ⟨e.cF, 0, none⟩)]
structure DOk (e : DEnv) : Prop where
  r : InR e.n e.ps
  next : NextIn e.W0 e.nb (succs e.ps)
  b0 : Below e.W0.heap.size e.W0 e.W1
  kL : e.W1.cell? ⟨e.cL, 0, none⟩ = some (.map (some e.mb))
  kN : e.W1.cell? ⟨e.cN, 0, none⟩ = some (.map (some e.nb))
  kF : e.W1.cell? ⟨e.cF, 0, none⟩ = some e.clo
  mb0 : e.W0.heap.size ≤ e.mb
  nL : e.cL ≠ e.mb
  nN : e.cN ≠ e.mb
  nF : e.cF ≠ e.mb
structure DIn (e : DEnv) (w : World) (L : Int → Int) (l : List Int) : Prop where
  g : e.W1.grownBy w (some e.mb)
  m : ∃ (D : DataW Unit) (k : Nat), w.ownsMap Tryz.prog 3 (plainElem Tryz.prog 167) e.mb k D ∧ (∀ x, i64B x → D.atKey (.int .i64 x) (.lit (.int .i64 0)) = .lit (.int .i64 (L x))) ∧ k + pot L e.n ≤ 2 * e.n
  ok : Looked e.ps L l
theorem cell_far {a w : World} {mb c : Nat} {v : Value} (g : a.grownBy w (some mb)) (h : a.cell? ⟨c, 0, none⟩ = some v) (hn : c ≠ mb) : w.cell? ⟨c, 0, none⟩ = some v :=
  (g.cell_far _ (World.block_lt_of_cell? a _ h) (by intro e; injection e with e; exact hn e)).trans h
theorem kp_map {w w' : World} {P : Program} {k : TypeId} {R : Value → Option (DataW Unit × List MemPlace)} {mb n : Nat} {D : DataW Unit} (h : w.ownsMap P k R mb n D) (g : w.grownBy w' (some mb)) : Kp w w' := fun p v hp => by
  obtain ⟨es, clock, hb, _⟩ := h
  have hne : p.block ≠ mb := by
    intro e
    unfold World.cell? at hp
    rw [e, hb] at hp
    simp at hp
  exact (g.cell_far p (World.block_lt_of_cell? w p hp) (by intro e; injection e with e; exact hne e)).trans hp
theorem grown_trans {a b c : World} {mb : Nat} (h : a.grownBy b (some mb)) (k : b.grownBy c (some mb)) : a.grownBy c (some mb) := h.andThen k fun _ e => .inr e
theorem DIn.b0 {e : DEnv} {w : World} {L : Int → Int} {l : List Int} (h : DIn e w L l) (ho : DOk e) : Below e.W0.heap.size e.W0 w :=
  ho.b0.grown h.g ho.b0.size (fun k hk => by cases hk; exact ho.mb0)
theorem DIn.look {e : DEnv} {w : World} {L : Int → Int} {l : List Int} (h : DIn e w L l) {p : Int} (hp : i64B p) : (Instr.lookup 166 (.map (some e.mb)) (.int .i64 p) false).run Tryz.prog w = .ok (.int .i64 (L p)) w := by
  obtain ⟨D, k, ho, hD, _⟩ := h.m
  obtain ⟨c', hrun, hat', _⟩ := ho.lookup_int law_int Tryz.underlying166 Tryz.underlying167 (zero_look _) (keyOf_int_mk (P := Tryz.prog) Tryz.underlying3 (wf_of_i64 hp))
  rw [hD p hp] at hat'
  rw [hrun, ← (Lit.int.inj (DataW.lit.inj hat')).2]
theorem look_step {D : DataW Unit} {L : Int → Int} {p v : Int} (hm : IsMap D) (hD : ∀ x, i64B x → D.atKey (.int .i64 x) (.lit (.int .i64 0)) = .lit (.int .i64 (L x))) (x : Int) (hx : i64B x) :
    (D.put (.int .i64 p) (.lit (.int .i64 v))).atKey (.int .i64 x) (.lit (.int .i64 0)) = .lit (.int .i64 (upd L p v x)) := by
  by_cases h : x = p
  · subst h; rw [Maps.atKey_put_same hm (iskey_int _ _), upd_same]
  · rw [Maps.atKey_put_other (by intro e; injection e with _ e; exact h e), hD x hx, upd_other L h]
def LPost (e : DEnv) (w : World) (L : Int → Int) (l : List Int) (all : List Int) (yes no : Ending → Prop) (r : Ending) (w' : World) : Prop :=
  (yes r ∧ Cyc e.ps ∧ w.grownBy w' (some e.mb)) ∨
  (no r ∧ w.grownBy w' (some e.mb) ∧ ∃ L' l', DIn e w' L' l' ∧ (∀ v ∈ all, v ∈ l') ∧ (∀ v ∈ l, v ∈ l') ∧ (∀ x, L' x = 1 ↔ L x = 1) ∧ pot L' e.n ≤ pot L e.n)
def isB (b : Bool) (r : Ending) : Prop := r = .returned (.bool b)
def isIx (r : Ending) : Prop := ∃ i : Nat, r = .returned (.int .i64 (i : Int)) ∧ i < 9223372036854775807
def isNo (r : Ending) : Prop := r = .returned (.int .i64 (-1))
def LeadsOk (e : DEnv) (m : Nat) : Prop := ∀ (w : World) (L : Int → Int) (l : List Int) (p : Int), DIn e w L l → 0 ≤ p → p < e.n → (∀ u, L u = 1 → Path e.ps u p) → pot L e.n < m →
  Calls Tryz.prog 149 #[.int .i64 p, .pointer (some ⟨e.cL, 0, none⟩), .pointer (some ⟨e.cN, 0, none⟩), .pointer (some ⟨e.cF, 0, none⟩)] w (LPost e w L l [p] (isB true) (isB false))
end Ev
set_option maxRecDepth 100000 in
set_option maxHeartbeats 2000000 in
theorem ix_any (e : Ev.DEnv) (m : Nat) (IH : Ev.LeadsOk e m) (s : Ev.Sl) (w : World) (L : Int → Int) (l : List Int) (hin : Ev.DIn e w L l) (hs : Ev.IntsIn w s) (hr : ∀ v ∈ s.l, 0 ≤ v ∧ v < e.n) (hp : ∀ v ∈ s.l, ∀ u, L u = 1 → Ev.Path e.ps u v) (hm : Ev.pot L e.n < m) :
    Calls Tryz.prog 93 #[.slice s.a s.l.length s.c, e.clo] w (Ev.LPost e w L l s.l Ev.isIx Ev.isNo) := by
  have HIN := Lib.hid hin; have HS := Lib.hid hs; have HR := Lib.hid hr; have HP := Lib.hid hp; have HIH := Lib.hid IH
  have hsc := hs.2.1; have hsm := hs.2.2.1
  clear hin hs hr hp IH
  unfold Ev.DEnv.clo
  go_enter Tryz.func93, Tryz.ntmps93
  go_wp2
  go_loopw [5, 8] (fun _ i wr => ∃ k : Nat, k ≤ s.l.length ∧ i = .int .i64 (k : Int) ∧ w.grownBy wr (some e.mb) ∧ ∃ L' l', Ev.DIn e wr L' l' ∧ (∀ j v, j < k → s.l[j]? = some v → v ∈ l') ∧ (∀ v ∈ l, v ∈ l') ∧ (∀ x, L' x = 1 ↔ L x = 1) ∧ Ev.pot L' e.n ≤ Ev.pot L e.n) (fun _ i _ => s.l.length - (intOf i).toNat)
  case atStart => exact ⟨0, Nat.zero_le _, rfl, World.grownBy.refl _ _, L, l, HIN.out, fun j v hj => absurd hj (by omega), fun v hv => hv, fun x => Iff.rfl, Nat.le_refl _⟩
  case round =>
    obtain ⟨k, hk, rfl, hg, L', l', hd, hall, hsub, hone, hpot⟩ := hrel
    have HG := Lib.hid hg; have HD := Lib.hid hd; have HALL := Lib.hid hall; have HSUB := Lib.hid hsub; have HONE := Lib.hid hone
    obtain ⟨D0, k0, ho0, _⟩ := HIN.out.m
    have KW := Lib.hid (Ev.kp_map ho0 hg)
    clear hg hd hall hsub hone ho0
    by_cases hlt : k < s.l.length
    · obtain ⟨v, hv⟩ : ∃ v, s.l[k]? = some v := ⟨_, List.getElem?_eq_getElem hlt⟩
      obtain ⟨g, o, ea, hc⟩ := HS.out.at_ hv
      have hc' := KW.out _ _ hc
      have hvm := List.mem_of_getElem? hv
      have HV := Lib.hid hv; have HVM := Lib.hid hvm
      have hki : (k : Int) < (s.l.length : Int) := by omega
      have CALL := Lib.hid (HIH.out wr L' l' v HD.out (HR.out v hvm).1 (HR.out v hvm).2 (fun u hu => HP.out v hvm u ((HONE.out u).1 hu)) (by omega))
      clear hv hvm hc
      rw [ea]; clear ea
      go_wp2_with fail
      refine CALL.out.mono ?_
      intro r w2 hpost
      rcases hpost with ⟨hb, hcyc, hg2⟩ | ⟨hb, hg2, L2, l2, hd2, hall2, hsub2, hone2, hpot2⟩
      · unfold Ev.isB at hb
        subst hb
        have HC := Lib.hid hcyc; have HG2 := Lib.hid hg2; clear hcyc hg2
        go_wp2_with fail
        go_ret
        exact .inl ⟨⟨k, rfl, by omega⟩, HC.out, Ev.grown_trans HG.out HG2.out⟩
      · unfold Ev.isB at hb
        subst hb
        have HD2 := Lib.hid hd2; have HA2 := Lib.hid hall2; have HS2 := Lib.hid hsub2; have HO2 := Lib.hid hone2
        have hpp : Ev.pot L2 e.n ≤ Ev.pot L e.n := Nat.le_trans hpot2 hpot
        have HG2 := Lib.hid hg2
        clear hd2 hall2 hsub2 hone2 hg2
        go_wp2_with fail
        go_roundw
        case rel =>
          refine ⟨k + 1, by omega, by go_num, ?_, L2, l2, HD2.out, fun j u hj hu => ?_, fun u hu => HS2.out u (HSUB.out u hu), fun x => (HO2.out x).trans (HONE.out x), hpp⟩
          · exact Ev.grown_trans HG.out HG2.out
          · by_cases hjk : j = k
            · subst hjk; rw [HV.out] at hu; cases hu; exact HA2.out _ (by simp)
            · exact HS2.out u (HALL.out j u (by omega) hu)
        case measure => simp [intOf]; omega
    · have hki : ¬ (k : Int) < (s.l.length : Int) := by omega
      go_wp2
      go_ret
      exact .inr ⟨rfl, HG.out, L', l', HD.out, fun v hv => by
        obtain ⟨j, hj⟩ := List.mem_iff_getElem?.1 hv
        exact HALL.out j v (by have := (List.getElem?_eq_some_iff.1 hj).1; omega) hj, HSUB.out, HONE.out, hpot⟩
set_option maxRecDepth 100000 in
set_option maxHeartbeats 2000000 in
theorem dcontains_any (e : Ev.DEnv) (m : Nat) (IH : Ev.LeadsOk e m) (s : Ev.Sl) (w : World) (L : Int → Int) (l : List Int) (hin : Ev.DIn e w L l) (hs : Ev.IntsIn w s) (hr : ∀ v ∈ s.l, 0 ≤ v ∧ v < e.n) (hp : ∀ v ∈ s.l, ∀ u, L u = 1 → Ev.Path e.ps u v) (hm : Ev.pot L e.n < m) :
    Calls Tryz.prog 67 #[.slice s.a s.l.length s.c, e.clo] w (Ev.LPost e w L l s.l (Ev.isB true) (Ev.isB false)) := by
  have HIX := Lib.hid (ix_any e m IH s w L l hin hs hr hp hm)
  clear IH hin hs hr hp hm
  go_enter Tryz.func67, Tryz.ntmps67
  go_wp2_with fail
  refine HIX.out.mono ?_
  intro r w2 hpost
  rcases hpost with ⟨hb, hcyc, hg2⟩ | ⟨hb, hrest⟩
  · unfold Ev.isIx at hb
    obtain ⟨i, rfl, hi⟩ := hb
    have hi0 : (0 : Int) ≤ (i : Int) := by omega
    have HC := Lib.hid hcyc; have HG := Lib.hid hg2; clear hcyc hg2
    go_wp2_with fail
    go_ret
    exact .inl ⟨by first | rfl | simp [Ev.isB], HC.out, HG.out⟩
  · unfold Ev.isNo at hb
    subst hb
    have HR := Lib.hid hrest; clear hrest
    go_wp2_with fail
    go_ret
    exact .inr ⟨by first | rfl | simp [Ev.isB], HR.out⟩
set_option maxRecDepth 100000 in
set_option maxHeartbeats 2000000 in
theorem leads_step (e : Ev.DEnv) (ho : Ev.DOk e) (m : Nat) (IH : Ev.LeadsOk e m) : Ev.LeadsOk e (m + 1) := by
  intro w L l p hin hp0 hpn hreach hpot
  have hn64 : (e.n : Int) ≤ 64 := ho.r.2.1
  have hpb : Ev.i64B p := ⟨by omega, by omega⟩
  have HO := Lib.hid ho; have HIN := Lib.hid hin; have HRE := Lib.hid hreach; have HIH := Lib.hid IH
  have cL := Ev.cell_far hin.g ho.kL ho.nL
  have hlk := hin.look hpb
  have HPB := Lib.hid hpb
  rcases hin.ok.range p with h | h | h
  · -- not yet
    have HL0 := Lib.hid h
    rw [h] at hlk
    obtain ⟨D, k, hown, hD, hkp⟩ := hin.m
    have HOWN := Lib.hid hown; have HD := Lib.hid hD
    have HKEY := Lib.hid (keyOf_int_mk (P := Tryz.prog) Tryz.underlying3 (wf_of_i64 hpb))
    have hpu := (Ev.pot_upd L p 1 e.n).1 hp0 hpn
    have hw0 : Ev.wt (L p) = 2 := by rw [h]; rfl
    have hw1 : Ev.wt 1 = 1 := rfl
    rw [hw0, hw1] at hpu
    have hple := Ev.pot_le L e.n
    have hmono : ∀ w1, w.grownBy w1 (some e.mb) → w1.cell? ⟨e.cN, 0, none⟩ = some (.map (some e.nb)) ∧ w1.cell? ⟨e.cF, 0, none⟩ = some e.clo ∧ w1.cell? ⟨e.cL, 0, none⟩ = some (.map (some e.mb)) := fun w1 g =>
      have g2 := Ev.grown_trans HIN.out.g g
      ⟨Ev.cell_far g2 HO.out.kN HO.out.nN, Ev.cell_far g2 HO.out.kF HO.out.nF, Ev.cell_far g2 HO.out.kL HO.out.nL⟩
    have HM := Lib.hid hmono
    clear hown hD hin ho hreach IH h hpb hmono
    go_enter Tryz.func149, Tryz.ntmps149
    go_wp2_with (at_mapUpdate; clear hlk cL; refine wpList_mapUpdate_own _ rfl _ _ _ 166 rfl 3 167 law_int Tryz.underlying166 _ e.mb k D rfl HOWN.out (by unfold maxLen; omega) _ _ _ rfl rfl HKEY.out _ [] (plainElem_int Tryz.underlying167 (by decide)) ?_
                 intro w1 hown1 hgrow1
                 have HO1 := Lib.hid hown1
                 have HG1 := Lib.hid hgrow1
                 obtain ⟨cN, cF, _⟩ := HM.out w1 hgrow1
                 have hd1 : Ev.DIn e w1 (Ev.upd L p 1) l := ⟨Ev.grown_trans HIN.out.g hgrow1, ⟨_, k + 1, hown1, fun x hx => Ev.look_step HOWN.out.isMap HD.out x hx, by omega⟩, HIN.out.ok.under HL0.out⟩
                 have HD1 := Lib.hid hd1
                 obtain ⟨S, hS, hSin, hlk2⟩ := HO.out.next w1 (hd1.b0 HO.out) p HPB.out
                 have HS := Lib.hid hS
                 have HSIN := Lib.hid hSin
                 clear hown1 hgrow1 hd1 hS hSin)
    clear hlk2 cN cF
    have CALL := Lib.hid (dcontains_any e m HIH.out S w1 (Ev.upd L p 1) l HD1.out HSIN.out
      (fun v hv => by
        rw [HS.out] at hv
        have := HO.out.r.2.2 _ (Ev.mem_succs.1 hv)
        exact ⟨this.2.2.1, this.2.2.2⟩)
      (fun v hv u hu => by
        rw [HS.out] at hv
        have he := Ev.mem_succs.1 hv
        by_cases hup : u = p
        · subst hup; exact .one he
        · rw [Ev.upd_other L hup] at hu
          exact (HRE.out u hu).snoc he)
      (by omega))
    refine CALL.out.mono ?_
    intro r w2 hpost
    rcases hpost with ⟨hb, hcyc, hg2⟩ | ⟨hb, hg2, L2, l2, hd2, hall2, hsub2, hone2, hpot2⟩
    · unfold Ev.isB at hb
      subst hb
      have HC := Lib.hid hcyc; have HG2 := Lib.hid hg2; clear hcyc hg2
      go_wp2_with fail
      go_ret
      exact .inl ⟨rfl, HC.out, Ev.grown_trans HG1.out HG2.out⟩
    · unfold Ev.isB at hb
      subst hb
      have hgg := Ev.grown_trans HG1.out hg2
      obtain ⟨_, _, cL2⟩ := HM.out w2 hgg
      have h1 : L2 p = 1 := (hone2 p).2 (Ev.upd_same L p 1)
      have hpu2 := (Ev.pot_upd L2 p 2 e.n).1 hp0 hpn
      have hw2 : Ev.wt (L2 p) = 1 := by rw [h1]; rfl
      have hw3 : Ev.wt 2 = 0 := rfl
      rw [hw2, hw3] at hpu2
      obtain ⟨D2, k2, hown2, hD2, hkp2⟩ := hd2.m
      have HOWN2 := Lib.hid hown2; have HD2 := Lib.hid hD2; have HDI := Lib.hid hd2; have HGG := Lib.hid hgg
      have HA2 := Lib.hid hall2; have HS2 := Lib.hid hsub2; have HO2 := Lib.hid hone2
      have hple2 := Ev.pot_le L2 e.n
      clear hown2 hD2 hd2 hgg hg2 hall2 hsub2 hone2 h1
      go_wp2_with (at_mapUpdate; clear cL2; refine wpList_mapUpdate_own _ rfl _ _ _ 166 rfl 3 167 law_int Tryz.underlying166 _ e.mb k2 D2 rfl HOWN2.out (by unfold maxLen; omega) _ _ _ rfl rfl HKEY.out _ [] (plainElem_int Tryz.underlying167 (by decide)) ?_
                   intro w3 hown3 hgrow3
                   have HO3 := Lib.hid hown3
                   have HG3 := Lib.hid hgrow3
                   clear hown3 hgrow3)
      go_ret
      refine .inr ⟨rfl, Ev.grown_trans HGG.out HG3.out, Ev.upd L2 p 2, p :: l2, ⟨Ev.grown_trans HDI.out.g HG3.out, ⟨_, k2 + 1, HO3.out, fun x hx => Ev.look_step HOWN2.out.isMap HD2.out x hx, by omega⟩, HDI.out.ok.done fun q hq => HA2.out q (by rw [HS.out]; exact Ev.mem_succs.2 hq)⟩, fun v hv => ?_, fun v hv => List.mem_cons_of_mem _ (HS2.out v hv), fun x => ?_, by omega⟩
      · simp at hv; subst hv; simp
      · by_cases hx : x = p
        · subst hx; rw [Ev.upd_same, HL0.out]; constructor <;> intro h <;> cases h
        · rw [Ev.upd_other L2 hx, HO2.out x, Ev.upd_other L hx]
  · -- under
    have HCYC := Lib.hid (show Ev.Cyc e.ps from ⟨p, HRE.out p h⟩)
    rw [h] at hlk
    clear hin ho hreach IH h hpb
    go_enter Tryz.func149, Tryz.ntmps149
    go_wp2
    go_ret
    exact .inl ⟨rfl, HCYC.out, World.grownBy.refl _ _⟩
  · -- whole
    have hml : p ∈ l := (hin.ok.two p).1 h
    have HML := Lib.hid hml
    rw [h] at hlk
    clear hin ho hreach IH h hpb hml
    go_enter Tryz.func149, Tryz.ntmps149
    go_wp2
    go_ret
    exact .inr ⟨rfl, World.grownBy.refl _ _, L, l, HIN.out, fun v hv => by simp at hv; subst hv; exact HML.out, fun v hv => hv, fun x => Iff.rfl, Nat.le_refl _⟩
theorem leads_any (e : Ev.DEnv) (ho : Ev.DOk e) : ∀ m, Ev.LeadsOk e m
  | 0 => fun w L l p _ _ _ _ h => absurd h (by omega)
  | m + 1 => leads_step e ho m (leads_any e ho m)
end Go.Proofs.YtecnnkidalkmfaaGreat
end

section
namespace Go.Proofs.YtecnnkidalkmfaaGreat
open Go.RowKit Go.Maps
theorem run_store_func (P : Program) (w : World) (a : Addr) (m : Mode) (f : Fn) (b c : Array Value) : (store a (.func f b c) m).run P w = stored P w a (.func f b c) m := run_store P w a _ m rfl
attribute [local go_sem] run_store_func
namespace Ev
def HasC (n : Nat) (ps : List (Int × Int)) (b : Bool) : Prop := (b = true ∧ Cyc ps) ∨ (b = false ∧ ∃ l, Topo ps l ∧ ∀ x, 0 ≤ x → x < (n : Int) → x ∈ l)
end Ev
set_option maxRecDepth 100000 in
set_option maxHeartbeats 2000000 in
theorem hasCircle_any (n nb : Nat) (ps : List (Int × Int)) (w : World) (hr : Ev.InR n ps) (hn : Ev.NextIn w nb (Ev.succs ps)) :
    Calls Tryz.prog 120 #[.int .i64 (n : Int), .map (some nb)] w (Ev.CPost (Ev.HasC n ps) w) := by
  have HR := Lib.hid hr; have HN := Lib.hid hn
  have hmm := @run_makeMap Tryz.prog
  have hn64 : n ≤ 64 := by have := hr.2.1; omega
  obtain ⟨W1, hW1⟩ : ∃ W1, W1 = ((((w.alloc (Obj.cells #[Value.map (some nb)] 152)).alloc (Obj.map #[] 0)).alloc (Obj.cells #[Value.map (some (w.heap.size + 1))] 166)).alloc
    (Obj.cells #[Value.func (Fn.func 149) #[] #[Value.pointer (some { block := w.heap.size + 1 + 1, off := 0 }), Value.pointer (some { block := w.heap.size, off := 0 }), Value.pointer (some { block := w.heap.size + 1 + 1 + 1, off := 0 })]] 102)) := ⟨_, rfl⟩
  have HW1 := Lib.hid hW1
  have b0 : Below w.heap.size w W1 := by
    rw [hW1]
    exact ((((Below.refl _ _).alloc (Nat.le_refl _) _).alloc (by simp only [World.size_alloc]; omega) _).alloc (by simp only [World.size_alloc]; omega) _).alloc (by simp only [World.size_alloc]; omega) _
  have h0 : W1.heap[w.heap.size]? = some (.cells #[Value.map (some nb)] 152 (0, 0)) := by
    rw [hW1]
    exact (Below.heap_alloc _ _ _ (by simp only [World.size_alloc]; omega)).trans ((Below.heap_alloc _ _ _ (by simp only [World.size_alloc]; omega)).trans ((Below.heap_alloc _ _ _ (by simp only [World.size_alloc]; omega)).trans (heap_alloc_new _ _)))
  have h2 : W1.heap[w.heap.size + 1 + 1]? = some (.cells #[Value.map (some (w.heap.size + 1))] 166 (0, 0)) := by
    rw [hW1]
    refine (Below.heap_alloc _ _ _ (by simp only [World.size_alloc]; omega)).trans ?_
    have := heap_alloc_new ((w.alloc (Obj.cells #[Value.map (some nb)] 152)).alloc (Obj.map #[] 0)) (Obj.cells #[Value.map (some (w.heap.size + 1))] 166)
    simpa only [World.size_alloc] using this
  have h3 : W1.heap[w.heap.size + 1 + 1 + 1]? = some (.cells #[Value.func (Fn.func 149) #[] #[Value.pointer (some { block := w.heap.size + 1 + 1, off := 0 }), Value.pointer (some { block := w.heap.size, off := 0 }), Value.pointer (some { block := w.heap.size + 1 + 1 + 1, off := 0 })]] 102 (0, 0)) := by
    rw [hW1]
    have := heap_alloc_new (((w.alloc (Obj.cells #[Value.map (some nb)] 152)).alloc (Obj.map #[] 0)).alloc (Obj.cells #[Value.map (some (w.heap.size + 1))] 166)) (Obj.cells #[Value.func (Fn.func 149) #[] #[Value.pointer (some { block := w.heap.size + 1 + 1, off := 0 }), Value.pointer (some { block := w.heap.size, off := 0 }), Value.pointer (some { block := w.heap.size + 1 + 1 + 1, off := 0 })]] 102)
    simpa only [World.size_alloc] using this
  have hom : W1.ownsMap (H := Unit) Tryz.prog 3 (plainElem Tryz.prog 167) (w.heap.size + 1) 0 (.map []) := by
    rw [hW1]
    have := World.ownsMap_made (H := Unit) (w.alloc (Obj.cells #[Value.map (some nb)] 152)) Tryz.prog 3 (plainElem Tryz.prog 167)
    simp only [World.size_alloc] at this
    exact (this.alloc _).alloc _
  obtain ⟨e, he⟩ : ∃ e : Ev.DEnv, e = ⟨ps, n, w, W1, w.heap.size + 1 + 1, w.heap.size, w.heap.size + 1 + 1 + 1, w.heap.size + 1, nb⟩ := ⟨_, rfl⟩
  have ho : Ev.DOk e := by
    subst he
    exact ⟨HR.out, HN.out, b0, by rw [cell_of_row _ _ _ _ _ _ h2]; rfl, by rw [cell_of_row _ _ _ _ _ _ h0]; rfl, by rw [cell_of_row _ _ _ _ _ _ h3]; rfl, Nat.le_succ _, by show w.heap.size + 1 + 1 ≠ w.heap.size + 1; omega, by show w.heap.size ≠ w.heap.size + 1; omega, by show w.heap.size + 1 + 1 + 1 ≠ w.heap.size + 1; omega⟩
  have hd0 : Ev.DIn e W1 (fun _ => 0) [] := by
    subst he
    exact ⟨World.grownBy.refl _ _, ⟨_, 0, hom, fun x _ => rfl, by have := Ev.pot_le (fun _ => 0) n; show 0 + Ev.pot (fun _ => 0) n ≤ 2 * n; omega⟩, Ev.looked_none _⟩
  have e1 : e.n = n := by rw [he]
  have e2 : e.ps = ps := by rw [he]
  have e3 : e.cL = w.heap.size + 1 + 1 := by rw [he]
  have e4 : e.cN = w.heap.size := by rw [he]
  have e5 : e.cF = w.heap.size + 1 + 1 + 1 := by rw [he]
  have e6 : e.W0 = w := by rw [he]
  have HE := Lib.hid (And.intro e1 (And.intro e2 (And.intro e3 (And.intro e4 (And.intro e5 e6)))))
  have HO := Lib.hid ho; have HD0 := Lib.hid hd0
  have H3 := Lib.hid h3
  clear hr hn hW1 b0 h0 h2 h3 hom he ho hd0 e1 e2 e3 e4 e5 e6
  go_enter Tryz.func120, Tryz.ntmps120
  go_wp2
  rw [← HW1.out]
  go_loopw [7, 11] (fun _ i wr => ∃ k : Nat, k ≤ n ∧ i = .int .i64 (k : Int) ∧ ∃ L l, Ev.DIn e wr L l ∧ (∀ x, 0 ≤ x → x < (k : Int) → x ∈ l) ∧ ∀ x, L x ≠ 1) (fun _ i _ => n - (intOf i).toNat)
  case atStart => exact ⟨0, Nat.zero_le _, rfl, _, _, HD0.out, fun x h1 h2 => absurd h2 (by omega), fun x h => by cases h⟩
  case round =>
    obtain ⟨k, hk, rfl, L, l, hd, hall, hone⟩ := hrel
    have HD := Lib.hid hd; have HALL := Lib.hid hall; have HONE := Lib.hid hone
    clear hall hone
    by_cases hlt : k < n
    · have hki : (k : Int) < (n : Int) := by omega
      have hcf := Ev.cell_far hd.g HO.out.kF HO.out.nF
      unfold Ev.DEnv.clo at hcf
      rw [HE.out.2.2.1, HE.out.2.2.2.1, HE.out.2.2.2.2.1] at hcf
      have CALL := leads_any e HO.out _ wr L l (k : Int) hd (by omega) (by rw [HE.out.1]; exact hki) (fun u hu => absurd hu (HONE.out u)) (Nat.lt_succ_self _)
      rw [HE.out.2.2.1, HE.out.2.2.2.1, HE.out.2.2.2.2.1] at CALL
      have CALL := Lib.hid CALL
      clear hd
      go_wp2_with fail
      refine CALL.out.mono ?_
      intro r w2 hpost
      rcases hpost with ⟨hb, hcyc, hg2⟩ | ⟨hb, hg2, L2, l2, hd2, hall2, hsub2, hone2, hpot2⟩
      · unfold Ev.isB at hb
        subst hb
        have HC := Lib.hid hcyc; have HG2 := Lib.hid (Ev.grown_trans HD.out.g hg2); clear hcyc hg2
        go_wp2_with fail
        go_ret
        refine Ev.CPost.mk true rfl (.inl ⟨rfl, by rw [← HE.out.2.1]; exact HC.out⟩) (by
          have := HO.out.b0.grown HG2.out HO.out.b0.size (fun k hk => by cases hk; exact HO.out.mb0)
          rw [HE.out.2.2.2.2.2] at this; exact this)
      · unfold Ev.isB at hb
        subst hb
        have HD2 := Lib.hid hd2; have HA2 := Lib.hid hall2; have HS2 := Lib.hid hsub2; have HO2 := Lib.hid hone2
        clear hd2 hall2 hsub2 hone2 hg2 hcf
        go_wp2_with fail
        go_roundw
        case rel =>
          refine ⟨k + 1, by omega, by go_num, L2, l2, HD2.out, fun x h1 h2 => ?_, fun x h => HONE.out x ((HO2.out x).1 h)⟩
          by_cases hx : x = (k : Int)
          · subst hx; exact HA2.out _ (by simp)
          · exact HS2.out x (HALL.out x h1 (by omega))
        case measure => simp [intOf]; omega
    · have hkn : k = n := by omega
      have hki : ¬ (k : Int) < (n : Int) := by omega
      have HKN := Lib.hid hkn
      clear hd hkn
      go_wp2
      go_ret
      refine Ev.CPost.mk false rfl (.inr ⟨rfl, l, by rw [← HE.out.2.1]; exact HD.out.ok.topo, fun x h1 h2 => HALL.out x h1 (by rw [HKN.out]; exact h2)⟩) (by
        have := HD.out.b0 HO.out
        rw [HE.out.2.2.2.2.2] at this; exact this)
end Go.Proofs.YtecnnkidalkmfaaGreat
end
