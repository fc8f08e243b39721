import Derived.Test.YtnjnpbabgefaeaaGreatKg25
import Derived.Test.YtnjnpbabgefaeaaGreatKg19
import Derived.Test.YtnjnpbabgefaeaaGreatKg27
set_option linter.unusedVariables false
set_option linter.unusedSimpArgs false

section
namespace Go.Proofs.YtnjnpbabgefaeaaGreat
open Go.RowKit Go.Maps
attribute [local go_sem] run_store_func
namespace Ev
def bondCo (x : X) (a b : Nat) : Int := if stores (nth x.ev a).k = false then 2 else bnd (bh x a b)
def bondFr (x : X) (a b : Nat) : Int := if loads (nth x.ev a).k = false then 2 else bnd (!(decide (a = b)) && bh x (frAt x a) b)
structure CoIn (w : World) (q1 fc q m mb : Nat) (x : X) : Prop where
  bx : Bx w q1 x
  fc : w.cell? ⟨fc, 0, none⟩ = some (.func (.func 137) #[] #[.pointer (some ⟨q, 0, none⟩), .pointer (some ⟨m, 0, none⟩)])
  bh : BhIn w q m mb x
theorem CoIn.kp {w w' : World} {q1 fc q m mb : Nat} {x : X} (h : CoIn w q1 fc q m mb x) (hb : Below w.heap.size w w') : CoIn w' q1 fc q m mb x :=
  ⟨h.bx.kp hb, kp_below hb _ _ h.fc, h.bh.kp hb⟩
end Ev
theorem behind1_is {x : Ev.X} {q m mb s b : Nat} {v : Bool} (h : Ev.bh x s b = v) (hs : s < x.ev.length) (hb : b < x.ev.length) (w : World) (hin : Ev.BhIn w q m mb x) :
    Calls Tryz.prog 137 #[.int .i64 (s : Int), .int .i64 (b : Int), .pointer (some ⟨q, 0, none⟩), .pointer (some ⟨m, 0, none⟩)] w fun e w' => e = .returned (.bool v) ∧ Below w.heap.size w w' := h ▸ behind1_any x q m mb s b hs hb w hin
set_option maxRecDepth 100000 in
set_option maxHeartbeats 2000000 in
theorem co1_any (x : Ev.X) (q1 fc q m mb a b : Nat) (ha : a < x.ev.length) (hb : b < x.ev.length) (w : World) (hin : Ev.CoIn w q1 fc q m mb x) :
    Calls Tryz.prog 111 #[.int .i64 (a : Int), .int .i64 (b : Int), .pointer (some ⟨q1, 0, none⟩), .pointer (some ⟨fc, 0, none⟩)] w fun e w' => e = .returned (.int .i64 (Ev.bondCo x a b)) ∧ Below w.heap.size w w' := by
  obtain ⟨ea, hea⟩ : ∃ e, x.ev[a]? = some e := ⟨_, List.getElem?_eq_getElem ha⟩
  obtain ⟨g, o, eg, hcx⟩ := hin.bx.xin.ev.at_ hea
  have hl1 := hin.bx.xin.ev.le; have hl2 := hin.bx.xin.ev.max
  have hna := Ev.nth_some hea
  have HRES := Lib.hid (show Ev.bondCo x a b = if Ev.stores ea.k = false then 2 else Ev.bnd (Ev.bh x a b) by unfold Ev.bondCo; rw [hna])
  have c0 := hin.bx.c0
  rw [eg] at c0
  have HC := Lib.hid hcx; have HIN := Lib.hid hin
  have hai : (a : Int) < (x.ev.length : Int) := by omega
  clear hea eg hcx hna hin
  obtain ⟨s, hs⟩ : ∃ s, Ev.stores ea.k = s := ⟨_, rfl⟩
  obtain ⟨v, hv⟩ : ∃ v, Ev.bh x a b = v := ⟨_, rfl⟩
  have HS := Lib.hid hs; have HV := Lib.hid hv
  clear hs hv
  go_enter Tryz.func111, Tryz.ntmps111
  go_wp2_with ((with_reducible show wpList _ _ _ (Oper.mk (some 11) _ _ _ _ _ :: _) _ _); refine wpList_load_at rfl 48 (.tmp 10) rfl g (o + a * 13) (by kernel_rfl) (Ev.cells ea) _ HC.out Tryz.underlying48 rfl (by kernel_rfl) ?_)
  refine (pstores_is HS.out _).mono ?_
  rintro e W1 ⟨rfl, hb1⟩
  have B1 := Lib.hid hb1
  have cf := (HIN.out.kp hb1).fc
  clear hb1 c0
  cases s
  · go_wp2_with fail
    go_ret
    exact ⟨by rw [HRES.out, HS.out]; rfl, B1.out⟩
  · go_wp2_with fail
    refine (behind1_is HV.out ha hb _ (HIN.out.kp B1.out).bh).mono ?_
    rintro e W2 ⟨rfl, hb2⟩
    have B2 := Lib.hid (B1.out.trans (hb2.mono B1.out.size)); clear hb2
    go_wp2_with fail
    refine (bond_is _ _).mono ?_
    rintro e w' ⟨rfl, rfl⟩
    go_wp2_with fail
    go_ret
    exact ⟨by rw [HRES.out, HS.out, HV.out]; rfl, B2.out⟩
set_option maxRecDepth 100000 in
set_option maxHeartbeats 2000000 in
theorem co_makes (x : Ev.X) (hc : Ev.check x = 0) (w : World) : Ev.Makes w x 85 (Ev.bondCo x) := by
  intro W hin
  have HIN := Lib.hid hin; clear hin
  have HBX := Lib.hid (Ev.bx_new HIN.out)
  have B0 := Lib.hid ((Below.refl W.heap.size W).alloc (Nat.le_refl _) (.cells (Ev.xcells x).toArray 26))
  have HL := Lib.hid (Ev.check_lens hc); have HCK := Lib.hid hc; clear hc
  unfold Ev.exV Ev.xcells
  go_enter Tryz.func85, Tryz.ntmps85
  go_wp2_with ((with_reducible show wpList _ _ _ (Oper.mk (some 4) _ _ _ _ _ :: _) _ _); refine wpList_load_row rfl 26 (.tmp 1) rfl W.heap.size (by kernel_rfl) 26 (Ev.xcells x).toArray (0, 0) _ HBX.out.row Tryz.underlying26 rfl (by kernel_rfl) ?_)
  refine (behind_any x _ HBX.out.xin HL.out.1 HL.out.2).mono ?_
  rintro e W1 ⟨q, m, mb, rfl, hbh, hb⟩
  have HBH := Lib.hid hbh
  have B1 := Lib.hid (B0.out.trans (hb.mono B0.out.size))
  have HBX1 := Lib.hid (HBX.out.kp hb)
  clear hbh hb
  unfold Ev.bhV
  go_wp2
  go_ret
  have B2 := Lib.hid ((Below.refl W1.heap.size W1).alloc (Nat.le_refl _) (Obj.cells #[Value.func (Fn.func 137) #[] #[Value.pointer (some { block := q, off := 0 }), Value.pointer (some { block := m, off := 0 })]] 101))
  have HCO : Ev.CoIn (W1.alloc (Obj.cells #[Value.func (Fn.func 137) #[] #[Value.pointer (some { block := q, off := 0 }), Value.pointer (some { block := m, off := 0 })]] 101)) W.heap.size W1.heap.size q m mb x :=
    ⟨HBX1.out.kp B2.out, by rw [cell_of_row _ _ _ _ _ _ (heap_alloc_new W1 _)]; rfl, HBH.out.kp B2.out⟩
  refine ⟨111, #[.pointer (some ⟨W.heap.size, 0, none⟩), .pointer (some ⟨W1.heap.size, 0, none⟩)], rfl, Ev.enters_of _ (fun args w => by kernel_rfl), B1.out.trans (B2.out.mono B1.out.size), fun W2 hb a b ha hb' => ?_⟩
  exact co1_any x W.heap.size W1.heap.size q m mb a b ha hb' W2 (HCO.kp hb)
set_option maxRecDepth 100000 in
set_option maxHeartbeats 2000000 in
theorem co_yes (x : Ev.X) (w : World) (hin : Ev.XIn w x) (hc : Ev.check x = 0) :
    Calls Tryz.prog 58 #[Ev.exV x] w fun e w' => ∃ a c, e = .returned (.slice a (Ev.told (Ev.bondCo x) x.ev.length x.ev.length).length c) ∧ Ev.PairsIn w' a c (Ev.told (Ev.bondCo x) x.ev.length x.ev.length) ∧ Below w.heap.size w w' := by
  have HIN := Lib.hid hin; have HC := Lib.hid hc; clear hin hc
  have R0 := Lib.hid (heap_alloc_new w (.cells (Ev.xcells x).toArray 26))
  have B0 := Lib.hid ((Below.refl w.heap.size w).alloc (Nat.le_refl _) (.cells (Ev.xcells x).toArray 26))
  unfold Ev.exV Ev.xcells
  go_enter Tryz.func58, Tryz.ntmps58
  go_wp2_with ((with_reducible show wpList _ _ _ (Oper.mk (some 3) _ _ _ _ _ :: _) _ _); refine wpList_load_row rfl 26 (.tmp 1) rfl w.heap.size (by kernel_rfl) 26 (Ev.xcells x).toArray (0, 0) _ R0.out Tryz.underlying26 rfl (by kernel_rfl) ?_)
  refine (pairs_yes x 85 (Ev.bondCo x) _ (HIN.out.kp (Ev.kp_below B0.out)) HC.out (Ev.enters_of _ (fun args w => by kernel_rfl)) (co_makes x HC.out _)).mono ?_
  rintro e W1 ⟨a, c, rfl, hp, hb⟩
  have HP := Lib.hid hp
  have HB := Lib.hid (B0.out.trans (hb.mono (by simp only [World.size_alloc]; omega)))
  clear hp hb
  go_wp2_with fail
  go_ret
  exact ⟨a, c, rfl, HP.out, HB.out⟩
set_option maxRecDepth 100000 in
set_option maxHeartbeats 2000000 in
theorem fr1_any (x : Ev.X) (hc : Ev.check x = 0) (q1 fc q m mb a b : Nat) (ha : a < x.ev.length) (hb : b < x.ev.length) (w : World) (hin : Ev.CoIn w q1 fc q m mb x) :
    Calls Tryz.prog 112 #[.int .i64 (a : Int), .int .i64 (b : Int), .pointer (some ⟨q1, 0, none⟩), .pointer (some ⟨fc, 0, none⟩)] w fun e w' => e = .returned (.int .i64 (Ev.bondFr x a b)) ∧ Below w.heap.size w w' := by
  obtain ⟨ea, hea⟩ : ∃ e, x.ev[a]? = some e := ⟨_, List.getElem?_eq_getElem ha⟩
  obtain ⟨g, o, eg, hcx⟩ := hin.bx.xin.ev.at_ hea
  have hl1 := hin.bx.xin.ev.le; have hl2 := hin.bx.xin.ev.max
  have hl3 := hin.bx.xin.fr.2.1; have hl4 := hin.bx.xin.fr.2.2.1
  have hna := Ev.nth_some hea
  have HRES := Lib.hid (show Ev.bondFr x a b = if Ev.loads ea.k = false then 2 else Ev.bnd (!(decide (a = b)) && Ev.bh x (Ev.frAt x a) b) by unfold Ev.bondFr; rw [hna])
  have HFI := Lib.hid (show Ev.loads ea.k = true → ∃ f : Nat, f < x.ev.length ∧ x.fr.l[a]? = some (f : Int) ∧ Ev.frAt x a = f from fun h => Ev.from_in hc ha (by rw [hna]; exact h))
  have hfl := check_from hc
  have c0 := hin.bx.c0
  rw [eg] at c0
  have HC := Lib.hid hcx; have HIN := Lib.hid hin
  have hai : (a : Int) < (x.ev.length : Int) := by omega
  have haf : (a : Int) < (x.fr.l.length : Int) := by omega
  clear hea eg hcx hna hin hc hfl
  obtain ⟨s, hs⟩ : ∃ s, Ev.loads ea.k = s := ⟨_, rfl⟩
  have HS := Lib.hid hs
  clear hs
  go_enter Tryz.func112, Tryz.ntmps112
  go_wp2_with ((with_reducible show wpList _ _ _ (Oper.mk (some 11) _ _ _ _ _ :: _) _ _); refine wpList_load_at rfl 48 (.tmp 10) rfl g (o + a * 13) (by kernel_rfl) (Ev.cells ea) _ HC.out Tryz.underlying48 rfl (by kernel_rfl) ?_)
  refine (ploads_is HS.out _).mono ?_
  rintro e W1 ⟨rfl, hb1⟩
  have B1 := Lib.hid hb1
  have HI1 := Lib.hid (HIN.out.kp hb1)
  clear hb1 c0
  cases s
  · go_wp2_with fail
    go_ret
    exact ⟨by rw [HRES.out, HS.out]; rfl, B1.out⟩
  · obtain ⟨f, hf, hfa, hfr⟩ := HFI.out HS.out
    have HRES2 := Lib.hid (show Ev.bondFr x a b = Ev.bnd (!(decide (a = b)) && Ev.bh x (f : Int) b) by rw [HRES.out, HS.out, hfr]; rfl)
    obtain ⟨v, hv⟩ : ∃ v, Ev.bh x (f : Int) b = v := ⟨_, rfl⟩
    have HV := Lib.hid hv
    obtain ⟨gf, of, ef, hcf⟩ := HI1.out.bx.xin.fr.at_ hfa
    have cfc : ∀ z : Og.On W1.heap.size W1, z.x.cell? ⟨fc, 0, none⟩ = some (.func (.func 137) #[] #[.pointer (some ⟨q, 0, none⟩), .pointer (some ⟨m, 0, none⟩)]) := fun z => Og.cellB z HI1.out.fc
    have cx1 : ∀ z : Og.On W1.heap.size W1, z.x.cell? ⟨q1, 1, none⟩ = some (.slice (some ⟨gf, of, none⟩) x.fr.l.length x.fr.c) := fun z => Og.cellB z (by rw [← ef]; exact HI1.out.bx.c1)
    have cff : ∀ z : Og.On W1.heap.size W1, z.x.cell? ⟨gf, of + a, none⟩ = some (.int .i64 (f : Int)) := fun z => Og.cellB z hcf
    clear hv hfa hfr ef hcf
    by_cases hab : a = b
    · have tab : (a != b) = false := by simp [hab]
      have tab2 : ((a : Int) != (b : Int)) = false := by simp [hab]
      have HF := Lib.hid (show Ev.bondFr x a b = Ev.bnd false by rw [HRES2.out, decide_eq_true hab]; rfl)
      clear hab
      go_wp2
      refine Og.regionB (by kernel_rfl) (by kernel_rfl) ?_
      repeat (first
        | go_big_quiet_skip
        | (go_big_quiet_want
           first
            | (go_big_quiet_op
               first
                | go_big_quiet_on
                | (apply Exists.intro
                   refine ⟨fun z => ?_, ?_⟩
                   · first
                      | exact Og.callS (bond_is false _)
                   go_big_quiet_on))))
      refine wpQuiet_nil ?_
      intro _ hw'
      obtain ⟨q9, hw''⟩ := hw'
      subst hw''
      have HEND := Lib.hid (B1.out.trans (q9.b.mono B1.out.size))
      go_wp2_with fail
      go_ret
      exact ⟨by rw [HF.out]; rfl, HEND.out⟩
    · have tab : (a != b) = true := by simpa using hab
      have tab2 : ((a : Int) != (b : Int)) = true := by simp; omega
      have HF := Lib.hid (show Ev.bondFr x a b = Ev.bnd v by rw [HRES2.out, decide_eq_false hab, HV.out]; simp)
      clear hab
      go_wp2
      refine Og.regionB (by kernel_rfl) (by kernel_rfl) ?_
      repeat (first
        | go_big_quiet_skip
        | (go_big_quiet_want
           first
            | (go_big_quiet_op
               first
                | go_big_quiet_on
                | (apply Exists.intro
                   refine ⟨fun z => ?_, ?_⟩
                   · first
                      | exact Og.callB (behind1_is HV.out hf hb _ (HI1.out.kp z.b).bh)
                      | exact Og.callS (bond_is v _)
                   go_big_quiet_on))))
      refine wpQuiet_nil ?_
      intro _ hw'
      obtain ⟨q9, hw''⟩ := hw'
      subst hw''
      have HEND := Lib.hid (B1.out.trans (q9.b.mono B1.out.size))
      go_wp2_with fail
      go_ret
      exact ⟨by rw [HF.out]; rfl, HEND.out⟩
set_option maxRecDepth 100000 in
set_option maxHeartbeats 2000000 in
theorem fr_makes (x : Ev.X) (hc : Ev.check x = 0) (w : World) : Ev.Makes w x 86 (Ev.bondFr x) := by
  intro W hin
  have HIN := Lib.hid hin; clear hin
  have HBX := Lib.hid (Ev.bx_new HIN.out)
  have B0 := Lib.hid ((Below.refl W.heap.size W).alloc (Nat.le_refl _) (.cells (Ev.xcells x).toArray 26))
  have HL := Lib.hid (Ev.check_lens hc); have HCK := Lib.hid hc; clear hc
  unfold Ev.exV Ev.xcells
  go_enter Tryz.func86, Tryz.ntmps86
  go_wp2_with ((with_reducible show wpList _ _ _ (Oper.mk (some 4) _ _ _ _ _ :: _) _ _); refine wpList_load_row rfl 26 (.tmp 1) rfl W.heap.size (by kernel_rfl) 26 (Ev.xcells x).toArray (0, 0) _ HBX.out.row Tryz.underlying26 rfl (by kernel_rfl) ?_)
  refine (behind_any x _ HBX.out.xin HL.out.1 HL.out.2).mono ?_
  rintro e W1 ⟨q, m, mb, rfl, hbh, hb⟩
  have HBH := Lib.hid hbh
  have B1 := Lib.hid (B0.out.trans (hb.mono B0.out.size))
  have HBX1 := Lib.hid (HBX.out.kp hb)
  clear hbh hb
  unfold Ev.bhV
  go_wp2
  go_ret
  have B2 := Lib.hid ((Below.refl W1.heap.size W1).alloc (Nat.le_refl _) (Obj.cells #[Value.func (Fn.func 137) #[] #[Value.pointer (some { block := q, off := 0 }), Value.pointer (some { block := m, off := 0 })]] 101))
  have HCO : Ev.CoIn (W1.alloc (Obj.cells #[Value.func (Fn.func 137) #[] #[Value.pointer (some { block := q, off := 0 }), Value.pointer (some { block := m, off := 0 })]] 101)) W.heap.size W1.heap.size q m mb x :=
    ⟨HBX1.out.kp B2.out, by rw [cell_of_row _ _ _ _ _ _ (heap_alloc_new W1 _)]; rfl, HBH.out.kp B2.out⟩
  refine ⟨112, #[.pointer (some ⟨W.heap.size, 0, none⟩), .pointer (some ⟨W1.heap.size, 0, none⟩)], rfl, Ev.enters_of _ (fun args w => by kernel_rfl), B1.out.trans (B2.out.mono B1.out.size), fun W2 hb a b ha hb' => ?_⟩
  exact fr1_any x HCK.out W.heap.size W1.heap.size q m mb a b ha hb' W2 (HCO.kp hb)
set_option maxRecDepth 100000 in
set_option maxHeartbeats 2000000 in
theorem fr_yes (x : Ev.X) (w : World) (hin : Ev.XIn w x) (hc : Ev.check x = 0) :
    Calls Tryz.prog 59 #[Ev.exV x] w fun e w' => ∃ a c, e = .returned (.slice a (Ev.told (Ev.bondFr x) x.ev.length x.ev.length).length c) ∧ Ev.PairsIn w' a c (Ev.told (Ev.bondFr x) x.ev.length x.ev.length) ∧ Below w.heap.size w w' := by
  have HIN := Lib.hid hin; have HC := Lib.hid hc; clear hin hc
  have R0 := Lib.hid (heap_alloc_new w (.cells (Ev.xcells x).toArray 26))
  have B0 := Lib.hid ((Below.refl w.heap.size w).alloc (Nat.le_refl _) (.cells (Ev.xcells x).toArray 26))
  unfold Ev.exV Ev.xcells
  go_enter Tryz.func59, Tryz.ntmps59
  go_wp2_with ((with_reducible show wpList _ _ _ (Oper.mk (some 3) _ _ _ _ _ :: _) _ _); refine wpList_load_row rfl 26 (.tmp 1) rfl w.heap.size (by kernel_rfl) 26 (Ev.xcells x).toArray (0, 0) _ R0.out Tryz.underlying26 rfl (by kernel_rfl) ?_)
  refine (pairs_yes x 86 (Ev.bondFr x) _ (HIN.out.kp (Ev.kp_below B0.out)) HC.out (Ev.enters_of _ (fun args w => by kernel_rfl)) (fr_makes x HC.out _)).mono ?_
  rintro e W1 ⟨a, c, rfl, hp, hb⟩
  have HP := Lib.hid hp
  have HB := Lib.hid (B0.out.trans (hb.mono (by simp only [World.size_alloc]; omega)))
  clear hp hb
  go_wp2_with fail
  go_ret
  exact ⟨a, c, rfl, HP.out, HB.out⟩
set_option maxRecDepth 100000 in
set_option maxHeartbeats 2000000 in
theorem po_yes (x : Ev.X) (w : World) (hin : Ev.XIn w x) (hc : Ev.check x = 0) :
    Calls Tryz.prog 77 #[Ev.exV x] w fun e w' => ∃ a c, e = .returned (.slice a (Ev.told (Ev.bondPo x) x.ev.length x.ev.length).length c) ∧ Ev.PairsIn w' a c (Ev.told (Ev.bondPo x) x.ev.length x.ev.length) ∧ Below w.heap.size w w' := by
  have HIN := Lib.hid hin; have HC := Lib.hid hc; clear hin hc
  have R0 := Lib.hid (heap_alloc_new w (.cells (Ev.xcells x).toArray 26))
  have B0 := Lib.hid ((Below.refl w.heap.size w).alloc (Nat.le_refl _) (.cells (Ev.xcells x).toArray 26))
  unfold Ev.exV Ev.xcells
  go_enter Tryz.func77, Tryz.ntmps77
  go_wp2_with ((with_reducible show wpList _ _ _ (Oper.mk (some 3) _ _ _ _ _ :: _) _ _); refine wpList_load_row rfl 26 (.tmp 1) rfl w.heap.size (by kernel_rfl) 26 (Ev.xcells x).toArray (0, 0) _ R0.out Tryz.underlying26 rfl (by kernel_rfl) ?_)
  refine (pairs_yes x 103 (Ev.bondPo x) _ (HIN.out.kp (Ev.kp_below B0.out)) HC.out (Ev.enters_of _ (fun args w => by kernel_rfl)) (po_makes x _)).mono ?_
  rintro e W1 ⟨a, c, rfl, hp, hb⟩
  have HP := Lib.hid hp
  have HB := Lib.hid (B0.out.trans (hb.mono (by simp only [World.size_alloc]; omega)))
  clear hp hb
  go_wp2_with fail
  go_ret
  exact ⟨a, c, rfl, HP.out, HB.out⟩
end Go.Proofs.YtnjnpbabgefaeaaGreat
end

section
namespace Go.Proofs.YtnjnpbabgefaeaaGreat
open Go.RowKit
attribute [local go_sem] or_store_func
attribute [local go_sem] Oper.semAt_some
namespace Or
theorem Box.putObj {w : World} {p D : Nat} {t : TypeId} {v : Value} (h : Box w p t v) (o : Obj) (hD : p < D) : Box (w.putObj D o) p t v := (World.putObj_heap_other (by omega)).trans h
theorem Box.setCell {w : World} {p r : Nat} {t : TypeId} {v u : Value} (h : Box w p t v) (hp : p ≠ r) : Box (w.setCell ⟨r, 0, none⟩ u) p t v := (heap_setCell_other w ⟨r, 0, none⟩ p u hp).trans h
theorem Box.set_ {w : World} {p : Nat} {t : TypeId} {v u : Value} (h : Box w p t v) : Box (w.setCell ⟨p, 0, none⟩ u) p t u := heap_setCell_same w p 0 _ _ u h
theorem Box.frozen {w : World} {p : Nat} {t : TypeId} {v : Value} (h : Box w p t v) : w.frozen? ⟨p, 0, none⟩ = false := frozen_of_row _ _ _ _ _ h
theorem Box.lt {w : World} {p : Nat} {t : TypeId} {v : Value} (h : Box w p t v) : p < w.heap.size := (Array.getElem?_eq_some_iff.1 h).1
theorem below_putObj {B D : Nat} {a w : World} {o : Obj} (h : Below B a w) (hD : B ≤ D) : Below B a (w.putObj D o) :=
  ⟨h.os, h.tape, h.output, Nat.le_trans h.size (by simp), fun k hk => (World.putObj_heap_other (by omega)).trans (h.block k hk)⟩
def Such (w : World) (n : Nat → Prop) (G : FuncId) (caps : Array Value) (p : Nat → Bool) : Prop :=
  ∀ m, n m → ∀ W, Below w.heap.size w W → Calls Tryz.prog G (#[.int .i64 (m : Int)] ++ caps) W fun r w' => r = .returned (.bool (p m)) ∧ Below W.heap.size W w'
structure Mid (w : World) (G : FuncId) (caps : Array Value) (a b : Nat) (q : Bool) (W : World) : Prop where
  bel : Below w.heap.size w W
  fn : Box W w.heap.size 102 (.func (.func G) #[] caps)
  there : Box W (w.heap.size + 1) 4 (.bool q)
  ba : Box W (w.heap.size + 2) 3 (.int .i64 (a : Int))
  bb : Box W (w.heap.size + 3) 3 (.int .i64 (b : Int))
theorem Mid.kp {w : World} {G : FuncId} {caps : Array Value} {a b : Nat} {q : Bool} {W W' : World} (h : Mid w G caps a b q W) (hb : Below W.heap.size W W') : Mid w G caps a b q W' :=
  ⟨h.bel.trans (hb.mono h.bel.size), h.fn.kp hb, h.there.kp hb, h.ba.kp hb, h.bb.kp hb⟩
theorem Mid.putObj {w : World} {G : FuncId} {caps : Array Value} {a b : Nat} {q : Bool} {W : World} {l : Nat} (h : Mid w G caps a b q W) (o : Obj) (hl : w.heap.size + 4 ≤ l) : Mid w G caps a b q (W.putObj l o) :=
  ⟨below_putObj h.bel (by omega), h.fn.putObj o (by omega), h.there.putObj o (by omega), h.ba.putObj o (by omega), h.bb.putObj o (by omega)⟩
theorem Mid.set_ {w : World} {G : FuncId} {caps : Array Value} {a b : Nat} {q : Bool} {W : World} (h : Mid w G caps a b q W) (q' : Bool) : Mid w G caps a b q' (W.setCell ⟨w.heap.size + 1, 0, none⟩ (.bool q')) :=
  ⟨h.bel.setCell (p := ⟨w.heap.size + 1, 0, none⟩) (by show w.heap.size ≤ w.heap.size + 1; omega) _, h.fn.setCell (by omega), h.there.set_, h.ba.setCell (by omega), h.bb.setCell (by omega)⟩
end Or
set_option maxRecDepth 100000 in
set_option maxHeartbeats 8000000 in
theorem some_any (q a b : Nat) (ha : a < 9223372036854775807) (hb : b ≤ 9223372036854775807) (G : FuncId) (caps : Array Value) (p : Nat → Bool) (w : World) (hE : ∀ args w, (callFunc G args).run Tryz.prog w = .ok (.enter G args) w) (hS : Or.Such w (fun m => a < m ∧ m < b) G caps p) :
    Calls Tryz.prog 151 #[.pointer (some ⟨q, 0, none⟩), .int .i64 (a : Int), .int .i64 (b : Int), .func (.func G) #[] caps] w fun r w' => r = .returned (.bool ((Or.ms a b).any p)) ∧ Below w.heap.size w w' := by
  have HS := Lib.hid hS
  have HEN := Lib.hid hE
  obtain ⟨W0, hW0⟩ : ∃ W0, (((w.alloc (.cells #[.func (.func G) #[] caps] 102)).alloc (.cells #[.bool false] 4)).alloc (.cells #[.int .i64 (a : Int)] 3)).alloc (.cells #[.int .i64 (b : Int)] 3) = W0 := ⟨_, rfl⟩
  have hsz : W0.heap.size = w.heap.size + 4 := by rw [← hW0]; simp
  have hM : Or.Mid w G caps a b false W0 := by
    have s1 := World.size_alloc w (.cells #[.func (.func G) #[] caps] 102)
    have s2 := World.size_alloc (w.alloc (.cells #[.func (.func G) #[] caps] 102)) (.cells #[.bool false] 4)
    have s3 := World.size_alloc ((w.alloc (.cells #[.func (.func G) #[] caps] 102)).alloc (.cells #[.bool false] 4)) (.cells #[.int .i64 (a : Int)] 3)
    have al : ∀ (x : World) (o : Obj), Below x.heap.size x (x.alloc o) := fun x o => (Below.refl _ _).alloc (Nat.le_refl _) _
    refine ⟨by rw [← hW0]; exact ((((Below.refl _ w).alloc (Nat.le_refl _) _).alloc (by simp) _).alloc (by simp; omega) _).alloc (by simp; omega) _, ?_, ?_, ?_, ?_⟩
    · rw [← hW0]; exact (((Or.box_new _ _ _).kp (al _ _)).kp (al _ _)).kp (al _ _)
    · rw [← hW0]; have := ((Or.box_new (w.alloc (.cells #[.func (.func G) #[] caps] 102)) 4 (.bool false)).kp (al _ (.cells #[.int .i64 (a : Int)] 3))).kp (al _ (.cells #[.int .i64 (b : Int)] 3)); rwa [s1] at this
    · rw [← hW0]; have := (Or.box_new ((w.alloc (.cells #[.func (.func G) #[] caps] 102)).alloc (.cells #[.bool false] 4)) 3 (.int .i64 (a : Int))).kp (al _ (.cells #[.int .i64 (b : Int)] 3)); rwa [s2, s1] at this
    · rw [← hW0]; have := Or.box_new (((w.alloc (.cells #[.func (.func G) #[] caps] 102)).alloc (.cells #[.bool false] 4)).alloc (.cells #[.int .i64 (a : Int)] 3)) 3 (.int .i64 (b : Int)); rwa [s3, s2, s1] at this
  have HM := Lib.hid hM; have HSZ := Lib.hid hsz; have HW0 := Lib.hid hW0
  clear hM hsz hW0 hS hE
  refine (callsIn_wide (n := 5)).1 ?_
  refine callsIn_of_wp_marks Tryz.func151 rfl trivial ?_ rfl
  simp only [Tryz.ntmps151, List.size_toArray, List.length_cons, List.length_nil, Nat.reduceAdd, Nat.reduceSub, Array.replicate_succ, Array.replicate_zero, List.push_toArray, List.append_toArray, List.nil_append, List.cons_append]
  refine wpIn_wide.2 ?_
  go_wp2_with fail
  go_step3
  go_wp2_with fail
  go_step3
  go_wp2_with (go_at_call 166; refine (between_any _ _ _ _).mono ?_; rintro e w1 ⟨rfl, rfl⟩)
  rw [HW0.out]
  simp only [Nat.add_assoc, Nat.reduceAdd]
  clear HW0
  refine (wpIn_wide (n := 5)).1 ?_
  refine Og.wpIn_rangeFunc_list (α := Nat) rfl (by decide) (gf := 169) (lb := #[.pointer (some ⟨w.heap.size + 2, 0, none⟩), .pointer (some ⟨w.heap.size + 3, 0, none⟩)]) rfl trivial (enters_of Tryz.func169 (by kernel_rfl) rfl)
    (between_iter 4 (by decide) (w.heap.size + 2) (w.heap.size + 3) a b ha hb) (fun _ => rfl)
    (fun k W => Or.Mid w G caps a b false W ∧ ∀ j, j < k → p (a + 1 + j) = false) (fun c W => c = .exit 0 ∧ Or.Mid w G caps a b true W ∧ (Or.ms a b).any p = true)
    (fun k A A' h hb => ⟨h.1.kp hb, h.2⟩) (fun k A l o o' h hl ho hc => ⟨h.1.putObj o' (by have := HSZ.out; omega), h.2⟩) (fun c A l o o' h hl ho hc => ⟨h.1, h.2.1.putObj o' (by have := HSZ.out; omega), h.2.2⟩)
    (fun k A h => ⟨h.1.ba, h.1.bb⟩) ⟨HM.out, fun j hj => absurd hj (Nat.not_lt_zero j)⟩
    (fun m => { tmps := #[.pointer (some ⟨q, 0, none⟩), .int .i64 (a : Int), .int .i64 (b : Int), .func (.func G) #[] caps, undef, undef, undef, .pointer (some ⟨w.heap.size, 0, none⟩), .bool false, .pointer (some ⟨w.heap.size + 1, 0, none⟩), .int .i64 (m : Int), .pointer (some ⟨q, 0, none⟩), .int .i64 (a : Int), .int .i64 (b : Int), .func (.func 169) #[] #[.pointer (some ⟨w.heap.size + 2, 0, none⟩), .pointer (some ⟨w.heap.size + 3, 0, none⟩)], .int .i64 (m : Int), undef, undef, undef, undef, undef], defers := [] })
    ?assign ?body ?done ?stop
  case assign =>
    rintro l m W K hK
    have HK := Lib.hid hK; clear hK
    gi_wp2_with fail
    exact HK.out
  case body =>
    rintro l k m W hm ⟨hM, hno⟩
    obtain ⟨hmk, hmb⟩ := Or.ms_at hm
    have HMM := Lib.hid hM; have HNO := Lib.hid hno; have HMK := Lib.hid hmk
    have HIN := Lib.hid (show a < m ∧ m < b by omega)
    have HMEM := Lib.hid (List.mem_of_getElem? hm)
    have c1 := hM.fn.cell
    obtain ⟨v, hv⟩ : ∃ v, p m = v := ⟨_, rfl⟩
    have HV := Lib.hid hv
    have he := HEN.out
    clear hm hM hno hmk hmb hv
    gi_wp2_with fail
    refine ⟨trivial, (CallsIn.inRound l (callsIn_wide.2 (HS.out m HIN.out W HMM.out.bel))).mono ?_⟩
    rw [HV.out]
    rintro e wa ⟨rfl, hba⟩
    have MA := Lib.hid (HMM.out.kp hba)
    have hc := MA.out.there.cell
    have hf := MA.out.there.frozen
    have KA := Lib.hid ((Og.keeps_below hba).trans (KeepsOthers.setCell wa ⟨w.heap.size + 1, 0, none⟩ (.bool v)))
    have MS := Lib.hid (MA.out.set_ v)
    have hs := MS.out.there.cell
    clear hba c1 he
    cases v
    · gi_wp2_with fail
      refine ⟨KA.out, MS.out, fun j hj => ?_⟩
      rcases Nat.lt_succ_iff_lt_or_eq.1 hj with h | h
      · exact HNO.out j h
      · rw [h, ← HMK.out]; exact HV.out
    · gi_wp2_with fail
      exact ⟨KA.out, rfl, MS.out, List.any_eq_true.2 ⟨m, HMEM.out, HV.out⟩⟩
  case done =>
    rintro D W hD ⟨hM, hno⟩ hK
    have c9 := hM.there.cell
    have HNO := Lib.hid hno; have HMM := Lib.hid hM; have HK := Lib.hid hK; have HDD := Lib.hid hD
    clear hno hM hK hD
    go_wp2_with fail
    rw [Exit.noGoto_ret]
    refine ⟨by simp, .inl ⟨_, _, rfl, run_takeDeferred HK.out, ?_⟩⟩
    have hg := HMM.out.putObj (l := D) (.deferred none) (by have := HDD.out; have := HSZ.out; omega)
    have HF : (Or.ms a b).any p = false := by
      rw [List.any_eq_false]
      intro m hm
      obtain ⟨k, hk⟩ := List.mem_iff_getElem?.1 hm
      obtain ⟨rfl, h⟩ := Or.ms_at hk
      rw [HNO.out k (by rw [Or.ms_len]; omega)]; simp
    exact ⟨_, results_tmp (fn := Tryz.f151) rfl _ _ _, ⟨by rw [HF]; rfl, hg.bel⟩⟩
  case stop =>
    rintro D c W hD ⟨rfl, hM, hany⟩ hK
    refine wpIn_wide.2 ?_
    have c9 := hM.there.cell
    have HANY := Lib.hid hany; have HMM := Lib.hid hM; have HK := Lib.hid hK; have HDD := Lib.hid hD
    clear hany hM hK hD
    go_wp2_with fail
    rw [Exit.noGoto_ret]
    refine ⟨by simp, .inl ⟨_, _, rfl, run_takeDeferred HK.out, ?_⟩⟩
    have hg := HMM.out.putObj (l := D) (.deferred none) (by have := HDD.out; have := HSZ.out; omega)
    exact ⟨_, results_tmp (fn := Tryz.f151) rfl _ _ _, ⟨by rw [HANY.out]; rfl, hg.bel⟩⟩
end Go.Proofs.YtnjnpbabgefaeaaGreat
end
