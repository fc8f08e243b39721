/-
  AlDM: AlRun, AlKnow, AlKnown, AlOpen in one text.
-/
import Derived.Test.YtianojbdabeoeaaGreatDoorAlCM

section
namespace Go.Proofs.YtianojbdabeoeaaGreatDoor
open Go.RowKit Ht
set_option linter.unusedVariables false
theorem fromMemory_any (p : Nat) (w : World) :
    Calls Tryz.prog 43 #[.pointer (some ⟨p, 0, none⟩)] w fun e w' => e = .returned (Al.tellV w.heap.size) ∧ w' = w.alloc (.cells #[.pointer (some ⟨p, 0, none⟩), .bool false, .int .u32 0] 139) := by
  go_enter Tryz.func43, Tryz.ntmps43
  go_wp2
  go_ret
  refine ⟨rfl, ?_⟩
  rfl
/-- what is refused -/
def Al.refE (h : H) (n : Nat) (size most : Int) : Int := if may h = false ∨ 1024 < n ∨ size < 0 ∨ 4096 < size then 2 else if most < 0 ∨ 1048576 < most then 4 else 0
theorem Al.load_hart {w : World} {b : Nat} {h : H} {ca : Option Addr} {n cp : Nat} {size : Int} {tv : Value} (hw : Wat w b h ca n cp size tv) {ρ : Operand → Value} {o : Oper} {x : Operand} (ho : o.op = .load 26 x) (hx : ρ x = .pointer (some ⟨b, 0, none⟩)) : (execOp ρ o).run Tryz.prog w = .ok (.value (hartV h)) w := by
  have e := run_loadVar_part w b 0 135 26 (Al.wcs h ca n cp size tv).toArray (hcells h) (0, 0) _ hw rfl Tryz.underlying26 rfl (by kernel_rfl)
  unfold execOp
  simp only [ho, hx, Instr.loadAt, Instr.sureAddr, Sem.run_bind, Sem.run_pure, Result.andThen_ok, e]
  rfl
set_option maxRecDepth 100000 in
set_option maxHeartbeats 2000000 in
theorem refused_any (b : Nat) (h : H) (ca : Option Addr) (n cp : Nat) (size most : Int) (tv : Value) (w : World) (hw : Wat w b h ca n cp size tv) :
    Calls Tryz.prog 70 #[.pointer (some ⟨b, 0, none⟩), .int .i64 most] w fun e w' => e = .returned (.int .i64 (Al.refE h n size most)) ∧ Below w.heap.size w w' := by
  have HW := Lib.hid hw
  have key : ∀ (m : Bool), may h = m → Calls Tryz.prog 70 #[.pointer (some ⟨b, 0, none⟩), .int .i64 most] w fun e w' => e = .returned (.int .i64 (Al.refE h n size most)) ∧ Below w.heap.size w w' := by
    intro m hm
    have HM := Lib.hid hm
    unfold Al.refE
    rw [hm]
    clear hm hw
    generalize hre : (if m = false ∨ 1024 < n ∨ size < 0 ∨ 4096 < size then (2 : Int) else if most < 0 ∨ 1048576 < most then 4 else 0) = re
    have HRE := Lib.hid hre; clear hre
    cases m
    · have e := HRE.out; rw [if_pos (.inl rfl)] at e; subst e
      clear HRE
      go_enter Tryz.func70, Tryz.ntmps70
      go_wp2_with (first
        | (show wpList _ _ _ (Oper.mk (some 9) _ _ _ _ _ :: _) _ _; refine wpList_valW rfl (hartV h) (Al.load_hart HW.out rfl rfl) ?_)
        | (go_at_call 79; refine (check_any h _).mono ?_; rw [HM.out]; rintro e w1 ⟨rfl, hb1⟩; have r1 := (hb1.block _ (Array.getElem?_eq_some_iff.1 HW.out).1).trans HW.out; have c35 : w1.cell? ⟨b, 35, none⟩ = some (.slice ca n cp) := (by rw [cell_of_row w1 _ 35 _ _ _ r1]; rfl); have c36 : w1.cell? ⟨b, 36, none⟩ = some (.int .i64 size) := (by rw [cell_of_row w1 _ 36 _ _ _ r1]; rfl); have HB1 := Lib.hid hb1; clear hb1 r1))
      go_ret
      exact ⟨rfl, HB1.out⟩
    by_cases h1 : 1024 < n
    · have e := HRE.out; rw [if_pos (.inr (.inl h1))] at e; subst e
      have h1' : ((n : Int) > 1024) := by omega
      clear HRE
      go_enter Tryz.func70, Tryz.ntmps70
      go_wp2_with (first
        | (show wpList _ _ _ (Oper.mk (some 9) _ _ _ _ _ :: _) _ _; refine wpList_valW rfl (hartV h) (Al.load_hart HW.out rfl rfl) ?_)
        | (go_at_call 79; refine (check_any h _).mono ?_; rw [HM.out]; rintro e w1 ⟨rfl, hb1⟩; have r1 := (hb1.block _ (Array.getElem?_eq_some_iff.1 HW.out).1).trans HW.out; have c35 : w1.cell? ⟨b, 35, none⟩ = some (.slice ca n cp) := (by rw [cell_of_row w1 _ 35 _ _ _ r1]; rfl); have c36 : w1.cell? ⟨b, 36, none⟩ = some (.int .i64 size) := (by rw [cell_of_row w1 _ 36 _ _ _ r1]; rfl); have HB1 := Lib.hid hb1; clear hb1 r1))
      go_ret
      exact ⟨rfl, HB1.out⟩
    have n1 : ¬ ((n : Int) > 1024) := by omega
    by_cases h2 : size < 0
    · have e := HRE.out; rw [if_pos (.inr (.inr (.inl h2)))] at e; subst e
      clear HRE
      go_enter Tryz.func70, Tryz.ntmps70
      go_wp2_with (first
        | (show wpList _ _ _ (Oper.mk (some 9) _ _ _ _ _ :: _) _ _; refine wpList_valW rfl (hartV h) (Al.load_hart HW.out rfl rfl) ?_)
        | (go_at_call 79; refine (check_any h _).mono ?_; rw [HM.out]; rintro e w1 ⟨rfl, hb1⟩; have r1 := (hb1.block _ (Array.getElem?_eq_some_iff.1 HW.out).1).trans HW.out; have c35 : w1.cell? ⟨b, 35, none⟩ = some (.slice ca n cp) := (by rw [cell_of_row w1 _ 35 _ _ _ r1]; rfl); have c36 : w1.cell? ⟨b, 36, none⟩ = some (.int .i64 size) := (by rw [cell_of_row w1 _ 36 _ _ _ r1]; rfl); have HB1 := Lib.hid hb1; clear hb1 r1))
      go_ret
      exact ⟨rfl, HB1.out⟩
    by_cases h3 : 4096 < size
    · have e := HRE.out; rw [if_pos (.inr (.inr (.inr h3)))] at e; subst e
      clear HRE
      go_enter Tryz.func70, Tryz.ntmps70
      go_wp2_with (first
        | (show wpList _ _ _ (Oper.mk (some 9) _ _ _ _ _ :: _) _ _; refine wpList_valW rfl (hartV h) (Al.load_hart HW.out rfl rfl) ?_)
        | (go_at_call 79; refine (check_any h _).mono ?_; rw [HM.out]; rintro e w1 ⟨rfl, hb1⟩; have r1 := (hb1.block _ (Array.getElem?_eq_some_iff.1 HW.out).1).trans HW.out; have c35 : w1.cell? ⟨b, 35, none⟩ = some (.slice ca n cp) := (by rw [cell_of_row w1 _ 35 _ _ _ r1]; rfl); have c36 : w1.cell? ⟨b, 36, none⟩ = some (.int .i64 size) := (by rw [cell_of_row w1 _ 36 _ _ _ r1]; rfl); have HB1 := Lib.hid hb1; clear hb1 r1))
      go_ret
      exact ⟨rfl, HB1.out⟩
    by_cases h4 : most < 0
    · have e := HRE.out; rw [if_neg (by simp; omega), if_pos (.inl h4)] at e; subst e
      clear HRE
      go_enter Tryz.func70, Tryz.ntmps70
      go_wp2_with (first
        | (show wpList _ _ _ (Oper.mk (some 9) _ _ _ _ _ :: _) _ _; refine wpList_valW rfl (hartV h) (Al.load_hart HW.out rfl rfl) ?_)
        | (go_at_call 79; refine (check_any h _).mono ?_; rw [HM.out]; rintro e w1 ⟨rfl, hb1⟩; have r1 := (hb1.block _ (Array.getElem?_eq_some_iff.1 HW.out).1).trans HW.out; have c35 : w1.cell? ⟨b, 35, none⟩ = some (.slice ca n cp) := (by rw [cell_of_row w1 _ 35 _ _ _ r1]; rfl); have c36 : w1.cell? ⟨b, 36, none⟩ = some (.int .i64 size) := (by rw [cell_of_row w1 _ 36 _ _ _ r1]; rfl); have HB1 := Lib.hid hb1; clear hb1 r1))
      go_ret
      exact ⟨rfl, HB1.out⟩
    by_cases h5 : 1048576 < most
    · have e := HRE.out; rw [if_neg (by simp; omega), if_pos (.inr h5)] at e; subst e
      clear HRE
      go_enter Tryz.func70, Tryz.ntmps70
      go_wp2_with (first
        | (show wpList _ _ _ (Oper.mk (some 9) _ _ _ _ _ :: _) _ _; refine wpList_valW rfl (hartV h) (Al.load_hart HW.out rfl rfl) ?_)
        | (go_at_call 79; refine (check_any h _).mono ?_; rw [HM.out]; rintro e w1 ⟨rfl, hb1⟩; have r1 := (hb1.block _ (Array.getElem?_eq_some_iff.1 HW.out).1).trans HW.out; have c35 : w1.cell? ⟨b, 35, none⟩ = some (.slice ca n cp) := (by rw [cell_of_row w1 _ 35 _ _ _ r1]; rfl); have c36 : w1.cell? ⟨b, 36, none⟩ = some (.int .i64 size) := (by rw [cell_of_row w1 _ 36 _ _ _ r1]; rfl); have HB1 := Lib.hid hb1; clear hb1 r1))
      go_ret
      exact ⟨rfl, HB1.out⟩
    have e := HRE.out; rw [if_neg (by simp; omega), if_neg (by omega)] at e; subst e
    clear HRE
    go_enter Tryz.func70, Tryz.ntmps70
    go_wp2_with (first
      | (show wpList _ _ _ (Oper.mk (some 9) _ _ _ _ _ :: _) _ _; refine wpList_valW rfl (hartV h) (Al.load_hart HW.out rfl rfl) ?_)
      | (go_at_call 79; refine (check_any h _).mono ?_; rw [HM.out]; rintro e w1 ⟨rfl, hb1⟩; have r1 := (hb1.block _ (Array.getElem?_eq_some_iff.1 HW.out).1).trans HW.out; have c35 : w1.cell? ⟨b, 35, none⟩ = some (.slice ca n cp) := (by rw [cell_of_row w1 _ 35 _ _ _ r1]; rfl); have c36 : w1.cell? ⟨b, 36, none⟩ = some (.int .i64 size) := (by rw [cell_of_row w1 _ 36 _ _ _ r1]; rfl); have HB1 := Lib.hid hb1; clear hb1 r1))
    go_ret
    exact ⟨rfl, HB1.out⟩
  exact key _ rfl

/-- a hart at its beginning -/
def Al.H0 (id : Int) : H := ⟨id, 0, fun _ => 0, 0⟩
def Al.S0 (id : Int) (m : Al.MS) : Al.St := ⟨Al.H0 id, m, []⟩
abbrev Al.wzero : Array Value := #[.int .i64 0, .int .u32 0, .int .u32 0, .int .u32 0, .int .u32 0, .int .u32 0, .int .u32 0, .int .u32 0, .int .u32 0, .int .u32 0, .int .u32 0, .int .u32 0, .int .u32 0, .int .u32 0, .int .u32 0, .int .u32 0, .int .u32 0, .int .u32 0, .int .u32 0, .int .u32 0, .int .u32 0, .int .u32 0, .int .u32 0, .int .u32 0, .int .u32 0, .int .u32 0, .int .u32 0, .int .u32 0, .int .u32 0, .int .u32 0, .int .u32 0, .int .u32 0, .int .u32 0, .int .u32 0, .int .i64 0, .slice none 0 0, .int .i64 0, .nilFunc]
theorem run_build_op {P : Program} {ρ : Operand → Value} {o : Oper} {w : World} (t : TypeId) (parts : Array (Nat × Operand)) (ho : o.op = .build t parts) (cs : Array Value) (hb : P.built t (parts.map fun (i, x) => (i, ρ x)).toList = some cs) : (execOp ρ o).run P w = .ok (.value (.agg cs)) w := by
  unfold execOp
  simp only [ho, Sem.run_bind, run_build w t _ cs hb, Result.andThen_ok, Sem.run_pure]
theorem ownsRow_base_le {W : World} {base base' : Nat} {e : TypeId} {size : Nat} {v : Value} {k : Nat} {xs : List Value} (h : W.ownsRow base' e size v k xs) (hb : base ≤ base') : W.ownsRow base e size v k xs :=
  ⟨h.1, h.2.imp id fun ⟨g, cap, cur, e1, e2, r⟩ => ⟨g, cap, cur, e1, Nat.le_trans hb e2, r⟩⟩
theorem Al.refE_ok {h : H} {n : Nat} {size most : Int} (e : Al.refE h n size most = 0) : may h = true ∧ n ≤ 1024 ∧ 0 ≤ size ∧ size ≤ 4096 ∧ 0 ≤ most ∧ most ≤ 1048576 := by
  unfold Al.refE at e
  split at e
  · exact absurd e (by decide)
  · split at e
    · exact absurd e (by decide)
    · rename_i h1 h2
      cases hm : may h
      · exact absurd (.inl hm) h1
      · exact ⟨rfl, by omega, by omega, by omega, by omega, by omega⟩
theorem Al.H0_hb (id : Int) (h : -9223372036854775808 ≤ id ∧ id ≤ 9223372036854775807) : HB (Al.H0 id) :=
  ⟨h, by unfold Ar.Wd; exact ⟨by show (0 : Int) ≤ 0; omega, by show (0 : Int) ≤ 4294967295; omega⟩, fun k => by unfold Ar.Wd; exact ⟨by show (0 : Int) ≤ 0; omega, by show (0 : Int) ≤ 4294967295; omega⟩, by show (-9223372036854775808 : Int) ≤ 0; omega, by show (0 : Int) ≤ 9223372036854775807; omega⟩
set_option maxRecDepth 100000 in
set_option maxHeartbeats 4000000 in
theorem begin_any (q p g : Nat) (m : Al.MS) (xs : List Int) (ca : Option Addr) (n cp : Nat) (hl : xs.length = n) (hn : n ≤ 9223372036854775807) (id most : Int) (w : World) (hm : MemS w q p g m) (hc : CodeIn w ca xs) (hca : 0 < xs.length → ∀ a, ca = some a → a.block ≠ q ∧ a.block ≠ g) (hid : -9223372036854775808 ≤ id ∧ id ≤ 9223372036854775807) :
    Calls Tryz.prog 42 #[.slice ca n cp, .int .i64 m.bs.length, .int .i64 id, .int .i64 most, Al.tellV q] w fun e w' =>
      (Al.refE (Al.H0 id) n m.bs.length most ≠ 0 ∧ e = .returned (.tuple #[.agg hzero, .slice none 0 0, .int .i64 (Al.refE (Al.H0 id) n m.bs.length most)]) ∧ Below w.heap.size w w') ∨
      (Al.refE (Al.H0 id) n m.bs.length most = 0 ∧ ∃ v, e = .returned (.tuple #[hartV (Al.goN xs m.bs.length (Al.S0 id m) most.toNat).h, v, .int .i64 0]) ∧
        w'.ownsRow w.heap.size 74 14 v (Al.goN xs m.bs.length (Al.S0 id m) most.toNat).l.length ((Al.goN xs m.bs.length (Al.S0 id m) most.toNat).l.flatMap Al.ccells) ∧ MemS w' q p g (Al.goN xs m.bs.length (Al.S0 id m) most.toNat).m ∧ Og.Kept q g w w') := by
  have hlq := Mem.lt hm
  have hlp := im_heap_lt hm.img.ptr
  obtain ⟨re, hre⟩ : ∃ re, re = Al.refE (Al.H0 id) n m.bs.length most := ⟨_, rfl⟩
  rw [← hre]
  obtain ⟨W1, hW1⟩ : ∃ W1, W1 = ((w.alloc (.cells hzero 26)).alloc (.cells Al.wzero 135)).setRow (w.heap.size + 1) (Al.wcs (Al.H0 id) ca n cp m.bs.length (Al.tellV q)).toArray := ⟨_, rfl⟩
  have hz := (heap_b2 w (.cells hzero 26) (.cells Al.wzero 135)).2
  have hz0 := (heap_b2 w (.cells hzero 26) (.cells Al.wzero 135)).1
  have hb1 : Below w.heap.size w W1 := by rw [hW1]; exact below_setRow (((Below.refl _ w).alloc (Nat.le_refl _) _).alloc (by simp only [World.size_alloc]; omega) _) (by omega)
  have hw1 : Wat W1 (w.heap.size + 1) (Al.H0 id) ca n cp m.bs.length (Al.tellV q) := by rw [hW1]; exact setRow_heap _ _ _ _ _ _ hz
  have hr1 : W1.heap[w.heap.size]? = some (.cells hzero 26 (0, 0)) := by rw [hW1]; exact (setRow_other _ _ _ _ (by omega)).trans hz0
  have HZ := Lib.hid hz; have HB1 := Lib.hid hb1; have HWA := Lib.hid hw1; have HR1 := Lib.hid hr1; have HW1 := Lib.hid hW1; have HM := Lib.hid (Mem.below hm hb1); have HC := Lib.hid (hc.below hb1); have HC0 := Lib.hid hc; have HCA := Lib.hid hca
  have LT := Lib.hid (And.intro hlq (And.intro hlp hid))
  have HREF := Lib.hid (fun x hw => refused_any (w.heap.size + 1) (Al.H0 id) ca n cp m.bs.length most (Al.tellV q) x hw)
  clear hz hz0 hb1 hw1 hr1 hW1 hm hc hca hlq hlp hid
  by_cases h0 : re = 0
  · obtain ⟨hmy, hn1, hs1, hs2, hm1, hm2⟩ := Al.refE_ok (hre.symm.trans h0)
    obtain ⟨N, rfl⟩ : ∃ N : Nat, most = N := ⟨most.toNat, by omega⟩
    have HRE := Lib.hid (hre.symm.trans h0); clear hre
    subst h0
    refine Calls.mono ?_ (fun e w' h => .inr ⟨rfl, h⟩)
    rw [show ((N : Int)).toNat = N from rfl]
    have hgo : goes (Al.H0 id) = true := by unfold goes; rw [hmy]; rfl
    have HGO := Lib.hid hgo; have HNN := Lib.hid (show N ≤ 1048576 by omega)
    clear hmy hn1 hs1 hs2 hm1 hm2 hgo
    go_enter Tryz.func42, Tryz.ntmps42
    go_wp2_with (first
      | (show wpList _ _ _ (Oper.mk (some 17) _ _ _ _ _ :: _) _ _; refine wpList_valW rfl (.agg (hcells (Al.H0 id)).toArray) (run_build_op 26 _ rfl _ (by simp only [List.map_toArray, List.map_cons, List.map_nil]; kernel_rfl)) ?_)
      | (show wpList _ _ _ (Oper.mk (some 21) _ _ _ _ _ :: _) _ _; refine wpList_valW rfl (.agg (Al.wcs (Al.H0 id) ca n cp m.bs.length (Al.tellV q)).toArray) (run_build_op 135 _ rfl _ (by simp only [List.map_toArray, List.map_cons, List.map_nil]; kernel_rfl)) ?_)
      | (show wpList _ _ _ (Oper.mk none (Op.store 135 _ _) _ _ _ _ :: _) _ _; refine wpList_store_row rfl 135 (.tmp 13) (.tmp 21) rfl (w.heap.size + 1) (Al.wcs (Al.H0 id) ca n cp m.bs.length (Al.tellV q)).toArray rfl rfl 135 Al.wzero HZ.out (by kernel_rfl) (by kernel_rfl) (by kernel_rfl) ?_; rw [← HW1.out])
      | (go_at_call 70; refine (HREF.out W1 HWA.out).mono ?_; rw [HRE.out]; rintro e W2 ⟨rfl, hb2⟩; have HB2 := Lib.hid hb2; clear hb2)
      | (go_at_call 71; refine (goOn_any (w.heap.size + 1) q p g ca n cp N xs hl hn HNN.out (Al.S0 id m) W2 rfl ((HB2.out.block _ (Array.getElem?_eq_some_iff.1 HWA.out).1).trans HWA.out) (Mem.below HM.out HB2.out) (by have := LT.out; omega) (HC.out.below HB2.out) (fun hx a ha => ⟨(by obtain ⟨g', o, e1, e2⟩ := HC0.out.1 hx; have := World.block_lt_of_cell? w _ (e2 0 hx); rw [ha] at e1; cases e1; simp only at this ⊢; omega), HCA.out hx a ha⟩) (Al.H0_hb id LT.out.2.2) (fun _ => HGO.out)).mono ?_; rintro e W3 ⟨v, rfl, ho, hw3, hm3, hk3⟩; have hr3 := (hk3.block _ (by have := HB2.out.size; have := (Array.getElem?_eq_some_iff.1 HR1.out).1; omega) (by omega) (by have := LT.out; omega) (by have := LT.out; omega)).trans ((HB2.out.block _ (Array.getElem?_eq_some_iff.1 HR1.out).1).trans HR1.out); have HO := Lib.hid ho; have HW3 := Lib.hid hw3; have HM3 := Lib.hid hm3; have HK3 := Lib.hid hk3; have HR3 := Lib.hid hr3; clear ho hw3 hm3 hk3 hr3)
      | (show wpList _ _ _ (Oper.mk (some 31) _ _ _ _ _ :: _) _ _; refine wpList_valW rfl (hartV (Al.goN xs m.bs.length (Al.S0 id m) N).h) (Al.load_hart HW3.out rfl rfl) ?_)
      | (show wpList _ _ _ (Oper.mk none (Op.store 26 _ _) _ _ _ _ :: _) _ _; refine wpList_store_row rfl 26 (.tmp 10) (.tmp 31) rfl w.heap.size (hcells (Al.goN xs m.bs.length (Al.S0 id m) N).h).toArray rfl rfl 26 hzero HR3.out (by kernel_rfl) (by kernel_rfl) (by kernel_rfl) ?_))
    have hlt1 := (Array.getElem?_eq_some_iff.1 HR1.out).1
    have hb02 : Below w.heap.size w W2 := HB1.out.trans (HB2.out.mono HB1.out.size)
    have hkk : Og.Kept q g w W3 := ⟨HK3.out.os.trans hb02.os, HK3.out.tape.trans hb02.tape, HK3.out.output.trans hb02.output, Nat.le_trans hb02.size HK3.out.size, fun k hk h1 h2 => (HK3.out.block k (Nat.lt_of_lt_of_le hk hb02.size) (by omega) h1 h2).trans (hb02.block k hk)⟩
    refine bodyPost_ret (v := .tuple #[hartV (Al.goN xs m.bs.length (Al.S0 id m) N).h, v, .int .i64 0]) ?_ rfl ⟨v, rfl, ?_, Mem.setrow HM3.out (by have := LT.out; omega) _, hkk.setRow (Nat.le_refl _) _⟩
    · exact results_row3 (fn := Tryz.f42) rfl _ _ w.heap.size 26 (hcells (Al.goN xs m.bs.length (Al.S0 id m) N).h).toArray (0, 0) _ rfl (setRow_heap _ _ _ _ _ _ HR3.out) Tryz.underlying26 rfl (by kernel_rfl)
    · exact ownsRow_base_le (ownsRow_of HO.out fun j o hj hjo _ => (setRow_other _ _ _ _ (by have := HB2.out.size; omega)).trans hjo) hb02.size
  · have hne : (re != 0) = true := by simpa using h0
    have HRE := Lib.hid hre.symm; clear hre
    refine Calls.mono ?_ (fun e w' h => .inl ⟨h0, h⟩)
    clear h0
    go_enter Tryz.func42, Tryz.ntmps42
    go_wp2_with (first
      | (show wpList _ _ _ (Oper.mk (some 17) _ _ _ _ _ :: _) _ _; refine wpList_valW rfl (.agg (hcells (Al.H0 id)).toArray) (run_build_op 26 _ rfl _ (by simp only [List.map_toArray, List.map_cons, List.map_nil]; kernel_rfl)) ?_)
      | (show wpList _ _ _ (Oper.mk (some 21) _ _ _ _ _ :: _) _ _; refine wpList_valW rfl (.agg (Al.wcs (Al.H0 id) ca n cp m.bs.length (Al.tellV q)).toArray) (run_build_op 135 _ rfl _ (by simp only [List.map_toArray, List.map_cons, List.map_nil]; kernel_rfl)) ?_)
      | (show wpList _ _ _ (Oper.mk none (Op.store 135 _ _) _ _ _ _ :: _) _ _; refine wpList_store_row rfl 135 (.tmp 13) (.tmp 21) rfl (w.heap.size + 1) (Al.wcs (Al.H0 id) ca n cp m.bs.length (Al.tellV q)).toArray rfl rfl 135 Al.wzero HZ.out (by kernel_rfl) (by kernel_rfl) (by kernel_rfl) ?_; rw [← HW1.out])
      | (go_at_call 70; refine (HREF.out W1 HWA.out).mono ?_; rw [HRE.out]; rintro e W2 ⟨rfl, hb2⟩; have hr2 := (hb2.block _ (Array.getElem?_eq_some_iff.1 HR1.out).1).trans HR1.out; have HB2 := Lib.hid hb2; have HR2 := Lib.hid hr2; clear hb2 hr2)
      | (show wpList _ _ _ (Oper.mk (some 26) _ _ _ _ _ :: _) _ _; refine wpList_valW rfl (.agg hzero) (run_build_op 26 _ rfl _ (by simp only [List.map_toArray, List.map_nil]; kernel_rfl)) ?_)
      | (show wpList _ _ _ (Oper.mk none (Op.store 26 _ _) _ _ _ _ :: _) _ _; refine wpList_store_row rfl 26 (.tmp 10) (.tmp 26) rfl w.heap.size hzero rfl rfl 26 hzero HR2.out (by kernel_rfl) (by kernel_rfl) (by kernel_rfl) ?_))
    refine bodyPost_ret (v := .tuple #[.agg hzero, .slice none 0 0, .int .i64 re]) ?_ rfl ⟨rfl, below_setRow (HB1.out.trans (HB2.out.mono HB1.out.size)) (Nat.le_refl _)⟩
    exact results_row3 (fn := Tryz.f42) rfl _ _ w.heap.size 26 hzero (0, 0) _ rfl (setRow_heap _ _ _ _ _ _ HR2.out) Tryz.underlying26 rfl (by kernel_rfl)
set_option maxRecDepth 100000 in
set_option maxHeartbeats 2000000 in
theorem run_any (p g : Nat) (bs : List Int) (xs : List Int) (ca : Option Addr) (n cp : Nat) (hl : xs.length = n) (hn : n ≤ 9223372036854775807) (id most : Int) (w : World) (hi : Img w p g bs) (hpg : p ≠ g) (hc : CodeIn w ca xs) (hca : 0 < xs.length → ∀ a, ca = some a → a.block ≠ g) (hid : -9223372036854775808 ≤ id ∧ id ≤ 9223372036854775807) :
    Calls Tryz.prog 20 #[.slice ca n cp, .pointer (some ⟨p, 0, none⟩), .int .i64 id, .int .i64 most] w fun e w' =>
      (Al.refE (Al.H0 id) n bs.length most ≠ 0 ∧ e = .returned (.tuple #[.agg hzero, .slice none 0 0, .int .i64 (Al.refE (Al.H0 id) n bs.length most)]) ∧ Below w.heap.size w w') ∨
      (Al.refE (Al.H0 id) n bs.length most = 0 ∧ ∃ v, e = .returned (.tuple #[hartV (Al.goN xs bs.length (Al.S0 id ⟨bs, false, 0⟩) most.toNat).h, v, .int .i64 0]) ∧
        w'.ownsRow w.heap.size 74 14 v (Al.goN xs bs.length (Al.S0 id ⟨bs, false, 0⟩) most.toNat).l.length ((Al.goN xs bs.length (Al.S0 id ⟨bs, false, 0⟩) most.toNat).l.flatMap Al.ccells) ∧ Img w' p g (Al.goN xs bs.length (Al.S0 id ⟨bs, false, 0⟩) most.toNat).m.bs ∧ w.grownBy w' (some g)) := by
  have hbd := hi.bd
  have hlg := im_heap_lt (show w.heap[g]? = some _ from hi.row)
  have hlp := im_heap_lt hi.ptr
  obtain ⟨W1, hW1⟩ : ∃ W1, W1 = (w.alloc (.cells hzero 26)).alloc (.cells #[.pointer (some ⟨p, 0, none⟩), .bool false, .int .u32 0] 139) := ⟨_, rfl⟩
  have hb1 : Below w.heap.size w W1 := by rw [hW1]; exact ((Below.refl _ w).alloc (Nat.le_refl _) _).alloc (by simp only [World.size_alloc]; omega) _
  have hz := (heap_b2 w (.cells hzero 26) (.cells #[.pointer (some ⟨p, 0, none⟩), .bool false, .int .u32 0] 139))
  have hm : MemS W1 (w.heap.size + 1) p g ⟨bs, false, 0⟩ := ⟨hi.old hb1, by rw [hW1]; exact hz.2, by omega, by omega⟩
  have hr1 : W1.heap[w.heap.size]? = some (.cells hzero 26 (0, 0)) := by rw [hW1]; exact hz.1
  have hcc : CodeIn W1 ca xs := hc.below hb1
  have hbg := begin_any (w.heap.size + 1) p g ⟨bs, false, 0⟩ xs ca n cp hl hn id most W1 hm hcc (fun h a ha => ⟨(by
    obtain ⟨g', o, e1, e2⟩ := hc.1 h
    have := World.block_lt_of_cell? w _ (e2 0 h)
    rw [ha] at e1; cases e1; simp only at this ⊢; omega), hca h a ha⟩) hid
  have hne : ((bs.length : Int) == 0) = false := by simp; intro e; rw [e] at hbd; simp at hbd
  have hps : ∃ v, w.cell? ⟨p, 0, none⟩ = some (.slice (some ⟨g, 0, none⟩) bs.length bs.length) ∧ v = (0 : Nat) := ⟨0, by rw [cell_of_row w p 0 _ _ _ hi.ptr]; rfl, rfl⟩
  obtain ⟨_, hpc, _⟩ := hps
  have HPC := Lib.hid (show (w.alloc (.cells hzero 26)).cell? ⟨p, 0, none⟩ = some (.slice (some ⟨g, 0, none⟩) bs.length bs.length) from (((Below.refl w.heap.size w).alloc (Nat.le_refl _) _).cell (p := ⟨p, 0, none⟩) hlp).trans hpc)
  have HBG := Lib.hid hbg; have HW1 := Lib.hid hW1; have HB1 := Lib.hid hb1; have HR1 := Lib.hid hr1; have HBD := Lib.hid hbd; have HLT := Lib.hid (And.intro hlg (And.intro hlp hpg))
  clear hbg hW1 hb1 hz hm hr1 hcc hpc hi hc hca hbd hlg hlp hpg
  go_enter Tryz.func20, Tryz.ntmps20
  go_wp2_with (first
    | (go_at_call 41; refine (size_any p g bs.length _ (by have := HBD.out; omega) HPC.out).mono ?_; rintro e w' ⟨rfl, rfl⟩)
    | (go_at_call 43; refine (fromMemory_any p _).mono ?_; rintro e w' ⟨rfl, rfl⟩; rw [← HW1.out, World.size_alloc])
    | (go_at_call 42; refine HBG.out.mono ?_; intro e w2 hpost; have HP := Lib.hid hpost; clear hpost; obtain ⟨hh, vv, er, e2, h2, k2⟩ : ∃ (hh : Array Value) (vv : Value) (er : Int), e = .returned (.tuple #[.agg hh, vv, .int .i64 er]) ∧ (hh.size = 35 ∧ hh.all (·.oneCell') = true) ∧ Og.Kept (w.heap.size + 1) g W1 w2 := (by rcases HP.out with ⟨_, e2, b2⟩ | ⟨_, v, e2, _, _, k2⟩; exact ⟨_, _, _, e2, ⟨rfl, by kernel_rfl⟩, Og.Kept.of_below b2⟩; exact ⟨_, _, _, e2, ⟨rfl, by kernel_rfl⟩, k2⟩); subst e2; have hr2 := (k2.block w.heap.size (Array.getElem?_eq_some_iff.1 HR1.out).1 (by omega) (by have := HLT.out; omega)).trans HR1.out; have HR2 := Lib.hid hr2; have HK2 := Lib.hid k2; have HH := Lib.hid h2; clear hr2 k2 h2)
    | (show wpList _ _ _ (Oper.mk none (Op.store 26 _ _) _ _ _ _ :: _) _ _; refine wpList_store_row rfl 26 (.tmp 8) (.tmp 24) rfl w.heap.size hh rfl rfl 26 hzero HR2.out (by rw [HH.out.1]; kernel_rfl) HH.out.1.symm HH.out.2 ?_))
  have hlt1 := (Array.getElem?_eq_some_iff.1 HR1.out).1
  refine bodyPost_ret (v := .tuple #[.agg hh, vv, .int .i64 er]) (results_row3 (fn := Tryz.f20) rfl _ _ w.heap.size 26 hh (0, 0) _ rfl (setRow_heap _ _ _ _ _ _ HR2.out) Tryz.underlying26 rfl (by rw [HH.out.1]; kernel_rfl)) rfl ?_
  rcases HP.out with ⟨h1, e2, b2⟩ | ⟨h1, v, e2, o2, m2, k2⟩
  · exact .inl ⟨h1, e2, below_setRow (HB1.out.trans (b2.mono HB1.out.size)) (Nat.le_refl _)⟩
  · refine .inr ⟨h1, v, e2, ?_, ?_, ?_⟩
    · exact ownsRow_base_le (ownsRow_of o2 fun j o hj hjo _ => (setRow_other _ _ _ _ (by omega)).trans hjo) HB1.out.size
    · exact (Mem.setrow m2 (by have := HLT.out; omega) _).img
    · exact ⟨k2.os.trans HB1.out.os, k2.tape.trans HB1.out.tape, k2.output.trans HB1.out.output, by simpa [World.setRow] using Nat.le_trans HB1.out.size k2.size, fun k hk hne => (setRow_other _ _ _ _ (by omega)).trans ((k2.block k (Nat.lt_of_lt_of_le hk HB1.out.size) (by omega) (fun e => hne (by rw [e]))).trans (HB1.out.block k hk))⟩
end Go.Proofs.YtianojbdabeoeaaGreatDoor
end

section
namespace Go.Proofs.YtianojbdabeoeaaGreatDoor
open Go.RowKit Ht
set_option linter.unusedVariables false
namespace Al
theorem hit_same {x : Int} (hx : Is.Wd x) {op q : Nat} (h : Hit op x) (h' : Hit q x) : op = q := Is.hit_one hx ⟨h.1, h.2.1⟩ ⟨h'.1, h'.2.1⟩ h.2.2 h'.2.2
/-- what is told of a word that goes on -/
theorem oS_go {h : H} {x size tv : Int} {tok : Bool} {op : Nat} (g : goes h = true) (hx : Is.Wd x) (hh : Hit op x) (hw : whyS (begin_ h (insOf op x) size tv tok) = 0) :
    oS h x size tv tok = { Ht.after (begin_ h (insOf op x) size tv tok) with h := { (Ht.after (begin_ h (insOf op x) size tv tok)).h with pc := (Ht.after (begin_ h (insOf op x) size tv tok)).next } } := by
  have o := oS_out (x := x) (size := size) (tv := tv) (tok := tok) g
  generalize oS h x size tv tok = s at o ⊢
  cases o with
  | ill _ hn => exact absurd hh (hn op)
  | halt q _ hq hn => obtain rfl := hit_same hx hh hq; exact absurd hw hn
  | ok q _ hq _ => obtain rfl := hit_same hx hh hq; rfl
/-- what is told of a word that halts -/
theorem oS_halt {h : H} {x size tv : Int} {tok : Bool} {op : Nat} (g : goes h = true) (hx : Is.Wd x) (hh : Hit op x) (hw : whyS (begin_ h (insOf op x) size tv tok) ≠ 0) :
    oS h x size tv tok = SH { h with cause := whyS (begin_ h (insOf op x) size tv tok) } := by
  have o := oS_out (x := x) (size := size) (tv := tv) (tok := tok) g
  generalize oS h x size tv tok = s at o ⊢
  cases o with
  | ill _ hn => exact absurd hh (hn op)
  | halt q _ hq hn => obtain rfl := hit_same hx hh hq; rfl
  | ok q _ hq hn => obtain rfl := hit_same hx hh hq; exact absurd hn hw
theorem hitA : Hit 19 5243027 := by
  refine ⟨by omega, by omega, ?_⟩
  rw [Is.hit_iff (by unfold Is.Wd; omega) 19 (by omega)]
  decide
theorem hitB : Hit 18 1056803 := by
  refine ⟨by omega, by omega, ?_⟩
  rw [Is.hit_iff (by unfold Is.Wd; omega) 18 (by omega)]
  decide
theorem hitC : Hit 39 115 := by
  refine ⟨by omega, by omega, ?_⟩
  rw [Is.hit_iff (by unfold Is.Wd; omega) 39 (by omega)]
  decide
def ks : List Int := [5243027, 1056803, 115]
def kz : List Int := List.replicate 16 0
/-- the hart behind each word -/
def kA : H := ⟨0, 4, upd (fun _ => 0) 1 5, 0⟩
def kB : H := ⟨0, 8, upd (fun _ => 0) 1 5, 0⟩
def kC : H := ⟨0, 8, upd (fun _ => 0) 1 5, 1⟩
def kM : List Int := [5, 0, 0, 0, 0, 0, 0, 0, 0, 0, 0, 0, 0, 0, 0, 0]
theorem wdA : Is.Wd 5243027 := by unfold Is.Wd; omega
theorem wdB : Is.Wd 1056803 := by unfold Is.Wd; omega
theorem wdC : Is.Wd 115 := by unfold Is.Wd; omega
theorem go_step {xs : List Int} {n : Nat} {s : St} {x : Int} (hc : s.h.cause = 0) (ht : there xs s.h.pc = true) (hx : word xs s.h.pc = x) : go1 xs n s = stepS s x n := by
  unfold go1
  rw [if_neg (by rw [hc]; simp), if_neg (by rw [ht]; simp), hx]
theorem kstep {h h2 : H} {x : Int} {m m2 : MS} {l : List C} {op : Nat} {a : A} (g : goes h = true) (hx : Is.Wd x) (hh : Hit op x)
    (hw : ∀ tv tok, whyS (begin_ h (insOf op x) 16 tv tok) = 0) (ha : (Ht.after (begin_ h (insOf op x) 16 0 false)).a = a)
    (hd : ({ (Ht.after (begin_ h (insOf op x) 16 (hv a (toldV a m)) (ho a (toldO a m)))).h with pc := (Ht.after (begin_ h (insOf op x) 16 (hv a (toldV a m)) (ho a (toldO a m)))).next } : H) = h2) (hm : after a m = m2) :
    ∃ c, stepS ⟨h, m, l⟩ x 16 = ⟨h2, m2, l ++ [c]⟩ := by
  have e1 : acs h x 16 = a := by unfold acs; rw [show ((16 : Nat) : Int) = 16 from rfl, oS_go g hx hh (hw 0 false)]; exact ha
  unfold stepS
  simp only [e1]
  refine ⟨com h x (16 : Nat) a (toldV a m) (toldO a m), ?_⟩
  rw [hm]
  congr 1
  unfold done
  rw [show ((16 : Nat) : Int) = 16 from rfl, oS_go g hx hh (hw _ _)]
  exact hd
def aB : A := ⟨2, 0, 4, 5, 0, false, false⟩
theorem goesA : goes (H0 0) = true := by decide
theorem goesB : goes kA = true := by decide
theorem goesC : goes kB = true := by decide
theorem k1 (l : List C) : ∃ c, stepS ⟨H0 0, ⟨kz, false, 0⟩, l⟩ 5243027 16 = ⟨kA, ⟨kz, false, 0⟩, l ++ [c]⟩ :=
  kstep (op := 19) (a := A0) goesA wdA hitA (fun tv tok => by kernel_rfl) (by kernel_rfl) (by kernel_rfl) (by kernel_rfl)
theorem k2 (l : List C) : ∃ c, stepS ⟨kA, ⟨kz, false, 0⟩, l⟩ 1056803 16 = ⟨kB, ⟨kM, false, 0⟩, l ++ [c]⟩ :=
  kstep (op := 18) (a := aB) goesB wdB hitB (fun tv tok => by kernel_rfl) (by kernel_rfl) (by kernel_rfl) (by kernel_rfl)
theorem k3 (l : List C) : ∃ c, stepS ⟨kB, ⟨kM, false, 0⟩, l⟩ 115 16 = ⟨kC, ⟨kM, false, 0⟩, l ++ [c]⟩ := by
  have hw : ∀ tv tok, whyS (begin_ kB (insOf 39 115) 16 tv tok) = 1 := fun tv tok => by kernel_rfl
  have e1 : acs kB 115 16 = A0 := by unfold acs; rw [show ((16 : Nat) : Int) = 16 from rfl, oS_halt goesC wdC hitC (by rw [hw]; decide)]; rfl
  unfold stepS
  simp only [e1]
  refine ⟨com kB 115 (16 : Nat) A0 (toldV A0 ⟨kM, false, 0⟩) (toldO A0 ⟨kM, false, 0⟩), ?_⟩
  have e2 : after A0 ⟨kM, false, 0⟩ = ⟨kM, false, 0⟩ := by kernel_rfl
  rw [e2]
  congr 1
  unfold done
  rw [show ((16 : Nat) : Int) = 16 from rfl, oS_halt goesC wdC hitC (by rw [hw]; decide), hw]
  rfl
theorem known_run : ∃ l, goN ks 16 (S0 0 ⟨kz, false, 0⟩) 10 = ⟨kC, ⟨kM, false, 0⟩, l⟩ ∧ l.length = 3 := by
  obtain ⟨c1, e1⟩ := k1 []
  obtain ⟨c2, e2⟩ := k2 ([] ++ [c1])
  obtain ⟨c3, e3⟩ := k3 ([] ++ [c1] ++ [c2])
  have s1 : goN ks 16 (S0 0 ⟨kz, false, 0⟩) 1 = ⟨kA, ⟨kz, false, 0⟩, [] ++ [c1]⟩ := (go_step (x := 5243027) rfl (by kernel_rfl) (by kernel_rfl)).trans e1
  have s2 : goN ks 16 (S0 0 ⟨kz, false, 0⟩) 2 = ⟨kB, ⟨kM, false, 0⟩, [] ++ [c1] ++ [c2]⟩ := by
    show go1 ks 16 (goN ks 16 (S0 0 ⟨kz, false, 0⟩) 1) = _
    rw [s1]; exact (go_step (x := 1056803) rfl (by kernel_rfl) (by kernel_rfl)).trans e2
  have s3 : goN ks 16 (S0 0 ⟨kz, false, 0⟩) 3 = ⟨kC, ⟨kM, false, 0⟩, [] ++ [c1] ++ [c2] ++ [c3]⟩ := by
    show go1 ks 16 (goN ks 16 (S0 0 ⟨kz, false, 0⟩) 2) = _
    rw [s2]; exact (go_step (x := 115) rfl (by kernel_rfl) (by kernel_rfl)).trans e3
  refine ⟨_, (goN_halt (k := 3) (by rw [s3]; show ¬ (1 : Int) = 0; decide) 7).trans s3, rfl⟩
end Al
end Go.Proofs.YtianojbdabeoeaaGreatDoor
end

section
namespace Go.Proofs.YtianojbdabeoeaaGreatDoor
open Go.RowKit Ht
set_option linter.unusedVariables false
theorem known_codein (w : World) : CodeIn (w.alloc (.cells #[.int .u32 5243027, .int .u32 1056803, .int .u32 115] 22)) (some ⟨w.heap.size, 0, none⟩) Al.ks := by
  refine ⟨fun _ => ⟨w.heap.size, 0, rfl, fun j hj => ?_⟩, fun x hx => ?_⟩
  · rw [Nat.zero_add, cell_of_row _ w.heap.size j _ _ _ (heap_alloc_new _ _)]
    have hj : j < 3 := hj
    rcases (show j = 0 ∨ j = 1 ∨ j = 2 by omega) with rfl | rfl | rfl <;> rfl
  · unfold Al.ks at hx
    simp only [List.mem_cons, List.not_mem_nil, or_false] at hx
    rcases hx with rfl | rfl | rfl
    · exact Al.wdA
    · exact Al.wdB
    · exact Al.wdC
set_option maxRecDepth 100000 in
set_option maxHeartbeats 2000000 in
theorem known5_any (w : World) :
    Calls Tryz.prog 19 #[] w fun e w' => e = .returned (.bool true) ∧ Below w.heap.size w w' := by
  go_enter Tryz.func19, Tryz.ntmps19
  go_wp2_with fail
  refine (new_yes 16 (by decide) _).mono ?_
  rintro e w1 ⟨p, g, rfl, hi, hp, hg, hb⟩
  obtain ⟨W2, hW2⟩ : ∃ W2, W2 = w1.alloc (.cells #[.int .u32 5243027, .int .u32 1056803, .int .u32 115] 22) := ⟨_, rfl⟩
  have hb2 : Below w1.heap.size w1 W2 := by rw [hW2]; exact (Below.refl _ _).alloc (Nat.le_refl _) _
  have hi2 : Img W2 p g Al.kz := Img.old (show Img w1 p g Al.kz from hi) hb2
  have hc2 : CodeIn W2 (some ⟨w1.heap.size, 0, none⟩) Al.ks := by rw [hW2]; exact known_codein w1
  have hlg := im_heap_lt (show w1.heap[g]? = some _ from hi.row)
  have hrun := run_any p g Al.kz Al.ks (some ⟨w1.heap.size, 0, none⟩) 3 3 rfl (by omega) 0 10 W2 hi2 hi2.ne hc2 (fun _ a ha => by cases ha; show w1.heap.size ≠ g; omega) (by omega)
  have hre : Al.refE (Al.H0 0) 3 (Al.kz.length) 10 = 0 := by decide
  obtain ⟨l, hkr, hll⟩ := Al.known_run
  rw [hre] at hrun
  rw [show ((10 : Int)).toNat = 10 from rfl, show Al.kz.length = 16 from rfl, hkr, hll] at hrun
  have HRUN := Lib.hid hrun; have HW2 := Lib.hid hW2; have HB := Lib.hid hb; have HB2 := Lib.hid hb2; have HP := Lib.hid hp; have HG := Lib.hid hg; have HL := Lib.hid hll
  clear hrun hW2 hb hb2 hp hg hi hi2 hc2 hlg hre hkr hll
  go_wp2_with (first
    | (go_at_call 20; rw [← HW2.out]; refine HRUN.out.mono ?_; rintro e w3 (⟨h, _⟩ | ⟨_, v, rfl, ho, hi3, hg3⟩); exact absurd rfl h; obtain ⟨ad, cc, rfl⟩ := ownsRow_form ho; obtain ⟨W4, hW4⟩ : ∃ W4, W4 = (w3.alloc (.cells hzero 26)).setRow w3.heap.size (hcells Al.kC).toArray := ⟨_, rfl⟩; have r4 : W4.heap[w3.heap.size]? = some (.cells (hcells Al.kC).toArray 26 (0, 0)) := (by rw [hW4]; exact setRow_heap _ _ _ _ _ _ (heap_alloc_new _ _)); have b4 : Below w3.heap.size w3 W4 := (by rw [hW4]; exact below_setRow ((Below.refl _ _).alloc (Nat.le_refl _) _) (Nat.le_refl _)); have hi4 := Img.old hi3 b4; have b04 : Below w.heap.size w W4 := (((HB.out.trans (HB2.out.mono HB.out.size)).grown hg3 (by have := HB.out.size; have := HB2.out.size; omega) (fun k hk => by cases hk; exact HG.out)).trans (b4.mono (by have := HB.out.size; have := HB2.out.size; have := hg3.size; omega))); have HI4 := Lib.hid hi4; have HB4 := Lib.hid b04; have HR4 := Lib.hid r4; have HW4 := Lib.hid hW4; clear ho hi3 hg3 hW4 r4 b4 hi4 b04)
    | (show wpList _ _ _ (Oper.mk none (Op.store 26 _ _) _ _ _ _ :: _) _ _; refine wpList_store_row rfl 26 (.tmp 3) (.tmp 16) rfl w3.heap.size (hcells Al.kC).toArray rfl rfl 26 hzero (heap_alloc_new _ _) (by kernel_rfl) (by kernel_rfl) (by kernel_rfl) ?_; rw [← HW4.out])
    | (go_at_call 40; refine (read_goes p g Al.kM 0 4 W4 (by omega) HI4.out (by omega) (by omega) (by decide)).mono ?_; rw [show Im.val (Im.win Al.kM 0 4) = 5 by decide]; rintro e w5 ⟨rfl, hb5⟩; have r5 := (hb5.block _ (Array.getElem?_eq_some_iff.1 HR4.out).1).trans HR4.out; have c1 : w5.cell? ⟨w3.heap.size, 1, none⟩ = some (.int .u32 8) := (by rw [cell_of_row w5 _ 1 _ _ _ r5]; rfl); have c34 : w5.cell? ⟨w3.heap.size, 34, none⟩ = some (.int .i64 1) := (by rw [cell_of_row w5 _ 34 _ _ _ r5]; rfl); have HB5 := Lib.hid (HB4.out.trans (hb5.mono HB4.out.size)); clear hb5 r5))
  go_ret
  exact ⟨rfl, HB5.out⟩
end Go.Proofs.YtianojbdabeoeaaGreatDoor
end

section
namespace Go.Proofs.YtianojbdabeoeaaGreatDoor
open Go.ChangeShapes Go.WideShapes Go.ChangeAt Go.RowKit
set_option linter.unusedVariables false
theorem cellsWord : Tryz.prog.cellsOf 22 = 1 := by kernel_rfl
/-- words that came in -/
abbrev WordsIn (w : World) (a : Option Addr) (xs : List Int) : Prop := CodeIn w a xs
theorem open_words {H : Type} {enc : TypeId × Value → H} {W : World} {a0 : Option Addr} {len cap : Nat} {d0 : DataW H} {p : List MemPlace}
    (h0 : DataW.Trod enc Tryz.prog W 0 (fun _ => true) true 48 (.slice a0 len cap) d0 p) :
    ∃ xs : List Int, xs.length = len ∧ len ≤ 9223372036854775807 ∧ WordsIn W a0 xs := by
  obtain ⟨fuel, hf⟩ := h0
  rcases open_ints Tryz.underlying48 Tryz.underlying22 cellsWord hf with ⟨hcs, hx⟩ | ⟨a, len', cap', zs, hcs, _, hl, hm, hz, hx, hcell, hwz⟩
  · simp [Value.cells] at hcs
    obtain ⟨rfl, rfl, rfl⟩ := hcs
    exact ⟨[], rfl, by omega, fun h => absurd h (by simp), fun x hx => by cases hx⟩
  · simp [Value.cells] at hcs
    obtain ⟨rfl, rfl, rfl⟩ := hcs
    simp only [if_true] at hz
    unfold maxLen at hm
    refine ⟨zs.take len, by simp; omega, by omega, fun hp => ?_, fun x hx => wf_u32 (hwz x (List.mem_of_mem_take hx))⟩
    have hp' : 0 < zs.length := by simp at hp; omega
    obtain ⟨b, off, rfl, hc⟩ := ints_at hcell hp'
    refine ⟨b, off, rfl, fun j hj => ?_⟩
    have hj' : j < len := by simp at hj; omega
    rw [hc j (by omega)]
    simp [List.getD, List.getElem?_take_of_lt hj']
theorem vast_any (a : Option Addr) (n c : Nat) (most : Int) (w : World) :
    Calls Tryz.prog 18 #[.slice a n c, .int .i64 most] w fun e w' => e = .returned (.bool (decide (200 < n) || decide (300 < most))) ∧ w = w' := by
  by_cases h : 200 < n
  · have h1 : (n : Int) > 200 := by omega
    rw [decide_eq_true h]
    go_enter Tryz.func18, Tryz.ntmps18
    go_wp2
    go_ret
    exact ⟨rfl, rfl⟩
  · have h1 : ¬ (n : Int) > 200 := by omega
    rw [decide_eq_false h]
    go_enter Tryz.func18, Tryz.ntmps18
    go_wp2
    go_ret
    exact ⟨rfl, rfl⟩
end Go.Proofs.YtianojbdabeoeaaGreatDoor
end
