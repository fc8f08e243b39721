/-
  The word of an instruction: the program's Encode.
-/
import Derived.Test.YtianojbdabeoeaaDoorIsPick
import Derived.Deep.Cut
namespace Go.Proofs.YtianojbdabeoeaaDoor
open Go.RowKit Go.Maps
set_option linter.unusedVariables false
set_option linter.unusedSimpArgs false

namespace Og
variable {P : Program}
theorem gives_store_row {o : Oper} {ρ : Operand → Value} {w : World} {R : Value → World → Prop} (ty : TypeId) (x y : Operand) (ho : o.op = .store ty x y)
    (g : Nat) (cells : Array Value) (hx : ρ x = .pointer (some ⟨g, 0, none⟩)) (hy : ρ y = .agg cells)
    (t : TypeId) (old : Array Value) (hg : w.heap[g]? = some (.cells old t (0, 0))) (hi : (P.info? ty).map (·.size) = some cells.size)
    (hold : old.size = cells.size) (h1 : cells.all (·.oneCell') = true)
    (h : R undef (w.setRow g cells)) : gives P o ρ w R := by
  unfold gives execOp
  simp only [ho, hx, hy, Instr.storeAt, Instr.sureAddr, Sem.run_bind, Sem.run_pure, Result.andThen_ok, run_storeVar_row w g t ty old cells hg hi hold h1]
  exact h
theorem gives_load_row {o : Oper} {ρ : Operand → Value} {w : World} {R : Value → World → Prop} (ty : TypeId) (x : Operand) (ho : o.op = .load ty x)
    (g : Nat) (hx : ρ x = .pointer (some ⟨g, 0, none⟩)) (t : TypeId) (cs : Array Value) (fr : Nat × Nat) (d : TypeDesc) (hg : w.heap[g]? = some (.cells cs t fr))
    (hu : P.underlying ty = some d) (hd : (match d with | .struct _ | .array _ _ => true | _ => false) = true) (hi : (P.info? ty).map (·.size) = some cs.size)
    (h : R (.agg cs) w) : gives P o ρ w R := by
  unfold gives execOp
  simp only [ho, hx, Instr.loadAt, Instr.sureAddr, Sem.run_bind, Sem.run_pure, Result.andThen_ok, run_loadVar_row w g t ty cs fr d hg hu hd hi]
  exact h
end Og
/-- a form's cells -/
def foc (k : Nat) : Array Value := match fo k with | .agg cs => cs | _ => #[]
theorem fo_agg (k : Nat) (hk : 1 ≤ k ∧ k ≤ 13) : fo k = .agg (foc k) := by
  rcases (show k = 1 ∨ k = 2 ∨ k = 3 ∨ k = 4 ∨ k = 5 ∨ k = 6 ∨ k = 7 ∨ k = 8 ∨ k = 9 ∨ k = 10 ∨ k = 11 ∨ k = 12 ∨ k = 13 by omega) with rfl | rfl | rfl | rfl | rfl | rfl | rfl | rfl | rfl | rfl | rfl | rfl | rfl <;> rfl
theorem foc_size (k : Nat) (hk : 1 ≤ k ∧ k ≤ 13) : (foc k).size = 4 := by
  rcases (show k = 1 ∨ k = 2 ∨ k = 3 ∨ k = 4 ∨ k = 5 ∨ k = 6 ∨ k = 7 ∨ k = 8 ∨ k = 9 ∨ k = 10 ∨ k = 11 ∨ k = 12 ∨ k = 13 by omega) with rfl | rfl | rfl | rfl | rfl | rfl | rfl | rfl | rfl | rfl | rfl | rfl | rfl <;> rfl
theorem foc_one (k : Nat) (hk : 1 ≤ k ∧ k ≤ 13) : (foc k).all (·.oneCell') = true := by
  rcases (show k = 1 ∨ k = 2 ∨ k = 3 ∨ k = 4 ∨ k = 5 ∨ k = 6 ∨ k = 7 ∨ k = 8 ∨ k = 9 ∨ k = 10 ∨ k = 11 ∨ k = 12 ∨ k = 13 by omega) with rfl | rfl | rfl | rfl | rfl | rfl | rfl | rfl | rfl | rfl | rfl | rfl | rfl <;> simp [foc, fo, foL, Value.oneCell']
theorem form_info : (Tryd.prog.info? 45).map (·.size) = some 4 := by kernel_rfl
theorem form_look (k : Nat) (hk : 1 ≤ k ∧ k ≤ 13) {w : World} {b : Nat} (h : w.ownsMap Tryd.prog 36 asHeld b 13 FD) :
    (Instr.lookup 46 (.map (some b)) (.int .i64 (k : Int)) false).run Tryd.prog w = .ok (fo k) w := by
  obtain ⟨v, ps, hrun, hv⟩ := h.lookup lawKind Tryd.underlying46 (z := .agg #[.int .i64 0, .nilFunc, .nilFunc, .nilFunc]) (by kernel_rfl) rfl (keyOf_int_mk Tryd.underlying36 (show (Lit.int .i64 (k : Int)).wf = true by exact WalkArith.wf_i64 (by omega)))
  rw [fd_at k hk.1 hk.2] at hv
  simp only [asHeld, Option.some.injEq, Prod.mk.injEq, DataW.held.injEq] at hv
  rw [hrun, hv.1]

theorem heap_lt {w : World} {g : Nat} {o : Obj} (h : w.heap[g]? = some o) : g < w.heap.size := (Array.getElem?_eq_some_iff.1 h).1
theorem own_old {P : Program} {k : TypeId} {R : Value → Option (DataW Value × List MemPlace)} {b n : Nat} {D : DataW Value} {w w' : World} (h : w.ownsMap P k R b n D) (hb : Below w.heap.size w w') : w'.ownsMap P k R b n D := by
  obtain ⟨es, clock, h1, h2⟩ := h
  exact ⟨es, clock, (hb.block b (heap_lt h1)).trans h1, h2⟩
theorem below_setRow {B g : Nat} {a w : World} {cs : Array Value} (h : Below B a w) (hg : B ≤ g) : Below B a (w.setRow g cs) :=
  h.trans ⟨rfl, rfl, rfl, by simp, fun k hk => setRow_other _ _ _ _ (by omega)⟩
namespace Is
/-- the word that an instruction would have -/
def wordO (op : Nat) (rd rs1 rs2 imm : Int) (aq rl : Bool) : Int := wd op + layO (fm op) rd rs1 rs2 imm aq rl
/-- an instruction that its word tells again -/
def good (op : Nat) (rd rs1 rs2 imm : Int) (aq rl : Bool) : Prop :=
  rdO (fm op) (wordO op rd rs1 rs2 imm aq rl) = rd ∧ rs1O (fm op) (wordO op rd rs1 rs2 imm aq rl) = rs1 ∧ rs2O (fm op) (wordO op rd rs1 rs2 imm aq rl) = rs2 ∧
  immO (fm op) (wordO op rd rs1 rs2 imm aq rl) = imm ∧ aqO (fm op) (wordO op rd rs1 rs2 imm aq rl) = aq ∧ rlO (fm op) (wordO op rd rs1 rs2 imm aq rl) = rl
end Is
/-- what Encode answers -/
def EncPost (op : Nat) (rd rs1 rs2 imm : Int) (aq rl : Bool) (e : Ending) : Prop :=
  (Is.good op rd rs1 rs2 imm aq rl ∧ e = .returned (.tuple #[.int .u32 (Is.wordO op rd rs1 rs2 imm aq rl), .int .i64 0])) ∨ (¬ Is.good op rd rs1 rs2 imm aq rl ∧ e = .returned (.tuple #[.int .u32 0, .int .i64 2]))

set_option maxRecDepth 100000 in
set_option maxHeartbeats 4000000 in
theorem enc_any (op : Nat) (h : 1 ≤ op ∧ op ≤ 59) (hk : 1 ≤ Is.fm op ∧ Is.fm op ≤ 13) (rd rs1 rs2 imm : Int) (aq rl : Bool) (h1 : -9223372036854775808 ≤ rd ∧ rd ≤ 9223372036854775807) (h2 : -9223372036854775808 ≤ rs1 ∧ rs1 ≤ 9223372036854775807) (h3 : -9223372036854775808 ≤ rs2 ∧ rs2 ≤ 9223372036854775807) (hi : Is.Wd imm) (w : World)
    (hor : bits .or .u32 (Is.wd op) (Is.layO (Is.fm op) rd rs1 rs2 imm aq rl) = Is.wordO op rd rs1 rs2 imm aq rl) (hwd : Is.Wd (Is.wordO op rd rs1 rs2 imm aq rl))  :
    Calls Tryd.prog 5 #[inst op rd rs1 rs2 imm aq rl] w fun e w' => EncPost op rd rs1 rs2 imm aq rl e ∧ Below w.heap.size w w' := by
  have HI := Lib.hid hi; clear hi
  have HK := Lib.hid hk; clear hk
  have HOR := Lib.hid hor; clear hor
  have HWD := Lib.hid hwd; clear hwd
  unfold inst
  go_enter Tryd.func5, Tryd.ntmps5
  go_upto_region 4 with ((go_at_call 9; refine (rowOf_yes op h _).mono ?_; unfold row; rintro e wa ⟨rfl, hb⟩; have HB := Lib.hid hb; clear hb))
  obtain ⟨wb, hwb⟩ : ∃ wb : World, wb = (wa.alloc (Obj.cells #[.string ⟨(Is.nm op).toArray⟩, .int .i64 (Is.fm op : Int), .int .u32 (Is.wd op)] 38)) := ⟨_, rfl⟩
  rw [← hwb]
  have hbx : wb.heap[w.heap.size]? = some (.cells #[.int .i64 (op : Int), .int .i64 rd, .int .i64 rs1, .int .i64 rs2, .int .u32 imm, .bool aq, .bool rl] 30 (0, 0)) := by
    have e1 := HB.out.block w.heap.size (by simp)
    rw [hwb, Below.heap_alloc _ _ _ (by have := HB.out.size; simp at this; omega), e1, heap_alloc_new]
  have hrow : wb.heap[wa.heap.size]? = some (.cells #[.string ⟨(Is.nm op).toArray⟩, .int .i64 (Is.fm op : Int), .int .u32 (Is.wd op)] 38 (0, 0)) := by rw [hwb, heap_alloc_new]
  have hb2 : Below w.heap.size w wb := by
    rw [hwb]
    exact (((Below.refl _ w).alloc (Nat.le_refl _) _).trans (HB.out.mono (by simp))).alloc (by have := HB.out.size; simp at this; omega) _
  have hwa : w.heap.size < wa.heap.size := by have := HB.out.size; simp at this; omega
  have hwab : wa.heap.size < wb.heap.size := heap_lt hrow
  have HBX := Lib.hid hbx; have HRW := Lib.hid hrow; have HB2 := Lib.hid hb2; clear hbx hrow hb2 hwb HB
  refine Og.region4n 5 _ rfl (by kernel_rfl) (fun t => if t = 6 then some 4 else if 17 ≤ t ∧ t ≤ 20 then some (t - 17) else none) [.says (fun (v : Value) (w2 : World) => ∃ r, v = .map (some r) ∧ w2.ownsMap Tryd.prog 36 asHeld r 13 FD), .is (.pointer (some ⟨wa.heap.size, 1, none⟩)), .is (.int .i64 (Is.fm op : Int)), .is (fo (Is.fm op)), .says (fun (v : Value) (w4 : World) => ∃ g, v = .pointer (some ⟨g, 0, none⟩) ∧ wb.heap.size ≤ g ∧ w4.heap[g]? = some (.cells #[.int .i64 0, .nilFunc, .nilFunc, .nilFunc] 45 (0, 0)))] [true, true, true, true, true] (by kernel_rfl) rfl rfl (by kernel_rfl) ?_ ?_
  · refine ⟨?_, ?_, ?_, ?_, ?_, trivial⟩
    · refine ⟨rfl, fun ρ w1 hr hd => ?_⟩
      obtain ⟨d0, _⟩ := hd
      have d0 : ρ (.func 10) = .func (.func 10) #[] #[] := d0
      refine (if_pos (by rfl)).mpr ?_
      refine Og.gives_call 10 #[] ?_ ?_
      · go_simp
      · refine (forms_any w1).mono ?_
        rintro e w3 ⟨r, rfl, hown, hb3⟩
        exact ⟨_, rfl, hb3, _, Below.refl _ _, r, rfl, hown⟩
    · refine ⟨rfl, fun ρ w1 hr hd => ?_⟩
      obtain ⟨d0, _⟩ := hd
      have d0 : ρ (.tmp 4) = .pointer (some ⟨wa.heap.size, 0, none⟩) := d0
      refine (if_pos (by rfl)).mpr ?_
      refine Og.gives_is (.pointer (some ⟨wa.heap.size, 1, none⟩)) ?_ (And.intro (Below.refl _ _) rfl)
      go_simp
    · refine ⟨rfl, fun ρ w1 hr hd => ?_⟩
      obtain ⟨d0, _⟩ := hd
      have d0 : ρ (.tmp 18) = .pointer (some ⟨wa.heap.size, 1, none⟩) := d0
      have hc : w1.cell? ⟨wa.heap.size, 1, none⟩ = some (.int .i64 (Is.fm op : Int)) := by rw [cell_of_row w1 wa.heap.size 1 _ _ _ ((hr.block _ (heap_lt HRW.out)).trans HRW.out)]; rfl
      refine (if_pos (by rfl)).mpr ?_
      refine Og.gives_is (.int .i64 (Is.fm op : Int)) ?_ (And.intro (Below.refl _ _) rfl)
      go_simp
    · refine ⟨rfl, fun ρ w1 hr hd => ?_⟩
      obtain ⟨d0, d1, _⟩ := hd
      have d0 : ∃ w1', Below w1'.heap.size w1' w1 ∧ (fun (v : Value) (w2 : World) => ∃ r, v = .map (some r) ∧ w2.ownsMap Tryd.prog 36 asHeld r 13 FD) (ρ (.tmp 17)) w1' := d0
      have d1 : ρ (.tmp 19) = .int .i64 (Is.fm op : Int) := d1
      obtain ⟨w3, hb3, r, hr3, hown⟩ := d0
      have hown1 := own_old hown hb3
      refine (if_pos (by rfl)).mpr ?_
      refine Og.gives_is (fo (Is.fm op)) (by simp only [execOp, hr3, d1, Sem.run_bind, form_look (Is.fm op) HK.out hown1]; rfl) (And.intro (Below.refl _ _) rfl)
    · refine ⟨rfl, fun ρ w1 hr hd => ?_⟩
      clear hd
      refine (if_pos (by rfl)).mpr ?_
      refine Og.gives_new (w' := w1.alloc (.cells #[.int .i64 0, .nilFunc, .nilFunc, .nilFunc] 45)) (.pointer (some ⟨w1.heap.size, 0, none⟩)) (by go_simp) ⟨(Below.refl _ _).alloc (Nat.le_refl _) _, _, Below.refl _ _, w1.heap.size, rfl, hr.size, heap_alloc_new _ _⟩
  · intro vs wc hbz hall
    have v1 : vs 1 = .pointer (some ⟨wa.heap.size, 1, none⟩) := hall 1 _ 18 rfl rfl
    have v2 : vs 2 = .int .i64 (Is.fm op : Int) := hall 2 _ 19 rfl rfl
    have v3 : vs 3 = fo (Is.fm op) := hall 3 _ 20 rfl rfl
    obtain ⟨wq, hbq, g, hg, hgs, hgc⟩ : ∃ w1' : World, Below w1'.heap.size w1' wc ∧ (fun (v : Value) (w4 : World) => ∃ g, v = .pointer (some ⟨g, 0, none⟩) ∧ wb.heap.size ≤ g ∧ w4.heap[g]? = some (.cells #[.int .i64 0, .nilFunc, .nilFunc, .nilFunc] 45 (0, 0))) (vs 4) w1' := hall 4 _ 6 rfl rfl
    have hgc1 := (hbq.block g (heap_lt hgc)).trans hgc
    clear hbq hgc
    rw [fo_agg _ HK.out] at v3
    simp only [List.take_succ_cons, List.take_zero, Og.putAll, Act.put, List.setIfInBounds_toArray, List.set_cons_zero, List.set_cons_succ, Nat.zero_add, Nat.reduceAdd, v1, v2, v3, hg]
    clear v1 v2 v3 hall hg
    refine Og.gives_store_row 45 (.tmp 6) (.tmp 20) rfl g (foc (Is.fm op)) rfl rfl 45 _ hgc1 (by rw [foc_size _ HK.out]; exact form_info) (foc_size _ HK.out).symm (foc_one _ HK.out) ?_
    obtain ⟨wd, hwd⟩ : ∃ wd : World, wd = wc.setRow g (foc (Is.fm op)) := ⟨_, rfl⟩
    rw [← hwd]
    have hfo : wd.heap[g]? = some (.cells (foc (Is.fm op)) 45 (0, 0)) := by rw [hwd]; exact setRow_heap _ _ _ _ _ _ hgc1
    have hb3 : Below wb.heap.size wb wd := by rw [hwd]; exact below_setRow hbz hgs
    have HFO := Lib.hid hfo; have HB3 := Lib.hid hb3; clear hfo hb3 hbz hgc1 hwd
    go_upto_region 5 with (fail)
    refine Og.region3 (by kernel_rfl) (fun t => if t = 7 then some 6 else if 21 ≤ t ∧ t ≤ 26 then some (t - 21) else none) [.is (.pointer (some ⟨wa.heap.size, 2, none⟩)), .is (.int .u32 (Is.wd op)), .is (.agg (foc (Is.fm op))), .is (.agg #[.int .i64 (op : Int), .int .i64 rd, .int .i64 rs1, .int .i64 rs2, .int .u32 imm, .bool aq, .bool rl]), .is (.int .u32 (Is.layO (Is.fm op) rd rs1 rs2 imm aq rl)), .is (.int .u32 (Is.wordO op rd rs1 rs2 imm aq rl)), .is (.int .u32 (Is.wordO op rd rs1 rs2 imm aq rl))] [true, true, true, true, true, true, true] (by kernel_rfl) ?_ ?_
    · refine ⟨?_, ?_, ?_, ?_, ?_, ?_, ?_, trivial⟩
      · refine ⟨rfl, fun ρ w1 hr hd => ?_⟩
        obtain ⟨d0, _⟩ := hd
        have d0 : ρ (.tmp 4) = .pointer (some ⟨wa.heap.size, 0, none⟩) := d0
        refine (if_pos (by rfl)).mpr ?_
        refine Og.gives_is (.pointer (some ⟨wa.heap.size, 2, none⟩)) ?_ (And.intro (Below.refl _ _) rfl)
        go_simp
      · refine ⟨rfl, fun ρ w1 hr hd => ?_⟩
        obtain ⟨d0, _⟩ := hd
        have d0 : ρ (.tmp 21) = .pointer (some ⟨wa.heap.size, 2, none⟩) := d0
        have hg0 := (HB3.out.block _ hwab).trans HRW.out
        have hc : w1.cell? ⟨wa.heap.size, 2, none⟩ = some (.int .u32 (Is.wd op)) := by rw [cell_of_row w1 wa.heap.size 2 _ _ _ ((hr.block _ (heap_lt hg0)).trans hg0)]; rfl
        clear hg0
        refine (if_pos (by rfl)).mpr ?_
        refine Og.gives_is (.int .u32 (Is.wd op)) ?_ (And.intro (Below.refl _ _) rfl)
        go_simp
      · refine ⟨rfl, fun ρ w1 hr hd => ?_⟩
        obtain ⟨d0, _⟩ := hd
        have d0 : ρ (.tmp 6) = .pointer (some ⟨g, 0, none⟩) := d0
        refine (if_pos (by rfl)).mpr ?_
        exact Og.gives_load_row 45 (.tmp 6) rfl g d0 _ _ _ _ ((hr.block _ (heap_lt HFO.out)).trans HFO.out) Tryd.underlying45 (by kernel_rfl) (by rw [foc_size _ HK.out]; exact form_info) ⟨Below.refl _ _, rfl⟩
      · refine ⟨rfl, fun ρ w1 hr hd => ?_⟩
        obtain ⟨d0, _⟩ := hd
        have d0 : ρ (.tmp 1) = .pointer (some ⟨w.heap.size, 0, none⟩) := d0
        have hg0 := (HB3.out.block _ (by omega)).trans HBX.out
        refine (if_pos (by rfl)).mpr ?_
        exact Og.gives_load_row 30 (.tmp 1) rfl w.heap.size d0 _ _ _ _ ((hr.block _ (heap_lt hg0)).trans hg0) Tryd.underlying30 (by kernel_rfl) (by kernel_rfl) ⟨Below.refl _ _, rfl⟩
      · refine ⟨rfl, fun ρ w1 hr hd => ?_⟩
        obtain ⟨d0, d1, d2, _⟩ := hd
        have d0 : ρ (.func 11) = .func (.func 11) #[] #[] := d0
        have d1 : ρ (.tmp 23) = .agg (foc (Is.fm op)) := d1
        have d2 : ρ (.tmp 24) = .agg #[.int .i64 (op : Int), .int .i64 rd, .int .i64 rs1, .int .i64 rs2, .int .u32 imm, .bool aq, .bool rl] := d2
        refine (if_pos (by rfl)).mpr ?_
        refine Og.gives_call 11 #[.agg (foc (Is.fm op)), .agg #[.int .i64 (op : Int), .int .i64 rd, .int .i64 rs1, .int .i64 rs2, .int .u32 imm, .bool aq, .bool rl]] ?_ ?_
        · go_simp
        · rw [← fo_agg _ HK.out]
          refine (lay_any (Is.fm op) HK.out op rd rs1 rs2 imm aq rl h1 h2 h3 HI.out w1).mono ?_
          rintro e w3 ⟨rfl, hb3⟩
          exact ⟨_, rfl, hb3, rfl⟩
      · refine ⟨rfl, fun ρ w1 hr hd => ?_⟩
        obtain ⟨d0, d1, _⟩ := hd
        have d0 : ρ (.tmp 22) = .int .u32 (Is.wd op) := d0
        have d1 : ρ (.tmp 25) = .int .u32 (Is.layO (Is.fm op) rd rs1 rs2 imm aq rl) := d1
        refine (if_pos (by rfl)).mpr ?_
        refine Og.gives_is (.int .u32 (Is.wordO op rd rs1 rs2 imm aq rl)) ?_ (And.intro (Below.refl _ _) rfl)
        rw [← HOR.out]; go_simp
      · refine ⟨rfl, fun ρ w1 hr hd => ?_⟩
        obtain ⟨d0, _⟩ := hd
        have d0 : ρ (.tmp 26) = .int .u32 (Is.wordO op rd rs1 rs2 imm aq rl) := d0
        refine (if_pos (by rfl)).mpr ?_
        refine Og.gives_is (.int .u32 (Is.wordO op rd rs1 rs2 imm aq rl)) ?_ (And.intro (Below.refl _ _) rfl)
        go_simp
    · intro vs we hbz hall
      have v0 : vs 0 = .pointer (some ⟨wa.heap.size, 2, none⟩) := hall 0 _ 21 rfl rfl
      have v1 : vs 1 = .int .u32 (Is.wd op) := hall 1 _ 22 rfl rfl
      have v2 : vs 2 = .agg (foc (Is.fm op)) := hall 2 _ 23 rfl rfl
      have v3 : vs 3 = .agg #[.int .i64 (op : Int), .int .i64 rd, .int .i64 rs1, .int .i64 rs2, .int .u32 imm, .bool aq, .bool rl] := hall 3 _ 24 rfl rfl
      have v4 : vs 4 = .int .u32 (Is.layO (Is.fm op) rd rs1 rs2 imm aq rl) := hall 4 _ 25 rfl rfl
      have v5 : vs 5 = .int .u32 (Is.wordO op rd rs1 rs2 imm aq rl) := hall 5 _ 26 rfl rfl
      have v6 : vs 6 = .int .u32 (Is.wordO op rd rs1 rs2 imm aq rl) := hall 6 _ 7 rfl rfl
      simp only [Og.putAll, Act.put, List.setIfInBounds_toArray, List.set_cons_zero, List.set_cons_succ, Nat.zero_add, Nat.reduceAdd, v0, v1, v2, v3, v4, v5, v6]
      clear v0 v1 v2 v3 v4 v5 v6 hall
      have hfo := (hbz.block _ (heap_lt HFO.out)).trans HFO.out
      have hbx := (hbz.block _ (by have := HB3.out.size; omega)).trans ((HB3.out.block _ (by omega)).trans HBX.out)
      have HFE := Lib.hid hfo; have HBE := Lib.hid hbx; have HB4 := Lib.hid hbz; clear hfo hbx hbz
      go_wp2_with (refine wpList_load_row rfl 45 (.tmp 6) rfl g rfl 45 (foc (Is.fm op)) (0, 0) _ HFE.out Tryd.underlying45 (by kernel_rfl) (by rw [foc_size _ HK.out]; exact form_info) ?_; rw [← fo_agg _ HK.out])
      refine (take_any (Is.fm op) HK.out _ HWD.out _).mono ?_
      rintro e wf ⟨rfl, hbf⟩
      unfold inst
      have hbx := (hbf.block _ (heap_lt HBE.out)).trans HBE.out
      have hc0 : wf.cell? ⟨w.heap.size, 0, none⟩ = some (.int .i64 (op : Int)) := by rw [cell_of_row wf w.heap.size 0 _ _ _ hbx]; rfl
      have hc1 : wf.cell? ⟨w.heap.size, 1, none⟩ = some (.int .i64 rd) := by rw [cell_of_row wf w.heap.size 1 _ _ _ hbx]; rfl
      have hc2 : wf.cell? ⟨w.heap.size, 2, none⟩ = some (.int .i64 rs1) := by rw [cell_of_row wf w.heap.size 2 _ _ _ hbx]; rfl
      have hc3 : wf.cell? ⟨w.heap.size, 3, none⟩ = some (.int .i64 rs2) := by rw [cell_of_row wf w.heap.size 3 _ _ _ hbx]; rfl
      have hc4 : wf.cell? ⟨w.heap.size, 4, none⟩ = some (.int .u32 imm) := by rw [cell_of_row wf w.heap.size 4 _ _ _ hbx]; rfl
      have hc5 : wf.cell? ⟨w.heap.size, 5, none⟩ = some (.bool aq) := by rw [cell_of_row wf w.heap.size 5 _ _ _ hbx]; rfl
      have hc6 : wf.cell? ⟨w.heap.size, 6, none⟩ = some (.bool rl) := by rw [cell_of_row wf w.heap.size 6 _ _ _ hbx]; rfl
      have hzz : w.heap.size < wf.heap.size := heap_lt hbx
      have HB5 := Lib.hid hbf; clear hbf hbx
      go_wp2_with fail
      all_goals
        go_ret2
        refine ⟨?_, ((((HB2.out.trans (HB3.out.mono (by have := HB2.out.size; omega))).trans (HB4.out.mono (by have := HB3.out.size; have := HB2.out.size; omega))).trans (HB5.out.mono (by have := HB4.out.size; have := HB3.out.size; have := HB2.out.size; omega))).alloc (by have := HB5.out.size; omega) _)⟩
        first
          | exact .inl ⟨⟨by assumption, by assumption, by assumption, by assumption, by assumption, by assumption⟩, rfl⟩
          | exact .inr ⟨fun hg => by obtain ⟨g1, g2, g3, g4, g5, g6⟩ := hg; contradiction, rfl⟩
end Go.Proofs.YtianojbdabeoeaaDoor
