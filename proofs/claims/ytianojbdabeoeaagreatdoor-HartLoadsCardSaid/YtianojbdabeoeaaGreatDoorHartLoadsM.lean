/-
  HartLoads: for every input the statement's function returns true, with no condition; each argument reads behind the call as before. With the test on Done, the harts that are laid, and what is told of a word as a function, that it leans on.
-/
import Derived.Test.YtianojbdabeoeaaGreatDoorHrDoneM
import Derived.Test.YtianojbdabeoeaaGreatDoorHlEM
import Derived.Test.YtianojbdabeoeaaGreatDoorHtDoM

section

section
namespace Go.Proofs.YtianojbdabeoeaaGreatDoor
open Go.RowKit Ht
set_option linter.unusedVariables false
set_option maxRecDepth 100000 in
set_option maxHeartbeats 4000000 in
theorem ldone_any (h : H) (hb : HB h) (x size tv : Int) (tok : Bool) (ht : ToldOk x size tv) (w : World) :
    Calls Tryz.prog 15 #[hartV h, toldV x size tv tok] w fun e w' => e = .returned (.bool true) ∧ Below w.heap.size w w' := by
  obtain ⟨s, err, o⟩ := out_is h x size tv tok
  have HO := Lib.hid o; have HBB := Lib.hid hb; have HT := Lib.hid ht
  cases g : goes h
  · obtain ⟨rfl, rfl⟩ : s = S0 ∧ err = 2 := by
      cases o with
      | arg _ => exact ⟨rfl, rfl⟩
      | ill g' _ => rw [g] at g'; cases g'
      | halt _ g' _ _ => rw [g] at g'; cases g'
      | ok _ g' _ _ => rw [g] at g'; cases g'
    have HG := Lib.hid g
    clear o hb ht g
    unfold hartV toldV
    go_enter Tryz.func15, Tryz.ntmps15
    have k0 := (heap_b2 w (.cells (hcells h).toArray 26) (.cells #[.int .u32 x, .int .i64 size, .int .u32 tv, .bool tok] 30)).1
    have k1 := (heap_b2 w (.cells (hcells h).toArray 26) (.cells #[.int .u32 x, .int .i64 size, .int .u32 tv, .bool tok] 30)).2
    have K0 := Lib.hid k0; have K1 := Lib.hid k1; clear k0 k1
    go_wp2_with (first
      | (refine wpList_load_row rfl 26 (.tmp 2) rfl w.heap.size rfl 26 (hcells h).toArray (0, 0) _ K0.out Tryz.underlying26 rfl (by kernel_rfl) ?_)
      | (refine wpList_load_part rfl 28 (.tmp 13) rfl (w.heap.size + 1) 2 rfl 30 #[.int .u32 x, .int .i64 size, .int .u32 tv, .bool tok] [.int .u32 tv, .bool tok] (0, 0) _ K1.out rfl Tryz.underlying28 rfl (by kernel_rfl) ?_))
    refine (done_any HO.out HBB.out HT.out.x HT.out.size HT.out.tv _).mono ?_
    rintro e w1 ⟨rfl, hb⟩
    have r0 : w1.heap[w.heap.size]? = some (.cells (hcells h).toArray 26) := (hb.block w.heap.size (by simp only [World.size_alloc]; omega)).trans K0.out
    have b1 : Below w.heap.size w w1 := (((Below.refl w.heap.size w).alloc (Nat.le_refl _) _).alloc (by simp only [World.size_alloc]; omega) _).trans (hb.mono (by simp only [World.size_alloc]; omega))
    have z1 : w.heap.size + 2 ≤ w1.heap.size := by have := hb.size; simp only [World.size_alloc] at this; omega
    clear hb
    obtain ⟨W2, hW2⟩ : ∃ W2, W2 = (w1.alloc (.cells hzero 26)).setRow w1.heap.size (hcells S0.h).toArray := ⟨_, rfl⟩
    have q0 : W2.heap[w.heap.size]? = some (.cells (hcells h).toArray 26) := by rw [hW2]; exact (setRow_other _ _ _ _ (by omega)).trans ((Below.heap_alloc _ _ _ (by omega)).trans r0)
    have q1 : W2.heap[w1.heap.size]? = some (.cells (hcells S0.h).toArray 26) := by rw [hW2]; exact setRow_heap _ _ _ _ _ _ (heap_alloc_new _ _)
    have b2 : Below w.heap.size w W2 := by rw [hW2]; exact below_setRow (b1.alloc b1.size _) b1.size
    have z2 : w1.heap.size + 1 ≤ W2.heap.size := by rw [hW2]; simp
    have Q0 := Lib.hid q0; have Q1 := Lib.hid q1; have B2 := Lib.hid b2; have HW2 := Lib.hid hW2; have Z2 := Lib.hid z2; have Z1 := Lib.hid z1
    clear r0 b1 z1 q0 q1 b2 z2 hW2
    unfold hartV
    go_wp2_with (first
      | (refine wpList_store_row rfl 26 (.tmp 5) (.tmp 16) rfl w1.heap.size (hcells S0.h).toArray rfl rfl 26 hzero (heap_alloc_new _ _) (by kernel_rfl) (by kernel_rfl) (by kernel_rfl) ?_; rw [← HW2.out])
      | (refine wpList_load_row rfl 26 (.tmp 2) rfl w.heap.size rfl 26 (hcells h).toArray (0, 0) _ Q0.out Tryz.underlying26 rfl (by kernel_rfl) ?_))
    refine (lgoes_any h _).mono ?_
    rintro e w3 ⟨rfl, hb⟩
    rw [HG.out]
    have R1 := Lib.hid ((hb.block w1.heap.size (by have := Z2.out; omega)).trans Q1.out)
    have B3 := Lib.hid (B2.out.trans (hb.mono B2.out.size))
    clear hb
    go_wp2_with (first
      | (refine wpList_load_row rfl 26 (.tmp 5) rfl w1.heap.size rfl 26 (hcells S0.h).toArray (0, 0) _ R1.out Tryz.underlying26 rfl (by kernel_rfl) ?_)
      | (refine wpList_eql rfl 26 (.tmp 21) (.tmp 22) rfl (hcells S0.h).toArray (hcells S0.h).toArray rfl rfl true (by kernel_rfl) (fun w => by rw [eql_hart w S0.h S0.h, same_self]) ?_))
    go_ret
    exact ⟨rfl, B3.out⟩
  · have he : err = 0 := by
      cases o with
      | arg g' => rw [g] at g'; cases g'
      | ill _ _ => rfl
      | halt _ _ _ _ => rfl
      | ok _ _ _ _ => rfl
    subst he
    have HG := Lib.hid g
    clear o hb ht g
    unfold hartV toldV
    go_enter Tryz.func15, Tryz.ntmps15
    have k0 := (heap_b2 w (.cells (hcells h).toArray 26) (.cells #[.int .u32 x, .int .i64 size, .int .u32 tv, .bool tok] 30)).1
    have k1 := (heap_b2 w (.cells (hcells h).toArray 26) (.cells #[.int .u32 x, .int .i64 size, .int .u32 tv, .bool tok] 30)).2
    have K0 := Lib.hid k0; have K1 := Lib.hid k1; clear k0 k1
    go_wp2_with (first
      | (refine wpList_load_row rfl 26 (.tmp 2) rfl w.heap.size rfl 26 (hcells h).toArray (0, 0) _ K0.out Tryz.underlying26 rfl (by kernel_rfl) ?_)
      | (refine wpList_load_part rfl 28 (.tmp 13) rfl (w.heap.size + 1) 2 rfl 30 #[.int .u32 x, .int .i64 size, .int .u32 tv, .bool tok] [.int .u32 tv, .bool tok] (0, 0) _ K1.out rfl Tryz.underlying28 rfl (by kernel_rfl) ?_))
    refine (done_any HO.out HBB.out HT.out.x HT.out.size HT.out.tv _).mono ?_
    rintro e w1 ⟨rfl, hb⟩
    have r0 : w1.heap[w.heap.size]? = some (.cells (hcells h).toArray 26) := (hb.block w.heap.size (by simp only [World.size_alloc]; omega)).trans K0.out
    have r1 : w1.heap[w.heap.size + 1]? = some (.cells #[.int .u32 x, .int .i64 size, .int .u32 tv, .bool tok] 30) := (hb.block (w.heap.size + 1) (by simp only [World.size_alloc]; omega)).trans K1.out
    have b1 : Below w.heap.size w w1 := (((Below.refl w.heap.size w).alloc (Nat.le_refl _) _).alloc (by simp only [World.size_alloc]; omega) _).trans (hb.mono (by simp only [World.size_alloc]; omega))
    have z1 : w.heap.size + 2 ≤ w1.heap.size := by have := hb.size; simp only [World.size_alloc] at this; omega
    clear hb
    obtain ⟨W2, hW2⟩ : ∃ W2, W2 = (w1.alloc (.cells hzero 26)).setRow w1.heap.size (hcells s.h).toArray := ⟨_, rfl⟩
    have q0 : W2.heap[w.heap.size]? = some (.cells (hcells h).toArray 26) := by rw [hW2]; exact (setRow_other _ _ _ _ (by omega)).trans ((Below.heap_alloc _ _ _ (by omega)).trans r0)
    have q3 : W2.heap[w.heap.size + 1]? = some (.cells #[.int .u32 x, .int .i64 size, .int .u32 tv, .bool tok] 30) := by rw [hW2]; exact (setRow_other _ _ _ _ (by omega)).trans ((Below.heap_alloc _ _ _ (by omega)).trans r1)
    have q1 : W2.heap[w1.heap.size]? = some (.cells (hcells s.h).toArray 26) := by rw [hW2]; exact setRow_heap _ _ _ _ _ _ (heap_alloc_new _ _)
    have b2 : Below w.heap.size w W2 := by rw [hW2]; exact below_setRow (b1.alloc b1.size _) b1.size
    have z2 : w1.heap.size + 1 ≤ W2.heap.size := by rw [hW2]; simp
    have Q0 := Lib.hid q0; have Q1 := Lib.hid q1; have Q3 := Lib.hid q3; have B2 := Lib.hid b2; have HW2 := Lib.hid hW2; have Z2 := Lib.hid z2; have Z1 := Lib.hid z1
    clear r0 r1 b1 z1 q0 q1 q3 b2 z2 hW2
    unfold hartV
    go_wp2_with (first
      | (refine wpList_store_row rfl 26 (.tmp 5) (.tmp 16) rfl w1.heap.size (hcells s.h).toArray rfl rfl 26 hzero (heap_alloc_new _ _) (by kernel_rfl) (by kernel_rfl) (by kernel_rfl) ?_; rw [← HW2.out])
      | (refine wpList_load_row rfl 26 (.tmp 2) rfl w.heap.size rfl 26 (hcells h).toArray (0, 0) _ Q0.out Tryz.underlying26 rfl (by kernel_rfl) ?_))
    refine (lgoes_any h _).mono ?_
    rintro e w3 ⟨rfl, hb⟩
    rw [HG.out]
    have r0 := (hb.block w.heap.size (by have := Z2.out; have := Z1.out; omega)).trans Q0.out
    have r1 := (hb.block w1.heap.size (by have := Z2.out; omega)).trans Q1.out
    have r3 := (hb.block (w.heap.size + 1) (by have := Z2.out; have := Z1.out; omega)).trans Q3.out
    have B3 := Lib.hid (B2.out.trans (hb.mono B2.out.size))
    have R0 := Lib.hid r0; have R1 := Lib.hid r1; have R3 := Lib.hid r3
    have l0 : ∀ z : Og.On w3.heap.size w3, (loadVar 26 ⟨w.heap.size, 0, none⟩).run Tryz.prog z.x = .ok (.agg (hcells h).toArray) z.x := fun z => Og.rowB z 26 _ R0.out Tryz.underlying26 rfl (by kernel_rfl)
    have l1 : ∀ z : Og.On w3.heap.size w3, (loadVar 26 ⟨w1.heap.size, 0, none⟩).run Tryz.prog z.x = .ok (.agg (hcells s.h).toArray) z.x := fun z => Og.rowB z 26 _ R1.out Tryz.underlying26 rfl (by kernel_rfl)
    have l2 : ∀ z : Og.On w3.heap.size w3, (loadVar 28 ⟨w.heap.size + 1, 2, none⟩).run Tryz.prog z.x = .ok (.agg #[.int .u32 tv, .bool tok]) z.x := fun z =>
      run_loadVar_part z.x (w.heap.size + 1) 2 30 28 #[.int .u32 x, .int .i64 size, .int .u32 tv, .bool tok] [.int .u32 tv, .bool tok] (0, 0) _ ((z.b.block _ (Array.getElem?_eq_some_iff.1 R3.out).1).trans R3.out) rfl Tryz.underlying28 rfl (by kernel_rfl)
    have c0 : ∀ z : Og.On w3.heap.size w3, z.x.cell? ⟨w.heap.size + 1, 0, none⟩ = some (.int .u32 x) := fun z => Og.cellB z (by rw [cell_of_row w3 _ 0 _ _ _ R3.out]; rfl)
    have c1 : ∀ z : Og.On w3.heap.size w3, z.x.cell? ⟨w.heap.size + 1, 1, none⟩ = some (.int .i64 size) := fun z => Og.cellB z (by rw [cell_of_row w3 _ 1 _ _ _ R3.out]; rfl)
    have he : ∀ z : Og.On w3.heap.size w3, (binOp .eql 26 (.agg (hcells s.h).toArray) (.agg (hcells s.h).toArray)).run Tryz.prog z.x = .ok (.bool true) z.x := fun z => by rw [eql_hart z.x s.h s.h, same_self]
    clear hb r0 r1 r3 Q0 Q1 Q3 HW2
    go_wp2
    refine Og.regionB (by kernel_rfl) (by kernel_rfl) ?_
    repeat (first
      | go_big_quiet_skip
      | (go_big_quiet_want
         first
          | (refine Og.quiet_load 26 (.tmp 5) rfl (.agg (hcells s.h).toArray) ⟨w1.heap.size, 0, none⟩ _ rfl (by rintro _ ⟨z, rfl⟩; exact l1 z) (by simp only [Act.put, List.setIfInBounds_toArray, List.set_cons_zero, List.set_cons_succ]; rfl) ?_
             go_big_quiet_on)
          | (refine Og.quiet_load 26 (.tmp 2) rfl (.agg (hcells h).toArray) ⟨w.heap.size, 0, none⟩ _ rfl (by rintro _ ⟨z, rfl⟩; exact l0 z) (by simp only [Act.put, List.setIfInBounds_toArray, List.set_cons_zero, List.set_cons_succ]; rfl) ?_
             go_big_quiet_on)
          | (refine Og.quiet_load 28 (.tmp 37) rfl (.agg #[.int .u32 tv, .bool tok]) ⟨w.heap.size + 1, 2, none⟩ _ rfl (by rintro _ ⟨z, rfl⟩; exact l2 z) (by simp only [Act.put, List.setIfInBounds_toArray, List.set_cons_zero, List.set_cons_succ]; rfl) ?_
             go_big_quiet_on)
          | (refine Og.quiet_eql true _ (fun w => run_eql_op 26 (.tmp 31) (.tmp 39) rfl (hcells s.h).toArray (hcells s.h).toArray rfl rfl true (by kernel_rfl) (fun w => by rw [eql_hart w s.h s.h, same_self]) w) (by simp only [Act.put, List.setIfInBounds_toArray, List.set_cons_zero, List.set_cons_succ]; rfl) ?_
             go_big_quiet_on)
          | (go_big_quiet_op
             first
              | go_big_quiet_on
              | (apply Exists.intro
                 refine ⟨fun z => ?_, ?_⟩
                 · (go_at_call 33; exact Og.callB (rdone_of HO.out HG.out HBB.out HT.out.x HT.out.size HT.out.tv _))
                 go_big_quiet_on))))
    refine wpQuiet_nil ?_
    intro _ hw'
    obtain ⟨q9, hw''⟩ := hw'
    subst hw''
    go_wp2
    go_ret
    exact ⟨rfl, B3.out.trans (q9.b.mono B3.out.size)⟩
end Go.Proofs.YtianojbdabeoeaaGreatDoor
end

section
namespace Go.Proofs.YtianojbdabeoeaaGreatDoor
end Go.Proofs.YtianojbdabeoeaaGreatDoor
end

section
namespace Go.Proofs.YtianojbdabeoeaaGreatDoor
open Go.RowKit Ht
set_option linter.unusedVariables false
/-- a hart at pc whose x5 and x6 have a and b -/
def Ht.hv (pc a b : Int) : H := ⟨0, pc, fun k => if k = 5 then a else if k = 6 then b else 0, 0⟩
theorem Ht.hv_ok {pc a b : Int} (hp : Ar.Wd pc) (ha : Ar.Wd a) (hb : Ar.Wd b) : HB (hv pc a b) := by
  refine ⟨⟨by show (-9223372036854775808 : Int) ≤ 0; omega, by show (0 : Int) ≤ 9223372036854775807; omega⟩, hp, fun k => ?_, ⟨by show (-9223372036854775808 : Int) ≤ 0; omega, by show (0 : Int) ≤ 9223372036854775807; omega⟩⟩
  show Ar.Wd (if k = 5 then a else if k = 6 then b else 0)
  split
  · exact ha
  · split
    · exact hb
    · unfold Ar.Wd; omega
def Ht.hp (pc : Int) : H := ⟨0, pc, fun _ => 0, 0⟩
theorem Ht.hv_cells (pc a b : Int) : ((hcells (hp pc)).toArray.setIfInBounds 7 (.int .u32 a)).setIfInBounds 8 (.int .u32 b) = (hcells (hv pc a b)).toArray := rfl
/-- the hart's block, laid -/
theorem laid_hart (w : World) (pc a b : Int) : ∃ W1, W1 = (w.alloc (.cells hzero 26)).setRow w.heap.size (hcells (hp pc)).toArray ∧ W1.cell? ⟨w.heap.size, 7, none⟩ = some (.int .u32 0) ∧ W1.cell? ⟨w.heap.size, 8, none⟩ = some (.int .u32 0) ∧
    W1.frozen? ⟨w.heap.size, 7, none⟩ = false ∧ W1.frozen? ⟨w.heap.size, 8, none⟩ = false ∧
    Below w.heap.size w ((W1.setCell ⟨w.heap.size, 7, none⟩ (.int .u32 a)).setCell ⟨w.heap.size, 8, none⟩ (.int .u32 b)) ∧
    ((W1.setCell ⟨w.heap.size, 7, none⟩ (.int .u32 a)).setCell ⟨w.heap.size, 8, none⟩ (.int .u32 b)).heap[w.heap.size]? = some (.cells (hcells (hv pc a b)).toArray 26) := by
  refine ⟨_, rfl, ?_⟩
  have q := setRow_heap (w.alloc (.cells hzero 26)) w.heap.size hzero (hcells (hp pc)).toArray 26 (0, 0) (heap_alloc_new _ _)
  have b1 : Below w.heap.size w ((w.alloc (.cells hzero 26)).setRow w.heap.size (hcells (hp pc)).toArray) := below_setRow ((Below.refl _ _).alloc (Nat.le_refl _) _) (Nat.le_refl _)
  generalize (w.alloc (.cells hzero 26)).setRow w.heap.size (hcells (hp pc)).toArray = W1 at q b1 ⊢
  refine ⟨by rw [cell_of_row W1 _ 7 _ _ _ q]; rfl, by rw [cell_of_row W1 _ 8 _ _ _ q]; rfl, frozen_of_row W1 w.heap.size 7 _ _ q, frozen_of_row W1 w.heap.size 8 _ _ q, (b1.setCell (Nat.le_refl _) _).setCell (Nat.le_refl _) _, ?_⟩
  have q7 := heap_setCell_same W1 w.heap.size 7 _ _ (.int .u32 a) q
  have q8 := heap_setCell_same _ w.heap.size 8 _ _ (.int .u32 b) q7
  rw [hv_cells] at q8
  exact q8
theorem wpList_load_rowW {P : Program} {ops : Array Oper} {rest : List Oper} {o : Oper} {a : Act} {w : World} {Q : Exit → Act → World → Prop} (ty : TypeId) (x : Operand) (ho : o.op = .load ty x)
    (g : Nat) (hx : a.eval x = .pointer (some ⟨g, 0, none⟩)) (hgd : Region.wanted o (yielded ops a.tmps) = true) (t : TypeId) (cs : Array Value) (fr : Nat × Nat) (d : TypeDesc) (hg : w.heap[g]? = some (.cells cs t fr))
    (hu : P.underlying ty = some d) (hd : (match d with | .struct _ | .array _ _ => true | _ => false) = true) (hi : (P.info? ty).map (·.size) = some cs.size)
    (h : wpList P ops Q rest (a.put o.dst (.agg cs)) w) : wpList P ops Q (o :: rest) a w :=
  wpList_step fun K hK => by rw [if_pos hgd]; exact wp_load_row ty x ho g hx t cs fr d hg hu hd hi (hK _ _ h)
end Go.Proofs.YtianojbdabeoeaaGreatDoor
end
end

section
namespace Go.Proofs.YtianojbdabeoeaaGreatDoor
open Go.RowKit Ht
set_option linter.unusedVariables false
namespace Ht
/-- what is told of a word, one of it -/
noncomputable def oS (h : H) (x size tv : Int) (tok : Bool) : S := (out_is h x size tv tok).choose
theorem out_err {h : H} {x size tv : Int} {tok : Bool} {s : S} {err : Int} (o : Out h x size tv tok s err) (g : goes h = true) : err = 0 := by
  cases o with
  | arg g' => rw [g] at g'; cases g'
  | ill _ _ => rfl
  | halt _ _ _ _ => rfl
  | ok _ _ _ _ => rfl
theorem oS_out {h : H} {x size tv : Int} {tok : Bool} (g : goes h = true) : Out h x size tv tok (oS h x size tv tok) 0 := by
  obtain ⟨err, o⟩ := (out_is h x size tv tok).choose_spec
  have e := out_err o g
  rw [e] at o; exact o
end Ht
theorem act_f {h : H} {x size : Int} (g : goes h = true) (hb : HB h) (hx : Is.Wd x) (hs : -9223372036854775808 ≤ size ∧ size ≤ 9223372036854775807) (w : World) :
    Calls Tryz.prog 12 #[hartV h, .int .u32 x, .int .i64 size] w fun e w' => e = .returned (.tuple #[accV (oS h x size 0 false).a, .int .i64 (oS h x size 0 false).h.cause, .int .i64 0]) ∧ Below w.heap.size w w' :=
  act_any (oS_out g) hb hx hs w
theorem done_f {h : H} {x size tv : Int} {tok : Bool} (g : goes h = true) (hb : HB h) (hx : Is.Wd x) (hs : -9223372036854775808 ≤ size ∧ size ≤ 9223372036854775807) (ht : Ar.Wd tv) (w : World) :
    Calls Tryz.prog 11 #[hartV h, .int .u32 x, .int .i64 size, ansV tv tok] w fun e w' => e = .returned (.tuple #[hartV (oS h x size tv tok).h, .int .i64 0]) ∧ Below w.heap.size w w' :=
  done_any (oS_out g) hb hx hs ht w
theorem wpList_valW {P : Program} {ops : Array Oper} {rest : List Oper} {o : Oper} {a : Act} {w : World} {Q : Exit → Act → World → Prop} (hgd : Region.wanted o (yielded ops a.tmps) = true) (v : Value)
    (hl : (execOp a.eval o).run P w = .ok (.value v) w) (h : wpList P ops Q rest (a.put o.dst v) w) : wpList P ops Q (o :: rest) a w :=
  wpList_step fun K hK => by rw [if_pos hgd]; unfold Oper.wp; rw [hl]; exact hK _ _ h
theorem run_neq_op {P : Program} {a : Act} {o : Oper} (t : TypeId) (x y : Operand) (ho : o.op = .binOp .neq t x y t) (xs ys : Array Value) (hx : a.eval x = .agg xs) (hy : a.eval y = .agg ys) (b : Bool) (hm : P.eqGuardType P.depth t = false)
    (hb : ∀ w, (binOp .neq t (.agg xs) (.agg ys)).run P w = .ok (.bool b) w) (w : World) : (execOp a.eval o).run P w = .ok (.value (.bool b)) w := by
  unfold execOp
  rw [ho]
  simp only [hx, hy]
  simp only [Sem.run_bind, run_eqGuard_agg w .neq t x y xs ys hm, Result.andThen_ok, hb, Sem.run_pure]
end Go.Proofs.YtianojbdabeoeaaGreatDoor
end

section
namespace Go.Proofs.YtianojbdabeoeaaGreatDoor.hartLoads
open Go.ChangeShapes Go.WideShapes Go.ChangeAt Go.RowKit
set_option linter.unusedVariables false

theorem lift {W v : World} (hb : Below W.heap.size W v) {k : Nat} {o : Obj} (h : W.heap[k]? = some o) : v.heap[k]? = some o := (hb.block _ (Array.getElem?_eq_some_iff.1 h).1).trans h
theorem laid1 {w0 W v : World} (hB : Below w0.heap.size w0 W) (hb : Below W.heap.size W v) (z cs : Array Value) (t : TypeId) :
    ∃ V, V = (v.alloc (.cells z t)).setRow v.heap.size cs ∧ Below w0.heap.size w0 V ∧ V.heap[v.heap.size]? = some (.cells cs t (0, 0)) ∧ ∀ (k : Nat) (o : Obj), W.heap[k]? = some o → V.heap[k]? = some o := by
  have h2 := hB.trans (hb.mono hB.size)
  refine ⟨_, rfl, below_setRow (h2.alloc h2.size _) h2.size, setRow_heap _ _ _ _ _ _ (heap_alloc_new _ _), fun k o h => ?_⟩
  have hk := (Array.getElem?_eq_some_iff.1 (lift hb h)).1
  exact (setRow_other (v.alloc (.cells z t)) v.heap.size k cs (Nat.ne_of_lt hk)).trans ((Below.heap_alloc _ _ _ hk).trans (lift hb h))
theorem setCell_comm (W : World) (g i j : Nat) (hij : i ≠ j) (u v : Value) : (W.setCell ⟨g, i, none⟩ u).setCell ⟨g, j, none⟩ v = (W.setCell ⟨g, j, none⟩ v).setCell ⟨g, i, none⟩ u := by
  unfold World.setCell
  simp only [Option.isSome_none, Bool.false_eq_true, if_false]
  congr 1
  apply Array.ext
  · simp
  · intro k h1 h2
    simp only [Array.getElem_modify]
    by_cases hk : g = k
    · subst hk
      simp only [if_true]
      cases W.heap[g]'(by simpa using h1) <;> simp [Array.setIfInBounds_comm _ _ hij]
    · simp only [if_neg hk]
theorem act_ex {h : Ht.H} {x size : Int} (g : Ht.goes h = true) (hb : Ht.HB h) (hx : Is.Wd x) (hs : -9223372036854775808 ≤ size ∧ size ≤ 9223372036854775807) (w : World) :
    Calls Tryz.prog 12 #[Ht.hartV h, .int .u32 x, .int .i64 size] w fun e w' => ∃ a c, e = .returned (.tuple #[Ht.accV a, .int .i64 c, .int .i64 0]) ∧
      (∀ w, Calls Tryz.prog 16 #[Ht.hartV h, .int .u32 x, .int .i64 size] w fun e w' => e = .returned (.tuple #[Ht.accV a, .int .i64 c]) ∧ Below w.heap.size w w') ∧ Below w.heap.size w w' :=
  (act_f g hb hx hs w).mono fun e w' ⟨he, hb'⟩ => ⟨_, _, he, fun w => ract_of (Ht.oS_out g) g hb hx hs w, hb'⟩
/-! THE WALK: the Go text returns true; of memory nothing that stood there has turned. -/
set_option maxRecDepth 100000 in
set_option maxHeartbeats 16000000 in
theorem walk (w : World) (a0 : Int) (w0 : (Lit.int .u32 a0).wf = true) (a1 : Int) (w1 : (Lit.int .i64 a1).wf = true) (t2 : Int) (k2 : Bool) (y2 : Ar.Wd t2) :
    Calls Tryz.prog 4 #[.int .u32 a0, .int .i64 a1, Ht.ansV t2 k2] w fun e w' => e = .returned (.bool true) ∧ Below w.heap.size w w' := by
  have HA := Lib.hid (Ht.hv_ok (pc := 0) (by unfold Ar.Wd; omega) (wf_u32 w0) y2)
  have HG := Lib.hid (show Ht.goes (Ht.hv 0 a0 t2) = true by rfl)
  have HZ := Lib.hid (wf_i64 w1); have HY2 := Lib.hid y2
  clear w0 w1 y2
  obtain ⟨W1, hW1, c7, c8, f7, f8, bq, rq⟩ := laid_hart (w.alloc (.cells #[.int .u32 t2, .bool k2] 28)) 0 a0 t2
  have box : W1.heap[w.heap.size]? = some (.cells #[.int .u32 t2, .bool k2] 28 (0, 0)) := by rw [hW1]; exact (setRow_other _ _ _ _ (by simp)).trans ((Below.heap_alloc _ _ _ (by simp)).trans (heap_alloc_new _ _))
  rw [World.size_alloc] at hW1 c7 c8 f7 f8 bq rq
  have x0 : W1.cell? ⟨w.heap.size, 0, none⟩ = some (.int .u32 t2) := by rw [cell_of_row W1 _ 0 _ _ _ box]; rfl
  have RB := Lib.hid ((bq.block w.heap.size (by omega)).trans (heap_alloc_new w _))
  have BQ := Lib.hid (((Below.refl w.heap.size w).alloc (Nat.le_refl _) (.cells #[.int .u32 t2, .bool k2] 28)).trans (bq.mono (by omega)))
  have E2 := Lib.hid (heap_b2 w (.cells #[.int .u32 t2, .bool k2] 28) (.cells Ht.hzero 26)).2
  have HW1 := Lib.hid hW1; have RQ := Lib.hid rq; clear hW1 bq rq box
  have cm := setCell_comm W1 (w.heap.size + 1) 8 7 (by decide) (.int .u32 t2) (.int .u32 a0)
  unfold Ht.ansV
  go_enter Tryz.func4, Tryz.ntmps4
  go_wp2_with (have hx := HW1.out; clear HW1; refine wpList_store_row rfl 26 (.tmp 7) (.tmp 28) rfl (w.heap.size + 1) (Ht.hcells (Ht.hp 0)).toArray rfl rfl 26 Ht.hzero E2.out (by kernel_rfl) (by kernel_rfl) (by kernel_rfl) ?_; rw [← hx]; clear hx)
  refine' (fun (key : Hid _) => _) (Lib.hid _)
  
  · go_region
    all_goals exact key.out
  clear c7 c8 f7 f8 x0 cm
  go_wp2_with fail
  go_loopw [8, 9, 10, 11, 12, 13, 14, 15, 16, 17, 18, 19, 20] (fun i _ _ _ _ _ _ _ _ _ _ _ _ wr => ∃ k : Nat, k ≤ 8 ∧ i = .int .u32 (k : Int) ∧ Below w.heap.size w wr ∧ wr.heap[w.heap.size + 1]? = some (.cells (Ht.hcells (Ht.hv 0 a0 t2)).toArray 26 (0, 0)) ∧ wr.heap[w.heap.size]? = some (.cells #[.int .u32 t2, .bool k2] 28 (0, 0))) (fun i _ _ _ _ _ _ _ _ _ _ _ _ _ => 8 - (intOf i).toNat)
  case atStart => exact ⟨0, by omega, rfl, BQ.out.drew, RQ.out, RB.out⟩
  case round =>
    clear BQ RQ RB E2
    obtain ⟨k, hk, rfl, hbr, hrq, hrb⟩ := hrel
    have B := Lib.hid hbr; have RQ := Lib.hid hrq; have RB := Lib.hid hrb; clear hbr hrq hrb
    by_cases hlt : k < 8
    · have hki : (k : Int) < 8 := by omega
      as_aux_lemma =>
        go_wp2_with (first
            | (refine wpList_load_rowW 26 (.tmp 7) rfl (w.heap.size + 1) rfl (by kernel_rfl) 26 (Ht.hcells (Ht.hv 0 a0 t2)).toArray (0, 0) _ RQ.out Tryz.underlying26 rfl (by kernel_rfl) ?_)
            | (refine wpList_load_rowW 28 (.tmp 5) rfl w.heap.size rfl (by kernel_rfl) 28 #[.int .u32 t2, .bool k2] (0, 0) _ RB.out Tryz.underlying28 rfl (by kernel_rfl) ?_))
        refine (ldone_any (Ht.hv 0 a0 t2) HA.out _ a1 t2 k2 ⟨wf_u32 (wf_bits _ _ _ _), HZ.out, HY2.out⟩ _).mono ?_
        rintro e v1 ⟨rfl, hb⟩
        have nRQ := lift hb RQ.out
        have nRB := lift hb RB.out
        have nb := B.out.trans (hb.mono B.out.size)
        clear hb RQ RB B
        have RQ := Lib.hid nRQ; have RB := Lib.hid nRB; have B := Lib.hid nb; clear nb nRQ nRB
        as_aux_lemma =>
          go_wp2_with (first
              | (refine wpList_load_rowW 26 (.tmp 7) rfl (w.heap.size + 1) rfl (by kernel_rfl) 26 (Ht.hcells (Ht.hv 0 a0 t2)).toArray (0, 0) _ RQ.out Tryz.underlying26 rfl (by kernel_rfl) ?_)
              | (refine wpList_load_rowW 28 (.tmp 5) rfl w.heap.size rfl (by kernel_rfl) 28 #[.int .u32 t2, .bool k2] (0, 0) _ RB.out Tryz.underlying28 rfl (by kernel_rfl) ?_))
          refine (ldone_any (Ht.hv 0 a0 t2) HA.out _ a1 t2 k2 ⟨wf_u32 (wf_bits _ _ _ _), HZ.out, HY2.out⟩ _).mono ?_
          rintro e v1 ⟨rfl, hb⟩
          have nRQ := lift hb RQ.out
          have nRB := lift hb RB.out
          have nb := B.out.trans (hb.mono B.out.size)
          clear hb RQ RB B
          have RQ := Lib.hid nRQ; have RB := Lib.hid nRB; have B := Lib.hid nb; clear nb nRQ nRB
          as_aux_lemma =>
            go_wp2_with (refine wpList_load_rowW 26 (.tmp 7) rfl (w.heap.size + 1) rfl (by kernel_rfl) 26 (Ht.hcells (Ht.hv 0 a0 t2)).toArray (0, 0) _ RQ.out Tryz.underlying26 rfl (by kernel_rfl) ?_)
            refine (act_ex HG.out HA.out (wf_u32 (wf_bits _ _ _ _)) HZ.out _).mono ?_
            rintro e v11 ⟨A1, c1, rfl, hra, hb⟩
            have RA1 := Lib.hid hra; clear hra
            obtain ⟨V, hV, hb3, hn, old⟩ := laid1 B.out hb Ht.azero (Ht.acells A1).toArray 37
            have nRQ := old _ _ RQ.out; have nRB := old _ _ RB.out; clear hb old RQ RB B
            have RQ := Lib.hid nRQ; have RB := Lib.hid nRB; clear nRQ nRB
            have B := Lib.hid hb3; have R11 := Lib.hid hn; have HS := Lib.hid hV; clear hb3 hn hV
            unfold Ht.accV
            as_aux_lemma =>
              go_wp2_with (first
                  | (have hx := HS.out; clear HS; refine wpList_store_row rfl 37 (.tmp 11) (.tmp 70) rfl _ (Ht.acells A1).toArray rfl rfl 37 Ht.azero (heap_alloc_new _ _) (by kernel_rfl) (by kernel_rfl) (by kernel_rfl) ?_; rw [← hx]; clear hx)
                  | (refine wpList_load_rowW 26 (.tmp 7) rfl (w.heap.size + 1) rfl (by kernel_rfl) 26 (Ht.hcells (Ht.hv 0 a0 t2)).toArray (0, 0) _ RQ.out Tryz.underlying26 rfl (by kernel_rfl) ?_))
              refine (RA1.out _).mono ?_
              rintro e v14 ⟨rfl, hb⟩
              clear RA1
              obtain ⟨V, hV, hb3, hn, old⟩ := laid1 B.out hb Ht.azero (Ht.acells A1).toArray 37
              have nRQ := old _ _ RQ.out; have nRB := old _ _ RB.out; have nR11 := old _ _ R11.out; clear hb old RQ RB R11 B
              have RQ := Lib.hid nRQ; have RB := Lib.hid nRB; have R11 := Lib.hid nR11; clear nRQ nRB nR11
              have B := Lib.hid hb3; have R14 := Lib.hid hn; have HS := Lib.hid hV; clear hb3 hn hV
              unfold Ht.accV
              as_aux_lemma =>
                go_wp2_with (first
                    | (have hx := HS.out; clear HS; refine wpList_store_row rfl 37 (.tmp 14) (.tmp 78) rfl _ (Ht.acells A1).toArray rfl rfl 37 Ht.azero (heap_alloc_new _ _) (by kernel_rfl) (by kernel_rfl) (by kernel_rfl) ?_; rw [← hx]; clear hx)
                    | (refine wpList_load_rowW 26 (.tmp 7) rfl (w.heap.size + 1) rfl (by kernel_rfl) 26 (Ht.hcells (Ht.hv 0 a0 t2)).toArray (0, 0) _ RQ.out Tryz.underlying26 rfl (by kernel_rfl) ?_))
                refine (act_ex HG.out HA.out (wf_u32 (wf_bits _ _ _ _)) HZ.out _).mono ?_
                rintro e v16 ⟨A2, c2, rfl, hra, hb⟩
                have RA2 := Lib.hid hra; clear hra
                obtain ⟨V, hV, hb3, hn, old⟩ := laid1 B.out hb Ht.azero (Ht.acells A2).toArray 37
                have nRQ := old _ _ RQ.out; have nRB := old _ _ RB.out; have nR11 := old _ _ R11.out; have nR14 := old _ _ R14.out; clear hb old RQ RB R11 R14 B
                have RQ := Lib.hid nRQ; have RB := Lib.hid nRB; have R11 := Lib.hid nR11; have R14 := Lib.hid nR14; clear nRQ nRB nR11 nR14
                have B := Lib.hid hb3; have R16 := Lib.hid hn; have HS := Lib.hid hV; clear hb3 hn hV
                unfold Ht.accV
                as_aux_lemma =>
                  go_wp2_with (first
                      | (have hx := HS.out; clear HS; refine wpList_store_row rfl 37 (.tmp 16) (.tmp 85) rfl _ (Ht.acells A2).toArray rfl rfl 37 Ht.azero (heap_alloc_new _ _) (by kernel_rfl) (by kernel_rfl) (by kernel_rfl) ?_; rw [← hx]; clear hx)
                      | (refine wpList_load_rowW 26 (.tmp 7) rfl (w.heap.size + 1) rfl (by kernel_rfl) 26 (Ht.hcells (Ht.hv 0 a0 t2)).toArray (0, 0) _ RQ.out Tryz.underlying26 rfl (by kernel_rfl) ?_))
                  refine (RA2.out _).mono ?_
                  rintro e v19 ⟨rfl, hb⟩
                  clear RA2
                  obtain ⟨V, hV, hb3, hn, old⟩ := laid1 B.out hb Ht.azero (Ht.acells A2).toArray 37
                  have nRQ := old _ _ RQ.out; have nRB := old _ _ RB.out; have nR11 := old _ _ R11.out; have nR14 := old _ _ R14.out; have nR16 := old _ _ R16.out; clear hb old RQ RB R11 R14 R16 B
                  have RQ := Lib.hid nRQ; have RB := Lib.hid nRB; have R11 := Lib.hid nR11; have R14 := Lib.hid nR14; have R16 := Lib.hid nR16; clear nRQ nRB nR11 nR14 nR16
                  have B := Lib.hid hb3; have R19 := Lib.hid hn; have HS := Lib.hid hV; clear hb3 hn hV
                  unfold Ht.accV
                  as_aux_lemma =>
                    go_wp2_with (first
                        | (have hx := HS.out; clear HS; refine wpList_store_row rfl 37 (.tmp 19) (.tmp 93) rfl _ (Ht.acells A2).toArray rfl rfl 37 Ht.azero (heap_alloc_new _ _) (by kernel_rfl) (by kernel_rfl) (by kernel_rfl) ?_; rw [← hx]; clear hx)
                        | (refine wpList_load_rowW 37 (.tmp 11) rfl v11.heap.size rfl (by kernel_rfl) 37 (Ht.acells A1).toArray (0, 0) _ R11.out Tryz.underlying37 rfl (by kernel_rfl) ?_)
                        | (refine wpList_load_rowW 37 (.tmp 14) rfl v14.heap.size rfl (by kernel_rfl) 37 (Ht.acells A1).toArray (0, 0) _ R14.out Tryz.underlying37 rfl (by kernel_rfl) ?_)
                        | (refine wpList_valW (by kernel_rfl) (.bool false) (run_neq_op 37 (.tmp 95) (.tmp 96) rfl (Ht.acells A1).toArray (Ht.acells A1).toArray rfl rfl false (by kernel_rfl) (fun w => neq_acc_self w A1) _) ?_)
                        | (refine wpList_load_rowW 37 (.tmp 16) rfl v16.heap.size rfl (by kernel_rfl) 37 (Ht.acells A2).toArray (0, 0) _ R16.out Tryz.underlying37 rfl (by kernel_rfl) ?_)
                        | (refine wpList_load_rowW 37 (.tmp 19) rfl v19.heap.size rfl (by kernel_rfl) 37 (Ht.acells A2).toArray (0, 0) _ R19.out Tryz.underlying37 rfl (by kernel_rfl) ?_)
                        | (refine wpList_valW (by kernel_rfl) (.bool false) (run_neq_op 37 (.tmp 104) (.tmp 105) rfl (Ht.acells A2).toArray (Ht.acells A2).toArray rfl rfl false (by kernel_rfl) (fun w => neq_acc_self w A2) _) ?_))
                    go_roundw
                    case rel => exact ⟨k + 1, by omega, by go_num, B.out, RQ.out, RB.out⟩
                    case measure => simp [intOf]; omega
    · obtain rfl : k = 8 := by omega
      rw [show ((8 : Nat) : Int) = 8 from rfl]
      go_wp2_with fail
      go_loopw [21, 22, 23, 24, 25, 26, 27] (fun i _ _ _ _ _ _ wr => ∃ k : Nat, k ≤ 32 ∧ i = .int .u32 (k : Int) ∧ Below w.heap.size w wr ∧ wr.heap[w.heap.size + 1]? = some (.cells (Ht.hcells (Ht.hv 0 a0 t2)).toArray 26 (0, 0)) ∧ wr.heap[w.heap.size]? = some (.cells #[.int .u32 t2, .bool k2] 28 (0, 0))) (fun i _ _ _ _ _ _ _ => 32 - (intOf i).toNat)
      case atStart => exact ⟨0, by omega, rfl, B.out, RQ.out, RB.out⟩
      case round =>
        clear B RQ RB hlt hk
        obtain ⟨k, hk, rfl, hbr, hrq, hrb⟩ := hrel
        have B := Lib.hid hbr; have RQ := Lib.hid hrq; have RB := Lib.hid hrb; clear hbr hrq hrb
        by_cases hlt : k < 32
        · have hki : (k : Int) < 32 := by omega
          as_aux_lemma =>
            go_wp2_with (refine wpList_load_rowW 26 (.tmp 7) rfl (w.heap.size + 1) rfl (by kernel_rfl) 26 (Ht.hcells (Ht.hv 0 a0 t2)).toArray (0, 0) _ RQ.out Tryz.underlying26 rfl (by kernel_rfl) ?_)
            refine (act_ex HG.out HA.out (wf_u32 (wf_bits _ _ _ _)) HZ.out _).mono ?_
            rintro e v23 ⟨A1, c1, rfl, hra, hb⟩
            have RA1 := Lib.hid hra; clear hra
            obtain ⟨V, hV, hb3, hn, old⟩ := laid1 B.out hb Ht.azero (Ht.acells A1).toArray 37
            have nRQ := old _ _ RQ.out; have nRB := old _ _ RB.out; clear hb old RQ RB B
            have RQ := Lib.hid nRQ; have RB := Lib.hid nRB; clear nRQ nRB
            have B := Lib.hid hb3; have R23 := Lib.hid hn; have HS := Lib.hid hV; clear hb3 hn hV
            unfold Ht.accV
            as_aux_lemma =>
              go_wp2_with (first
                  | (have hx := HS.out; clear HS; refine wpList_store_row rfl 37 (.tmp 23) (.tmp 137) rfl _ (Ht.acells A1).toArray rfl rfl 37 Ht.azero (heap_alloc_new _ _) (by kernel_rfl) (by kernel_rfl) (by kernel_rfl) ?_; rw [← hx]; clear hx)
                  | (refine wpList_load_rowW 26 (.tmp 7) rfl (w.heap.size + 1) rfl (by kernel_rfl) 26 (Ht.hcells (Ht.hv 0 a0 t2)).toArray (0, 0) _ RQ.out Tryz.underlying26 rfl (by kernel_rfl) ?_))
              refine (RA1.out _).mono ?_
              rintro e v26 ⟨rfl, hb⟩
              clear RA1
              obtain ⟨V, hV, hb3, hn, old⟩ := laid1 B.out hb Ht.azero (Ht.acells A1).toArray 37
              have nRQ := old _ _ RQ.out; have nRB := old _ _ RB.out; have nR23 := old _ _ R23.out; clear hb old RQ RB R23 B
              have RQ := Lib.hid nRQ; have RB := Lib.hid nRB; have R23 := Lib.hid nR23; clear nRQ nRB nR23
              have B := Lib.hid hb3; have R26 := Lib.hid hn; have HS := Lib.hid hV; clear hb3 hn hV
              unfold Ht.accV
              as_aux_lemma =>
                go_wp2_with (first
                    | (have hx := HS.out; clear HS; refine wpList_store_row rfl 37 (.tmp 26) (.tmp 145) rfl _ (Ht.acells A1).toArray rfl rfl 37 Ht.azero (heap_alloc_new _ _) (by kernel_rfl) (by kernel_rfl) (by kernel_rfl) ?_; rw [← hx]; clear hx)
                    | (refine wpList_load_rowW 37 (.tmp 23) rfl v23.heap.size rfl (by kernel_rfl) 37 (Ht.acells A1).toArray (0, 0) _ R23.out Tryz.underlying37 rfl (by kernel_rfl) ?_)
                    | (refine wpList_load_rowW 37 (.tmp 26) rfl v26.heap.size rfl (by kernel_rfl) 37 (Ht.acells A1).toArray (0, 0) _ R26.out Tryz.underlying37 rfl (by kernel_rfl) ?_)
                    | (refine wpList_valW (by kernel_rfl) (.bool false) (run_neq_op 37 (.tmp 147) (.tmp 148) rfl (Ht.acells A1).toArray (Ht.acells A1).toArray rfl rfl false (by kernel_rfl) (fun w => neq_acc_self w A1) _) ?_)
                    | (refine wpList_load_rowW 26 (.tmp 7) rfl (w.heap.size + 1) rfl (by kernel_rfl) 26 (Ht.hcells (Ht.hv 0 a0 t2)).toArray (0, 0) _ RQ.out Tryz.underlying26 rfl (by kernel_rfl) ?_)
                    | (refine wpList_load_rowW 28 (.tmp 5) rfl w.heap.size rfl (by kernel_rfl) 28 #[.int .u32 t2, .bool k2] (0, 0) _ RB.out Tryz.underlying28 rfl (by kernel_rfl) ?_))
                refine (ldone_any (Ht.hv 0 a0 t2) HA.out _ a1 t2 k2 ⟨wf_u32 (wf_bits _ _ _ _), HZ.out, HY2.out⟩ _).mono ?_
                rintro e v1 ⟨rfl, hb⟩
                have nRQ := lift hb RQ.out
                have nRB := lift hb RB.out
                have nb := B.out.trans (hb.mono B.out.size)
                clear hb RQ RB B
                have RQ := Lib.hid nRQ; have RB := Lib.hid nRB; have B := Lib.hid nb; clear nb nRQ nRB
                as_aux_lemma =>
                  go_wp2_with fail
                  go_roundw
                  case rel => exact ⟨k + 1, by omega, by go_num, B.out, RQ.out, RB.out⟩
                  case measure => simp [intOf]; omega
        · obtain rfl : k = 32 := by omega
          go_wp2_with fail
          refine (known_any _).mono ?_
          rintro e w3 ⟨rfl, hb3⟩
          have HB3 := Lib.hid (B.out.trans (hb3.mono B.out.size)); clear hb3
          go_wp2_with fail
          go_ret
          exact ⟨rfl, HB3.out⟩

/-! THE ROW -/
set_option maxRecDepth 100000 in
theorem contract (H : Type) (enc : TypeId × Value → H) (W : World) (base : Nat) (args : Array Value) (ds gs : List (DataW H)) (before : List MemPlace)
    (hval0 : ∀ (j : Nat) t v, Tryz.f4.params[j]? = some t → args[j]? = some v → Value.okWide Tryz.prog W .any base t v)
    (hW : DataW.Whole enc Tryz.prog Tryz.f4.params.toList Rows.hartLoadsSpec.vars false W args.toList ds gs before) (hL : laidMet Tryz.prog Rows.hartLoadsRow.laid W) :
    Calls Tryz.prog 4 args W fun e W' => ∃ v, e = .returned v ∧ Rows.hartLoadsSpec.post enc Tryz.prog Tryz.f4 false true false false W args v W' := by
  have hval : ∀ (j : Nat) t v, Tryz.f4.params[j]? = some t → args[j]? = some v → Value.okWide Tryz.prog W .any base t v := hval0
  have hW' := hW
  obtain ⟨p, q, hA0, hV, rfl, hfz, hnd⟩ := hW
  have hA : DataW.TrodAll enc Tryz.prog W 0 (fun _ => true) true Tryz.f4.params.toList args.toList ds p := hA0
  rw [Tryz.params4] at hA hval
  obtain ⟨v0, vs0, d0, ds0, p0, q0, hargs, rfl, rfl, h0, r0⟩ := trodAll_cons hA
  obtain ⟨v1, vs1, d1, ds1, p1, q1, rfl, rfl, rfl, h1, r1⟩ := trodAll_cons r0
  obtain ⟨v2, vs2, d2, ds2, p2, q2, rfl, rfl, rfl, h2, r2⟩ := trodAll_cons r1
  obtain ⟨rfl, rfl, rfl⟩ := trodAll_nil r2
  obtain rfl : args = #[v0, v1, v2] := by cases args; simp_all
  obtain ⟨rfl, rfl⟩ := trodVars_none hV
  clear hA0 hval0
  simp only [List.append_nil] at hW'
  have hlt : ∀ x ∈ p0 ++ (p1 ++ (p2)), x.block < W.heap.size := fun x hx => by simpa using hW'.lt x (by simpa using hx)
  have h0k := h0
  obtain ⟨a0, rfl, rfl, rfl, w0⟩ := open_int Tryz.underlying22 (hval 0 22 v0 rfl rfl) h0
  have h1k := h1
  obtain ⟨a1, rfl, rfl, rfl, w1⟩ := open_int Tryz.underlying3 (hval 1 3 v1 rfl rfl) h1
  obtain ⟨t2, k2, rfl, y2⟩ := open_ans (hval 2 28 v2 rfl rfl) h2
  refine (walk W a0 w0 a1 w1 t2 k2 y2).mono fun e W' ⟨he, hb⟩ => ?_
  subst he
  have harg0 : DataW.Trod enc Tryz.prog W' 0 (fun b => decide (b < W.heap.size)) true 22 _ _ _ := Below.trod laidOut (by kernel_rfl) (of_decide_eq_true (by kernel_rfl)) h0k hb (fun x hx => by cases hx)
  have harg1 : DataW.Trod enc Tryz.prog W' 0 (fun b => decide (b < W.heap.size)) true 3 _ _ _ := Below.trod laidOut (by kernel_rfl) (of_decide_eq_true (by kernel_rfl)) h1k hb (fun x hx => by cases hx)
  have harg2 : DataW.Trod enc Tryz.prog W' 0 (fun b => decide (b < W.heap.size)) true 28 _ _ _ := Below.trod laidOut (by kernel_rfl) (of_decide_eq_true (by kernel_rfl)) h2 hb (fun x hx => hlt x (by simp [hx]))
  exact ⟨_, rfl, _, _, _, [], _, [], hW', trodAll_mk1 (shut_bool Tryz.underlying4 _), (trodAll_cons_mk harg0 (trodAll_cons_mk harg1 (trodAll_cons_mk harg2 trodAll_mk0))), rfl, hb.frame _, fun h => by cases h⟩
theorem laid_met (os : Os) : laidMet Tryz.prog Rows.hartLoadsRow.laid ((laidWorld os).forCall (fun _ _ => 0) ⟨#[], #[.int .u32 0, .int .i64 0, .agg #[.int .u32 0, .bool false]], []⟩).memory :=
  laidMet_of_run' 8 (by kernel_rfl) (by kernel_rfl)
theorem reads (os : Os) {H : Type} (enc : TypeId × Value → H) : ∃ places, DataW.whole enc Tryz.prog ((laidWorld os).forCall (fun _ _ => 0) ⟨#[], #[.int .u32 0, .int .i64 0, .agg #[.int .u32 0, .bool false]], []⟩).memory Tryz.f4.params.toList Rows.hartLoadsSpec.vars false (#[.int .u32 0, .int .i64 0, .agg #[.int .u32 0, .bool false]] : Array Value).toList 8 = some ([.lit (.int .u32 0), .lit (.int .i64 0), .agg [.lit (.int .u32 0), .lit (.bool false)]], [], places) :=
  ⟨[], by kernel_rfl⟩
set_option maxRecDepth 100000 in
theorem lifted (os : Os) (started : os.Started) (H : Type) (enc : TypeId × Value → H) (F : Stop.Interp) :
    ReturnsInHanded {} Tryz.checked os 4 .any ((OpenSpec.ofChange Rows.hartLoadsSpec).preRow enc Tryz.prog Tryz.f4 Rows.hartLoadsRow.domain false Rows.hartLoadsRow.laid) (((OpenSpec.ofChange Rows.hartLoadsSpec).at F).post enc Tryz.prog Tryz.f4 false true false false) := by
  obtain ⟨places, hx⟩ := reads os enc
  refine returnsInHanded_of_row (C := Tryz.checked) (s := OpenSpec.ofChange Rows.hartLoadsSpec) own started (by kernel_rfl) Tryz.func4
    (witness_row_at (enc := enc) (C := Tryz.checked) false (laidWorld os) #[.int .u32 0, .int .i64 0, .agg #[.int .u32 0, .bool false]] rfl (by kernel_rfl) (by kernel_rfl) (by kernel_rfl)
      (OpenSpec.preRow_of_cond 8 hx (by kernel_rfl) (fun k hk => by cases hk) (by kernel_rfl) (laid_met os))) ?_
  intro W base args ds gs before hval hW _ _ _ hL _ _
  exact contract H enc W base args ds gs before hval hW hL
theorem said : Rows.HartLoadsSaid :=
  OpenClaim.holds_of_cond 4 Tryz.f4 rfl rfl rfl rfl rfl rfl rfl ⟨rfl, rfl, rfl, rfl, rfl⟩ rfl rfl rfl rfl rfl (by kernel_rfl) Tryz.func4 (by kernel_rfl)
    (of_decide_eq_true (by kernel_rfl)) (by unfold Func.isWrapper; first | (rw [if_pos (by decide +kernel)]; kernel_rfl) | (rw [if_neg (by decide +kernel)]; exact ⟨rfl, rfl⟩))
    (fun os started H enc _ F => by rw [OpenClaim.pre_eq_preRow]; exact lifted os started H enc F)
/-- no parameter wants a stand-in; the program's own looks: what the card asks -/
theorem plain (f : FuncId) (fn : Func) (hf : Tryz.pinned.checked.prog.funcNamed "quadrille/quadrillelaw04.HartLoads" = some f) (hfn : Tryz.pinned.checked.prog.funcs[f]? = some fn) :
    true = Tryz.pinned.checked.prog.looks [] ∧ ∀ (j : Nat) t, fn.params[j]? = some t → Tryz.pinned.checked.prog.wantsStandIn t = false := by
  obtain rfl : f = 4 := Option.some.inj ((show Tryz.prog.funcNamed "quadrille/quadrillelaw04.HartLoads" = some 4 by kernel_rfl).symm.trans hf) |>.symm
  obtain rfl : fn = Tryz.f4 := (Option.some.inj (Tryz.func4.symm.trans hfn)).symm
  refine ⟨by kernel_rfl, fun j t ht => ?_⟩
  rw [Tryz.params4] at ht
  have hm : t = 22 ∨ t = 3 ∨ t = 28 := by simpa using Array.mem_of_getElem? ht
  rcases hm with rfl | rfl | rfl
  · exact (show Tryz.prog.wantsStandIn 22 = false by kernel_rfl)
  · exact (show Tryz.prog.wantsStandIn 3 = false by kernel_rfl)
  · exact (show Tryz.prog.wantsStandIn 28 = false by kernel_rfl)
/-- THE STATEMENT: the card -/
theorem proved : Rows.HartLoadsCardSaid :=
  Claim7.holds_tied_plain_at .later [] _ _ _ _ said (fun _ h => by cases h) (by kernel_rfl) (fun _ h => by cases h) hartLoads_row_tie rfl ⟨rfl, rfl⟩ (by kernel_rfl) rfl plain (by kernel_rfl)
end Go.Proofs.YtianojbdabeoeaaGreatDoor.hartLoads
end
