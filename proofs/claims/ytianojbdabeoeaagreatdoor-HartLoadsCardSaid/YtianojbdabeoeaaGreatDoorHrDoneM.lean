/-
  HrDoneM: OgB, HrNext, HrActA, HrActB, HrAct, HrDone in one text.
-/
import Derived.BigQuiet
import Derived.Deep.QuietTactic
import Derived.Below
import Derived.Laws.Rows
import Derived.Test.YtianojbdabeoeaaGreatDoorHrValM
import Derived.Test.YtianojbdabeoeaaGreatDoorHtDoM
import Derived.Test.YtianojbdabeoeaaGreatDoorHrAccM
import Derived.Test.YtianojbdabeoeaaGreatDoorIsRdM

section
namespace Go.Proofs.YtianojbdabeoeaaGreatDoor
open Go.RowKit
set_option linter.unusedVariables false
namespace Og
/-- a world in which all that stood there stands -/
structure On (n : Nat) (w : World) where
  x : World
  b : Below n w x
instance (n : Nat) (w : World) : Nonempty (On n w) := ⟨⟨w, Below.refl n w⟩⟩
theorem regionB {P : Program} {id : Nat} {l : List Oper} {Q : Exit → Act → World → Prop} {a : Act} {w : World} (hm : P.follows .mixedOrders = true) (hB : Region.lexB .any l.toArray = true)
    (h : wpQuiet P l.toArray (fun w' => ∃ q : On w.heap.size w, w' = q.x) (fun a' => ∀ w', (∃ q : On w.heap.size w, w' = q.x) → Q .normal a' w') l a) : (Code.region id l.toArray true).wp P Q a w :=
  wp_region_quiet (C := fun w' => ∃ q : On w.heap.size w, w' = q.x) hm hB ⟨⟨{ w with drawn := w.drawn + 1 }, ⟨rfl, rfl, rfl, Nat.le_refl _, fun _ _ => rfl⟩⟩, rfl⟩ (by simpa using h)
/-- a callee's contract, met in such a world -/
theorem callB {P : Program} {f : FuncId} {args : Array Value} {w : World} {q : On w.heap.size w} {v : Value} (h : Calls P f args q.x fun e w' => e = .returned v ∧ Below q.x.heap.size q.x w') :
    Calls P f args q.x fun e w'' => e = .returned v ∧ ∃ q' : On w.heap.size w, w'' = q'.x :=
  h.mono fun _ w'' ⟨he, hb⟩ => ⟨he, ⟨w'', q.b.trans (hb.mono q.b.size)⟩, rfl⟩
theorem callS {P : Program} {f : FuncId} {args : Array Value} {w : World} {q : On w.heap.size w} {v : Value} (h : Calls P f args q.x fun e w' => e = .returned v ∧ q.x = w') :
    Calls P f args q.x fun e w'' => e = .returned v ∧ ∃ q' : On w.heap.size w, w'' = q'.x :=
  h.mono fun _ w'' ⟨he, hb⟩ => ⟨he, q, hb.symm⟩
/-- a row, loaded whole in such a world -/
theorem rowB {P : Program} {w : World} (q : On w.heap.size w) {g : Nat} {t : TypeId} {cs : Array Value} {fr : Nat × Nat} (ty : TypeId) (d : TypeDesc) (hg : w.heap[g]? = some (.cells cs t fr))
    (hu : P.underlying ty = some d) (hd : (match d with | .struct _ | .array _ _ => true | _ => false) = true) (hi : (P.info? ty).map (·.size) = some cs.size) :
    (loadVar ty ⟨g, 0, none⟩).run P q.x = .ok (.agg cs) q.x :=
  run_loadVar_row q.x g t ty cs fr d ((q.b.block g (Array.getElem?_eq_some_iff.1 hg).1).trans hg) hu hd hi
/-- a load of a whole row in such a region -/
theorem quiet_load {P : Program} {C : World → Prop} {o : Oper} {a : Act} {K : Act → Prop} (ty : TypeId) (x : Operand) (ho : o.op = .load ty x) (v : Value) (p : Addr) (a' : Act)
    (hx : a.eval x = .pointer (some p)) (hl : ∀ w, C w → (loadVar ty p).run P w = .ok v w) (ha : a.put o.dst v = a') (hk : K a') : o.quiet P a C K :=
  ⟨v, fun w hC => by
    unfold Oper.quietAt execOp
    simp only [ho, hx, Instr.loadAt, Instr.sureAddr, Sem.run_bind, Sem.run_pure, Result.andThen_ok, hl w hC]
    exact ⟨rfl, rfl⟩, by rw [ha]; exact hk⟩
/-- a test whether two are the same in such a region -/
theorem quiet_eql {P : Program} {C : World → Prop} {o : Oper} {a : Act} {K : Act → Prop} (v : Bool) (a' : Act)
    (hl : ∀ w, (execOp a.eval o).run P w = .ok (.value (.bool v)) w) (ha : a.put o.dst (.bool v) = a') (hk : K a') : o.quiet P a C K :=
  ⟨.bool v, fun w hC => by
    unfold Oper.quietAt
    rw [hl w]
    exact ⟨rfl, rfl⟩, by rw [ha]; exact hk⟩
theorem cellB {w : World} (q : On w.heap.size w) {p : Addr} {v : Value} (h : w.cell? p = some v) : q.x.cell? p = some v :=
  (q.b.cell (World.block_lt_of_cell? w p h)).trans h
end Og
end Go.Proofs.YtianojbdabeoeaaGreatDoor
end

section
namespace Go.Proofs.YtianojbdabeoeaaGreatDoor
open Go.RowKit Ht
set_option linter.unusedVariables false
theorem heap_b2r (w : World) (o1 o2 : Obj) : ((w.alloc o1).alloc o2).heap[w.heap.size]? = some o1 ∧ ((w.alloc o1).alloc o2).heap[w.heap.size + 1]? = some o2 := by
  refine ⟨heap_a1 w o1 o2, ?_⟩
  have := heap_alloc_new (w.alloc o1) o2
  rwa [World.size_alloc] at this
set_option maxRecDepth 100000 in
set_option maxHeartbeats 1000000 in
theorem rcheck_any (h : H) (w : World) :
    Calls Tryz.prog 55 #[hartV h] w fun e w' => e = .returned (.bool (may h)) ∧ Below w.heap.size w w' := by
  have key : ∀ (b : Bool), may h = b → Calls Tryz.prog 55 #[hartV h] w fun e w' => e = .returned (.bool b) ∧ Below w.heap.size w w' := by
    intro b hb
    unfold may at hb
    unfold hartV hcells
    obtain ⟨id, pc, R, cause⟩ := h
    simp only at hb ⊢
    by_cases h1 : id < 0
    · obtain rfl : b = false := by rw [← hb]; simp; omega
      clear hb
      go_enter Tryz.func55, Tryz.ntmps55
      go_wp2
      all_goals first
        | (exfalso; omega)
        | (go_ret; exact ⟨rfl, (Below.refl _ _).alloc (Nat.le_refl _) _⟩)
    by_cases h2 : 4 ≤ id
    · obtain rfl : b = false := by rw [← hb]; simp; omega
      clear hb
      go_enter Tryz.func55, Tryz.ntmps55
      go_wp2
      all_goals first
        | (exfalso; omega)
        | (go_ret; exact ⟨rfl, (Below.refl _ _).alloc (Nat.le_refl _) _⟩)
    generalize R 0 = r0 at hb ⊢
    by_cases h3 : r0 = 0
    · have h3' : (r0 == 0) = true := by simpa using h3
      by_cases h4 : cause < 0
      · obtain rfl : b = false := by rw [← hb]; simp; omega
        clear hb
        go_enter Tryz.func55, Tryz.ntmps55
        go_wp2
        all_goals first
          | (exfalso; omega)
          | (go_ret; exact ⟨rfl, (Below.refl _ _).alloc (Nat.le_refl _) _⟩)
      by_cases h5 : 4 < cause
      · have d5 : decide (cause ≤ 4) = false := by simp; omega
        obtain rfl : b = false := by rw [← hb]; simp; omega
        clear hb
        go_enter Tryz.func55, Tryz.ntmps55
        go_wp2
        all_goals first
          | (exfalso; omega)
          | (go_ret; exact ⟨rfl, (Below.refl _ _).alloc (Nat.le_refl _) _⟩)
      have d5 : decide (cause ≤ 4) = true := by simp; omega
      obtain rfl : b = true := by rw [← hb]; simp [h3]; omega
      clear hb h3
      go_enter Tryz.func55, Tryz.ntmps55
      go_wp2
      all_goals first
        | (exfalso; omega)
        | (go_ret; exact ⟨rfl, (Below.refl _ _).alloc (Nat.le_refl _) _⟩)
    · have h3' : (r0 == 0) = false := by simpa using h3
      obtain rfl : b = false := by rw [← hb]; simp [h3]
      clear hb h3
      go_enter Tryz.func55, Tryz.ntmps55
      go_wp2
      all_goals first
        | (exfalso; omega)
        | (go_ret; exact ⟨rfl, (Below.refl _ _).alloc (Nat.le_refl _) _⟩)
  exact key _ rfl
set_option maxRecDepth 100000 in
set_option maxHeartbeats 1000000 in
theorem lgoes_any (h : H) (w : World) :
    Calls Tryz.prog 32 #[hartV h] w fun e w' => e = .returned (.bool (goes h)) ∧ Below w.heap.size w w' := by
  cases hm : may h
  · have hg : goes h = false := by unfold goes; rw [hm]; rfl
    rw [hg]; clear hg
    unfold hartV
    go_enter Tryz.func32, Tryz.ntmps32
    go_wp2_with (refine wpList_load_row rfl 26 (.tmp 1) rfl w.heap.size rfl 26 (hcells h).toArray (0, 0) _ (heap_alloc_new _ _) Tryz.underlying26 rfl (by kernel_rfl) ?_)
    refine (rcheck_any h _).mono ?_
    rintro e w1 ⟨rfl, hb⟩
    rw [hm]
    have HB := Lib.hid (((Below.refl _ _).alloc (Nat.le_refl _) _).trans (hb.mono (by simp))); clear hb hm
    go_wp2
    go_ret
    exact ⟨rfl, HB.out⟩
  · have hg : goes h = (h.cause == 0) := by unfold goes; rw [hm]; rfl
    rw [hg]; clear hg
    unfold hartV
    go_enter Tryz.func32, Tryz.ntmps32
    go_wp2_with (refine wpList_load_row rfl 26 (.tmp 1) rfl w.heap.size rfl 26 (hcells h).toArray (0, 0) _ (heap_alloc_new _ _) Tryz.underlying26 rfl (by kernel_rfl) ?_)
    refine (rcheck_any h _).mono ?_
    rintro e w1 ⟨rfl, hb⟩
    rw [hm]
    have c34 : w1.cell? ⟨w.heap.size, 34, none⟩ = some (.int .i64 h.cause) := by
      rw [cell_of_row w1 _ 34 _ _ _ ((hb.block w.heap.size (by simp)).trans (heap_alloc_new _ _))]; rfl
    have HB := Lib.hid (((Below.refl _ _).alloc (Nat.le_refl _) _).trans (hb.mono (by simp))); clear hb hm
    go_wp2
    go_ret
    exact ⟨rfl, HB.out⟩
theorem Ht.next_nn (op : Nat) (pc a b imm : Int) : 0 ≤ next op pc a b imm := by
  have h1 := Ar.md_wd (pc + imm)
  have h2 := Ar.md_wd (a + imm)
  have h3 := Ar.md_wd (pc + 4)
  unfold Ar.Wd at h1 h2 h3
  unfold next place even Ar.add
  split
  · split <;> omega
  · omega
set_option maxRecDepth 100000 in
set_option maxHeartbeats 2000000 in
theorem rnext_jal (h : H) (i : I) (hop : i.op = 3) (K : HIOk h i) (w : World) :
    Calls Tryz.prog 37 #[hartV h, instV i] w fun e w' => e = .returned (.int .u32 (next i.op h.pc (h.R i.rs1) (h.R i.rs2) i.imm)) ∧ Below w.heap.size w w' := by
  have nx : next i.op h.pc (h.R i.rs1) (h.R i.rs2) i.imm = Ar.add h.pc i.imm := by
    unfold next jumps place
    rw [hop]; rfl
  rw [nx]; clear nx
  have k1 := hc h i.rs1 K.rs1
  have k2 := hc h i.rs2 K.rs2
  have b1 : (i.rs1 : Int) < 32 := by have := K.rs1; omega
  have b2 : (i.rs2 : Int) < 32 := by have := K.rs2; omega
  have j0 : (icells i)[0]? = some (.int .i64 i.op) := rfl
  have j2 : (icells i)[2]? = some (.int .i64 i.rs1) := rfl
  have j3 : (icells i)[3]? = some (.int .i64 i.rs2) := rfl
  have n3 : ((i.op : Int) == 3) = true := by rw [hop]; rfl
  clear hop
  unfold hartV instV
  go_enter Tryz.func37, Tryz.ntmps37
  go_wp2
  go_quiet ((go_at_call 36; exact Calls.quiet_of_same ((rtaken_any i.op _ _ (K.R _) (K.R _) _).mono fun _ _ h => ⟨h.1, h.2.symm⟩)))
  obtain ⟨W, hW⟩ : ∃ W, W = ((w.alloc (.cells (hcells h).toArray 26)).alloc (.cells (icells i).toArray 85)).drewN nq := ⟨_, rfl⟩
  have q0 : W.heap[w.heap.size]? = some (.cells (hcells h).toArray 26) := by rw [hW]; exact (heap_b2r w _ _).1
  have q1 : W.heap[w.heap.size + 1]? = some (.cells (icells i).toArray 85) := by rw [hW]; exact (heap_b2r w _ _).2
  have c1 : W.cell? ⟨w.heap.size, 1, none⟩ = some (.int .u32 h.pc) := by rw [cell_of_row W _ 1 _ _ _ q0]; rfl
  have c2 : W.cell? ⟨w.heap.size + 1, 2, none⟩ = some (.int .i64 i.rs1) := by rw [cell_of_row W _ 2 _ _ _ q1]; rfl
  have c3 : W.cell? ⟨w.heap.size, 2 + i.rs1, none⟩ = some (.int .u32 (h.R i.rs1)) := by rw [cell_of_row W _ _ _ _ _ q0]; simpa using k1
  have c4 : W.cell? ⟨w.heap.size + 1, 4, none⟩ = some (.int .u32 i.imm) := by rw [cell_of_row W _ 4 _ _ _ q1]; rfl
  have b : Below w.heap.size w W := by rw [hW]; exact ((Below.refl w.heap.size w).alloc (Nat.le_refl _) _).alloc (by simp only [World.size_alloc]; omega) _ |>.trans ⟨rfl, rfl, rfl, Nat.le_refl _, fun _ _ => rfl⟩
  rw [← hW]
  have B := Lib.hid b; clear b hW q0 q1 k1 k2 j0 j2 j3 b2
  go_wp2_with fail
  refine (radd_any _ _ K.pc K.imm _).mono ?_
  rintro e w1 ⟨rfl, rfl⟩
  go_wp2
  go_ret
  exact ⟨rfl, B.out⟩
set_option maxRecDepth 100000 in
set_option maxHeartbeats 2000000 in
theorem rnext_taken (h : H) (i : I) (hop : i.op ≠ 3 ∧ i.op ≠ 4) (ht : taken i.op (h.R i.rs1) (h.R i.rs2) = true) (K : HIOk h i) (w : World) :
    Calls Tryz.prog 37 #[hartV h, instV i] w fun e w' => e = .returned (.int .u32 (next i.op h.pc (h.R i.rs1) (h.R i.rs2) i.imm)) ∧ Below w.heap.size w w' := by
  have nx : next i.op h.pc (h.R i.rs1) (h.R i.rs2) i.imm = Ar.add h.pc i.imm := by
    unfold next jumps place
    rw [ht, if_neg hop.2]; simp
  rw [nx]; clear nx
  have k1 := hc h i.rs1 K.rs1
  have k2 := hc h i.rs2 K.rs2
  have b1 : (i.rs1 : Int) < 32 := by have := K.rs1; omega
  have b2 : (i.rs2 : Int) < 32 := by have := K.rs2; omega
  have j0 : (icells i)[0]? = some (.int .i64 i.op) := rfl
  have j2 : (icells i)[2]? = some (.int .i64 i.rs1) := rfl
  have j3 : (icells i)[3]? = some (.int .i64 i.rs2) := rfl
  have n3 : ((i.op : Int) == 3) = false := beq_eq_false_iff_ne.2 (by omega)
  clear hop
  unfold hartV instV
  go_enter Tryz.func37, Tryz.ntmps37
  go_wp2
  go_quiet ((go_at_call 36; exact Calls.quiet_of_same ((rtaken_any i.op _ _ (K.R _) (K.R _) _).mono fun _ _ h => ⟨h.1, h.2.symm⟩)))
  obtain ⟨W, hW⟩ : ∃ W, W = ((w.alloc (.cells (hcells h).toArray 26)).alloc (.cells (icells i).toArray 85)).drewN nq := ⟨_, rfl⟩
  have q0 : W.heap[w.heap.size]? = some (.cells (hcells h).toArray 26) := by rw [hW]; exact (heap_b2r w _ _).1
  have q1 : W.heap[w.heap.size + 1]? = some (.cells (icells i).toArray 85) := by rw [hW]; exact (heap_b2r w _ _).2
  have c1 : W.cell? ⟨w.heap.size, 1, none⟩ = some (.int .u32 h.pc) := by rw [cell_of_row W _ 1 _ _ _ q0]; rfl
  have c2 : W.cell? ⟨w.heap.size + 1, 2, none⟩ = some (.int .i64 i.rs1) := by rw [cell_of_row W _ 2 _ _ _ q1]; rfl
  have c3 : W.cell? ⟨w.heap.size, 2 + i.rs1, none⟩ = some (.int .u32 (h.R i.rs1)) := by rw [cell_of_row W _ _ _ _ _ q0]; simpa using k1
  have c4 : W.cell? ⟨w.heap.size + 1, 4, none⟩ = some (.int .u32 i.imm) := by rw [cell_of_row W _ 4 _ _ _ q1]; rfl
  have b : Below w.heap.size w W := by rw [hW]; exact ((Below.refl w.heap.size w).alloc (Nat.le_refl _) _).alloc (by simp only [World.size_alloc]; omega) _ |>.trans ⟨rfl, rfl, rfl, Nat.le_refl _, fun _ _ => rfl⟩
  rw [← hW]
  have B := Lib.hid b; clear b hW q0 q1 k1 k2 j0 j2 j3 b2
  go_wp2_with fail
  refine (radd_any _ _ K.pc K.imm _).mono ?_
  rintro e w1 ⟨rfl, rfl⟩
  go_wp2
  go_ret
  exact ⟨rfl, B.out⟩
set_option maxRecDepth 100000 in
set_option maxHeartbeats 2000000 in
theorem rnext_stay (h : H) (i : I) (hop : i.op ≠ 3 ∧ i.op ≠ 4) (ht : taken i.op (h.R i.rs1) (h.R i.rs2) = false) (K : HIOk h i) (w : World) :
    Calls Tryz.prog 37 #[hartV h, instV i] w fun e w' => e = .returned (.int .u32 (next i.op h.pc (h.R i.rs1) (h.R i.rs2) i.imm)) ∧ Below w.heap.size w w' := by
  have nx : next i.op h.pc (h.R i.rs1) (h.R i.rs2) i.imm = Ar.add h.pc 4 := by
    unfold next jumps place
    rw [ht, beq_eq_false_iff_ne.2 hop.1, beq_eq_false_iff_ne.2 hop.2]; rfl
  rw [nx]; clear nx
  have k1 := hc h i.rs1 K.rs1
  have k2 := hc h i.rs2 K.rs2
  have b1 : (i.rs1 : Int) < 32 := by have := K.rs1; omega
  have b2 : (i.rs2 : Int) < 32 := by have := K.rs2; omega
  have j0 : (icells i)[0]? = some (.int .i64 i.op) := rfl
  have j2 : (icells i)[2]? = some (.int .i64 i.rs1) := rfl
  have j3 : (icells i)[3]? = some (.int .i64 i.rs2) := rfl
  have n3 : ((i.op : Int) == 3) = false := beq_eq_false_iff_ne.2 (by omega)
  have n4 : ((i.op : Int) == 4) = false := beq_eq_false_iff_ne.2 (by omega)
  clear hop
  unfold hartV instV
  go_enter Tryz.func37, Tryz.ntmps37
  go_wp2
  go_quiet ((go_at_call 36; exact Calls.quiet_of_same ((rtaken_any i.op _ _ (K.R _) (K.R _) _).mono fun _ _ h => ⟨h.1, h.2.symm⟩)))
  obtain ⟨W, hW⟩ : ∃ W, W = ((w.alloc (.cells (hcells h).toArray 26)).alloc (.cells (icells i).toArray 85)).drewN nq := ⟨_, rfl⟩
  have q0 : W.heap[w.heap.size]? = some (.cells (hcells h).toArray 26) := by rw [hW]; exact (heap_b2r w _ _).1
  have q1 : W.heap[w.heap.size + 1]? = some (.cells (icells i).toArray 85) := by rw [hW]; exact (heap_b2r w _ _).2
  have c1 : W.cell? ⟨w.heap.size, 1, none⟩ = some (.int .u32 h.pc) := by rw [cell_of_row W _ 1 _ _ _ q0]; rfl
  have c2 : W.cell? ⟨w.heap.size + 1, 2, none⟩ = some (.int .i64 i.rs1) := by rw [cell_of_row W _ 2 _ _ _ q1]; rfl
  have c3 : W.cell? ⟨w.heap.size, 2 + i.rs1, none⟩ = some (.int .u32 (h.R i.rs1)) := by rw [cell_of_row W _ _ _ _ _ q0]; simpa using k1
  have c4 : W.cell? ⟨w.heap.size + 1, 4, none⟩ = some (.int .u32 i.imm) := by rw [cell_of_row W _ 4 _ _ _ q1]; rfl
  have b : Below w.heap.size w W := by rw [hW]; exact ((Below.refl w.heap.size w).alloc (Nat.le_refl _) _).alloc (by simp only [World.size_alloc]; omega) _ |>.trans ⟨rfl, rfl, rfl, Nat.le_refl _, fun _ _ => rfl⟩
  rw [← hW]
  have B := Lib.hid b; clear b hW q0 q1 k1 k2 j0 j2 j3 b2
  go_wp2_with fail
  refine (radd_any _ _ K.pc (by unfold Ar.Wd; omega) _).mono ?_
  rintro e w1 ⟨rfl, rfl⟩
  go_wp2
  go_ret
  exact ⟨rfl, B.out⟩
set_option maxRecDepth 100000 in
set_option maxHeartbeats 2000000 in
theorem rnext_jalr (h : H) (i : I) (hop : i.op = 4) (K : HIOk h i) (w : World) :
    Calls Tryz.prog 37 #[hartV h, instV i] w fun e w' => e = .returned (.int .u32 (next i.op h.pc (h.R i.rs1) (h.R i.rs2) i.imm)) ∧ Below w.heap.size w w' := by
  have nx : next i.op h.pc (h.R i.rs1) (h.R i.rs2) i.imm = Ar.add (h.R i.rs1) i.imm - Ar.add (h.R i.rs1) i.imm % 2 := by
    unfold next jumps place
    rw [hop]; rfl
  rw [nx]; clear nx
  have k1 := hc h i.rs1 K.rs1
  have k2 := hc h i.rs2 K.rs2
  have b1 : (i.rs1 : Int) < 32 := by have := K.rs1; omega
  have b2 : (i.rs2 : Int) < 32 := by have := K.rs2; omega
  have j0 : (icells i)[0]? = some (.int .i64 i.op) := rfl
  have j2 : (icells i)[2]? = some (.int .i64 i.rs1) := rfl
  have j3 : (icells i)[3]? = some (.int .i64 i.rs2) := rfl
  have n3 : ((i.op : Int) == 3) = false := by rw [hop]; rfl
  have n4 : ((i.op : Int) == 4) = true := by rw [hop]; rfl
  have ht : taken i.op (h.R i.rs1) (h.R i.rs2) = false := by rw [hop]; rfl
  clear hop
  unfold hartV instV
  go_enter Tryz.func37, Tryz.ntmps37
  go_wp2
  go_quiet ((go_at_call 36; exact Calls.quiet_of_same ((rtaken_any i.op _ _ (K.R _) (K.R _) _).mono fun _ _ h => ⟨h.1, h.2.symm⟩)))
  obtain ⟨W, hW⟩ : ∃ W, W = ((w.alloc (.cells (hcells h).toArray 26)).alloc (.cells (icells i).toArray 85)).drewN nq := ⟨_, rfl⟩
  have q0 : W.heap[w.heap.size]? = some (.cells (hcells h).toArray 26) := by rw [hW]; exact (heap_b2r w _ _).1
  have q1 : W.heap[w.heap.size + 1]? = some (.cells (icells i).toArray 85) := by rw [hW]; exact (heap_b2r w _ _).2
  have c1 : W.cell? ⟨w.heap.size, 1, none⟩ = some (.int .u32 h.pc) := by rw [cell_of_row W _ 1 _ _ _ q0]; rfl
  have c2 : W.cell? ⟨w.heap.size + 1, 2, none⟩ = some (.int .i64 i.rs1) := by rw [cell_of_row W _ 2 _ _ _ q1]; rfl
  have c3 : W.cell? ⟨w.heap.size, 2 + i.rs1, none⟩ = some (.int .u32 (h.R i.rs1)) := by rw [cell_of_row W _ _ _ _ _ q0]; simpa using k1
  have c4 : W.cell? ⟨w.heap.size + 1, 4, none⟩ = some (.int .u32 i.imm) := by rw [cell_of_row W _ 4 _ _ _ q1]; rfl
  have b : Below w.heap.size w W := by rw [hW]; exact ((Below.refl w.heap.size w).alloc (Nat.le_refl _) _).alloc (by simp only [World.size_alloc]; omega) _ |>.trans ⟨rfl, rfl, rfl, Nat.le_refl _, fun _ _ => rfl⟩
  rw [← hW]
  have B := Lib.hid b; clear b hW q0 q1 k1 k2 j0 j2 j3 b2
  go_wp2
  go_quiet ((go_at_call 49; exact Calls.quiet_of_same ((radd_any _ _ (K.R _) K.imm _).mono fun _ _ h => ⟨h.1, h.2.symm⟩)))
  have hn : Ar.Wd (Ar.add (h.R i.rs1) i.imm) := Ar.md_wd _
  unfold Ar.Wd at hn
  go_wp2
  go_ret
  exact ⟨rfl, B.out.trans ⟨rfl, rfl, rfl, Nat.le_refl _, fun _ _ => rfl⟩⟩
theorem rnext_any (h : H) (i : I) (K : HIOk h i) (w : World) :
    Calls Tryz.prog 37 #[hartV h, instV i] w fun e w' => e = .returned (.int .u32 (next i.op h.pc (h.R i.rs1) (h.R i.rs2) i.imm)) ∧ Below w.heap.size w w' := by
  by_cases h3 : i.op = 3
  · exact rnext_jal h i h3 K w
  by_cases h4 : i.op = 4
  · exact rnext_jalr h i h4 K w
  cases ht : taken i.op (h.R i.rs1) (h.R i.rs2)
  · exact rnext_stay h i ⟨h3, h4⟩ ht K w
  · exact rnext_taken h i ⟨h3, h4⟩ ht K w
end Go.Proofs.YtianojbdabeoeaaGreatDoor
end

section
namespace Go.Proofs.YtianojbdabeoeaaGreatDoor
open Go.RowKit Ht
set_option linter.unusedVariables false

set_option maxRecDepth 100000 in
set_option maxHeartbeats 4000000 in
theorem ract_mis2 (h : H) (i : I) (x size : Int) (hz : -9223372036854775808 ≤ size ∧ size ≤ 9223372036854775807) (K : HIOk h i) (n39 : i.op ≠ 39) (kd ad v o : Int) (q r : Bool) (had : 0 ≤ ad ∧ ad ≤ 4294967295)
    (hD : ∀ w, Calls Tryz.prog 34 #[.int .u32 x] w fun e w' => e = .returned (.tuple #[instV i, .bool true]) ∧ Below w.heap.size w w')
    (hA : ∀ w, Calls Tryz.prog 35 #[hartV h, instV i] w fun e w' => e = .returned (accV ⟨kd, ad, 2, v, o, q, r⟩) ∧ Below w.heap.size w w') (hm : ad % 2 ≠ 0) (w : World) :
    Calls Tryz.prog 16 #[hartV h, .int .u32 x, .int .i64 size] w fun e w' => e = .returned (.tuple #[accV A0, .int .i64 3]) ∧ Below w.heap.size w w' := by
  have HD := Lib.hid hD; have HA := Lib.hid hA; clear hD hA
  have m39 : ((i.op : Int) == 39) = false := beq_eq_false_iff_ne.2 (by omega)
  clear n39
  unfold hartV
  go_enter Tryz.func16, Tryz.ntmps16
  go_wp2_with fail
  refine (HD.out _).mono ?_
  rintro e w1 ⟨rfl, hb⟩
  have r0 : w1.heap[w.heap.size]? = some (.cells (hcells h).toArray 26) := (hb.block w.heap.size (by simp only [World.size_alloc]; omega)).trans (heap_b2r w _ _).1
  have r1 : w1.heap[w.heap.size + 1]? = some (.cells azero 37) := (hb.block (w.heap.size + 1) (by simp only [World.size_alloc]; omega)).trans (heap_b2r w _ _).2
  have b1 : Below w.heap.size w w1 := (((Below.refl w.heap.size w).alloc (Nat.le_refl _) _).alloc (by simp only [World.size_alloc]; omega) _).trans (hb.mono (by simp only [World.size_alloc]; omega))
  have z1 : w.heap.size + 2 ≤ w1.heap.size := by have := hb.size; simp only [World.size_alloc] at this; omega
  clear hb
  obtain ⟨W2, hW2⟩ : ∃ W2, W2 = (w1.alloc (.cells izero 85)).setRow w1.heap.size (icells i).toArray := ⟨_, rfl⟩
  have old : ∀ k, k < w1.heap.size → W2.heap[k]? = w1.heap[k]? := fun k hk => by rw [hW2]; exact (setRow_other _ _ _ _ (by omega)).trans (Below.heap_alloc _ _ _ hk)
  have q0 := (old w.heap.size (by omega)).trans r0
  have q1 := (old (w.heap.size + 1) (by omega)).trans r1
  have q4 : W2.heap[w1.heap.size]? = some (.cells (icells i).toArray 85) := by rw [hW2]; exact setRow_heap _ _ _ _ _ _ (heap_alloc_new _ _)
  have b2 : Below w.heap.size w W2 := by rw [hW2]; exact below_setRow (b1.alloc b1.size _) b1.size
  have z2 : W2.heap.size = w1.heap.size + 1 := by rw [hW2]; simp
  have c0 : W2.cell? ⟨w1.heap.size, 0, none⟩ = some (.int .i64 i.op) := by rw [cell_of_row W2 _ 0 _ _ _ q4]; rfl
  have Q0 := Lib.hid q0; have Q1 := Lib.hid q1; have Q4 := Lib.hid q4; have B2 := Lib.hid b2; have Z2 := Lib.hid z2; have Z1 := Lib.hid z1; have HW2 := Lib.hid hW2
  clear r0 r1 b1 z1 old q0 q1 q4 b2 z2 hW2
  unfold instV
  go_wp2_with (first
    | (refine wpList_store_row rfl 85 (.tmp 8) (.tmp 15) rfl w1.heap.size (icells i).toArray rfl rfl 85 izero (heap_alloc_new _ _) (by kernel_rfl) (by kernel_rfl) (by kernel_rfl) ?_; rw [← HW2.out])
    | (refine wpList_load_row rfl 26 (.tmp 3) rfl w.heap.size rfl 26 (hcells h).toArray (0, 0) _ Q0.out Tryz.underlying26 rfl (by kernel_rfl) ?_)
    | (refine wpList_load_row rfl 85 (.tmp 8) rfl w1.heap.size rfl 85 (icells i).toArray (0, 0) _ Q4.out Tryz.underlying85 rfl (by kernel_rfl) ?_))
  refine (HA.out _).mono ?_
  rintro e w3 ⟨rfl, hb⟩
  clear c0
  obtain ⟨W4, hW4⟩ : ∃ W4, W4 = (w3.alloc (.cells azero 37)).setRow w3.heap.size (acells ⟨kd, ad, 2, v, o, q, r⟩).toArray := ⟨_, rfl⟩
  have old : ∀ k, k < W2.heap.size → W4.heap[k]? = W2.heap[k]? := fun k hk => by rw [hW4]; exact (setRow_other _ _ _ _ (by have := hb.size; omega)).trans ((Below.heap_alloc _ _ _ (by have := hb.size; omega)).trans (hb.block k hk))
  have q0 := (old w.heap.size (by have := Z1.out; have := Z2.out; omega)).trans Q0.out
  have q1 := (old (w.heap.size + 1) (by have := Z1.out; have := Z2.out; omega)).trans Q1.out
  have q4 := (old w1.heap.size (by have := Z2.out; omega)).trans Q4.out
  have q5 : W4.heap[w3.heap.size]? = some (.cells (acells ⟨kd, ad, 2, v, o, q, r⟩).toArray 37) := by rw [hW4]; exact setRow_heap _ _ _ _ _ _ (heap_alloc_new _ _)
  have b3 : Below w.heap.size w w3 := B2.out.trans (hb.mono B2.out.size)
  have b4 : Below w.heap.size w W4 := by rw [hW4]; exact below_setRow (b3.alloc b3.size _) b3.size
  have c0 : W4.cell? ⟨w1.heap.size, 0, none⟩ = some (.int .i64 i.op) := by rw [cell_of_row W4 _ 0 _ _ _ q4]; rfl
  have a1 : W4.cell? ⟨w3.heap.size, 1, none⟩ = some (.int .u32 ad) := by rw [cell_of_row W4 _ 1 _ _ _ q5]; rfl
  have a2 : W4.cell? ⟨w3.heap.size, 2, none⟩ = some (.int .i64 2) := by rw [cell_of_row W4 _ 2 _ _ _ q5]; rfl
  have hr := setRow_heap W4 (w.heap.size + 1) azero (acells A0).toArray 37 (0, 0) q1
  have P0 := Lib.hid q0; have P1 := Lib.hid q1; have P4 := Lib.hid q4; have P5 := Lib.hid q5; have B4 := Lib.hid b4; have HW4 := Lib.hid hW4; have HR := Lib.hid hr
  clear Q0 Q1 Q4 B2 Z2 HW2 hb old q0 q1 q4 q5 b3 b4 hW4 hr
  unfold accV
  have m1 : (ad % 2 != 0) = true := by simpa using hm
  clear hm
  go_wp2_with (first
    | (refine wpList_store_row rfl 37 (.tmp 10) (.tmp 26) rfl w3.heap.size (acells ⟨kd, ad, 2, v, o, q, r⟩).toArray rfl rfl 37 azero (heap_alloc_new _ _) (by kernel_rfl) (by kernel_rfl) (by kernel_rfl) ?_; rw [← HW4.out])
    | (refine wpList_store_row rfl 37 (.tmp 6) (.tmp 39) rfl (w.heap.size + 1) (acells A0).toArray rfl rfl 37 azero P1.out (by kernel_rfl) (by kernel_rfl) (by kernel_rfl) ?_))
  refine bodyPost_ret (v := .tuple #[.agg (acells A0).toArray, .int .i64 3]) ?_ rfl ⟨rfl, ?_⟩
  · exact results_row2 (fn := Tryz.f16) rfl _ _ (w.heap.size + 1) 37 (acells A0).toArray (0, 0) _ rfl HR.out Tryz.underlying37 rfl (by kernel_rfl)
  · exact below_setRow B4.out (by omega)
set_option maxRecDepth 100000 in
set_option maxHeartbeats 4000000 in
theorem ract_mis4 (h : H) (i : I) (x size : Int) (hz : -9223372036854775808 ≤ size ∧ size ≤ 9223372036854775807) (K : HIOk h i) (n39 : i.op ≠ 39) (kd ad v o : Int) (q r : Bool) (had : 0 ≤ ad ∧ ad ≤ 4294967295)
    (hD : ∀ w, Calls Tryz.prog 34 #[.int .u32 x] w fun e w' => e = .returned (.tuple #[instV i, .bool true]) ∧ Below w.heap.size w w')
    (hA : ∀ w, Calls Tryz.prog 35 #[hartV h, instV i] w fun e w' => e = .returned (accV ⟨kd, ad, 4, v, o, q, r⟩) ∧ Below w.heap.size w w') (hm : ad % 4 ≠ 0) (w : World) :
    Calls Tryz.prog 16 #[hartV h, .int .u32 x, .int .i64 size] w fun e w' => e = .returned (.tuple #[accV A0, .int .i64 3]) ∧ Below w.heap.size w w' := by
  have HD := Lib.hid hD; have HA := Lib.hid hA; clear hD hA
  have m39 : ((i.op : Int) == 39) = false := beq_eq_false_iff_ne.2 (by omega)
  clear n39
  unfold hartV
  go_enter Tryz.func16, Tryz.ntmps16
  go_wp2_with fail
  refine (HD.out _).mono ?_
  rintro e w1 ⟨rfl, hb⟩
  have r0 : w1.heap[w.heap.size]? = some (.cells (hcells h).toArray 26) := (hb.block w.heap.size (by simp only [World.size_alloc]; omega)).trans (heap_b2r w _ _).1
  have r1 : w1.heap[w.heap.size + 1]? = some (.cells azero 37) := (hb.block (w.heap.size + 1) (by simp only [World.size_alloc]; omega)).trans (heap_b2r w _ _).2
  have b1 : Below w.heap.size w w1 := (((Below.refl w.heap.size w).alloc (Nat.le_refl _) _).alloc (by simp only [World.size_alloc]; omega) _).trans (hb.mono (by simp only [World.size_alloc]; omega))
  have z1 : w.heap.size + 2 ≤ w1.heap.size := by have := hb.size; simp only [World.size_alloc] at this; omega
  clear hb
  obtain ⟨W2, hW2⟩ : ∃ W2, W2 = (w1.alloc (.cells izero 85)).setRow w1.heap.size (icells i).toArray := ⟨_, rfl⟩
  have old : ∀ k, k < w1.heap.size → W2.heap[k]? = w1.heap[k]? := fun k hk => by rw [hW2]; exact (setRow_other _ _ _ _ (by omega)).trans (Below.heap_alloc _ _ _ hk)
  have q0 := (old w.heap.size (by omega)).trans r0
  have q1 := (old (w.heap.size + 1) (by omega)).trans r1
  have q4 : W2.heap[w1.heap.size]? = some (.cells (icells i).toArray 85) := by rw [hW2]; exact setRow_heap _ _ _ _ _ _ (heap_alloc_new _ _)
  have b2 : Below w.heap.size w W2 := by rw [hW2]; exact below_setRow (b1.alloc b1.size _) b1.size
  have z2 : W2.heap.size = w1.heap.size + 1 := by rw [hW2]; simp
  have c0 : W2.cell? ⟨w1.heap.size, 0, none⟩ = some (.int .i64 i.op) := by rw [cell_of_row W2 _ 0 _ _ _ q4]; rfl
  have Q0 := Lib.hid q0; have Q1 := Lib.hid q1; have Q4 := Lib.hid q4; have B2 := Lib.hid b2; have Z2 := Lib.hid z2; have Z1 := Lib.hid z1; have HW2 := Lib.hid hW2
  clear r0 r1 b1 z1 old q0 q1 q4 b2 z2 hW2
  unfold instV
  go_wp2_with (first
    | (refine wpList_store_row rfl 85 (.tmp 8) (.tmp 15) rfl w1.heap.size (icells i).toArray rfl rfl 85 izero (heap_alloc_new _ _) (by kernel_rfl) (by kernel_rfl) (by kernel_rfl) ?_; rw [← HW2.out])
    | (refine wpList_load_row rfl 26 (.tmp 3) rfl w.heap.size rfl 26 (hcells h).toArray (0, 0) _ Q0.out Tryz.underlying26 rfl (by kernel_rfl) ?_)
    | (refine wpList_load_row rfl 85 (.tmp 8) rfl w1.heap.size rfl 85 (icells i).toArray (0, 0) _ Q4.out Tryz.underlying85 rfl (by kernel_rfl) ?_))
  refine (HA.out _).mono ?_
  rintro e w3 ⟨rfl, hb⟩
  clear c0
  obtain ⟨W4, hW4⟩ : ∃ W4, W4 = (w3.alloc (.cells azero 37)).setRow w3.heap.size (acells ⟨kd, ad, 4, v, o, q, r⟩).toArray := ⟨_, rfl⟩
  have old : ∀ k, k < W2.heap.size → W4.heap[k]? = W2.heap[k]? := fun k hk => by rw [hW4]; exact (setRow_other _ _ _ _ (by have := hb.size; omega)).trans ((Below.heap_alloc _ _ _ (by have := hb.size; omega)).trans (hb.block k hk))
  have q0 := (old w.heap.size (by have := Z1.out; have := Z2.out; omega)).trans Q0.out
  have q1 := (old (w.heap.size + 1) (by have := Z1.out; have := Z2.out; omega)).trans Q1.out
  have q4 := (old w1.heap.size (by have := Z2.out; omega)).trans Q4.out
  have q5 : W4.heap[w3.heap.size]? = some (.cells (acells ⟨kd, ad, 4, v, o, q, r⟩).toArray 37) := by rw [hW4]; exact setRow_heap _ _ _ _ _ _ (heap_alloc_new _ _)
  have b3 : Below w.heap.size w w3 := B2.out.trans (hb.mono B2.out.size)
  have b4 : Below w.heap.size w W4 := by rw [hW4]; exact below_setRow (b3.alloc b3.size _) b3.size
  have c0 : W4.cell? ⟨w1.heap.size, 0, none⟩ = some (.int .i64 i.op) := by rw [cell_of_row W4 _ 0 _ _ _ q4]; rfl
  have a1 : W4.cell? ⟨w3.heap.size, 1, none⟩ = some (.int .u32 ad) := by rw [cell_of_row W4 _ 1 _ _ _ q5]; rfl
  have a2 : W4.cell? ⟨w3.heap.size, 2, none⟩ = some (.int .i64 4) := by rw [cell_of_row W4 _ 2 _ _ _ q5]; rfl
  have hr := setRow_heap W4 (w.heap.size + 1) azero (acells A0).toArray 37 (0, 0) q1
  have P0 := Lib.hid q0; have P1 := Lib.hid q1; have P4 := Lib.hid q4; have P5 := Lib.hid q5; have B4 := Lib.hid b4; have HW4 := Lib.hid hW4; have HR := Lib.hid hr
  clear Q0 Q1 Q4 B2 Z2 HW2 hb old q0 q1 q4 q5 b3 b4 hW4 hr
  unfold accV
  have m1 : (ad % 4 != 0) = true := by simpa using hm
  clear hm
  go_wp2_with (first
    | (refine wpList_store_row rfl 37 (.tmp 10) (.tmp 26) rfl w3.heap.size (acells ⟨kd, ad, 4, v, o, q, r⟩).toArray rfl rfl 37 azero (heap_alloc_new _ _) (by kernel_rfl) (by kernel_rfl) (by kernel_rfl) ?_; rw [← HW4.out])
    | (refine wpList_store_row rfl 37 (.tmp 6) (.tmp 39) rfl (w.heap.size + 1) (acells A0).toArray rfl rfl 37 azero P1.out (by kernel_rfl) (by kernel_rfl) (by kernel_rfl) ?_))
  refine bodyPost_ret (v := .tuple #[.agg (acells A0).toArray, .int .i64 3]) ?_ rfl ⟨rfl, ?_⟩
  · exact results_row2 (fn := Tryz.f16) rfl _ _ (w.heap.size + 1) 37 (acells A0).toArray (0, 0) _ rfl HR.out Tryz.underlying37 rfl (by kernel_rfl)
  · exact below_setRow B4.out (by omega)
set_option maxRecDepth 100000 in
set_option maxHeartbeats 4000000 in
theorem ract_out1 (h : H) (i : I) (x size : Int) (hz : -9223372036854775808 ≤ size ∧ size ≤ 9223372036854775807) (K : HIOk h i) (n39 : i.op ≠ 39) (kd ad v o : Int) (q r : Bool) (had : 0 ≤ ad ∧ ad ≤ 4294967295)
    (hD : ∀ w, Calls Tryz.prog 34 #[.int .u32 x] w fun e w' => e = .returned (.tuple #[instV i, .bool true]) ∧ Below w.heap.size w w')
    (hA : ∀ w, Calls Tryz.prog 35 #[hartV h, instV i] w fun e w' => e = .returned (accV ⟨kd, ad, 1, v, o, q, r⟩) ∧ Below w.heap.size w w') (hm : ad % 1 = 0) (ho : size < ad + 1) (w : World) :
    Calls Tryz.prog 16 #[hartV h, .int .u32 x, .int .i64 size] w fun e w' => e = .returned (.tuple #[accV A0, .int .i64 4]) ∧ Below w.heap.size w w' := by
  have HD := Lib.hid hD; have HA := Lib.hid hA; clear hD hA
  have m39 : ((i.op : Int) == 39) = false := beq_eq_false_iff_ne.2 (by omega)
  clear n39
  unfold hartV
  go_enter Tryz.func16, Tryz.ntmps16
  go_wp2_with fail
  refine (HD.out _).mono ?_
  rintro e w1 ⟨rfl, hb⟩
  have r0 : w1.heap[w.heap.size]? = some (.cells (hcells h).toArray 26) := (hb.block w.heap.size (by simp only [World.size_alloc]; omega)).trans (heap_b2r w _ _).1
  have r1 : w1.heap[w.heap.size + 1]? = some (.cells azero 37) := (hb.block (w.heap.size + 1) (by simp only [World.size_alloc]; omega)).trans (heap_b2r w _ _).2
  have b1 : Below w.heap.size w w1 := (((Below.refl w.heap.size w).alloc (Nat.le_refl _) _).alloc (by simp only [World.size_alloc]; omega) _).trans (hb.mono (by simp only [World.size_alloc]; omega))
  have z1 : w.heap.size + 2 ≤ w1.heap.size := by have := hb.size; simp only [World.size_alloc] at this; omega
  clear hb
  obtain ⟨W2, hW2⟩ : ∃ W2, W2 = (w1.alloc (.cells izero 85)).setRow w1.heap.size (icells i).toArray := ⟨_, rfl⟩
  have old : ∀ k, k < w1.heap.size → W2.heap[k]? = w1.heap[k]? := fun k hk => by rw [hW2]; exact (setRow_other _ _ _ _ (by omega)).trans (Below.heap_alloc _ _ _ hk)
  have q0 := (old w.heap.size (by omega)).trans r0
  have q1 := (old (w.heap.size + 1) (by omega)).trans r1
  have q4 : W2.heap[w1.heap.size]? = some (.cells (icells i).toArray 85) := by rw [hW2]; exact setRow_heap _ _ _ _ _ _ (heap_alloc_new _ _)
  have b2 : Below w.heap.size w W2 := by rw [hW2]; exact below_setRow (b1.alloc b1.size _) b1.size
  have z2 : W2.heap.size = w1.heap.size + 1 := by rw [hW2]; simp
  have c0 : W2.cell? ⟨w1.heap.size, 0, none⟩ = some (.int .i64 i.op) := by rw [cell_of_row W2 _ 0 _ _ _ q4]; rfl
  have Q0 := Lib.hid q0; have Q1 := Lib.hid q1; have Q4 := Lib.hid q4; have B2 := Lib.hid b2; have Z2 := Lib.hid z2; have Z1 := Lib.hid z1; have HW2 := Lib.hid hW2
  clear r0 r1 b1 z1 old q0 q1 q4 b2 z2 hW2
  unfold instV
  go_wp2_with (first
    | (refine wpList_store_row rfl 85 (.tmp 8) (.tmp 15) rfl w1.heap.size (icells i).toArray rfl rfl 85 izero (heap_alloc_new _ _) (by kernel_rfl) (by kernel_rfl) (by kernel_rfl) ?_; rw [← HW2.out])
    | (refine wpList_load_row rfl 26 (.tmp 3) rfl w.heap.size rfl 26 (hcells h).toArray (0, 0) _ Q0.out Tryz.underlying26 rfl (by kernel_rfl) ?_)
    | (refine wpList_load_row rfl 85 (.tmp 8) rfl w1.heap.size rfl 85 (icells i).toArray (0, 0) _ Q4.out Tryz.underlying85 rfl (by kernel_rfl) ?_))
  refine (HA.out _).mono ?_
  rintro e w3 ⟨rfl, hb⟩
  clear c0
  obtain ⟨W4, hW4⟩ : ∃ W4, W4 = (w3.alloc (.cells azero 37)).setRow w3.heap.size (acells ⟨kd, ad, 1, v, o, q, r⟩).toArray := ⟨_, rfl⟩
  have old : ∀ k, k < W2.heap.size → W4.heap[k]? = W2.heap[k]? := fun k hk => by rw [hW4]; exact (setRow_other _ _ _ _ (by have := hb.size; omega)).trans ((Below.heap_alloc _ _ _ (by have := hb.size; omega)).trans (hb.block k hk))
  have q0 := (old w.heap.size (by have := Z1.out; have := Z2.out; omega)).trans Q0.out
  have q1 := (old (w.heap.size + 1) (by have := Z1.out; have := Z2.out; omega)).trans Q1.out
  have q4 := (old w1.heap.size (by have := Z2.out; omega)).trans Q4.out
  have q5 : W4.heap[w3.heap.size]? = some (.cells (acells ⟨kd, ad, 1, v, o, q, r⟩).toArray 37) := by rw [hW4]; exact setRow_heap _ _ _ _ _ _ (heap_alloc_new _ _)
  have b3 : Below w.heap.size w w3 := B2.out.trans (hb.mono B2.out.size)
  have b4 : Below w.heap.size w W4 := by rw [hW4]; exact below_setRow (b3.alloc b3.size _) b3.size
  have c0 : W4.cell? ⟨w1.heap.size, 0, none⟩ = some (.int .i64 i.op) := by rw [cell_of_row W4 _ 0 _ _ _ q4]; rfl
  have a1 : W4.cell? ⟨w3.heap.size, 1, none⟩ = some (.int .u32 ad) := by rw [cell_of_row W4 _ 1 _ _ _ q5]; rfl
  have a2 : W4.cell? ⟨w3.heap.size, 2, none⟩ = some (.int .i64 1) := by rw [cell_of_row W4 _ 2 _ _ _ q5]; rfl
  have hr := setRow_heap W4 (w.heap.size + 1) azero (acells A0).toArray 37 (0, 0) q1
  have P0 := Lib.hid q0; have P1 := Lib.hid q1; have P4 := Lib.hid q4; have P5 := Lib.hid q5; have B4 := Lib.hid b4; have HW4 := Lib.hid hW4; have HR := Lib.hid hr
  clear Q0 Q1 Q4 B2 Z2 HW2 hb old q0 q1 q4 q5 b3 b4 hW4 hr
  unfold accV
  have m1 : (ad % 1 != 0) = false := by simp
  clear hm
  go_wp2_with (first
    | (refine wpList_store_row rfl 37 (.tmp 10) (.tmp 26) rfl w3.heap.size (acells ⟨kd, ad, 1, v, o, q, r⟩).toArray rfl rfl 37 azero (heap_alloc_new _ _) (by kernel_rfl) (by kernel_rfl) (by kernel_rfl) ?_; rw [← HW4.out])
    | (refine wpList_store_row rfl 37 (.tmp 6) (.tmp 53) rfl (w.heap.size + 1) (acells A0).toArray rfl rfl 37 azero P1.out (by kernel_rfl) (by kernel_rfl) (by kernel_rfl) ?_))
  refine bodyPost_ret (v := .tuple #[.agg (acells A0).toArray, .int .i64 4]) ?_ rfl ⟨rfl, ?_⟩
  · exact results_row2 (fn := Tryz.f16) rfl _ _ (w.heap.size + 1) 37 (acells A0).toArray (0, 0) _ rfl HR.out Tryz.underlying37 rfl (by kernel_rfl)
  · exact below_setRow B4.out (by omega)
set_option maxRecDepth 100000 in
set_option maxHeartbeats 4000000 in
theorem ract_out2 (h : H) (i : I) (x size : Int) (hz : -9223372036854775808 ≤ size ∧ size ≤ 9223372036854775807) (K : HIOk h i) (n39 : i.op ≠ 39) (kd ad v o : Int) (q r : Bool) (had : 0 ≤ ad ∧ ad ≤ 4294967295)
    (hD : ∀ w, Calls Tryz.prog 34 #[.int .u32 x] w fun e w' => e = .returned (.tuple #[instV i, .bool true]) ∧ Below w.heap.size w w')
    (hA : ∀ w, Calls Tryz.prog 35 #[hartV h, instV i] w fun e w' => e = .returned (accV ⟨kd, ad, 2, v, o, q, r⟩) ∧ Below w.heap.size w w') (hm : ad % 2 = 0) (ho : size < ad + 2) (w : World) :
    Calls Tryz.prog 16 #[hartV h, .int .u32 x, .int .i64 size] w fun e w' => e = .returned (.tuple #[accV A0, .int .i64 4]) ∧ Below w.heap.size w w' := by
  have HD := Lib.hid hD; have HA := Lib.hid hA; clear hD hA
  have m39 : ((i.op : Int) == 39) = false := beq_eq_false_iff_ne.2 (by omega)
  clear n39
  unfold hartV
  go_enter Tryz.func16, Tryz.ntmps16
  go_wp2_with fail
  refine (HD.out _).mono ?_
  rintro e w1 ⟨rfl, hb⟩
  have r0 : w1.heap[w.heap.size]? = some (.cells (hcells h).toArray 26) := (hb.block w.heap.size (by simp only [World.size_alloc]; omega)).trans (heap_b2r w _ _).1
  have r1 : w1.heap[w.heap.size + 1]? = some (.cells azero 37) := (hb.block (w.heap.size + 1) (by simp only [World.size_alloc]; omega)).trans (heap_b2r w _ _).2
  have b1 : Below w.heap.size w w1 := (((Below.refl w.heap.size w).alloc (Nat.le_refl _) _).alloc (by simp only [World.size_alloc]; omega) _).trans (hb.mono (by simp only [World.size_alloc]; omega))
  have z1 : w.heap.size + 2 ≤ w1.heap.size := by have := hb.size; simp only [World.size_alloc] at this; omega
  clear hb
  obtain ⟨W2, hW2⟩ : ∃ W2, W2 = (w1.alloc (.cells izero 85)).setRow w1.heap.size (icells i).toArray := ⟨_, rfl⟩
  have old : ∀ k, k < w1.heap.size → W2.heap[k]? = w1.heap[k]? := fun k hk => by rw [hW2]; exact (setRow_other _ _ _ _ (by omega)).trans (Below.heap_alloc _ _ _ hk)
  have q0 := (old w.heap.size (by omega)).trans r0
  have q1 := (old (w.heap.size + 1) (by omega)).trans r1
  have q4 : W2.heap[w1.heap.size]? = some (.cells (icells i).toArray 85) := by rw [hW2]; exact setRow_heap _ _ _ _ _ _ (heap_alloc_new _ _)
  have b2 : Below w.heap.size w W2 := by rw [hW2]; exact below_setRow (b1.alloc b1.size _) b1.size
  have z2 : W2.heap.size = w1.heap.size + 1 := by rw [hW2]; simp
  have c0 : W2.cell? ⟨w1.heap.size, 0, none⟩ = some (.int .i64 i.op) := by rw [cell_of_row W2 _ 0 _ _ _ q4]; rfl
  have Q0 := Lib.hid q0; have Q1 := Lib.hid q1; have Q4 := Lib.hid q4; have B2 := Lib.hid b2; have Z2 := Lib.hid z2; have Z1 := Lib.hid z1; have HW2 := Lib.hid hW2
  clear r0 r1 b1 z1 old q0 q1 q4 b2 z2 hW2
  unfold instV
  go_wp2_with (first
    | (refine wpList_store_row rfl 85 (.tmp 8) (.tmp 15) rfl w1.heap.size (icells i).toArray rfl rfl 85 izero (heap_alloc_new _ _) (by kernel_rfl) (by kernel_rfl) (by kernel_rfl) ?_; rw [← HW2.out])
    | (refine wpList_load_row rfl 26 (.tmp 3) rfl w.heap.size rfl 26 (hcells h).toArray (0, 0) _ Q0.out Tryz.underlying26 rfl (by kernel_rfl) ?_)
    | (refine wpList_load_row rfl 85 (.tmp 8) rfl w1.heap.size rfl 85 (icells i).toArray (0, 0) _ Q4.out Tryz.underlying85 rfl (by kernel_rfl) ?_))
  refine (HA.out _).mono ?_
  rintro e w3 ⟨rfl, hb⟩
  clear c0
  obtain ⟨W4, hW4⟩ : ∃ W4, W4 = (w3.alloc (.cells azero 37)).setRow w3.heap.size (acells ⟨kd, ad, 2, v, o, q, r⟩).toArray := ⟨_, rfl⟩
  have old : ∀ k, k < W2.heap.size → W4.heap[k]? = W2.heap[k]? := fun k hk => by rw [hW4]; exact (setRow_other _ _ _ _ (by have := hb.size; omega)).trans ((Below.heap_alloc _ _ _ (by have := hb.size; omega)).trans (hb.block k hk))
  have q0 := (old w.heap.size (by have := Z1.out; have := Z2.out; omega)).trans Q0.out
  have q1 := (old (w.heap.size + 1) (by have := Z1.out; have := Z2.out; omega)).trans Q1.out
  have q4 := (old w1.heap.size (by have := Z2.out; omega)).trans Q4.out
  have q5 : W4.heap[w3.heap.size]? = some (.cells (acells ⟨kd, ad, 2, v, o, q, r⟩).toArray 37) := by rw [hW4]; exact setRow_heap _ _ _ _ _ _ (heap_alloc_new _ _)
  have b3 : Below w.heap.size w w3 := B2.out.trans (hb.mono B2.out.size)
  have b4 : Below w.heap.size w W4 := by rw [hW4]; exact below_setRow (b3.alloc b3.size _) b3.size
  have c0 : W4.cell? ⟨w1.heap.size, 0, none⟩ = some (.int .i64 i.op) := by rw [cell_of_row W4 _ 0 _ _ _ q4]; rfl
  have a1 : W4.cell? ⟨w3.heap.size, 1, none⟩ = some (.int .u32 ad) := by rw [cell_of_row W4 _ 1 _ _ _ q5]; rfl
  have a2 : W4.cell? ⟨w3.heap.size, 2, none⟩ = some (.int .i64 2) := by rw [cell_of_row W4 _ 2 _ _ _ q5]; rfl
  have hr := setRow_heap W4 (w.heap.size + 1) azero (acells A0).toArray 37 (0, 0) q1
  have P0 := Lib.hid q0; have P1 := Lib.hid q1; have P4 := Lib.hid q4; have P5 := Lib.hid q5; have B4 := Lib.hid b4; have HW4 := Lib.hid hW4; have HR := Lib.hid hr
  clear Q0 Q1 Q4 B2 Z2 HW2 hb old q0 q1 q4 q5 b3 b4 hW4 hr
  unfold accV
  have m1 : (ad % 2 != 0) = false := by simpa using hm
  clear hm
  go_wp2_with (first
    | (refine wpList_store_row rfl 37 (.tmp 10) (.tmp 26) rfl w3.heap.size (acells ⟨kd, ad, 2, v, o, q, r⟩).toArray rfl rfl 37 azero (heap_alloc_new _ _) (by kernel_rfl) (by kernel_rfl) (by kernel_rfl) ?_; rw [← HW4.out])
    | (refine wpList_store_row rfl 37 (.tmp 6) (.tmp 53) rfl (w.heap.size + 1) (acells A0).toArray rfl rfl 37 azero P1.out (by kernel_rfl) (by kernel_rfl) (by kernel_rfl) ?_))
  refine bodyPost_ret (v := .tuple #[.agg (acells A0).toArray, .int .i64 4]) ?_ rfl ⟨rfl, ?_⟩
  · exact results_row2 (fn := Tryz.f16) rfl _ _ (w.heap.size + 1) 37 (acells A0).toArray (0, 0) _ rfl HR.out Tryz.underlying37 rfl (by kernel_rfl)
  · exact below_setRow B4.out (by omega)
set_option maxRecDepth 100000 in
set_option maxHeartbeats 4000000 in
theorem ract_out4 (h : H) (i : I) (x size : Int) (hz : -9223372036854775808 ≤ size ∧ size ≤ 9223372036854775807) (K : HIOk h i) (n39 : i.op ≠ 39) (kd ad v o : Int) (q r : Bool) (had : 0 ≤ ad ∧ ad ≤ 4294967295)
    (hD : ∀ w, Calls Tryz.prog 34 #[.int .u32 x] w fun e w' => e = .returned (.tuple #[instV i, .bool true]) ∧ Below w.heap.size w w')
    (hA : ∀ w, Calls Tryz.prog 35 #[hartV h, instV i] w fun e w' => e = .returned (accV ⟨kd, ad, 4, v, o, q, r⟩) ∧ Below w.heap.size w w') (hm : ad % 4 = 0) (ho : size < ad + 4) (w : World) :
    Calls Tryz.prog 16 #[hartV h, .int .u32 x, .int .i64 size] w fun e w' => e = .returned (.tuple #[accV A0, .int .i64 4]) ∧ Below w.heap.size w w' := by
  have HD := Lib.hid hD; have HA := Lib.hid hA; clear hD hA
  have m39 : ((i.op : Int) == 39) = false := beq_eq_false_iff_ne.2 (by omega)
  clear n39
  unfold hartV
  go_enter Tryz.func16, Tryz.ntmps16
  go_wp2_with fail
  refine (HD.out _).mono ?_
  rintro e w1 ⟨rfl, hb⟩
  have r0 : w1.heap[w.heap.size]? = some (.cells (hcells h).toArray 26) := (hb.block w.heap.size (by simp only [World.size_alloc]; omega)).trans (heap_b2r w _ _).1
  have r1 : w1.heap[w.heap.size + 1]? = some (.cells azero 37) := (hb.block (w.heap.size + 1) (by simp only [World.size_alloc]; omega)).trans (heap_b2r w _ _).2
  have b1 : Below w.heap.size w w1 := (((Below.refl w.heap.size w).alloc (Nat.le_refl _) _).alloc (by simp only [World.size_alloc]; omega) _).trans (hb.mono (by simp only [World.size_alloc]; omega))
  have z1 : w.heap.size + 2 ≤ w1.heap.size := by have := hb.size; simp only [World.size_alloc] at this; omega
  clear hb
  obtain ⟨W2, hW2⟩ : ∃ W2, W2 = (w1.alloc (.cells izero 85)).setRow w1.heap.size (icells i).toArray := ⟨_, rfl⟩
  have old : ∀ k, k < w1.heap.size → W2.heap[k]? = w1.heap[k]? := fun k hk => by rw [hW2]; exact (setRow_other _ _ _ _ (by omega)).trans (Below.heap_alloc _ _ _ hk)
  have q0 := (old w.heap.size (by omega)).trans r0
  have q1 := (old (w.heap.size + 1) (by omega)).trans r1
  have q4 : W2.heap[w1.heap.size]? = some (.cells (icells i).toArray 85) := by rw [hW2]; exact setRow_heap _ _ _ _ _ _ (heap_alloc_new _ _)
  have b2 : Below w.heap.size w W2 := by rw [hW2]; exact below_setRow (b1.alloc b1.size _) b1.size
  have z2 : W2.heap.size = w1.heap.size + 1 := by rw [hW2]; simp
  have c0 : W2.cell? ⟨w1.heap.size, 0, none⟩ = some (.int .i64 i.op) := by rw [cell_of_row W2 _ 0 _ _ _ q4]; rfl
  have Q0 := Lib.hid q0; have Q1 := Lib.hid q1; have Q4 := Lib.hid q4; have B2 := Lib.hid b2; have Z2 := Lib.hid z2; have Z1 := Lib.hid z1; have HW2 := Lib.hid hW2
  clear r0 r1 b1 z1 old q0 q1 q4 b2 z2 hW2
  unfold instV
  go_wp2_with (first
    | (refine wpList_store_row rfl 85 (.tmp 8) (.tmp 15) rfl w1.heap.size (icells i).toArray rfl rfl 85 izero (heap_alloc_new _ _) (by kernel_rfl) (by kernel_rfl) (by kernel_rfl) ?_; rw [← HW2.out])
    | (refine wpList_load_row rfl 26 (.tmp 3) rfl w.heap.size rfl 26 (hcells h).toArray (0, 0) _ Q0.out Tryz.underlying26 rfl (by kernel_rfl) ?_)
    | (refine wpList_load_row rfl 85 (.tmp 8) rfl w1.heap.size rfl 85 (icells i).toArray (0, 0) _ Q4.out Tryz.underlying85 rfl (by kernel_rfl) ?_))
  refine (HA.out _).mono ?_
  rintro e w3 ⟨rfl, hb⟩
  clear c0
  obtain ⟨W4, hW4⟩ : ∃ W4, W4 = (w3.alloc (.cells azero 37)).setRow w3.heap.size (acells ⟨kd, ad, 4, v, o, q, r⟩).toArray := ⟨_, rfl⟩
  have old : ∀ k, k < W2.heap.size → W4.heap[k]? = W2.heap[k]? := fun k hk => by rw [hW4]; exact (setRow_other _ _ _ _ (by have := hb.size; omega)).trans ((Below.heap_alloc _ _ _ (by have := hb.size; omega)).trans (hb.block k hk))
  have q0 := (old w.heap.size (by have := Z1.out; have := Z2.out; omega)).trans Q0.out
  have q1 := (old (w.heap.size + 1) (by have := Z1.out; have := Z2.out; omega)).trans Q1.out
  have q4 := (old w1.heap.size (by have := Z2.out; omega)).trans Q4.out
  have q5 : W4.heap[w3.heap.size]? = some (.cells (acells ⟨kd, ad, 4, v, o, q, r⟩).toArray 37) := by rw [hW4]; exact setRow_heap _ _ _ _ _ _ (heap_alloc_new _ _)
  have b3 : Below w.heap.size w w3 := B2.out.trans (hb.mono B2.out.size)
  have b4 : Below w.heap.size w W4 := by rw [hW4]; exact below_setRow (b3.alloc b3.size _) b3.size
  have c0 : W4.cell? ⟨w1.heap.size, 0, none⟩ = some (.int .i64 i.op) := by rw [cell_of_row W4 _ 0 _ _ _ q4]; rfl
  have a1 : W4.cell? ⟨w3.heap.size, 1, none⟩ = some (.int .u32 ad) := by rw [cell_of_row W4 _ 1 _ _ _ q5]; rfl
  have a2 : W4.cell? ⟨w3.heap.size, 2, none⟩ = some (.int .i64 4) := by rw [cell_of_row W4 _ 2 _ _ _ q5]; rfl
  have hr := setRow_heap W4 (w.heap.size + 1) azero (acells A0).toArray 37 (0, 0) q1
  have P0 := Lib.hid q0; have P1 := Lib.hid q1; have P4 := Lib.hid q4; have P5 := Lib.hid q5; have B4 := Lib.hid b4; have HW4 := Lib.hid hW4; have HR := Lib.hid hr
  clear Q0 Q1 Q4 B2 Z2 HW2 hb old q0 q1 q4 q5 b3 b4 hW4 hr
  unfold accV
  have m1 : (ad % 4 != 0) = false := by simpa using hm
  clear hm
  go_wp2_with (first
    | (refine wpList_store_row rfl 37 (.tmp 10) (.tmp 26) rfl w3.heap.size (acells ⟨kd, ad, 4, v, o, q, r⟩).toArray rfl rfl 37 azero (heap_alloc_new _ _) (by kernel_rfl) (by kernel_rfl) (by kernel_rfl) ?_; rw [← HW4.out])
    | (refine wpList_store_row rfl 37 (.tmp 6) (.tmp 53) rfl (w.heap.size + 1) (acells A0).toArray rfl rfl 37 azero P1.out (by kernel_rfl) (by kernel_rfl) (by kernel_rfl) ?_))
  refine bodyPost_ret (v := .tuple #[.agg (acells A0).toArray, .int .i64 4]) ?_ rfl ⟨rfl, ?_⟩
  · exact results_row2 (fn := Tryz.f16) rfl _ _ (w.heap.size + 1) 37 (acells A0).toArray (0, 0) _ rfl HR.out Tryz.underlying37 rfl (by kernel_rfl)
  · exact below_setRow B4.out (by omega)
set_option maxRecDepth 100000 in
set_option maxHeartbeats 4000000 in
theorem ract_acc1 (h : H) (i : I) (x size : Int) (hz : -9223372036854775808 ≤ size ∧ size ≤ 9223372036854775807) (K : HIOk h i) (n39 : i.op ≠ 39) (kd ad v o : Int) (q r : Bool) (had : 0 ≤ ad ∧ ad ≤ 4294967295)
    (hD : ∀ w, Calls Tryz.prog 34 #[.int .u32 x] w fun e w' => e = .returned (.tuple #[instV i, .bool true]) ∧ Below w.heap.size w w')
    (hA : ∀ w, Calls Tryz.prog 35 #[hartV h, instV i] w fun e w' => e = .returned (accV ⟨kd, ad, 1, v, o, q, r⟩) ∧ Below w.heap.size w w') (hm : ad % 1 = 0) (ho : ad + 1 ≤ size) (n3 : i.op ≠ 3 ∧ i.op ≠ 4) (ht : taken i.op (h.R i.rs1) (h.R i.rs2) = false) (w : World) :
    Calls Tryz.prog 16 #[hartV h, .int .u32 x, .int .i64 size] w fun e w' => e = .returned (.tuple #[accV ⟨kd, ad, 1, v, o, q, r⟩, .int .i64 0]) ∧ Below w.heap.size w w' := by
  have HD := Lib.hid hD; have HA := Lib.hid hA; clear hD hA
  have m39 : ((i.op : Int) == 39) = false := beq_eq_false_iff_ne.2 (by omega)
  clear n39
  unfold hartV
  go_enter Tryz.func16, Tryz.ntmps16
  go_wp2_with fail
  refine (HD.out _).mono ?_
  rintro e w1 ⟨rfl, hb⟩
  have r0 : w1.heap[w.heap.size]? = some (.cells (hcells h).toArray 26) := (hb.block w.heap.size (by simp only [World.size_alloc]; omega)).trans (heap_b2r w _ _).1
  have r1 : w1.heap[w.heap.size + 1]? = some (.cells azero 37) := (hb.block (w.heap.size + 1) (by simp only [World.size_alloc]; omega)).trans (heap_b2r w _ _).2
  have b1 : Below w.heap.size w w1 := (((Below.refl w.heap.size w).alloc (Nat.le_refl _) _).alloc (by simp only [World.size_alloc]; omega) _).trans (hb.mono (by simp only [World.size_alloc]; omega))
  have z1 : w.heap.size + 2 ≤ w1.heap.size := by have := hb.size; simp only [World.size_alloc] at this; omega
  clear hb
  obtain ⟨W2, hW2⟩ : ∃ W2, W2 = (w1.alloc (.cells izero 85)).setRow w1.heap.size (icells i).toArray := ⟨_, rfl⟩
  have old : ∀ k, k < w1.heap.size → W2.heap[k]? = w1.heap[k]? := fun k hk => by rw [hW2]; exact (setRow_other _ _ _ _ (by omega)).trans (Below.heap_alloc _ _ _ hk)
  have q0 := (old w.heap.size (by omega)).trans r0
  have q1 := (old (w.heap.size + 1) (by omega)).trans r1
  have q4 : W2.heap[w1.heap.size]? = some (.cells (icells i).toArray 85) := by rw [hW2]; exact setRow_heap _ _ _ _ _ _ (heap_alloc_new _ _)
  have b2 : Below w.heap.size w W2 := by rw [hW2]; exact below_setRow (b1.alloc b1.size _) b1.size
  have z2 : W2.heap.size = w1.heap.size + 1 := by rw [hW2]; simp
  have c0 : W2.cell? ⟨w1.heap.size, 0, none⟩ = some (.int .i64 i.op) := by rw [cell_of_row W2 _ 0 _ _ _ q4]; rfl
  have Q0 := Lib.hid q0; have Q1 := Lib.hid q1; have Q4 := Lib.hid q4; have B2 := Lib.hid b2; have Z2 := Lib.hid z2; have Z1 := Lib.hid z1; have HW2 := Lib.hid hW2
  clear r0 r1 b1 z1 old q0 q1 q4 b2 z2 hW2
  unfold instV
  go_wp2_with (first
    | (refine wpList_store_row rfl 85 (.tmp 8) (.tmp 15) rfl w1.heap.size (icells i).toArray rfl rfl 85 izero (heap_alloc_new _ _) (by kernel_rfl) (by kernel_rfl) (by kernel_rfl) ?_; rw [← HW2.out])
    | (refine wpList_load_row rfl 26 (.tmp 3) rfl w.heap.size rfl 26 (hcells h).toArray (0, 0) _ Q0.out Tryz.underlying26 rfl (by kernel_rfl) ?_)
    | (refine wpList_load_row rfl 85 (.tmp 8) rfl w1.heap.size rfl 85 (icells i).toArray (0, 0) _ Q4.out Tryz.underlying85 rfl (by kernel_rfl) ?_))
  refine (HA.out _).mono ?_
  rintro e w3 ⟨rfl, hb⟩
  clear c0
  obtain ⟨W4, hW4⟩ : ∃ W4, W4 = (w3.alloc (.cells azero 37)).setRow w3.heap.size (acells ⟨kd, ad, 1, v, o, q, r⟩).toArray := ⟨_, rfl⟩
  have old : ∀ k, k < W2.heap.size → W4.heap[k]? = W2.heap[k]? := fun k hk => by rw [hW4]; exact (setRow_other _ _ _ _ (by have := hb.size; omega)).trans ((Below.heap_alloc _ _ _ (by have := hb.size; omega)).trans (hb.block k hk))
  have q0 := (old w.heap.size (by have := Z1.out; have := Z2.out; omega)).trans Q0.out
  have q1 := (old (w.heap.size + 1) (by have := Z1.out; have := Z2.out; omega)).trans Q1.out
  have q4 := (old w1.heap.size (by have := Z2.out; omega)).trans Q4.out
  have q5 : W4.heap[w3.heap.size]? = some (.cells (acells ⟨kd, ad, 1, v, o, q, r⟩).toArray 37) := by rw [hW4]; exact setRow_heap _ _ _ _ _ _ (heap_alloc_new _ _)
  have b3 : Below w.heap.size w w3 := B2.out.trans (hb.mono B2.out.size)
  have b4 : Below w.heap.size w W4 := by rw [hW4]; exact below_setRow (b3.alloc b3.size _) b3.size
  have c0 : W4.cell? ⟨w1.heap.size, 0, none⟩ = some (.int .i64 i.op) := by rw [cell_of_row W4 _ 0 _ _ _ q4]; rfl
  have a1 : W4.cell? ⟨w3.heap.size, 1, none⟩ = some (.int .u32 ad) := by rw [cell_of_row W4 _ 1 _ _ _ q5]; rfl
  have a2 : W4.cell? ⟨w3.heap.size, 2, none⟩ = some (.int .i64 1) := by rw [cell_of_row W4 _ 2 _ _ _ q5]; rfl
  have hr1 := hc h i.rs1 K.rs1
  have hr2 := hc h i.rs2 K.rs2
  have b1 : (i.rs1 : Int) < 32 := by have := K.rs1; omega
  have b2 : (i.rs2 : Int) < 32 := by have := K.rs2; omega
  have e0 : ∀ z : Og.On W4.heap.size W4, z.x.cell? ⟨w1.heap.size, 0, none⟩ = some (.int .i64 i.op) := fun z => Og.cellB z c0
  have e2 : ∀ z : Og.On W4.heap.size W4, z.x.cell? ⟨w1.heap.size, 2, none⟩ = some (.int .i64 i.rs1) := fun z => Og.cellB z (by rw [cell_of_row W4 _ 2 _ _ _ q4]; rfl)
  have e3 : ∀ z : Og.On W4.heap.size W4, z.x.cell? ⟨w1.heap.size, 3, none⟩ = some (.int .i64 i.rs2) := fun z => Og.cellB z (by rw [cell_of_row W4 _ 3 _ _ _ q4]; rfl)
  have g1 : ∀ z : Og.On W4.heap.size W4, z.x.cell? ⟨w.heap.size, 2 + i.rs1, none⟩ = some (.int .u32 (h.R i.rs1)) := fun z => Og.cellB z (by rw [cell_of_row W4 _ _ _ _ _ q0]; simpa using hr1)
  have g2 : ∀ z : Og.On W4.heap.size W4, z.x.cell? ⟨w.heap.size, 2 + i.rs2, none⟩ = some (.int .u32 (h.R i.rs2)) := fun z => Og.cellB z (by rw [cell_of_row W4 _ _ _ _ _ q0]; simpa using hr2)
  have l0 : ∀ z : Og.On W4.heap.size W4, (loadVar 26 ⟨w.heap.size, 0, none⟩).run Tryz.prog z.x = .ok (.agg (hcells h).toArray) z.x := fun z => Og.rowB z 26 _ q0 Tryz.underlying26 rfl (by kernel_rfl)
  have l4 : ∀ z : Og.On W4.heap.size W4, (loadVar 85 ⟨w1.heap.size, 0, none⟩).run Tryz.prog z.x = .ok (.agg (icells i).toArray) z.x := fun z => Og.rowB z 85 _ q4 Tryz.underlying85 rfl (by kernel_rfl)
  clear hr1 hr2
  have hr := setRow_heap W4 (w.heap.size + 1) azero (acells ⟨kd, ad, 1, v, o, q, r⟩).toArray 37 (0, 0) q1
  have P0 := Lib.hid q0; have P1 := Lib.hid q1; have P4 := Lib.hid q4; have P5 := Lib.hid q5; have B4 := Lib.hid b4; have HW4 := Lib.hid hW4; have HR := Lib.hid hr
  clear Q0 Q1 Q4 B2 Z2 HW2 hb old q0 q1 q4 q5 b3 b4 hW4 hr
  unfold accV
  have m1 : (ad % 1 != 0) = false := by simp
  clear hm
  have m3 : ((i.op : Int) == 3) = false := beq_eq_false_iff_ne.2 (by omega)
  have m4 : ((i.op : Int) == 4) = false := beq_eq_false_iff_ne.2 (by omega)
  clear n3
  go_wp2_with (have hx := HW4.out; clear HW4; refine wpList_store_row rfl 37 (.tmp 10) (.tmp 26) rfl w3.heap.size (acells ⟨kd, ad, 1, v, o, q, r⟩).toArray rfl rfl 37 azero (heap_alloc_new _ _) (by kernel_rfl) (by kernel_rfl) (by kernel_rfl) ?_; rw [← hx]; clear hx)
  refine Og.regionB (by kernel_rfl) (by kernel_rfl) ?_
  repeat (first
    | go_big_quiet_skip
    | (go_big_quiet_want
       first
        | (refine Og.quiet_load 26 (.tmp 3) rfl (.agg (hcells h).toArray) ⟨w.heap.size, 0, none⟩ _ rfl (by rintro _ ⟨z, rfl⟩; exact l0 z) (by simp only [Act.put, List.setIfInBounds_toArray, List.set_cons_zero, List.set_cons_succ]; rfl) ?_
           go_big_quiet_on)
        | (refine Og.quiet_load 85 (.tmp 8) rfl (.agg (icells i).toArray) ⟨w1.heap.size, 0, none⟩ _ rfl (by rintro _ ⟨z, rfl⟩; exact l4 z) (by simp only [Act.put, List.setIfInBounds_toArray, List.set_cons_zero, List.set_cons_succ]; rfl) ?_
           go_big_quiet_on)
        | (go_big_quiet_op
           first
            | go_big_quiet_on
            | (apply Exists.intro
               refine ⟨fun z => ?_, ?_⟩
               · first
                  | (go_at_call 36; exact Og.callS (rtaken_any i.op _ _ (K.R _) (K.R _) _))
                  | (go_at_call 37; exact Og.callB (rnext_any h i K _))
               go_big_quiet_on))))
  refine wpQuiet_nil ?_
  intro _ hw'
  obtain ⟨q9, hw''⟩ := hw'
  subst hw''

  have Q1 := Lib.hid ((q9.b.block (w.heap.size + 1) (Array.getElem?_eq_some_iff.1 P1.out).1).trans P1.out)
  have Q5 := Lib.hid ((q9.b.block w3.heap.size (Array.getElem?_eq_some_iff.1 P5.out).1).trans P5.out)
  go_wp2_with (first
    | (refine wpList_load_row rfl 37 (.tmp 10) rfl w3.heap.size rfl 37 (acells ⟨kd, ad, 1, v, o, q, r⟩).toArray (0, 0) _ Q5.out Tryz.underlying37 rfl (by kernel_rfl) ?_)
    | (refine wpList_store_row rfl 37 (.tmp 6) (.tmp 84) rfl (w.heap.size + 1) (acells ⟨kd, ad, 1, v, o, q, r⟩).toArray rfl rfl 37 azero Q1.out (by kernel_rfl) (by kernel_rfl) (by kernel_rfl) ?_))
  refine bodyPost_ret (v := .tuple #[.agg (acells ⟨kd, ad, 1, v, o, q, r⟩).toArray, .int .i64 0]) ?_ rfl ⟨rfl, ?_⟩
  · exact results_row2 (fn := Tryz.f16) rfl _ _ (w.heap.size + 1) 37 (acells ⟨kd, ad, 1, v, o, q, r⟩).toArray (0, 0) _ rfl (setRow_heap q9.x (w.heap.size + 1) azero (acells ⟨kd, ad, 1, v, o, q, r⟩).toArray 37 (0, 0) Q1.out) Tryz.underlying37 rfl (by kernel_rfl)
  · exact below_setRow (B4.out.trans (q9.b.mono B4.out.size)) (by omega)
set_option maxRecDepth 100000 in
set_option maxHeartbeats 4000000 in
theorem ract_acc2 (h : H) (i : I) (x size : Int) (hz : -9223372036854775808 ≤ size ∧ size ≤ 9223372036854775807) (K : HIOk h i) (n39 : i.op ≠ 39) (kd ad v o : Int) (q r : Bool) (had : 0 ≤ ad ∧ ad ≤ 4294967295)
    (hD : ∀ w, Calls Tryz.prog 34 #[.int .u32 x] w fun e w' => e = .returned (.tuple #[instV i, .bool true]) ∧ Below w.heap.size w w')
    (hA : ∀ w, Calls Tryz.prog 35 #[hartV h, instV i] w fun e w' => e = .returned (accV ⟨kd, ad, 2, v, o, q, r⟩) ∧ Below w.heap.size w w') (hm : ad % 2 = 0) (ho : ad + 2 ≤ size) (n3 : i.op ≠ 3 ∧ i.op ≠ 4) (ht : taken i.op (h.R i.rs1) (h.R i.rs2) = false) (w : World) :
    Calls Tryz.prog 16 #[hartV h, .int .u32 x, .int .i64 size] w fun e w' => e = .returned (.tuple #[accV ⟨kd, ad, 2, v, o, q, r⟩, .int .i64 0]) ∧ Below w.heap.size w w' := by
  have HD := Lib.hid hD; have HA := Lib.hid hA; clear hD hA
  have m39 : ((i.op : Int) == 39) = false := beq_eq_false_iff_ne.2 (by omega)
  clear n39
  unfold hartV
  go_enter Tryz.func16, Tryz.ntmps16
  go_wp2_with fail
  refine (HD.out _).mono ?_
  rintro e w1 ⟨rfl, hb⟩
  have r0 : w1.heap[w.heap.size]? = some (.cells (hcells h).toArray 26) := (hb.block w.heap.size (by simp only [World.size_alloc]; omega)).trans (heap_b2r w _ _).1
  have r1 : w1.heap[w.heap.size + 1]? = some (.cells azero 37) := (hb.block (w.heap.size + 1) (by simp only [World.size_alloc]; omega)).trans (heap_b2r w _ _).2
  have b1 : Below w.heap.size w w1 := (((Below.refl w.heap.size w).alloc (Nat.le_refl _) _).alloc (by simp only [World.size_alloc]; omega) _).trans (hb.mono (by simp only [World.size_alloc]; omega))
  have z1 : w.heap.size + 2 ≤ w1.heap.size := by have := hb.size; simp only [World.size_alloc] at this; omega
  clear hb
  obtain ⟨W2, hW2⟩ : ∃ W2, W2 = (w1.alloc (.cells izero 85)).setRow w1.heap.size (icells i).toArray := ⟨_, rfl⟩
  have old : ∀ k, k < w1.heap.size → W2.heap[k]? = w1.heap[k]? := fun k hk => by rw [hW2]; exact (setRow_other _ _ _ _ (by omega)).trans (Below.heap_alloc _ _ _ hk)
  have q0 := (old w.heap.size (by omega)).trans r0
  have q1 := (old (w.heap.size + 1) (by omega)).trans r1
  have q4 : W2.heap[w1.heap.size]? = some (.cells (icells i).toArray 85) := by rw [hW2]; exact setRow_heap _ _ _ _ _ _ (heap_alloc_new _ _)
  have b2 : Below w.heap.size w W2 := by rw [hW2]; exact below_setRow (b1.alloc b1.size _) b1.size
  have z2 : W2.heap.size = w1.heap.size + 1 := by rw [hW2]; simp
  have c0 : W2.cell? ⟨w1.heap.size, 0, none⟩ = some (.int .i64 i.op) := by rw [cell_of_row W2 _ 0 _ _ _ q4]; rfl
  have Q0 := Lib.hid q0; have Q1 := Lib.hid q1; have Q4 := Lib.hid q4; have B2 := Lib.hid b2; have Z2 := Lib.hid z2; have Z1 := Lib.hid z1; have HW2 := Lib.hid hW2
  clear r0 r1 b1 z1 old q0 q1 q4 b2 z2 hW2
  unfold instV
  go_wp2_with (first
    | (refine wpList_store_row rfl 85 (.tmp 8) (.tmp 15) rfl w1.heap.size (icells i).toArray rfl rfl 85 izero (heap_alloc_new _ _) (by kernel_rfl) (by kernel_rfl) (by kernel_rfl) ?_; rw [← HW2.out])
    | (refine wpList_load_row rfl 26 (.tmp 3) rfl w.heap.size rfl 26 (hcells h).toArray (0, 0) _ Q0.out Tryz.underlying26 rfl (by kernel_rfl) ?_)
    | (refine wpList_load_row rfl 85 (.tmp 8) rfl w1.heap.size rfl 85 (icells i).toArray (0, 0) _ Q4.out Tryz.underlying85 rfl (by kernel_rfl) ?_))
  refine (HA.out _).mono ?_
  rintro e w3 ⟨rfl, hb⟩
  clear c0
  obtain ⟨W4, hW4⟩ : ∃ W4, W4 = (w3.alloc (.cells azero 37)).setRow w3.heap.size (acells ⟨kd, ad, 2, v, o, q, r⟩).toArray := ⟨_, rfl⟩
  have old : ∀ k, k < W2.heap.size → W4.heap[k]? = W2.heap[k]? := fun k hk => by rw [hW4]; exact (setRow_other _ _ _ _ (by have := hb.size; omega)).trans ((Below.heap_alloc _ _ _ (by have := hb.size; omega)).trans (hb.block k hk))
  have q0 := (old w.heap.size (by have := Z1.out; have := Z2.out; omega)).trans Q0.out
  have q1 := (old (w.heap.size + 1) (by have := Z1.out; have := Z2.out; omega)).trans Q1.out
  have q4 := (old w1.heap.size (by have := Z2.out; omega)).trans Q4.out
  have q5 : W4.heap[w3.heap.size]? = some (.cells (acells ⟨kd, ad, 2, v, o, q, r⟩).toArray 37) := by rw [hW4]; exact setRow_heap _ _ _ _ _ _ (heap_alloc_new _ _)
  have b3 : Below w.heap.size w w3 := B2.out.trans (hb.mono B2.out.size)
  have b4 : Below w.heap.size w W4 := by rw [hW4]; exact below_setRow (b3.alloc b3.size _) b3.size
  have c0 : W4.cell? ⟨w1.heap.size, 0, none⟩ = some (.int .i64 i.op) := by rw [cell_of_row W4 _ 0 _ _ _ q4]; rfl
  have a1 : W4.cell? ⟨w3.heap.size, 1, none⟩ = some (.int .u32 ad) := by rw [cell_of_row W4 _ 1 _ _ _ q5]; rfl
  have a2 : W4.cell? ⟨w3.heap.size, 2, none⟩ = some (.int .i64 2) := by rw [cell_of_row W4 _ 2 _ _ _ q5]; rfl
  have hr1 := hc h i.rs1 K.rs1
  have hr2 := hc h i.rs2 K.rs2
  have b1 : (i.rs1 : Int) < 32 := by have := K.rs1; omega
  have b2 : (i.rs2 : Int) < 32 := by have := K.rs2; omega
  have e0 : ∀ z : Og.On W4.heap.size W4, z.x.cell? ⟨w1.heap.size, 0, none⟩ = some (.int .i64 i.op) := fun z => Og.cellB z c0
  have e2 : ∀ z : Og.On W4.heap.size W4, z.x.cell? ⟨w1.heap.size, 2, none⟩ = some (.int .i64 i.rs1) := fun z => Og.cellB z (by rw [cell_of_row W4 _ 2 _ _ _ q4]; rfl)
  have e3 : ∀ z : Og.On W4.heap.size W4, z.x.cell? ⟨w1.heap.size, 3, none⟩ = some (.int .i64 i.rs2) := fun z => Og.cellB z (by rw [cell_of_row W4 _ 3 _ _ _ q4]; rfl)
  have g1 : ∀ z : Og.On W4.heap.size W4, z.x.cell? ⟨w.heap.size, 2 + i.rs1, none⟩ = some (.int .u32 (h.R i.rs1)) := fun z => Og.cellB z (by rw [cell_of_row W4 _ _ _ _ _ q0]; simpa using hr1)
  have g2 : ∀ z : Og.On W4.heap.size W4, z.x.cell? ⟨w.heap.size, 2 + i.rs2, none⟩ = some (.int .u32 (h.R i.rs2)) := fun z => Og.cellB z (by rw [cell_of_row W4 _ _ _ _ _ q0]; simpa using hr2)
  have l0 : ∀ z : Og.On W4.heap.size W4, (loadVar 26 ⟨w.heap.size, 0, none⟩).run Tryz.prog z.x = .ok (.agg (hcells h).toArray) z.x := fun z => Og.rowB z 26 _ q0 Tryz.underlying26 rfl (by kernel_rfl)
  have l4 : ∀ z : Og.On W4.heap.size W4, (loadVar 85 ⟨w1.heap.size, 0, none⟩).run Tryz.prog z.x = .ok (.agg (icells i).toArray) z.x := fun z => Og.rowB z 85 _ q4 Tryz.underlying85 rfl (by kernel_rfl)
  clear hr1 hr2
  have hr := setRow_heap W4 (w.heap.size + 1) azero (acells ⟨kd, ad, 2, v, o, q, r⟩).toArray 37 (0, 0) q1
  have P0 := Lib.hid q0; have P1 := Lib.hid q1; have P4 := Lib.hid q4; have P5 := Lib.hid q5; have B4 := Lib.hid b4; have HW4 := Lib.hid hW4; have HR := Lib.hid hr
  clear Q0 Q1 Q4 B2 Z2 HW2 hb old q0 q1 q4 q5 b3 b4 hW4 hr
  unfold accV
  have m1 : (ad % 2 != 0) = false := by simpa using hm
  clear hm
  have m3 : ((i.op : Int) == 3) = false := beq_eq_false_iff_ne.2 (by omega)
  have m4 : ((i.op : Int) == 4) = false := beq_eq_false_iff_ne.2 (by omega)
  clear n3
  go_wp2_with (have hx := HW4.out; clear HW4; refine wpList_store_row rfl 37 (.tmp 10) (.tmp 26) rfl w3.heap.size (acells ⟨kd, ad, 2, v, o, q, r⟩).toArray rfl rfl 37 azero (heap_alloc_new _ _) (by kernel_rfl) (by kernel_rfl) (by kernel_rfl) ?_; rw [← hx]; clear hx)
  refine Og.regionB (by kernel_rfl) (by kernel_rfl) ?_
  repeat (first
    | go_big_quiet_skip
    | (go_big_quiet_want
       first
        | (refine Og.quiet_load 26 (.tmp 3) rfl (.agg (hcells h).toArray) ⟨w.heap.size, 0, none⟩ _ rfl (by rintro _ ⟨z, rfl⟩; exact l0 z) (by simp only [Act.put, List.setIfInBounds_toArray, List.set_cons_zero, List.set_cons_succ]; rfl) ?_
           go_big_quiet_on)
        | (refine Og.quiet_load 85 (.tmp 8) rfl (.agg (icells i).toArray) ⟨w1.heap.size, 0, none⟩ _ rfl (by rintro _ ⟨z, rfl⟩; exact l4 z) (by simp only [Act.put, List.setIfInBounds_toArray, List.set_cons_zero, List.set_cons_succ]; rfl) ?_
           go_big_quiet_on)
        | (go_big_quiet_op
           first
            | go_big_quiet_on
            | (apply Exists.intro
               refine ⟨fun z => ?_, ?_⟩
               · first
                  | (go_at_call 36; exact Og.callS (rtaken_any i.op _ _ (K.R _) (K.R _) _))
                  | (go_at_call 37; exact Og.callB (rnext_any h i K _))
               go_big_quiet_on))))
  refine wpQuiet_nil ?_
  intro _ hw'
  obtain ⟨q9, hw''⟩ := hw'
  subst hw''

  have Q1 := Lib.hid ((q9.b.block (w.heap.size + 1) (Array.getElem?_eq_some_iff.1 P1.out).1).trans P1.out)
  have Q5 := Lib.hid ((q9.b.block w3.heap.size (Array.getElem?_eq_some_iff.1 P5.out).1).trans P5.out)
  go_wp2_with (first
    | (refine wpList_load_row rfl 37 (.tmp 10) rfl w3.heap.size rfl 37 (acells ⟨kd, ad, 2, v, o, q, r⟩).toArray (0, 0) _ Q5.out Tryz.underlying37 rfl (by kernel_rfl) ?_)
    | (refine wpList_store_row rfl 37 (.tmp 6) (.tmp 84) rfl (w.heap.size + 1) (acells ⟨kd, ad, 2, v, o, q, r⟩).toArray rfl rfl 37 azero Q1.out (by kernel_rfl) (by kernel_rfl) (by kernel_rfl) ?_))
  refine bodyPost_ret (v := .tuple #[.agg (acells ⟨kd, ad, 2, v, o, q, r⟩).toArray, .int .i64 0]) ?_ rfl ⟨rfl, ?_⟩
  · exact results_row2 (fn := Tryz.f16) rfl _ _ (w.heap.size + 1) 37 (acells ⟨kd, ad, 2, v, o, q, r⟩).toArray (0, 0) _ rfl (setRow_heap q9.x (w.heap.size + 1) azero (acells ⟨kd, ad, 2, v, o, q, r⟩).toArray 37 (0, 0) Q1.out) Tryz.underlying37 rfl (by kernel_rfl)
  · exact below_setRow (B4.out.trans (q9.b.mono B4.out.size)) (by omega)
set_option maxRecDepth 100000 in
set_option maxHeartbeats 4000000 in
theorem ract_acc4 (h : H) (i : I) (x size : Int) (hz : -9223372036854775808 ≤ size ∧ size ≤ 9223372036854775807) (K : HIOk h i) (n39 : i.op ≠ 39) (kd ad v o : Int) (q r : Bool) (had : 0 ≤ ad ∧ ad ≤ 4294967295)
    (hD : ∀ w, Calls Tryz.prog 34 #[.int .u32 x] w fun e w' => e = .returned (.tuple #[instV i, .bool true]) ∧ Below w.heap.size w w')
    (hA : ∀ w, Calls Tryz.prog 35 #[hartV h, instV i] w fun e w' => e = .returned (accV ⟨kd, ad, 4, v, o, q, r⟩) ∧ Below w.heap.size w w') (hm : ad % 4 = 0) (ho : ad + 4 ≤ size) (n3 : i.op ≠ 3 ∧ i.op ≠ 4) (ht : taken i.op (h.R i.rs1) (h.R i.rs2) = false) (w : World) :
    Calls Tryz.prog 16 #[hartV h, .int .u32 x, .int .i64 size] w fun e w' => e = .returned (.tuple #[accV ⟨kd, ad, 4, v, o, q, r⟩, .int .i64 0]) ∧ Below w.heap.size w w' := by
  have HD := Lib.hid hD; have HA := Lib.hid hA; clear hD hA
  have m39 : ((i.op : Int) == 39) = false := beq_eq_false_iff_ne.2 (by omega)
  clear n39
  unfold hartV
  go_enter Tryz.func16, Tryz.ntmps16
  go_wp2_with fail
  refine (HD.out _).mono ?_
  rintro e w1 ⟨rfl, hb⟩
  have r0 : w1.heap[w.heap.size]? = some (.cells (hcells h).toArray 26) := (hb.block w.heap.size (by simp only [World.size_alloc]; omega)).trans (heap_b2r w _ _).1
  have r1 : w1.heap[w.heap.size + 1]? = some (.cells azero 37) := (hb.block (w.heap.size + 1) (by simp only [World.size_alloc]; omega)).trans (heap_b2r w _ _).2
  have b1 : Below w.heap.size w w1 := (((Below.refl w.heap.size w).alloc (Nat.le_refl _) _).alloc (by simp only [World.size_alloc]; omega) _).trans (hb.mono (by simp only [World.size_alloc]; omega))
  have z1 : w.heap.size + 2 ≤ w1.heap.size := by have := hb.size; simp only [World.size_alloc] at this; omega
  clear hb
  obtain ⟨W2, hW2⟩ : ∃ W2, W2 = (w1.alloc (.cells izero 85)).setRow w1.heap.size (icells i).toArray := ⟨_, rfl⟩
  have old : ∀ k, k < w1.heap.size → W2.heap[k]? = w1.heap[k]? := fun k hk => by rw [hW2]; exact (setRow_other _ _ _ _ (by omega)).trans (Below.heap_alloc _ _ _ hk)
  have q0 := (old w.heap.size (by omega)).trans r0
  have q1 := (old (w.heap.size + 1) (by omega)).trans r1
  have q4 : W2.heap[w1.heap.size]? = some (.cells (icells i).toArray 85) := by rw [hW2]; exact setRow_heap _ _ _ _ _ _ (heap_alloc_new _ _)
  have b2 : Below w.heap.size w W2 := by rw [hW2]; exact below_setRow (b1.alloc b1.size _) b1.size
  have z2 : W2.heap.size = w1.heap.size + 1 := by rw [hW2]; simp
  have c0 : W2.cell? ⟨w1.heap.size, 0, none⟩ = some (.int .i64 i.op) := by rw [cell_of_row W2 _ 0 _ _ _ q4]; rfl
  have Q0 := Lib.hid q0; have Q1 := Lib.hid q1; have Q4 := Lib.hid q4; have B2 := Lib.hid b2; have Z2 := Lib.hid z2; have Z1 := Lib.hid z1; have HW2 := Lib.hid hW2
  clear r0 r1 b1 z1 old q0 q1 q4 b2 z2 hW2
  unfold instV
  go_wp2_with (first
    | (refine wpList_store_row rfl 85 (.tmp 8) (.tmp 15) rfl w1.heap.size (icells i).toArray rfl rfl 85 izero (heap_alloc_new _ _) (by kernel_rfl) (by kernel_rfl) (by kernel_rfl) ?_; rw [← HW2.out])
    | (refine wpList_load_row rfl 26 (.tmp 3) rfl w.heap.size rfl 26 (hcells h).toArray (0, 0) _ Q0.out Tryz.underlying26 rfl (by kernel_rfl) ?_)
    | (refine wpList_load_row rfl 85 (.tmp 8) rfl w1.heap.size rfl 85 (icells i).toArray (0, 0) _ Q4.out Tryz.underlying85 rfl (by kernel_rfl) ?_))
  refine (HA.out _).mono ?_
  rintro e w3 ⟨rfl, hb⟩
  clear c0
  obtain ⟨W4, hW4⟩ : ∃ W4, W4 = (w3.alloc (.cells azero 37)).setRow w3.heap.size (acells ⟨kd, ad, 4, v, o, q, r⟩).toArray := ⟨_, rfl⟩
  have old : ∀ k, k < W2.heap.size → W4.heap[k]? = W2.heap[k]? := fun k hk => by rw [hW4]; exact (setRow_other _ _ _ _ (by have := hb.size; omega)).trans ((Below.heap_alloc _ _ _ (by have := hb.size; omega)).trans (hb.block k hk))
  have q0 := (old w.heap.size (by have := Z1.out; have := Z2.out; omega)).trans Q0.out
  have q1 := (old (w.heap.size + 1) (by have := Z1.out; have := Z2.out; omega)).trans Q1.out
  have q4 := (old w1.heap.size (by have := Z2.out; omega)).trans Q4.out
  have q5 : W4.heap[w3.heap.size]? = some (.cells (acells ⟨kd, ad, 4, v, o, q, r⟩).toArray 37) := by rw [hW4]; exact setRow_heap _ _ _ _ _ _ (heap_alloc_new _ _)
  have b3 : Below w.heap.size w w3 := B2.out.trans (hb.mono B2.out.size)
  have b4 : Below w.heap.size w W4 := by rw [hW4]; exact below_setRow (b3.alloc b3.size _) b3.size
  have c0 : W4.cell? ⟨w1.heap.size, 0, none⟩ = some (.int .i64 i.op) := by rw [cell_of_row W4 _ 0 _ _ _ q4]; rfl
  have a1 : W4.cell? ⟨w3.heap.size, 1, none⟩ = some (.int .u32 ad) := by rw [cell_of_row W4 _ 1 _ _ _ q5]; rfl
  have a2 : W4.cell? ⟨w3.heap.size, 2, none⟩ = some (.int .i64 4) := by rw [cell_of_row W4 _ 2 _ _ _ q5]; rfl
  have hr1 := hc h i.rs1 K.rs1
  have hr2 := hc h i.rs2 K.rs2
  have b1 : (i.rs1 : Int) < 32 := by have := K.rs1; omega
  have b2 : (i.rs2 : Int) < 32 := by have := K.rs2; omega
  have e0 : ∀ z : Og.On W4.heap.size W4, z.x.cell? ⟨w1.heap.size, 0, none⟩ = some (.int .i64 i.op) := fun z => Og.cellB z c0
  have e2 : ∀ z : Og.On W4.heap.size W4, z.x.cell? ⟨w1.heap.size, 2, none⟩ = some (.int .i64 i.rs1) := fun z => Og.cellB z (by rw [cell_of_row W4 _ 2 _ _ _ q4]; rfl)
  have e3 : ∀ z : Og.On W4.heap.size W4, z.x.cell? ⟨w1.heap.size, 3, none⟩ = some (.int .i64 i.rs2) := fun z => Og.cellB z (by rw [cell_of_row W4 _ 3 _ _ _ q4]; rfl)
  have g1 : ∀ z : Og.On W4.heap.size W4, z.x.cell? ⟨w.heap.size, 2 + i.rs1, none⟩ = some (.int .u32 (h.R i.rs1)) := fun z => Og.cellB z (by rw [cell_of_row W4 _ _ _ _ _ q0]; simpa using hr1)
  have g2 : ∀ z : Og.On W4.heap.size W4, z.x.cell? ⟨w.heap.size, 2 + i.rs2, none⟩ = some (.int .u32 (h.R i.rs2)) := fun z => Og.cellB z (by rw [cell_of_row W4 _ _ _ _ _ q0]; simpa using hr2)
  have l0 : ∀ z : Og.On W4.heap.size W4, (loadVar 26 ⟨w.heap.size, 0, none⟩).run Tryz.prog z.x = .ok (.agg (hcells h).toArray) z.x := fun z => Og.rowB z 26 _ q0 Tryz.underlying26 rfl (by kernel_rfl)
  have l4 : ∀ z : Og.On W4.heap.size W4, (loadVar 85 ⟨w1.heap.size, 0, none⟩).run Tryz.prog z.x = .ok (.agg (icells i).toArray) z.x := fun z => Og.rowB z 85 _ q4 Tryz.underlying85 rfl (by kernel_rfl)
  clear hr1 hr2
  have hr := setRow_heap W4 (w.heap.size + 1) azero (acells ⟨kd, ad, 4, v, o, q, r⟩).toArray 37 (0, 0) q1
  have P0 := Lib.hid q0; have P1 := Lib.hid q1; have P4 := Lib.hid q4; have P5 := Lib.hid q5; have B4 := Lib.hid b4; have HW4 := Lib.hid hW4; have HR := Lib.hid hr
  clear Q0 Q1 Q4 B2 Z2 HW2 hb old q0 q1 q4 q5 b3 b4 hW4 hr
  unfold accV
  have m1 : (ad % 4 != 0) = false := by simpa using hm
  clear hm
  have m3 : ((i.op : Int) == 3) = false := beq_eq_false_iff_ne.2 (by omega)
  have m4 : ((i.op : Int) == 4) = false := beq_eq_false_iff_ne.2 (by omega)
  clear n3
  go_wp2_with (have hx := HW4.out; clear HW4; refine wpList_store_row rfl 37 (.tmp 10) (.tmp 26) rfl w3.heap.size (acells ⟨kd, ad, 4, v, o, q, r⟩).toArray rfl rfl 37 azero (heap_alloc_new _ _) (by kernel_rfl) (by kernel_rfl) (by kernel_rfl) ?_; rw [← hx]; clear hx)
  refine Og.regionB (by kernel_rfl) (by kernel_rfl) ?_
  repeat (first
    | go_big_quiet_skip
    | (go_big_quiet_want
       first
        | (refine Og.quiet_load 26 (.tmp 3) rfl (.agg (hcells h).toArray) ⟨w.heap.size, 0, none⟩ _ rfl (by rintro _ ⟨z, rfl⟩; exact l0 z) (by simp only [Act.put, List.setIfInBounds_toArray, List.set_cons_zero, List.set_cons_succ]; rfl) ?_
           go_big_quiet_on)
        | (refine Og.quiet_load 85 (.tmp 8) rfl (.agg (icells i).toArray) ⟨w1.heap.size, 0, none⟩ _ rfl (by rintro _ ⟨z, rfl⟩; exact l4 z) (by simp only [Act.put, List.setIfInBounds_toArray, List.set_cons_zero, List.set_cons_succ]; rfl) ?_
           go_big_quiet_on)
        | (go_big_quiet_op
           first
            | go_big_quiet_on
            | (apply Exists.intro
               refine ⟨fun z => ?_, ?_⟩
               · first
                  | (go_at_call 36; exact Og.callS (rtaken_any i.op _ _ (K.R _) (K.R _) _))
                  | (go_at_call 37; exact Og.callB (rnext_any h i K _))
               go_big_quiet_on))))
  refine wpQuiet_nil ?_
  intro _ hw'
  obtain ⟨q9, hw''⟩ := hw'
  subst hw''

  have Q1 := Lib.hid ((q9.b.block (w.heap.size + 1) (Array.getElem?_eq_some_iff.1 P1.out).1).trans P1.out)
  have Q5 := Lib.hid ((q9.b.block w3.heap.size (Array.getElem?_eq_some_iff.1 P5.out).1).trans P5.out)
  go_wp2_with (first
    | (refine wpList_load_row rfl 37 (.tmp 10) rfl w3.heap.size rfl 37 (acells ⟨kd, ad, 4, v, o, q, r⟩).toArray (0, 0) _ Q5.out Tryz.underlying37 rfl (by kernel_rfl) ?_)
    | (refine wpList_store_row rfl 37 (.tmp 6) (.tmp 84) rfl (w.heap.size + 1) (acells ⟨kd, ad, 4, v, o, q, r⟩).toArray rfl rfl 37 azero Q1.out (by kernel_rfl) (by kernel_rfl) (by kernel_rfl) ?_))
  refine bodyPost_ret (v := .tuple #[.agg (acells ⟨kd, ad, 4, v, o, q, r⟩).toArray, .int .i64 0]) ?_ rfl ⟨rfl, ?_⟩
  · exact results_row2 (fn := Tryz.f16) rfl _ _ (w.heap.size + 1) 37 (acells ⟨kd, ad, 4, v, o, q, r⟩).toArray (0, 0) _ rfl (setRow_heap q9.x (w.heap.size + 1) azero (acells ⟨kd, ad, 4, v, o, q, r⟩).toArray 37 (0, 0) Q1.out) Tryz.underlying37 rfl (by kernel_rfl)
  · exact below_setRow (B4.out.trans (q9.b.mono B4.out.size)) (by omega)
end Go.Proofs.YtianojbdabeoeaaGreatDoor
end

section
namespace Go.Proofs.YtianojbdabeoeaaGreatDoor
open Go.RowKit Ht
set_option linter.unusedVariables false

set_option maxRecDepth 100000 in
set_option maxHeartbeats 4000000 in
theorem ract_plain (h : H) (i : I) (x size : Int) (hz : -9223372036854775808 ≤ size ∧ size ≤ 9223372036854775807) (K : HIOk h i) (n39 : i.op ≠ 39) (kd ad v o : Int) (q r : Bool) (had : 0 ≤ ad ∧ ad ≤ 4294967295)
    (hD : ∀ w, Calls Tryz.prog 34 #[.int .u32 x] w fun e w' => e = .returned (.tuple #[instV i, .bool true]) ∧ Below w.heap.size w w')
    (hA : ∀ w, Calls Tryz.prog 35 #[hartV h, instV i] w fun e w' => e = .returned (accV ⟨kd, ad, 0, v, o, q, r⟩) ∧ Below w.heap.size w w') (n3 : i.op ≠ 3 ∧ i.op ≠ 4) (ht : taken i.op (h.R i.rs1) (h.R i.rs2) = false) (w : World) :
    Calls Tryz.prog 16 #[hartV h, .int .u32 x, .int .i64 size] w fun e w' => e = .returned (.tuple #[accV ⟨kd, ad, 0, v, o, q, r⟩, .int .i64 0]) ∧ Below w.heap.size w w' := by
  have HD := Lib.hid hD; have HA := Lib.hid hA; clear hD hA
  have m39 : ((i.op : Int) == 39) = false := beq_eq_false_iff_ne.2 (by omega)
  clear n39
  unfold hartV
  go_enter Tryz.func16, Tryz.ntmps16
  go_wp2_with fail
  refine (HD.out _).mono ?_
  rintro e w1 ⟨rfl, hb⟩
  have r0 : w1.heap[w.heap.size]? = some (.cells (hcells h).toArray 26) := (hb.block w.heap.size (by simp only [World.size_alloc]; omega)).trans (heap_b2r w _ _).1
  have r1 : w1.heap[w.heap.size + 1]? = some (.cells azero 37) := (hb.block (w.heap.size + 1) (by simp only [World.size_alloc]; omega)).trans (heap_b2r w _ _).2
  have b1 : Below w.heap.size w w1 := (((Below.refl w.heap.size w).alloc (Nat.le_refl _) _).alloc (by simp only [World.size_alloc]; omega) _).trans (hb.mono (by simp only [World.size_alloc]; omega))
  have z1 : w.heap.size + 2 ≤ w1.heap.size := by have := hb.size; simp only [World.size_alloc] at this; omega
  clear hb
  obtain ⟨W2, hW2⟩ : ∃ W2, W2 = (w1.alloc (.cells izero 85)).setRow w1.heap.size (icells i).toArray := ⟨_, rfl⟩
  have old : ∀ k, k < w1.heap.size → W2.heap[k]? = w1.heap[k]? := fun k hk => by rw [hW2]; exact (setRow_other _ _ _ _ (by omega)).trans (Below.heap_alloc _ _ _ hk)
  have q0 := (old w.heap.size (by omega)).trans r0
  have q1 := (old (w.heap.size + 1) (by omega)).trans r1
  have q4 : W2.heap[w1.heap.size]? = some (.cells (icells i).toArray 85) := by rw [hW2]; exact setRow_heap _ _ _ _ _ _ (heap_alloc_new _ _)
  have b2 : Below w.heap.size w W2 := by rw [hW2]; exact below_setRow (b1.alloc b1.size _) b1.size
  have z2 : W2.heap.size = w1.heap.size + 1 := by rw [hW2]; simp
  have c0 : W2.cell? ⟨w1.heap.size, 0, none⟩ = some (.int .i64 i.op) := by rw [cell_of_row W2 _ 0 _ _ _ q4]; rfl
  have Q0 := Lib.hid q0; have Q1 := Lib.hid q1; have Q4 := Lib.hid q4; have B2 := Lib.hid b2; have Z2 := Lib.hid z2; have Z1 := Lib.hid z1; have HW2 := Lib.hid hW2
  clear r0 r1 b1 z1 old q0 q1 q4 b2 z2 hW2
  unfold instV
  go_wp2_with (first
    | (refine wpList_store_row rfl 85 (.tmp 8) (.tmp 15) rfl w1.heap.size (icells i).toArray rfl rfl 85 izero (heap_alloc_new _ _) (by kernel_rfl) (by kernel_rfl) (by kernel_rfl) ?_; rw [← HW2.out])
    | (refine wpList_load_row rfl 26 (.tmp 3) rfl w.heap.size rfl 26 (hcells h).toArray (0, 0) _ Q0.out Tryz.underlying26 rfl (by kernel_rfl) ?_)
    | (refine wpList_load_row rfl 85 (.tmp 8) rfl w1.heap.size rfl 85 (icells i).toArray (0, 0) _ Q4.out Tryz.underlying85 rfl (by kernel_rfl) ?_))
  refine (HA.out _).mono ?_
  rintro e w3 ⟨rfl, hb⟩
  clear c0
  obtain ⟨W4, hW4⟩ : ∃ W4, W4 = (w3.alloc (.cells azero 37)).setRow w3.heap.size (acells ⟨kd, ad, 0, v, o, q, r⟩).toArray := ⟨_, rfl⟩
  have old : ∀ k, k < W2.heap.size → W4.heap[k]? = W2.heap[k]? := fun k hk => by rw [hW4]; exact (setRow_other _ _ _ _ (by have := hb.size; omega)).trans ((Below.heap_alloc _ _ _ (by have := hb.size; omega)).trans (hb.block k hk))
  have q0 := (old w.heap.size (by have := Z1.out; have := Z2.out; omega)).trans Q0.out
  have q1 := (old (w.heap.size + 1) (by have := Z1.out; have := Z2.out; omega)).trans Q1.out
  have q4 := (old w1.heap.size (by have := Z2.out; omega)).trans Q4.out
  have q5 : W4.heap[w3.heap.size]? = some (.cells (acells ⟨kd, ad, 0, v, o, q, r⟩).toArray 37) := by rw [hW4]; exact setRow_heap _ _ _ _ _ _ (heap_alloc_new _ _)
  have b3 : Below w.heap.size w w3 := B2.out.trans (hb.mono B2.out.size)
  have b4 : Below w.heap.size w W4 := by rw [hW4]; exact below_setRow (b3.alloc b3.size _) b3.size
  have c0 : W4.cell? ⟨w1.heap.size, 0, none⟩ = some (.int .i64 i.op) := by rw [cell_of_row W4 _ 0 _ _ _ q4]; rfl
  have a1 : W4.cell? ⟨w3.heap.size, 1, none⟩ = some (.int .u32 ad) := by rw [cell_of_row W4 _ 1 _ _ _ q5]; rfl
  have a2 : W4.cell? ⟨w3.heap.size, 2, none⟩ = some (.int .i64 0) := by rw [cell_of_row W4 _ 2 _ _ _ q5]; rfl
  have hr1 := hc h i.rs1 K.rs1
  have hr2 := hc h i.rs2 K.rs2
  have b1 : (i.rs1 : Int) < 32 := by have := K.rs1; omega
  have b2 : (i.rs2 : Int) < 32 := by have := K.rs2; omega
  have e0 : ∀ z : Og.On W4.heap.size W4, z.x.cell? ⟨w1.heap.size, 0, none⟩ = some (.int .i64 i.op) := fun z => Og.cellB z c0
  have e2 : ∀ z : Og.On W4.heap.size W4, z.x.cell? ⟨w1.heap.size, 2, none⟩ = some (.int .i64 i.rs1) := fun z => Og.cellB z (by rw [cell_of_row W4 _ 2 _ _ _ q4]; rfl)
  have e3 : ∀ z : Og.On W4.heap.size W4, z.x.cell? ⟨w1.heap.size, 3, none⟩ = some (.int .i64 i.rs2) := fun z => Og.cellB z (by rw [cell_of_row W4 _ 3 _ _ _ q4]; rfl)
  have g1 : ∀ z : Og.On W4.heap.size W4, z.x.cell? ⟨w.heap.size, 2 + i.rs1, none⟩ = some (.int .u32 (h.R i.rs1)) := fun z => Og.cellB z (by rw [cell_of_row W4 _ _ _ _ _ q0]; simpa using hr1)
  have g2 : ∀ z : Og.On W4.heap.size W4, z.x.cell? ⟨w.heap.size, 2 + i.rs2, none⟩ = some (.int .u32 (h.R i.rs2)) := fun z => Og.cellB z (by rw [cell_of_row W4 _ _ _ _ _ q0]; simpa using hr2)
  have l0 : ∀ z : Og.On W4.heap.size W4, (loadVar 26 ⟨w.heap.size, 0, none⟩).run Tryz.prog z.x = .ok (.agg (hcells h).toArray) z.x := fun z => Og.rowB z 26 _ q0 Tryz.underlying26 rfl (by kernel_rfl)
  have l4 : ∀ z : Og.On W4.heap.size W4, (loadVar 85 ⟨w1.heap.size, 0, none⟩).run Tryz.prog z.x = .ok (.agg (icells i).toArray) z.x := fun z => Og.rowB z 85 _ q4 Tryz.underlying85 rfl (by kernel_rfl)
  clear hr1 hr2
  have hr := setRow_heap W4 (w.heap.size + 1) azero (acells ⟨kd, ad, 0, v, o, q, r⟩).toArray 37 (0, 0) q1
  have P0 := Lib.hid q0; have P1 := Lib.hid q1; have P4 := Lib.hid q4; have P5 := Lib.hid q5; have B4 := Lib.hid b4; have HW4 := Lib.hid hW4; have HR := Lib.hid hr
  clear Q0 Q1 Q4 B2 Z2 HW2 hb old q0 q1 q4 q5 b3 b4 hW4 hr
  unfold accV
  have m3 : ((i.op : Int) == 3) = false := beq_eq_false_iff_ne.2 (by omega)
  have m4 : ((i.op : Int) == 4) = false := beq_eq_false_iff_ne.2 (by omega)
  clear n3
  go_wp2_with (have hx := HW4.out; clear HW4; refine wpList_store_row rfl 37 (.tmp 10) (.tmp 26) rfl w3.heap.size (acells ⟨kd, ad, 0, v, o, q, r⟩).toArray rfl rfl 37 azero (heap_alloc_new _ _) (by kernel_rfl) (by kernel_rfl) (by kernel_rfl) ?_; rw [← hx]; clear hx)
  refine Og.regionB (by kernel_rfl) (by kernel_rfl) ?_
  repeat (first
    | go_big_quiet_skip
    | (go_big_quiet_want
       first
        | (refine Og.quiet_load 26 (.tmp 3) rfl (.agg (hcells h).toArray) ⟨w.heap.size, 0, none⟩ _ rfl (by rintro _ ⟨z, rfl⟩; exact l0 z) (by simp only [Act.put, List.setIfInBounds_toArray, List.set_cons_zero, List.set_cons_succ]; rfl) ?_
           go_big_quiet_on)
        | (refine Og.quiet_load 85 (.tmp 8) rfl (.agg (icells i).toArray) ⟨w1.heap.size, 0, none⟩ _ rfl (by rintro _ ⟨z, rfl⟩; exact l4 z) (by simp only [Act.put, List.setIfInBounds_toArray, List.set_cons_zero, List.set_cons_succ]; rfl) ?_
           go_big_quiet_on)
        | (go_big_quiet_op
           first
            | go_big_quiet_on
            | (apply Exists.intro
               refine ⟨fun z => ?_, ?_⟩
               · first
                  | (go_at_call 36; exact Og.callS (rtaken_any i.op _ _ (K.R _) (K.R _) _))
                  | (go_at_call 37; exact Og.callB (rnext_any h i K _))
               go_big_quiet_on))))
  refine wpQuiet_nil ?_
  intro _ hw'
  obtain ⟨q9, hw''⟩ := hw'
  subst hw''

  have Q1 := Lib.hid ((q9.b.block (w.heap.size + 1) (Array.getElem?_eq_some_iff.1 P1.out).1).trans P1.out)
  have Q5 := Lib.hid ((q9.b.block w3.heap.size (Array.getElem?_eq_some_iff.1 P5.out).1).trans P5.out)
  go_wp2_with (first
    | (refine wpList_load_row rfl 37 (.tmp 10) rfl w3.heap.size rfl 37 (acells ⟨kd, ad, 0, v, o, q, r⟩).toArray (0, 0) _ Q5.out Tryz.underlying37 rfl (by kernel_rfl) ?_)
    | (refine wpList_store_row rfl 37 (.tmp 6) (.tmp 84) rfl (w.heap.size + 1) (acells ⟨kd, ad, 0, v, o, q, r⟩).toArray rfl rfl 37 azero Q1.out (by kernel_rfl) (by kernel_rfl) (by kernel_rfl) ?_))
  refine bodyPost_ret (v := .tuple #[.agg (acells ⟨kd, ad, 0, v, o, q, r⟩).toArray, .int .i64 0]) ?_ rfl ⟨rfl, ?_⟩
  · exact results_row2 (fn := Tryz.f16) rfl _ _ (w.heap.size + 1) 37 (acells ⟨kd, ad, 0, v, o, q, r⟩).toArray (0, 0) _ rfl (setRow_heap q9.x (w.heap.size + 1) azero (acells ⟨kd, ad, 0, v, o, q, r⟩).toArray 37 (0, 0) Q1.out) Tryz.underlying37 rfl (by kernel_rfl)
  · exact below_setRow (B4.out.trans (q9.b.mono B4.out.size)) (by omega)
set_option maxRecDepth 100000 in
set_option maxHeartbeats 4000000 in
theorem ract_jal_ok (h : H) (i : I) (x size : Int) (hz : -9223372036854775808 ≤ size ∧ size ≤ 9223372036854775807) (K : HIOk h i) (n39 : i.op ≠ 39) (kd ad v o : Int) (q r : Bool) (had : 0 ≤ ad ∧ ad ≤ 4294967295)
    (hD : ∀ w, Calls Tryz.prog 34 #[.int .u32 x] w fun e w' => e = .returned (.tuple #[instV i, .bool true]) ∧ Below w.heap.size w w')
    (hA : ∀ w, Calls Tryz.prog 35 #[hartV h, instV i] w fun e w' => e = .returned (accV ⟨kd, ad, 0, v, o, q, r⟩) ∧ Below w.heap.size w w') (n3 : i.op = 3) (hp : next i.op h.pc (h.R i.rs1) (h.R i.rs2) i.imm % 4 = 0) (w : World) :
    Calls Tryz.prog 16 #[hartV h, .int .u32 x, .int .i64 size] w fun e w' => e = .returned (.tuple #[accV ⟨kd, ad, 0, v, o, q, r⟩, .int .i64 0]) ∧ Below w.heap.size w w' := by
  have HD := Lib.hid hD; have HA := Lib.hid hA; clear hD hA
  have m39 : ((i.op : Int) == 39) = false := beq_eq_false_iff_ne.2 (by omega)
  clear n39
  unfold hartV
  go_enter Tryz.func16, Tryz.ntmps16
  go_wp2_with fail
  refine (HD.out _).mono ?_
  rintro e w1 ⟨rfl, hb⟩
  have r0 : w1.heap[w.heap.size]? = some (.cells (hcells h).toArray 26) := (hb.block w.heap.size (by simp only [World.size_alloc]; omega)).trans (heap_b2r w _ _).1
  have r1 : w1.heap[w.heap.size + 1]? = some (.cells azero 37) := (hb.block (w.heap.size + 1) (by simp only [World.size_alloc]; omega)).trans (heap_b2r w _ _).2
  have b1 : Below w.heap.size w w1 := (((Below.refl w.heap.size w).alloc (Nat.le_refl _) _).alloc (by simp only [World.size_alloc]; omega) _).trans (hb.mono (by simp only [World.size_alloc]; omega))
  have z1 : w.heap.size + 2 ≤ w1.heap.size := by have := hb.size; simp only [World.size_alloc] at this; omega
  clear hb
  obtain ⟨W2, hW2⟩ : ∃ W2, W2 = (w1.alloc (.cells izero 85)).setRow w1.heap.size (icells i).toArray := ⟨_, rfl⟩
  have old : ∀ k, k < w1.heap.size → W2.heap[k]? = w1.heap[k]? := fun k hk => by rw [hW2]; exact (setRow_other _ _ _ _ (by omega)).trans (Below.heap_alloc _ _ _ hk)
  have q0 := (old w.heap.size (by omega)).trans r0
  have q1 := (old (w.heap.size + 1) (by omega)).trans r1
  have q4 : W2.heap[w1.heap.size]? = some (.cells (icells i).toArray 85) := by rw [hW2]; exact setRow_heap _ _ _ _ _ _ (heap_alloc_new _ _)
  have b2 : Below w.heap.size w W2 := by rw [hW2]; exact below_setRow (b1.alloc b1.size _) b1.size
  have z2 : W2.heap.size = w1.heap.size + 1 := by rw [hW2]; simp
  have c0 : W2.cell? ⟨w1.heap.size, 0, none⟩ = some (.int .i64 i.op) := by rw [cell_of_row W2 _ 0 _ _ _ q4]; rfl
  have Q0 := Lib.hid q0; have Q1 := Lib.hid q1; have Q4 := Lib.hid q4; have B2 := Lib.hid b2; have Z2 := Lib.hid z2; have Z1 := Lib.hid z1; have HW2 := Lib.hid hW2
  clear r0 r1 b1 z1 old q0 q1 q4 b2 z2 hW2
  unfold instV
  go_wp2_with (first
    | (refine wpList_store_row rfl 85 (.tmp 8) (.tmp 15) rfl w1.heap.size (icells i).toArray rfl rfl 85 izero (heap_alloc_new _ _) (by kernel_rfl) (by kernel_rfl) (by kernel_rfl) ?_; rw [← HW2.out])
    | (refine wpList_load_row rfl 26 (.tmp 3) rfl w.heap.size rfl 26 (hcells h).toArray (0, 0) _ Q0.out Tryz.underlying26 rfl (by kernel_rfl) ?_)
    | (refine wpList_load_row rfl 85 (.tmp 8) rfl w1.heap.size rfl 85 (icells i).toArray (0, 0) _ Q4.out Tryz.underlying85 rfl (by kernel_rfl) ?_))
  refine (HA.out _).mono ?_
  rintro e w3 ⟨rfl, hb⟩
  clear c0
  obtain ⟨W4, hW4⟩ : ∃ W4, W4 = (w3.alloc (.cells azero 37)).setRow w3.heap.size (acells ⟨kd, ad, 0, v, o, q, r⟩).toArray := ⟨_, rfl⟩
  have old : ∀ k, k < W2.heap.size → W4.heap[k]? = W2.heap[k]? := fun k hk => by rw [hW4]; exact (setRow_other _ _ _ _ (by have := hb.size; omega)).trans ((Below.heap_alloc _ _ _ (by have := hb.size; omega)).trans (hb.block k hk))
  have q0 := (old w.heap.size (by have := Z1.out; have := Z2.out; omega)).trans Q0.out
  have q1 := (old (w.heap.size + 1) (by have := Z1.out; have := Z2.out; omega)).trans Q1.out
  have q4 := (old w1.heap.size (by have := Z2.out; omega)).trans Q4.out
  have q5 : W4.heap[w3.heap.size]? = some (.cells (acells ⟨kd, ad, 0, v, o, q, r⟩).toArray 37) := by rw [hW4]; exact setRow_heap _ _ _ _ _ _ (heap_alloc_new _ _)
  have b3 : Below w.heap.size w w3 := B2.out.trans (hb.mono B2.out.size)
  have b4 : Below w.heap.size w W4 := by rw [hW4]; exact below_setRow (b3.alloc b3.size _) b3.size
  have c0 : W4.cell? ⟨w1.heap.size, 0, none⟩ = some (.int .i64 i.op) := by rw [cell_of_row W4 _ 0 _ _ _ q4]; rfl
  have a1 : W4.cell? ⟨w3.heap.size, 1, none⟩ = some (.int .u32 ad) := by rw [cell_of_row W4 _ 1 _ _ _ q5]; rfl
  have a2 : W4.cell? ⟨w3.heap.size, 2, none⟩ = some (.int .i64 0) := by rw [cell_of_row W4 _ 2 _ _ _ q5]; rfl
  have hr1 := hc h i.rs1 K.rs1
  have hr2 := hc h i.rs2 K.rs2
  have b1 : (i.rs1 : Int) < 32 := by have := K.rs1; omega
  have b2 : (i.rs2 : Int) < 32 := by have := K.rs2; omega
  have e0 : ∀ z : Og.On W4.heap.size W4, z.x.cell? ⟨w1.heap.size, 0, none⟩ = some (.int .i64 i.op) := fun z => Og.cellB z c0
  have e2 : ∀ z : Og.On W4.heap.size W4, z.x.cell? ⟨w1.heap.size, 2, none⟩ = some (.int .i64 i.rs1) := fun z => Og.cellB z (by rw [cell_of_row W4 _ 2 _ _ _ q4]; rfl)
  have e3 : ∀ z : Og.On W4.heap.size W4, z.x.cell? ⟨w1.heap.size, 3, none⟩ = some (.int .i64 i.rs2) := fun z => Og.cellB z (by rw [cell_of_row W4 _ 3 _ _ _ q4]; rfl)
  have g1 : ∀ z : Og.On W4.heap.size W4, z.x.cell? ⟨w.heap.size, 2 + i.rs1, none⟩ = some (.int .u32 (h.R i.rs1)) := fun z => Og.cellB z (by rw [cell_of_row W4 _ _ _ _ _ q0]; simpa using hr1)
  have g2 : ∀ z : Og.On W4.heap.size W4, z.x.cell? ⟨w.heap.size, 2 + i.rs2, none⟩ = some (.int .u32 (h.R i.rs2)) := fun z => Og.cellB z (by rw [cell_of_row W4 _ _ _ _ _ q0]; simpa using hr2)
  have l0 : ∀ z : Og.On W4.heap.size W4, (loadVar 26 ⟨w.heap.size, 0, none⟩).run Tryz.prog z.x = .ok (.agg (hcells h).toArray) z.x := fun z => Og.rowB z 26 _ q0 Tryz.underlying26 rfl (by kernel_rfl)
  have l4 : ∀ z : Og.On W4.heap.size W4, (loadVar 85 ⟨w1.heap.size, 0, none⟩).run Tryz.prog z.x = .ok (.agg (icells i).toArray) z.x := fun z => Og.rowB z 85 _ q4 Tryz.underlying85 rfl (by kernel_rfl)
  clear hr1 hr2
  have hr := setRow_heap W4 (w.heap.size + 1) azero (acells ⟨kd, ad, 0, v, o, q, r⟩).toArray 37 (0, 0) q1
  have P0 := Lib.hid q0; have P1 := Lib.hid q1; have P4 := Lib.hid q4; have P5 := Lib.hid q5; have B4 := Lib.hid b4; have HW4 := Lib.hid hW4; have HR := Lib.hid hr
  clear Q0 Q1 Q4 B2 Z2 HW2 hb old q0 q1 q4 q5 b3 b4 hW4 hr
  unfold accV
  have m3 : ((i.op : Int) == 3) = true := by rw [n3]; rfl
  have mp : (next i.op h.pc (h.R i.rs1) (h.R i.rs2) i.imm % 4 != 0) = false := by simpa using hp
  have mq : ((next i.op h.pc (h.R i.rs1) (h.R i.rs2) i.imm).tmod 4 != 0) = false := by rw [Int.tmod_eq_emod_of_nonneg (next_nn _ _ _ _ _)]; exact mp
  clear hp
  clear n3
  go_wp2_with (have hx := HW4.out; clear HW4; refine wpList_store_row rfl 37 (.tmp 10) (.tmp 26) rfl w3.heap.size (acells ⟨kd, ad, 0, v, o, q, r⟩).toArray rfl rfl 37 azero (heap_alloc_new _ _) (by kernel_rfl) (by kernel_rfl) (by kernel_rfl) ?_; rw [← hx]; clear hx)
  refine Og.regionB (by kernel_rfl) (by kernel_rfl) ?_
  repeat (first
    | go_big_quiet_skip
    | (go_big_quiet_want
       first
        | (refine Og.quiet_load 26 (.tmp 3) rfl (.agg (hcells h).toArray) ⟨w.heap.size, 0, none⟩ _ rfl (by rintro _ ⟨z, rfl⟩; exact l0 z) (by simp only [Act.put, List.setIfInBounds_toArray, List.set_cons_zero, List.set_cons_succ]; rfl) ?_
           go_big_quiet_on)
        | (refine Og.quiet_load 85 (.tmp 8) rfl (.agg (icells i).toArray) ⟨w1.heap.size, 0, none⟩ _ rfl (by rintro _ ⟨z, rfl⟩; exact l4 z) (by simp only [Act.put, List.setIfInBounds_toArray, List.set_cons_zero, List.set_cons_succ]; rfl) ?_
           go_big_quiet_on)
        | (go_big_quiet_op
           first
            | go_big_quiet_on
            | (apply Exists.intro
               refine ⟨fun z => ?_, ?_⟩
               · first
                  | (go_at_call 36; exact Og.callS (rtaken_any i.op _ _ (K.R _) (K.R _) _))
                  | (go_at_call 37; exact Og.callB (rnext_any h i K _))
               go_big_quiet_on))))
  refine wpQuiet_nil ?_
  intro _ hw'
  obtain ⟨q9, hw''⟩ := hw'
  subst hw''

  have Q1 := Lib.hid ((q9.b.block (w.heap.size + 1) (Array.getElem?_eq_some_iff.1 P1.out).1).trans P1.out)
  have Q5 := Lib.hid ((q9.b.block w3.heap.size (Array.getElem?_eq_some_iff.1 P5.out).1).trans P5.out)
  go_wp2_with (first
    | (refine wpList_load_row rfl 37 (.tmp 10) rfl w3.heap.size rfl 37 (acells ⟨kd, ad, 0, v, o, q, r⟩).toArray (0, 0) _ Q5.out Tryz.underlying37 rfl (by kernel_rfl) ?_)
    | (refine wpList_store_row rfl 37 (.tmp 6) (.tmp 84) rfl (w.heap.size + 1) (acells ⟨kd, ad, 0, v, o, q, r⟩).toArray rfl rfl 37 azero Q1.out (by kernel_rfl) (by kernel_rfl) (by kernel_rfl) ?_))
  refine bodyPost_ret (v := .tuple #[.agg (acells ⟨kd, ad, 0, v, o, q, r⟩).toArray, .int .i64 0]) ?_ rfl ⟨rfl, ?_⟩
  · exact results_row2 (fn := Tryz.f16) rfl _ _ (w.heap.size + 1) 37 (acells ⟨kd, ad, 0, v, o, q, r⟩).toArray (0, 0) _ rfl (setRow_heap q9.x (w.heap.size + 1) azero (acells ⟨kd, ad, 0, v, o, q, r⟩).toArray 37 (0, 0) Q1.out) Tryz.underlying37 rfl (by kernel_rfl)
  · exact below_setRow (B4.out.trans (q9.b.mono B4.out.size)) (by omega)
set_option maxRecDepth 100000 in
set_option maxHeartbeats 4000000 in
theorem ract_jalr_ok (h : H) (i : I) (x size : Int) (hz : -9223372036854775808 ≤ size ∧ size ≤ 9223372036854775807) (K : HIOk h i) (n39 : i.op ≠ 39) (kd ad v o : Int) (q r : Bool) (had : 0 ≤ ad ∧ ad ≤ 4294967295)
    (hD : ∀ w, Calls Tryz.prog 34 #[.int .u32 x] w fun e w' => e = .returned (.tuple #[instV i, .bool true]) ∧ Below w.heap.size w w')
    (hA : ∀ w, Calls Tryz.prog 35 #[hartV h, instV i] w fun e w' => e = .returned (accV ⟨kd, ad, 0, v, o, q, r⟩) ∧ Below w.heap.size w w') (n4 : i.op = 4) (hp : next i.op h.pc (h.R i.rs1) (h.R i.rs2) i.imm % 4 = 0) (w : World) :
    Calls Tryz.prog 16 #[hartV h, .int .u32 x, .int .i64 size] w fun e w' => e = .returned (.tuple #[accV ⟨kd, ad, 0, v, o, q, r⟩, .int .i64 0]) ∧ Below w.heap.size w w' := by
  have HD := Lib.hid hD; have HA := Lib.hid hA; clear hD hA
  have m39 : ((i.op : Int) == 39) = false := beq_eq_false_iff_ne.2 (by omega)
  clear n39
  unfold hartV
  go_enter Tryz.func16, Tryz.ntmps16
  go_wp2_with fail
  refine (HD.out _).mono ?_
  rintro e w1 ⟨rfl, hb⟩
  have r0 : w1.heap[w.heap.size]? = some (.cells (hcells h).toArray 26) := (hb.block w.heap.size (by simp only [World.size_alloc]; omega)).trans (heap_b2r w _ _).1
  have r1 : w1.heap[w.heap.size + 1]? = some (.cells azero 37) := (hb.block (w.heap.size + 1) (by simp only [World.size_alloc]; omega)).trans (heap_b2r w _ _).2
  have b1 : Below w.heap.size w w1 := (((Below.refl w.heap.size w).alloc (Nat.le_refl _) _).alloc (by simp only [World.size_alloc]; omega) _).trans (hb.mono (by simp only [World.size_alloc]; omega))
  have z1 : w.heap.size + 2 ≤ w1.heap.size := by have := hb.size; simp only [World.size_alloc] at this; omega
  clear hb
  obtain ⟨W2, hW2⟩ : ∃ W2, W2 = (w1.alloc (.cells izero 85)).setRow w1.heap.size (icells i).toArray := ⟨_, rfl⟩
  have old : ∀ k, k < w1.heap.size → W2.heap[k]? = w1.heap[k]? := fun k hk => by rw [hW2]; exact (setRow_other _ _ _ _ (by omega)).trans (Below.heap_alloc _ _ _ hk)
  have q0 := (old w.heap.size (by omega)).trans r0
  have q1 := (old (w.heap.size + 1) (by omega)).trans r1
  have q4 : W2.heap[w1.heap.size]? = some (.cells (icells i).toArray 85) := by rw [hW2]; exact setRow_heap _ _ _ _ _ _ (heap_alloc_new _ _)
  have b2 : Below w.heap.size w W2 := by rw [hW2]; exact below_setRow (b1.alloc b1.size _) b1.size
  have z2 : W2.heap.size = w1.heap.size + 1 := by rw [hW2]; simp
  have c0 : W2.cell? ⟨w1.heap.size, 0, none⟩ = some (.int .i64 i.op) := by rw [cell_of_row W2 _ 0 _ _ _ q4]; rfl
  have Q0 := Lib.hid q0; have Q1 := Lib.hid q1; have Q4 := Lib.hid q4; have B2 := Lib.hid b2; have Z2 := Lib.hid z2; have Z1 := Lib.hid z1; have HW2 := Lib.hid hW2
  clear r0 r1 b1 z1 old q0 q1 q4 b2 z2 hW2
  unfold instV
  go_wp2_with (first
    | (refine wpList_store_row rfl 85 (.tmp 8) (.tmp 15) rfl w1.heap.size (icells i).toArray rfl rfl 85 izero (heap_alloc_new _ _) (by kernel_rfl) (by kernel_rfl) (by kernel_rfl) ?_; rw [← HW2.out])
    | (refine wpList_load_row rfl 26 (.tmp 3) rfl w.heap.size rfl 26 (hcells h).toArray (0, 0) _ Q0.out Tryz.underlying26 rfl (by kernel_rfl) ?_)
    | (refine wpList_load_row rfl 85 (.tmp 8) rfl w1.heap.size rfl 85 (icells i).toArray (0, 0) _ Q4.out Tryz.underlying85 rfl (by kernel_rfl) ?_))
  refine (HA.out _).mono ?_
  rintro e w3 ⟨rfl, hb⟩
  clear c0
  obtain ⟨W4, hW4⟩ : ∃ W4, W4 = (w3.alloc (.cells azero 37)).setRow w3.heap.size (acells ⟨kd, ad, 0, v, o, q, r⟩).toArray := ⟨_, rfl⟩
  have old : ∀ k, k < W2.heap.size → W4.heap[k]? = W2.heap[k]? := fun k hk => by rw [hW4]; exact (setRow_other _ _ _ _ (by have := hb.size; omega)).trans ((Below.heap_alloc _ _ _ (by have := hb.size; omega)).trans (hb.block k hk))
  have q0 := (old w.heap.size (by have := Z1.out; have := Z2.out; omega)).trans Q0.out
  have q1 := (old (w.heap.size + 1) (by have := Z1.out; have := Z2.out; omega)).trans Q1.out
  have q4 := (old w1.heap.size (by have := Z2.out; omega)).trans Q4.out
  have q5 : W4.heap[w3.heap.size]? = some (.cells (acells ⟨kd, ad, 0, v, o, q, r⟩).toArray 37) := by rw [hW4]; exact setRow_heap _ _ _ _ _ _ (heap_alloc_new _ _)
  have b3 : Below w.heap.size w w3 := B2.out.trans (hb.mono B2.out.size)
  have b4 : Below w.heap.size w W4 := by rw [hW4]; exact below_setRow (b3.alloc b3.size _) b3.size
  have c0 : W4.cell? ⟨w1.heap.size, 0, none⟩ = some (.int .i64 i.op) := by rw [cell_of_row W4 _ 0 _ _ _ q4]; rfl
  have a1 : W4.cell? ⟨w3.heap.size, 1, none⟩ = some (.int .u32 ad) := by rw [cell_of_row W4 _ 1 _ _ _ q5]; rfl
  have a2 : W4.cell? ⟨w3.heap.size, 2, none⟩ = some (.int .i64 0) := by rw [cell_of_row W4 _ 2 _ _ _ q5]; rfl
  have hr1 := hc h i.rs1 K.rs1
  have hr2 := hc h i.rs2 K.rs2
  have b1 : (i.rs1 : Int) < 32 := by have := K.rs1; omega
  have b2 : (i.rs2 : Int) < 32 := by have := K.rs2; omega
  have e0 : ∀ z : Og.On W4.heap.size W4, z.x.cell? ⟨w1.heap.size, 0, none⟩ = some (.int .i64 i.op) := fun z => Og.cellB z c0
  have e2 : ∀ z : Og.On W4.heap.size W4, z.x.cell? ⟨w1.heap.size, 2, none⟩ = some (.int .i64 i.rs1) := fun z => Og.cellB z (by rw [cell_of_row W4 _ 2 _ _ _ q4]; rfl)
  have e3 : ∀ z : Og.On W4.heap.size W4, z.x.cell? ⟨w1.heap.size, 3, none⟩ = some (.int .i64 i.rs2) := fun z => Og.cellB z (by rw [cell_of_row W4 _ 3 _ _ _ q4]; rfl)
  have g1 : ∀ z : Og.On W4.heap.size W4, z.x.cell? ⟨w.heap.size, 2 + i.rs1, none⟩ = some (.int .u32 (h.R i.rs1)) := fun z => Og.cellB z (by rw [cell_of_row W4 _ _ _ _ _ q0]; simpa using hr1)
  have g2 : ∀ z : Og.On W4.heap.size W4, z.x.cell? ⟨w.heap.size, 2 + i.rs2, none⟩ = some (.int .u32 (h.R i.rs2)) := fun z => Og.cellB z (by rw [cell_of_row W4 _ _ _ _ _ q0]; simpa using hr2)
  have l0 : ∀ z : Og.On W4.heap.size W4, (loadVar 26 ⟨w.heap.size, 0, none⟩).run Tryz.prog z.x = .ok (.agg (hcells h).toArray) z.x := fun z => Og.rowB z 26 _ q0 Tryz.underlying26 rfl (by kernel_rfl)
  have l4 : ∀ z : Og.On W4.heap.size W4, (loadVar 85 ⟨w1.heap.size, 0, none⟩).run Tryz.prog z.x = .ok (.agg (icells i).toArray) z.x := fun z => Og.rowB z 85 _ q4 Tryz.underlying85 rfl (by kernel_rfl)
  clear hr1 hr2
  have hr := setRow_heap W4 (w.heap.size + 1) azero (acells ⟨kd, ad, 0, v, o, q, r⟩).toArray 37 (0, 0) q1
  have P0 := Lib.hid q0; have P1 := Lib.hid q1; have P4 := Lib.hid q4; have P5 := Lib.hid q5; have B4 := Lib.hid b4; have HW4 := Lib.hid hW4; have HR := Lib.hid hr
  clear Q0 Q1 Q4 B2 Z2 HW2 hb old q0 q1 q4 q5 b3 b4 hW4 hr
  unfold accV
  have m3 : ((i.op : Int) == 3) = false := by rw [n4]; rfl
  have m4 : ((i.op : Int) == 4) = true := by rw [n4]; rfl
  have mp : (next i.op h.pc (h.R i.rs1) (h.R i.rs2) i.imm % 4 != 0) = false := by simpa using hp
  have mq : ((next i.op h.pc (h.R i.rs1) (h.R i.rs2) i.imm).tmod 4 != 0) = false := by rw [Int.tmod_eq_emod_of_nonneg (next_nn _ _ _ _ _)]; exact mp
  clear hp
  clear n4
  go_wp2_with (have hx := HW4.out; clear HW4; refine wpList_store_row rfl 37 (.tmp 10) (.tmp 26) rfl w3.heap.size (acells ⟨kd, ad, 0, v, o, q, r⟩).toArray rfl rfl 37 azero (heap_alloc_new _ _) (by kernel_rfl) (by kernel_rfl) (by kernel_rfl) ?_; rw [← hx]; clear hx)
  refine Og.regionB (by kernel_rfl) (by kernel_rfl) ?_
  repeat (first
    | go_big_quiet_skip
    | (go_big_quiet_want
       first
        | (refine Og.quiet_load 26 (.tmp 3) rfl (.agg (hcells h).toArray) ⟨w.heap.size, 0, none⟩ _ rfl (by rintro _ ⟨z, rfl⟩; exact l0 z) (by simp only [Act.put, List.setIfInBounds_toArray, List.set_cons_zero, List.set_cons_succ]; rfl) ?_
           go_big_quiet_on)
        | (refine Og.quiet_load 85 (.tmp 8) rfl (.agg (icells i).toArray) ⟨w1.heap.size, 0, none⟩ _ rfl (by rintro _ ⟨z, rfl⟩; exact l4 z) (by simp only [Act.put, List.setIfInBounds_toArray, List.set_cons_zero, List.set_cons_succ]; rfl) ?_
           go_big_quiet_on)
        | (go_big_quiet_op
           first
            | go_big_quiet_on
            | (apply Exists.intro
               refine ⟨fun z => ?_, ?_⟩
               · first
                  | (go_at_call 36; exact Og.callS (rtaken_any i.op _ _ (K.R _) (K.R _) _))
                  | (go_at_call 37; exact Og.callB (rnext_any h i K _))
               go_big_quiet_on))))
  refine wpQuiet_nil ?_
  intro _ hw'
  obtain ⟨q9, hw''⟩ := hw'
  subst hw''

  have Q1 := Lib.hid ((q9.b.block (w.heap.size + 1) (Array.getElem?_eq_some_iff.1 P1.out).1).trans P1.out)
  have Q5 := Lib.hid ((q9.b.block w3.heap.size (Array.getElem?_eq_some_iff.1 P5.out).1).trans P5.out)
  go_wp2_with (first
    | (refine wpList_load_row rfl 37 (.tmp 10) rfl w3.heap.size rfl 37 (acells ⟨kd, ad, 0, v, o, q, r⟩).toArray (0, 0) _ Q5.out Tryz.underlying37 rfl (by kernel_rfl) ?_)
    | (refine wpList_store_row rfl 37 (.tmp 6) (.tmp 84) rfl (w.heap.size + 1) (acells ⟨kd, ad, 0, v, o, q, r⟩).toArray rfl rfl 37 azero Q1.out (by kernel_rfl) (by kernel_rfl) (by kernel_rfl) ?_))
  refine bodyPost_ret (v := .tuple #[.agg (acells ⟨kd, ad, 0, v, o, q, r⟩).toArray, .int .i64 0]) ?_ rfl ⟨rfl, ?_⟩
  · exact results_row2 (fn := Tryz.f16) rfl _ _ (w.heap.size + 1) 37 (acells ⟨kd, ad, 0, v, o, q, r⟩).toArray (0, 0) _ rfl (setRow_heap q9.x (w.heap.size + 1) azero (acells ⟨kd, ad, 0, v, o, q, r⟩).toArray 37 (0, 0) Q1.out) Tryz.underlying37 rfl (by kernel_rfl)
  · exact below_setRow (B4.out.trans (q9.b.mono B4.out.size)) (by omega)
set_option maxRecDepth 100000 in
set_option maxHeartbeats 4000000 in
theorem ract_taken_ok (h : H) (i : I) (x size : Int) (hz : -9223372036854775808 ≤ size ∧ size ≤ 9223372036854775807) (K : HIOk h i) (n39 : i.op ≠ 39) (kd ad v o : Int) (q r : Bool) (had : 0 ≤ ad ∧ ad ≤ 4294967295)
    (hD : ∀ w, Calls Tryz.prog 34 #[.int .u32 x] w fun e w' => e = .returned (.tuple #[instV i, .bool true]) ∧ Below w.heap.size w w')
    (hA : ∀ w, Calls Tryz.prog 35 #[hartV h, instV i] w fun e w' => e = .returned (accV ⟨kd, ad, 0, v, o, q, r⟩) ∧ Below w.heap.size w w') (n3 : i.op ≠ 3 ∧ i.op ≠ 4) (ht : taken i.op (h.R i.rs1) (h.R i.rs2) = true) (hp : next i.op h.pc (h.R i.rs1) (h.R i.rs2) i.imm % 4 = 0) (w : World) :
    Calls Tryz.prog 16 #[hartV h, .int .u32 x, .int .i64 size] w fun e w' => e = .returned (.tuple #[accV ⟨kd, ad, 0, v, o, q, r⟩, .int .i64 0]) ∧ Below w.heap.size w w' := by
  have HD := Lib.hid hD; have HA := Lib.hid hA; clear hD hA
  have m39 : ((i.op : Int) == 39) = false := beq_eq_false_iff_ne.2 (by omega)
  clear n39
  unfold hartV
  go_enter Tryz.func16, Tryz.ntmps16
  go_wp2_with fail
  refine (HD.out _).mono ?_
  rintro e w1 ⟨rfl, hb⟩
  have r0 : w1.heap[w.heap.size]? = some (.cells (hcells h).toArray 26) := (hb.block w.heap.size (by simp only [World.size_alloc]; omega)).trans (heap_b2r w _ _).1
  have r1 : w1.heap[w.heap.size + 1]? = some (.cells azero 37) := (hb.block (w.heap.size + 1) (by simp only [World.size_alloc]; omega)).trans (heap_b2r w _ _).2
  have b1 : Below w.heap.size w w1 := (((Below.refl w.heap.size w).alloc (Nat.le_refl _) _).alloc (by simp only [World.size_alloc]; omega) _).trans (hb.mono (by simp only [World.size_alloc]; omega))
  have z1 : w.heap.size + 2 ≤ w1.heap.size := by have := hb.size; simp only [World.size_alloc] at this; omega
  clear hb
  obtain ⟨W2, hW2⟩ : ∃ W2, W2 = (w1.alloc (.cells izero 85)).setRow w1.heap.size (icells i).toArray := ⟨_, rfl⟩
  have old : ∀ k, k < w1.heap.size → W2.heap[k]? = w1.heap[k]? := fun k hk => by rw [hW2]; exact (setRow_other _ _ _ _ (by omega)).trans (Below.heap_alloc _ _ _ hk)
  have q0 := (old w.heap.size (by omega)).trans r0
  have q1 := (old (w.heap.size + 1) (by omega)).trans r1
  have q4 : W2.heap[w1.heap.size]? = some (.cells (icells i).toArray 85) := by rw [hW2]; exact setRow_heap _ _ _ _ _ _ (heap_alloc_new _ _)
  have b2 : Below w.heap.size w W2 := by rw [hW2]; exact below_setRow (b1.alloc b1.size _) b1.size
  have z2 : W2.heap.size = w1.heap.size + 1 := by rw [hW2]; simp
  have c0 : W2.cell? ⟨w1.heap.size, 0, none⟩ = some (.int .i64 i.op) := by rw [cell_of_row W2 _ 0 _ _ _ q4]; rfl
  have Q0 := Lib.hid q0; have Q1 := Lib.hid q1; have Q4 := Lib.hid q4; have B2 := Lib.hid b2; have Z2 := Lib.hid z2; have Z1 := Lib.hid z1; have HW2 := Lib.hid hW2
  clear r0 r1 b1 z1 old q0 q1 q4 b2 z2 hW2
  unfold instV
  go_wp2_with (first
    | (refine wpList_store_row rfl 85 (.tmp 8) (.tmp 15) rfl w1.heap.size (icells i).toArray rfl rfl 85 izero (heap_alloc_new _ _) (by kernel_rfl) (by kernel_rfl) (by kernel_rfl) ?_; rw [← HW2.out])
    | (refine wpList_load_row rfl 26 (.tmp 3) rfl w.heap.size rfl 26 (hcells h).toArray (0, 0) _ Q0.out Tryz.underlying26 rfl (by kernel_rfl) ?_)
    | (refine wpList_load_row rfl 85 (.tmp 8) rfl w1.heap.size rfl 85 (icells i).toArray (0, 0) _ Q4.out Tryz.underlying85 rfl (by kernel_rfl) ?_))
  refine (HA.out _).mono ?_
  rintro e w3 ⟨rfl, hb⟩
  clear c0
  obtain ⟨W4, hW4⟩ : ∃ W4, W4 = (w3.alloc (.cells azero 37)).setRow w3.heap.size (acells ⟨kd, ad, 0, v, o, q, r⟩).toArray := ⟨_, rfl⟩
  have old : ∀ k, k < W2.heap.size → W4.heap[k]? = W2.heap[k]? := fun k hk => by rw [hW4]; exact (setRow_other _ _ _ _ (by have := hb.size; omega)).trans ((Below.heap_alloc _ _ _ (by have := hb.size; omega)).trans (hb.block k hk))
  have q0 := (old w.heap.size (by have := Z1.out; have := Z2.out; omega)).trans Q0.out
  have q1 := (old (w.heap.size + 1) (by have := Z1.out; have := Z2.out; omega)).trans Q1.out
  have q4 := (old w1.heap.size (by have := Z2.out; omega)).trans Q4.out
  have q5 : W4.heap[w3.heap.size]? = some (.cells (acells ⟨kd, ad, 0, v, o, q, r⟩).toArray 37) := by rw [hW4]; exact setRow_heap _ _ _ _ _ _ (heap_alloc_new _ _)
  have b3 : Below w.heap.size w w3 := B2.out.trans (hb.mono B2.out.size)
  have b4 : Below w.heap.size w W4 := by rw [hW4]; exact below_setRow (b3.alloc b3.size _) b3.size
  have c0 : W4.cell? ⟨w1.heap.size, 0, none⟩ = some (.int .i64 i.op) := by rw [cell_of_row W4 _ 0 _ _ _ q4]; rfl
  have a1 : W4.cell? ⟨w3.heap.size, 1, none⟩ = some (.int .u32 ad) := by rw [cell_of_row W4 _ 1 _ _ _ q5]; rfl
  have a2 : W4.cell? ⟨w3.heap.size, 2, none⟩ = some (.int .i64 0) := by rw [cell_of_row W4 _ 2 _ _ _ q5]; rfl
  have hr1 := hc h i.rs1 K.rs1
  have hr2 := hc h i.rs2 K.rs2
  have b1 : (i.rs1 : Int) < 32 := by have := K.rs1; omega
  have b2 : (i.rs2 : Int) < 32 := by have := K.rs2; omega
  have e0 : ∀ z : Og.On W4.heap.size W4, z.x.cell? ⟨w1.heap.size, 0, none⟩ = some (.int .i64 i.op) := fun z => Og.cellB z c0
  have e2 : ∀ z : Og.On W4.heap.size W4, z.x.cell? ⟨w1.heap.size, 2, none⟩ = some (.int .i64 i.rs1) := fun z => Og.cellB z (by rw [cell_of_row W4 _ 2 _ _ _ q4]; rfl)
  have e3 : ∀ z : Og.On W4.heap.size W4, z.x.cell? ⟨w1.heap.size, 3, none⟩ = some (.int .i64 i.rs2) := fun z => Og.cellB z (by rw [cell_of_row W4 _ 3 _ _ _ q4]; rfl)
  have g1 : ∀ z : Og.On W4.heap.size W4, z.x.cell? ⟨w.heap.size, 2 + i.rs1, none⟩ = some (.int .u32 (h.R i.rs1)) := fun z => Og.cellB z (by rw [cell_of_row W4 _ _ _ _ _ q0]; simpa using hr1)
  have g2 : ∀ z : Og.On W4.heap.size W4, z.x.cell? ⟨w.heap.size, 2 + i.rs2, none⟩ = some (.int .u32 (h.R i.rs2)) := fun z => Og.cellB z (by rw [cell_of_row W4 _ _ _ _ _ q0]; simpa using hr2)
  have l0 : ∀ z : Og.On W4.heap.size W4, (loadVar 26 ⟨w.heap.size, 0, none⟩).run Tryz.prog z.x = .ok (.agg (hcells h).toArray) z.x := fun z => Og.rowB z 26 _ q0 Tryz.underlying26 rfl (by kernel_rfl)
  have l4 : ∀ z : Og.On W4.heap.size W4, (loadVar 85 ⟨w1.heap.size, 0, none⟩).run Tryz.prog z.x = .ok (.agg (icells i).toArray) z.x := fun z => Og.rowB z 85 _ q4 Tryz.underlying85 rfl (by kernel_rfl)
  clear hr1 hr2
  have hr := setRow_heap W4 (w.heap.size + 1) azero (acells ⟨kd, ad, 0, v, o, q, r⟩).toArray 37 (0, 0) q1
  have P0 := Lib.hid q0; have P1 := Lib.hid q1; have P4 := Lib.hid q4; have P5 := Lib.hid q5; have B4 := Lib.hid b4; have HW4 := Lib.hid hW4; have HR := Lib.hid hr
  clear Q0 Q1 Q4 B2 Z2 HW2 hb old q0 q1 q4 q5 b3 b4 hW4 hr
  unfold accV
  have m3 : ((i.op : Int) == 3) = false := beq_eq_false_iff_ne.2 (by omega)
  have m4 : ((i.op : Int) == 4) = false := beq_eq_false_iff_ne.2 (by omega)
  clear n3
  have mp : (next i.op h.pc (h.R i.rs1) (h.R i.rs2) i.imm % 4 != 0) = false := by simpa using hp
  have mq : ((next i.op h.pc (h.R i.rs1) (h.R i.rs2) i.imm).tmod 4 != 0) = false := by rw [Int.tmod_eq_emod_of_nonneg (next_nn _ _ _ _ _)]; exact mp
  clear hp
  go_wp2_with (have hx := HW4.out; clear HW4; refine wpList_store_row rfl 37 (.tmp 10) (.tmp 26) rfl w3.heap.size (acells ⟨kd, ad, 0, v, o, q, r⟩).toArray rfl rfl 37 azero (heap_alloc_new _ _) (by kernel_rfl) (by kernel_rfl) (by kernel_rfl) ?_; rw [← hx]; clear hx)
  refine Og.regionB (by kernel_rfl) (by kernel_rfl) ?_
  repeat (first
    | go_big_quiet_skip
    | (go_big_quiet_want
       first
        | (refine Og.quiet_load 26 (.tmp 3) rfl (.agg (hcells h).toArray) ⟨w.heap.size, 0, none⟩ _ rfl (by rintro _ ⟨z, rfl⟩; exact l0 z) (by simp only [Act.put, List.setIfInBounds_toArray, List.set_cons_zero, List.set_cons_succ]; rfl) ?_
           go_big_quiet_on)
        | (refine Og.quiet_load 85 (.tmp 8) rfl (.agg (icells i).toArray) ⟨w1.heap.size, 0, none⟩ _ rfl (by rintro _ ⟨z, rfl⟩; exact l4 z) (by simp only [Act.put, List.setIfInBounds_toArray, List.set_cons_zero, List.set_cons_succ]; rfl) ?_
           go_big_quiet_on)
        | (go_big_quiet_op
           first
            | go_big_quiet_on
            | (apply Exists.intro
               refine ⟨fun z => ?_, ?_⟩
               · first
                  | (go_at_call 36; exact Og.callS (rtaken_any i.op _ _ (K.R _) (K.R _) _))
                  | (go_at_call 37; exact Og.callB (rnext_any h i K _))
               go_big_quiet_on))))
  refine wpQuiet_nil ?_
  intro _ hw'
  obtain ⟨q9, hw''⟩ := hw'
  subst hw''

  have Q1 := Lib.hid ((q9.b.block (w.heap.size + 1) (Array.getElem?_eq_some_iff.1 P1.out).1).trans P1.out)
  have Q5 := Lib.hid ((q9.b.block w3.heap.size (Array.getElem?_eq_some_iff.1 P5.out).1).trans P5.out)
  go_wp2_with (first
    | (refine wpList_load_row rfl 37 (.tmp 10) rfl w3.heap.size rfl 37 (acells ⟨kd, ad, 0, v, o, q, r⟩).toArray (0, 0) _ Q5.out Tryz.underlying37 rfl (by kernel_rfl) ?_)
    | (refine wpList_store_row rfl 37 (.tmp 6) (.tmp 84) rfl (w.heap.size + 1) (acells ⟨kd, ad, 0, v, o, q, r⟩).toArray rfl rfl 37 azero Q1.out (by kernel_rfl) (by kernel_rfl) (by kernel_rfl) ?_))
  refine bodyPost_ret (v := .tuple #[.agg (acells ⟨kd, ad, 0, v, o, q, r⟩).toArray, .int .i64 0]) ?_ rfl ⟨rfl, ?_⟩
  · exact results_row2 (fn := Tryz.f16) rfl _ _ (w.heap.size + 1) 37 (acells ⟨kd, ad, 0, v, o, q, r⟩).toArray (0, 0) _ rfl (setRow_heap q9.x (w.heap.size + 1) azero (acells ⟨kd, ad, 0, v, o, q, r⟩).toArray 37 (0, 0) Q1.out) Tryz.underlying37 rfl (by kernel_rfl)
  · exact below_setRow (B4.out.trans (q9.b.mono B4.out.size)) (by omega)
set_option maxRecDepth 100000 in
set_option maxHeartbeats 4000000 in
theorem ract_jal_bad (h : H) (i : I) (x size : Int) (hz : -9223372036854775808 ≤ size ∧ size ≤ 9223372036854775807) (K : HIOk h i) (n39 : i.op ≠ 39) (kd ad v o : Int) (q r : Bool) (had : 0 ≤ ad ∧ ad ≤ 4294967295)
    (hD : ∀ w, Calls Tryz.prog 34 #[.int .u32 x] w fun e w' => e = .returned (.tuple #[instV i, .bool true]) ∧ Below w.heap.size w w')
    (hA : ∀ w, Calls Tryz.prog 35 #[hartV h, instV i] w fun e w' => e = .returned (accV ⟨kd, ad, 0, v, o, q, r⟩) ∧ Below w.heap.size w w') (n3 : i.op = 3) (hp : next i.op h.pc (h.R i.rs1) (h.R i.rs2) i.imm % 4 ≠ 0) (w : World) :
    Calls Tryz.prog 16 #[hartV h, .int .u32 x, .int .i64 size] w fun e w' => e = .returned (.tuple #[accV A0, .int .i64 3]) ∧ Below w.heap.size w w' := by
  have HD := Lib.hid hD; have HA := Lib.hid hA; clear hD hA
  have m39 : ((i.op : Int) == 39) = false := beq_eq_false_iff_ne.2 (by omega)
  clear n39
  unfold hartV
  go_enter Tryz.func16, Tryz.ntmps16
  go_wp2_with fail
  refine (HD.out _).mono ?_
  rintro e w1 ⟨rfl, hb⟩
  have r0 : w1.heap[w.heap.size]? = some (.cells (hcells h).toArray 26) := (hb.block w.heap.size (by simp only [World.size_alloc]; omega)).trans (heap_b2r w _ _).1
  have r1 : w1.heap[w.heap.size + 1]? = some (.cells azero 37) := (hb.block (w.heap.size + 1) (by simp only [World.size_alloc]; omega)).trans (heap_b2r w _ _).2
  have b1 : Below w.heap.size w w1 := (((Below.refl w.heap.size w).alloc (Nat.le_refl _) _).alloc (by simp only [World.size_alloc]; omega) _).trans (hb.mono (by simp only [World.size_alloc]; omega))
  have z1 : w.heap.size + 2 ≤ w1.heap.size := by have := hb.size; simp only [World.size_alloc] at this; omega
  clear hb
  obtain ⟨W2, hW2⟩ : ∃ W2, W2 = (w1.alloc (.cells izero 85)).setRow w1.heap.size (icells i).toArray := ⟨_, rfl⟩
  have old : ∀ k, k < w1.heap.size → W2.heap[k]? = w1.heap[k]? := fun k hk => by rw [hW2]; exact (setRow_other _ _ _ _ (by omega)).trans (Below.heap_alloc _ _ _ hk)
  have q0 := (old w.heap.size (by omega)).trans r0
  have q1 := (old (w.heap.size + 1) (by omega)).trans r1
  have q4 : W2.heap[w1.heap.size]? = some (.cells (icells i).toArray 85) := by rw [hW2]; exact setRow_heap _ _ _ _ _ _ (heap_alloc_new _ _)
  have b2 : Below w.heap.size w W2 := by rw [hW2]; exact below_setRow (b1.alloc b1.size _) b1.size
  have z2 : W2.heap.size = w1.heap.size + 1 := by rw [hW2]; simp
  have c0 : W2.cell? ⟨w1.heap.size, 0, none⟩ = some (.int .i64 i.op) := by rw [cell_of_row W2 _ 0 _ _ _ q4]; rfl
  have Q0 := Lib.hid q0; have Q1 := Lib.hid q1; have Q4 := Lib.hid q4; have B2 := Lib.hid b2; have Z2 := Lib.hid z2; have Z1 := Lib.hid z1; have HW2 := Lib.hid hW2
  clear r0 r1 b1 z1 old q0 q1 q4 b2 z2 hW2
  unfold instV
  go_wp2_with (first
    | (refine wpList_store_row rfl 85 (.tmp 8) (.tmp 15) rfl w1.heap.size (icells i).toArray rfl rfl 85 izero (heap_alloc_new _ _) (by kernel_rfl) (by kernel_rfl) (by kernel_rfl) ?_; rw [← HW2.out])
    | (refine wpList_load_row rfl 26 (.tmp 3) rfl w.heap.size rfl 26 (hcells h).toArray (0, 0) _ Q0.out Tryz.underlying26 rfl (by kernel_rfl) ?_)
    | (refine wpList_load_row rfl 85 (.tmp 8) rfl w1.heap.size rfl 85 (icells i).toArray (0, 0) _ Q4.out Tryz.underlying85 rfl (by kernel_rfl) ?_))
  refine (HA.out _).mono ?_
  rintro e w3 ⟨rfl, hb⟩
  clear c0
  obtain ⟨W4, hW4⟩ : ∃ W4, W4 = (w3.alloc (.cells azero 37)).setRow w3.heap.size (acells ⟨kd, ad, 0, v, o, q, r⟩).toArray := ⟨_, rfl⟩
  have old : ∀ k, k < W2.heap.size → W4.heap[k]? = W2.heap[k]? := fun k hk => by rw [hW4]; exact (setRow_other _ _ _ _ (by have := hb.size; omega)).trans ((Below.heap_alloc _ _ _ (by have := hb.size; omega)).trans (hb.block k hk))
  have q0 := (old w.heap.size (by have := Z1.out; have := Z2.out; omega)).trans Q0.out
  have q1 := (old (w.heap.size + 1) (by have := Z1.out; have := Z2.out; omega)).trans Q1.out
  have q4 := (old w1.heap.size (by have := Z2.out; omega)).trans Q4.out
  have q5 : W4.heap[w3.heap.size]? = some (.cells (acells ⟨kd, ad, 0, v, o, q, r⟩).toArray 37) := by rw [hW4]; exact setRow_heap _ _ _ _ _ _ (heap_alloc_new _ _)
  have b3 : Below w.heap.size w w3 := B2.out.trans (hb.mono B2.out.size)
  have b4 : Below w.heap.size w W4 := by rw [hW4]; exact below_setRow (b3.alloc b3.size _) b3.size
  have c0 : W4.cell? ⟨w1.heap.size, 0, none⟩ = some (.int .i64 i.op) := by rw [cell_of_row W4 _ 0 _ _ _ q4]; rfl
  have a1 : W4.cell? ⟨w3.heap.size, 1, none⟩ = some (.int .u32 ad) := by rw [cell_of_row W4 _ 1 _ _ _ q5]; rfl
  have a2 : W4.cell? ⟨w3.heap.size, 2, none⟩ = some (.int .i64 0) := by rw [cell_of_row W4 _ 2 _ _ _ q5]; rfl
  have hr1 := hc h i.rs1 K.rs1
  have hr2 := hc h i.rs2 K.rs2
  have b1 : (i.rs1 : Int) < 32 := by have := K.rs1; omega
  have b2 : (i.rs2 : Int) < 32 := by have := K.rs2; omega
  have e0 : ∀ z : Og.On W4.heap.size W4, z.x.cell? ⟨w1.heap.size, 0, none⟩ = some (.int .i64 i.op) := fun z => Og.cellB z c0
  have e2 : ∀ z : Og.On W4.heap.size W4, z.x.cell? ⟨w1.heap.size, 2, none⟩ = some (.int .i64 i.rs1) := fun z => Og.cellB z (by rw [cell_of_row W4 _ 2 _ _ _ q4]; rfl)
  have e3 : ∀ z : Og.On W4.heap.size W4, z.x.cell? ⟨w1.heap.size, 3, none⟩ = some (.int .i64 i.rs2) := fun z => Og.cellB z (by rw [cell_of_row W4 _ 3 _ _ _ q4]; rfl)
  have g1 : ∀ z : Og.On W4.heap.size W4, z.x.cell? ⟨w.heap.size, 2 + i.rs1, none⟩ = some (.int .u32 (h.R i.rs1)) := fun z => Og.cellB z (by rw [cell_of_row W4 _ _ _ _ _ q0]; simpa using hr1)
  have g2 : ∀ z : Og.On W4.heap.size W4, z.x.cell? ⟨w.heap.size, 2 + i.rs2, none⟩ = some (.int .u32 (h.R i.rs2)) := fun z => Og.cellB z (by rw [cell_of_row W4 _ _ _ _ _ q0]; simpa using hr2)
  have l0 : ∀ z : Og.On W4.heap.size W4, (loadVar 26 ⟨w.heap.size, 0, none⟩).run Tryz.prog z.x = .ok (.agg (hcells h).toArray) z.x := fun z => Og.rowB z 26 _ q0 Tryz.underlying26 rfl (by kernel_rfl)
  have l4 : ∀ z : Og.On W4.heap.size W4, (loadVar 85 ⟨w1.heap.size, 0, none⟩).run Tryz.prog z.x = .ok (.agg (icells i).toArray) z.x := fun z => Og.rowB z 85 _ q4 Tryz.underlying85 rfl (by kernel_rfl)
  clear hr1 hr2
  have hr := setRow_heap W4 (w.heap.size + 1) azero (acells A0).toArray 37 (0, 0) q1
  have P0 := Lib.hid q0; have P1 := Lib.hid q1; have P4 := Lib.hid q4; have P5 := Lib.hid q5; have B4 := Lib.hid b4; have HW4 := Lib.hid hW4; have HR := Lib.hid hr
  clear Q0 Q1 Q4 B2 Z2 HW2 hb old q0 q1 q4 q5 b3 b4 hW4 hr
  unfold accV
  have m3 : ((i.op : Int) == 3) = true := by rw [n3]; rfl
  have mp : (next i.op h.pc (h.R i.rs1) (h.R i.rs2) i.imm % 4 != 0) = true := by simpa using hp
  have mq : ((next i.op h.pc (h.R i.rs1) (h.R i.rs2) i.imm).tmod 4 != 0) = true := by rw [Int.tmod_eq_emod_of_nonneg (next_nn _ _ _ _ _)]; exact mp
  clear hp
  clear n3
  go_wp2_with (have hx := HW4.out; clear HW4; refine wpList_store_row rfl 37 (.tmp 10) (.tmp 26) rfl w3.heap.size (acells ⟨kd, ad, 0, v, o, q, r⟩).toArray rfl rfl 37 azero (heap_alloc_new _ _) (by kernel_rfl) (by kernel_rfl) (by kernel_rfl) ?_; rw [← hx]; clear hx)
  refine Og.regionB (by kernel_rfl) (by kernel_rfl) ?_
  repeat (first
    | go_big_quiet_skip
    | (go_big_quiet_want
       first
        | (refine Og.quiet_load 26 (.tmp 3) rfl (.agg (hcells h).toArray) ⟨w.heap.size, 0, none⟩ _ rfl (by rintro _ ⟨z, rfl⟩; exact l0 z) (by simp only [Act.put, List.setIfInBounds_toArray, List.set_cons_zero, List.set_cons_succ]; rfl) ?_
           go_big_quiet_on)
        | (refine Og.quiet_load 85 (.tmp 8) rfl (.agg (icells i).toArray) ⟨w1.heap.size, 0, none⟩ _ rfl (by rintro _ ⟨z, rfl⟩; exact l4 z) (by simp only [Act.put, List.setIfInBounds_toArray, List.set_cons_zero, List.set_cons_succ]; rfl) ?_
           go_big_quiet_on)
        | (go_big_quiet_op
           first
            | go_big_quiet_on
            | (apply Exists.intro
               refine ⟨fun z => ?_, ?_⟩
               · first
                  | (go_at_call 36; exact Og.callS (rtaken_any i.op _ _ (K.R _) (K.R _) _))
                  | (go_at_call 37; exact Og.callB (rnext_any h i K _))
               go_big_quiet_on))))
  refine wpQuiet_nil ?_
  intro _ hw'
  obtain ⟨q9, hw''⟩ := hw'
  subst hw''

  have Q1 := Lib.hid ((q9.b.block (w.heap.size + 1) (Array.getElem?_eq_some_iff.1 P1.out).1).trans P1.out)
  go_wp2_with (refine wpList_store_row rfl 37 (.tmp 6) (.tmp 83) rfl (w.heap.size + 1) (acells A0).toArray rfl rfl 37 azero Q1.out (by kernel_rfl) (by kernel_rfl) (by kernel_rfl) ?_)
  refine bodyPost_ret (v := .tuple #[.agg (acells A0).toArray, .int .i64 3]) ?_ rfl ⟨rfl, ?_⟩
  · exact results_row2 (fn := Tryz.f16) rfl _ _ (w.heap.size + 1) 37 (acells A0).toArray (0, 0) _ rfl (setRow_heap q9.x (w.heap.size + 1) azero (acells A0).toArray 37 (0, 0) Q1.out) Tryz.underlying37 rfl (by kernel_rfl)
  · exact below_setRow (B4.out.trans (q9.b.mono B4.out.size)) (by omega)
set_option maxRecDepth 100000 in
set_option maxHeartbeats 4000000 in
theorem ract_jalr_bad (h : H) (i : I) (x size : Int) (hz : -9223372036854775808 ≤ size ∧ size ≤ 9223372036854775807) (K : HIOk h i) (n39 : i.op ≠ 39) (kd ad v o : Int) (q r : Bool) (had : 0 ≤ ad ∧ ad ≤ 4294967295)
    (hD : ∀ w, Calls Tryz.prog 34 #[.int .u32 x] w fun e w' => e = .returned (.tuple #[instV i, .bool true]) ∧ Below w.heap.size w w')
    (hA : ∀ w, Calls Tryz.prog 35 #[hartV h, instV i] w fun e w' => e = .returned (accV ⟨kd, ad, 0, v, o, q, r⟩) ∧ Below w.heap.size w w') (n4 : i.op = 4) (hp : next i.op h.pc (h.R i.rs1) (h.R i.rs2) i.imm % 4 ≠ 0) (w : World) :
    Calls Tryz.prog 16 #[hartV h, .int .u32 x, .int .i64 size] w fun e w' => e = .returned (.tuple #[accV A0, .int .i64 3]) ∧ Below w.heap.size w w' := by
  have HD := Lib.hid hD; have HA := Lib.hid hA; clear hD hA
  have m39 : ((i.op : Int) == 39) = false := beq_eq_false_iff_ne.2 (by omega)
  clear n39
  unfold hartV
  go_enter Tryz.func16, Tryz.ntmps16
  go_wp2_with fail
  refine (HD.out _).mono ?_
  rintro e w1 ⟨rfl, hb⟩
  have r0 : w1.heap[w.heap.size]? = some (.cells (hcells h).toArray 26) := (hb.block w.heap.size (by simp only [World.size_alloc]; omega)).trans (heap_b2r w _ _).1
  have r1 : w1.heap[w.heap.size + 1]? = some (.cells azero 37) := (hb.block (w.heap.size + 1) (by simp only [World.size_alloc]; omega)).trans (heap_b2r w _ _).2
  have b1 : Below w.heap.size w w1 := (((Below.refl w.heap.size w).alloc (Nat.le_refl _) _).alloc (by simp only [World.size_alloc]; omega) _).trans (hb.mono (by simp only [World.size_alloc]; omega))
  have z1 : w.heap.size + 2 ≤ w1.heap.size := by have := hb.size; simp only [World.size_alloc] at this; omega
  clear hb
  obtain ⟨W2, hW2⟩ : ∃ W2, W2 = (w1.alloc (.cells izero 85)).setRow w1.heap.size (icells i).toArray := ⟨_, rfl⟩
  have old : ∀ k, k < w1.heap.size → W2.heap[k]? = w1.heap[k]? := fun k hk => by rw [hW2]; exact (setRow_other _ _ _ _ (by omega)).trans (Below.heap_alloc _ _ _ hk)
  have q0 := (old w.heap.size (by omega)).trans r0
  have q1 := (old (w.heap.size + 1) (by omega)).trans r1
  have q4 : W2.heap[w1.heap.size]? = some (.cells (icells i).toArray 85) := by rw [hW2]; exact setRow_heap _ _ _ _ _ _ (heap_alloc_new _ _)
  have b2 : Below w.heap.size w W2 := by rw [hW2]; exact below_setRow (b1.alloc b1.size _) b1.size
  have z2 : W2.heap.size = w1.heap.size + 1 := by rw [hW2]; simp
  have c0 : W2.cell? ⟨w1.heap.size, 0, none⟩ = some (.int .i64 i.op) := by rw [cell_of_row W2 _ 0 _ _ _ q4]; rfl
  have Q0 := Lib.hid q0; have Q1 := Lib.hid q1; have Q4 := Lib.hid q4; have B2 := Lib.hid b2; have Z2 := Lib.hid z2; have Z1 := Lib.hid z1; have HW2 := Lib.hid hW2
  clear r0 r1 b1 z1 old q0 q1 q4 b2 z2 hW2
  unfold instV
  go_wp2_with (first
    | (refine wpList_store_row rfl 85 (.tmp 8) (.tmp 15) rfl w1.heap.size (icells i).toArray rfl rfl 85 izero (heap_alloc_new _ _) (by kernel_rfl) (by kernel_rfl) (by kernel_rfl) ?_; rw [← HW2.out])
    | (refine wpList_load_row rfl 26 (.tmp 3) rfl w.heap.size rfl 26 (hcells h).toArray (0, 0) _ Q0.out Tryz.underlying26 rfl (by kernel_rfl) ?_)
    | (refine wpList_load_row rfl 85 (.tmp 8) rfl w1.heap.size rfl 85 (icells i).toArray (0, 0) _ Q4.out Tryz.underlying85 rfl (by kernel_rfl) ?_))
  refine (HA.out _).mono ?_
  rintro e w3 ⟨rfl, hb⟩
  clear c0
  obtain ⟨W4, hW4⟩ : ∃ W4, W4 = (w3.alloc (.cells azero 37)).setRow w3.heap.size (acells ⟨kd, ad, 0, v, o, q, r⟩).toArray := ⟨_, rfl⟩
  have old : ∀ k, k < W2.heap.size → W4.heap[k]? = W2.heap[k]? := fun k hk => by rw [hW4]; exact (setRow_other _ _ _ _ (by have := hb.size; omega)).trans ((Below.heap_alloc _ _ _ (by have := hb.size; omega)).trans (hb.block k hk))
  have q0 := (old w.heap.size (by have := Z1.out; have := Z2.out; omega)).trans Q0.out
  have q1 := (old (w.heap.size + 1) (by have := Z1.out; have := Z2.out; omega)).trans Q1.out
  have q4 := (old w1.heap.size (by have := Z2.out; omega)).trans Q4.out
  have q5 : W4.heap[w3.heap.size]? = some (.cells (acells ⟨kd, ad, 0, v, o, q, r⟩).toArray 37) := by rw [hW4]; exact setRow_heap _ _ _ _ _ _ (heap_alloc_new _ _)
  have b3 : Below w.heap.size w w3 := B2.out.trans (hb.mono B2.out.size)
  have b4 : Below w.heap.size w W4 := by rw [hW4]; exact below_setRow (b3.alloc b3.size _) b3.size
  have c0 : W4.cell? ⟨w1.heap.size, 0, none⟩ = some (.int .i64 i.op) := by rw [cell_of_row W4 _ 0 _ _ _ q4]; rfl
  have a1 : W4.cell? ⟨w3.heap.size, 1, none⟩ = some (.int .u32 ad) := by rw [cell_of_row W4 _ 1 _ _ _ q5]; rfl
  have a2 : W4.cell? ⟨w3.heap.size, 2, none⟩ = some (.int .i64 0) := by rw [cell_of_row W4 _ 2 _ _ _ q5]; rfl
  have hr1 := hc h i.rs1 K.rs1
  have hr2 := hc h i.rs2 K.rs2
  have b1 : (i.rs1 : Int) < 32 := by have := K.rs1; omega
  have b2 : (i.rs2 : Int) < 32 := by have := K.rs2; omega
  have e0 : ∀ z : Og.On W4.heap.size W4, z.x.cell? ⟨w1.heap.size, 0, none⟩ = some (.int .i64 i.op) := fun z => Og.cellB z c0
  have e2 : ∀ z : Og.On W4.heap.size W4, z.x.cell? ⟨w1.heap.size, 2, none⟩ = some (.int .i64 i.rs1) := fun z => Og.cellB z (by rw [cell_of_row W4 _ 2 _ _ _ q4]; rfl)
  have e3 : ∀ z : Og.On W4.heap.size W4, z.x.cell? ⟨w1.heap.size, 3, none⟩ = some (.int .i64 i.rs2) := fun z => Og.cellB z (by rw [cell_of_row W4 _ 3 _ _ _ q4]; rfl)
  have g1 : ∀ z : Og.On W4.heap.size W4, z.x.cell? ⟨w.heap.size, 2 + i.rs1, none⟩ = some (.int .u32 (h.R i.rs1)) := fun z => Og.cellB z (by rw [cell_of_row W4 _ _ _ _ _ q0]; simpa using hr1)
  have g2 : ∀ z : Og.On W4.heap.size W4, z.x.cell? ⟨w.heap.size, 2 + i.rs2, none⟩ = some (.int .u32 (h.R i.rs2)) := fun z => Og.cellB z (by rw [cell_of_row W4 _ _ _ _ _ q0]; simpa using hr2)
  have l0 : ∀ z : Og.On W4.heap.size W4, (loadVar 26 ⟨w.heap.size, 0, none⟩).run Tryz.prog z.x = .ok (.agg (hcells h).toArray) z.x := fun z => Og.rowB z 26 _ q0 Tryz.underlying26 rfl (by kernel_rfl)
  have l4 : ∀ z : Og.On W4.heap.size W4, (loadVar 85 ⟨w1.heap.size, 0, none⟩).run Tryz.prog z.x = .ok (.agg (icells i).toArray) z.x := fun z => Og.rowB z 85 _ q4 Tryz.underlying85 rfl (by kernel_rfl)
  clear hr1 hr2
  have hr := setRow_heap W4 (w.heap.size + 1) azero (acells A0).toArray 37 (0, 0) q1
  have P0 := Lib.hid q0; have P1 := Lib.hid q1; have P4 := Lib.hid q4; have P5 := Lib.hid q5; have B4 := Lib.hid b4; have HW4 := Lib.hid hW4; have HR := Lib.hid hr
  clear Q0 Q1 Q4 B2 Z2 HW2 hb old q0 q1 q4 q5 b3 b4 hW4 hr
  unfold accV
  have m3 : ((i.op : Int) == 3) = false := by rw [n4]; rfl
  have m4 : ((i.op : Int) == 4) = true := by rw [n4]; rfl
  have mp : (next i.op h.pc (h.R i.rs1) (h.R i.rs2) i.imm % 4 != 0) = true := by simpa using hp
  have mq : ((next i.op h.pc (h.R i.rs1) (h.R i.rs2) i.imm).tmod 4 != 0) = true := by rw [Int.tmod_eq_emod_of_nonneg (next_nn _ _ _ _ _)]; exact mp
  clear hp
  clear n4
  go_wp2_with (have hx := HW4.out; clear HW4; refine wpList_store_row rfl 37 (.tmp 10) (.tmp 26) rfl w3.heap.size (acells ⟨kd, ad, 0, v, o, q, r⟩).toArray rfl rfl 37 azero (heap_alloc_new _ _) (by kernel_rfl) (by kernel_rfl) (by kernel_rfl) ?_; rw [← hx]; clear hx)
  refine Og.regionB (by kernel_rfl) (by kernel_rfl) ?_
  repeat (first
    | go_big_quiet_skip
    | (go_big_quiet_want
       first
        | (refine Og.quiet_load 26 (.tmp 3) rfl (.agg (hcells h).toArray) ⟨w.heap.size, 0, none⟩ _ rfl (by rintro _ ⟨z, rfl⟩; exact l0 z) (by simp only [Act.put, List.setIfInBounds_toArray, List.set_cons_zero, List.set_cons_succ]; rfl) ?_
           go_big_quiet_on)
        | (refine Og.quiet_load 85 (.tmp 8) rfl (.agg (icells i).toArray) ⟨w1.heap.size, 0, none⟩ _ rfl (by rintro _ ⟨z, rfl⟩; exact l4 z) (by simp only [Act.put, List.setIfInBounds_toArray, List.set_cons_zero, List.set_cons_succ]; rfl) ?_
           go_big_quiet_on)
        | (go_big_quiet_op
           first
            | go_big_quiet_on
            | (apply Exists.intro
               refine ⟨fun z => ?_, ?_⟩
               · first
                  | (go_at_call 36; exact Og.callS (rtaken_any i.op _ _ (K.R _) (K.R _) _))
                  | (go_at_call 37; exact Og.callB (rnext_any h i K _))
               go_big_quiet_on))))
  refine wpQuiet_nil ?_
  intro _ hw'
  obtain ⟨q9, hw''⟩ := hw'
  subst hw''

  have Q1 := Lib.hid ((q9.b.block (w.heap.size + 1) (Array.getElem?_eq_some_iff.1 P1.out).1).trans P1.out)
  go_wp2_with (refine wpList_store_row rfl 37 (.tmp 6) (.tmp 83) rfl (w.heap.size + 1) (acells A0).toArray rfl rfl 37 azero Q1.out (by kernel_rfl) (by kernel_rfl) (by kernel_rfl) ?_)
  refine bodyPost_ret (v := .tuple #[.agg (acells A0).toArray, .int .i64 3]) ?_ rfl ⟨rfl, ?_⟩
  · exact results_row2 (fn := Tryz.f16) rfl _ _ (w.heap.size + 1) 37 (acells A0).toArray (0, 0) _ rfl (setRow_heap q9.x (w.heap.size + 1) azero (acells A0).toArray 37 (0, 0) Q1.out) Tryz.underlying37 rfl (by kernel_rfl)
  · exact below_setRow (B4.out.trans (q9.b.mono B4.out.size)) (by omega)
set_option maxRecDepth 100000 in
set_option maxHeartbeats 4000000 in
theorem ract_taken_bad (h : H) (i : I) (x size : Int) (hz : -9223372036854775808 ≤ size ∧ size ≤ 9223372036854775807) (K : HIOk h i) (n39 : i.op ≠ 39) (kd ad v o : Int) (q r : Bool) (had : 0 ≤ ad ∧ ad ≤ 4294967295)
    (hD : ∀ w, Calls Tryz.prog 34 #[.int .u32 x] w fun e w' => e = .returned (.tuple #[instV i, .bool true]) ∧ Below w.heap.size w w')
    (hA : ∀ w, Calls Tryz.prog 35 #[hartV h, instV i] w fun e w' => e = .returned (accV ⟨kd, ad, 0, v, o, q, r⟩) ∧ Below w.heap.size w w') (n3 : i.op ≠ 3 ∧ i.op ≠ 4) (ht : taken i.op (h.R i.rs1) (h.R i.rs2) = true) (hp : next i.op h.pc (h.R i.rs1) (h.R i.rs2) i.imm % 4 ≠ 0) (w : World) :
    Calls Tryz.prog 16 #[hartV h, .int .u32 x, .int .i64 size] w fun e w' => e = .returned (.tuple #[accV A0, .int .i64 3]) ∧ Below w.heap.size w w' := by
  have HD := Lib.hid hD; have HA := Lib.hid hA; clear hD hA
  have m39 : ((i.op : Int) == 39) = false := beq_eq_false_iff_ne.2 (by omega)
  clear n39
  unfold hartV
  go_enter Tryz.func16, Tryz.ntmps16
  go_wp2_with fail
  refine (HD.out _).mono ?_
  rintro e w1 ⟨rfl, hb⟩
  have r0 : w1.heap[w.heap.size]? = some (.cells (hcells h).toArray 26) := (hb.block w.heap.size (by simp only [World.size_alloc]; omega)).trans (heap_b2r w _ _).1
  have r1 : w1.heap[w.heap.size + 1]? = some (.cells azero 37) := (hb.block (w.heap.size + 1) (by simp only [World.size_alloc]; omega)).trans (heap_b2r w _ _).2
  have b1 : Below w.heap.size w w1 := (((Below.refl w.heap.size w).alloc (Nat.le_refl _) _).alloc (by simp only [World.size_alloc]; omega) _).trans (hb.mono (by simp only [World.size_alloc]; omega))
  have z1 : w.heap.size + 2 ≤ w1.heap.size := by have := hb.size; simp only [World.size_alloc] at this; omega
  clear hb
  obtain ⟨W2, hW2⟩ : ∃ W2, W2 = (w1.alloc (.cells izero 85)).setRow w1.heap.size (icells i).toArray := ⟨_, rfl⟩
  have old : ∀ k, k < w1.heap.size → W2.heap[k]? = w1.heap[k]? := fun k hk => by rw [hW2]; exact (setRow_other _ _ _ _ (by omega)).trans (Below.heap_alloc _ _ _ hk)
  have q0 := (old w.heap.size (by omega)).trans r0
  have q1 := (old (w.heap.size + 1) (by omega)).trans r1
  have q4 : W2.heap[w1.heap.size]? = some (.cells (icells i).toArray 85) := by rw [hW2]; exact setRow_heap _ _ _ _ _ _ (heap_alloc_new _ _)
  have b2 : Below w.heap.size w W2 := by rw [hW2]; exact below_setRow (b1.alloc b1.size _) b1.size
  have z2 : W2.heap.size = w1.heap.size + 1 := by rw [hW2]; simp
  have c0 : W2.cell? ⟨w1.heap.size, 0, none⟩ = some (.int .i64 i.op) := by rw [cell_of_row W2 _ 0 _ _ _ q4]; rfl
  have Q0 := Lib.hid q0; have Q1 := Lib.hid q1; have Q4 := Lib.hid q4; have B2 := Lib.hid b2; have Z2 := Lib.hid z2; have Z1 := Lib.hid z1; have HW2 := Lib.hid hW2
  clear r0 r1 b1 z1 old q0 q1 q4 b2 z2 hW2
  unfold instV
  go_wp2_with (first
    | (refine wpList_store_row rfl 85 (.tmp 8) (.tmp 15) rfl w1.heap.size (icells i).toArray rfl rfl 85 izero (heap_alloc_new _ _) (by kernel_rfl) (by kernel_rfl) (by kernel_rfl) ?_; rw [← HW2.out])
    | (refine wpList_load_row rfl 26 (.tmp 3) rfl w.heap.size rfl 26 (hcells h).toArray (0, 0) _ Q0.out Tryz.underlying26 rfl (by kernel_rfl) ?_)
    | (refine wpList_load_row rfl 85 (.tmp 8) rfl w1.heap.size rfl 85 (icells i).toArray (0, 0) _ Q4.out Tryz.underlying85 rfl (by kernel_rfl) ?_))
  refine (HA.out _).mono ?_
  rintro e w3 ⟨rfl, hb⟩
  clear c0
  obtain ⟨W4, hW4⟩ : ∃ W4, W4 = (w3.alloc (.cells azero 37)).setRow w3.heap.size (acells ⟨kd, ad, 0, v, o, q, r⟩).toArray := ⟨_, rfl⟩
  have old : ∀ k, k < W2.heap.size → W4.heap[k]? = W2.heap[k]? := fun k hk => by rw [hW4]; exact (setRow_other _ _ _ _ (by have := hb.size; omega)).trans ((Below.heap_alloc _ _ _ (by have := hb.size; omega)).trans (hb.block k hk))
  have q0 := (old w.heap.size (by have := Z1.out; have := Z2.out; omega)).trans Q0.out
  have q1 := (old (w.heap.size + 1) (by have := Z1.out; have := Z2.out; omega)).trans Q1.out
  have q4 := (old w1.heap.size (by have := Z2.out; omega)).trans Q4.out
  have q5 : W4.heap[w3.heap.size]? = some (.cells (acells ⟨kd, ad, 0, v, o, q, r⟩).toArray 37) := by rw [hW4]; exact setRow_heap _ _ _ _ _ _ (heap_alloc_new _ _)
  have b3 : Below w.heap.size w w3 := B2.out.trans (hb.mono B2.out.size)
  have b4 : Below w.heap.size w W4 := by rw [hW4]; exact below_setRow (b3.alloc b3.size _) b3.size
  have c0 : W4.cell? ⟨w1.heap.size, 0, none⟩ = some (.int .i64 i.op) := by rw [cell_of_row W4 _ 0 _ _ _ q4]; rfl
  have a1 : W4.cell? ⟨w3.heap.size, 1, none⟩ = some (.int .u32 ad) := by rw [cell_of_row W4 _ 1 _ _ _ q5]; rfl
  have a2 : W4.cell? ⟨w3.heap.size, 2, none⟩ = some (.int .i64 0) := by rw [cell_of_row W4 _ 2 _ _ _ q5]; rfl
  have hr1 := hc h i.rs1 K.rs1
  have hr2 := hc h i.rs2 K.rs2
  have b1 : (i.rs1 : Int) < 32 := by have := K.rs1; omega
  have b2 : (i.rs2 : Int) < 32 := by have := K.rs2; omega
  have e0 : ∀ z : Og.On W4.heap.size W4, z.x.cell? ⟨w1.heap.size, 0, none⟩ = some (.int .i64 i.op) := fun z => Og.cellB z c0
  have e2 : ∀ z : Og.On W4.heap.size W4, z.x.cell? ⟨w1.heap.size, 2, none⟩ = some (.int .i64 i.rs1) := fun z => Og.cellB z (by rw [cell_of_row W4 _ 2 _ _ _ q4]; rfl)
  have e3 : ∀ z : Og.On W4.heap.size W4, z.x.cell? ⟨w1.heap.size, 3, none⟩ = some (.int .i64 i.rs2) := fun z => Og.cellB z (by rw [cell_of_row W4 _ 3 _ _ _ q4]; rfl)
  have g1 : ∀ z : Og.On W4.heap.size W4, z.x.cell? ⟨w.heap.size, 2 + i.rs1, none⟩ = some (.int .u32 (h.R i.rs1)) := fun z => Og.cellB z (by rw [cell_of_row W4 _ _ _ _ _ q0]; simpa using hr1)
  have g2 : ∀ z : Og.On W4.heap.size W4, z.x.cell? ⟨w.heap.size, 2 + i.rs2, none⟩ = some (.int .u32 (h.R i.rs2)) := fun z => Og.cellB z (by rw [cell_of_row W4 _ _ _ _ _ q0]; simpa using hr2)
  have l0 : ∀ z : Og.On W4.heap.size W4, (loadVar 26 ⟨w.heap.size, 0, none⟩).run Tryz.prog z.x = .ok (.agg (hcells h).toArray) z.x := fun z => Og.rowB z 26 _ q0 Tryz.underlying26 rfl (by kernel_rfl)
  have l4 : ∀ z : Og.On W4.heap.size W4, (loadVar 85 ⟨w1.heap.size, 0, none⟩).run Tryz.prog z.x = .ok (.agg (icells i).toArray) z.x := fun z => Og.rowB z 85 _ q4 Tryz.underlying85 rfl (by kernel_rfl)
  clear hr1 hr2
  have hr := setRow_heap W4 (w.heap.size + 1) azero (acells A0).toArray 37 (0, 0) q1
  have P0 := Lib.hid q0; have P1 := Lib.hid q1; have P4 := Lib.hid q4; have P5 := Lib.hid q5; have B4 := Lib.hid b4; have HW4 := Lib.hid hW4; have HR := Lib.hid hr
  clear Q0 Q1 Q4 B2 Z2 HW2 hb old q0 q1 q4 q5 b3 b4 hW4 hr
  unfold accV
  have m3 : ((i.op : Int) == 3) = false := beq_eq_false_iff_ne.2 (by omega)
  have m4 : ((i.op : Int) == 4) = false := beq_eq_false_iff_ne.2 (by omega)
  clear n3
  have mp : (next i.op h.pc (h.R i.rs1) (h.R i.rs2) i.imm % 4 != 0) = true := by simpa using hp
  have mq : ((next i.op h.pc (h.R i.rs1) (h.R i.rs2) i.imm).tmod 4 != 0) = true := by rw [Int.tmod_eq_emod_of_nonneg (next_nn _ _ _ _ _)]; exact mp
  clear hp
  go_wp2_with (have hx := HW4.out; clear HW4; refine wpList_store_row rfl 37 (.tmp 10) (.tmp 26) rfl w3.heap.size (acells ⟨kd, ad, 0, v, o, q, r⟩).toArray rfl rfl 37 azero (heap_alloc_new _ _) (by kernel_rfl) (by kernel_rfl) (by kernel_rfl) ?_; rw [← hx]; clear hx)
  refine Og.regionB (by kernel_rfl) (by kernel_rfl) ?_
  repeat (first
    | go_big_quiet_skip
    | (go_big_quiet_want
       first
        | (refine Og.quiet_load 26 (.tmp 3) rfl (.agg (hcells h).toArray) ⟨w.heap.size, 0, none⟩ _ rfl (by rintro _ ⟨z, rfl⟩; exact l0 z) (by simp only [Act.put, List.setIfInBounds_toArray, List.set_cons_zero, List.set_cons_succ]; rfl) ?_
           go_big_quiet_on)
        | (refine Og.quiet_load 85 (.tmp 8) rfl (.agg (icells i).toArray) ⟨w1.heap.size, 0, none⟩ _ rfl (by rintro _ ⟨z, rfl⟩; exact l4 z) (by simp only [Act.put, List.setIfInBounds_toArray, List.set_cons_zero, List.set_cons_succ]; rfl) ?_
           go_big_quiet_on)
        | (go_big_quiet_op
           first
            | go_big_quiet_on
            | (apply Exists.intro
               refine ⟨fun z => ?_, ?_⟩
               · first
                  | (go_at_call 36; exact Og.callS (rtaken_any i.op _ _ (K.R _) (K.R _) _))
                  | (go_at_call 37; exact Og.callB (rnext_any h i K _))
               go_big_quiet_on))))
  refine wpQuiet_nil ?_
  intro _ hw'
  obtain ⟨q9, hw''⟩ := hw'
  subst hw''

  have Q1 := Lib.hid ((q9.b.block (w.heap.size + 1) (Array.getElem?_eq_some_iff.1 P1.out).1).trans P1.out)
  go_wp2_with (refine wpList_store_row rfl 37 (.tmp 6) (.tmp 83) rfl (w.heap.size + 1) (acells A0).toArray rfl rfl 37 azero Q1.out (by kernel_rfl) (by kernel_rfl) (by kernel_rfl) ?_)
  refine bodyPost_ret (v := .tuple #[.agg (acells A0).toArray, .int .i64 3]) ?_ rfl ⟨rfl, ?_⟩
  · exact results_row2 (fn := Tryz.f16) rfl _ _ (w.heap.size + 1) 37 (acells A0).toArray (0, 0) _ rfl (setRow_heap q9.x (w.heap.size + 1) azero (acells A0).toArray 37 (0, 0) Q1.out) Tryz.underlying37 rfl (by kernel_rfl)
  · exact below_setRow (B4.out.trans (q9.b.mono B4.out.size)) (by omega)
end Go.Proofs.YtianojbdabeoeaaGreatDoor
end

section
namespace Go.Proofs.YtianojbdabeoeaaGreatDoor
open Go.RowKit Ht
set_option linter.unusedVariables false
theorem rdec_hit (x : Int) (hx : Is.Wd x) (op : Nat) (h : Hit op x) (w : World) :
    Calls Tryz.prog 34 #[.int .u32 x] w fun e w' => e = .returned (.tuple #[instV (insOf op x), .bool true]) ∧ Below w.heap.size w w' := by
  rw [← instV_of hx]
  exact rdec_is x hx op ⟨h.1, h.2.1⟩ h.2.2 w
set_option maxRecDepth 100000 in
set_option maxHeartbeats 4000000 in
theorem ract_ill (h : H) (i : I) (x size : Int) 
    (hD : ∀ w, Calls Tryz.prog 34 #[.int .u32 x] w fun e w' => e = .returned (.tuple #[instV i, .bool false]) ∧ Below w.heap.size w w') (w : World) :
    Calls Tryz.prog 16 #[hartV h, .int .u32 x, .int .i64 size] w fun e w' => e = .returned (.tuple #[accV A0, .int .i64 2]) ∧ Below w.heap.size w w' := by
  have HD := Lib.hid hD; clear hD

  unfold hartV
  go_enter Tryz.func16, Tryz.ntmps16
  go_wp2_with fail
  refine (HD.out _).mono ?_
  rintro e w1 ⟨rfl, hb⟩
  have r0 : w1.heap[w.heap.size]? = some (.cells (hcells h).toArray 26) := (hb.block w.heap.size (by simp only [World.size_alloc]; omega)).trans (heap_b2r w _ _).1
  have r1 : w1.heap[w.heap.size + 1]? = some (.cells azero 37) := (hb.block (w.heap.size + 1) (by simp only [World.size_alloc]; omega)).trans (heap_b2r w _ _).2
  have b1 : Below w.heap.size w w1 := (((Below.refl w.heap.size w).alloc (Nat.le_refl _) _).alloc (by simp only [World.size_alloc]; omega) _).trans (hb.mono (by simp only [World.size_alloc]; omega))
  have z1 : w.heap.size + 2 ≤ w1.heap.size := by have := hb.size; simp only [World.size_alloc] at this; omega
  clear hb
  obtain ⟨W2, hW2⟩ : ∃ W2, W2 = (w1.alloc (.cells izero 85)).setRow w1.heap.size (icells i).toArray := ⟨_, rfl⟩
  have old : ∀ k, k < w1.heap.size → W2.heap[k]? = w1.heap[k]? := fun k hk => by rw [hW2]; exact (setRow_other _ _ _ _ (by omega)).trans (Below.heap_alloc _ _ _ hk)
  have q0 := (old w.heap.size (by omega)).trans r0
  have q1 := (old (w.heap.size + 1) (by omega)).trans r1
  have q4 : W2.heap[w1.heap.size]? = some (.cells (icells i).toArray 85) := by rw [hW2]; exact setRow_heap _ _ _ _ _ _ (heap_alloc_new _ _)
  have b2 : Below w.heap.size w W2 := by rw [hW2]; exact below_setRow (b1.alloc b1.size _) b1.size
  have z2 : W2.heap.size = w1.heap.size + 1 := by rw [hW2]; simp
  have c0 : W2.cell? ⟨w1.heap.size, 0, none⟩ = some (.int .i64 i.op) := by rw [cell_of_row W2 _ 0 _ _ _ q4]; rfl
  have Q1 := Lib.hid q1; have B2 := Lib.hid b2; have HW2 := Lib.hid hW2; have HR := Lib.hid (setRow_heap W2 (w.heap.size + 1) azero (acells A0).toArray 37 (0, 0) q1)
  clear r0 r1 b1 z1 old q0 q1 q4 b2 z2 hW2
  unfold instV
  go_wp2_with (first
    | (refine wpList_store_row rfl 85 (.tmp 8) (.tmp 15) rfl w1.heap.size (icells i).toArray rfl rfl 85 izero (heap_alloc_new _ _) (by kernel_rfl) (by kernel_rfl) (by kernel_rfl) ?_; rw [← HW2.out])
    | (refine wpList_store_row rfl 37 (.tmp 6) (.tmp 19) rfl (w.heap.size + 1) (acells A0).toArray rfl rfl 37 azero Q1.out (by kernel_rfl) (by kernel_rfl) (by kernel_rfl) ?_))
  refine bodyPost_ret (v := .tuple #[.agg (acells A0).toArray, .int .i64 2]) ?_ rfl ⟨rfl, ?_⟩
  · exact results_row2 (fn := Tryz.f16) rfl _ _ (w.heap.size + 1) 37 (acells A0).toArray (0, 0) _ rfl HR.out Tryz.underlying37 rfl (by kernel_rfl)
  · exact below_setRow B2.out (by omega)
set_option maxRecDepth 100000 in
set_option maxHeartbeats 4000000 in
theorem ract_ecall (h : H) (i : I) (x size : Int) (n39 : i.op = 39)
    (hD : ∀ w, Calls Tryz.prog 34 #[.int .u32 x] w fun e w' => e = .returned (.tuple #[instV i, .bool true]) ∧ Below w.heap.size w w') (w : World) :
    Calls Tryz.prog 16 #[hartV h, .int .u32 x, .int .i64 size] w fun e w' => e = .returned (.tuple #[accV A0, .int .i64 1]) ∧ Below w.heap.size w w' := by
  have HD := Lib.hid hD; clear hD
  have m39 : ((i.op : Int) == 39) = true := by rw [n39]; rfl
  clear n39
  unfold hartV
  go_enter Tryz.func16, Tryz.ntmps16
  go_wp2_with fail
  refine (HD.out _).mono ?_
  rintro e w1 ⟨rfl, hb⟩
  have r0 : w1.heap[w.heap.size]? = some (.cells (hcells h).toArray 26) := (hb.block w.heap.size (by simp only [World.size_alloc]; omega)).trans (heap_b2r w _ _).1
  have r1 : w1.heap[w.heap.size + 1]? = some (.cells azero 37) := (hb.block (w.heap.size + 1) (by simp only [World.size_alloc]; omega)).trans (heap_b2r w _ _).2
  have b1 : Below w.heap.size w w1 := (((Below.refl w.heap.size w).alloc (Nat.le_refl _) _).alloc (by simp only [World.size_alloc]; omega) _).trans (hb.mono (by simp only [World.size_alloc]; omega))
  have z1 : w.heap.size + 2 ≤ w1.heap.size := by have := hb.size; simp only [World.size_alloc] at this; omega
  clear hb
  obtain ⟨W2, hW2⟩ : ∃ W2, W2 = (w1.alloc (.cells izero 85)).setRow w1.heap.size (icells i).toArray := ⟨_, rfl⟩
  have old : ∀ k, k < w1.heap.size → W2.heap[k]? = w1.heap[k]? := fun k hk => by rw [hW2]; exact (setRow_other _ _ _ _ (by omega)).trans (Below.heap_alloc _ _ _ hk)
  have q0 := (old w.heap.size (by omega)).trans r0
  have q1 := (old (w.heap.size + 1) (by omega)).trans r1
  have q4 : W2.heap[w1.heap.size]? = some (.cells (icells i).toArray 85) := by rw [hW2]; exact setRow_heap _ _ _ _ _ _ (heap_alloc_new _ _)
  have b2 : Below w.heap.size w W2 := by rw [hW2]; exact below_setRow (b1.alloc b1.size _) b1.size
  have z2 : W2.heap.size = w1.heap.size + 1 := by rw [hW2]; simp
  have c0 : W2.cell? ⟨w1.heap.size, 0, none⟩ = some (.int .i64 i.op) := by rw [cell_of_row W2 _ 0 _ _ _ q4]; rfl
  have Q1 := Lib.hid q1; have B2 := Lib.hid b2; have HW2 := Lib.hid hW2; have HR := Lib.hid (setRow_heap W2 (w.heap.size + 1) azero (acells A0).toArray 37 (0, 0) q1)
  clear r0 r1 b1 z1 old q0 q1 q4 b2 z2 hW2
  unfold instV
  go_wp2_with (first
    | (refine wpList_store_row rfl 85 (.tmp 8) (.tmp 15) rfl w1.heap.size (icells i).toArray rfl rfl 85 izero (heap_alloc_new _ _) (by kernel_rfl) (by kernel_rfl) (by kernel_rfl) ?_; rw [← HW2.out])
    | (refine wpList_store_row rfl 37 (.tmp 6) (.tmp 23) rfl (w.heap.size + 1) (acells A0).toArray rfl rfl 37 azero Q1.out (by kernel_rfl) (by kernel_rfl) (by kernel_rfl) ?_))
  refine bodyPost_ret (v := .tuple #[.agg (acells A0).toArray, .int .i64 1]) ?_ rfl ⟨rfl, ?_⟩
  · exact results_row2 (fn := Tryz.f16) rfl _ _ (w.heap.size + 1) 37 (acells A0).toArray (0, 0) _ rfl HR.out Tryz.underlying37 rfl (by kernel_rfl)
  · exact below_setRow B2.out (by omega)
/-- what an access is, part by part -/
theorem Ht.acc_w (op : Nat) (hop : 1 ≤ op ∧ op ≤ 59) (a b imm : Int) (aq rl : Bool) :
    ∃ kd v o q r, acc op a b imm aq rl = ⟨kd, if width op = 0 then 0 else Ar.add a imm, width op, v, o, q, r⟩ := by
  rcases ops hop with rfl | rfl | rfl | rfl | rfl | rfl | rfl | rfl | rfl | rfl | rfl | rfl | rfl | rfl | rfl | rfl | rfl | rfl | rfl | rfl | rfl | rfl | rfl | rfl | rfl | rfl | rfl | rfl | rfl | rfl | rfl | rfl | rfl | rfl | rfl | rfl | rfl | rfl | rfl | rfl | rfl | rfl | rfl | rfl | rfl | rfl | rfl | rfl | rfl | rfl | rfl | rfl | rfl | rfl | rfl | rfl | rfl | rfl | rfl <;> exact ⟨_, _, _, _, _, rfl⟩
theorem Ht.width_in (op : Nat) : width op = 0 ∨ width op = 1 ∨ width op = 2 ∨ width op = 4 := by
  unfold width; split <;> simp
theorem Ht.width_op (op : Nat) (h : width op ≠ 0) : 11 ≤ op := by
  unfold width at h; split at h <;> omega
theorem Ht.acc_z (op : Nat) (hop : 1 ≤ op ∧ op ≤ 59) (a b imm : Int) (aq rl : Bool) (h : jumps op a b = true) : acc op a b imm aq rl = A0 ∧ width op = 0 ∧ op ≠ 39 := by
  have hle : op ≤ 10 := by
    rcases Nat.lt_or_ge 10 op with h' | h'
    · exfalso
      unfold jumps at h
      have ht : taken op a b = false := by unfold taken; split <;> first | rfl | omega
      rw [ht, beq_eq_false_iff_ne.2 (show op ≠ 3 by omega), beq_eq_false_iff_ne.2 (show op ≠ 4 by omega)] at h
      exact Bool.false_ne_true h
    · exact h'
  refine ⟨acc_none op hle a b imm aq rl, ?_, by omega⟩
  unfold width; split <;> first | rfl | omega
theorem Ht.next_place {op : Nat} {a b : Int} (pc imm : Int) (h : jumps op a b = true) : next op pc a b imm = place op pc a imm := by unfold next; rw [h]; rfl
set_option maxHeartbeats 1000000 in
/-- the document's answer of an instruction -/
theorem ract_hit (h : H) (i : I) (x size : Int) (hz : -9223372036854775808 ≤ size ∧ size ≤ 9223372036854775807) (K : HIOk h i) (hop : 1 ≤ i.op ∧ i.op ≤ 59)
    (hD : ∀ w, Calls Tryz.prog 34 #[.int .u32 x] w fun e w' => e = .returned (.tuple #[instV i, .bool true]) ∧ Below w.heap.size w w') (w : World) :
    Calls Tryz.prog 16 #[hartV h, .int .u32 x, .int .i64 size] w fun e w' =>
      e = .returned (.tuple #[accV (if why i.op h.pc (h.R i.rs1) (h.R i.rs2) i.imm size = 0 then acc i.op (h.R i.rs1) (h.R i.rs2) i.imm i.aq i.rl else A0), .int .i64 (why i.op h.pc (h.R i.rs1) (h.R i.rs2) i.imm size)]) ∧ Below w.heap.size w w' := by
  by_cases n39 : i.op = 39
  · have hw : why i.op h.pc (h.R i.rs1) (h.R i.rs2) i.imm size = 1 := by unfold why; rw [if_pos n39]
    rw [hw]
    exact ract_ecall h i x size n39 hD w
  obtain ⟨kd, v, o, q, r, ha⟩ := acc_w i.op hop (h.R i.rs1) (h.R i.rs2) i.imm i.aq i.rl
  have hA := fun w => racc_any h i hop K w
  have had : 0 ≤ (if width i.op = 0 then 0 else Ar.add (h.R i.rs1) i.imm) ∧ (if width i.op = 0 then 0 else Ar.add (h.R i.rs1) i.imm) ≤ 4294967295 := by
    have := Ar.md_wd (h.R i.rs1 + i.imm)
    unfold Ar.Wd at this
    unfold Ar.add
    split
    · omega
    · exact this
  by_cases w0 : width i.op = 0
  · rw [ha] at hA
    rw [if_pos w0] at ha had hA
    rw [w0] at ha hA
    have hw : why i.op h.pc (h.R i.rs1) (h.R i.rs2) i.imm size = if jumps i.op (h.R i.rs1) (h.R i.rs2) = true ∧ place i.op h.pc (h.R i.rs1) i.imm % 4 ≠ 0 then 3 else 0 := by
      unfold why
      rw [if_neg n39, if_neg (fun g => g.1 w0), if_neg (fun g => g.1 w0)]
    cases hj : jumps i.op (h.R i.rs1) (h.R i.rs2)
    · have hj0 := hj
      unfold jumps at hj0
      simp only [Bool.or_eq_false_iff, beq_eq_false_iff_ne] at hj0
      have hw0 : why i.op h.pc (h.R i.rs1) (h.R i.rs2) i.imm size = 0 := by rw [hw, hj, if_neg (fun g => Bool.false_ne_true g.1)]
      rw [hw0, if_pos rfl, ha]
      exact ract_plain h i x size hz K n39 kd 0 v o q r (by omega) hD hA hj0.1 hj0.2 w
    · have hp := next_place h.pc i.imm hj
      obtain ⟨az, _, _⟩ := acc_z i.op hop (h.R i.rs1) (h.R i.rs2) i.imm i.aq i.rl hj
      by_cases hb : place i.op h.pc (h.R i.rs1) i.imm % 4 = 0
      · have hw0 : why i.op h.pc (h.R i.rs1) (h.R i.rs2) i.imm size = 0 := by rw [hw, if_neg (fun g => g.2 hb)]
        rw [hw0, if_pos rfl, ha]
        rw [← hp] at hb
        by_cases n3 : i.op = 3
        · exact ract_jal_ok h i x size hz K n39 kd 0 v o q r (by omega) hD hA n3 hb w
        by_cases n4 : i.op = 4
        · exact ract_jalr_ok h i x size hz K n39 kd 0 v o q r (by omega) hD hA n4 hb w
        have ht : taken i.op (h.R i.rs1) (h.R i.rs2) = true := by
          unfold jumps at hj
          rwa [beq_eq_false_iff_ne.2 n3, beq_eq_false_iff_ne.2 n4, Bool.false_or, Bool.false_or] at hj
        exact ract_taken_ok h i x size hz K n39 kd 0 v o q r (by omega) hD hA ⟨n3, n4⟩ ht hb w
      · have hw3 : why i.op h.pc (h.R i.rs1) (h.R i.rs2) i.imm size = 3 := by rw [hw, if_pos ⟨hj, hb⟩]
        rw [hw3, if_neg (by decide)]
        rw [← hp] at hb
        by_cases n3 : i.op = 3
        · exact ract_jal_bad h i x size hz K n39 kd 0 v o q r (by omega) hD hA n3 hb w
        by_cases n4 : i.op = 4
        · exact ract_jalr_bad h i x size hz K n39 kd 0 v o q r (by omega) hD hA n4 hb w
        have ht : taken i.op (h.R i.rs1) (h.R i.rs2) = true := by
          unfold jumps at hj
          rwa [beq_eq_false_iff_ne.2 n3, beq_eq_false_iff_ne.2 n4, Bool.false_or, Bool.false_or] at hj
        exact ract_taken_bad h i x size hz K n39 kd 0 v o q r (by omega) hD hA ⟨n3, n4⟩ ht hb w
  · rw [ha] at hA
    rw [if_neg w0] at ha had hA
    have h11 := width_op i.op w0
    have ht : taken i.op (h.R i.rs1) (h.R i.rs2) = false := by unfold taken; split <;> first | rfl | omega
    have hj : jumps i.op (h.R i.rs1) (h.R i.rs2) = false := by
      unfold jumps
      rw [ht, beq_eq_false_iff_ne.2 (show i.op ≠ 3 by omega), beq_eq_false_iff_ne.2 (show i.op ≠ 4 by omega)]; rfl
    have hw : why i.op h.pc (h.R i.rs1) (h.R i.rs2) i.imm size = if Ar.add (h.R i.rs1) i.imm % (width i.op : Int) ≠ 0 then 3 else if size < Ar.add (h.R i.rs1) i.imm + (width i.op : Int) then 4 else 0 := by
      unfold why
      rw [if_neg n39, hj]
      simp only [w0, ne_eq, not_false_eq_true, true_and, Bool.false_eq_true, false_and, if_false]
    generalize hadd : Ar.add (h.R i.rs1) i.imm = ad at hw ha hA had
    rcases width_in i.op with hk | hk | hk | hk
    · exact absurd hk w0
    · rw [hk, show ((1 : Nat) : Int) = 1 from rfl] at hw ha hA
      by_cases hm : ad % 1 = 0
      · by_cases ho : size < ad + 1
        · have hw4 : why i.op h.pc (h.R i.rs1) (h.R i.rs2) i.imm size = 4 := by rw [hw, if_neg (fun g => g hm), if_pos ho]
          rw [hw4]
          exact ract_out1 h i x size hz K n39 kd ad v o q r had hD hA hm ho w
        · have hw0 : why i.op h.pc (h.R i.rs1) (h.R i.rs2) i.imm size = 0 := by rw [hw, if_neg (fun g => g hm), if_neg ho]
          rw [hw0, if_pos rfl, ha]
          exact ract_acc1 h i x size hz K n39 kd ad v o q r had hD hA hm (by omega) ⟨by omega, by omega⟩ ht w
      · exact absurd (Int.emod_one ad) hm
    · rw [hk, show ((2 : Nat) : Int) = 2 from rfl] at hw ha hA
      by_cases hm : ad % 2 = 0
      · by_cases ho : size < ad + 2
        · have hw4 : why i.op h.pc (h.R i.rs1) (h.R i.rs2) i.imm size = 4 := by rw [hw, if_neg (fun g => g hm), if_pos ho]
          rw [hw4]
          exact ract_out2 h i x size hz K n39 kd ad v o q r had hD hA hm ho w
        · have hw0 : why i.op h.pc (h.R i.rs1) (h.R i.rs2) i.imm size = 0 := by rw [hw, if_neg (fun g => g hm), if_neg ho]
          rw [hw0, if_pos rfl, ha]
          exact ract_acc2 h i x size hz K n39 kd ad v o q r had hD hA hm (by omega) ⟨by omega, by omega⟩ ht w
      · have hw3 : why i.op h.pc (h.R i.rs1) (h.R i.rs2) i.imm size = 3 := by rw [hw, if_pos hm]
        rw [hw3]
        exact ract_mis2 h i x size hz K n39 kd ad v o q r had hD hA hm w
    · rw [hk, show ((4 : Nat) : Int) = 4 from rfl] at hw ha hA
      by_cases hm : ad % 4 = 0
      · by_cases ho : size < ad + 4
        · have hw4 : why i.op h.pc (h.R i.rs1) (h.R i.rs2) i.imm size = 4 := by rw [hw, if_neg (fun g => g hm), if_pos ho]
          rw [hw4]
          exact ract_out4 h i x size hz K n39 kd ad v o q r had hD hA hm ho w
        · have hw0 : why i.op h.pc (h.R i.rs1) (h.R i.rs2) i.imm size = 0 := by rw [hw, if_neg (fun g => g hm), if_neg ho]
          rw [hw0, if_pos rfl, ha]
          exact ract_acc4 h i x size hz K n39 kd ad v o q r had hD hA hm (by omega) ⟨by omega, by omega⟩ ht w
      · have hw3 : why i.op h.pc (h.R i.rs1) (h.R i.rs2) i.imm size = 3 := by rw [hw, if_pos hm]
        rw [hw3]
        exact ract_mis4 h i x size hz K n39 kd ad v o q r had hD hA hm w
theorem Ht.hi_ok {h : H} {x : Int} {op : Nat} (hb : HB h) (g : goes h = true) (hx : Is.Wd x) : HIOk h (insOf op x) := by
  obtain ⟨h1, h2, h3⟩ := reg_bd hx (Is.fm op)
  exact ⟨by show (Is.rs1O (Is.fm op) x).toNat ≤ 31; omega, by show (Is.rs2O (Is.fm op) x).toNat ≤ 31; omega, imm_wd _ hx, hb.R, hb.pc, (may_id (goes_yes g).1).1⟩
theorem Ht.put_cause (h : H) (rd : Nat) (n : Int) : (Ht.put h rd n).cause = h.cause := by unfold Ht.put; split <;> rfl
/-- what the program tells, the document tells -/
theorem ract_of {h : H} {x size tv : Int} {tok : Bool} {s : S} {err : Int} (o : Out h x size tv tok s err) (g : goes h = true) (hb : HB h) (hx : Is.Wd x) (hs : -9223372036854775808 ≤ size ∧ size ≤ 9223372036854775807) (w : World) :
    Calls Tryz.prog 16 #[hartV h, .int .u32 x, .int .i64 size] w fun e w' => e = .returned (.tuple #[accV s.a, .int .i64 s.h.cause]) ∧ Below w.heap.size w w' := by
  cases o with
  | arg g' => rw [g] at g'; cases g'
  | ill g' n => exact ract_ill h ⟨0, 0, 0, 0, 0, false, false⟩ x size (fun w => rdec_none x hx (fun op h1 h2 => n op ⟨h1.1, h1.2, h2⟩) w) w
  | halt op g' e n =>
    have := ract_hit h (insOf op x) x size hs (hi_ok hb g hx) ⟨e.1, e.2.1⟩ (fun w => rdec_hit x hx op e w) w
    have hw : why (insOf op x).op h.pc (h.R (insOf op x).rs1) (h.R (insOf op x).rs2) (insOf op x).imm size = whyS (begin_ h (insOf op x) size tv tok) := rfl
    rw [hw, if_neg n] at this
    exact this
  | ok op g' e n =>
    have := ract_hit h (insOf op x) x size hs (hi_ok hb g hx) ⟨e.1, e.2.1⟩ (fun w => rdec_hit x hx op e w) w
    have hw : why (insOf op x).op h.pc (h.R (insOf op x).rs1) (h.R (insOf op x).rs2) (insOf op x).imm size = whyS (begin_ h (insOf op x) size tv tok) := rfl
    rw [hw, n, if_pos rfl] at this
    have hc : (after (begin_ h (insOf op x) size tv tok)).h.cause = 0 := by
      unfold after
      show (if has _ then Ht.put _ _ _ else _ : H).cause = 0
      split
      · rw [put_cause]; exact (goes_yes g).2
      · exact (goes_yes g).2
    show Calls _ _ _ _ fun e w' => e = .returned (.tuple #[accV (after (begin_ h (insOf op x) size tv tok)).a, .int .i64 (after (begin_ h (insOf op x) size tv tok)).h.cause]) ∧ _
    rw [hc]
    exact this
end Go.Proofs.YtianojbdabeoeaaGreatDoor
end

section
namespace Go.Proofs.YtianojbdabeoeaaGreatDoor
open Go.RowKit Ht
set_option linter.unusedVariables false
namespace Ht
theorem hcells_R (h : H) (k : Nat) (n : Int) (hk : k ≤ 31) : (hcells h).toArray.setIfInBounds (2 + k) (.int .u32 n) = (hcells { h with R := upd h.R k n }).toArray := by
  have e : (hcells h).set (2 + k) (.int .u32 n) = hcells { h with R := upd h.R k n } := by
    rcases (show k = 0 ∨ k = 1 ∨ k = 2 ∨ k = 3 ∨ k = 4 ∨ k = 5 ∨ k = 6 ∨ k = 7 ∨ k = 8 ∨ k = 9 ∨ k = 10 ∨ k = 11 ∨ k = 12 ∨ k = 13 ∨ k = 14 ∨ k = 15 ∨ k = 16 ∨ k = 17 ∨ k = 18 ∨ k = 19 ∨ k = 20 ∨ k = 21 ∨ k = 22 ∨ k = 23 ∨ k = 24 ∨ k = 25 ∨ k = 26 ∨ k = 27 ∨ k = 28 ∨ k = 29 ∨ k = 30 ∨ k = 31 by omega) with
      rfl | rfl | rfl | rfl | rfl | rfl | rfl | rfl | rfl | rfl | rfl | rfl | rfl | rfl | rfl | rfl | rfl | rfl | rfl | rfl | rfl | rfl | rfl | rfl | rfl | rfl | rfl | rfl | rfl | rfl | rfl | rfl <;> rfl
  rw [← e]; simp
def wr (h : H) (rd : Nat) (n to : Int) : H := ⟨h.id, to, upd h.R rd n, h.cause⟩
theorem hcells_pc (h : H) (n : Int) : (hcells h).toArray.setIfInBounds 1 (.int .u32 n) = (hcells { h with pc := n }).toArray := rfl
theorem hcells_cause (h : H) (n : Int) : (hcells h).toArray.setIfInBounds 34 (.int .i64 n) = (hcells { h with cause := n }).toArray := rfl
end Ht
set_option maxRecDepth 100000 in
set_option maxHeartbeats 4000000 in
theorem rdone_halt (h : H) (x size tv : Int) (tok : Bool) (a : A) (c : Int) (hc : c ≠ 0)
    (hA : ∀ w, Calls Tryz.prog 16 #[hartV h, .int .u32 x, .int .i64 size] w fun e w' => e = .returned (.tuple #[accV a, .int .i64 c]) ∧ Below w.heap.size w w') (w : World) :
    Calls Tryz.prog 33 #[hartV h, .int .u32 x, .int .i64 size, ansV tv tok] w fun e w' => e = .returned (hartV { h with cause := c }) ∧ Below w.heap.size w w' := by
  have m0 : (c != 0) = true := by simpa using hc
  clear hc
  have HA := Lib.hid hA; clear hA
  unfold hartV ansV
  go_enter Tryz.func33, Tryz.ntmps33
  go_wp2_with (refine wpList_load_row rfl 26 (.tmp 4) rfl w.heap.size rfl 26 (hcells h).toArray (0, 0) _ (heap_a3 w _ _ _).1 Tryz.underlying26 rfl (by kernel_rfl) ?_)
  refine (HA.out _).mono ?_
  rintro e w1 ⟨rfl, hb⟩
  have r0 : w1.heap[w.heap.size]? = some (.cells (hcells h).toArray 26) := (hb.block w.heap.size (by simp only [World.size_alloc]; omega)).trans (heap_a3 w _ _ _).1
  have r1 : w1.heap[w.heap.size + 1]? = some (.cells #[.int .u32 tv, .bool tok] 28) := (hb.block (w.heap.size + 1) (by simp only [World.size_alloc]; omega)).trans (heap_a3 w _ _ _).2.1
  have r2 : w1.heap[w.heap.size + 2]? = some (.cells hzero 26) := (hb.block (w.heap.size + 2) (by simp only [World.size_alloc]; omega)).trans (heap_a3 w _ _ _).2.2
  have b1 : Below w.heap.size w w1 := ((((Below.refl w.heap.size w).alloc (Nat.le_refl _) _).alloc (by simp only [World.size_alloc]; omega) _).alloc (by simp only [World.size_alloc]; omega) _).trans (hb.mono (by simp only [World.size_alloc]; omega))
  have z1 : w.heap.size + 3 ≤ w1.heap.size := by have := hb.size; simp only [World.size_alloc] at this; omega
  clear hb
  obtain ⟨W2, hW2⟩ : ∃ W2, W2 = (w1.alloc (.cells azero 37)).setRow w1.heap.size (acells a).toArray := ⟨_, rfl⟩
  have old : ∀ k, k < w1.heap.size → W2.heap[k]? = w1.heap[k]? := fun k hk => by rw [hW2]; exact (setRow_other _ _ _ _ (by omega)).trans (Below.heap_alloc _ _ _ hk)
  have q0 := (old w.heap.size (by omega)).trans r0
  have q1 := (old (w.heap.size + 1) (by omega)).trans r1
  have q2 := (old (w.heap.size + 2) (by omega)).trans r2
  have b2 : Below w.heap.size w W2 := by rw [hW2]; exact below_setRow (b1.alloc b1.size _) b1.size
  have z2 : w.heap.size + 3 ≤ W2.heap.size := by rw [hW2]; simp; omega
  clear r0 r1 r2 b1 z1 old
  have c34 : W2.cell? ⟨w.heap.size, 34, none⟩ = some (.int .i64 h.cause) := by rw [cell_of_row W2 _ 34 _ _ _ q0]; rfl
  have f34 := frozen_of_row W2 w.heap.size 34 _ _ q0
  obtain ⟨W5, hW5⟩ : ∃ W5, W5 = W2.setCell ⟨w.heap.size, 34, none⟩ (.int .i64 c) := ⟨_, rfl⟩
  have p0 : W5.heap[w.heap.size]? = some (.cells (hcells { h with cause := c }).toArray 26) := by rw [hW5, ← hcells_cause]; exact heap_setCell_same W2 _ 34 _ _ _ q0
  have p2 : W5.heap[w.heap.size + 2]? = some (.cells hzero 26) := by rw [hW5]; exact (heap_setCell_other W2 ⟨w.heap.size, 34, none⟩ _ _ (by show _ ≠ w.heap.size; omega)).trans q2
  have b5 : Below w.heap.size w W5 := by rw [hW5]; exact b2.setCell (Nat.le_refl _) _
  have HW2 := Lib.hid hW2; have HW5 := Lib.hid hW5; have P0 := Lib.hid p0; have P2 := Lib.hid p2; have B5 := Lib.hid b5
  have HR := Lib.hid (setRow_heap W5 (w.heap.size + 2) hzero (hcells { h with cause := c }).toArray 26 (0, 0) p2)
  clear hW2 hW5 p0 p2 b5 b2 q0 q1 q2 z2
  unfold accV
  go_wp2_with (first
    | (refine wpList_store_row rfl 37 (.tmp 9) (.tmp 21) rfl w1.heap.size (acells a).toArray rfl rfl 37 azero (heap_alloc_new _ _) (by kernel_rfl) (by kernel_rfl) (by kernel_rfl) ?_; rw [← HW2.out])
    | (refine wpList_load_row rfl 26 (.tmp 4) rfl w.heap.size rfl 26 (hcells { h with cause := c }).toArray (0, 0) _ (by rw [← HW5.out]; exact P0.out) Tryz.underlying26 rfl (by kernel_rfl) ?_)
    | (refine wpList_store_row rfl 26 (.tmp 8) (.tmp 27) rfl (w.heap.size + 2) (hcells { h with cause := c }).toArray rfl rfl 26 hzero (by rw [← HW5.out]; exact P2.out) (by kernel_rfl) (by kernel_rfl) (by kernel_rfl) ?_; rw [← HW5.out]))
  refine bodyPost_ret (v := .agg (hcells { h with cause := c }).toArray) ?_ rfl ⟨rfl, ?_⟩
  · exact results_cell_row (fn := Tryz.f33) rfl _ _ (w.heap.size + 2) 26 (hcells { h with cause := c }).toArray (0, 0) _ rfl HR.out Tryz.underlying26 rfl (by kernel_rfl)
  · exact below_setRow B5.out (by omega)
set_option maxRecDepth 100000 in
set_option maxHeartbeats 4000000 in
theorem rdone_no (h : H) (i : I) (x size tv : Int) (tok : Bool) (a : A) (n to : Int) (is : Bool) (hrd : i.rd ≤ 31)
    (hA : ∀ w, Calls Tryz.prog 16 #[hartV h, .int .u32 x, .int .i64 size] w fun e w' => e = .returned (.tuple #[accV a, .int .i64 0]) ∧ Below w.heap.size w w')
    (hD : ∀ w, Calls Tryz.prog 34 #[.int .u32 x] w fun e w' => e = .returned (.tuple #[instV i, .bool true]) ∧ Below w.heap.size w w')
    (hV : ∀ w, Calls Tryz.prog 56 #[hartV h, instV i, ansV tv tok] w fun e w' => e = .returned (.tuple #[.int .u32 n, .bool is]) ∧ Below w.heap.size w w')
    (hN : ∀ w, Calls Tryz.prog 37 #[hartV h, instV i] w fun e w' => e = .returned (.int .u32 to) ∧ Below w.heap.size w w') (hw : is = false ∨ (is = true ∧ i.rd = 0)) (w : World) :
    Calls Tryz.prog 33 #[hartV h, .int .u32 x, .int .i64 size, ansV tv tok] w fun e w' => e = .returned (hartV { h with pc := to }) ∧ Below w.heap.size w w' := by
  have HWW := Lib.hid hw; clear hw
  have HA := Lib.hid hA; clear hA
  unfold hartV ansV
  go_enter Tryz.func33, Tryz.ntmps33
  go_wp2_with (refine wpList_load_row rfl 26 (.tmp 4) rfl w.heap.size rfl 26 (hcells h).toArray (0, 0) _ (heap_a3 w _ _ _).1 Tryz.underlying26 rfl (by kernel_rfl) ?_)
  refine (HA.out _).mono ?_
  rintro e w1 ⟨rfl, hb⟩
  have r0 : w1.heap[w.heap.size]? = some (.cells (hcells h).toArray 26) := (hb.block w.heap.size (by simp only [World.size_alloc]; omega)).trans (heap_a3 w _ _ _).1
  have r1 : w1.heap[w.heap.size + 1]? = some (.cells #[.int .u32 tv, .bool tok] 28) := (hb.block (w.heap.size + 1) (by simp only [World.size_alloc]; omega)).trans (heap_a3 w _ _ _).2.1
  have r2 : w1.heap[w.heap.size + 2]? = some (.cells hzero 26) := (hb.block (w.heap.size + 2) (by simp only [World.size_alloc]; omega)).trans (heap_a3 w _ _ _).2.2
  have b1 : Below w.heap.size w w1 := ((((Below.refl w.heap.size w).alloc (Nat.le_refl _) _).alloc (by simp only [World.size_alloc]; omega) _).alloc (by simp only [World.size_alloc]; omega) _).trans (hb.mono (by simp only [World.size_alloc]; omega))
  have z1 : w.heap.size + 3 ≤ w1.heap.size := by have := hb.size; simp only [World.size_alloc] at this; omega
  clear hb
  obtain ⟨W2, hW2⟩ : ∃ W2, W2 = (w1.alloc (.cells azero 37)).setRow w1.heap.size (acells a).toArray := ⟨_, rfl⟩
  have old : ∀ k, k < w1.heap.size → W2.heap[k]? = w1.heap[k]? := fun k hk => by rw [hW2]; exact (setRow_other _ _ _ _ (by omega)).trans (Below.heap_alloc _ _ _ hk)
  have q0 := (old w.heap.size (by omega)).trans r0
  have q1 := (old (w.heap.size + 1) (by omega)).trans r1
  have q2 := (old (w.heap.size + 2) (by omega)).trans r2
  have b2 : Below w.heap.size w W2 := by rw [hW2]; exact below_setRow (b1.alloc b1.size _) b1.size
  have z2 : w.heap.size + 3 ≤ W2.heap.size := by rw [hW2]; simp; omega
  clear r0 r1 r2 b1 z1 old
  have HW2 := Lib.hid hW2; have Q0 := Lib.hid q0; have Q1 := Lib.hid q1; have Q2 := Lib.hid q2; have B2 := Lib.hid b2; have Z2 := Lib.hid z2
  have HD := Lib.hid hD; have HV := Lib.hid hV; have HN := Lib.hid hN
  clear hW2 q0 q1 q2 b2 z2 hD hV hN
  unfold accV
  go_wp2_with (refine wpList_store_row rfl 37 (.tmp 9) (.tmp 21) rfl w1.heap.size (acells a).toArray rfl rfl 37 azero (heap_alloc_new _ _) (by kernel_rfl) (by kernel_rfl) (by kernel_rfl) ?_; rw [← HW2.out])
  refine (HD.out _).mono ?_
  rintro e w3 ⟨rfl, hb⟩
  obtain ⟨W4, hW4⟩ : ∃ W4, W4 = (w3.alloc (.cells izero 85)).setRow w3.heap.size (icells i).toArray := ⟨_, rfl⟩
  have old : ∀ k, k < W2.heap.size → W4.heap[k]? = W2.heap[k]? := fun k hk => by rw [hW4]; exact (setRow_other _ _ _ _ (by have := hb.size; omega)).trans ((Below.heap_alloc _ _ _ (by have := hb.size; omega)).trans (hb.block k hk))
  have q0 := (old w.heap.size (by have := Z2.out; omega)).trans Q0.out
  have q1 := (old (w.heap.size + 1) (by have := Z2.out; omega)).trans Q1.out
  have q2 := (old (w.heap.size + 2) (by have := Z2.out; omega)).trans Q2.out
  have q4 : W4.heap[w3.heap.size]? = some (.cells (icells i).toArray 85) := by rw [hW4]; exact setRow_heap _ _ _ _ _ _ (heap_alloc_new _ _)
  have b3 : Below w.heap.size w w3 := B2.out.trans (hb.mono B2.out.size)
  have z3 : w.heap.size + 3 ≤ w3.heap.size := Nat.le_trans Z2.out hb.size
  have b4 : Below w.heap.size w W4 := by rw [hW4]; exact below_setRow (b3.alloc b3.size _) b3.size
  have z4 : w3.heap.size + 1 ≤ W4.heap.size := by rw [hW4]; simp
  have P0 := Lib.hid q0; have P1 := Lib.hid q1; have P2 := Lib.hid q2; have P4 := Lib.hid q4; have B4 := Lib.hid b4; have HW4 := Lib.hid hW4; have Z3 := Lib.hid z3; have Z4 := Lib.hid z4
  clear Q0 Q1 Q2 B2 Z2 HW2 hb old q0 q1 q2 q4 b3 b4 hW4 z3 z4
  unfold instV
  go_wp2_with (first
    | (refine wpList_store_row rfl 85 (.tmp 11) (.tmp 31) rfl w3.heap.size (icells i).toArray rfl rfl 85 izero (heap_alloc_new _ _) (by kernel_rfl) (by kernel_rfl) (by kernel_rfl) ?_; rw [← HW4.out])
    | (refine wpList_load_row rfl 26 (.tmp 4) rfl w.heap.size rfl 26 (hcells h).toArray (0, 0) _ P0.out Tryz.underlying26 rfl (by kernel_rfl) ?_)
    | (refine wpList_load_row rfl 85 (.tmp 11) rfl w3.heap.size rfl 85 (icells i).toArray (0, 0) _ P4.out Tryz.underlying85 rfl (by kernel_rfl) ?_)
    | (refine wpList_load_row rfl 28 (.tmp 7) rfl (w.heap.size + 1) rfl 28 #[.int .u32 tv, .bool tok] (0, 0) _ P1.out Tryz.underlying28 rfl (by kernel_rfl) ?_))
  refine (HV.out _).mono ?_
  rintro e w5 ⟨rfl, hb⟩
  have R0 := Lib.hid ((hb.block w.heap.size (by have := Z3.out; have := Z4.out; omega)).trans P0.out)
  have R2 := Lib.hid ((hb.block (w.heap.size + 2) (by have := Z3.out; have := Z4.out; omega)).trans P2.out)
  have R4 := Lib.hid ((hb.block w3.heap.size (by have := Z4.out; omega)).trans P4.out)
  have B5 := Lib.hid (B4.out.trans (hb.mono B4.out.size))
  have Z5 := Lib.hid (Nat.le_trans Z4.out hb.size)
  clear hb P0 P1 P2 P4 B4 HW4 Z4
  go_wp2_with (first
    | (refine wpList_load_row rfl 26 (.tmp 4) rfl w.heap.size rfl 26 (hcells h).toArray (0, 0) _ R0.out Tryz.underlying26 rfl (by kernel_rfl) ?_)
    | (refine wpList_load_row rfl 85 (.tmp 11) rfl w3.heap.size rfl 85 (icells i).toArray (0, 0) _ R4.out Tryz.underlying85 rfl (by kernel_rfl) ?_))
  refine (HN.out _).mono ?_
  rintro e w6 ⟨rfl, hb⟩
  have q0 := (hb.block w.heap.size (by have := Z3.out; have := Z5.out; omega)).trans R0.out
  have q2 := (hb.block (w.heap.size + 2) (by have := Z3.out; have := Z5.out; omega)).trans R2.out
  have q4 := (hb.block w3.heap.size (by have := Z5.out; omega)).trans R4.out
  have b6 := B5.out.trans (hb.mono B5.out.size)
  have e1 : w6.cell? ⟨w3.heap.size, 1, none⟩ = some (.int .i64 i.rd) := by rw [cell_of_row w6 _ 1 _ _ _ q4]; rfl
  clear hb R0 R2 R4 B5 Z5
  have c1 : w6.cell? ⟨w.heap.size, 1, none⟩ = some (.int .u32 h.pc) := by rw [cell_of_row w6 _ 1 _ _ _ q0]; rfl
  have f1 := frozen_of_row w6 w.heap.size 1 _ _ q0
  obtain ⟨W8, hW8⟩ : ∃ W8, W8 = w6.setCell ⟨w.heap.size, 1, none⟩ (.int .u32 to) := ⟨_, rfl⟩
  have p0 : W8.heap[w.heap.size]? = some (.cells (hcells { h with pc := to }).toArray 26) := by rw [hW8, ← hcells_pc]; exact heap_setCell_same w6 _ 1 _ _ _ q0
  have p2 : W8.heap[w.heap.size + 2]? = some (.cells hzero 26) := by rw [hW8]; exact (heap_setCell_other w6 ⟨w.heap.size, 1, none⟩ _ _ (by show _ ≠ w.heap.size; omega)).trans q2
  have b8 : Below w.heap.size w W8 := by rw [hW8]; exact b6.setCell (Nat.le_refl _) _
  have HW8 := Lib.hid hW8; have P0 := Lib.hid p0; have P2 := Lib.hid p2; have B8 := Lib.hid b8
  have HR := Lib.hid (setRow_heap W8 (w.heap.size + 2) hzero (hcells { h with pc := to }).toArray 26 (0, 0) p2)
  clear hW8 p0 p2 b8 b6 q0 q2 q4
  rcases HWW.out with rfl | ⟨rfl, hr⟩
  · clear HWW
    go_wp2_with (first
      | (refine wpList_load_row rfl 26 (.tmp 4) rfl w.heap.size rfl 26 (hcells { h with pc := to }).toArray (0, 0) _ (by rw [← HW8.out]; exact P0.out) Tryz.underlying26 rfl (by kernel_rfl) ?_)
      | (refine wpList_store_row rfl 26 (.tmp 8) (.tmp 56) rfl (w.heap.size + 2) (hcells { h with pc := to }).toArray rfl rfl 26 hzero (by rw [← HW8.out]; exact P2.out) (by kernel_rfl) (by kernel_rfl) (by kernel_rfl) ?_; rw [← HW8.out]))
    refine bodyPost_ret (v := .agg (hcells { h with pc := to }).toArray) ?_ rfl ⟨rfl, ?_⟩
    · exact results_cell_row (fn := Tryz.f33) rfl _ _ (w.heap.size + 2) 26 (hcells { h with pc := to }).toArray (0, 0) _ rfl HR.out Tryz.underlying26 rfl (by kernel_rfl)
    · exact below_setRow B8.out (by omega)
  · have e1' : w6.cell? ⟨w3.heap.size, 1, none⟩ = some (.int .i64 0) := by rw [e1, hr]; rfl
    clear HWW e1
    generalize i.rd = rd at hr
    subst hr
    go_wp2_with (first
      | (refine wpList_load_row rfl 26 (.tmp 4) rfl w.heap.size rfl 26 (hcells { h with pc := to }).toArray (0, 0) _ (by rw [← HW8.out]; exact P0.out) Tryz.underlying26 rfl (by kernel_rfl) ?_)
      | (refine wpList_store_row rfl 26 (.tmp 8) (.tmp 56) rfl (w.heap.size + 2) (hcells { h with pc := to }).toArray rfl rfl 26 hzero (by rw [← HW8.out]; exact P2.out) (by kernel_rfl) (by kernel_rfl) (by kernel_rfl) ?_; rw [← HW8.out]))
    refine bodyPost_ret (v := .agg (hcells { h with pc := to }).toArray) ?_ rfl ⟨rfl, ?_⟩
    · exact results_cell_row (fn := Tryz.f33) rfl _ _ (w.heap.size + 2) 26 (hcells { h with pc := to }).toArray (0, 0) _ rfl HR.out Tryz.underlying26 rfl (by kernel_rfl)
    · exact below_setRow B8.out (by omega)
set_option maxRecDepth 100000 in
set_option maxHeartbeats 4000000 in
theorem rdone_put (h : H) (i : I) (x size tv : Int) (tok : Bool) (a : A) (n to : Int) (is : Bool) (hrd : i.rd ≤ 31)
    (hA : ∀ w, Calls Tryz.prog 16 #[hartV h, .int .u32 x, .int .i64 size] w fun e w' => e = .returned (.tuple #[accV a, .int .i64 0]) ∧ Below w.heap.size w w')
    (hD : ∀ w, Calls Tryz.prog 34 #[.int .u32 x] w fun e w' => e = .returned (.tuple #[instV i, .bool true]) ∧ Below w.heap.size w w')
    (hV : ∀ w, Calls Tryz.prog 56 #[hartV h, instV i, ansV tv tok] w fun e w' => e = .returned (.tuple #[.int .u32 n, .bool is]) ∧ Below w.heap.size w w')
    (hN : ∀ w, Calls Tryz.prog 37 #[hartV h, instV i] w fun e w' => e = .returned (.int .u32 to) ∧ Below w.heap.size w w') (hi : is = true) (hr0 : i.rd ≠ 0) (w : World) :
    Calls Tryz.prog 33 #[hartV h, .int .u32 x, .int .i64 size, ansV tv tok] w fun e w' => e = .returned (hartV (wr h i.rd n to)) ∧ Below w.heap.size w w' := by
  subst hi
  have m0 : ((i.rd : Int) != 0) = true := by simpa using hr0
  have m1 : (i.rd : Int) < 32 := by omega
  clear hr0
  have HA := Lib.hid hA; clear hA
  unfold hartV ansV
  go_enter Tryz.func33, Tryz.ntmps33
  go_wp2_with (refine wpList_load_row rfl 26 (.tmp 4) rfl w.heap.size rfl 26 (hcells h).toArray (0, 0) _ (heap_a3 w _ _ _).1 Tryz.underlying26 rfl (by kernel_rfl) ?_)
  refine (HA.out _).mono ?_
  rintro e w1 ⟨rfl, hb⟩
  have r0 : w1.heap[w.heap.size]? = some (.cells (hcells h).toArray 26) := (hb.block w.heap.size (by simp only [World.size_alloc]; omega)).trans (heap_a3 w _ _ _).1
  have r1 : w1.heap[w.heap.size + 1]? = some (.cells #[.int .u32 tv, .bool tok] 28) := (hb.block (w.heap.size + 1) (by simp only [World.size_alloc]; omega)).trans (heap_a3 w _ _ _).2.1
  have r2 : w1.heap[w.heap.size + 2]? = some (.cells hzero 26) := (hb.block (w.heap.size + 2) (by simp only [World.size_alloc]; omega)).trans (heap_a3 w _ _ _).2.2
  have b1 : Below w.heap.size w w1 := ((((Below.refl w.heap.size w).alloc (Nat.le_refl _) _).alloc (by simp only [World.size_alloc]; omega) _).alloc (by simp only [World.size_alloc]; omega) _).trans (hb.mono (by simp only [World.size_alloc]; omega))
  have z1 : w.heap.size + 3 ≤ w1.heap.size := by have := hb.size; simp only [World.size_alloc] at this; omega
  clear hb
  obtain ⟨W2, hW2⟩ : ∃ W2, W2 = (w1.alloc (.cells azero 37)).setRow w1.heap.size (acells a).toArray := ⟨_, rfl⟩
  have old : ∀ k, k < w1.heap.size → W2.heap[k]? = w1.heap[k]? := fun k hk => by rw [hW2]; exact (setRow_other _ _ _ _ (by omega)).trans (Below.heap_alloc _ _ _ hk)
  have q0 := (old w.heap.size (by omega)).trans r0
  have q1 := (old (w.heap.size + 1) (by omega)).trans r1
  have q2 := (old (w.heap.size + 2) (by omega)).trans r2
  have b2 : Below w.heap.size w W2 := by rw [hW2]; exact below_setRow (b1.alloc b1.size _) b1.size
  have z2 : w.heap.size + 3 ≤ W2.heap.size := by rw [hW2]; simp; omega
  clear r0 r1 r2 b1 z1 old
  have HW2 := Lib.hid hW2; have Q0 := Lib.hid q0; have Q1 := Lib.hid q1; have Q2 := Lib.hid q2; have B2 := Lib.hid b2; have Z2 := Lib.hid z2
  have HD := Lib.hid hD; have HV := Lib.hid hV; have HN := Lib.hid hN
  clear hW2 q0 q1 q2 b2 z2 hD hV hN
  unfold accV
  go_wp2_with (refine wpList_store_row rfl 37 (.tmp 9) (.tmp 21) rfl w1.heap.size (acells a).toArray rfl rfl 37 azero (heap_alloc_new _ _) (by kernel_rfl) (by kernel_rfl) (by kernel_rfl) ?_; rw [← HW2.out])
  refine (HD.out _).mono ?_
  rintro e w3 ⟨rfl, hb⟩
  obtain ⟨W4, hW4⟩ : ∃ W4, W4 = (w3.alloc (.cells izero 85)).setRow w3.heap.size (icells i).toArray := ⟨_, rfl⟩
  have old : ∀ k, k < W2.heap.size → W4.heap[k]? = W2.heap[k]? := fun k hk => by rw [hW4]; exact (setRow_other _ _ _ _ (by have := hb.size; omega)).trans ((Below.heap_alloc _ _ _ (by have := hb.size; omega)).trans (hb.block k hk))
  have q0 := (old w.heap.size (by have := Z2.out; omega)).trans Q0.out
  have q1 := (old (w.heap.size + 1) (by have := Z2.out; omega)).trans Q1.out
  have q2 := (old (w.heap.size + 2) (by have := Z2.out; omega)).trans Q2.out
  have q4 : W4.heap[w3.heap.size]? = some (.cells (icells i).toArray 85) := by rw [hW4]; exact setRow_heap _ _ _ _ _ _ (heap_alloc_new _ _)
  have b3 : Below w.heap.size w w3 := B2.out.trans (hb.mono B2.out.size)
  have z3 : w.heap.size + 3 ≤ w3.heap.size := Nat.le_trans Z2.out hb.size
  have b4 : Below w.heap.size w W4 := by rw [hW4]; exact below_setRow (b3.alloc b3.size _) b3.size
  have z4 : w3.heap.size + 1 ≤ W4.heap.size := by rw [hW4]; simp
  have P0 := Lib.hid q0; have P1 := Lib.hid q1; have P2 := Lib.hid q2; have P4 := Lib.hid q4; have B4 := Lib.hid b4; have HW4 := Lib.hid hW4; have Z3 := Lib.hid z3; have Z4 := Lib.hid z4
  clear Q0 Q1 Q2 B2 Z2 HW2 hb old q0 q1 q2 q4 b3 b4 hW4 z3 z4
  unfold instV
  go_wp2_with (first
    | (refine wpList_store_row rfl 85 (.tmp 11) (.tmp 31) rfl w3.heap.size (icells i).toArray rfl rfl 85 izero (heap_alloc_new _ _) (by kernel_rfl) (by kernel_rfl) (by kernel_rfl) ?_; rw [← HW4.out])
    | (refine wpList_load_row rfl 26 (.tmp 4) rfl w.heap.size rfl 26 (hcells h).toArray (0, 0) _ P0.out Tryz.underlying26 rfl (by kernel_rfl) ?_)
    | (refine wpList_load_row rfl 85 (.tmp 11) rfl w3.heap.size rfl 85 (icells i).toArray (0, 0) _ P4.out Tryz.underlying85 rfl (by kernel_rfl) ?_)
    | (refine wpList_load_row rfl 28 (.tmp 7) rfl (w.heap.size + 1) rfl 28 #[.int .u32 tv, .bool tok] (0, 0) _ P1.out Tryz.underlying28 rfl (by kernel_rfl) ?_))
  refine (HV.out _).mono ?_
  rintro e w5 ⟨rfl, hb⟩
  have R0 := Lib.hid ((hb.block w.heap.size (by have := Z3.out; have := Z4.out; omega)).trans P0.out)
  have R2 := Lib.hid ((hb.block (w.heap.size + 2) (by have := Z3.out; have := Z4.out; omega)).trans P2.out)
  have R4 := Lib.hid ((hb.block w3.heap.size (by have := Z4.out; omega)).trans P4.out)
  have B5 := Lib.hid (B4.out.trans (hb.mono B4.out.size))
  have Z5 := Lib.hid (Nat.le_trans Z4.out hb.size)
  clear hb P0 P1 P2 P4 B4 HW4 Z4
  go_wp2_with (first
    | (refine wpList_load_row rfl 26 (.tmp 4) rfl w.heap.size rfl 26 (hcells h).toArray (0, 0) _ R0.out Tryz.underlying26 rfl (by kernel_rfl) ?_)
    | (refine wpList_load_row rfl 85 (.tmp 11) rfl w3.heap.size rfl 85 (icells i).toArray (0, 0) _ R4.out Tryz.underlying85 rfl (by kernel_rfl) ?_))
  refine (HN.out _).mono ?_
  rintro e w6 ⟨rfl, hb⟩
  have q0 := (hb.block w.heap.size (by have := Z3.out; have := Z5.out; omega)).trans R0.out
  have q2 := (hb.block (w.heap.size + 2) (by have := Z3.out; have := Z5.out; omega)).trans R2.out
  have q4 := (hb.block w3.heap.size (by have := Z5.out; omega)).trans R4.out
  have b6 := B5.out.trans (hb.mono B5.out.size)
  have e1 : w6.cell? ⟨w3.heap.size, 1, none⟩ = some (.int .i64 i.rd) := by rw [cell_of_row w6 _ 1 _ _ _ q4]; rfl
  clear hb R0 R2 R4 B5 Z5
  have c2 : w6.cell? ⟨w.heap.size, 2 + i.rd, none⟩ = some (.int .u32 (h.R i.rd)) := by rw [cell_of_row w6 _ _ _ _ _ q0]; simpa using hc h i.rd hrd
  have f2 := frozen_of_row w6 w.heap.size (2 + i.rd) _ _ q0
  obtain ⟨W7, hW7⟩ : ∃ W7, W7 = w6.setCell ⟨w.heap.size, 2 + i.rd, none⟩ (.int .u32 n) := ⟨_, rfl⟩
  have o0 : W7.heap[w.heap.size]? = some (.cells (hcells { h with R := upd h.R i.rd n }).toArray 26) := by rw [hW7, ← hcells_R h i.rd n hrd]; exact heap_setCell_same w6 _ (2 + i.rd) _ _ _ q0
  have o2 : W7.heap[w.heap.size + 2]? = some (.cells hzero 26) := by rw [hW7]; exact (heap_setCell_other w6 ⟨w.heap.size, 2 + i.rd, none⟩ _ _ (by show _ ≠ w.heap.size; omega)).trans q2
  have b7 : Below w.heap.size w W7 := by rw [hW7]; exact b6.setCell (Nat.le_refl _) _
  have c1 : W7.cell? ⟨w.heap.size, 1, none⟩ = some (.int .u32 h.pc) := by rw [cell_of_row W7 _ 1 _ _ _ o0]; rfl
  have f1 := frozen_of_row W7 w.heap.size 1 _ _ o0
  rw [hW7] at c1 f1
  obtain ⟨W8, hW8⟩ : ∃ W8, W8 = (w6.setCell ⟨w.heap.size, 2 + i.rd, none⟩ (.int .u32 n)).setCell ⟨w.heap.size, 1, none⟩ (.int .u32 to) := ⟨_, rfl⟩
  have p0 : W8.heap[w.heap.size]? = some (.cells (hcells (wr h i.rd n to)).toArray 26) := by rw [hW8, show hcells (wr h i.rd n to) = hcells { ({ h with R := upd h.R i.rd n } : H) with pc := to } from rfl, ← hcells_pc, ← hW7]; exact heap_setCell_same W7 _ 1 _ _ _ o0
  have p2 : W8.heap[w.heap.size + 2]? = some (.cells hzero 26) := by rw [hW8, ← hW7]; exact (heap_setCell_other W7 ⟨w.heap.size, 1, none⟩ _ _ (by show _ ≠ w.heap.size; omega)).trans o2
  have b8 : Below w.heap.size w W8 := by rw [hW8, ← hW7]; exact b7.setCell (Nat.le_refl _) _
  have HW8 := Lib.hid hW8; have P0 := Lib.hid p0; have P2 := Lib.hid p2; have B8 := Lib.hid b8
  have HR := Lib.hid (setRow_heap W8 (w.heap.size + 2) hzero (hcells (wr h i.rd n to)).toArray 26 (0, 0) p2)
  clear hW8 p0 p2 b8 b6 b7 q0 q2 q4 o0 o2 hW7 hrd
  go_wp2_with (first
    | (refine wpList_load_row rfl 26 (.tmp 4) rfl w.heap.size rfl 26 (hcells (wr h i.rd n to)).toArray (0, 0) _ (by rw [← HW8.out]; exact P0.out) Tryz.underlying26 rfl (by kernel_rfl) ?_)
    | (refine wpList_store_row rfl 26 (.tmp 8) (.tmp 56) rfl (w.heap.size + 2) (hcells (wr h i.rd n to)).toArray rfl rfl 26 hzero (by rw [← HW8.out]; exact P2.out) (by kernel_rfl) (by kernel_rfl) (by kernel_rfl) ?_; rw [← HW8.out]))
  refine bodyPost_ret (v := .agg (hcells (wr h i.rd n to)).toArray) ?_ rfl ⟨rfl, ?_⟩
  · exact results_cell_row (fn := Tryz.f33) rfl _ _ (w.heap.size + 2) 26 (hcells (wr h i.rd n to)).toArray (0, 0) _ rfl HR.out Tryz.underlying26 rfl (by kernel_rfl)
  · exact below_setRow B8.out (by omega)
/-- what the program tells, the document tells -/
theorem rdone_of {h : H} {x size tv : Int} {tok : Bool} {s : S} {err : Int} (o : Out h x size tv tok s err) (g : goes h = true) (hb : HB h) (hx : Is.Wd x) (hs : -9223372036854775808 ≤ size ∧ size ≤ 9223372036854775807) (ht : Ar.Wd tv) (w : World) :
    Calls Tryz.prog 33 #[hartV h, .int .u32 x, .int .i64 size, ansV tv tok] w fun e w' => e = .returned (hartV s.h) ∧ Below w.heap.size w w' := by
  have hA := fun w => ract_of o g hb hx hs w
  cases o with
  | arg g' => rw [g] at g'; cases g'
  | ill g' n => exact rdone_halt h x size tv tok _ 2 (by omega) hA w
  | halt op g' e n => exact rdone_halt h x size tv tok _ _ n hA w
  | ok op g' e n =>
    have hop : 1 ≤ (insOf op x).op ∧ (insOf op x).op ≤ 59 := ⟨e.1, e.2.1⟩
    have K := hi_ok hb g hx (op := op)
    have hrd : (insOf op x).rd ≤ 31 := by
      obtain ⟨h1, h2, h3⟩ := reg_bd hx (Is.fm op)
      show (Is.rdO (Is.fm op) x).toNat ≤ 31; omega
    have hc0 : (after (begin_ h (insOf op x) size tv tok)).h.cause = 0 := by
      unfold after
      show (if has _ then Ht.put _ _ _ else _ : H).cause = 0
      split
      · rw [put_cause]; exact (goes_yes g).2
      · exact (goes_yes g).2
    have hA0 : ∀ w, Calls Tryz.prog 16 #[hartV h, .int .u32 x, .int .i64 size] w fun e w' => e = .returned (.tuple #[accV (after (begin_ h (insOf op x) size tv tok)).a, .int .i64 0]) ∧ Below w.heap.size w w' := fun w => by
      have := hA w
      have e2 : ({ after (begin_ h (insOf op x) size tv tok) with h := { (after (begin_ h (insOf op x) size tv tok)).h with pc := (after (begin_ h (insOf op x) size tv tok)).next } } : S).h.cause = 0 := hc0
      rw [e2] at this
      exact this
    have hD := fun w => rdec_hit x hx op e w
    have hV := fun w => rval_any h (insOf op x) hop tv tok ht K w
    have hN := fun w => rnext_any h (insOf op x) K w
    have hnx : (after (begin_ h (insOf op x) size tv tok)).next = next (insOf op x).op h.pc (h.R (insOf op x).rs1) (h.R (insOf op x).rs2) (insOf op x).imm := rfl
    show Calls _ _ _ _ fun e w' => e = .returned (hartV { (after (begin_ h (insOf op x) size tv tok)).h with pc := (after (begin_ h (insOf op x) size tv tok)).next }) ∧ _
    rw [hnx]
    cases his : has (insOf op x).op
    · have he : (after (begin_ h (insOf op x) size tv tok)).h = h := by
        show (if has (insOf op x).op then Ht.put h _ _ else h : H) = h
        rw [his]; rfl
      rw [he]
      exact rdone_no h (insOf op x) x size tv tok _ _ _ _ hrd hA0 hD hV hN (.inl his) w
    · by_cases hr : (insOf op x).rd = 0
      · have he : (after (begin_ h (insOf op x) size tv tok)).h = h := by
          show (if has (insOf op x).op then Ht.put h (insOf op x).rd _ else h : H) = h
          rw [his, hr]; rfl
        rw [he]
        exact rdone_no h (insOf op x) x size tv tok _ _ _ _ hrd hA0 hD hV hN (.inr ⟨his, hr⟩) w
      · have he : (after (begin_ h (insOf op x) size tv tok)).h = { h with R := upd h.R (insOf op x).rd (val (insOf op x).op h.pc h.id (h.R (insOf op x).rs1) (h.R (insOf op x).rs2) (insOf op x).imm tv tok) } := by
          show (if has (insOf op x).op then Ht.put h (insOf op x).rd _ else h : H) = _
          rw [his, if_pos rfl]
          unfold Ht.put
          rw [if_neg hr]
          rfl
        rw [he]
        exact rdone_put h (insOf op x) x size tv tok _ _ _ _ hrd hA0 hD hV hN his hr w
end Go.Proofs.YtianojbdabeoeaaGreatDoor
end
