/-
  HtDoM: HtCheck, HtFetch, HtCatch, HtDo, HtDone, HtDoB, HtDoC, HtDoD, HtOut, HlKnown in one text.
-/
import Derived.Test.YtianojbdabeoeaaGreatDoorHtMeans
import Derived.Test.YtianojbdabeoeaaGreatDoorIsFin
import Derived.Defers
import Derived.Recover
import Derived.Laws.Pointers
import Derived.Test.YtianojbdabeoeaaGreatDoorHtAll

section
namespace Go.Proofs.YtianojbdabeoeaaGreatDoor
open Go.RowKit Ht
set_option linter.unusedVariables false
namespace Ht
/-- may a hart be? -/
def may (h : H) : Bool := decide (0 ≤ h.id) && decide (h.id < 4) && (h.R 0 == 0) && decide (0 ≤ h.cause) && decide (h.cause ≤ 4)
end Ht
set_option maxRecDepth 100000 in
set_option maxHeartbeats 1000000 in
theorem check_any (h : H) (w : World) :
    Calls Tryz.prog 79 #[hartV h] w fun e w' => e = .returned (.int .i64 (if may h then 0 else 2)) ∧ Below w.heap.size w w' := by
  have key : ∀ (b : Bool), may h = b → Calls Tryz.prog 79 #[hartV h] w fun e w' => e = .returned (.int .i64 (if b then 0 else 2)) ∧ Below w.heap.size w w' := by
    intro b hb
    unfold may at hb
    unfold hartV hcells
    obtain ⟨id, pc, R, cause⟩ := h
    simp only at hb ⊢
    by_cases h1 : id < 0
    · obtain rfl : b = false := by rw [← hb]; simp; omega
      clear hb
      go_enter Tryz.func79, Tryz.ntmps79
      go_wp2
      go_ret
      exact ⟨rfl, (Below.refl _ _).alloc (Nat.le_refl _) _⟩
    by_cases h2 : 4 ≤ id
    · obtain rfl : b = false := by rw [← hb]; simp; omega
      clear hb
      go_enter Tryz.func79, Tryz.ntmps79
      go_wp2
      go_ret
      exact ⟨rfl, (Below.refl _ _).alloc (Nat.le_refl _) _⟩
    generalize R 0 = r0 at hb ⊢
    by_cases h3 : r0 = 0
    · have h3' : (r0 != 0) = false := by simpa using h3
      by_cases h4 : cause < 0
      · obtain rfl : b = false := by rw [← hb]; simp; omega
        clear hb h3
        go_enter Tryz.func79, Tryz.ntmps79
        go_wp2
        go_ret
        exact ⟨rfl, (Below.refl _ _).alloc (Nat.le_refl _) _⟩
      by_cases h5 : 4 < cause
      · obtain rfl : b = false := by rw [← hb]; simp; omega
        clear hb h3
        go_enter Tryz.func79, Tryz.ntmps79
        go_wp2
        go_ret
        exact ⟨rfl, (Below.refl _ _).alloc (Nat.le_refl _) _⟩
      obtain rfl : b = true := by rw [← hb]; simp [h3]; omega
      clear hb h3
      go_enter Tryz.func79, Tryz.ntmps79
      go_wp2
      go_ret
      exact ⟨rfl, (Below.refl _ _).alloc (Nat.le_refl _) _⟩
    · have h3' : (r0 != 0) = true := by simpa using h3
      obtain rfl : b = false := by rw [← hb]; simp [h3]
      clear hb h3
      go_enter Tryz.func79, Tryz.ntmps79
      go_wp2
      go_ret
      exact ⟨rfl, (Below.refl _ _).alloc (Nat.le_refl _) _⟩
  exact key _ rfl
end Go.Proofs.YtianojbdabeoeaaGreatDoor
end

section
namespace Go.Proofs.YtianojbdabeoeaaGreatDoor
open Go.RowKit Ht
set_option linter.unusedVariables false
namespace Ht
/-- the instruction op of word x -/
def insOf (op : Nat) (x : Int) : I := ⟨op, (Is.rdO (Is.fm op) x).toNat, (Is.rs1O (Is.fm op) x).toNat, (Is.rs2O (Is.fm op) x).toNat, Is.immO (Is.fm op) x, Is.aqO (Is.fm op) x, Is.rlO (Is.fm op) x⟩
def instV (i : I) : Value := .agg (icells i).toArray
theorem reg_bd {x : Int} (hx : Is.Wd x) (k : Nat) : (0 ≤ Is.rdO k x ∧ Is.rdO k x ≤ 31) ∧ (0 ≤ Is.rs1O k x ∧ Is.rs1O k x ≤ 31) ∧ (0 ≤ Is.rs2O k x ∧ Is.rs2O k x ≤ 31) := by
  unfold Is.Wd at hx
  unfold Is.rdO Is.rs1O Is.rs2O
  refine ⟨?_, ?_, ?_⟩ <;> split <;> omega
theorem instV_of {x : Int} (hx : Is.Wd x) (op : Nat) : inst op (Is.rdO (Is.fm op) x) (Is.rs1O (Is.fm op) x) (Is.rs2O (Is.fm op) x) (Is.immO (Is.fm op) x) (Is.aqO (Is.fm op) x) (Is.rlO (Is.fm op) x) = instV (insOf op x) := by
  obtain ⟨h1, h2, h3⟩ := reg_bd hx (Is.fm op)
  unfold inst instV icells insOf
  simp only
  rw [Int.toNat_of_nonneg h1.1, Int.toNat_of_nonneg h2.1, Int.toNat_of_nonneg h3.1]
/-- x is an instruction op -/
def Hit (op : Nat) (x : Int) : Prop := 1 ≤ op ∧ op ≤ 59 ∧ Is.hit (Is.fm op) x op
end Ht
abbrev Ht.izero : Array Value := #[.int .i64 0, .int .i64 0, .int .i64 0, .int .i64 0, .int .u32 0, .bool false, .bool false]
theorem heap_a1 (w : World) (o1 o2 : Obj) : ((w.alloc o1).alloc o2).heap[w.heap.size]? = some o1 := (Below.heap_alloc _ _ _ (by simp)).trans (heap_alloc_new w o1)
theorem dec_hit (x : Int) (hx : Is.Wd x) (op : Nat) (h : Hit op x) (w : World) :
    Calls Tryz.prog 80 #[.int .u32 x] w fun e w' => e = .returned (.tuple #[instV (insOf op x), .bool true]) ∧ Below w.heap.size w w' := by
  rw [← instV_of hx]
  exact dec_is x hx op ⟨h.1, h.2.1⟩ h.2.2 w
set_option maxRecDepth 100000 in
set_option maxHeartbeats 1000000 in
theorem fetched_ok (h : H) (x : Int) (op : Nat) (hx : Is.Wd x) (hm : may h = true) (hc : h.cause = 0) (hh : Hit op x) (w : World) :
    Calls Tryz.prog 53 #[hartV h, .int .u32 x] w fun e w' => e = .returned (instV (insOf op x)) ∧ Below w.heap.size w w' := by
  have HM := Lib.hid hm; have HH := Lib.hid hh; have HX := Lib.hid hx; have HC := Lib.hid hc; clear hm hh hx hc
  have k34 : (hcells h)[34]? = some (.int .i64 h.cause) := rfl
  have hin : Ending.returned (Value.int .i64 (if may h then 0 else 2)) = .returned (.int .i64 0) := by rw [HM.out]; rfl
  rw [HC.out] at k34
  unfold hartV
  go_enter Tryz.func53, Tryz.ntmps53
  go_wp2_with (refine wpList_load_row rfl 26 (.tmp 2) rfl w.heap.size rfl 26 (hcells h).toArray (0, 0) _ (heap_a1 _ _ _) Tryz.underlying26 rfl (by kernel_rfl) ?_)
  have r0 := heap_a1 w (.cells (hcells h).toArray 26) (.cells izero 85)
  have r1 : ((w.alloc (.cells (hcells h).toArray 26)).alloc (.cells izero 85)).heap[w.heap.size + 1]? = some (.cells izero 85) := by
    have := heap_alloc_new (w.alloc (.cells (hcells h).toArray 26)) (.cells izero 85)
    rwa [World.size_alloc] at this
  have b1 : Below w.heap.size w ((w.alloc (.cells (hcells h).toArray 26)).alloc (.cells izero 85)) := ((Below.refl _ _).alloc (Nat.le_refl _) _).alloc (by simp) _
  have z1 : ((w.alloc (.cells (hcells h).toArray 26)).alloc (.cells izero 85)).heap.size = w.heap.size + 2 := by simp
  have R0 := Lib.hid r0; have R1 := Lib.hid r1; have B1 := Lib.hid b1; have Z1 := Lib.hid z1
  clear r0 r1 b1 z1 k34
  refine (check_any h _).mono ?_
  rintro e w1 ⟨rfl, hb⟩
  rw [HM.out]
  have c34 : w1.cell? ⟨w.heap.size, 34, none⟩ = some (.int .i64 0) := by
    have := (hb.block w.heap.size (by rw [Z1.out]; omega)).trans R0.out
    rw [cell_of_row w1 _ 34 _ _ _ this, ← HC.out]
    rfl
  have R2 := Lib.hid ((hb.block (w.heap.size + 1) (by rw [Z1.out]; omega)).trans R1.out)
  have B2 := Lib.hid (B1.out.trans (hb.mono (by rw [Z1.out]; omega)))
  have Z2 := Lib.hid (show w.heap.size + 2 ≤ w1.heap.size by rw [← Z1.out]; exact hb.size)
  clear hb
  go_wp2_with fail
  refine (dec_hit x HX.out op HH.out _).mono ?_
  rintro e w2 ⟨rfl, hb⟩
  have R3 := Lib.hid ((hb.block (w.heap.size + 1) (by have := Z2.out; omega)).trans R2.out)
  have B3 := Lib.hid (B2.out.trans (hb.mono B2.out.size))
  have Z3 := Lib.hid (Nat.le_trans Z2.out hb.size)
  clear hb c34
  have hlt : w.heap.size + 1 < w2.heap.size := by have := Z3.out; omega
  have hg : ((w2.alloc (.cells izero 85)).setRow w2.heap.size (icells (insOf op x)).toArray).heap[w.heap.size + 1]? = some (.cells izero 85) :=
    (setRow_other _ _ _ _ (by omega)).trans ((Below.heap_alloc _ _ _ hlt).trans R3.out)
  have HG := Lib.hid hg; have HLT := Lib.hid hlt; clear hg hlt hin
  unfold instV
  go_wp2_with (first
    | (refine wpList_store_row rfl 85 (.tmp 5) (.tmp 19) rfl w2.heap.size (icells (insOf op x)).toArray rfl rfl 85 izero (heap_alloc_new _ _) (by kernel_rfl) (by kernel_rfl) (by kernel_rfl) ?_)
    | (refine wpList_load_row rfl 85 (.tmp 5) rfl w2.heap.size rfl 85 (icells (insOf op x)).toArray (0, 0) _ (setRow_heap _ _ _ _ _ _ (heap_alloc_new _ _)) Tryz.underlying85 rfl (by kernel_rfl) ?_)
    | (refine wpList_store_row rfl 85 (.tmp 4) (.tmp 24) rfl (w.heap.size + 1) (icells (insOf op x)).toArray rfl rfl 85 izero HG.out (by kernel_rfl) (by kernel_rfl) (by kernel_rfl) ?_))
  trace_state
  refine bodyPost_ret (v := .agg (icells (insOf op x)).toArray) ?_ rfl ⟨rfl, ?_⟩
  · exact results_cell_row (fn := Tryz.f53) rfl _ _ (w.heap.size + 1) 85 (icells (insOf op x)).toArray (0, 0) _ rfl (setRow_heap _ _ _ _ _ _ HG.out) Tryz.underlying85 rfl (by kernel_rfl)
  · exact below_setRow (below_setRow (B3.out.alloc B3.out.size _) B3.out.size) (by omega)
set_option maxRecDepth 100000 in
set_option maxHeartbeats 1000000 in
theorem fetched_arg (h : H) (x : Int) (hm : may h = false ∨ (may h = true ∧ h.cause ≠ 0)) (w : World) :
    Calls Tryz.prog 53 #[hartV h, .int .u32 x] w fun e w' => e = .panicked [{ v := .iface 31 (.int .i64 2), recovered := false }] ∧ Below w.heap.size w w' := by
  have HM := Lib.hid hm; clear hm
  unfold hartV
  go_enter Tryz.func53, Tryz.ntmps53
  go_wp2_with (refine wpList_load_row rfl 26 (.tmp 2) rfl w.heap.size rfl 26 (hcells h).toArray (0, 0) _ (heap_a1 _ _ _) Tryz.underlying26 rfl (by kernel_rfl) ?_)
  have R0 := Lib.hid (heap_a1 w (.cells (hcells h).toArray 26) (.cells izero 85))
  have B1 := Lib.hid (show Below w.heap.size w ((w.alloc (.cells (hcells h).toArray 26)).alloc (.cells izero 85)) from ((Below.refl _ _).alloc (Nat.le_refl _) _).alloc (by simp) _)
  have Z1 := Lib.hid (show ((w.alloc (.cells (hcells h).toArray 26)).alloc (.cells izero 85)).heap.size = w.heap.size + 2 by simp)
  refine (check_any h _).mono ?_
  rintro e w1 ⟨rfl, hb⟩
  have B2 := Lib.hid (B1.out.trans (hb.mono (by rw [Z1.out]; omega)))
  have c34 : w1.cell? ⟨w.heap.size, 34, none⟩ = some (.int .i64 h.cause) := by
    have := (hb.block w.heap.size (by rw [Z1.out]; omega)).trans R0.out
    rw [cell_of_row w1 _ 34 _ _ _ this]
    rfl
  clear hb
  rcases HM.out with hm | ⟨hm, hc⟩
  · rw [hm]
    clear hm c34
    go_wp2
    exact ⟨rfl, rfl, B2.out⟩
  · rw [hm]
    have hc' : (h.cause != 0) = true := by simpa using hc
    clear hm hc
    go_wp2
    exact ⟨rfl, rfl, B2.out⟩
set_option maxRecDepth 100000 in
set_option maxHeartbeats 1000000 in
theorem fetched_ill (h : H) (x : Int) (hx : Is.Wd x) (hm : may h = true) (hc : h.cause = 0) (hh : ∀ op : Nat, ¬ Hit op x) (w : World) :
    Calls Tryz.prog 53 #[hartV h, .int .u32 x] w fun e w' => e = .panicked [{ v := .iface 24 (.int .i64 2), recovered := false }] ∧ Below w.heap.size w w' := by
  have HM := Lib.hid hm; have HH := Lib.hid hh; have HX := Lib.hid hx; have HC := Lib.hid hc; clear hm hh hx hc
  have k34 : (hcells h)[34]? = some (.int .i64 h.cause) := rfl
  have hin : Ending.returned (Value.int .i64 (if may h then 0 else 2)) = .returned (.int .i64 0) := by rw [HM.out]; rfl
  rw [HC.out] at k34
  unfold hartV
  go_enter Tryz.func53, Tryz.ntmps53
  go_wp2_with (refine wpList_load_row rfl 26 (.tmp 2) rfl w.heap.size rfl 26 (hcells h).toArray (0, 0) _ (heap_a1 _ _ _) Tryz.underlying26 rfl (by kernel_rfl) ?_)
  have r0 := heap_a1 w (.cells (hcells h).toArray 26) (.cells izero 85)
  have r1 : ((w.alloc (.cells (hcells h).toArray 26)).alloc (.cells izero 85)).heap[w.heap.size + 1]? = some (.cells izero 85) := by
    have := heap_alloc_new (w.alloc (.cells (hcells h).toArray 26)) (.cells izero 85)
    rwa [World.size_alloc] at this
  have b1 : Below w.heap.size w ((w.alloc (.cells (hcells h).toArray 26)).alloc (.cells izero 85)) := ((Below.refl _ _).alloc (Nat.le_refl _) _).alloc (by simp) _
  have z1 : ((w.alloc (.cells (hcells h).toArray 26)).alloc (.cells izero 85)).heap.size = w.heap.size + 2 := by simp
  have R0 := Lib.hid r0; have R1 := Lib.hid r1; have B1 := Lib.hid b1; have Z1 := Lib.hid z1
  clear r0 r1 b1 z1 k34
  refine (check_any h _).mono ?_
  rintro e w1 ⟨rfl, hb⟩
  rw [HM.out]
  have c34 : w1.cell? ⟨w.heap.size, 34, none⟩ = some (.int .i64 0) := by
    have := (hb.block w.heap.size (by rw [Z1.out]; omega)).trans R0.out
    rw [cell_of_row w1 _ 34 _ _ _ this, ← HC.out]
    rfl
  have R2 := Lib.hid ((hb.block (w.heap.size + 1) (by rw [Z1.out]; omega)).trans R1.out)
  have B2 := Lib.hid (B1.out.trans (hb.mono (by rw [Z1.out]; omega)))
  have Z2 := Lib.hid (show w.heap.size + 2 ≤ w1.heap.size by rw [← Z1.out]; exact hb.size)
  clear hb
  go_wp2_with fail
  refine (dec_none x HX.out (fun op h1 h2 => HH.out op ⟨h1.1, h1.2, h2⟩) _).mono ?_
  rintro e w2 ⟨rfl, hb⟩
  have R3 := Lib.hid ((hb.block (w.heap.size + 1) (by have := Z2.out; omega)).trans R2.out)
  have B3 := Lib.hid (B2.out.trans (hb.mono B2.out.size))
  have Z3 := Lib.hid (Nat.le_trans Z2.out hb.size)
  clear hb c34
  clear hin
  unfold inst
  go_wp2_with fail
  go_wp2
  exact ⟨rfl, rfl, B3.out.alloc B3.out.size _⟩
end Go.Proofs.YtianojbdabeoeaaGreatDoor
end

section
namespace Go.Proofs.YtianojbdabeoeaaGreatDoor
open Go.RowKit Ht
set_option linter.unusedVariables false
set_option linter.unusedSimpArgs false
theorem wpList_build_to {P : Program} {ops : Array Oper} {rest : List Oper} {o : Oper} {a : Act} {w : World} {Q : Exit → Act → World → Prop} (hg : o.guard = none) (t : TypeId) (parts : Array (Nat × Operand)) (ho : o.op = .build t parts)
    (cs : Array Value) (hb : P.built t (parts.map fun (i, x) => (i, a.eval x)).toList = some cs) (h : wpList P ops Q rest (a.put o.dst (.agg cs)) w) : wpList P ops Q (o :: rest) a w :=
  wpList_build hg t parts ho (by rw [hb]; rfl) (by rw [hb]; exact h)
namespace Ht
def I0 : I := ⟨0, 0, 0, 0, 0, false, false⟩
def H0 : H := ⟨0, 0, fun _ => 0, 0⟩
def S0 : S := ⟨H0, I0, 0, 0, false, A0, 0⟩
/-- a step of nothing but a hart -/
def SH (h : H) : S := ⟨h, I0, 0, 0, false, A0, 0⟩
end Ht
theorem do1_tmps (a b c x : Value) : (#[a, b, c] ++ (Array.replicate 16 undef).setIfInBounds 2 x) = #[a, b, c, undef, undef, x, undef, undef, undef, undef, undef, undef, undef, undef, undef, undef, undef, undef, undef] := by kernel_rfl
theorem ta_nil1 (w : World) : (Instr.typeAssert .nilIface 20 31 true).run Tryz.prog w = .ok (.tuple #[.int .i64 0, .bool false]) w := by kernel_rfl
theorem ta_nil2 (w : World) : (Instr.typeAssert .nilIface 20 24 true).run Tryz.prog w = .ok (.tuple #[.int .i64 0, .bool false]) w := by kernel_rfl
theorem ta_err (n : Int) (w : World) : (Instr.typeAssert (.iface 31 (.int .i64 n)) 20 31 true).run Tryz.prog w = .ok (.tuple #[.int .i64 n, .bool true]) w := by kernel_rfl
theorem ta_cause1 (n : Int) (w : World) : (Instr.typeAssert (.iface 24 (.int .i64 n)) 20 31 true).run Tryz.prog w = .ok (.tuple #[.int .i64 0, .bool false]) w := by kernel_rfl
theorem ta_cause2 (n : Int) (w : World) : (Instr.typeAssert (.iface 24 (.int .i64 n)) 20 24 true).run Tryz.prog w = .ok (.tuple #[.int .i64 n, .bool true]) w := by kernel_rfl
set_option maxRecDepth 100000 in
theorem catch_idle (p q r : Nat) (w : World) :
    CallsD Tryz.prog 52 #[.pointer (some ⟨p, 0, none⟩), .pointer (some ⟨q, 0, none⟩), .pointer (some ⟨r, 0, none⟩)] .returning w fun e u' w' => e = .returned (.tuple #[]) ∧ u' = .returning ∧ w' = w := by
  refine callsD_of_wpS Tryz.func52 rfl fun c₀ cs hu => ?_
  apply wpS_seq
  apply wpS_region
  simp [wpOpsS, go_sem, recoverD, hu, Tryz.ntmps52, Exit.thenS]
  rw [do1_tmps]
  refine wpS_of_wp ?_
  have t1 := ta_nil1
  have t2 := ta_nil2
  have HU := Lib.hid hu; clear hu
  go_wp2
  have hu := HU.out
  cases c₀
  simp_all [bodyPostS, results, Tryz.results52]
set_option maxRecDepth 100000 in
set_option maxHeartbeats 1000000 in
theorem catch_err (p q r : Nat) (w : World) (old : Array Value) (hs : w.heap[p]? = some (.cells old 87 (0, 0))) (hz : old.size = 53) (hq : w.cell? ⟨q, 0, none⟩ = some (.int .i64 0)) (hf : w.frozen? ⟨q, 0, none⟩ = false) (hpq : q ≠ p) (older : List PanicEntry) :
    CallsD Tryz.prog 52 #[.pointer (some ⟨p, 0, none⟩), .pointer (some ⟨q, 0, none⟩), .pointer (some ⟨r, 0, none⟩)] (.panicking ({ v := .iface 31 (.int .i64 2), recovered := false } :: older)) w fun e u' w' =>
      e = .returned (.tuple #[]) ∧ u' = .panicking ({ v := .iface 31 (.int .i64 2), recovered := true } :: older) ∧ w' = (w.setRow p (scells S0).toArray).setCell ⟨q, 0, none⟩ (.int .i64 2) := by
  have hq' : (w.setRow p (scells S0).toArray).cell? ⟨q, 0, none⟩ = some (.int .i64 0) := (World.cell?_of_block (w := w) (a := ⟨q, 0, none⟩) (setRow_other w p q _ hpq)).trans hq
  have hf' : (w.setRow p (scells S0).toArray).frozen? ⟨q, 0, none⟩ = false := (World.frozen?_of_block (w := w) (a := ⟨q, 0, none⟩) (setRow_other w p q _ hpq)).trans hf
  have HS := Lib.hid hs; have HZ := Lib.hid hz; clear hs hz hq hf hpq
  refine callsD_of_wpS Tryz.func52 rfl fun c₀ cs hu => ?_
  apply wpS_seq
  apply wpS_region
  simp [wpOpsS, go_sem, recoverD, hu, Tryz.ntmps52, Exit.thenS]
  rw [do1_tmps]
  refine wpS_of_wp ?_
  have t1 := ta_err
  have HU := Lib.hid hu; clear hu
  go_wp2_with (first
    | (refine wpList_build_to rfl 87 #[] rfl (scells S0).toArray (by kernel_rfl) ?_)
    | (refine wpList_store_row rfl 87 (.tmp 0) (.tmp 9) rfl p (scells S0).toArray rfl rfl 87 old HS.out (by kernel_rfl) (by rw [HZ.out]; kernel_rfl) (by kernel_rfl) ?_))
  simp [bodyPostS, results, Tryz.results52]
set_option maxRecDepth 100000 in
set_option maxHeartbeats 1000000 in
theorem catch_cause (p q r : Nat) (h : H) (c : Int) (w : World) (old : Array Value) (hs : w.heap[p]? = some (.cells old 87 (0, 0))) (hz : old.size = 53) (hr : w.heap[r]? = some (.cells (hcells h).toArray 26 (0, 0))) (older : List PanicEntry) :
    CallsD Tryz.prog 52 #[.pointer (some ⟨p, 0, none⟩), .pointer (some ⟨q, 0, none⟩), .pointer (some ⟨r, 0, none⟩)] (.panicking ({ v := .iface 24 (.int .i64 c), recovered := false } :: older)) w fun e u' w' =>
      e = .returned (.tuple #[]) ∧ u' = .panicking ({ v := .iface 24 (.int .i64 c), recovered := true } :: older) ∧ w' = (w.setRow p (scells (SH h)).toArray).setCell ⟨p, 34, none⟩ (.int .i64 c) := by
  have hp : Stp (w.setRow p (scells (SH h)).toArray) p (SH h) := setRow_heap _ _ _ _ _ _ hs
  have hq' : (w.setRow p (scells (SH h)).toArray).cell? ⟨p, 34, none⟩ = some (.int .i64 h.cause) := hp.cell 34
  have hf' := hp.free 34
  have HS := Lib.hid hs; have HZ := Lib.hid hz; have HR := Lib.hid hr; clear hs hz hr hp
  refine callsD_of_wpS Tryz.func52 rfl fun c₀ cs hu => ?_
  apply wpS_seq
  apply wpS_region
  simp [wpOpsS, go_sem, recoverD, hu, Tryz.ntmps52, Exit.thenS]
  rw [do1_tmps]
  refine wpS_of_wp ?_
  have t1 := ta_cause1
  have t2 := ta_cause2
  have HU := Lib.hid hu; clear hu
  go_wp2_with (first
    | (refine wpList_load_row rfl 26 (.tmp 2) rfl r rfl 26 (hcells h).toArray (0, 0) _ HR.out Tryz.underlying26 rfl (by kernel_rfl) ?_)
    | (refine wpList_build_to rfl 87 #[(0, .tmp 14)] rfl (scells (SH h)).toArray (by kernel_rfl) ?_)
    | (refine wpList_store_row rfl 87 (.tmp 0) (.tmp 15) rfl p (scells (SH h)).toArray rfl rfl 87 old HS.out (by kernel_rfl) (by rw [HZ.out]; kernel_rfl) (by kernel_rfl) ?_))
  simp [bodyPostS, results, Tryz.results52]
end Go.Proofs.YtianojbdabeoeaaGreatDoor
end

section
namespace Go.Proofs.YtianojbdabeoeaaGreatDoor
open Go.RowKit Ht
set_option linter.unusedVariables false
namespace Ht
def ansV (tv : Int) (tok : Bool) : Value := .agg #[.int .u32 tv, .bool tok]
/-- a step at its beginning -/
def begin_ (h : H) (i : I) (size tv : Int) (tok : Bool) : S := ⟨h, i, size, tv, tok, A0, Ar.add h.pc 4⟩
theorem heap_a4 (w : World) (o1 o2 o3 o4 : Obj) : ((((w.alloc o1).alloc o2).alloc o3).alloc o4).heap[w.heap.size]? = some o1 ∧ ((((w.alloc o1).alloc o2).alloc o3).alloc o4).heap[w.heap.size + 1]? = some o2 ∧
    ((((w.alloc o1).alloc o2).alloc o3).alloc o4).heap[w.heap.size + 2]? = some o3 ∧ ((((w.alloc o1).alloc o2).alloc o3).alloc o4).heap[w.heap.size + 3]? = some o4 := by
  have e1 := heap_alloc_new w o1
  have e2 := heap_alloc_new (w.alloc o1) o2
  have e3 := heap_alloc_new ((w.alloc o1).alloc o2) o3
  have e4 := heap_alloc_new (((w.alloc o1).alloc o2).alloc o3) o4
  have p := fun (w : World) (o : Obj) (k : Nat) (h : k < w.heap.size) => Below.heap_alloc w o k h
  simp only [World.size_alloc] at e2 e3 e4
  refine ⟨?_, ?_, ?_, e4⟩
  · rw [p _ _ _ (by simp only [World.size_alloc]; omega), p _ _ _ (by simp only [World.size_alloc]; omega), p _ _ _ (by simp only [World.size_alloc]; omega)]; exact e1
  · rw [p _ _ _ (by simp only [World.size_alloc]; omega), p _ _ _ (by simp only [World.size_alloc]; omega)]; exact e2
  · rw [p _ _ _ (by simp only [World.size_alloc]; omega)]; exact e3
theorem heap_a3 (w : World) (o1 o2 o3 : Obj) : (((w.alloc o1).alloc o2).alloc o3).heap[w.heap.size]? = some o1 ∧ (((w.alloc o1).alloc o2).alloc o3).heap[w.heap.size + 1]? = some o2 ∧ (((w.alloc o1).alloc o2).alloc o3).heap[w.heap.size + 2]? = some o3 := by
  have e1 := heap_alloc_new w o1
  have e2 := heap_alloc_new (w.alloc o1) o2
  have e3 := heap_alloc_new ((w.alloc o1).alloc o2) o3
  have p := fun (w : World) (o : Obj) (k : Nat) (h : k < w.heap.size) => Below.heap_alloc w o k h
  simp only [World.size_alloc] at e2 e3
  refine ⟨?_, ?_, e3⟩
  · rw [p _ _ _ (by simp only [World.size_alloc]; omega), p _ _ _ (by simp only [World.size_alloc]; omega)]; exact e1
  · rw [p _ _ _ (by simp only [World.size_alloc]; omega)]; exact e2
abbrev szero : Array Value := #[.int .i64 0, .int .u32 0, .int .u32 0, .int .u32 0, .int .u32 0, .int .u32 0, .int .u32 0, .int .u32 0, .int .u32 0, .int .u32 0, .int .u32 0, .int .u32 0, .int .u32 0, .int .u32 0, .int .u32 0, .int .u32 0, .int .u32 0, .int .u32 0, .int .u32 0, .int .u32 0, .int .u32 0, .int .u32 0, .int .u32 0, .int .u32 0, .int .u32 0, .int .u32 0, .int .u32 0, .int .u32 0, .int .u32 0, .int .u32 0, .int .u32 0, .int .u32 0, .int .u32 0, .int .u32 0, .int .i64 0, .int .i64 0, .int .i64 0, .int .i64 0, .int .i64 0, .int .u32 0, .bool false, .bool false, .int .i64 0, .int .u32 0, .bool false, .int .i64 0, .int .u32 0, .int .i64 0, .int .u32 0, .int .i64 0, .bool false, .bool false, .int .u32 0]
end Ht
theorem results_cells2 {P : Program} {fn : Func} {p q : Tmp} {ty ty2 : TypeId} (h : fn.results = #[.cell p ty, .cell q ty2]) (tmps : Array Value) (w : World) (g g2 : Nat) (t : TypeId) (cs : Array Value) (fr : Nat × Nat) (d : TypeDesc) (v : Value)
    (hp : tmps.getD p undef = .pointer (some ⟨g, 0, none⟩)) (hg : w.heap[g]? = some (.cells cs t fr))
    (hu : P.underlying ty = some d) (hd : (match d with | .struct _ | .array _ _ => true | _ => false) = true) (hi : (P.info? ty).map (·.size) = some cs.size)
    (hq : tmps.getD q undef = .pointer (some ⟨g2, 0, none⟩)) (h2 : (loadVar ty2 ⟨g2, 0, none⟩).run P w = .ok v w) :
    (results fn tmps).run P w = .ok (.tuple #[.agg cs, v]) w := by
  have hp' : tmps[p]?.getD undef = .pointer (some ⟨g, 0, none⟩) := by simpa using hp
  have hq' : tmps[q]?.getD undef = .pointer (some ⟨g2, 0, none⟩) := by simpa using hq
  simp [results, h, hp', hq', asAddr, run_loadVar_row w g t ty cs fr d hg hu hd hi, h2]
theorem load_errno (n : Int) (a : Addr) (w : World) (h : w.cell? a = some (.int .i64 n)) : (loadVar 31 a).run Tryz.prog w = .ok (.int .i64 n) w := by
  simp [go_sem, h]
set_option maxRecDepth 100000 in
set_option maxHeartbeats 2000000 in
theorem do_ok (h : H) (x : Int) (op : Nat) (size tv : Int) (tok : Bool) (w : World) (hx : Is.Wd x) (hm : may h = true) (hc : h.cause = 0) (hh : Hit op x)
    (K : GoodS (begin_ h (insOf op x) size tv tok)) (hw : whyS (begin_ h (insOf op x) size tv tok) = 0) :
    Calls Tryz.prog 31 #[hartV h, .int .u32 x, .int .i64 size, ansV tv tok] w fun e w' =>
      e = .returned (.tuple #[stepV { after (begin_ h (insOf op x) size tv tok) with h := { (after (begin_ h (insOf op x) size tv tok)).h with pc := (after (begin_ h (insOf op x) size tv tok)).next } }, .int .i64 0]) ∧ Below w.heap.size w w' := by
  have hmf : ∀ (fn : Fn) (first cap : Array Value) (w : World), (Instr.makeFunc fn first cap).run Tryz.prog w = .ok (.func fn first cap) w := fun _ _ _ _ => rfl
  have hcf := call_fnO op ⟨hh.1, hh.2.1⟩
  have HX := Lib.hid hx; have HM := Lib.hid hm; have HC := Lib.hid hc; have HH := Lib.hid hh; have HW := Lib.hid hw; clear hx hm hc hh hw
  unfold hartV ansV
  go_enter_defers Tryz.func31, Tryz.ntmps31
  go_wp2_with (refine wpList_load_row rfl 26 (.tmp 4) rfl w.heap.size rfl 26 (hcells h).toArray (0, 0) _ (heap_a4 w _ _ _ _).1 Tryz.underlying26 rfl (by kernel_rfl) ?_)
  refine (fetched_ok h x op HX.out HM.out HC.out HH.out _).mono ?_
  rintro e w1 ⟨rfl, hb⟩
  have r0 := (hb.block w.heap.size (by simp only [World.size_alloc]; omega)).trans (heap_a4 w _ _ _ _).1
  have r1 := (hb.block (w.heap.size + 1) (by simp only [World.size_alloc]; omega)).trans (heap_a4 w _ _ _ _).2.1
  have r2 : w1.heap[w.heap.size + 2]? = some (.cells szero 87) := (hb.block (w.heap.size + 2) (by simp only [World.size_alloc]; omega)).trans (heap_a4 w _ _ _ _).2.2.1
  have r3 := (hb.block (w.heap.size + 3) (by simp only [World.size_alloc]; omega)).trans (heap_a4 w _ _ _ _).2.2.2
  have b1 : Below w.heap.size w w1 := (((((Below.refl w.heap.size w).alloc (Nat.le_refl _) _).alloc (by simp only [World.size_alloc]; omega) _).alloc (by simp only [World.size_alloc]; omega) _).alloc (by simp only [World.size_alloc]; omega) _).trans (hb.mono (by simp only [World.size_alloc]; omega))
  have z1 : w.heap.size + 4 ≤ w1.heap.size := by have := hb.size; simp only [World.size_alloc] at this; omega
  clear hb
  obtain ⟨W2, hW2⟩ : ∃ W2, W2 = (w1.alloc (.cells izero 85)).setRow w1.heap.size (icells (insOf op x)).toArray := ⟨_, rfl⟩
  have old : ∀ k, k < w1.heap.size → W2.heap[k]? = w1.heap[k]? := fun k hk => by rw [hW2]; exact (setRow_other _ _ _ _ (by omega)).trans (Below.heap_alloc _ _ _ hk)
  have q0 := (old w.heap.size (by omega)).trans r0
  have q1 := (old (w.heap.size + 1) (by omega)).trans r1
  have q2 := (old (w.heap.size + 2) (by omega)).trans r2
  have q3 := (old (w.heap.size + 3) (by omega)).trans r3
  have q4 : W2.heap[w1.heap.size]? = some (.cells (icells (insOf op x)).toArray 85) := by rw [hW2]; exact setRow_heap _ _ _ _ _ _ (heap_alloc_new _ _)
  have b2 : Below w.heap.size w W2 := by rw [hW2]; exact below_setRow (b1.alloc b1.size _) b1.size
  have z2 : W2.heap.size = w1.heap.size + 1 := by rw [hW2]; simp
  have c1 : W2.cell? ⟨w.heap.size, 1, none⟩ = some (.int .u32 h.pc) := by rw [cell_of_row W2 _ 1 _ _ _ q0]; rfl
  have Q0 := Lib.hid q0; have Q1 := Lib.hid q1; have Q2 := Lib.hid q2; have Q3 := Lib.hid q3; have Q4 := Lib.hid q4; have B2 := Lib.hid b2; have Z2 := Lib.hid z2; have Z1 := Lib.hid z1; have OLD := Lib.hid old; have HW2 := Lib.hid hW2
  obtain ⟨W3, hW3⟩ : ∃ W3, W3 = W2.setRow (w.heap.size + 2) (scells (begin_ h (insOf op x) size tv tok)).toArray := ⟨_, rfl⟩
  have old3 : ∀ k, k ≠ w.heap.size + 2 → W3.heap[k]? = W2.heap[k]? := fun k hk => by rw [hW3]; exact setRow_other _ _ _ _ hk
  have s3 : Stp W3 (w.heap.size + 2) (begin_ h (insOf op x) size tv tok) := by rw [hW3]; exact setRow_heap _ _ _ _ _ _ q2
  have e3 : W3.heap[w.heap.size + 3]? = some (.cells #[.int .i64 0] 31) := (old3 _ (by omega)).trans q3
  have b3 : Below w.heap.size w W3 := by rw [hW3]; exact below_setRow b2 (by omega)
  have z3 : w.heap.size + 4 ≤ W3.heap.size := by rw [hW3, setRow_size, z2]; omega
  have c3 : W3.cell? ⟨w1.heap.size, 0, none⟩ = some (.int .i64 (op : Int)) := by rw [cell_of_row W3 _ 0 _ _ _ ((old3 _ (by omega)).trans q4)]; rfl
  have S3 := Lib.hid s3; have E3 := Lib.hid e3; have B3 := Lib.hid b3; have Z3 := Lib.hid z3; have HW3 := Lib.hid hW3
  clear r0 r1 r2 r3 b1 z1 old q0 q1 q2 q3 q4 b2 z2 hW2 old3 s3 e3 b3 z3 hW3
  unfold instV
  go_wp2_with (first
    | (refine wpList_store_row rfl 85 (.tmp 10) (.tmp 14) rfl w1.heap.size (icells (insOf op x)).toArray rfl rfl 85 izero (heap_alloc_new _ _) (by kernel_rfl) (by kernel_rfl) (by kernel_rfl) ?_; rw [← HW2.out])
    | (refine wpList_load_row rfl 26 (.tmp 4) rfl w.heap.size rfl 26 (hcells h).toArray (0, 0) _ Q0.out Tryz.underlying26 rfl (by kernel_rfl) ?_)
    | (refine wpList_load_row rfl 85 (.tmp 10) rfl w1.heap.size rfl 85 (icells (insOf op x)).toArray (0, 0) _ Q4.out Tryz.underlying85 rfl (by kernel_rfl) ?_)
    | (refine wpList_load_row rfl 28 (.tmp 7) rfl (w.heap.size + 1) rfl 28 #[.int .u32 tv, .bool tok] (0, 0) _ Q1.out Tryz.underlying28 rfl (by kernel_rfl) ?_)
    | (refine wpList_build_to rfl 87 #[(0, .tmp 15), (1, .tmp 16), (2, .tmp 17), (3, .tmp 18), (5, .tmp 21)] rfl (scells (begin_ h (insOf op x) size tv tok)).toArray (by kernel_rfl) ?_)
    | (refine wpList_store_row rfl 87 (.tmp 8) (.tmp 22) rfl (w.heap.size + 2) (scells (begin_ h (insOf op x) size tv tok)).toArray rfl rfl 87 szero Q2.out (by kernel_rfl) (by kernel_rfl) (by kernel_rfl) ?_; rw [← HW3.out]))
  clear Q0 Q1 Q2 Q3 Q4 B2 Z2 OLD HW2 HW3 c1
  refine (meaning_any op ⟨HH.out.1, HH.out.2.1⟩ _).mono ?_
  rintro e w4 ⟨rfl, hb⟩
  have S4 := Lib.hid (S3.out.below hb)
  have E4 := Lib.hid ((hb.block _ (by have := Z3.out; omega)).trans E3.out)
  have B4 := Lib.hid (B3.out.trans (hb.mono B3.out.size))
  have Z4 := Lib.hid (Nat.le_trans Z3.out hb.size)
  clear hb c3 S3 E3 B3 Z3
  go_wp2_with fail
  refine ((means_any _ (w.heap.size + 2) _ S4.out ⟨HH.out.1, HH.out.2.1⟩ rfl K).1 HW.out).mono ?_
  rintro e w5 ⟨rfl, hl⟩
  have c52 : w5.cell? ⟨w.heap.size + 2, 52, none⟩ = some (.int .u32 (after (begin_ h (insOf op x) size tv tok)).next) := hl.1.cell 52
  have c1 : w5.cell? ⟨w.heap.size + 2, 1, none⟩ = some (.int .u32 (after (begin_ h (insOf op x) size tv tok)).h.pc) := hl.1.cell 1
  have f1 := hl.1.free 1
  have e5 := (hl.2.block (w.heap.size + 3) (by have := Z4.out; omega) (by omega)).trans E4.out
  have b5 := B4.out.trans (hl.2.below (by omega) (by have := Z4.out; omega))
  generalize hs6 : after (begin_ h (insOf op x) size tv tok) = s6 at hl c52 c1 ⊢
  obtain ⟨W6, hW6⟩ : ∃ W6, W6 = w5.setCell ⟨w.heap.size + 2, 1, none⟩ (.int .u32 s6.next) := ⟨_, rfl⟩
  have s7 : Stp W6 (w.heap.size + 2) { s6 with h := { s6.h with pc := s6.next } } := by rw [hW6]; exact hl.1.setCell 1 _ rfl
  have e6 : W6.heap[w.heap.size + 3]? = some (.cells #[.int .i64 0] 31) := by rw [hW6]; exact (heap_setCell_other w5 ⟨w.heap.size + 2, 1, none⟩ _ _ (by show _ ≠ w.heap.size + 2; omega)).trans e5
  have b6 : Below w.heap.size w W6 := by rw [hW6]; exact b5.setCell (by show _ ≤ w.heap.size + 2; omega) _
  have x6 : W6.setRow (w.heap.size + 2) (scells { s6 with h := { s6.h with pc := s6.next } }).toArray = W6 := setRow_self W6 _ _ _ _ s7
  have ce : W6.cell? ⟨w.heap.size + 3, 0, none⟩ = some (.int .i64 0) := by rw [cell_of_row W6 _ 0 _ _ _ e6]; rfl
  have fe := frozen_of_row W6 (w.heap.size + 3) 0 _ _ e6
  have HS6 := Lib.hid hs6; have S7 := Lib.hid s7; have E6 := Lib.hid e6; have B6 := Lib.hid b6; have X6 := Lib.hid x6; have HW6 := Lib.hid hW6
  clear hl e5 b5 hs6 s7 e6 b6 x6 hW6 S4 E4 B4
  go_wp2_with (first
    | (refine wpList_load_row rfl 87 (.tmp 8) rfl (w.heap.size + 2) rfl 87 (scells { s6 with h := { s6.h with pc := s6.next } }).toArray (0, 0) _ (by rw [← HW6.out]; exact S7.out) Tryz.underlying87 rfl (by kernel_rfl) ?_)
    | (refine wpList_store_row rfl 87 (.tmp 8) (.tmp 31) rfl (w.heap.size + 2) (scells { s6 with h := { s6.h with pc := s6.next } }).toArray rfl rfl 87 (scells { s6 with h := { s6.h with pc := s6.next } }).toArray (by rw [← HW6.out]; exact S7.out) (by kernel_rfl) (by kernel_rfl) (by kernel_rfl) ?_; rw [← HW6.out, X6.out]))
  refine leaves_cons (f := 52) (args := #[.pointer (some ⟨w.heap.size + 2, 0, none⟩), .pointer (some ⟨w.heap.size + 3, 0, none⟩), .pointer (some ⟨w.heap.size, 0, none⟩)]) (by simp) (by simp [go_sem]) ?_
  refine (catch_idle (w.heap.size + 2) (w.heap.size + 3) w.heap.size _).mono ?_
  rintro e u' w'' ⟨rfl, rfl, rfl⟩
  have s8 : Stp (W6.setCell ⟨w.heap.size + 3, 0, none⟩ (.int .i64 0)) (w.heap.size + 2) { s6 with h := { s6.h with pc := s6.next } } := (heap_setCell_other W6 ⟨w.heap.size + 3, 0, none⟩ _ _ (by show _ ≠ w.heap.size + 3; omega)).trans S7.out
  have ce8 : (W6.setCell ⟨w.heap.size + 3, 0, none⟩ (.int .i64 0)).cell? ⟨w.heap.size + 3, 0, none⟩ = some (.int .i64 0) := by rw [cell_of_row _ _ 0 _ _ _ (heap_setCell_same W6 (w.heap.size + 3) 0 _ _ _ E6.out)]; rfl
  refine ⟨.tuple #[stepV { s6 with h := { s6.h with pc := s6.next } }, .int .i64 0], ?_, ?_, ?_⟩
  · exact results_cells2 (fn := Tryz.f31) rfl _ _ (w.heap.size + 2) (w.heap.size + 3) 87 (scells { s6 with h := { s6.h with pc := s6.next } }).toArray (0, 0) _ _ rfl s8 Tryz.underlying87 rfl (by kernel_rfl) rfl (load_errno 0 _ _ ce8)
  · rw [HS6.out]
  · exact B6.out.setCell (by show _ ≤ w.heap.size + 3; omega) _
end Go.Proofs.YtianojbdabeoeaaGreatDoor
end

section
namespace Go.Proofs.YtianojbdabeoeaaGreatDoor
open Go.RowKit Ht
set_option linter.unusedVariables false
namespace Ht
abbrev hzero : Array Value := #[.int .i64 0, .int .u32 0, .int .u32 0, .int .u32 0, .int .u32 0, .int .u32 0, .int .u32 0, .int .u32 0, .int .u32 0, .int .u32 0, .int .u32 0, .int .u32 0, .int .u32 0, .int .u32 0, .int .u32 0, .int .u32 0, .int .u32 0, .int .u32 0, .int .u32 0, .int .u32 0, .int .u32 0, .int .u32 0, .int .u32 0, .int .u32 0, .int .u32 0, .int .u32 0, .int .u32 0, .int .u32 0, .int .u32 0, .int .u32 0, .int .u32 0, .int .u32 0, .int .u32 0, .int .u32 0, .int .i64 0]
abbrev azero : Array Value := #[.int .i64 0, .int .u32 0, .int .i64 0, .int .u32 0, .int .i64 0, .bool false, .bool false]
end Ht
/-- a part of a row, loaded whole -/
theorem run_loadVar_part {P : Program} (w : World) (g off : Nat) (t ty : TypeId) (row : Array Value) (cs : List Value) (fr : Nat × Nat) (d : TypeDesc) (hg : w.heap[g]? = some (.cells row t fr))
    (hp : (row.toList.drop off).take cs.length = cs) (hu : P.underlying ty = some d) (hd : (match d with | .struct _ | .array _ _ => true | _ => false) = true) (hi : (P.info? ty).map (·.size) = some cs.length) :
    (loadVar ty ⟨g, off, none⟩).run P w = .ok (.agg cs.toArray) w := by
  have hl : (loadCells ⟨g, off, none⟩ cs.length).run P w = .ok cs.toArray w :=
    run_loadCells_list (P := P) w ⟨g, off, none⟩ cs (fun j v hv => by
      have hadd : (⟨g, off, none⟩ : Addr).add j = ⟨g, off + j, none⟩ := by unfold Addr.add; split <;> simp_all
      have hj : j < cs.length := (List.getElem?_eq_some_iff.1 hv).1
      rw [hadd, cell_of_row w g (off + j) row t fr hg]
      rw [← hp, List.getElem?_take_of_lt hj, List.getElem?_drop] at hv
      simpa using hv)
  cases hq : P.info? ty with
  | none => simp [hq] at hi
  | some i =>
    have hs : i.size = cs.length := by simpa [hq] using hi
    have hagg : (isAgg ty).run P w = .ok true w := by
      unfold isAgg
      rw [Sem.run_bind, run_underlying hu w]
      cases d <;> simp_all
    simp [loadVar, Sem.run_bind, hagg, sizeOf, typeInfo, hq, hs, hl]
theorem wpList_load_part {P : Program} {ops : Array Oper} {rest : List Oper} {o : Oper} {a : Act} {w : World} {Q : Exit → Act → World → Prop} (hgd : o.guard = none) (ty : TypeId) (x : Operand) (ho : o.op = .load ty x)
    (g off : Nat) (hx : a.eval x = .pointer (some ⟨g, off, none⟩)) (t : TypeId) (row : Array Value) (cs : List Value) (fr : Nat × Nat) (d : TypeDesc) (hg : w.heap[g]? = some (.cells row t fr))
    (hp : (row.toList.drop off).take cs.length = cs) (hu : P.underlying ty = some d) (hd : (match d with | .struct _ | .array _ _ => true | _ => false) = true) (hi : (P.info? ty).map (·.size) = some cs.length)
    (h : wpList P ops Q rest (a.put o.dst (.agg cs.toArray)) w) : wpList P ops Q (o :: rest) a w :=
  wpList_plain hgd fun _ hK => by
    unfold Oper.wp execOp
    simp only [ho, hx, Instr.loadAt, Instr.sureAddr, Sem.run_bind, Sem.run_pure, Result.andThen_ok, run_loadVar_part w g off t ty row cs fr d hg hp hu hd hi]
    exact hK _ _ h
theorem wpList_field {P : Program} {ops : Array Oper} {rest : List Oper} {o : Oper} {a : Act} {w : World} {Q : Exit → Act → World → Prop} (hgd : o.guard = none) (s : TypeId) (x : Operand) (f : Nat) (ho : o.op = .fieldAddr s x f) (v : Value)
    (hr : (Instr.fieldAt s (a.eval x) f).run P w = .ok v w) (h : wpList P ops Q rest (a.put o.dst v) w) : wpList P ops Q (o :: rest) a w :=
  wpList_plain hgd fun _ hK => by
    unfold Oper.wp execOp
    simp only [ho, Sem.run_bind, hr, Sem.run_pure, Result.andThen_ok]
    exact hK _ _ h
set_option maxRecDepth 100000 in
set_option maxHeartbeats 2000000 in
/-- whatever do tells is told -/
theorem done_of (h : H) (x : Int) (size tv : Int) (tok : Bool) (s : S) (err : Int) (w : World)
    (hd : ∀ w, Calls Tryz.prog 31 #[hartV h, .int .u32 x, .int .i64 size, ansV tv tok] w fun e w' => e = .returned (.tuple #[stepV s, .int .i64 err]) ∧ Below w.heap.size w w') :
    Calls Tryz.prog 11 #[hartV h, .int .u32 x, .int .i64 size, ansV tv tok] w fun e w' => e = .returned (.tuple #[hartV s.h, .int .i64 err]) ∧ Below w.heap.size w w' := by
  have HD := Lib.hid hd; clear hd
  unfold hartV ansV
  go_enter Tryz.func11, Tryz.ntmps11
  go_wp2_with (first
    | (refine wpList_load_row rfl 26 (.tmp 4) rfl w.heap.size rfl 26 (hcells h).toArray (0, 0) _ (heap_a3 w _ _ _).1 Tryz.underlying26 rfl (by kernel_rfl) ?_)
    | (refine wpList_load_row rfl 28 (.tmp 7) rfl (w.heap.size + 1) rfl 28 #[.int .u32 tv, .bool tok] (0, 0) _ (heap_a3 w _ _ _).2.1 Tryz.underlying28 rfl (by kernel_rfl) ?_))
  refine (HD.out _).mono ?_
  rintro e w1 ⟨rfl, hb⟩
  have r2 : w1.heap[w.heap.size + 2]? = some (.cells hzero 26) := (hb.block (w.heap.size + 2) (by simp only [World.size_alloc]; omega)).trans (heap_a3 w _ _ _).2.2
  have b1 : Below w.heap.size w w1 := ((((Below.refl w.heap.size w).alloc (Nat.le_refl _) _).alloc (by simp only [World.size_alloc]; omega) _).alloc (by simp only [World.size_alloc]; omega) _).trans (hb.mono (by simp only [World.size_alloc]; omega))
  have z1 : w.heap.size + 3 ≤ w1.heap.size := by have := hb.size; simp only [World.size_alloc] at this; omega
  clear hb
  obtain ⟨W2, hW2⟩ : ∃ W2, W2 = (w1.alloc (.cells szero 87)).setRow w1.heap.size (scells s).toArray := ⟨_, rfl⟩
  have s2 : Stp W2 w1.heap.size s := by rw [hW2]; exact setRow_heap _ _ _ _ _ _ (heap_alloc_new _ _)
  have r3 : W2.heap[w.heap.size + 2]? = some (.cells hzero 26) := by rw [hW2]; exact (setRow_other _ _ _ _ (by omega)).trans ((Below.heap_alloc _ _ _ (by omega)).trans r2)
  have b2 : Below w.heap.size w W2 := by rw [hW2]; exact below_setRow (b1.alloc b1.size _) b1.size
  have S2 := Lib.hid s2; have R3 := Lib.hid r3; have B2 := Lib.hid b2; have HW2 := Lib.hid hW2
  clear s2 r2 r3 b1 b2 z1 hW2
  unfold stepV
  have HD3 := Lib.hid (setRow_heap W2 (w.heap.size + 2) hzero (hcells s.h).toArray 26 (0, 0) R3.out)
  go_wp2_with (first
    | (refine wpList_store_row rfl 87 (.tmp 10) (.tmp 18) rfl w1.heap.size (scells s).toArray rfl rfl 87 szero (heap_alloc_new _ _) (by kernel_rfl) (by kernel_rfl) (by kernel_rfl) ?_; rw [← HW2.out])
    | (refine wpList_load_part rfl 26 (.tmp 20) rfl w1.heap.size 0 rfl 87 (scells s).toArray (hcells s.h) (0, 0) _ S2.out (by kernel_rfl) Tryz.underlying26 rfl (by kernel_rfl) ?_)
    | (refine wpList_store_row rfl 26 (.tmp 8) (.tmp 21) rfl (w.heap.size + 2) (hcells s.h).toArray rfl rfl 26 hzero R3.out (by kernel_rfl) (by kernel_rfl) (by kernel_rfl) ?_))
  refine bodyPost_ret (v := .tuple #[.agg (hcells s.h).toArray, .int .i64 err]) ?_ rfl ⟨rfl, ?_⟩
  · exact results_row2 (fn := Tryz.f11) rfl _ _ (w.heap.size + 2) 26 (hcells s.h).toArray (0, 0) _ rfl HD3.out Tryz.underlying26 rfl (by kernel_rfl)
  · exact below_setRow B2.out (by omega)
end Go.Proofs.YtianojbdabeoeaaGreatDoor
end

section
namespace Go.Proofs.YtianojbdabeoeaaGreatDoor
open Go.RowKit Ht
set_option linter.unusedVariables false
set_option maxRecDepth 100000 in
set_option maxHeartbeats 2000000 in
theorem do_arg (h : H) (x : Int) (size tv : Int) (tok : Bool) (w : World) (hm : may h = false ∨ (may h = true ∧ h.cause ≠ 0)) :
    Calls Tryz.prog 31 #[hartV h, .int .u32 x, .int .i64 size, ansV tv tok] w fun e w' =>
      e = .returned (.tuple #[stepV S0, .int .i64 2]) ∧ Below w.heap.size w w' := by
  have hmf : ∀ (fn : Fn) (first cap : Array Value) (w : World), (Instr.makeFunc fn first cap).run Tryz.prog w = .ok (.func fn first cap) w := fun _ _ _ _ => rfl
  have HM := Lib.hid hm; clear hm
  unfold hartV ansV
  go_enter_defers Tryz.func31, Tryz.ntmps31
  go_wp2_with (refine wpList_load_row rfl 26 (.tmp 4) rfl w.heap.size rfl 26 (hcells h).toArray (0, 0) _ (heap_a4 w _ _ _ _).1 Tryz.underlying26 rfl (by kernel_rfl) ?_)
  refine (fetched_arg h x HM.out _).mono ?_
  rintro e w1 ⟨rfl, hb⟩
  have r0 := (hb.block w.heap.size (by simp only [World.size_alloc]; omega)).trans (heap_a4 w _ _ _ _).1
  have r1 := (hb.block (w.heap.size + 1) (by simp only [World.size_alloc]; omega)).trans (heap_a4 w _ _ _ _).2.1
  have r2 : w1.heap[w.heap.size + 2]? = some (.cells szero 87) := (hb.block (w.heap.size + 2) (by simp only [World.size_alloc]; omega)).trans (heap_a4 w _ _ _ _).2.2.1
  have r3 := (hb.block (w.heap.size + 3) (by simp only [World.size_alloc]; omega)).trans (heap_a4 w _ _ _ _).2.2.2
  have b1 : Below w.heap.size w w1 := (((((Below.refl w.heap.size w).alloc (Nat.le_refl _) _).alloc (by simp only [World.size_alloc]; omega) _).alloc (by simp only [World.size_alloc]; omega) _).alloc (by simp only [World.size_alloc]; omega) _).trans (hb.mono (by simp only [World.size_alloc]; omega))
  have z1 : w.heap.size + 4 ≤ w1.heap.size := by have := hb.size; simp only [World.size_alloc] at this; omega
  clear hb
  have R0 := Lib.hid r0; have R2 := Lib.hid r2; have R3 := Lib.hid r3; have B1 := Lib.hid b1; have Z1 := Lib.hid z1
  clear r0 r1 r2 r3 b1 z1
  have ce : w1.cell? ⟨w.heap.size + 3, 0, none⟩ = some (.int .i64 0) := by rw [cell_of_row w1 _ 0 _ _ _ R3.out]; rfl
  have fe := frozen_of_row w1 (w.heap.size + 3) 0 _ _ R3.out
  go_wp2
  refine leaves_cons (f := 52) (args := #[.pointer (some ⟨w.heap.size + 2, 0, none⟩), .pointer (some ⟨w.heap.size + 3, 0, none⟩), .pointer (some ⟨w.heap.size, 0, none⟩)]) (by simp) (by simp [go_sem]) ?_
  refine (catch_err (w.heap.size + 2) (w.heap.size + 3) w.heap.size _ szero R2.out (by kernel_rfl) ce fe (by omega) []).mono ?_
  rintro e u' w'' ⟨rfl, rfl, rfl⟩
  have s7 : Stp (w1.setRow (w.heap.size + 2) (scells S0).toArray) (w.heap.size + 2) S0 := setRow_heap _ _ _ _ _ _ R2.out
  have e7 : (w1.setRow (w.heap.size + 2) (scells S0).toArray).heap[w.heap.size + 3]? = some (.cells #[.int .i64 0] 31) := (setRow_other _ _ _ _ (by omega)).trans R3.out
  have s8 : Stp ((w1.setRow (w.heap.size + 2) (scells S0).toArray).setCell ⟨w.heap.size + 3, 0, none⟩ (.int .i64 2)) (w.heap.size + 2) S0 := (heap_setCell_other _ ⟨w.heap.size + 3, 0, none⟩ _ _ (by show _ ≠ w.heap.size + 3; omega)).trans s7
  have ce8 : ((w1.setRow (w.heap.size + 2) (scells S0).toArray).setCell ⟨w.heap.size + 3, 0, none⟩ (.int .i64 2)).cell? ⟨w.heap.size + 3, 0, none⟩ = some (.int .i64 2) := by rw [cell_of_row _ _ 0 _ _ _ (heap_setCell_same _ (w.heap.size + 3) 0 _ _ _ e7)]; rfl
  refine ⟨.tuple #[stepV S0, .int .i64 2], ?_, rfl, ?_⟩
  · exact results_cells2 (fn := Tryz.f31) rfl _ _ (w.heap.size + 2) (w.heap.size + 3) 87 (scells S0).toArray (0, 0) _ _ rfl s8 Tryz.underlying87 rfl (by kernel_rfl) rfl (load_errno 2 _ _ ce8)
  · exact (below_setRow B1.out (by omega)).setCell (by show _ ≤ w.heap.size + 3; omega) _
end Go.Proofs.YtianojbdabeoeaaGreatDoor
end

section
namespace Go.Proofs.YtianojbdabeoeaaGreatDoor
open Go.RowKit Ht
set_option linter.unusedVariables false
set_option maxRecDepth 100000 in
set_option maxHeartbeats 2000000 in
theorem do_ill (h : H) (x : Int) (size tv : Int) (tok : Bool) (w : World) (hx : Is.Wd x) (hm : may h = true) (hc : h.cause = 0) (hh : ∀ op : Nat, ¬ Hit op x) :
    Calls Tryz.prog 31 #[hartV h, .int .u32 x, .int .i64 size, ansV tv tok] w fun e w' =>
      e = .returned (.tuple #[stepV (SH { h with cause := 2 }), .int .i64 0]) ∧ Below w.heap.size w w' := by
  have hmf : ∀ (fn : Fn) (first cap : Array Value) (w : World), (Instr.makeFunc fn first cap).run Tryz.prog w = .ok (.func fn first cap) w := fun _ _ _ _ => rfl
  have HX := Lib.hid hx; have HM := Lib.hid hm; have HC := Lib.hid hc; have HH := Lib.hid hh; clear hx hm hc hh
  unfold hartV ansV
  go_enter_defers Tryz.func31, Tryz.ntmps31
  go_wp2_with (refine wpList_load_row rfl 26 (.tmp 4) rfl w.heap.size rfl 26 (hcells h).toArray (0, 0) _ (heap_a4 w _ _ _ _).1 Tryz.underlying26 rfl (by kernel_rfl) ?_)
  refine (fetched_ill h x HX.out HM.out HC.out HH.out _).mono ?_
  rintro e w1 ⟨rfl, hb⟩
  have r0 := (hb.block w.heap.size (by simp only [World.size_alloc]; omega)).trans (heap_a4 w _ _ _ _).1
  have r1 := (hb.block (w.heap.size + 1) (by simp only [World.size_alloc]; omega)).trans (heap_a4 w _ _ _ _).2.1
  have r2 : w1.heap[w.heap.size + 2]? = some (.cells szero 87) := (hb.block (w.heap.size + 2) (by simp only [World.size_alloc]; omega)).trans (heap_a4 w _ _ _ _).2.2.1
  have r3 := (hb.block (w.heap.size + 3) (by simp only [World.size_alloc]; omega)).trans (heap_a4 w _ _ _ _).2.2.2
  have b1 : Below w.heap.size w w1 := (((((Below.refl w.heap.size w).alloc (Nat.le_refl _) _).alloc (by simp only [World.size_alloc]; omega) _).alloc (by simp only [World.size_alloc]; omega) _).alloc (by simp only [World.size_alloc]; omega) _).trans (hb.mono (by simp only [World.size_alloc]; omega))
  have z1 : w.heap.size + 4 ≤ w1.heap.size := by have := hb.size; simp only [World.size_alloc] at this; omega
  clear hb
  have R0 := Lib.hid r0; have R2 := Lib.hid r2; have R3 := Lib.hid r3; have B1 := Lib.hid b1; have Z1 := Lib.hid z1
  clear r0 r1 r2 r3 b1 z1
  go_wp2
  refine leaves_cons (f := 52) (args := #[.pointer (some ⟨w.heap.size + 2, 0, none⟩), .pointer (some ⟨w.heap.size + 3, 0, none⟩), .pointer (some ⟨w.heap.size, 0, none⟩)]) (by simp) (by simp [go_sem]) ?_
  refine (catch_cause (w.heap.size + 2) (w.heap.size + 3) w.heap.size h 2 _ szero R2.out (by kernel_rfl) R0.out []).mono ?_
  rintro e u' w'' ⟨rfl, rfl, rfl⟩
  have s7 : Stp (w1.setRow (w.heap.size + 2) (scells (SH h)).toArray) (w.heap.size + 2) (SH h) := setRow_heap _ _ _ _ _ _ R2.out
  have s8 : Stp ((w1.setRow (w.heap.size + 2) (scells (SH h)).toArray).setCell ⟨w.heap.size + 2, 34, none⟩ (.int .i64 2)) (w.heap.size + 2) (SH { h with cause := 2 }) := s7.setCell 34 _ rfl
  have e8 : ((w1.setRow (w.heap.size + 2) (scells (SH h)).toArray).setCell ⟨w.heap.size + 2, 34, none⟩ (.int .i64 2)).heap[w.heap.size + 3]? = some (.cells #[.int .i64 0] 31) := (heap_setCell_other _ ⟨w.heap.size + 2, 34, none⟩ _ _ (by show _ ≠ w.heap.size + 2; omega)).trans ((setRow_other _ _ _ _ (by omega)).trans R3.out)
  have ce8 : ((w1.setRow (w.heap.size + 2) (scells (SH h)).toArray).setCell ⟨w.heap.size + 2, 34, none⟩ (.int .i64 2)).cell? ⟨w.heap.size + 3, 0, none⟩ = some (.int .i64 0) := by rw [cell_of_row _ _ 0 _ _ _ e8]; rfl
  refine ⟨.tuple #[stepV (SH { h with cause := 2 }), .int .i64 0], ?_, rfl, ?_⟩
  · exact results_cells2 (fn := Tryz.f31) rfl _ _ (w.heap.size + 2) (w.heap.size + 3) 87 (scells (SH { h with cause := 2 })).toArray (0, 0) _ _ rfl s8 Tryz.underlying87 rfl (by kernel_rfl) rfl (load_errno 0 _ _ ce8)
  · exact (below_setRow B1.out (by omega)).setCell (by show _ ≤ w.heap.size + 2; omega) _
end Go.Proofs.YtianojbdabeoeaaGreatDoor
end

section
namespace Go.Proofs.YtianojbdabeoeaaGreatDoor
open Go.RowKit Ht
set_option linter.unusedVariables false
set_option maxRecDepth 100000 in
set_option maxHeartbeats 2000000 in
theorem do_halt (h : H) (x : Int) (op : Nat) (size tv : Int) (tok : Bool) (w : World) (hx : Is.Wd x) (hm : may h = true) (hc : h.cause = 0) (hh : Hit op x)
    (K : GoodS (begin_ h (insOf op x) size tv tok)) (hw : whyS (begin_ h (insOf op x) size tv tok) ≠ 0) :
    Calls Tryz.prog 31 #[hartV h, .int .u32 x, .int .i64 size, ansV tv tok] w fun e w' =>
      e = .returned (.tuple #[stepV (SH { h with cause := (whyS (begin_ h (insOf op x) size tv tok)) }), .int .i64 0]) ∧ Below w.heap.size w w' := by
  have hmf : ∀ (fn : Fn) (first cap : Array Value) (w : World), (Instr.makeFunc fn first cap).run Tryz.prog w = .ok (.func fn first cap) w := fun _ _ _ _ => rfl
  have hcf := call_fnO op ⟨hh.1, hh.2.1⟩
  have HX := Lib.hid hx; have HM := Lib.hid hm; have HC := Lib.hid hc; have HH := Lib.hid hh; have HW := Lib.hid hw; clear hx hm hc hh hw
  unfold hartV ansV
  go_enter_defers Tryz.func31, Tryz.ntmps31
  go_wp2_with (refine wpList_load_row rfl 26 (.tmp 4) rfl w.heap.size rfl 26 (hcells h).toArray (0, 0) _ (heap_a4 w _ _ _ _).1 Tryz.underlying26 rfl (by kernel_rfl) ?_)
  refine (fetched_ok h x op HX.out HM.out HC.out HH.out _).mono ?_
  rintro e w1 ⟨rfl, hb⟩
  have r0 := (hb.block w.heap.size (by simp only [World.size_alloc]; omega)).trans (heap_a4 w _ _ _ _).1
  have r1 := (hb.block (w.heap.size + 1) (by simp only [World.size_alloc]; omega)).trans (heap_a4 w _ _ _ _).2.1
  have r2 : w1.heap[w.heap.size + 2]? = some (.cells szero 87) := (hb.block (w.heap.size + 2) (by simp only [World.size_alloc]; omega)).trans (heap_a4 w _ _ _ _).2.2.1
  have r3 := (hb.block (w.heap.size + 3) (by simp only [World.size_alloc]; omega)).trans (heap_a4 w _ _ _ _).2.2.2
  have b1 : Below w.heap.size w w1 := (((((Below.refl w.heap.size w).alloc (Nat.le_refl _) _).alloc (by simp only [World.size_alloc]; omega) _).alloc (by simp only [World.size_alloc]; omega) _).alloc (by simp only [World.size_alloc]; omega) _).trans (hb.mono (by simp only [World.size_alloc]; omega))
  have z1 : w.heap.size + 4 ≤ w1.heap.size := by have := hb.size; simp only [World.size_alloc] at this; omega
  clear hb
  obtain ⟨W2, hW2⟩ : ∃ W2, W2 = (w1.alloc (.cells izero 85)).setRow w1.heap.size (icells (insOf op x)).toArray := ⟨_, rfl⟩
  have old : ∀ k, k < w1.heap.size → W2.heap[k]? = w1.heap[k]? := fun k hk => by rw [hW2]; exact (setRow_other _ _ _ _ (by omega)).trans (Below.heap_alloc _ _ _ hk)
  have q0 := (old w.heap.size (by omega)).trans r0
  have q1 := (old (w.heap.size + 1) (by omega)).trans r1
  have q2 := (old (w.heap.size + 2) (by omega)).trans r2
  have q3 := (old (w.heap.size + 3) (by omega)).trans r3
  have q4 : W2.heap[w1.heap.size]? = some (.cells (icells (insOf op x)).toArray 85) := by rw [hW2]; exact setRow_heap _ _ _ _ _ _ (heap_alloc_new _ _)
  have b2 : Below w.heap.size w W2 := by rw [hW2]; exact below_setRow (b1.alloc b1.size _) b1.size
  have z2 : W2.heap.size = w1.heap.size + 1 := by rw [hW2]; simp
  have c1 : W2.cell? ⟨w.heap.size, 1, none⟩ = some (.int .u32 h.pc) := by rw [cell_of_row W2 _ 1 _ _ _ q0]; rfl
  have Q0 := Lib.hid q0; have Q1 := Lib.hid q1; have Q2 := Lib.hid q2; have Q3 := Lib.hid q3; have Q4 := Lib.hid q4; have B2 := Lib.hid b2; have Z2 := Lib.hid z2; have Z1 := Lib.hid z1; have OLD := Lib.hid old; have HW2 := Lib.hid hW2
  obtain ⟨W3, hW3⟩ : ∃ W3, W3 = W2.setRow (w.heap.size + 2) (scells (begin_ h (insOf op x) size tv tok)).toArray := ⟨_, rfl⟩
  have old3 : ∀ k, k ≠ w.heap.size + 2 → W3.heap[k]? = W2.heap[k]? := fun k hk => by rw [hW3]; exact setRow_other _ _ _ _ hk
  have s3 : Stp W3 (w.heap.size + 2) (begin_ h (insOf op x) size tv tok) := by rw [hW3]; exact setRow_heap _ _ _ _ _ _ q2
  have e3 : W3.heap[w.heap.size + 3]? = some (.cells #[.int .i64 0] 31) := (old3 _ (by omega)).trans q3
  have b3 : Below w.heap.size w W3 := by rw [hW3]; exact below_setRow b2 (by omega)
  have z3 : w.heap.size + 4 ≤ W3.heap.size := by rw [hW3, setRow_size, z2]; omega
  have c3 : W3.cell? ⟨w1.heap.size, 0, none⟩ = some (.int .i64 (op : Int)) := by rw [cell_of_row W3 _ 0 _ _ _ ((old3 _ (by omega)).trans q4)]; rfl
  have h3 := (old3 _ (by omega)).trans q0
  have H3 := Lib.hid h3; clear h3
  have S3 := Lib.hid s3; have E3 := Lib.hid e3; have B3 := Lib.hid b3; have Z3 := Lib.hid z3; have HW3 := Lib.hid hW3
  clear r0 r1 r2 r3 b1 z1 old q0 q1 q2 q3 q4 b2 z2 hW2 old3 s3 e3 b3 z3 hW3
  unfold instV
  go_wp2_with (first
    | (refine wpList_store_row rfl 85 (.tmp 10) (.tmp 14) rfl w1.heap.size (icells (insOf op x)).toArray rfl rfl 85 izero (heap_alloc_new _ _) (by kernel_rfl) (by kernel_rfl) (by kernel_rfl) ?_; rw [← HW2.out])
    | (refine wpList_load_row rfl 26 (.tmp 4) rfl w.heap.size rfl 26 (hcells h).toArray (0, 0) _ Q0.out Tryz.underlying26 rfl (by kernel_rfl) ?_)
    | (refine wpList_load_row rfl 85 (.tmp 10) rfl w1.heap.size rfl 85 (icells (insOf op x)).toArray (0, 0) _ Q4.out Tryz.underlying85 rfl (by kernel_rfl) ?_)
    | (refine wpList_load_row rfl 28 (.tmp 7) rfl (w.heap.size + 1) rfl 28 #[.int .u32 tv, .bool tok] (0, 0) _ Q1.out Tryz.underlying28 rfl (by kernel_rfl) ?_)
    | (refine wpList_build_to rfl 87 #[(0, .tmp 15), (1, .tmp 16), (2, .tmp 17), (3, .tmp 18), (5, .tmp 21)] rfl (scells (begin_ h (insOf op x) size tv tok)).toArray (by kernel_rfl) ?_)
    | (refine wpList_store_row rfl 87 (.tmp 8) (.tmp 22) rfl (w.heap.size + 2) (scells (begin_ h (insOf op x) size tv tok)).toArray rfl rfl 87 szero Q2.out (by kernel_rfl) (by kernel_rfl) (by kernel_rfl) ?_; rw [← HW3.out]))
  clear Q0 Q1 Q2 Q3 Q4 B2 Z2 OLD HW2 HW3 c1
  refine (meaning_any op ⟨HH.out.1, HH.out.2.1⟩ _).mono ?_
  rintro e w4 ⟨rfl, hb⟩
  have S4 := Lib.hid (S3.out.below hb)
  have E4 := Lib.hid ((hb.block _ (by have := Z3.out; omega)).trans E3.out)
  have H4 := Lib.hid ((hb.block _ (by have := Z3.out; omega)).trans H3.out)
  have B4 := Lib.hid (B3.out.trans (hb.mono B3.out.size))
  have Z4 := Lib.hid (Nat.le_trans Z3.out hb.size)
  clear hb c3 S3 E3 B3 Z3
  go_wp2_with fail
  refine ((means_any _ (w.heap.size + 2) _ S4.out ⟨HH.out.1, HH.out.2.1⟩ rfl K).2 HW.out).mono ?_
  rintro e w5 ⟨rfl, ho⟩
  have e5 := (ho.block (w.heap.size + 3) (by have := Z4.out; omega) (by omega)).trans E4.out
  have h5 := (ho.block w.heap.size (by have := Z4.out; omega) (by omega)).trans H4.out
  have b5 := B4.out.trans (ho.below (by omega) (by have := Z4.out; omega))
  obtain ⟨row, hz, hr⟩ := ho.row _ _ S4.out
  have hz' : row.size = 53 := hz.trans (by kernel_rfl)
  obtain ⟨c, hc⟩ : ∃ c, c = (whyS (begin_ h (insOf op x) size tv tok)) := ⟨_, rfl⟩
  rw [← hc]
  have HCC := Lib.hid hc; clear hc
  have E5 := Lib.hid e5; have H5 := Lib.hid h5; have B5 := Lib.hid b5; have HZ := Lib.hid hz'; have HR := Lib.hid hr
  clear ho e5 h5 b5 hz hz' hr S4 E4 H4 B4 Z4
  go_wp2
  refine leaves_cons (f := 52) (args := #[.pointer (some ⟨w.heap.size + 2, 0, none⟩), .pointer (some ⟨w.heap.size + 3, 0, none⟩), .pointer (some ⟨w.heap.size, 0, none⟩)]) (by simp) (by simp [go_sem]) ?_
  refine (catch_cause (w.heap.size + 2) (w.heap.size + 3) w.heap.size h c _ row HR.out HZ.out H5.out []).mono ?_
  rintro e u' w'' ⟨rfl, rfl, rfl⟩
  have s7 : Stp (w5.setRow (w.heap.size + 2) (scells (SH h)).toArray) (w.heap.size + 2) (SH h) := setRow_heap _ _ _ _ _ _ HR.out
  have s8 : Stp ((w5.setRow (w.heap.size + 2) (scells (SH h)).toArray).setCell ⟨w.heap.size + 2, 34, none⟩ (.int .i64 c)) (w.heap.size + 2) (SH { h with cause := c }) := s7.setCell 34 _ rfl
  have e8 : ((w5.setRow (w.heap.size + 2) (scells (SH h)).toArray).setCell ⟨w.heap.size + 2, 34, none⟩ (.int .i64 c)).heap[w.heap.size + 3]? = some (.cells #[.int .i64 0] 31) := (heap_setCell_other _ ⟨w.heap.size + 2, 34, none⟩ _ _ (by show _ ≠ w.heap.size + 2; omega)).trans ((setRow_other _ _ _ _ (by omega)).trans E5.out)
  have ce8 : ((w5.setRow (w.heap.size + 2) (scells (SH h)).toArray).setCell ⟨w.heap.size + 2, 34, none⟩ (.int .i64 c)).cell? ⟨w.heap.size + 3, 0, none⟩ = some (.int .i64 0) := by rw [cell_of_row _ _ 0 _ _ _ e8]; rfl
  refine ⟨.tuple #[stepV (SH { h with cause := c }), .int .i64 0], ?_, by rw [HCC.out], ?_⟩
  · exact results_cells2 (fn := Tryz.f31) rfl _ _ (w.heap.size + 2) (w.heap.size + 3) 87 (scells (SH { h with cause := c })).toArray (0, 0) _ _ rfl s8 Tryz.underlying87 rfl (by kernel_rfl) rfl (load_errno 0 _ _ ce8)
  · exact (below_setRow B5.out (by omega)).setCell (by show _ ≤ w.heap.size + 2; omega) _
end Go.Proofs.YtianojbdabeoeaaGreatDoor
end

section
namespace Go.Proofs.YtianojbdabeoeaaGreatDoor
open Go.RowKit Ht
set_option linter.unusedVariables false
namespace Ht
theorem imm_wd (k : Nat) {x : Int} (hx : Is.Wd x) : Ar.Wd (Is.immO k x) := by
  unfold Is.Wd at hx
  unfold Ar.Wd Is.immO
  split
  · unfold Is.upperImm; omega
  · unfold Is.jumpImm Is.sx; split <;> omega
  · unfold Is.shortImm Is.sx; split <;> omega
  · unfold Is.shortImm Is.sx; split <;> omega
  · unfold Is.shiftImm; omega
  · unfold Is.branchImm Is.sx; split <;> omega
  · unfold Is.storeImm Is.sx; split <;> omega
  · unfold Is.fenceImm; omega
  · omega
theorem ord_no {op : Nat} (h : 1 ≤ op ∧ op < 48) (x : Int) : Is.aqO (Is.fm op) x = false ∧ Is.rlO (Is.fm op) x = false := by
  have e : ∀ op : Fin 48, op.1 ≠ 0 → Is.hasOrd (Is.fm op.1) = false := by decide
  have := e ⟨op, h.2⟩ (by show op ≠ 0; omega)
  unfold Is.aqO Is.rlO
  simp only at this
  rw [this]; exact ⟨rfl, rfl⟩
/-- what a hart's numbers keep to -/
structure HB (h : H) : Prop where
  id : -9223372036854775808 ≤ h.id ∧ h.id ≤ 9223372036854775807
  pc : Ar.Wd h.pc
  R : ∀ k, Ar.Wd (h.R k)
  cause : -9223372036854775808 ≤ h.cause ∧ h.cause ≤ 9223372036854775807
def goes (h : H) : Bool := may h && h.cause == 0
theorem goes_yes {h : H} (g : goes h = true) : may h = true ∧ h.cause = 0 := by
  unfold goes at g
  rw [Bool.and_eq_true] at g
  exact ⟨g.1, by simpa using g.2⟩
theorem goes_no {h : H} (g : goes h = false) : may h = false ∨ (may h = true ∧ h.cause ≠ 0) := by
  unfold goes at g
  rw [Bool.and_eq_false_iff] at g
  rcases g with g | g
  · exact .inl g
  · cases e : may h
    · exact .inl rfl
    · exact .inr ⟨rfl, by simpa using g⟩
theorem may_id {h : H} (g : may h = true) : (0 ≤ h.id ∧ h.id ≤ 3) ∧ h.R 0 = 0 := by
  unfold may at g
  simp only [Bool.and_eq_true, decide_eq_true_eq, beq_iff_eq] at g
  exact ⟨⟨g.1.1.1.1, by have := g.1.1.1.2; omega⟩, g.1.1.2⟩
theorem good_of {h : H} {x size tv : Int} (tok : Bool) {op : Nat} (hb : HB h) (g : goes h = true) (hx : Is.Wd x) (hs : -9223372036854775808 ≤ size ∧ size ≤ 9223372036854775807) (ht : Ar.Wd tv) (hh : Hit op x) :
    GoodS (begin_ h (insOf op x) size tv tok) := by
  obtain ⟨h1, h2, h3⟩ := reg_bd hx (Is.fm op)
  exact ⟨by show (Is.rdO (Is.fm op) x).toNat ≤ 31; omega, by show (Is.rs1O (Is.fm op) x).toNat ≤ 31; omega, by show (Is.rs2O (Is.fm op) x).toNat ≤ 31; omega, imm_wd _ hx, hb.R, hb.pc, (may_id (goes_yes g).1).1, ht, hs,
    fun h => ord_no ⟨hh.1, h⟩ x⟩
/-- what is told of a word -/
inductive Out (h : H) (x size tv : Int) (tok : Bool) : S → Int → Prop
  | arg : goes h = false → Out h x size tv tok S0 2
  | ill : goes h = true → (∀ op : Nat, ¬ Hit op x) → Out h x size tv tok (SH { h with cause := 2 }) 0
  | halt (op : Nat) : goes h = true → Hit op x → whyS (begin_ h (insOf op x) size tv tok) ≠ 0 → Out h x size tv tok (SH { h with cause := whyS (begin_ h (insOf op x) size tv tok) }) 0
  | ok (op : Nat) : goes h = true → Hit op x → whyS (begin_ h (insOf op x) size tv tok) = 0 →
      Out h x size tv tok { after (begin_ h (insOf op x) size tv tok) with h := { (after (begin_ h (insOf op x) size tv tok)).h with pc := (after (begin_ h (insOf op x) size tv tok)).next } } 0
theorem out_is (h : H) (x size tv : Int) (tok : Bool) : ∃ s err, Out h x size tv tok s err := by
  cases g : goes h
  · exact ⟨_, _, .arg g⟩
  · by_cases e : ∃ op, Hit op x
    · obtain ⟨op, e⟩ := e
      by_cases e2 : whyS (begin_ h (insOf op x) size tv tok) = 0
      · exact ⟨_, _, .ok op g e e2⟩
      · exact ⟨_, _, .halt op g e e2⟩
    · exact ⟨_, _, .ill g (fun op ho => e ⟨op, ho⟩)⟩
end Ht
/-- whatever is told, the program tells it -/
theorem do_of {h : H} {x size tv : Int} {tok : Bool} {s : S} {err : Int} (o : Out h x size tv tok s err) (hb : HB h) (hx : Is.Wd x) (hs : -9223372036854775808 ≤ size ∧ size ≤ 9223372036854775807) (ht : Ar.Wd tv) (w : World) :
    Calls Tryz.prog 31 #[hartV h, .int .u32 x, .int .i64 size, ansV tv tok] w fun e w' => e = .returned (.tuple #[stepV s, .int .i64 err]) ∧ Below w.heap.size w w' := by
  cases o with
  | arg g => exact do_arg h x size tv tok w (goes_no g)
  | ill g n => exact do_ill h x size tv tok w hx (goes_yes g).1 (goes_yes g).2 n
  | halt op g e n => exact do_halt h x op size tv tok w hx (goes_yes g).1 (goes_yes g).2 e (good_of tok hb g hx hs ht e) n
  | ok op g e n => exact do_ok h x op size tv tok w hx (goes_yes g).1 (goes_yes g).2 e (good_of tok hb g hx hs ht e) n
theorem done_any {h : H} {x size tv : Int} {tok : Bool} {s : S} {err : Int} (o : Out h x size tv tok s err) (hb : HB h) (hx : Is.Wd x) (hs : -9223372036854775808 ≤ size ∧ size ≤ 9223372036854775807) (ht : Ar.Wd tv) (w : World) :
    Calls Tryz.prog 11 #[hartV h, .int .u32 x, .int .i64 size, ansV tv tok] w fun e w' => e = .returned (.tuple #[hartV s.h, .int .i64 err]) ∧ Below w.heap.size w w' :=
  done_of h x size tv tok s err w (fun w => do_of o hb hx hs ht w)
end Go.Proofs.YtianojbdabeoeaaGreatDoor
end

section
namespace Go.Proofs.YtianojbdabeoeaaGreatDoor
open Go.RowKit Ht
set_option linter.unusedVariables false
namespace Ht
/-- the hart behind the known word -/
def hK : H := ⟨0, 4, upd (fun _ => 0) 1 5, 0⟩
theorem hitK : Hit 19 5275795 := by
  refine ⟨by omega, by omega, ?_⟩
  rw [Is.hit_iff (by unfold Is.Wd; omega) 19 (by omega)]
  decide
def beginK : S := begin_ H0 (insOf 19 5275795) 16 0 false
theorem goodK : GoodS beginK := by
  refine ⟨by decide, by decide, by decide, ?_, fun k => ?_, ?_, ?_, ?_, ?_, fun _ => ⟨rfl, rfl⟩⟩
  · exact (show Ar.Wd 5 by unfold Ar.Wd; omega)
  · exact (show Ar.Wd 0 by unfold Ar.Wd; omega)
  · exact (show Ar.Wd 0 by unfold Ar.Wd; omega)
  · exact (show (0 : Int) ≤ 0 ∧ (0 : Int) ≤ 3 by omega)
  · exact (show Ar.Wd 0 by unfold Ar.Wd; omega)
  · exact (show -9223372036854775808 ≤ (16 : Int) ∧ (16 : Int) ≤ 9223372036854775807 by omega)
theorem whyK : whyS beginK = 0 := by decide
end Ht
theorem doneK (w : World) :
    Calls Tryz.prog 11 #[hartV H0, .int .u32 5275795, .int .i64 16, ansV 0 false] w fun e w' => e = .returned (.tuple #[hartV hK, .int .i64 0]) ∧ Below w.heap.size w w' :=
  done_of H0 5275795 16 0 false _ 0 w (fun w => do_ok H0 5275795 19 16 0 false w (by unfold Is.Wd; omega) (by decide) rfl hitK goodK whyK)
set_option maxRecDepth 100000 in
set_option maxHeartbeats 1000000 in
theorem known_any (w : World) :
    Calls Tryz.prog 13 #[] w fun e w' => e = .returned (.bool true) ∧ Below w.heap.size w w' := by
  go_enter Tryz.func13, Tryz.ntmps13
  go_wp2_with fail
  refine (doneK _).mono ?_
  rintro e w1 ⟨rfl, hb⟩
  obtain ⟨W2, hW2⟩ : ∃ W2, W2 = (w1.alloc (.cells hzero 26)).setRow w1.heap.size (hcells hK).toArray := ⟨_, rfl⟩
  have s2 : W2.heap[w1.heap.size]? = some (.cells (hcells hK).toArray 26) := by rw [hW2]; exact setRow_heap _ _ _ _ _ _ (heap_alloc_new _ _)
  have b2 : Below w.heap.size w W2 := by rw [hW2]; exact below_setRow (hb.alloc hb.size _) hb.size
  have c3 : W2.cell? ⟨w1.heap.size, 3, none⟩ = some (.int .u32 5) := by rw [cell_of_row W2 _ 3 _ _ _ s2]; rfl
  have c1 : W2.cell? ⟨w1.heap.size, 1, none⟩ = some (.int .u32 4) := by rw [cell_of_row W2 _ 1 _ _ _ s2]; rfl
  have c34 : W2.cell? ⟨w1.heap.size, 34, none⟩ = some (.int .i64 0) := by rw [cell_of_row W2 _ 34 _ _ _ s2]; rfl
  have B2 := Lib.hid b2; have HW2 := Lib.hid hW2; clear hb s2 b2 hW2
  unfold hartV
  go_wp2_with (refine wpList_store_row rfl 26 (.tmp 1) (.tmp 7) rfl w1.heap.size (hcells hK).toArray rfl rfl 26 hzero (heap_alloc_new _ _) (by kernel_rfl) (by kernel_rfl) (by kernel_rfl) ?_; rw [← HW2.out])
  go_ret
  exact ⟨rfl, B2.out⟩
end Go.Proofs.YtianojbdabeoeaaGreatDoor
end
