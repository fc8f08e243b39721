/-
  The instruction that a hart is to do, or why there is none.
-/
import Derived.Test.YtccacgknmddanaaGreatDoorHtCheck
import Derived.Test.YtccacgknmddanaaGreatDoorIsFin
namespace Go.Proofs.YtccacgknmddanaaGreatDoor
open Go.RowKit Ht
set_option linter.unusedVariables false
namespace Ht
/-- the instruction op of word x -/
def insOf (op : Nat) (x : Int) : I := ⟨op, (Is.rdO (Is.fm op) x).toNat, (Is.rs1O (Is.fm op) x).toNat, (Is.rs2O (Is.fm op) x).toNat, Is.immO (Is.fm op) x, Is.aqO (Is.fm op) x, Is.rlO (Is.fm op) x⟩
def instV (i : I) : Value := .agg (icells i).toArray
theorem reg_bd {x : Int} (hx : Is.Wd x) (k : Nat) : (0 ≤ Is.rdO k x ∧ Is.rdO k x ≤ 31) ∧ (0 ≤ Is.rs1O k x ∧ Is.rs1O k x ≤ 31) ∧ (0 ≤ Is.rs2O k x ∧ Is.rs2O k x ≤ 31) := by
  unfold Is.Wd at hx
  unfold Is.rdO Is.rs1O Is.rs2O
  refine ⟨?_, ?_, ?_⟩ <;> split <;> omega
theorem instV_of {x : Int} (hx : Is.Wd x) (op : Nat) : inst op (Is.rdO (Is.fm op) x) (Is.rs1O (Is.fm op) x) (Is.rs2O (Is.fm op) x) (Is.immO (Is.fm op) x) (Is.aqO (Is.fm op) x) (Is.rlO (Is.fm op) x) = instV (insOf op x) := by
  obtain ⟨h1, h2, h3⟩ := reg_bd hx (Is.fm op)
  unfold inst instV icells insOf
  simp only
  rw [Int.toNat_of_nonneg h1.1, Int.toNat_of_nonneg h2.1, Int.toNat_of_nonneg h3.1]
/-- x is an instruction op -/
def Hit (op : Nat) (x : Int) : Prop := 1 ≤ op ∧ op ≤ 59 ∧ Is.hit (Is.fm op) x op
end Ht
abbrev Ht.izero : Array Value := #[.int .i64 0, .int .i64 0, .int .i64 0, .int .i64 0, .int .u32 0, .bool false, .bool false]
theorem heap_a1 (w : World) (o1 o2 : Obj) : ((w.alloc o1).alloc o2).heap[w.heap.size]? = some o1 := (Below.heap_alloc _ _ _ (by simp)).trans (heap_alloc_new w o1)
theorem dec_hit (x : Int) (hx : Is.Wd x) (op : Nat) (h : Hit op x) (w : World) :
    Calls Tryz.prog 59 #[.int .u32 x] w fun e w' => e = .returned (.tuple #[instV (insOf op x), .bool true]) ∧ Below w.heap.size w w' := by
  rw [← instV_of hx]
  exact dec_is x hx op ⟨h.1, h.2.1⟩ h.2.2 w
set_option maxRecDepth 100000 in
set_option maxHeartbeats 1000000 in
theorem fetched_ok (h : H) (x : Int) (op : Nat) (hx : Is.Wd x) (hm : may h = true) (hc : h.cause = 0) (hh : Hit op x) (w : World) :
    Calls Tryz.prog 34 #[hartV h, .int .u32 x] w fun e w' => e = .returned (instV (insOf op x)) ∧ Below w.heap.size w w' := by
  have HM := Lib.hid hm; have HH := Lib.hid hh; have HX := Lib.hid hx; have HC := Lib.hid hc; clear hm hh hx hc
  have k34 : (hcells h)[34]? = some (.int .i64 h.cause) := rfl
  have hin : Ending.returned (Value.int .i64 (if may h then 0 else 2)) = .returned (.int .i64 0) := by rw [HM.out]; rfl
  rw [HC.out] at k34
  unfold hartV
  go_enter Tryz.func34, Tryz.ntmps34
  go_wp2_with (refine wpList_load_row rfl 26 (.tmp 2) rfl w.heap.size rfl 26 (hcells h).toArray (0, 0) _ (heap_a1 _ _ _) Tryz.underlying26 rfl (by kernel_rfl) ?_)
  have r0 := heap_a1 w (.cells (hcells h).toArray 26) (.cells izero 61)
  have r1 : ((w.alloc (.cells (hcells h).toArray 26)).alloc (.cells izero 61)).heap[w.heap.size + 1]? = some (.cells izero 61) := by
    have := heap_alloc_new (w.alloc (.cells (hcells h).toArray 26)) (.cells izero 61)
    rwa [World.size_alloc] at this
  have b1 : Below w.heap.size w ((w.alloc (.cells (hcells h).toArray 26)).alloc (.cells izero 61)) := ((Below.refl _ _).alloc (Nat.le_refl _) _).alloc (by simp) _
  have z1 : ((w.alloc (.cells (hcells h).toArray 26)).alloc (.cells izero 61)).heap.size = w.heap.size + 2 := by simp
  have R0 := Lib.hid r0; have R1 := Lib.hid r1; have B1 := Lib.hid b1; have Z1 := Lib.hid z1
  clear r0 r1 b1 z1 k34
  refine (check_any h _).mono ?_
  rintro e w1 ⟨rfl, hb⟩
  rw [HM.out]
  have c34 : w1.cell? ⟨w.heap.size, 34, none⟩ = some (.int .i64 0) := by
    have := (hb.block w.heap.size (by rw [Z1.out]; omega)).trans R0.out
    rw [cell_of_row w1 _ 34 _ _ _ this, ← HC.out]
    rfl
  have R2 := Lib.hid ((hb.block (w.heap.size + 1) (by rw [Z1.out]; omega)).trans R1.out)
  have B2 := Lib.hid (B1.out.trans (hb.mono (by rw [Z1.out]; omega)))
  have Z2 := Lib.hid (show w.heap.size + 2 ≤ w1.heap.size by rw [← Z1.out]; exact hb.size)
  clear hb
  go_wp2_with fail
  refine (dec_hit x HX.out op HH.out _).mono ?_
  rintro e w2 ⟨rfl, hb⟩
  have R3 := Lib.hid ((hb.block (w.heap.size + 1) (by have := Z2.out; omega)).trans R2.out)
  have B3 := Lib.hid (B2.out.trans (hb.mono B2.out.size))
  have Z3 := Lib.hid (Nat.le_trans Z2.out hb.size)
  clear hb c34
  have hlt : w.heap.size + 1 < w2.heap.size := by have := Z3.out; omega
  have hg : ((w2.alloc (.cells izero 61)).setRow w2.heap.size (icells (insOf op x)).toArray).heap[w.heap.size + 1]? = some (.cells izero 61) :=
    (setRow_other _ _ _ _ (by omega)).trans ((Below.heap_alloc _ _ _ hlt).trans R3.out)
  have HG := Lib.hid hg; have HLT := Lib.hid hlt; clear hg hlt hin
  unfold instV
  go_wp2_with (first
    | (refine wpList_store_row rfl 61 (.tmp 5) (.tmp 19) rfl w2.heap.size (icells (insOf op x)).toArray rfl rfl 61 izero (heap_alloc_new _ _) (by kernel_rfl) (by kernel_rfl) (by kernel_rfl) ?_)
    | (refine wpList_load_row rfl 61 (.tmp 5) rfl w2.heap.size rfl 61 (icells (insOf op x)).toArray (0, 0) _ (setRow_heap _ _ _ _ _ _ (heap_alloc_new _ _)) Tryz.underlying61 rfl (by kernel_rfl) ?_)
    | (refine wpList_store_row rfl 61 (.tmp 4) (.tmp 24) rfl (w.heap.size + 1) (icells (insOf op x)).toArray rfl rfl 61 izero HG.out (by kernel_rfl) (by kernel_rfl) (by kernel_rfl) ?_))
  trace_state
  refine bodyPost_ret (v := .agg (icells (insOf op x)).toArray) ?_ rfl ⟨rfl, ?_⟩
  · exact results_cell_row (fn := Tryz.f34) rfl _ _ (w.heap.size + 1) 61 (icells (insOf op x)).toArray (0, 0) _ rfl (setRow_heap _ _ _ _ _ _ HG.out) Tryz.underlying61 rfl (by kernel_rfl)
  · exact below_setRow (below_setRow (B3.out.alloc B3.out.size _) B3.out.size) (by omega)
set_option maxRecDepth 100000 in
set_option maxHeartbeats 1000000 in
theorem fetched_arg (h : H) (x : Int) (hm : may h = false ∨ (may h = true ∧ h.cause ≠ 0)) (w : World) :
    Calls Tryz.prog 34 #[hartV h, .int .u32 x] w fun e w' => e = .panicked [{ v := .iface 31 (.int .i64 2), recovered := false }] ∧ Below w.heap.size w w' := by
  have HM := Lib.hid hm; clear hm
  unfold hartV
  go_enter Tryz.func34, Tryz.ntmps34
  go_wp2_with (refine wpList_load_row rfl 26 (.tmp 2) rfl w.heap.size rfl 26 (hcells h).toArray (0, 0) _ (heap_a1 _ _ _) Tryz.underlying26 rfl (by kernel_rfl) ?_)
  have R0 := Lib.hid (heap_a1 w (.cells (hcells h).toArray 26) (.cells izero 61))
  have B1 := Lib.hid (show Below w.heap.size w ((w.alloc (.cells (hcells h).toArray 26)).alloc (.cells izero 61)) from ((Below.refl _ _).alloc (Nat.le_refl _) _).alloc (by simp) _)
  have Z1 := Lib.hid (show ((w.alloc (.cells (hcells h).toArray 26)).alloc (.cells izero 61)).heap.size = w.heap.size + 2 by simp)
  refine (check_any h _).mono ?_
  rintro e w1 ⟨rfl, hb⟩
  have B2 := Lib.hid (B1.out.trans (hb.mono (by rw [Z1.out]; omega)))
  have c34 : w1.cell? ⟨w.heap.size, 34, none⟩ = some (.int .i64 h.cause) := by
    have := (hb.block w.heap.size (by rw [Z1.out]; omega)).trans R0.out
    rw [cell_of_row w1 _ 34 _ _ _ this]
    rfl
  clear hb
  rcases HM.out with hm | ⟨hm, hc⟩
  · rw [hm]
    clear hm c34
    go_wp2
    exact ⟨rfl, rfl, B2.out⟩
  · rw [hm]
    have hc' : (h.cause != 0) = true := by simpa using hc
    clear hm hc
    go_wp2
    exact ⟨rfl, rfl, B2.out⟩
set_option maxRecDepth 100000 in
set_option maxHeartbeats 1000000 in
theorem fetched_ill (h : H) (x : Int) (hx : Is.Wd x) (hm : may h = true) (hc : h.cause = 0) (hh : ∀ op : Nat, ¬ Hit op x) (w : World) :
    Calls Tryz.prog 34 #[hartV h, .int .u32 x] w fun e w' => e = .panicked [{ v := .iface 24 (.int .i64 2), recovered := false }] ∧ Below w.heap.size w w' := by
  have HM := Lib.hid hm; have HH := Lib.hid hh; have HX := Lib.hid hx; have HC := Lib.hid hc; clear hm hh hx hc
  have k34 : (hcells h)[34]? = some (.int .i64 h.cause) := rfl
  have hin : Ending.returned (Value.int .i64 (if may h then 0 else 2)) = .returned (.int .i64 0) := by rw [HM.out]; rfl
  rw [HC.out] at k34
  unfold hartV
  go_enter Tryz.func34, Tryz.ntmps34
  go_wp2_with (refine wpList_load_row rfl 26 (.tmp 2) rfl w.heap.size rfl 26 (hcells h).toArray (0, 0) _ (heap_a1 _ _ _) Tryz.underlying26 rfl (by kernel_rfl) ?_)
  have r0 := heap_a1 w (.cells (hcells h).toArray 26) (.cells izero 61)
  have r1 : ((w.alloc (.cells (hcells h).toArray 26)).alloc (.cells izero 61)).heap[w.heap.size + 1]? = some (.cells izero 61) := by
    have := heap_alloc_new (w.alloc (.cells (hcells h).toArray 26)) (.cells izero 61)
    rwa [World.size_alloc] at this
  have b1 : Below w.heap.size w ((w.alloc (.cells (hcells h).toArray 26)).alloc (.cells izero 61)) := ((Below.refl _ _).alloc (Nat.le_refl _) _).alloc (by simp) _
  have z1 : ((w.alloc (.cells (hcells h).toArray 26)).alloc (.cells izero 61)).heap.size = w.heap.size + 2 := by simp
  have R0 := Lib.hid r0; have R1 := Lib.hid r1; have B1 := Lib.hid b1; have Z1 := Lib.hid z1
  clear r0 r1 b1 z1 k34
  refine (check_any h _).mono ?_
  rintro e w1 ⟨rfl, hb⟩
  rw [HM.out]
  have c34 : w1.cell? ⟨w.heap.size, 34, none⟩ = some (.int .i64 0) := by
    have := (hb.block w.heap.size (by rw [Z1.out]; omega)).trans R0.out
    rw [cell_of_row w1 _ 34 _ _ _ this, ← HC.out]
    rfl
  have R2 := Lib.hid ((hb.block (w.heap.size + 1) (by rw [Z1.out]; omega)).trans R1.out)
  have B2 := Lib.hid (B1.out.trans (hb.mono (by rw [Z1.out]; omega)))
  have Z2 := Lib.hid (show w.heap.size + 2 ≤ w1.heap.size by rw [← Z1.out]; exact hb.size)
  clear hb
  go_wp2_with fail
  refine (dec_none x HX.out (fun op h1 h2 => HH.out op ⟨h1.1, h1.2, h2⟩) _).mono ?_
  rintro e w2 ⟨rfl, hb⟩
  have R3 := Lib.hid ((hb.block (w.heap.size + 1) (by have := Z2.out; omega)).trans R2.out)
  have B3 := Lib.hid (B2.out.trans (hb.mono B2.out.size))
  have Z3 := Lib.hid (Nat.le_trans Z2.out hb.size)
  clear hb c34
  clear hin
  unfold inst
  go_wp2_with fail
  go_wp2
  exact ⟨rfl, rfl, B3.out.alloc B3.out.size _⟩
end Go.Proofs.YtccacgknmddanaaGreatDoor
