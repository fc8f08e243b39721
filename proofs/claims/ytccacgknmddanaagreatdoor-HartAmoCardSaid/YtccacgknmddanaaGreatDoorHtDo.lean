/-
  An instruction that a hart does: the program's own do.
-/
import Derived.Test.YtccacgknmddanaaGreatDoorHtCatch
import Derived.Test.YtccacgknmddanaaGreatDoorHtAll
namespace Go.Proofs.YtccacgknmddanaaGreatDoor
open Go.RowKit Ht
set_option linter.unusedVariables false
namespace Ht
def ansV (tv : Int) (tok : Bool) : Value := .agg #[.int .u32 tv, .bool tok]
/-- a step at its beginning -/
def begin_ (h : H) (i : I) (size tv : Int) (tok : Bool) : S := ⟨h, i, size, tv, tok, A0, Ar.add h.pc 4⟩
theorem heap_a4 (w : World) (o1 o2 o3 o4 : Obj) : ((((w.alloc o1).alloc o2).alloc o3).alloc o4).heap[w.heap.size]? = some o1 ∧ ((((w.alloc o1).alloc o2).alloc o3).alloc o4).heap[w.heap.size + 1]? = some o2 ∧
    ((((w.alloc o1).alloc o2).alloc o3).alloc o4).heap[w.heap.size + 2]? = some o3 ∧ ((((w.alloc o1).alloc o2).alloc o3).alloc o4).heap[w.heap.size + 3]? = some o4 := by
  have e1 := heap_alloc_new w o1
  have e2 := heap_alloc_new (w.alloc o1) o2
  have e3 := heap_alloc_new ((w.alloc o1).alloc o2) o3
  have e4 := heap_alloc_new (((w.alloc o1).alloc o2).alloc o3) o4
  have p := fun (w : World) (o : Obj) (k : Nat) (h : k < w.heap.size) => Below.heap_alloc w o k h
  simp only [World.size_alloc] at e2 e3 e4
  refine ⟨?_, ?_, ?_, e4⟩
  · rw [p _ _ _ (by simp only [World.size_alloc]; omega), p _ _ _ (by simp only [World.size_alloc]; omega), p _ _ _ (by simp only [World.size_alloc]; omega)]; exact e1
  · rw [p _ _ _ (by simp only [World.size_alloc]; omega), p _ _ _ (by simp only [World.size_alloc]; omega)]; exact e2
  · rw [p _ _ _ (by simp only [World.size_alloc]; omega)]; exact e3
theorem heap_a3 (w : World) (o1 o2 o3 : Obj) : (((w.alloc o1).alloc o2).alloc o3).heap[w.heap.size]? = some o1 ∧ (((w.alloc o1).alloc o2).alloc o3).heap[w.heap.size + 1]? = some o2 ∧ (((w.alloc o1).alloc o2).alloc o3).heap[w.heap.size + 2]? = some o3 := by
  have e1 := heap_alloc_new w o1
  have e2 := heap_alloc_new (w.alloc o1) o2
  have e3 := heap_alloc_new ((w.alloc o1).alloc o2) o3
  have p := fun (w : World) (o : Obj) (k : Nat) (h : k < w.heap.size) => Below.heap_alloc w o k h
  simp only [World.size_alloc] at e2 e3
  refine ⟨?_, ?_, e3⟩
  · rw [p _ _ _ (by simp only [World.size_alloc]; omega), p _ _ _ (by simp only [World.size_alloc]; omega)]; exact e1
  · rw [p _ _ _ (by simp only [World.size_alloc]; omega)]; exact e2
abbrev szero : Array Value := #[.int .i64 0, .int .u32 0, .int .u32 0, .int .u32 0, .int .u32 0, .int .u32 0, .int .u32 0, .int .u32 0, .int .u32 0, .int .u32 0, .int .u32 0, .int .u32 0, .int .u32 0, .int .u32 0, .int .u32 0, .int .u32 0, .int .u32 0, .int .u32 0, .int .u32 0, .int .u32 0, .int .u32 0, .int .u32 0, .int .u32 0, .int .u32 0, .int .u32 0, .int .u32 0, .int .u32 0, .int .u32 0, .int .u32 0, .int .u32 0, .int .u32 0, .int .u32 0, .int .u32 0, .int .u32 0, .int .i64 0, .int .i64 0, .int .i64 0, .int .i64 0, .int .i64 0, .int .u32 0, .bool false, .bool false, .int .i64 0, .int .u32 0, .bool false, .int .i64 0, .int .u32 0, .int .i64 0, .int .u32 0, .int .i64 0, .bool false, .bool false, .int .u32 0]
end Ht
theorem results_cells2 {P : Program} {fn : Func} {p q : Tmp} {ty ty2 : TypeId} (h : fn.results = #[.cell p ty, .cell q ty2]) (tmps : Array Value) (w : World) (g g2 : Nat) (t : TypeId) (cs : Array Value) (fr : Nat × Nat) (d : TypeDesc) (v : Value)
    (hp : tmps.getD p undef = .pointer (some ⟨g, 0, none⟩)) (hg : w.heap[g]? = some (.cells cs t fr))
    (hu : P.underlying ty = some d) (hd : (match d with | .struct _ | .array _ _ => true | _ => false) = true) (hi : (P.info? ty).map (·.size) = some cs.size)
    (hq : tmps.getD q undef = .pointer (some ⟨g2, 0, none⟩)) (h2 : (loadVar ty2 ⟨g2, 0, none⟩).run P w = .ok v w) :
    (results fn tmps).run P w = .ok (.tuple #[.agg cs, v]) w := by
  have hp' : tmps[p]?.getD undef = .pointer (some ⟨g, 0, none⟩) := by simpa using hp
  have hq' : tmps[q]?.getD undef = .pointer (some ⟨g2, 0, none⟩) := by simpa using hq
  simp [results, h, hp', hq', asAddr, run_loadVar_row w g t ty cs fr d hg hu hd hi, h2]
theorem load_errno (n : Int) (a : Addr) (w : World) (h : w.cell? a = some (.int .i64 n)) : (loadVar 31 a).run Tryz.prog w = .ok (.int .i64 n) w := by
  simp [go_sem, h]
set_option maxRecDepth 100000 in
set_option maxHeartbeats 2000000 in
theorem do_ok (h : H) (x : Int) (op : Nat) (size tv : Int) (tok : Bool) (w : World) (hx : Is.Wd x) (hm : may h = true) (hc : h.cause = 0) (hh : Hit op x)
    (K : GoodS (begin_ h (insOf op x) size tv tok)) (hw : whyS (begin_ h (insOf op x) size tv tok) = 0) :
    Calls Tryz.prog 23 #[hartV h, .int .u32 x, .int .i64 size, ansV tv tok] w fun e w' =>
      e = .returned (.tuple #[stepV { after (begin_ h (insOf op x) size tv tok) with h := { (after (begin_ h (insOf op x) size tv tok)).h with pc := (after (begin_ h (insOf op x) size tv tok)).next } }, .int .i64 0]) ∧ Below w.heap.size w w' := by
  have hmf : ∀ (fn : Fn) (first cap : Array Value) (w : World), (Instr.makeFunc fn first cap).run Tryz.prog w = .ok (.func fn first cap) w := fun _ _ _ _ => rfl
  have hcf := call_fnO op ⟨hh.1, hh.2.1⟩
  have HX := Lib.hid hx; have HM := Lib.hid hm; have HC := Lib.hid hc; have HH := Lib.hid hh; have HW := Lib.hid hw; clear hx hm hc hh hw
  unfold hartV ansV
  go_enter_defers Tryz.func23, Tryz.ntmps23
  go_wp2_with (refine wpList_load_row rfl 26 (.tmp 4) rfl w.heap.size rfl 26 (hcells h).toArray (0, 0) _ (heap_a4 w _ _ _ _).1 Tryz.underlying26 rfl (by kernel_rfl) ?_)
  refine (fetched_ok h x op HX.out HM.out HC.out HH.out _).mono ?_
  rintro e w1 ⟨rfl, hb⟩
  have r0 := (hb.block w.heap.size (by simp only [World.size_alloc]; omega)).trans (heap_a4 w _ _ _ _).1
  have r1 := (hb.block (w.heap.size + 1) (by simp only [World.size_alloc]; omega)).trans (heap_a4 w _ _ _ _).2.1
  have r2 : w1.heap[w.heap.size + 2]? = some (.cells szero 63) := (hb.block (w.heap.size + 2) (by simp only [World.size_alloc]; omega)).trans (heap_a4 w _ _ _ _).2.2.1
  have r3 := (hb.block (w.heap.size + 3) (by simp only [World.size_alloc]; omega)).trans (heap_a4 w _ _ _ _).2.2.2
  have b1 : Below w.heap.size w w1 := (((((Below.refl w.heap.size w).alloc (Nat.le_refl _) _).alloc (by simp only [World.size_alloc]; omega) _).alloc (by simp only [World.size_alloc]; omega) _).alloc (by simp only [World.size_alloc]; omega) _).trans (hb.mono (by simp only [World.size_alloc]; omega))
  have z1 : w.heap.size + 4 ≤ w1.heap.size := by have := hb.size; simp only [World.size_alloc] at this; omega
  clear hb
  obtain ⟨W2, hW2⟩ : ∃ W2, W2 = (w1.alloc (.cells izero 61)).setRow w1.heap.size (icells (insOf op x)).toArray := ⟨_, rfl⟩
  have old : ∀ k, k < w1.heap.size → W2.heap[k]? = w1.heap[k]? := fun k hk => by rw [hW2]; exact (setRow_other _ _ _ _ (by omega)).trans (Below.heap_alloc _ _ _ hk)
  have q0 := (old w.heap.size (by omega)).trans r0
  have q1 := (old (w.heap.size + 1) (by omega)).trans r1
  have q2 := (old (w.heap.size + 2) (by omega)).trans r2
  have q3 := (old (w.heap.size + 3) (by omega)).trans r3
  have q4 : W2.heap[w1.heap.size]? = some (.cells (icells (insOf op x)).toArray 61) := by rw [hW2]; exact setRow_heap _ _ _ _ _ _ (heap_alloc_new _ _)
  have b2 : Below w.heap.size w W2 := by rw [hW2]; exact below_setRow (b1.alloc b1.size _) b1.size
  have z2 : W2.heap.size = w1.heap.size + 1 := by rw [hW2]; simp
  have c1 : W2.cell? ⟨w.heap.size, 1, none⟩ = some (.int .u32 h.pc) := by rw [cell_of_row W2 _ 1 _ _ _ q0]; rfl
  have Q0 := Lib.hid q0; have Q1 := Lib.hid q1; have Q2 := Lib.hid q2; have Q3 := Lib.hid q3; have Q4 := Lib.hid q4; have B2 := Lib.hid b2; have Z2 := Lib.hid z2; have Z1 := Lib.hid z1; have OLD := Lib.hid old; have HW2 := Lib.hid hW2
  obtain ⟨W3, hW3⟩ : ∃ W3, W3 = W2.setRow (w.heap.size + 2) (scells (begin_ h (insOf op x) size tv tok)).toArray := ⟨_, rfl⟩
  have old3 : ∀ k, k ≠ w.heap.size + 2 → W3.heap[k]? = W2.heap[k]? := fun k hk => by rw [hW3]; exact setRow_other _ _ _ _ hk
  have s3 : Stp W3 (w.heap.size + 2) (begin_ h (insOf op x) size tv tok) := by rw [hW3]; exact setRow_heap _ _ _ _ _ _ q2
  have e3 : W3.heap[w.heap.size + 3]? = some (.cells #[.int .i64 0] 31) := (old3 _ (by omega)).trans q3
  have b3 : Below w.heap.size w W3 := by rw [hW3]; exact below_setRow b2 (by omega)
  have z3 : w.heap.size + 4 ≤ W3.heap.size := by rw [hW3, setRow_size, z2]; omega
  have c3 : W3.cell? ⟨w1.heap.size, 0, none⟩ = some (.int .i64 (op : Int)) := by rw [cell_of_row W3 _ 0 _ _ _ ((old3 _ (by omega)).trans q4)]; rfl
  have S3 := Lib.hid s3; have E3 := Lib.hid e3; have B3 := Lib.hid b3; have Z3 := Lib.hid z3; have HW3 := Lib.hid hW3
  clear r0 r1 r2 r3 b1 z1 old q0 q1 q2 q3 q4 b2 z2 hW2 old3 s3 e3 b3 z3 hW3
  unfold instV
  go_wp2_with (first
    | (refine wpList_store_row rfl 61 (.tmp 10) (.tmp 14) rfl w1.heap.size (icells (insOf op x)).toArray rfl rfl 61 izero (heap_alloc_new _ _) (by kernel_rfl) (by kernel_rfl) (by kernel_rfl) ?_; rw [← HW2.out])
    | (refine wpList_load_row rfl 26 (.tmp 4) rfl w.heap.size rfl 26 (hcells h).toArray (0, 0) _ Q0.out Tryz.underlying26 rfl (by kernel_rfl) ?_)
    | (refine wpList_load_row rfl 61 (.tmp 10) rfl w1.heap.size rfl 61 (icells (insOf op x)).toArray (0, 0) _ Q4.out Tryz.underlying61 rfl (by kernel_rfl) ?_)
    | (refine wpList_load_row rfl 40 (.tmp 7) rfl (w.heap.size + 1) rfl 40 #[.int .u32 tv, .bool tok] (0, 0) _ Q1.out Tryz.underlying40 rfl (by kernel_rfl) ?_)
    | (refine wpList_build_to rfl 63 #[(0, .tmp 15), (1, .tmp 16), (2, .tmp 17), (3, .tmp 18), (5, .tmp 21)] rfl (scells (begin_ h (insOf op x) size tv tok)).toArray (by kernel_rfl) ?_)
    | (refine wpList_store_row rfl 63 (.tmp 8) (.tmp 22) rfl (w.heap.size + 2) (scells (begin_ h (insOf op x) size tv tok)).toArray rfl rfl 63 szero Q2.out (by kernel_rfl) (by kernel_rfl) (by kernel_rfl) ?_; rw [← HW3.out]))
  clear Q0 Q1 Q2 Q3 Q4 B2 Z2 OLD HW2 HW3 c1
  refine (meaning_any op ⟨HH.out.1, HH.out.2.1⟩ _).mono ?_
  rintro e w4 ⟨rfl, hb⟩
  have S4 := Lib.hid (S3.out.below hb)
  have E4 := Lib.hid ((hb.block _ (by have := Z3.out; omega)).trans E3.out)
  have B4 := Lib.hid (B3.out.trans (hb.mono B3.out.size))
  have Z4 := Lib.hid (Nat.le_trans Z3.out hb.size)
  clear hb c3 S3 E3 B3 Z3
  go_wp2_with fail
  refine ((means_any _ (w.heap.size + 2) _ S4.out ⟨HH.out.1, HH.out.2.1⟩ rfl K).1 HW.out).mono ?_
  rintro e w5 ⟨rfl, hl⟩
  have c52 : w5.cell? ⟨w.heap.size + 2, 52, none⟩ = some (.int .u32 (after (begin_ h (insOf op x) size tv tok)).next) := hl.1.cell 52
  have c1 : w5.cell? ⟨w.heap.size + 2, 1, none⟩ = some (.int .u32 (after (begin_ h (insOf op x) size tv tok)).h.pc) := hl.1.cell 1
  have f1 := hl.1.free 1
  have e5 := (hl.2.block (w.heap.size + 3) (by have := Z4.out; omega) (by omega)).trans E4.out
  have b5 := B4.out.trans (hl.2.below (by omega) (by have := Z4.out; omega))
  generalize hs6 : after (begin_ h (insOf op x) size tv tok) = s6 at hl c52 c1 ⊢
  obtain ⟨W6, hW6⟩ : ∃ W6, W6 = w5.setCell ⟨w.heap.size + 2, 1, none⟩ (.int .u32 s6.next) := ⟨_, rfl⟩
  have s7 : Stp W6 (w.heap.size + 2) { s6 with h := { s6.h with pc := s6.next } } := by rw [hW6]; exact hl.1.setCell 1 _ rfl
  have e6 : W6.heap[w.heap.size + 3]? = some (.cells #[.int .i64 0] 31) := by rw [hW6]; exact (heap_setCell_other w5 ⟨w.heap.size + 2, 1, none⟩ _ _ (by show _ ≠ w.heap.size + 2; omega)).trans e5
  have b6 : Below w.heap.size w W6 := by rw [hW6]; exact b5.setCell (by show _ ≤ w.heap.size + 2; omega) _
  have x6 : W6.setRow (w.heap.size + 2) (scells { s6 with h := { s6.h with pc := s6.next } }).toArray = W6 := setRow_self W6 _ _ _ _ s7
  have ce : W6.cell? ⟨w.heap.size + 3, 0, none⟩ = some (.int .i64 0) := by rw [cell_of_row W6 _ 0 _ _ _ e6]; rfl
  have fe := frozen_of_row W6 (w.heap.size + 3) 0 _ _ e6
  have HS6 := Lib.hid hs6; have S7 := Lib.hid s7; have E6 := Lib.hid e6; have B6 := Lib.hid b6; have X6 := Lib.hid x6; have HW6 := Lib.hid hW6
  clear hl e5 b5 hs6 s7 e6 b6 x6 hW6 S4 E4 B4
  go_wp2_with (first
    | (refine wpList_load_row rfl 63 (.tmp 8) rfl (w.heap.size + 2) rfl 63 (scells { s6 with h := { s6.h with pc := s6.next } }).toArray (0, 0) _ (by rw [← HW6.out]; exact S7.out) Tryz.underlying63 rfl (by kernel_rfl) ?_)
    | (refine wpList_store_row rfl 63 (.tmp 8) (.tmp 31) rfl (w.heap.size + 2) (scells { s6 with h := { s6.h with pc := s6.next } }).toArray rfl rfl 63 (scells { s6 with h := { s6.h with pc := s6.next } }).toArray (by rw [← HW6.out]; exact S7.out) (by kernel_rfl) (by kernel_rfl) (by kernel_rfl) ?_; rw [← HW6.out, X6.out]))
  refine leaves_cons (f := 33) (args := #[.pointer (some ⟨w.heap.size + 2, 0, none⟩), .pointer (some ⟨w.heap.size + 3, 0, none⟩), .pointer (some ⟨w.heap.size, 0, none⟩)]) (by simp) (by simp [go_sem]) ?_
  refine (catch_idle (w.heap.size + 2) (w.heap.size + 3) w.heap.size _).mono ?_
  rintro e u' w'' ⟨rfl, rfl, rfl⟩
  have s8 : Stp (W6.setCell ⟨w.heap.size + 3, 0, none⟩ (.int .i64 0)) (w.heap.size + 2) { s6 with h := { s6.h with pc := s6.next } } := (heap_setCell_other W6 ⟨w.heap.size + 3, 0, none⟩ _ _ (by show _ ≠ w.heap.size + 3; omega)).trans S7.out
  have ce8 : (W6.setCell ⟨w.heap.size + 3, 0, none⟩ (.int .i64 0)).cell? ⟨w.heap.size + 3, 0, none⟩ = some (.int .i64 0) := by rw [cell_of_row _ _ 0 _ _ _ (heap_setCell_same W6 (w.heap.size + 3) 0 _ _ _ E6.out)]; rfl
  refine ⟨.tuple #[stepV { s6 with h := { s6.h with pc := s6.next } }, .int .i64 0], ?_, ?_, ?_⟩
  · exact results_cells2 (fn := Tryz.f23) rfl _ _ (w.heap.size + 2) (w.heap.size + 3) 63 (scells { s6 with h := { s6.h with pc := s6.next } }).toArray (0, 0) _ _ rfl s8 Tryz.underlying63 rfl (by kernel_rfl) rfl (load_errno 0 _ _ ce8)
  · rw [HS6.out]
  · exact B6.out.setCell (by show _ ≤ w.heap.size + 3; omega) _
end Go.Proofs.YtccacgknmddanaaGreatDoor
