/-
  The contract of known.
-/
import Derived.Test.YtnlfdepeimjliaaEvRel
import Derived.Test.YtnlfdepeimjliaaEvAcy
namespace Go.Proofs.Ytnlfdepeimjliaa
open Go.RowKit
set_option linter.unusedVariables false
set_option linter.unusedSimpArgs false
namespace Ev
theorem flat_rows {n : Nat} : ∀ {xs : List (List Value)}, (∀ v ∈ xs, v.length = n) → ∀ (j : Nat) (v : List Value) (i : Nat) (c : Value), xs[j]? = some v → v[i]? = some c → xs.flatten[j * n + i]? = some c
  | [], _, j, v, i, c, h, _ => by simp at h
  | q :: r, hl, 0, v, i, c, h, hi => by
    cases Option.some.inj h
    have hil := (List.getElem?_eq_some_iff.1 hi).1
    rw [List.flatten_cons, List.getElem?_append_left (by simpa using hil)]
    simpa using hi
  | q :: r, hl, j + 1, v, i, c, h, hi => by
    have h2 := flat_rows (fun v hv => hl v (List.mem_cons_of_mem _ hv)) j v i c (by simpa using h) hi
    have hq := hl q List.mem_cons_self
    rw [List.flatten_cons, List.getElem?_append_right (by rw [hq, Nat.succ_mul]; omega)]
    have e : (j + 1) * n + i - q.length = j * n + i := by rw [hq, Nat.succ_mul]; omega
    rw [e]; exact h2
theorem rows_of_block {w : World} {g n : Nat} {xs : List (List Value)} {t : TypeId} (h : w.heap[g]? = some (.cells xs.flatten.toArray t (0, 0))) (hl : ∀ v ∈ xs, v.length = n) : RowsIn w (some ⟨g, 0, none⟩) n xs := fun _ =>
  ⟨g, 0, rfl, fun j v hv i c hi => by
    rw [cell_of_row w g _ _ t (0, 0) h, Nat.zero_add]
    simpa using flat_rows hl j v i c hv hi⟩
theorem ints_of_block {w : World} {g : Nat} {l : List Int} {t : TypeId} (h : w.heap[g]? = some (.cells (l.map (Value.int .i64)).toArray t (0, 0))) (hb : ∀ v ∈ l, i64B v) (hm : l.length ≤ 9223372036854775807) : IntsIn w ⟨some ⟨g, 0, none⟩, l.length, l⟩ :=
  ⟨fun _ => ⟨g, 0, rfl, fun j v hv => by
    rw [cell_of_row w g _ _ t (0, 0) h, Nat.zero_add]
    simp [hv]⟩, Nat.le_refl _, hm, hb⟩
theorem ints_none (w : World) : IntsIn w ⟨none, 0, []⟩ := ⟨fun h => absurd h (by simp), by simp, by simp, fun v hv => by cases hv⟩
def N0 : Sl := ⟨none, 0, []⟩
def kE0 : R := ⟨-1, 5, 0, 0, 0, false, false, 0, 0, false, N0, N0, N0⟩
def kE1 : R := ⟨0, 2, 0, 1, 0, false, false, 0, 0, false, N0, N0, N0⟩
def kE2 : R := ⟨1, 1, 0, 0, 1, false, false, 0, 0, false, N0, N0, N0⟩
def kX (s : Nat) : X := ⟨some ⟨s, 0, none⟩, 3, [kE0, kE1, kE2], ⟨some ⟨s + 1, 0, none⟩, 3, [-1, -1, 1]⟩, some ⟨s + 1 + 1 + 1, 0, none⟩, 1, [⟨some ⟨s + 1 + 1, 0, none⟩, 2, [0, 1]⟩]⟩
theorem kX_in {W : World} {s : Nat} (h0 : W.heap[s]? = some (.cells ([kE0, kE1, kE2].map cells).flatten.toArray 44 (0, 0))) (h1 : W.heap[s + 1]? = some (.cells #[.int .i64 (-1), .int .i64 (-1), .int .i64 1] 3 (0, 0)))
    (h2 : W.heap[s + 1 + 1]? = some (.cells #[.int .i64 0, .int .i64 1] 3 (0, 0))) (h3 : W.heap[s + 1 + 1 + 1]? = some (.cells #[.slice (some ⟨s + 1 + 1, 0, none⟩) 2 2] 23 (0, 0))) : XIn W (kX s) := by
  refine ⟨⟨rows_of_block (xs := [kE0, kE1, kE2].map cells) h0 ?_, ?_, by show 3 ≤ 3; omega, by show 3 ≤ _; omega⟩, ints_of_block (l := [-1, -1, 1]) h1 ?_ (by simp), ⟨rows_of_block (xs := [[.slice (some ⟨s + 1 + 1, 0, none⟩) 2 2]]) h3 ?_, ?_, by show 1 ≤ 1; omega, by show 1 ≤ _; omega⟩⟩
  · intro v hv
    obtain ⟨e, _, rfl⟩ := List.mem_map.1 hv
    rfl
  · intro x hx
    have hx' : x = kE0 ∨ x = kE1 ∨ x = kE2 := by simpa [kX] using hx
    rcases hx' with rfl | rfl | rfl
    all_goals exact ⟨by unfold i64B; decide, by unfold i64B; decide, by unfold u32B; decide, by unfold u32B; decide, by unfold u32B; decide, by unfold i64B; decide, by unfold i64B; decide, ints_none W, ints_none W, ints_none W⟩
  · intro v hv
    have hv' : v = -1 ∨ v = 1 := by simpa using hv
    rcases hv' with rfl | rfl <;> (unfold i64B; decide)
  · intro v hv
    have : v = [.slice (some ⟨s + 1 + 1, 0, none⟩) 2 2] := by simpa using hv
    subst this; rfl
  · intro x hx
    have : x = ⟨some ⟨s + 1 + 1, 0, none⟩, 2, [0, 1]⟩ := by simpa [kX] using hx
    subst this
    refine ints_of_block (l := [0, 1]) h2 ?_ (by simp)
    intro v hv
    have hv' : v = 0 ∨ v = 1 := by simpa using hv
    rcases hv' with rfl | rfl <;> (unfold i64B; decide)
theorem kX_check (s : Nat) : check (kX s) = 0 := by kernel_rfl
theorem kX_told (s : Nat) : told (bondRf (kX s)) (kX s).ev.length (kX s).ev.length = [(1, 2)] := by kernel_rfl
end Ev
theorem heap_a5 (w : World) (A B C D E : Obj) : ((((((w.alloc A).alloc B).alloc C).alloc D).alloc E).heap[w.heap.size]? = some A ∧ (((((w.alloc A).alloc B).alloc C).alloc D).alloc E).heap[w.heap.size + 1]? = some B ∧
    (((((w.alloc A).alloc B).alloc C).alloc D).alloc E).heap[w.heap.size + 1 + 1]? = some C ∧ (((((w.alloc A).alloc B).alloc C).alloc D).alloc E).heap[w.heap.size + 1 + 1 + 1]? = some D ∧ (((((w.alloc A).alloc B).alloc C).alloc D).alloc E).heap[w.heap.size + 1 + 1 + 1 + 1]? = some E) := by
  have old : ∀ (x : World) (o : Obj) (i : Nat), i < x.heap.size → (x.alloc o).heap[i]? = x.heap[i]? := fun x o i h => Below.heap_alloc x o i h
  have s1 : (w.alloc A).heap.size = w.heap.size + 1 := by simp only [World.size_alloc]
  have s2 : ((w.alloc A).alloc B).heap.size = w.heap.size + 1 + 1 := by simp only [World.size_alloc]
  have s3 : (((w.alloc A).alloc B).alloc C).heap.size = w.heap.size + 1 + 1 + 1 := by simp only [World.size_alloc]
  have s4 : ((((w.alloc A).alloc B).alloc C).alloc D).heap.size = w.heap.size + 1 + 1 + 1 + 1 := by simp only [World.size_alloc]
  refine ⟨?_, ?_, ?_, ?_, ?_⟩
  · rw [old _ _ _ (by omega), old _ _ _ (by omega), old _ _ _ (by omega), old _ _ _ (by omega)]; exact heap_alloc_new _ _
  · rw [old _ _ _ (by omega), old _ _ _ (by omega), old _ _ _ (by omega)]; have := heap_alloc_new (w.alloc A) B; rwa [s1] at this
  · rw [old _ _ _ (by omega), old _ _ _ (by omega)]; have := heap_alloc_new ((w.alloc A).alloc B) C; rwa [s2] at this
  · rw [old _ _ _ (by omega)]; have := heap_alloc_new (((w.alloc A).alloc B).alloc C) D; rwa [s3] at this
  · have := heap_alloc_new ((((w.alloc A).alloc B).alloc C).alloc D) E; rwa [s4] at this
set_option maxRecDepth 100000 in
set_option maxHeartbeats 2000000 in
theorem known_any (w : World) : Calls Try.prog 11 #[] w fun e w' => e = .returned (.bool true) ∧ Below w.heap.size w w' := by
  obtain ⟨s, hs⟩ : ∃ s, s = w.heap.size := ⟨_, rfl⟩
  obtain ⟨W5, hW5⟩ : ∃ W5, W5 = (((((w.alloc (Obj.cells ([Ev.kE0, Ev.kE1, Ev.kE2].map Ev.cells).flatten.toArray 44)).alloc (Obj.cells #[.int .i64 (-1), .int .i64 (-1), .int .i64 1] 3)).alloc (Obj.cells #[.int .i64 0, .int .i64 1] 3)).alloc (Obj.cells #[.slice (some ⟨w.heap.size + 1 + 1, 0, none⟩) 2 2] 23)).alloc (Obj.cells (Ev.xcells (Ev.kX w.heap.size)).toArray 26)) := ⟨_, rfl⟩
  obtain ⟨h0, h1, h2, h3, h4⟩ := heap_a5 w (Obj.cells ([Ev.kE0, Ev.kE1, Ev.kE2].map Ev.cells).flatten.toArray 44) (Obj.cells #[.int .i64 (-1), .int .i64 (-1), .int .i64 1] 3) (Obj.cells #[.int .i64 0, .int .i64 1] 3) (Obj.cells #[.slice (some ⟨w.heap.size + 1 + 1, 0, none⟩) 2 2] 23) (Obj.cells (Ev.xcells (Ev.kX w.heap.size)).toArray 26)
  rw [← hW5] at h0 h1 h2 h3 h4
  have HIN := Lib.hid (Ev.kX_in h0 h1 h2 h3)
  have R5 := Lib.hid h4
  have B5 := Lib.hid (show Below w.heap.size w W5 by
    rw [hW5]
    exact (((((Below.refl _ _).alloc (Nat.le_refl _) _).alloc (by simp only [World.size_alloc]; omega) _).alloc (by simp only [World.size_alloc]; omega) _).alloc (by simp only [World.size_alloc]; omega) _).alloc (by simp only [World.size_alloc]; omega) _)
  have HW5 := Lib.hid hW5
  have RF := Lib.hid (rf_yes (Ev.kX w.heap.size) W5 HIN.out (Ev.kX_check _))
  clear hW5 h0 h1 h2 h3 h4 hs
  go_enter Try.func11, Try.ntmps11
  go_wp2_with fail
  show Calls Try.prog 15 #[Ev.exV (Ev.kX w.heap.size)] (((((w.alloc (Obj.cells ([Ev.kE0, Ev.kE1, Ev.kE2].map Ev.cells).flatten.toArray 44)).alloc (Obj.cells #[.int .i64 (-1), .int .i64 (-1), .int .i64 1] 3)).alloc (Obj.cells #[.int .i64 0, .int .i64 1] 3)).alloc (Obj.cells #[.slice (some ⟨w.heap.size + 1 + 1, 0, none⟩) 2 2] 23)).alloc (Obj.cells (Ev.xcells (Ev.kX w.heap.size)).toArray 26)) _
  rw [← HW5.out]
  refine RF.out.mono ?_
  rintro e W6 ⟨a, c, rfl, hp, hb⟩
  rw [Ev.kX_told] at hp ⊢
  obtain ⟨g, o, rfl, hrows⟩ := hp.rows (by simp)
  have p0 := hrows 0 _ rfl 0 _ rfl
  have p1 := hrows 0 _ rfl 1 _ rfl
  have hcl := hp.le; have hcm := hp.max
  have R6 := Lib.hid ((hb.block _ (Array.getElem?_eq_some_iff.1 R5.out).1).trans R5.out)
  have K6 := Lib.hid (Ev.kp_below hb)
  have B6 := Lib.hid (B5.out.trans (hb.mono B5.out.size))
  have CK := Lib.hid (fun W (k : Below W6.heap.size W6 W) => check_is (Ev.kX_check w.heap.size) W ((HIN.out.kp K6.out).kp (Ev.kp_below k)))
  clear hb hp hrows
  have CK6 := Lib.hid (CK.out W6 (Below.refl _ _))
  go_wp2_with (show wpList _ _ _ (Oper.mk (some 13) _ _ _ _ _ :: _) _ _; refine wpList_load_row rfl 26 (.tmp 1) rfl (w.heap.size + 1 + 1 + 1 + 1) (by kernel_rfl) 26 (Ev.xcells (Ev.kX w.heap.size)).toArray (0, 0) _ R6.out Try.underlying26 rfl (by kernel_rfl) ?_)
  refine CK6.out.mono ?_
  rintro e W7 ⟨rfl, hb⟩
  have q0 := Ev.kp_below hb _ _ p0
  have q1 := Ev.kp_below hb _ _ p1
  have B7 := Lib.hid (B6.out.trans (hb.mono B6.out.size))
  clear hb p0 p1
  simp only [Nat.zero_mul, Nat.add_zero] at q0 q1
  have hps : Ev.PsIn (W7.alloc (.cells #[.int .i64 0, .int .i64 1, .int .i64 1, .int .i64 0] 39)) (some ⟨W7.heap.size, 0, none⟩) 2 [(0, 1), (1, 0)] :=
    ⟨Ev.rows_of_block (xs := [(0, 1), (1, 0)].map Ev.pz) (heap_alloc_new W7 (.cells #[.int .i64 0, .int .i64 1, .int .i64 1, .int .i64 0] 39)) (fun v hv => by
      obtain ⟨e, _, rfl⟩ := List.mem_map.1 hv
      rfl), fun p hp => by
      have hp' : p = (0, 1) ∨ p = (1, 0) := by simpa using hp
      rcases hp' with rfl | rfl <;> (unfold Ev.i64B; decide), by show 2 ≤ 2; omega, by omega⟩
  have AC := Lib.hid (acyclic_any 2 (by unfold Ev.i64B; omega) (some ⟨W7.heap.size, 0, none⟩) 2 [(0, 1), (1, 0)] (by simp) _ hps)
  clear hps
  go_wp2_with fail
  refine AC.out.mono ?_
  rintro e W8 ⟨b, rfl, hr, hb⟩
  have B8 := Lib.hid (B7.out.trans (((Below.refl W7.heap.size W7).alloc (Nat.le_refl _) _ |>.trans (hb.mono (by simp only [World.size_alloc]; omega))).mono B7.out.size))
  have hbf : b = false := by
    rcases hr with ⟨h, _⟩ | ⟨h, _⟩ | ⟨_, hin, l, ht, hl⟩
    · exact h
    · exact h
    · exact absurd ⟨0, .more (b := 1) (by simp) (.one (by simp))⟩ (Ev.topo_acyclic hin ht hl)
  subst hbf
  clear hr hb q0 q1
  go_wp2_with fail
  go_ret
  exact ⟨rfl, B8.out⟩
end Go.Proofs.Ytnlfdepeimjliaa
