/-
  The contracts of hasCircle and Acyclic.
-/
import Derived.Test.YtnlfdepeimjliaaEvDfs
import Derived.Test.YtnlfdepeimjliaaOgD
import Derived.Laws.Entries
namespace Go.Proofs.Ytnlfdepeimjliaa
open Go.RowKit Go.Maps
set_option linter.unusedVariables false
set_option linter.unusedSimpArgs false
theorem run_store_func (P : Program) (w : World) (a : Addr) (m : Mode) (f : Fn) (b c : Array Value) : (store a (.func f b c) m).run P w = stored P w a (.func f b c) m := run_store P w a _ m rfl
attribute [local go_sem] run_store_func
namespace Ev
/-- is there a circle, or an order? -/
def HasC (n : Nat) (ps : List (Int × Int)) (b : Bool) : Prop := (b = true ∧ Cyc ps) ∨ (b = false ∧ ∃ l, Topo ps l ∧ ∀ x, 0 ≤ x → x < (n : Int) → x ∈ l)
def CPost (R : Bool → Prop) (w : World) (e : Ending) (w' : World) : Prop := ∃ b, e = .returned (.bool b) ∧ R b ∧ Below w.heap.size w w'
theorem CPost.mk {R : Bool → Prop} {w : World} {e : Ending} {w' : World} (b : Bool) (h1 : e = .returned (.bool b)) (h2 : R b) (h3 : Below w.heap.size w w') : CPost R w e w' := ⟨b, h1, h2, h3⟩
end Ev
set_option maxRecDepth 100000 in
set_option maxHeartbeats 2000000 in
theorem hasCircle_any (n nb : Nat) (ps : List (Int × Int)) (w : World) (hr : Ev.InR n ps) (hn : Ev.NextIn w nb (Ev.succs ps)) :
    Calls Try.prog 53 #[.int .i64 (n : Int), .map (some nb)] w (Ev.CPost (Ev.HasC n ps) w) := by
  have HR := Lib.hid hr; have HN := Lib.hid hn
  have hmm := @run_makeMap Try.prog
  have hn64 : n ≤ 64 := by have := hr.2.1; omega
  obtain ⟨W1, hW1⟩ : ∃ W1, W1 = ((((w.alloc (Obj.cells #[Value.map (some nb)] 65)).alloc (Obj.map #[] 0)).alloc (Obj.cells #[Value.map (some (w.heap.size + 1))] 80)).alloc
    (Obj.cells #[Value.func (Fn.func 69) #[] #[Value.pointer (some { block := w.heap.size + 1 + 1, off := 0 }), Value.pointer (some { block := w.heap.size, off := 0 }), Value.pointer (some { block := w.heap.size + 1 + 1 + 1, off := 0 })]] 81)) := ⟨_, rfl⟩
  have HW1 := Lib.hid hW1
  have b0 : Below w.heap.size w W1 := by
    rw [hW1]
    exact ((((Below.refl _ _).alloc (Nat.le_refl _) _).alloc (by simp only [World.size_alloc]; omega) _).alloc (by simp only [World.size_alloc]; omega) _).alloc (by simp only [World.size_alloc]; omega) _
  have h0 : W1.heap[w.heap.size]? = some (.cells #[Value.map (some nb)] 65 (0, 0)) := by
    rw [hW1]
    exact (Below.heap_alloc _ _ _ (by simp only [World.size_alloc]; omega)).trans ((Below.heap_alloc _ _ _ (by simp only [World.size_alloc]; omega)).trans ((Below.heap_alloc _ _ _ (by simp only [World.size_alloc]; omega)).trans (heap_alloc_new _ _)))
  have h2 : W1.heap[w.heap.size + 1 + 1]? = some (.cells #[Value.map (some (w.heap.size + 1))] 80 (0, 0)) := by
    rw [hW1]
    refine (Below.heap_alloc _ _ _ (by simp only [World.size_alloc]; omega)).trans ?_
    have := heap_alloc_new ((w.alloc (Obj.cells #[Value.map (some nb)] 65)).alloc (Obj.map #[] 0)) (Obj.cells #[Value.map (some (w.heap.size + 1))] 80)
    simpa only [World.size_alloc] using this
  have h3 : W1.heap[w.heap.size + 1 + 1 + 1]? = some (.cells #[Value.func (Fn.func 69) #[] #[Value.pointer (some { block := w.heap.size + 1 + 1, off := 0 }), Value.pointer (some { block := w.heap.size, off := 0 }), Value.pointer (some { block := w.heap.size + 1 + 1 + 1, off := 0 })]] 81 (0, 0)) := by
    rw [hW1]
    have := heap_alloc_new (((w.alloc (Obj.cells #[Value.map (some nb)] 65)).alloc (Obj.map #[] 0)).alloc (Obj.cells #[Value.map (some (w.heap.size + 1))] 80)) (Obj.cells #[Value.func (Fn.func 69) #[] #[Value.pointer (some { block := w.heap.size + 1 + 1, off := 0 }), Value.pointer (some { block := w.heap.size, off := 0 }), Value.pointer (some { block := w.heap.size + 1 + 1 + 1, off := 0 })]] 81)
    simpa only [World.size_alloc] using this
  have hom : W1.ownsMap (H := Unit) Try.prog 3 (plainElem Try.prog 82) (w.heap.size + 1) 0 (.map []) := by
    rw [hW1]
    have := World.ownsMap_made (H := Unit) (w.alloc (Obj.cells #[Value.map (some nb)] 65)) Try.prog 3 (plainElem Try.prog 82)
    simp only [World.size_alloc] at this
    exact (this.alloc _).alloc _
  obtain ⟨e, he⟩ : ∃ e : Ev.DEnv, e = ⟨ps, n, w, W1, w.heap.size + 1 + 1, w.heap.size, w.heap.size + 1 + 1 + 1, w.heap.size + 1, nb⟩ := ⟨_, rfl⟩
  have ho : Ev.DOk e := by
    subst he
    exact ⟨HR.out, HN.out, b0, by rw [cell_of_row _ _ _ _ _ _ h2]; rfl, by rw [cell_of_row _ _ _ _ _ _ h0]; rfl, by rw [cell_of_row _ _ _ _ _ _ h3]; rfl, Nat.le_succ _, by show w.heap.size + 1 + 1 ≠ w.heap.size + 1; omega, by show w.heap.size ≠ w.heap.size + 1; omega, by show w.heap.size + 1 + 1 + 1 ≠ w.heap.size + 1; omega⟩
  have hd0 : Ev.DIn e W1 (fun _ => 0) [] := by
    subst he
    exact ⟨World.grownBy.refl _ _, ⟨_, 0, hom, fun x _ => rfl, by have := Ev.pot_le (fun _ => 0) n; show 0 + Ev.pot (fun _ => 0) n ≤ 2 * n; omega⟩, Ev.looked_none _⟩
  have e1 : e.n = n := by rw [he]
  have e2 : e.ps = ps := by rw [he]
  have e3 : e.cL = w.heap.size + 1 + 1 := by rw [he]
  have e4 : e.cN = w.heap.size := by rw [he]
  have e5 : e.cF = w.heap.size + 1 + 1 + 1 := by rw [he]
  have e6 : e.W0 = w := by rw [he]
  have HE := Lib.hid (And.intro e1 (And.intro e2 (And.intro e3 (And.intro e4 (And.intro e5 e6)))))
  have HO := Lib.hid ho; have HD0 := Lib.hid hd0
  have H3 := Lib.hid h3
  clear hr hn hW1 b0 h0 h2 h3 hom he ho hd0 e1 e2 e3 e4 e5 e6
  go_enter Try.func53, Try.ntmps53
  go_wp2
  rw [← HW1.out]
  go_loopw [7, 11] (fun _ i wr => ∃ k : Nat, k ≤ n ∧ i = .int .i64 (k : Int) ∧ ∃ L l, Ev.DIn e wr L l ∧ (∀ x, 0 ≤ x → x < (k : Int) → x ∈ l) ∧ ∀ x, L x ≠ 1) (fun _ i _ => n - (intOf i).toNat)
  case atStart => exact ⟨0, Nat.zero_le _, rfl, _, _, HD0.out, fun x h1 h2 => absurd h2 (by omega), fun x h => by cases h⟩
  case round =>
    obtain ⟨k, hk, rfl, L, l, hd, hall, hone⟩ := hrel
    have HD := Lib.hid hd; have HALL := Lib.hid hall; have HONE := Lib.hid hone
    clear hall hone
    by_cases hlt : k < n
    · have hki : (k : Int) < (n : Int) := by omega
      have hcf := Ev.cell_far hd.g HO.out.kF HO.out.nF
      unfold Ev.DEnv.clo at hcf
      rw [HE.out.2.2.1, HE.out.2.2.2.1, HE.out.2.2.2.2.1] at hcf
      have CALL := leads_any e HO.out _ wr L l (k : Int) hd (by omega) (by rw [HE.out.1]; exact hki) (fun u hu => absurd hu (HONE.out u)) (Nat.lt_succ_self _)
      rw [HE.out.2.2.1, HE.out.2.2.2.1, HE.out.2.2.2.2.1] at CALL
      have CALL := Lib.hid CALL
      clear hd
      go_wp2_with fail
      refine CALL.out.mono ?_
      intro r w2 hpost
      rcases hpost with ⟨hb, hcyc, hg2⟩ | ⟨hb, hg2, L2, l2, hd2, hall2, hsub2, hone2, hpot2⟩
      · unfold Ev.isB at hb
        subst hb
        have HC := Lib.hid hcyc; have HG2 := Lib.hid (Ev.grown_trans HD.out.g hg2); clear hcyc hg2
        go_wp2_with fail
        go_ret
        refine Ev.CPost.mk true rfl (.inl ⟨rfl, by rw [← HE.out.2.1]; exact HC.out⟩) (by
          have := HO.out.b0.grown HG2.out HO.out.b0.size (fun k hk => by cases hk; exact HO.out.mb0)
          rw [HE.out.2.2.2.2.2] at this; exact this)
      · unfold Ev.isB at hb
        subst hb
        have HD2 := Lib.hid hd2; have HA2 := Lib.hid hall2; have HS2 := Lib.hid hsub2; have HO2 := Lib.hid hone2
        clear hd2 hall2 hsub2 hone2 hg2 hcf
        go_wp2_with fail
        go_roundw
        case rel =>
          refine ⟨k + 1, by omega, by go_num, L2, l2, HD2.out, fun x h1 h2 => ?_, fun x h => HONE.out x ((HO2.out x).1 h)⟩
          by_cases hx : x = (k : Int)
          · subst hx; exact HA2.out _ (by simp)
          · exact HS2.out x (HALL.out x h1 (by omega))
        case measure => simp [intOf]; omega
    · have hkn : k = n := by omega
      have hki : ¬ (k : Int) < (n : Int) := by omega
      have HKN := Lib.hid hkn
      clear hd hkn
      go_wp2
      go_ret
      refine Ev.CPost.mk false rfl (.inr ⟨rfl, l, by rw [← HE.out.2.1]; exact HD.out.ok.topo, fun x h1 h2 => HALL.out x h1 (by rw [HKN.out]; exact h2)⟩) (by
        have := HD.out.b0 HO.out
        rw [HE.out.2.2.2.2.2] at this; exact this)
end Go.Proofs.Ytnlfdepeimjliaa
