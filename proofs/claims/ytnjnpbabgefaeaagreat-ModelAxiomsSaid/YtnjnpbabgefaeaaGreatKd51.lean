import Derived.Test.YtnjnpbabgefaeaaGreatKd50
import Derived.Test.YtnjnpbabgefaeaaGreatKd18
import Derived.Test.YtnjnpbabgefaeaaGreatKd06
import Derived.Test.YtnjnpbabgefaeaaGreatKd04
import Derived.Laws.AppendOwnNone
set_option linter.unusedVariables false
set_option linter.unusedSimpArgs false

section
namespace Go.Proofs.YtnjnpbabgefaeaaGreat
open Go.RowKit
set_option maxRecDepth 100000 in
set_option maxHeartbeats 4000000 in
theorem rmoving_any (x : Ev.X) (w : World) (hn : x.ev.length ≤ 1000) (hin : Ev.XIn w x) :
    Calls Tryz.prog 13 #[Ev.exV x] w fun e w' => ∃ m : Nat, m ≤ x.ev.length ∧ e = .returned (.int .i64 (m : Int)) ∧ Below w.heap.size w w' := by
  have hl1 := hin.ev.le; have hl2 := hin.ev.max
  obtain ⟨xb, hxb⟩ : ∃ xb, xb = w.heap.size := ⟨_, rfl⟩
  obtain ⟨B, hB⟩ : ∃ B, B = w.alloc (.cells (Ev.xcells x).toArray 26) := ⟨_, rfl⟩
  have HB := Lib.hid hB; have HXB := Lib.hid hxb
  have B0 := Lib.hid (show Below w.heap.size w B by rw [hB]; exact (Below.refl w.heap.size w).alloc (Nat.le_refl _) _)
  have RX := Lib.hid (show B.heap[xb]? = some (.cells #[.slice x.ae x.ev.length x.ce, .slice x.fr.a x.fr.l.length x.fr.c, .slice x.ao x.od.length x.co] 26 (0, 0)) by rw [hB, hxb]; exact heap_alloc_new _ _)
  have HX := Lib.hid (show Ev.XIn B x from hin.kp (Ev.kp_below B0.out))
  have cx : B.cell? ⟨xb, 0, none⟩ = some (.slice x.ae x.ev.length x.ce) := by rw [cell_of_row _ _ _ _ _ _ RX.out]; rfl
  clear hin hB hxb
  unfold Ev.exV
  go_enter Tryz.func13, Tryz.ntmps13
  go_wp2
  rw [← HB.out, ← HXB.out]
  go_loopw [3, 4] (fun m i wr => ∃ k q : Nat, k ≤ x.ev.length ∧ q ≤ k ∧ i = .int .i64 (k : Int) ∧ m = .int .i64 (q : Int) ∧ wr = B) (fun _ i _ => x.ev.length - (intOf i).toNat)
  case atStart => exact ⟨0, 0, Nat.zero_le _, Nat.le_refl _, rfl, rfl, rfl⟩
  case round =>
    obtain ⟨k, q, hk, hq, rfl, rfl, rfl⟩ := hrel
    by_cases hlt : k < x.ev.length
    · have hki : (k : Int) < (x.ev.length : Int) := by omega
      obtain ⟨e1, he1⟩ : ∃ e, x.ev[k]? = some e := ⟨_, List.getElem?_eq_getElem hlt⟩
      obtain ⟨g, o, eg, hc1⟩ := HX.out.ev.at_ he1
      rw [eg] at cx
      have ck := hc1 1 _ rfl
      clear hc1 he1 eg
      by_cases h4 : e1.k < 4
      · go_wp2_with fail
        first
          | exact ⟨⟨k + 1, q + 1, by omega, by omega, by go_num, by go_num, rfl⟩, by simp [intOf]; omega⟩
          | (go_roundw
             case rel => exact ⟨k + 1, q + 1, by omega, by omega, by go_num, by go_num, by first | trivial | rfl⟩
             case measure => simp [intOf]; omega)
      · go_wp2_with fail
        first
          | exact ⟨⟨k + 1, q, by omega, by omega, by go_num, rfl, rfl⟩, by simp [intOf]; omega⟩
          | (go_roundw
             case rel => exact ⟨k + 1, q, by omega, by omega, by go_num, rfl, by first | trivial | rfl⟩
             case measure => simp [intOf]; omega)
    · have hke : k = x.ev.length := by omega
      have hki : ¬ (k : Int) < (x.ev.length : Int) := by omega
      go_wp2
      go_ret
      exact ⟨q, by omega, rfl, B0.out⟩
end Go.Proofs.YtnjnpbabgefaeaaGreat
end

section
namespace Go.Proofs.YtnjnpbabgefaeaaGreat
open Go.RowKit
namespace Md
open Ev
def kG (es : List R) (fr od : List Int) (s : Nat) : X := ⟨some ⟨s, 0, none⟩, es.length, es, ⟨some ⟨s + 1, 0, none⟩, fr.length, fr⟩, some ⟨s + 1 + 1 + 1, 0, none⟩, 1, [⟨some ⟨s + 1 + 1, 0, none⟩, od.length, od⟩]⟩
def kE0 : R := ⟨-1, 5, 0, 0, 0, false, false, 0, 0, false, N0, N0, N0⟩
def kE1 : R := ⟨0, 2, 0, 1, 0, false, false, 0, 0, false, N0, N0, N0⟩
def kEa : R := ⟨0, 1, 0, 0, 0, false, false, 0, 0, false, N0, N0, N0⟩
def kEb : R := ⟨0, 1, 0, 0, 1, false, false, 0, 0, false, N0, N0, N0⟩
theorem kG_in {W : World} {s : Nat} {es : List R} {fr od : List Int} (h0 : W.heap[s]? = some (.cells (es.map cells).flatten.toArray 48 (0, 0))) (h1 : W.heap[s + 1]? = some (.cells (fr.map (Value.int .i64)).toArray 3 (0, 0)))
    (h2 : W.heap[s + 1 + 1]? = some (.cells (od.map (Value.int .i64)).toArray 3 (0, 0))) (h3 : W.heap[s + 1 + 1 + 1]? = some (.cells #[.slice (some ⟨s + 1 + 1, 0, none⟩) od.length od.length] 23 (0, 0)))
    (hes : ∀ e ∈ es, ROk W e) (hfr : ∀ v ∈ fr, i64B v) (hod : ∀ v ∈ od, i64B v) (hl : es.length ≤ 100 ∧ fr.length ≤ 100 ∧ od.length ≤ 100) : XIn W (kG es fr od s) := by
  refine ⟨⟨rows_of_block (xs := es.map cells) h0 ?_, hes, Nat.le_refl _, by show es.length ≤ _; omega⟩, ints_of_block (l := fr) h1 hfr (by omega), ⟨rows_of_block (xs := [[.slice (some ⟨s + 1 + 1, 0, none⟩) od.length od.length]]) h3 ?_, ?_, by show 1 ≤ 1; omega, by show 1 ≤ _; omega⟩⟩
  · intro v hv
    obtain ⟨e, _, rfl⟩ := List.mem_map.1 hv
    rfl
  · intro v hv
    have : v = [.slice (some ⟨s + 1 + 1, 0, none⟩) od.length od.length] := by simpa using hv
    subst this; rfl
  · intro x hx
    have : x = ⟨some ⟨s + 1 + 1, 0, none⟩, od.length, od⟩ := by simpa [kG] using hx
    subst this
    exact ints_of_block (l := od) h2 hod (by omega)
def kA (s : Nat) : X := kG [kE0, kE1, kEa] [-1, -1, 0] [0, 1] s
def kB (s : Nat) : X := kG [kE0, kE1, kEb] [-1, -1, 1] [0, 1] s
theorem k_rok (W : World) (b : Bool) : ∀ e ∈ [kE0, kE1, if b then kEa else kEb], ROk W e := by
  intro e he
  have he' : e = kE0 ∨ e = kE1 ∨ e = kEa ∨ e = kEb := by cases b <;> simp at he <;> rcases he with h | h | h <;> simp [h]
  rcases he' with rfl | rfl | rfl | rfl
  all_goals exact ⟨by unfold i64B; decide, by unfold i64B; decide, by unfold u32B; decide, by unfold u32B; decide, by unfold u32B; decide, by unfold i64B; decide, by unfold i64B; decide, ints_none W, ints_none W, ints_none W⟩
theorem kA_check (s : Nat) : check (kA s) = 0 := by kernel_rfl
theorem kB_check (s : Nat) : check (kB s) = 0 := by kernel_rfl
theorem kA_coh (s : Nat) : cohL (kA s) = [(0, 2), (0, 1), (2, 1), (1, 2)] := by kernel_rfl
theorem kB_coh (s : Nat) : cohL (kB s) = [(1, 2), (0, 1), (1, 2)] := by kernel_rfl
theorem kB_ord (s : Nat) : pl (isG6 (kB s)) (kB s).ev.length (kB s).ev.length = [(0, 1)] := by kernel_rfl
theorem kB_atom (s : Nat) : atomA (kB s) = true := by kernel_rfl
theorem kA_no (s : Nat) : ¬ All3 (kA s) := by
  rintro ⟨⟨rk, h⟩, _⟩
  rw [kA_coh] at h
  have h1 := h (2, 1) (by simp [gI])
  have h2 := h (1, 2) (by simp [gI])
  exact absurd (Int.lt_trans h1 h2) (Int.lt_irrefl _)
theorem kB_yes (s : Nat) : All3 (kB s) := by
  refine ⟨⟨id, ?_⟩, ⟨id, ?_⟩, kB_atom s⟩
  · rw [kB_coh]; intro p hp; simp [gI] at hp; rcases hp with rfl | rfl | rfl <;> decide
  · rw [kB_ord]; intro p hp; simp [gI] at hp; rcases hp with rfl; decide
end Md
theorem allowed_is {x : Ev.X} {b : Bool} (hc : Ev.check x = 0) (hb : b = true ↔ Md.All3 x) (w : World) (hin : Ev.XIn w x) : Calls Tryz.prog 15 #[.agg (Ev.xcells x).toArray] w fun e w' => e = .returned (.tuple #[.bool b, .int .i64 0]) ∧ Below w.heap.size w w' :=
  (allowed_any x w hin).mono fun e w' ⟨hw, hr⟩ => by
    rcases hr with ⟨h, _⟩ | ⟨_, b', he, hb'⟩
    · exact absurd hc h
    · exact ⟨by rw [he, Md.same_bool hb' hb], hw⟩
set_option maxRecDepth 100000 in
set_option maxHeartbeats 4000000 in
theorem known8_any (w : World) : Calls Tryz.prog 14 #[] w fun e w' => e = .returned (.bool true) ∧ Below w.heap.size w w' := by
  obtain ⟨W5, hW5⟩ : ∃ W5, W5 = (((((w.alloc (Obj.cells (([Md.kE0, Md.kE1, Md.kEa]).map Ev.cells).flatten.toArray 48)).alloc (Obj.cells #[.int .i64 (-1), .int .i64 (-1), .int .i64 0] 3)).alloc (Obj.cells #[.int .i64 0, .int .i64 1] 3)).alloc (Obj.cells #[.slice (some ⟨w.heap.size + 1 + 1, 0, none⟩) 2 2] 23)).alloc (Obj.cells (Ev.xcells (Md.kA w.heap.size)).toArray 26)) := ⟨_, rfl⟩
  obtain ⟨h0, h1, h2, h3, h4⟩ := heap_a5 w (Obj.cells (([Md.kE0, Md.kE1, Md.kEa]).map Ev.cells).flatten.toArray 48) (Obj.cells #[.int .i64 (-1), .int .i64 (-1), .int .i64 0] 3) (Obj.cells #[.int .i64 0, .int .i64 1] 3) (Obj.cells #[.slice (some ⟨w.heap.size + 1 + 1, 0, none⟩) 2 2] 23) (Obj.cells (Ev.xcells (Md.kA w.heap.size)).toArray 26)
  rw [← hW5] at h0 h1 h2 h3 h4
  have HINA := Lib.hid (show Ev.XIn W5 (Md.kA w.heap.size) from Md.kG_in h0 h1 h2 h3 (Md.k_rok W5 true) (by intro v hv; simp at hv; unfold Ev.i64B; omega) (by intro v hv; simp at hv; unfold Ev.i64B; omega) (by simp))
  have RXA := Lib.hid h4
  have BXA := Lib.hid (show Below w.heap.size w W5 by
    rw [hW5]
    exact (((((Below.refl _ _).alloc (Nat.le_refl _) _).alloc (by simp only [World.size_alloc]; omega) _).alloc (by simp only [World.size_alloc]; omega) _).alloc (by simp only [World.size_alloc]; omega) _).alloc (by simp only [World.size_alloc]; omega) _)
  have HWA := Lib.hid hW5
  have PPA := Lib.hid (allowed_is (b := false) (Md.kA_check w.heap.size) (by simp [Md.kA_no]) W5 HINA.out)
  clear hW5 h0 h1 h2 h3 h4
  go_enter Tryz.func14, Tryz.ntmps14
  go_wp2_with fail
  show Calls Tryz.prog 15 #[.agg (Ev.xcells (Md.kA w.heap.size)).toArray] (((((w.alloc (Obj.cells (([Md.kE0, Md.kE1, Md.kEa]).map Ev.cells).flatten.toArray 48)).alloc (Obj.cells #[.int .i64 (-1), .int .i64 (-1), .int .i64 0] 3)).alloc (Obj.cells #[.int .i64 0, .int .i64 1] 3)).alloc (Obj.cells #[.slice (some ⟨w.heap.size + 1 + 1, 0, none⟩) 2 2] 23)).alloc (Obj.cells (Ev.xcells (Md.kA w.heap.size)).toArray 26)) _
  rw [← HWA.out]
  refine PPA.out.mono ?_
  rintro e W6 ⟨rfl, hb⟩
  have B6 := Lib.hid (BXA.out.trans (hb.mono BXA.out.size))
  clear hb PPA
  obtain ⟨W7, hW7⟩ : ∃ W7, W7 = (((((W6.alloc (Obj.cells (([Md.kE0, Md.kE1, Md.kEb]).map Ev.cells).flatten.toArray 48)).alloc (Obj.cells #[.int .i64 (-1), .int .i64 (-1), .int .i64 1] 3)).alloc (Obj.cells #[.int .i64 0, .int .i64 1] 3)).alloc (Obj.cells #[.slice (some ⟨W6.heap.size + 1 + 1, 0, none⟩) 2 2] 23)).alloc (Obj.cells (Ev.xcells (Md.kB W6.heap.size)).toArray 26)) := ⟨_, rfl⟩
  obtain ⟨h0, h1, h2, h3, h4⟩ := heap_a5 W6 (Obj.cells (([Md.kE0, Md.kE1, Md.kEb]).map Ev.cells).flatten.toArray 48) (Obj.cells #[.int .i64 (-1), .int .i64 (-1), .int .i64 1] 3) (Obj.cells #[.int .i64 0, .int .i64 1] 3) (Obj.cells #[.slice (some ⟨W6.heap.size + 1 + 1, 0, none⟩) 2 2] 23) (Obj.cells (Ev.xcells (Md.kB W6.heap.size)).toArray 26)
  rw [← hW7] at h0 h1 h2 h3 h4
  have HINB := Lib.hid (show Ev.XIn W7 (Md.kB W6.heap.size) from Md.kG_in h0 h1 h2 h3 (Md.k_rok W7 false) (by intro v hv; simp at hv; unfold Ev.i64B; omega) (by intro v hv; simp at hv; unfold Ev.i64B; omega) (by simp))
  have RXB := Lib.hid h4
  have BXB := Lib.hid (show Below W6.heap.size W6 W7 by
    rw [hW7]
    exact (((((Below.refl _ _).alloc (Nat.le_refl _) _).alloc (by simp only [World.size_alloc]; omega) _).alloc (by simp only [World.size_alloc]; omega) _).alloc (by simp only [World.size_alloc]; omega) _).alloc (by simp only [World.size_alloc]; omega) _)
  have HWB := Lib.hid hW7
  have PPB := Lib.hid (allowed_is (b := true) (Md.kB_check W6.heap.size) (by simp [Md.kB_yes]) W7 HINB.out)
  clear hW7 h0 h1 h2 h3 h4
  go_wp2_with fail
  show Calls Tryz.prog 15 #[.agg (Ev.xcells (Md.kB W6.heap.size)).toArray] (((((W6.alloc (Obj.cells (([Md.kE0, Md.kE1, Md.kEb]).map Ev.cells).flatten.toArray 48)).alloc (Obj.cells #[.int .i64 (-1), .int .i64 (-1), .int .i64 1] 3)).alloc (Obj.cells #[.int .i64 0, .int .i64 1] 3)).alloc (Obj.cells #[.slice (some ⟨W6.heap.size + 1 + 1, 0, none⟩) 2 2] 23)).alloc (Obj.cells (Ev.xcells (Md.kB W6.heap.size)).toArray 26)) _
  rw [← HWB.out]
  refine PPB.out.mono ?_
  rintro e W8 ⟨rfl, hb⟩
  have B8 := Lib.hid (B6.out.trans ((BXB.out.trans (hb.mono BXB.out.size)).mono B6.out.size))
  clear hb PPB
  go_wp2_with fail
  go_ret
  exact ⟨rfl, B8.out⟩
end Go.Proofs.YtnjnpbabgefaeaaGreat
end

section
namespace Go.Proofs.YtnjnpbabgefaeaaGreat
open Go.RowKit
end Go.Proofs.YtnjnpbabgefaeaaGreat
end

section
namespace Go.Proofs.YtnjnpbabgefaeaaGreat
open Go.RowKit
theorem Og.op_of_list {P : Program} {ops : Array Oper} {Q : Exit → Act → World → Prop} {K : Act → World → Prop} {a : Act} {w : World} (i : Nat) (o : Oper) (hi : ops[i]? = some o) (h : wpList P ops (Exit.then K Q) [o] a w) : wpOp P ops Q i K a w := by
  unfold wpList at h
  unfold wpOp
  rw [hi]
  exact h
def Md.Apt (u v : Value) : Prop := u.ownBlock = none ∨ u.ownBlock ≠ v.ownBlock
theorem Md.apt_symm {u v : Value} (h : Md.Apt u v) : v.ownBlock = none ∨ v.ownBlock ≠ u.ownBlock := by
  rcases h with h | h
  · cases hv : v.ownBlock with
    | none => exact .inl rfl
    | some k => exact .inr (by rw [h]; simp)
  · exact .inr (fun e => h e.symm)
theorem Md.apt_app {u v u' : Value} {w : World} {B : Nat} {e : TypeId} {z n : Nat} {xs : List Value} (h : Md.Apt u v) (hat : u'.ownBlock = u.ownBlock ∨ u'.ownBlock = some w.heap.size) (hv : w.ownsRow B e z v n xs) : Md.Apt u' v := by
  unfold Md.Apt at h ⊢
  rcases hat with h1 | h1
  · rw [h1]; exact h
  · refine .inr fun e => ?_
    have := (hv.lt w.heap.size (by rw [← e, h1])).2
    omega
end Go.Proofs.YtnjnpbabgefaeaaGreat
end
