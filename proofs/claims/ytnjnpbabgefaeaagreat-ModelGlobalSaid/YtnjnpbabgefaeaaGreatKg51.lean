import Derived.Test.YtnjnpbabgefaeaaGreatKg50
import Derived.Laws.EntriesVeiled
import Derived.Test.YtnjnpbabgefaeaaGreatKg19
import Derived.Test.YtnjnpbabgefaeaaGreatKg07
import Derived.Test.YtnjnpbabgefaeaaGreatKg04
import Derived.Laws.AppendOwnNone
import Derived.Test.YtnjnpbabgefaeaaGreatKg46
import Derived.Test.YtnjnpbabgefaeaaGreatKg27
import Derived.Test.YtnjnpbabgefaeaaGreatKg41
import Derived.Test.YtnjnpbabgefaeaaGreatKg38
import Derived.Test.YtnjnpbabgefaeaaGreatKg47
set_option linter.unusedVariables false
set_option linter.unusedSimpArgs false

section
namespace Go.Proofs.YtnjnpbabgefaeaaGreat
open Go.RowKit
namespace Md
open Ev
def All3 (x : X) : Prop := Rk (gI (cohL x)) ∧ Rk (gI (pl (isG6 x) x.ev.length x.ev.length)) ∧ atomA x = true
def AllowedR (x : X) (w : World) (e : Ending) (w' : World) : Prop := Below w.heap.size w w' ∧
  ((check x ≠ 0 ∧ e = .returned (.tuple #[.bool false, .int .i64 (check x)])) ∨ (check x = 0 ∧ ∃ b : Bool, e = .returned (.tuple #[.bool b, .int .i64 0]) ∧ (b = true ↔ All3 x)))
def JudgeR (x : X) (w : World) (e : Ending) (w' : World) : Prop := Below w.heap.size w w' ∧
  ((check x ≠ 0 ∧ e = .returned (.tuple #[.agg #[.bool false, .bool false, .bool false], .int .i64 (check x)])) ∨
   (check x = 0 ∧ ∃ b1 b2 b3 : Bool, e = .returned (.tuple #[.agg #[.bool b1, .bool b2, .bool b3], .int .i64 0]) ∧ (b1 = true ↔ Rk (gI (cohL x))) ∧ (b2 = true ↔ Rk (gI (pl (isG6 x) x.ev.length x.ev.length))) ∧ b3 = atomA x))
def ArrowsR (x : X) (w : World) (e : Ending) (w' : World) : Prop := Below w.heap.size w w' ∧
  ((check x ≠ 0 ∧ e = .returned (.tuple #[.slice none 0 0, .int .i64 (check x)])) ∨ (check x = 0 ∧ ∃ a c, e = .returned (.tuple #[.slice a (pl (isG6 x) x.ev.length x.ev.length).length c, .int .i64 0]) ∧ PairsIn w' a c (pl (isG6 x) x.ev.length x.ev.length)))
theorem AllowedR.no {x : X} {w w' : World} {e : Ending} (hb : Below w.heap.size w w') (h : check x ≠ 0) (he : e = .returned (.tuple #[.bool false, .int .i64 (check x)])) : AllowedR x w e w' := ⟨hb, .inl ⟨h, he⟩⟩
theorem AllowedR.yes {x : X} {w w' : World} {e : Ending} (hb : Below w.heap.size w w') (h : check x = 0) (b : Bool) (he : e = .returned (.tuple #[.bool b, .int .i64 0])) (hr : b = true ↔ All3 x) : AllowedR x w e w' := ⟨hb, .inr ⟨h, b, he, hr⟩⟩
theorem ArrowsR.no {x : X} {w w' : World} {e : Ending} (hb : Below w.heap.size w w') (h : check x ≠ 0) (he : e = .returned (.tuple #[.slice none 0 0, .int .i64 (check x)])) : ArrowsR x w e w' := ⟨hb, .inl ⟨h, he⟩⟩
theorem JudgeR.no {x : X} {w w' : World} {e : Ending} (hb : Below w.heap.size w w') (h : check x ≠ 0) (he : e = .returned (.tuple #[.agg #[.bool false, .bool false, .bool false], .int .i64 (check x)])) : JudgeR x w e w' := ⟨hb, .inl ⟨h, he⟩⟩
theorem JudgeR.yes {x : X} {w w' : World} {e : Ending} (hb : Below w.heap.size w w') (h : check x = 0) (b1 b2 b3 : Bool) (he : e = .returned (.tuple #[.agg #[.bool b1, .bool b2, .bool b3], .int .i64 0])) (h1 : b1 = true ↔ Rk (gI (cohL x))) (h2 : b2 = true ↔ Rk (gI (pl (isG6 x) x.ev.length x.ev.length))) (h3 : b3 = atomA x) : JudgeR x w e w' :=
  ⟨hb, .inr ⟨h, b1, b2, b3, he, h1, h2, h3⟩⟩
theorem tells (p : Prop) : ∃ b : Bool, b = true ↔ p := by
  rcases Classical.em p with h | h
  · exact ⟨true, by simp [h]⟩
  · exact ⟨false, by simp [h]⟩
theorem same_bool {a b : Bool} {p : Prop} (h : a = true ↔ p) (k : b = true ↔ p) : a = b := by
  cases a <;> cases b <;> simp_all
end Md
theorem isCoherent_is (x : Ev.X) (q : Nat) (hc : Ev.check x = 0) (b : Bool) (hb : b = true ↔ Md.Rk (Md.gI (Md.cohL x))) (w : World) (hj : Md.JIn w q x) : Calls Tryz.prog 48 #[.pointer (some ⟨q, 0, none⟩)] w fun e w' => e = .returned (.bool b) ∧ Below w.heap.size w w' :=
  (isCoherent_any x q hc w hj).mono fun e w' ⟨r, he, hr, hw⟩ => ⟨by rw [he, Md.same_bool hr hb], hw⟩
theorem isOrdered_is (x : Ev.X) (q : Nat) (hc : Ev.check x = 0) (b : Bool) (hb : b = true ↔ Md.Rk (Md.gI (Ev.pl (Ev.isG6 x) x.ev.length x.ev.length))) (w : World) (hj : Md.JIn w q x) : Calls Tryz.prog 49 #[.pointer (some ⟨q, 0, none⟩)] w fun e w' => e = .returned (.bool b) ∧ Below w.heap.size w w' :=
  (isOrdered_any x q hc w hj).mono fun e w' ⟨r, he, hr, hw⟩ => ⟨by rw [he, Md.same_bool hr hb], hw⟩
theorem isAtomic_is (x : Ev.X) (q : Nat) (hc : Ev.check x = 0) (b : Bool) (hb : b = Md.atomA x) (w : World) (hj : Md.JIn w q x) : Calls Tryz.prog 50 #[.pointer (some ⟨q, 0, none⟩)] w fun e w' => e = .returned (.bool b) ∧ Below w.heap.size w w' :=
  hb ▸ isAtomic_any x q hc w hj
set_option maxRecDepth 100000 in
set_option maxHeartbeats 2000000 in
theorem jparts_any (q : Nat) (w : World) : Calls Tryz.prog 35 #[.pointer (some ⟨q, 0, none⟩)] w fun e w' => e = .returned (.agg #[.func (.func 48) #[.pointer (some ⟨q, 0, none⟩)] #[], .func (.func 49) #[.pointer (some ⟨q, 0, none⟩)] #[], .func (.func 50) #[.pointer (some ⟨q, 0, none⟩)] #[]]) ∧ Below w.heap.size w w' := by
  go_enter Tryz.func35, Tryz.ntmps35
  go_wp2
  exact bodyPost_ret (v := .agg #[.func (.func 48) #[.pointer (some ⟨q, 0, none⟩)] #[], .func (.func 49) #[.pointer (some ⟨q, 0, none⟩)] #[], .func (.func 50) #[.pointer (some ⟨q, 0, none⟩)] #[]]) (results_cell_row (fn := Tryz.f35) rfl _ _ w.heap.size 68 _ (0, 0) _ rfl (heap_alloc_new _ _) Tryz.underlying68 rfl (by kernel_rfl)) rfl ⟨rfl, (Below.refl _ _).alloc (Nat.le_refl _) _⟩
set_option maxRecDepth 100000 in
set_option maxHeartbeats 8000000 in
theorem allowed_any (x : Ev.X) (w : World) (hin : Ev.XIn w x) : Calls Tryz.prog 15 #[.agg (Ev.xcells x).toArray] w (Md.AllowedR x w) := by
  have HIN := Lib.hid hin; clear hin
  have R0 := Lib.hid (heap_alloc_new w (.cells (Ev.xcells x).toArray 26))
  have B0 := Lib.hid ((Below.refl w.heap.size w).alloc (Nat.le_refl _) (.cells (Ev.xcells x).toArray 26))
  have HB := Lib.hid (bring_any x _ (HIN.out.kp (Ev.kp_below B0.out)))
  go_enter Tryz.func15, Tryz.ntmps15
  go_wp2_with ((with_reducible show wpList _ _ _ (Oper.mk (some 8) _ _ _ _ _ :: _) _ _); refine wpList_load_row rfl 26 (.tmp 1) rfl w.heap.size (by kernel_rfl) 26 (Ev.xcells x).toArray (0, 0) _ R0.out Tryz.underlying26 rfl (by kernel_rfl) ?_)
  refine HB.out.mono ?_
  rintro e W1 ⟨hb, hr⟩
  have B1 := Lib.hid (B0.out.trans (hb.mono (by simp only [World.size_alloc]; omega))); clear hb HB
  rcases hr with ⟨hc, rfl⟩ | ⟨hc, q, rfl, hj⟩
  · obtain ⟨v, hv⟩ : ∃ v, Ev.check x = v := ⟨_, rfl⟩
    have HV := Lib.hid hv; have HC := Lib.hid hc
    rw [hv] at hc ⊢
    have tv : (v != 0) = true := by simpa using hc
    clear hv hc
    go_wp2
    go_ret2
    exact Md.AllowedR.no B1.out HC.out (by rw [HV.out]; rfl)
  · have HC := Lib.hid hc; have HJ := Lib.hid hj
    clear hc hj
    obtain ⟨b1, h1⟩ := Md.tells (Md.Rk (Md.gI (Md.cohL x)))
    obtain ⟨b2, h2⟩ := Md.tells (Md.Rk (Md.gI (Ev.pl (Ev.isG6 x) x.ev.length x.ev.length)))
    obtain ⟨b3, h3⟩ : ∃ b3, b3 = Md.atomA x := ⟨_, rfl⟩
    have HALL : Hid ((b1 && b2 && b3) = true ↔ Md.All3 x) := Lib.hid (by unfold Md.All3; rw [Bool.and_eq_true, Bool.and_eq_true, h1, h2, h3, and_assoc])
    have K1 := Lib.hid (fun (W : World) (hj : Md.JIn W q x) => isCoherent_is x q HC.out b1 h1 W hj)
    have K2 := Lib.hid (fun (W : World) (hj : Md.JIn W q x) => isOrdered_is x q HC.out b2 h2 W hj)
    have K3 := Lib.hid (fun (W : World) (hj : Md.JIn W q x) => isAtomic_is x q HC.out b3 h3 W hj)
    clear h1 h2 h3
    go_wp2_with fail
    refine (jparts_any q W1).mono ?_
    rintro e W2 ⟨rfl, hb⟩
    obtain ⟨U, hU⟩ : ∃ U, U = W2.alloc (.cells #[.func (.func 48) #[.pointer (some ⟨q, 0, none⟩)] #[], .func (.func 49) #[.pointer (some ⟨q, 0, none⟩)] #[], .func (.func 50) #[.pointer (some ⟨q, 0, none⟩)] #[]] 68) := ⟨_, rfl⟩
    have hbu : Below W2.heap.size W2 U := by rw [hU]; exact (Below.refl _ _).alloc (Nat.le_refl _) _
    have BU := Lib.hid (hb.trans (hbu.mono hb.size))
    have ru : U.heap[W2.heap.size]? = some (.cells #[.func (.func 48) #[.pointer (some ⟨q, 0, none⟩)] #[], .func (.func 49) #[.pointer (some ⟨q, 0, none⟩)] #[], .func (.func 50) #[.pointer (some ⟨q, 0, none⟩)] #[]] 68 (0, 0)) := by rw [hU]; exact heap_alloc_new _ _
    have RU := Lib.hid ru; have HU := Lib.hid hU
    clear hb hbu hU ru
    have c0 : U.cell? ⟨W2.heap.size, 0, none⟩ = some (.func (.func 48) #[.pointer (some ⟨q, 0, none⟩)] #[]) := by rw [cell_of_row _ _ _ _ _ _ RU.out]; rfl
    go_wp2_with ((with_reducible show wpList _ _ _ (Oper.mk (some 18) _ _ _ _ _ :: _) _ _); rw [← HU.out])
    refine (K1.out U (HJ.out.kp BU.out)).mono ?_
    rintro e W3 ⟨rfl, hb⟩
    have BW := Lib.hid (BU.out.trans (hb.mono BU.out.size))
    have RW := Lib.hid ((hb.block _ (Array.getElem?_eq_some_iff.1 RU.out).1).trans RU.out)
    clear hb c0
    cases b1
    · have HF := Lib.hid (show false = true ↔ Md.All3 x from by simpa using HALL.out)
      go_wp2_with fail
      go_ret2
      exact Md.AllowedR.yes (B1.out.trans (BW.out.mono B1.out.size)) HC.out false rfl HF.out
    have c1 : W3.cell? ⟨W2.heap.size, 1, none⟩ = some (.func (.func 49) #[.pointer (some ⟨q, 0, none⟩)] #[]) := by rw [cell_of_row _ _ _ _ _ _ RW.out]; rfl
    go_wp2_with fail
    refine (K2.out W3 (HJ.out.kp BW.out)).mono ?_
    rintro e W4 ⟨rfl, hb⟩
    have BX := Lib.hid (BW.out.trans (hb.mono BW.out.size))
    have RX := Lib.hid ((hb.block _ (Array.getElem?_eq_some_iff.1 RW.out).1).trans RW.out)
    clear hb c1
    cases b2
    · have HF := Lib.hid (show false = true ↔ Md.All3 x from by simpa using HALL.out)
      go_wp2_with fail
      go_ret2
      exact Md.AllowedR.yes (B1.out.trans (BX.out.mono B1.out.size)) HC.out false rfl HF.out
    have c2 : W4.cell? ⟨W2.heap.size, 2, none⟩ = some (.func (.func 50) #[.pointer (some ⟨q, 0, none⟩)] #[]) := by rw [cell_of_row _ _ _ _ _ _ RX.out]; rfl
    go_wp2_with fail
    refine (K3.out W4 (HJ.out.kp BX.out)).mono ?_
    rintro e W5 ⟨rfl, hb⟩
    have BY := Lib.hid (BX.out.trans (hb.mono BX.out.size))
    clear hb c2
    have HF := Lib.hid (show b3 = true ↔ Md.All3 x from by simpa using HALL.out)
    go_wp2_with fail
    go_ret2
    exact Md.AllowedR.yes (B1.out.trans (BY.out.mono B1.out.size)) HC.out b3 rfl HF.out
end Go.Proofs.YtnjnpbabgefaeaaGreat
end

section
namespace Go.Proofs.YtnjnpbabgefaeaaGreat
open Go.RowKit
end Go.Proofs.YtnjnpbabgefaeaaGreat
end

section
namespace Go.Proofs.YtnjnpbabgefaeaaGreat
open Go.RowKit
namespace Md
open Ev
def kG (es : List R) (fr od : List Int) (s : Nat) : X := ⟨some ⟨s, 0, none⟩, es.length, es, ⟨some ⟨s + 1, 0, none⟩, fr.length, fr⟩, some ⟨s + 1 + 1 + 1, 0, none⟩, 1, [⟨some ⟨s + 1 + 1, 0, none⟩, od.length, od⟩]⟩
def kE0 : R := ⟨-1, 5, 0, 0, 0, false, false, 0, 0, false, N0, N0, N0⟩
def kE1 : R := ⟨0, 2, 0, 1, 0, false, false, 0, 0, false, N0, N0, N0⟩
def kEa : R := ⟨0, 1, 0, 0, 0, false, false, 0, 0, false, N0, N0, N0⟩
def kEb : R := ⟨0, 1, 0, 0, 1, false, false, 0, 0, false, N0, N0, N0⟩
theorem kG_in {W : World} {s : Nat} {es : List R} {fr od : List Int} (h0 : W.heap[s]? = some (.cells (es.map cells).flatten.toArray 48 (0, 0))) (h1 : W.heap[s + 1]? = some (.cells (fr.map (Value.int .i64)).toArray 3 (0, 0)))
    (h2 : W.heap[s + 1 + 1]? = some (.cells (od.map (Value.int .i64)).toArray 3 (0, 0))) (h3 : W.heap[s + 1 + 1 + 1]? = some (.cells #[.slice (some ⟨s + 1 + 1, 0, none⟩) od.length od.length] 23 (0, 0)))
    (hes : ∀ e ∈ es, ROk W e) (hfr : ∀ v ∈ fr, i64B v) (hod : ∀ v ∈ od, i64B v) (hl : es.length ≤ 100 ∧ fr.length ≤ 100 ∧ od.length ≤ 100) : XIn W (kG es fr od s) := by
  refine ⟨⟨rows_of_block (xs := es.map cells) h0 ?_, hes, Nat.le_refl _, by show es.length ≤ _; omega⟩, ints_of_block (l := fr) h1 hfr (by omega), ⟨rows_of_block (xs := [[.slice (some ⟨s + 1 + 1, 0, none⟩) od.length od.length]]) h3 ?_, ?_, by show 1 ≤ 1; omega, by show 1 ≤ _; omega⟩⟩
  · intro v hv
    obtain ⟨e, _, rfl⟩ := List.mem_map.1 hv
    rfl
  · intro v hv
    have : v = [.slice (some ⟨s + 1 + 1, 0, none⟩) od.length od.length] := by simpa using hv
    subst this; rfl
  · intro x hx
    have : x = ⟨some ⟨s + 1 + 1, 0, none⟩, od.length, od⟩ := by simpa [kG] using hx
    subst this
    exact ints_of_block (l := od) h2 hod (by omega)
def kA (s : Nat) : X := kG [kE0, kE1, kEa] [-1, -1, 0] [0, 1] s
def kB (s : Nat) : X := kG [kE0, kE1, kEb] [-1, -1, 1] [0, 1] s
theorem k_rok (W : World) (b : Bool) : ∀ e ∈ [kE0, kE1, if b then kEa else kEb], ROk W e := by
  intro e he
  have he' : e = kE0 ∨ e = kE1 ∨ e = kEa ∨ e = kEb := by cases b <;> simp at he <;> rcases he with h | h | h <;> simp [h]
  rcases he' with rfl | rfl | rfl | rfl
  all_goals exact ⟨by unfold i64B; decide, by unfold i64B; decide, by unfold u32B; decide, by unfold u32B; decide, by unfold u32B; decide, by unfold i64B; decide, by unfold i64B; decide, ints_none W, ints_none W, ints_none W⟩
theorem kA_check (s : Nat) : check (kA s) = 0 := by kernel_rfl
theorem kB_check (s : Nat) : check (kB s) = 0 := by kernel_rfl
theorem kA_coh (s : Nat) : cohL (kA s) = [(0, 2), (0, 1), (2, 1), (1, 2)] := by kernel_rfl
theorem kB_coh (s : Nat) : cohL (kB s) = [(1, 2), (0, 1), (1, 2)] := by kernel_rfl
theorem kB_ord (s : Nat) : pl (isG6 (kB s)) (kB s).ev.length (kB s).ev.length = [(0, 1)] := by kernel_rfl
theorem kB_atom (s : Nat) : atomA (kB s) = true := by kernel_rfl
theorem kA_no (s : Nat) : ¬ All3 (kA s) := by
  rintro ⟨⟨rk, h⟩, _⟩
  rw [kA_coh] at h
  have h1 := h (2, 1) (by simp [gI])
  have h2 := h (1, 2) (by simp [gI])
  exact absurd (Int.lt_trans h1 h2) (Int.lt_irrefl _)
theorem kB_yes (s : Nat) : All3 (kB s) := by
  refine ⟨⟨id, ?_⟩, ⟨id, ?_⟩, kB_atom s⟩
  · rw [kB_coh]; intro p hp; simp [gI] at hp; rcases hp with rfl | rfl | rfl <;> decide
  · rw [kB_ord]; intro p hp; simp [gI] at hp; rcases hp with rfl; decide
end Md
theorem allowed_is {x : Ev.X} {b : Bool} (hc : Ev.check x = 0) (hb : b = true ↔ Md.All3 x) (w : World) (hin : Ev.XIn w x) : Calls Tryz.prog 15 #[.agg (Ev.xcells x).toArray] w fun e w' => e = .returned (.tuple #[.bool b, .int .i64 0]) ∧ Below w.heap.size w w' :=
  (allowed_any x w hin).mono fun e w' ⟨hw, hr⟩ => by
    rcases hr with ⟨h, _⟩ | ⟨_, b', he, hb'⟩
    · exact absurd hc h
    · exact ⟨by rw [he, Md.same_bool hb' hb], hw⟩
set_option maxRecDepth 100000 in
set_option maxHeartbeats 4000000 in
theorem known8_any (w : World) : Calls Tryz.prog 14 #[] w fun e w' => e = .returned (.bool true) ∧ Below w.heap.size w w' := by
  obtain ⟨W5, hW5⟩ : ∃ W5, W5 = (((((w.alloc (Obj.cells (([Md.kE0, Md.kE1, Md.kEa]).map Ev.cells).flatten.toArray 48)).alloc (Obj.cells #[.int .i64 (-1), .int .i64 (-1), .int .i64 0] 3)).alloc (Obj.cells #[.int .i64 0, .int .i64 1] 3)).alloc (Obj.cells #[.slice (some ⟨w.heap.size + 1 + 1, 0, none⟩) 2 2] 23)).alloc (Obj.cells (Ev.xcells (Md.kA w.heap.size)).toArray 26)) := ⟨_, rfl⟩
  obtain ⟨h0, h1, h2, h3, h4⟩ := heap_a5 w (Obj.cells (([Md.kE0, Md.kE1, Md.kEa]).map Ev.cells).flatten.toArray 48) (Obj.cells #[.int .i64 (-1), .int .i64 (-1), .int .i64 0] 3) (Obj.cells #[.int .i64 0, .int .i64 1] 3) (Obj.cells #[.slice (some ⟨w.heap.size + 1 + 1, 0, none⟩) 2 2] 23) (Obj.cells (Ev.xcells (Md.kA w.heap.size)).toArray 26)
  rw [← hW5] at h0 h1 h2 h3 h4
  have HINA := Lib.hid (show Ev.XIn W5 (Md.kA w.heap.size) from Md.kG_in h0 h1 h2 h3 (Md.k_rok W5 true) (by intro v hv; simp at hv; unfold Ev.i64B; omega) (by intro v hv; simp at hv; unfold Ev.i64B; omega) (by simp))
  have RXA := Lib.hid h4
  have BXA := Lib.hid (show Below w.heap.size w W5 by
    rw [hW5]
    exact (((((Below.refl _ _).alloc (Nat.le_refl _) _).alloc (by simp only [World.size_alloc]; omega) _).alloc (by simp only [World.size_alloc]; omega) _).alloc (by simp only [World.size_alloc]; omega) _).alloc (by simp only [World.size_alloc]; omega) _)
  have HWA := Lib.hid hW5
  have PPA := Lib.hid (allowed_is (b := false) (Md.kA_check w.heap.size) (by simp [Md.kA_no]) W5 HINA.out)
  clear hW5 h0 h1 h2 h3 h4
  go_enter Tryz.func14, Tryz.ntmps14
  go_wp2_with fail
  show Calls Tryz.prog 15 #[.agg (Ev.xcells (Md.kA w.heap.size)).toArray] (((((w.alloc (Obj.cells (([Md.kE0, Md.kE1, Md.kEa]).map Ev.cells).flatten.toArray 48)).alloc (Obj.cells #[.int .i64 (-1), .int .i64 (-1), .int .i64 0] 3)).alloc (Obj.cells #[.int .i64 0, .int .i64 1] 3)).alloc (Obj.cells #[.slice (some ⟨w.heap.size + 1 + 1, 0, none⟩) 2 2] 23)).alloc (Obj.cells (Ev.xcells (Md.kA w.heap.size)).toArray 26)) _
  rw [← HWA.out]
  refine PPA.out.mono ?_
  rintro e W6 ⟨rfl, hb⟩
  have B6 := Lib.hid (BXA.out.trans (hb.mono BXA.out.size))
  clear hb PPA
  obtain ⟨W7, hW7⟩ : ∃ W7, W7 = (((((W6.alloc (Obj.cells (([Md.kE0, Md.kE1, Md.kEb]).map Ev.cells).flatten.toArray 48)).alloc (Obj.cells #[.int .i64 (-1), .int .i64 (-1), .int .i64 1] 3)).alloc (Obj.cells #[.int .i64 0, .int .i64 1] 3)).alloc (Obj.cells #[.slice (some ⟨W6.heap.size + 1 + 1, 0, none⟩) 2 2] 23)).alloc (Obj.cells (Ev.xcells (Md.kB W6.heap.size)).toArray 26)) := ⟨_, rfl⟩
  obtain ⟨h0, h1, h2, h3, h4⟩ := heap_a5 W6 (Obj.cells (([Md.kE0, Md.kE1, Md.kEb]).map Ev.cells).flatten.toArray 48) (Obj.cells #[.int .i64 (-1), .int .i64 (-1), .int .i64 1] 3) (Obj.cells #[.int .i64 0, .int .i64 1] 3) (Obj.cells #[.slice (some ⟨W6.heap.size + 1 + 1, 0, none⟩) 2 2] 23) (Obj.cells (Ev.xcells (Md.kB W6.heap.size)).toArray 26)
  rw [← hW7] at h0 h1 h2 h3 h4
  have HINB := Lib.hid (show Ev.XIn W7 (Md.kB W6.heap.size) from Md.kG_in h0 h1 h2 h3 (Md.k_rok W7 false) (by intro v hv; simp at hv; unfold Ev.i64B; omega) (by intro v hv; simp at hv; unfold Ev.i64B; omega) (by simp))
  have RXB := Lib.hid h4
  have BXB := Lib.hid (show Below W6.heap.size W6 W7 by
    rw [hW7]
    exact (((((Below.refl _ _).alloc (Nat.le_refl _) _).alloc (by simp only [World.size_alloc]; omega) _).alloc (by simp only [World.size_alloc]; omega) _).alloc (by simp only [World.size_alloc]; omega) _).alloc (by simp only [World.size_alloc]; omega) _)
  have HWB := Lib.hid hW7
  have PPB := Lib.hid (allowed_is (b := true) (Md.kB_check W6.heap.size) (by simp [Md.kB_yes]) W7 HINB.out)
  clear hW7 h0 h1 h2 h3 h4
  go_wp2_with fail
  show Calls Tryz.prog 15 #[.agg (Ev.xcells (Md.kB W6.heap.size)).toArray] (((((W6.alloc (Obj.cells (([Md.kE0, Md.kE1, Md.kEb]).map Ev.cells).flatten.toArray 48)).alloc (Obj.cells #[.int .i64 (-1), .int .i64 (-1), .int .i64 1] 3)).alloc (Obj.cells #[.int .i64 0, .int .i64 1] 3)).alloc (Obj.cells #[.slice (some ⟨W6.heap.size + 1 + 1, 0, none⟩) 2 2] 23)).alloc (Obj.cells (Ev.xcells (Md.kB W6.heap.size)).toArray 26)) _
  rw [← HWB.out]
  refine PPB.out.mono ?_
  rintro e W8 ⟨rfl, hb⟩
  have B8 := Lib.hid (B6.out.trans ((BXB.out.trans (hb.mono BXB.out.size)).mono B6.out.size))
  clear hb PPB
  go_wp2_with fail
  go_ret
  exact ⟨rfl, B8.out⟩
end Go.Proofs.YtnjnpbabgefaeaaGreat
end

section
namespace Go.Proofs.YtnjnpbabgefaeaaGreat
open Go.RowKit
end Go.Proofs.YtnjnpbabgefaeaaGreat
end

section
namespace Go.Proofs.YtnjnpbabgefaeaaGreat
open Go.RowKit
def Md.Apt (u v : Value) : Prop := u.ownBlock = none ∨ u.ownBlock ≠ v.ownBlock
theorem Md.apt_symm {u v : Value} (h : Md.Apt u v) : v.ownBlock = none ∨ v.ownBlock ≠ u.ownBlock := by
  rcases h with h | h
  · cases hv : v.ownBlock with
    | none => exact .inl rfl
    | some k => exact .inr (by rw [h]; simp)
  · exact .inr (fun e => h e.symm)
theorem Md.apt_app {u v u' : Value} {w : World} {B : Nat} {e : TypeId} {z n : Nat} {xs : List Value} (h : Md.Apt u v) (hat : u'.ownBlock = u.ownBlock ∨ u'.ownBlock = some w.heap.size) (hv : w.ownsRow B e z v n xs) : Md.Apt u' v := by
  unfold Md.Apt at h ⊢
  rcases hat with h1 | h1
  · rw [h1]; exact h
  · refine .inr fun e => ?_
    have := (hv.lt w.heap.size (by rw [← e, h1])).2
    omega
end Go.Proofs.YtnjnpbabgefaeaaGreat
end

section
namespace Go.Proofs.YtnjnpbabgefaeaaGreat
open Go.RowKit
theorem Md.cI_len (l : List Nat) : (Md.cI l).length = l.length := by simp [Md.cI]
end Go.Proofs.YtnjnpbabgefaeaaGreat
end

section
namespace Go.Proofs.YtnjnpbabgefaeaaGreat
open Go.RowKit
end Go.Proofs.YtnjnpbabgefaeaaGreat
end

section
namespace Go.Proofs.YtnjnpbabgefaeaaGreat
open Go.RowKit
namespace Md
open Ev
end Md
end Go.Proofs.YtnjnpbabgefaeaaGreat
end

section
namespace Go.Proofs.YtnjnpbabgefaeaaGreat
open Go.RowKit
end Go.Proofs.YtnjnpbabgefaeaaGreat
end

section
namespace Go.Proofs.YtnjnpbabgefaeaaGreat
open Go.RowKit
namespace Md
open Ev
def EvRow (W : World) (base : Nat) (a : Option Addr) (c : Nat) (xs : List R) : Prop := W.ownsRow base 48 13 (.slice a xs.length c) xs.length (xs.map cells).flatten
theorem cells_len (y : R) : (cells y).length = 13 := rfl
theorem flat_at (xs : List R) : ∀ (k : Nat) (y : R) (i : Nat) (c : Value), xs[k]? = some y → (cells y)[i]? = some c → ((xs.map cells).flatten)[k * 13 + i]? = some c := by
  induction xs with
  | nil => intro k y i c h; simp at h
  | cons a l ih =>
    intro k y i c hk hi
    have hil : i < 13 := by have := (List.getElem?_eq_some_iff.1 hi).1; rwa [cells_len] at this
    rw [List.map_cons, List.flatten_cons]
    cases k with
    | zero =>
      obtain rfl : a = y := by simpa using hk
      rw [List.getElem?_append_left (by rw [cells_len]; omega)]
      simpa using hi
    | succ k =>
      rw [List.getElem?_append_right (by rw [cells_len]; omega)]
      have := ih k y i c (by simpa using hk) hi
      rw [show (k + 1) * 13 + i - (cells a).length = k * 13 + i by rw [cells_len]; omega]
      exact this
theorem flat_set (xs : List R) : ∀ (k i : Nat) (y y' : R) (c : Value), xs[k]? = some y → i < 13 → cells y' = (cells y).set i c → ((xs.map cells).flatten).set (k * 13 + i) c = ((xs.set k y').map cells).flatten := by
  induction xs with
  | nil => intro k i y y' c h; simp at h
  | cons a l ih =>
    intro k i y y' c hk hi hy
    cases k with
    | zero =>
      obtain rfl : a = y := by simpa using hk
      rw [List.map_cons, List.flatten_cons, List.set_cons_zero, List.map_cons, List.flatten_cons, hy, Nat.zero_mul, Nat.zero_add, List.set_append_left _ _ (by rw [cells_len]; omega)]
    | succ k =>
      rw [List.map_cons, List.flatten_cons, List.set_cons_succ, List.map_cons, List.flatten_cons, List.set_append_right _ _ (by rw [cells_len]; omega)]
      rw [show (k + 1) * 13 + i - (cells a).length = k * 13 + i by rw [cells_len]; omega]
      rw [ih k i y y' c (by simpa using hk) hi hy]
theorem row_put {W : World} {base g n cap j : Nat} {e : TypeId} {sz : Nat} {ys : List Value} (c : Value) (h : W.ownsRow base e sz (.slice (some ⟨g, 0, none⟩) n cap) n ys) : (W.setCell ⟨g, j, none⟩ c).ownsRow base e sz (.slice (some ⟨g, 0, none⟩) n cap) n (ys.set j c) := by
  refine ⟨by rw [List.length_set]; exact h.1, ?_⟩
  rcases h.2 with ⟨e1, _⟩ | ⟨g', cap', cur, e1, hb, hh, hnc, hcm, hcs, ht⟩
  · simp at e1
  · obtain ⟨rfl, rfl⟩ : g = g' ∧ cap = cap' := by simpa using e1
    refine .inr ⟨g, cap, cur.setIfInBounds j c, rfl, hb, ?_, hnc, hcm, by simpa using hcs, ?_⟩
    · obtain ⟨hlt, hk⟩ := Array.getElem?_eq_some_iff.1 hh
      show (W.heap.modify g _)[g]? = _
      rw [Array.getElem?_eq_getElem (by rw [Array.size_modify]; exact hlt), Array.getElem_modify_self, hk]
      rfl
    · rw [Array.toList_setIfInBounds, List.take_set, ht]
theorem EvRow.form {W : World} {base : Nat} {a : Option Addr} {c : Nat} {xs : List R} (h : EvRow W base a c xs) (hp : 0 < xs.length) : ∃ g cur, a = some ⟨g, 0, none⟩ ∧ base ≤ g ∧ W.heap[g]? = some (.cells cur 48 (0, 0)) ∧ xs.length ≤ c ∧ c ≤ 9223372036854775807 := by
  rcases h.2 with ⟨e, hn⟩ | ⟨g, cap, cur, e, hb, hh, hnc, hcm, hcs, ht⟩
  · omega
  · obtain ⟨rfl, rfl⟩ : a = some ⟨g, 0, none⟩ ∧ c = cap := by simpa using e
    exact ⟨g, cur, rfl, hb, hh, hnc, by unfold maxLen at hcm; exact hcm⟩
theorem EvRow.cell {W : World} {base g : Nat} {c : Nat} {xs : List R} (h : EvRow W base (some ⟨g, 0, none⟩) c xs) {k i : Nat} {y : R} {v : Value} (hk : xs[k]? = some y) (hi : (cells y)[i]? = some v) : W.cell? ⟨g, k * 13 + i, none⟩ = some v := by
  have h1 := World.ownsRow.cells (g := g) h rfl (k * 13 + i) v (flat_at xs k y i v hk hi)
  have e : (⟨g, 0, none⟩ : Addr).add (k * 13 + i) = ⟨g, k * 13 + i, none⟩ := by unfold Addr.add; split <;> simp_all
  rw [e] at h1; exact h1
theorem EvRow.put {W : World} {base g : Nat} {c : Nat} {xs : List R} (h : EvRow W base (some ⟨g, 0, none⟩) c xs) {k i : Nat} {y y' : R} {v : Value} (hk : xs[k]? = some y) (hi : i < 13) (hy : cells y' = (cells y).set i v) :
    EvRow (W.setCell ⟨g, k * 13 + i, none⟩ v) base (some ⟨g, 0, none⟩) c (xs.set k y') := by
  unfold EvRow at h ⊢
  rw [List.length_set, ← flat_set xs k i y y' v hk hi hy]
  exact row_put v h
theorem put_else {W : World} {g j b : Nat} {v : Value} {o : Obj} (h : W.heap[b]? = some o) (hb : b ≠ g) : (W.setCell ⟨g, j, none⟩ v).heap[b]? = some o :=
  (Below.heap_setCell _ _ _ b (fun e => hb e)).trans h
def cur (f : R → R) (xs : List R) (k : Nat) : List R := (xs.take k).map f ++ xs.drop k
end Md
namespace Md
open Ev
theorem EvRow.start {W : World} {base g c k : Nat} {L : List R} {y : R} (hy : L[k]? = some y) (h : EvRow W base (some ⟨g, 0, none⟩) c L) : EvRow W base (some ⟨g, 0, none⟩) c (L.set k y) := by
  have e : L.set k y = L := by
    obtain ⟨hl, he⟩ := List.getElem?_eq_some_iff.1 hy
    rw [← he]; exact List.set_getElem_self hl
  rw [e]; exact h
theorem EvRow.else {W : World} {base b i c : Nat} {a : Option Addr} {L : List R} {v : Value} (h : EvRow W base a c L) (hb : b < base) : EvRow (W.setCell ⟨b, i, none⟩ v) base a c L := by
  refine ⟨h.1, ?_⟩
  rcases h.2 with hn | ⟨g, cap, cur, e, hbg, hg, rest⟩
  · exact .inl hn
  · exact .inr ⟨g, cap, cur, e, hbg, put_else hg (by omega), rest⟩
theorem EvRow.kp {W W' : World} {base c : Nat} {a : Option Addr} {L : List R} (h : EvRow W base a c L) (hb : Below W.heap.size W W') : EvRow W' base a c L := by
  refine ⟨h.1, ?_⟩
  rcases h.2 with hn | ⟨g, cap, cur, e, hbg, hg, rest⟩
  · exact .inl hn
  · exact .inr ⟨g, cap, cur, e, hbg, (hb.block g (Array.getElem?_eq_some_iff.1 hg).1).trans hg, rest⟩
end Md
end Go.Proofs.YtnjnpbabgefaeaaGreat
end

section
namespace Go.Proofs.YtnjnpbabgefaeaaGreat
open Go.RowKit
namespace Md
open Ev
def IntRow (W : World) (base : Nat) (v : Value) (l : List Nat) : Prop := W.ownsRow base 3 1 v l.length ((cI l).map fun n => .int .i64 n)
theorem IntRow.ints {W : World} {base : Nat} {a : Option Addr} {n c : Nat} {l : List Nat} (h : IntRow W base (.slice a n c) l) (hl : ∀ q ∈ l, q ≤ 1000) : IntsIn W ⟨a, c, cI l⟩ := by
  have hb : ∀ v ∈ cI l, i64B v := by
    intro v hv
    obtain ⟨q, hq, rfl⟩ := List.mem_map.1 hv
    have := hl q hq
    unfold i64B; omega
  rcases h.2 with ⟨e, hn⟩ | ⟨g, cap, cur, e, _, hh, hnc, hcm, hcs, ht⟩
  · obtain ⟨rfl, _, rfl⟩ : a = none ∧ n = 0 ∧ c = 0 := by simpa using e
    exact ⟨fun hp => by rw [cI_len] at hp; omega, by rw [cI_len, hn]; exact Nat.zero_le _, Nat.zero_le _, hb⟩
  · obtain ⟨rfl, _, rfl⟩ : a = some ⟨g, 0, none⟩ ∧ n = l.length ∧ c = cap := by simpa using e
    refine ⟨fun _ => ⟨g, 0, rfl, fun j v hv => ?_⟩, by rw [cI_len]; exact hnc, by unfold maxLen at hcm; exact hcm, hb⟩
    have h1 := World.ownsRow.cells (g := g) h rfl j (.int .i64 v) (by rw [List.getElem?_map, hv]; rfl)
    have e2 : (⟨g, 0, none⟩ : Addr).add j = ⟨g, 0 + j, none⟩ := by unfold Addr.add; split <;> simp_all
    rw [e2] at h1; exact h1
end Md
theorem Md.mem_snoc {o : List Nat} {m n : Nat} (h : ∀ a ∈ o, a < n) (hm : m < n) : ∀ q ∈ o ++ [m], q < n := by
  intro q hq
  rcases List.mem_append.1 hq with hq | hq
  · exact h q hq
  · obtain rfl : q = m := by simpa using hq
    exact hm
theorem Md.one_int (m : Nat) : ∀ u ∈ [Value.int .i64 (m : Int)], u.oneCell' = true := by
  intro u hu
  obtain rfl : u = .int .i64 (m : Int) := by simpa using hu
  rfl
theorem Md.at_out (o : List Nat) (a : Nat) : Ev.at_ (Md.cI o) (a : Int) < 0 ↔ a ∉ o := by
  rw [Ev.at_neg]
  constructor
  · intro h hm; exact h (List.mem_map.2 ⟨a, hm, rfl⟩)
  · intro h hm
    obtain ⟨b, hb, e⟩ := List.mem_map.1 hm
    have : b = a := by omega
    exact h (this ▸ hb)
end Go.Proofs.YtnjnpbabgefaeaaGreat
end

section
namespace Go.Proofs.YtnjnpbabgefaeaaGreat
open Go.RowKit
namespace Og
end Og
namespace Md
open Ev
def fl (f : Nat → Bool) (k : Nat) : List Nat := (List.range k).filter f
theorem fl_len (f : Nat → Bool) (k : Nat) : (fl f k).length ≤ k := Nat.le_trans (List.length_filter_le _ _) (by simp)
theorem fl_succ (f : Nat → Bool) (k : Nat) : fl f (k + 1) = fl f k ++ if f k then [k] else [] := by
  unfold fl; rw [List.range_succ, List.filter_append]; cases h : f k <;> simp [h]
theorem fl_yes {f : Nat → Bool} {k : Nat} (h : f k = true) : fl f (k + 1) = fl f k ++ [k] := by rw [fl_succ, h]; rfl
theorem fl_no {f : Nat → Bool} {k : Nat} (h : f k = false) : fl f (k + 1) = fl f k := by rw [fl_succ, h]; simp
theorem IntRow.form {W : World} {base : Nat} {v : Value} {l : List Nat} (h : IntRow W base v l) : ∃ a c, v = .slice a l.length c := by
  rcases h.2 with ⟨e1, e2⟩ | ⟨g, cap, cur, e1, _⟩
  · exact ⟨none, 0, by rw [e1, e2]⟩
  · exact ⟨_, _, e1⟩
theorem fl_row {W : World} {base : Nat} {v : Value} {l : List Nat} {k : Nat} (h : W.ownsRow base 3 1 v (l.length + 1) (((cI l).map fun n => Value.int .i64 n) ++ [.int .i64 (k : Int)])) : IntRow W base v (l ++ [k]) := by
  unfold IntRow
  simpa [cI] using h
end Md
end Go.Proofs.YtnjnpbabgefaeaaGreat
end
