/-
  A step in memory: what a method leaves, and what it lets alone; the methods that branch and reach memory.
-/
import Derived.Test.YtianojbdabeoeaaGreatDoorHtStep
namespace Go.Proofs.YtianojbdabeoeaaGreatDoor
open Go.RowKit
set_option linter.unusedVariables false
namespace Ht
/-- of what stood there nothing but block p has turned, and that is a row as long as it was -/
structure Oth (p : Nat) (w w' : World) : Prop where
  os : w'.os = w.os
  tape : w'.tape = w.tape
  output : w'.output = w.output
  size : w.heap.size ≤ w'.heap.size
  block : ∀ k, k < w.heap.size → k ≠ p → w'.heap[k]? = w.heap[k]?
  row : ∀ cs t, w.heap[p]? = some (.cells cs t (0, 0)) → ∃ cs' : Array Value, cs'.size = cs.size ∧ w'.heap[p]? = some (.cells cs' t (0, 0))
theorem Oth.refl (p : Nat) (w : World) : Oth p w w := ⟨rfl, rfl, rfl, Nat.le_refl _, fun _ _ _ => rfl, fun cs _ h => ⟨cs, rfl, h⟩⟩
theorem Oth.trans {p : Nat} {a b c : World} (h : Oth p a b) (k : Oth p b c) : Oth p a c :=
  ⟨k.os.trans h.os, k.tape.trans h.tape, k.output.trans h.output, Nat.le_trans h.size k.size, fun i hi hp => (k.block i (Nat.lt_of_lt_of_le hi h.size) hp).trans (h.block i hi hp),
    fun cs t h0 => let ⟨cs1, e1, h1⟩ := h.row cs t h0; let ⟨cs2, e2, h2⟩ := k.row cs1 t h1; ⟨cs2, e2.trans e1, h2⟩⟩
theorem Oth.drewN {p : Nat} {a w : World} (h : Oth p a w) (n : Nat) : Oth p a (w.drewN n) := ⟨h.os, h.tape, h.output, h.size, h.block, h.row⟩
theorem Oth.setCell {p : Nat} {a w : World} (h : Oth p a w) (j : Nat) (v : Value) : Oth p a (w.setCell ⟨p, j, none⟩ v) :=
  h.trans ⟨rfl, rfl, rfl, by simp [World.setCell], fun k _ hk => Below.heap_setCell _ _ _ _ hk, fun cs t h0 => ⟨cs.setIfInBounds j v, by simp, heap_setCell_same w p j cs t v h0⟩⟩
theorem Oth.of_below {p : Nat} {w w' : World} (h : Below w.heap.size w w') : Oth p w w' :=
  ⟨h.os, h.tape, h.output, h.size, fun k hk _ => h.block k hk, fun cs t h0 => ⟨cs, rfl, (h.block p (Array.getElem?_eq_some_iff.1 h0).1).trans h0⟩⟩
theorem Oth.below {p B : Nat} {w w' : World} (h : Oth p w w') (h1 : B ≤ p) (h2 : B ≤ w.heap.size) : Below B w w' := ⟨h.os, h.tape, h.output, h.size, fun k hk => h.block k (by omega) (by omega)⟩
theorem Stp.below {w w' : World} {p : Nat} {s : S} (h : Stp w p s) (hb : Below w.heap.size w w') : Stp w' p s := (hb.block p h.lt).trans h
theorem bdrewN (w : World) (n : Nat) : Below w.heap.size w (w.drewN n) := ⟨rfl, rfl, rfl, Nat.le_refl _, fun _ _ => rfl⟩
/-- what is left behind a method: the step, and all else -/
def Lv (p : Nat) (w w' : World) (s : S) : Prop := Stp w' p s ∧ Oth p w w'
theorem Lv.trans {p : Nat} {a b c : World} {s s' : S} (h : Lv p a b s) (k : Lv p b c s') : Lv p a c s' := ⟨k.1, h.2.trans k.2⟩
theorem Lv.same {p : Nat} {w : World} {s : S} (h : Stp w p s) : Lv p w w s := ⟨h, Oth.refl _ _⟩
theorem Lv.below {p : Nat} {a w w' : World} {s : S} (h : Lv p a w s) (hb : Below w.heap.size w w') : Lv p a w' s := ⟨h.1.below hb, h.2.trans (Oth.of_below hb)⟩
/-- a cause leaves by panic -/
def Halts (c : Int) (p : Nat) (w : World) (e : Ending) (w' : World) : Prop := e = .panicked [{ v := .iface 24 (.int .i64 c), recovered := false }] ∧ Oth p w w'
/-- an access, stored part by part -/
theorem set_access {W : World} {p : Nat} {s : S} (h : Stp W p s) (a : A) :
    Lv p W ((((((((W.drewN 1).setCell ⟨p, 45, none⟩ (.int .i64 a.kind)).setCell ⟨p, 46, none⟩ (.int .u32 a.addr)).setCell ⟨p, 47, none⟩ (.int .i64 a.width)).setCell ⟨p, 48, none⟩ (.int .u32 a.value)).setCell ⟨p, 49, none⟩ (.int .i64 a.op)).setCell ⟨p, 50, none⟩ (.bool a.aq)).setCell ⟨p, 51, none⟩ (.bool a.rl)) { s with a := a } :=
  have h0 : Stp (W.drewN 1) p s := h.drewN 1
  have h1 := h0.setCell (s' := { s with a := { s.a with kind := a.kind } }) 45 (.int .i64 a.kind) rfl
  have h2 := h1.setCell (s' := { s with a := { s.a with kind := a.kind, addr := a.addr } }) 46 (.int .u32 a.addr) rfl
  have h3 := h2.setCell (s' := { s with a := { s.a with kind := a.kind, addr := a.addr, width := a.width } }) 47 (.int .i64 a.width) rfl
  have h4 := h3.setCell (s' := { s with a := { s.a with kind := a.kind, addr := a.addr, width := a.width, value := a.value } }) 48 (.int .u32 a.value) rfl
  have h5 := h4.setCell (s' := { s with a := { s.a with kind := a.kind, addr := a.addr, width := a.width, value := a.value, op := a.op } }) 49 (.int .i64 a.op) rfl
  have h6 := h5.setCell (s' := { s with a := { s.a with kind := a.kind, addr := a.addr, width := a.width, value := a.value, op := a.op, aq := a.aq } }) 50 (.bool a.aq) rfl
  have h7 := h6.setCell (s' := { s with a := a }) 51 (.bool a.rl) rfl
  ⟨h7, (((((((((Oth.refl p W).drewN 1).setCell _ _).setCell _ _).setCell _ _).setCell _ _).setCell _ _).setCell _ _).setCell _ _)⟩
theorem wrap_add (a b : Int) : IntKind.u32.wrap (a + b) = Ar.add a b := by rw [IntKind.wrap_u32]; rfl
end Ht
open Ht
theorem first_s (s : S) (p : Nat) (w : World) (hs : Stp w p s) (h1 : s.i.rs1 ≤ 31) :
    Calls Tryz.prog 110 #[.pointer (some ⟨p, 0, none⟩)] w fun e w' => e = .returned (.int .u32 s.first) ∧ Lv p w w' s :=
  (first_any s p w hs h1).mono fun e w' ⟨he, n, hw⟩ => ⟨he, by rw [hw]; exact ⟨hs.drewN n, (Oth.refl _ _).drewN n⟩⟩
theorem second_s (s : S) (p : Nat) (w : World) (hs : Stp w p s) (h1 : s.i.rs2 ≤ 31) :
    Calls Tryz.prog 113 #[.pointer (some ⟨p, 0, none⟩)] w fun e w' => e = .returned (.int .u32 s.second) ∧ Lv p w w' s :=
  (second_any s p w hs h1).mono fun e w' ⟨he, n, hw⟩ => ⟨he, by rw [hw]; exact ⟨hs.drewN n, (Oth.refl _ _).drewN n⟩⟩
theorem put_s (s : S) (n : Int) (p : Nat) (w : World) (hs : Stp w p s) (h1 : s.i.rd ≤ 31) :
    Calls Tryz.prog 108 #[.pointer (some ⟨p, 0, none⟩), .int .u32 n] w fun e w' => e = .returned (.tuple #[]) ∧ Lv p w w' (s.put n) := by
  by_cases h0 : s.i.rd = 0
  · refine (put_zero s n p w hs h0).mono fun e w' ⟨he, hw⟩ => ⟨he, ?_⟩
    rw [hw, show s.put n = s by unfold S.put Ht.put; rw [if_pos h0]]
    exact Lv.same hs
  · refine (put_some s n p w hs h0 h1).mono fun e w' ⟨he, m, hw⟩ => ⟨he, ?_⟩
    rw [hw]
    exact ⟨(hs.setCell _ _ (scells_put s n h0 h1)).drewN m, ((Oth.refl _ _).setCell _ _).drewN m⟩
theorem jump_s (s : S) (n : Int) (p : Nat) (w : World) (hs : Stp w p s) (hn : Ar.Wd n) (h : n % 4 = 0) :
    Calls Tryz.prog 107 #[.pointer (some ⟨p, 0, none⟩), .int .u32 n] w fun e w' => e = .returned (.tuple #[]) ∧ Lv p w w' { s with next := n } :=
  (jump_ok s n p w hs hn h).mono fun e w' ⟨he, hw⟩ => ⟨he, by rw [hw]; exact ⟨hs.setCell _ _ (by rfl), (Oth.refl _ _).setCell _ _⟩⟩
theorem jump_h (n : Int) (p : Nat) (w : World) (hn : Ar.Wd n) (h : n % 4 ≠ 0) :
    Calls Tryz.prog 107 #[.pointer (some ⟨p, 0, none⟩), .int .u32 n] w fun e w' => Halts 3 p w e w' :=
  (jump_bad n p w hn h).mono fun e w' ⟨he, hw⟩ => ⟨he, by rw [hw]; exact Oth.refl _ _⟩
set_option maxRecDepth 100000 in
theorem branch_ok (s : S) (p : Nat) (w : World) (hs : Stp w p s) (h : Ar.add s.h.pc s.i.imm % 4 = 0) :
    Calls Tryz.prog 112 #[.pointer (some ⟨p, 0, none⟩), .bool true] w fun e w' => e = .returned (.tuple #[]) ∧ Lv p w w' { s with next := Ar.add s.h.pc s.i.imm } := by
  have c1 : w.cell? ⟨p, 1, none⟩ = some (.int .u32 s.h.pc) := hs.cell 1
  have c2 : w.cell? ⟨p, 39, none⟩ = some (.int .u32 s.i.imm) := hs.cell 39
  have HS := Lib.hid hs; have HH := Lib.hid h; clear hs h
  go_enter Tryz.func112, Tryz.ntmps112
  go_wp2
  go_still_tail 12, (by kernel_rfl)
  change wpList _ _ _ _ _ (w.drewN 1)
  rw [wrap_add]
  clear c1 c2
  go_wp2_with fail
  refine (jump_s s _ p _ (HS.out.drewN 1) (Ar.md_wd _) HH.out).mono ?_
  rintro e w1 ⟨rfl, hl⟩
  have HL := Lib.hid hl; clear hl
  go_wp2
  go_end0
  exact ⟨rfl, Lv.trans ⟨HS.out.drewN 1, (Oth.refl _ _).drewN 1⟩ HL.out⟩
set_option maxRecDepth 100000 in
theorem branch_bad (s : S) (p : Nat) (w : World) (hs : Stp w p s) (h : Ar.add s.h.pc s.i.imm % 4 ≠ 0) :
    Calls Tryz.prog 112 #[.pointer (some ⟨p, 0, none⟩), .bool true] w fun e w' => Halts 3 p w e w' := by
  have c1 : w.cell? ⟨p, 1, none⟩ = some (.int .u32 s.h.pc) := hs.cell 1
  have c2 : w.cell? ⟨p, 39, none⟩ = some (.int .u32 s.i.imm) := hs.cell 39
  have HS := Lib.hid hs; have HH := Lib.hid h; clear hs h
  go_enter Tryz.func112, Tryz.ntmps112
  go_wp2
  go_still_tail 12, (by kernel_rfl)
  change wpList _ _ _ _ _ (w.drewN 1)
  rw [wrap_add]
  clear c1 c2
  go_wp2_with fail
  refine (jump_h _ p _ (Ar.md_wd _) HH.out).mono ?_
  rintro e w1 ⟨rfl, ho⟩
  have HO := Lib.hid ho; clear ho
  go_wp2
  exact ⟨rfl, rfl, ((Oth.refl p w).drewN 1).trans HO.out⟩
set_option maxRecDepth 100000 in
set_option maxHeartbeats 1000000 in
theorem reach_s1 (s : S) (kd : Int) (p : Nat) (w : World) (hs : Stp w p s) (h1 : s.i.rs1 ≤ 31) (hz : -9223372036854775808 ≤ s.size ∧ s.size ≤ 9223372036854775807)
    (ha : Ar.add s.first s.i.imm % 1 = 0) (hb : Ar.add s.first s.i.imm + 1 ≤ s.size) :
    Calls Tryz.prog 178 #[.pointer (some ⟨p, 0, none⟩), .int .i64 kd, .int .i64 1] w fun e w' => e = .returned (.tuple #[]) ∧
      Lv p w w' { s with a := ⟨kd, Ar.add s.first s.i.imm, 1, 0, 0, s.i.aq, s.i.rl⟩ } := by
  have c2 : w.cell? ⟨p, 39, none⟩ = some (.int .u32 s.i.imm) := hs.cell 39
  have c3 : w.cell? ⟨p, 42, none⟩ = some (.int .i64 s.size) := hs.cell 42
  have c4 : w.cell? ⟨p, 40, none⟩ = some (.bool s.i.aq) := hs.cell 40
  have c5 : w.cell? ⟨p, 41, none⟩ = some (.bool s.i.rl) := hs.cell 41
  have hw := Ar.md_wd (s.first + s.i.imm)
  have hadd : Ar.add s.first s.i.imm = Ar.md (s.first + s.i.imm) := rfl
  rw [hadd] at ha hb ⊢
  generalize Ar.md (s.first + s.i.imm) = ad at ha hb hw hadd ⊢
  unfold Ar.Wd at hw
  have HS := Lib.hid hs; have HAD := Lib.hid hadd; clear hs hadd
  go_enter Tryz.func178, Tryz.ntmps178
  go_wp2
  go_quiet ((go_at_call 110; exact Calls.quiet_of (first_any s p _ (HS.out.drewN _) h1)))
  rw [show (s.first + s.i.imm) % 4294967296 = ad from HAD.out]
  have HW := Lib.hid (show Lv p w (w.drewN nq) s from ⟨HS.out.drewN _, (Oth.refl _ _).drewN _⟩)
  clear c2 c3 c4 c5
  generalize w.drewN nq = W at HW ⊢
  have c3 : W.cell? ⟨p, 42, none⟩ = some (.int .i64 s.size) := HW.out.1.cell 42
  have c4 : W.cell? ⟨p, 40, none⟩ = some (.bool s.i.aq) := HW.out.1.cell 40
  have c5 : W.cell? ⟨p, 41, none⟩ = some (.bool s.i.rl) := HW.out.1.cell 41
  have d0 : W.cell? ⟨p, 45, none⟩ = some (.int .i64 s.a.kind) := HW.out.1.cell 45
  have d1 : W.cell? ⟨p, 46, none⟩ = some (.int .u32 s.a.addr) := HW.out.1.cell 46
  have d2 : W.cell? ⟨p, 47, none⟩ = some (.int .i64 s.a.width) := HW.out.1.cell 47
  have d3 : W.cell? ⟨p, 48, none⟩ = some (.int .u32 s.a.value) := HW.out.1.cell 48
  have d4 : W.cell? ⟨p, 49, none⟩ = some (.int .i64 s.a.op) := HW.out.1.cell 49
  have d5 : W.cell? ⟨p, 50, none⟩ = some (.bool s.a.aq) := HW.out.1.cell 50
  have d6 : W.cell? ⟨p, 51, none⟩ = some (.bool s.a.rl) := HW.out.1.cell 51
  have z0 := HW.out.1.free 45
  have z1 := HW.out.1.free 46
  have z2 := HW.out.1.free 47
  have z3 := HW.out.1.free 48
  have z4 := HW.out.1.free 49
  have z5 := HW.out.1.free 50
  have z6 := HW.out.1.free 51
  go_wp2
  go_still_tail 17, (by kernel_rfl)
  change wpList _ _ _ _ _ (W.drewN 1)
  go_wp2
  go_end0
  exact ⟨rfl, HW.out.trans (set_access HW.out.1 ⟨_, _, _, _, _, _, _⟩)⟩
set_option maxRecDepth 100000 in
set_option maxHeartbeats 1000000 in
theorem reach_h41 (s : S) (kd : Int) (p : Nat) (w : World) (hs : Stp w p s) (h1 : s.i.rs1 ≤ 31) (hz : -9223372036854775808 ≤ s.size ∧ s.size ≤ 9223372036854775807)
    (ha : Ar.add s.first s.i.imm % 1 = 0) (hb : s.size < Ar.add s.first s.i.imm + 1) :
    Calls Tryz.prog 178 #[.pointer (some ⟨p, 0, none⟩), .int .i64 kd, .int .i64 1] w fun e w' => Halts 4 p w e w' := by
  have c2 : w.cell? ⟨p, 39, none⟩ = some (.int .u32 s.i.imm) := hs.cell 39
  have c3 : w.cell? ⟨p, 42, none⟩ = some (.int .i64 s.size) := hs.cell 42
  have c4 : w.cell? ⟨p, 40, none⟩ = some (.bool s.i.aq) := hs.cell 40
  have c5 : w.cell? ⟨p, 41, none⟩ = some (.bool s.i.rl) := hs.cell 41
  have hw := Ar.md_wd (s.first + s.i.imm)
  have hadd : Ar.add s.first s.i.imm = Ar.md (s.first + s.i.imm) := rfl
  rw [hadd] at ha hb
  generalize Ar.md (s.first + s.i.imm) = ad at ha hb hw hadd
  unfold Ar.Wd at hw
  have HS := Lib.hid hs; have HAD := Lib.hid hadd; clear hs hadd
  go_enter Tryz.func178, Tryz.ntmps178
  go_wp2
  go_quiet ((go_at_call 110; exact Calls.quiet_of (first_any s p _ (HS.out.drewN _) h1)))
  rw [show (s.first + s.i.imm) % 4294967296 = ad from HAD.out]
  have HW := Lib.hid (show Lv p w (w.drewN nq) s from ⟨HS.out.drewN _, (Oth.refl _ _).drewN _⟩)
  clear c2 c3 c4 c5
  generalize w.drewN nq = W at HW ⊢
  have c3 : W.cell? ⟨p, 42, none⟩ = some (.int .i64 s.size) := HW.out.1.cell 42
  go_wp2
  exact ⟨rfl, rfl, HW.out.2⟩
set_option maxRecDepth 100000 in
set_option maxHeartbeats 1000000 in
theorem reach_s2 (s : S) (kd : Int) (p : Nat) (w : World) (hs : Stp w p s) (h1 : s.i.rs1 ≤ 31) (hz : -9223372036854775808 ≤ s.size ∧ s.size ≤ 9223372036854775807)
    (ha : Ar.add s.first s.i.imm % 2 = 0) (hb : Ar.add s.first s.i.imm + 2 ≤ s.size) :
    Calls Tryz.prog 178 #[.pointer (some ⟨p, 0, none⟩), .int .i64 kd, .int .i64 2] w fun e w' => e = .returned (.tuple #[]) ∧
      Lv p w w' { s with a := ⟨kd, Ar.add s.first s.i.imm, 2, 0, 0, s.i.aq, s.i.rl⟩ } := by
  have c2 : w.cell? ⟨p, 39, none⟩ = some (.int .u32 s.i.imm) := hs.cell 39
  have c3 : w.cell? ⟨p, 42, none⟩ = some (.int .i64 s.size) := hs.cell 42
  have c4 : w.cell? ⟨p, 40, none⟩ = some (.bool s.i.aq) := hs.cell 40
  have c5 : w.cell? ⟨p, 41, none⟩ = some (.bool s.i.rl) := hs.cell 41
  have hw := Ar.md_wd (s.first + s.i.imm)
  have hadd : Ar.add s.first s.i.imm = Ar.md (s.first + s.i.imm) := rfl
  rw [hadd] at ha hb ⊢
  generalize Ar.md (s.first + s.i.imm) = ad at ha hb hw hadd ⊢
  unfold Ar.Wd at hw
  have HS := Lib.hid hs; have HAD := Lib.hid hadd; clear hs hadd
  go_enter Tryz.func178, Tryz.ntmps178
  go_wp2
  go_quiet ((go_at_call 110; exact Calls.quiet_of (first_any s p _ (HS.out.drewN _) h1)))
  rw [show (s.first + s.i.imm) % 4294967296 = ad from HAD.out]
  have HW := Lib.hid (show Lv p w (w.drewN nq) s from ⟨HS.out.drewN _, (Oth.refl _ _).drewN _⟩)
  clear c2 c3 c4 c5
  generalize w.drewN nq = W at HW ⊢
  have c3 : W.cell? ⟨p, 42, none⟩ = some (.int .i64 s.size) := HW.out.1.cell 42
  have c4 : W.cell? ⟨p, 40, none⟩ = some (.bool s.i.aq) := HW.out.1.cell 40
  have c5 : W.cell? ⟨p, 41, none⟩ = some (.bool s.i.rl) := HW.out.1.cell 41
  have d0 : W.cell? ⟨p, 45, none⟩ = some (.int .i64 s.a.kind) := HW.out.1.cell 45
  have d1 : W.cell? ⟨p, 46, none⟩ = some (.int .u32 s.a.addr) := HW.out.1.cell 46
  have d2 : W.cell? ⟨p, 47, none⟩ = some (.int .i64 s.a.width) := HW.out.1.cell 47
  have d3 : W.cell? ⟨p, 48, none⟩ = some (.int .u32 s.a.value) := HW.out.1.cell 48
  have d4 : W.cell? ⟨p, 49, none⟩ = some (.int .i64 s.a.op) := HW.out.1.cell 49
  have d5 : W.cell? ⟨p, 50, none⟩ = some (.bool s.a.aq) := HW.out.1.cell 50
  have d6 : W.cell? ⟨p, 51, none⟩ = some (.bool s.a.rl) := HW.out.1.cell 51
  have z0 := HW.out.1.free 45
  have z1 := HW.out.1.free 46
  have z2 := HW.out.1.free 47
  have z3 := HW.out.1.free 48
  have z4 := HW.out.1.free 49
  have z5 := HW.out.1.free 50
  have z6 := HW.out.1.free 51
  go_wp2
  go_still_tail 17, (by kernel_rfl)
  change wpList _ _ _ _ _ (W.drewN 1)
  go_wp2
  go_end0
  exact ⟨rfl, HW.out.trans (set_access HW.out.1 ⟨_, _, _, _, _, _, _⟩)⟩
set_option maxRecDepth 100000 in
set_option maxHeartbeats 1000000 in
theorem reach_h32 (s : S) (kd : Int) (p : Nat) (w : World) (hs : Stp w p s) (h1 : s.i.rs1 ≤ 31) (hz : -9223372036854775808 ≤ s.size ∧ s.size ≤ 9223372036854775807)
    (ha : Ar.add s.first s.i.imm % 2 ≠ 0) :
    Calls Tryz.prog 178 #[.pointer (some ⟨p, 0, none⟩), .int .i64 kd, .int .i64 2] w fun e w' => Halts 3 p w e w' := by
  have c2 : w.cell? ⟨p, 39, none⟩ = some (.int .u32 s.i.imm) := hs.cell 39
  have c3 : w.cell? ⟨p, 42, none⟩ = some (.int .i64 s.size) := hs.cell 42
  have c4 : w.cell? ⟨p, 40, none⟩ = some (.bool s.i.aq) := hs.cell 40
  have c5 : w.cell? ⟨p, 41, none⟩ = some (.bool s.i.rl) := hs.cell 41
  have hw := Ar.md_wd (s.first + s.i.imm)
  have hadd : Ar.add s.first s.i.imm = Ar.md (s.first + s.i.imm) := rfl
  rw [hadd] at ha
  generalize Ar.md (s.first + s.i.imm) = ad at ha hw hadd
  unfold Ar.Wd at hw
  have HS := Lib.hid hs; have HAD := Lib.hid hadd; clear hs hadd
  go_enter Tryz.func178, Tryz.ntmps178
  go_wp2
  go_quiet ((go_at_call 110; exact Calls.quiet_of (first_any s p _ (HS.out.drewN _) h1)))
  rw [show (s.first + s.i.imm) % 4294967296 = ad from HAD.out]
  have HW := Lib.hid (show Lv p w (w.drewN nq) s from ⟨HS.out.drewN _, (Oth.refl _ _).drewN _⟩)
  clear c2 c3 c4 c5
  generalize w.drewN nq = W at HW ⊢
  have c3 : W.cell? ⟨p, 42, none⟩ = some (.int .i64 s.size) := HW.out.1.cell 42
  go_wp2
  exact ⟨rfl, rfl, HW.out.2⟩
set_option maxRecDepth 100000 in
set_option maxHeartbeats 1000000 in
theorem reach_h42 (s : S) (kd : Int) (p : Nat) (w : World) (hs : Stp w p s) (h1 : s.i.rs1 ≤ 31) (hz : -9223372036854775808 ≤ s.size ∧ s.size ≤ 9223372036854775807)
    (ha : Ar.add s.first s.i.imm % 2 = 0) (hb : s.size < Ar.add s.first s.i.imm + 2) :
    Calls Tryz.prog 178 #[.pointer (some ⟨p, 0, none⟩), .int .i64 kd, .int .i64 2] w fun e w' => Halts 4 p w e w' := by
  have c2 : w.cell? ⟨p, 39, none⟩ = some (.int .u32 s.i.imm) := hs.cell 39
  have c3 : w.cell? ⟨p, 42, none⟩ = some (.int .i64 s.size) := hs.cell 42
  have c4 : w.cell? ⟨p, 40, none⟩ = some (.bool s.i.aq) := hs.cell 40
  have c5 : w.cell? ⟨p, 41, none⟩ = some (.bool s.i.rl) := hs.cell 41
  have hw := Ar.md_wd (s.first + s.i.imm)
  have hadd : Ar.add s.first s.i.imm = Ar.md (s.first + s.i.imm) := rfl
  rw [hadd] at ha hb
  generalize Ar.md (s.first + s.i.imm) = ad at ha hb hw hadd
  unfold Ar.Wd at hw
  have HS := Lib.hid hs; have HAD := Lib.hid hadd; clear hs hadd
  go_enter Tryz.func178, Tryz.ntmps178
  go_wp2
  go_quiet ((go_at_call 110; exact Calls.quiet_of (first_any s p _ (HS.out.drewN _) h1)))
  rw [show (s.first + s.i.imm) % 4294967296 = ad from HAD.out]
  have HW := Lib.hid (show Lv p w (w.drewN nq) s from ⟨HS.out.drewN _, (Oth.refl _ _).drewN _⟩)
  clear c2 c3 c4 c5
  generalize w.drewN nq = W at HW ⊢
  have c3 : W.cell? ⟨p, 42, none⟩ = some (.int .i64 s.size) := HW.out.1.cell 42
  go_wp2
  exact ⟨rfl, rfl, HW.out.2⟩
set_option maxRecDepth 100000 in
set_option maxHeartbeats 1000000 in
theorem reach_s4 (s : S) (kd : Int) (p : Nat) (w : World) (hs : Stp w p s) (h1 : s.i.rs1 ≤ 31) (hz : -9223372036854775808 ≤ s.size ∧ s.size ≤ 9223372036854775807)
    (ha : Ar.add s.first s.i.imm % 4 = 0) (hb : Ar.add s.first s.i.imm + 4 ≤ s.size) :
    Calls Tryz.prog 178 #[.pointer (some ⟨p, 0, none⟩), .int .i64 kd, .int .i64 4] w fun e w' => e = .returned (.tuple #[]) ∧
      Lv p w w' { s with a := ⟨kd, Ar.add s.first s.i.imm, 4, 0, 0, s.i.aq, s.i.rl⟩ } := by
  have c2 : w.cell? ⟨p, 39, none⟩ = some (.int .u32 s.i.imm) := hs.cell 39
  have c3 : w.cell? ⟨p, 42, none⟩ = some (.int .i64 s.size) := hs.cell 42
  have c4 : w.cell? ⟨p, 40, none⟩ = some (.bool s.i.aq) := hs.cell 40
  have c5 : w.cell? ⟨p, 41, none⟩ = some (.bool s.i.rl) := hs.cell 41
  have hw := Ar.md_wd (s.first + s.i.imm)
  have hadd : Ar.add s.first s.i.imm = Ar.md (s.first + s.i.imm) := rfl
  rw [hadd] at ha hb ⊢
  generalize Ar.md (s.first + s.i.imm) = ad at ha hb hw hadd ⊢
  unfold Ar.Wd at hw
  have HS := Lib.hid hs; have HAD := Lib.hid hadd; clear hs hadd
  go_enter Tryz.func178, Tryz.ntmps178
  go_wp2
  go_quiet ((go_at_call 110; exact Calls.quiet_of (first_any s p _ (HS.out.drewN _) h1)))
  rw [show (s.first + s.i.imm) % 4294967296 = ad from HAD.out]
  have HW := Lib.hid (show Lv p w (w.drewN nq) s from ⟨HS.out.drewN _, (Oth.refl _ _).drewN _⟩)
  clear c2 c3 c4 c5
  generalize w.drewN nq = W at HW ⊢
  have c3 : W.cell? ⟨p, 42, none⟩ = some (.int .i64 s.size) := HW.out.1.cell 42
  have c4 : W.cell? ⟨p, 40, none⟩ = some (.bool s.i.aq) := HW.out.1.cell 40
  have c5 : W.cell? ⟨p, 41, none⟩ = some (.bool s.i.rl) := HW.out.1.cell 41
  have d0 : W.cell? ⟨p, 45, none⟩ = some (.int .i64 s.a.kind) := HW.out.1.cell 45
  have d1 : W.cell? ⟨p, 46, none⟩ = some (.int .u32 s.a.addr) := HW.out.1.cell 46
  have d2 : W.cell? ⟨p, 47, none⟩ = some (.int .i64 s.a.width) := HW.out.1.cell 47
  have d3 : W.cell? ⟨p, 48, none⟩ = some (.int .u32 s.a.value) := HW.out.1.cell 48
  have d4 : W.cell? ⟨p, 49, none⟩ = some (.int .i64 s.a.op) := HW.out.1.cell 49
  have d5 : W.cell? ⟨p, 50, none⟩ = some (.bool s.a.aq) := HW.out.1.cell 50
  have d6 : W.cell? ⟨p, 51, none⟩ = some (.bool s.a.rl) := HW.out.1.cell 51
  have z0 := HW.out.1.free 45
  have z1 := HW.out.1.free 46
  have z2 := HW.out.1.free 47
  have z3 := HW.out.1.free 48
  have z4 := HW.out.1.free 49
  have z5 := HW.out.1.free 50
  have z6 := HW.out.1.free 51
  go_wp2
  go_still_tail 17, (by kernel_rfl)
  change wpList _ _ _ _ _ (W.drewN 1)
  go_wp2
  go_end0
  exact ⟨rfl, HW.out.trans (set_access HW.out.1 ⟨_, _, _, _, _, _, _⟩)⟩
set_option maxRecDepth 100000 in
set_option maxHeartbeats 1000000 in
theorem reach_h34 (s : S) (kd : Int) (p : Nat) (w : World) (hs : Stp w p s) (h1 : s.i.rs1 ≤ 31) (hz : -9223372036854775808 ≤ s.size ∧ s.size ≤ 9223372036854775807)
    (ha : Ar.add s.first s.i.imm % 4 ≠ 0) :
    Calls Tryz.prog 178 #[.pointer (some ⟨p, 0, none⟩), .int .i64 kd, .int .i64 4] w fun e w' => Halts 3 p w e w' := by
  have c2 : w.cell? ⟨p, 39, none⟩ = some (.int .u32 s.i.imm) := hs.cell 39
  have c3 : w.cell? ⟨p, 42, none⟩ = some (.int .i64 s.size) := hs.cell 42
  have c4 : w.cell? ⟨p, 40, none⟩ = some (.bool s.i.aq) := hs.cell 40
  have c5 : w.cell? ⟨p, 41, none⟩ = some (.bool s.i.rl) := hs.cell 41
  have hw := Ar.md_wd (s.first + s.i.imm)
  have hadd : Ar.add s.first s.i.imm = Ar.md (s.first + s.i.imm) := rfl
  rw [hadd] at ha
  generalize Ar.md (s.first + s.i.imm) = ad at ha hw hadd
  unfold Ar.Wd at hw
  have HS := Lib.hid hs; have HAD := Lib.hid hadd; clear hs hadd
  go_enter Tryz.func178, Tryz.ntmps178
  go_wp2
  go_quiet ((go_at_call 110; exact Calls.quiet_of (first_any s p _ (HS.out.drewN _) h1)))
  rw [show (s.first + s.i.imm) % 4294967296 = ad from HAD.out]
  have HW := Lib.hid (show Lv p w (w.drewN nq) s from ⟨HS.out.drewN _, (Oth.refl _ _).drewN _⟩)
  clear c2 c3 c4 c5
  generalize w.drewN nq = W at HW ⊢
  have c3 : W.cell? ⟨p, 42, none⟩ = some (.int .i64 s.size) := HW.out.1.cell 42
  go_wp2
  exact ⟨rfl, rfl, HW.out.2⟩
set_option maxRecDepth 100000 in
set_option maxHeartbeats 1000000 in
theorem reach_h44 (s : S) (kd : Int) (p : Nat) (w : World) (hs : Stp w p s) (h1 : s.i.rs1 ≤ 31) (hz : -9223372036854775808 ≤ s.size ∧ s.size ≤ 9223372036854775807)
    (ha : Ar.add s.first s.i.imm % 4 = 0) (hb : s.size < Ar.add s.first s.i.imm + 4) :
    Calls Tryz.prog 178 #[.pointer (some ⟨p, 0, none⟩), .int .i64 kd, .int .i64 4] w fun e w' => Halts 4 p w e w' := by
  have c2 : w.cell? ⟨p, 39, none⟩ = some (.int .u32 s.i.imm) := hs.cell 39
  have c3 : w.cell? ⟨p, 42, none⟩ = some (.int .i64 s.size) := hs.cell 42
  have c4 : w.cell? ⟨p, 40, none⟩ = some (.bool s.i.aq) := hs.cell 40
  have c5 : w.cell? ⟨p, 41, none⟩ = some (.bool s.i.rl) := hs.cell 41
  have hw := Ar.md_wd (s.first + s.i.imm)
  have hadd : Ar.add s.first s.i.imm = Ar.md (s.first + s.i.imm) := rfl
  rw [hadd] at ha hb
  generalize Ar.md (s.first + s.i.imm) = ad at ha hb hw hadd
  unfold Ar.Wd at hw
  have HS := Lib.hid hs; have HAD := Lib.hid hadd; clear hs hadd
  go_enter Tryz.func178, Tryz.ntmps178
  go_wp2
  go_quiet ((go_at_call 110; exact Calls.quiet_of (first_any s p _ (HS.out.drewN _) h1)))
  rw [show (s.first + s.i.imm) % 4294967296 = ad from HAD.out]
  have HW := Lib.hid (show Lv p w (w.drewN nq) s from ⟨HS.out.drewN _, (Oth.refl _ _).drewN _⟩)
  clear c2 c3 c4 c5
  generalize w.drewN nq = W at HW ⊢
  have c3 : W.cell? ⟨p, 42, none⟩ = some (.int .i64 s.size) := HW.out.1.cell 42
  go_wp2
  exact ⟨rfl, rfl, HW.out.2⟩
end Go.Proofs.YtianojbdabeoeaaGreatDoor
