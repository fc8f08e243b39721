/-
  The contract of Find.
-/
import Derived.Test.YtifniogldinbdaaLnSeek
namespace Go.Proofs.Ytifniogldinbdaa
open Go.RowKit
set_option linter.unusedVariables false
set_option linter.unusedSimpArgs false
namespace Ln
/-- the line of a number in a list -/
def fd (l : List E) (n : Int) : Option E := l.find? (fun e => e.n == n)
theorem fd_none {l : List E} {n : Int} (h : ix l n 0 < 0) : fd l n = none := by
  unfold fd
  rw [List.find?_eq_none]
  intro e he
  have := (ix_none h).2 e he
  simpa using this
theorem fd_at {l : List E} {n : Int} (h : 0 ≤ ix l n 0) : ∃ (i : Nat) (e : E), ix l n 0 = (i : Int) ∧ l[i]? = some e ∧ fd l n = some e ∧ e.n = n := by
  obtain ⟨i, e, h1, h2, h3, h4⟩ := ix_some h
  refine ⟨i, e, by rw [h1]; congr 1; omega, h2, ?_, h3⟩
  unfold fd
  clear h h1
  induction l generalizing i with
  | nil => cases h2
  | cons x l ih =>
    cases i with
    | zero =>
      obtain rfl : x = e := by simpa using h2
      rw [List.find?_cons_of_pos (by simpa using h3)]
    | succ i =>
      have hx := h4 0 x (by omega) rfl
      rw [List.find?_cons_of_neg (by simpa using hx)]
      exact ih i (by simpa using h2) (fun j y hj hy => h4 (j + 1) y (by omega) (by simpa using hy))
/-- the set of a number -/
def rowQ (Q : List (List E)) (n : Int) : List E := Q.getD (n.toNat % Q.length) []
theorem Cin.at_ {w F p g ways S} (h : Cin w F p g ways S) (n : Int) : ∃ (i : Nat) (r : RW), n.toNat % S.length = i ∧ S[i]? = some r ∧ rowQ (S.map (·.l)) n = r.l := by
  have hl := Nat.mod_lt n.toNat h.pos
  refine ⟨_, S[n.toNat % S.length], rfl, List.getElem?_eq_getElem hl, ?_⟩
  unfold rowQ
  rw [List.length_map, List.getD_eq_getElem?_getD, List.getElem?_map, List.getElem?_eq_getElem hl]
  rfl
theorem res2 {P : Program} {fn : Func} {p u : Tmp} {ty : TypeId} (h : fn.results = #[.cell p ty, .tmp u]) (tmps : Array Value) (w : World) (g : Nat) (t : TypeId) (cs : Array Value) (fr : Nat × Nat) (d : TypeDesc)
    (hp : tmps.getD p undef = .pointer (some ⟨g, 0, none⟩)) (hg : w.heap[g]? = some (.cells cs t fr))
    (hu : P.underlying ty = some d) (hd : (match d with | .struct _ | .array _ _ => true | _ => false) = true) (hi : (P.info? ty).map (·.size) = some cs.size) :
    (results fn tmps).run P w = .ok (.tuple #[.agg cs, tmps.getD u undef]) w := by
  rw [results_cell_tmp h, hp]
  simp only [asAddr, Sem.run_pure, Result.andThen_ok]
  rw [run_loadVar_row w g t ty cs fr d hg hu hd hi]
  rfl
end Ln
set_option maxRecDepth 100000 in
set_option maxHeartbeats 2000000 in
theorem find_nil (n : Int) (w : World) : Calls Try.prog 11 #[.pointer none, .int .u32 n] w fun e w' => e = .returned (.tuple #[Ln.EV Ln.E0, .bool false]) ∧ Below w.heap.size w w' := by
  obtain ⟨B, hB⟩ : ∃ B, B = w.alloc (.cells #[.int .u32 0, .int .i64 0, .int .u8 0, .int .u8 0, .int .u8 0, .int .u8 0, .int .u8 0, .int .u8 0, .int .u8 0, .int .u8 0, .int .u8 0, .int .u8 0, .int .u8 0, .int .u8 0, .int .u8 0, .int .u8 0, .int .u8 0, .int .u8 0] 30) := ⟨_, rfl⟩
  have HB := Lib.hid hB
  have B0 := Lib.hid (show Below w.heap.size w B by rw [hB]; exact (Below.refl w.heap.size w).alloc (Nat.le_refl _) _)
  have R0 := Lib.hid (show B.heap[w.heap.size]? = some (.cells (Ln.cells Ln.E0).toArray 30 (0, 0)) by rw [hB]; exact heap_alloc_new _ _)
  clear hB
  go_enter Try.func11, Try.ntmps11
  go_wp2_with (first
    | (go_at_call 32; rw [← HB.out]; refine (seek_nil n B).mono ?_; rintro e W2 ⟨rfl, hw⟩; subst hw)
    | ((with_reducible show wpList _ _ _ (Oper.mk none (Op.store 30 _ _) _ _ _ _ :: _) _ _); refine wpList_store_own rfl 30 (.tmp 4) (.tmp 18) rfl w.heap.size (Ln.cells Ln.E0).toArray rfl rfl 30 _ R0.out Ln.size_line rfl (by kernel_rfl) ?_
       intro W1 HW1
       have B1 := Lib.hid (B0.out.trans HW1.below)
       have R1 := Lib.hid HW1.row
       clear HW1))
  exact bodyPost_ret (Ln.res2 (fn := Try.f11) rfl _ _ w.heap.size 30 (Ln.cells Ln.E0).toArray (0, 0) _ rfl R1.out Try.underlying30 rfl Ln.size_line) rfl ⟨rfl, B1.out⟩
set_option maxRecDepth 100000 in
set_option maxHeartbeats 2000000 in
theorem find_any (n : Int) (hn : Ev.u32B n) (w : World) {F p ways Q} (h : Ln.Cache w F p ways Q) :
    Calls Try.prog 11 #[.pointer (some ⟨p, 0, none⟩), .int .u32 n] w fun e w' => e = .returned (.tuple #[Ln.EV ((Ln.fd (Ln.rowQ Q n) n).getD Ln.E0), .bool (Ln.fd (Ln.rowQ Q n) n).isSome]) ∧ Below w.heap.size w w' := by
  obtain ⟨g, S, hc, rfl⟩ := h
  obtain ⟨i, r, hi, hr, hq⟩ := hc.at_ n
  rw [hq]
  clear hq
  obtain ⟨B, hB⟩ : ∃ B, B = w.alloc (.cells #[.int .u32 0, .int .i64 0, .int .u8 0, .int .u8 0, .int .u8 0, .int .u8 0, .int .u8 0, .int .u8 0, .int .u8 0, .int .u8 0, .int .u8 0, .int .u8 0, .int .u8 0, .int .u8 0, .int .u8 0, .int .u8 0, .int .u8 0, .int .u8 0] 30) := ⟨_, rfl⟩
  have HB := Lib.hid hB
  have B0 := Lib.hid (show Below w.heap.size w B by rw [hB]; exact (Below.refl w.heap.size w).alloc (Nat.le_refl _) _)
  have R0 := Lib.hid (show B.heap[w.heap.size]? = some (.cells (Ln.cells Ln.E0).toArray 30 (0, 0)) by rw [hB]; exact heap_alloc_new _ _)
  have SK := Lib.hid (seek_any n hn B (hc.kp B0.out) hi hr)
  have HC := Lib.hid hc; have HR := Lib.hid hr
  have hil := (List.getElem?_eq_some_iff.1 hr).1
  have hii : (i : Int) < (S.length : Int) := by omega
  have hl := hc.len
  have hf := hc.fits r (List.mem_of_getElem? hr)
  have hw8 := hc.wlen
  clear hB hc hr hi
  by_cases h0 : 0 ≤ Ln.ix r.l n 0
  · obtain ⟨k, e, e1, e2, e3, e4⟩ := Ln.fd_at h0
    have HFD := Lib.hid e3
    have HE2 := Lib.hid e2
    have hkl := (List.getElem?_eq_some_iff.1 e2).1
    have hki : (k : Int) < (r.l.length : Int) := by omega
    have SK1 := SK.out
    rw [e1] at SK1
    rw [show decide (0 ≤ (k : Int)) = true from decide_eq_true (by omega)] at SK1
    have SK2 := Lib.hid SK1
    clear SK1 e1 e2 e3 h0 e4
    go_enter Try.func11, Try.ntmps11
    go_wp2_with (first
      | (go_at_call 32; rw [← HB.out]; refine SK2.out.mono ?_; rintro e' W2 ⟨rfl, hb2⟩
         have B2 := Lib.hid (B0.out.trans (hb2.mono B0.out.size))
         have R2 := Lib.hid ((hb2.block _ (Array.getElem?_eq_some_iff.1 R0.out).1).trans R0.out)
         clear hb2
         have C2 := Lib.hid (HC.out.kp B2.out)
         have c0 := C2.out.c0
         have cs := C2.out.cs HR.out
         obtain ⟨ga, o, ea, hce⟩ := (C2.out.row HR.out).at_ HE2.out
         have HOK := Lib.hid ((C2.out.row HR.out).ok_ HE2.out)
         have HCE := Lib.hid hce
         clear hce
         rw [ea] at cs)
      | ((with_reducible show wpList _ _ _ (Oper.mk (some 28) _ _ _ _ _ :: _) _ _); refine wpList_load_at rfl 30 (.tmp 27) rfl ga (o + k * 18) rfl (Ln.cells e) _ HCE.out Try.underlying30 rfl (by rw [HOK.out.len]; exact Ln.size_line) ?_)
      | ((with_reducible show wpList _ _ _ (Oper.mk none (Op.store 30 _ _) _ _ _ _ :: _) _ _); refine wpList_store_own rfl 30 (.tmp 4) (.tmp 28) rfl w.heap.size (Ln.cells e).toArray rfl rfl 30 _ R2.out (by rw [HOK.out.size]; exact Ln.size_line) (by rw [HOK.out.size]; rfl) (Ln.cells_all e) ?_
         intro W1 HW1
         have B1 := Lib.hid (B2.out.trans (HW1.below.mono (Nat.le_refl _)))
         have R1 := Lib.hid HW1.row
         clear HW1))
    refine bodyPost_ret (Ln.res2 (fn := Try.f11) rfl _ _ w.heap.size 30 (Ln.cells e).toArray (0, 0) _ rfl R1.out Try.underlying30 rfl (by rw [HOK.out.size]; exact Ln.size_line)) rfl ⟨?_, B1.out⟩
    rw [HFD.out]; rfl
  · have HFD := Lib.hid (Ln.fd_none (by omega : Ln.ix r.l n 0 < 0))
    have SK1 := SK.out
    rw [(Ln.ix_none (by omega : Ln.ix r.l n 0 < 0)).1] at SK1
    rw [show decide (0 ≤ (-1 : Int)) = false from rfl] at SK1
    have SK2 := Lib.hid SK1
    clear SK1 h0
    go_enter Try.func11, Try.ntmps11
    go_wp2_with (first
      | (go_at_call 32; rw [← HB.out]; refine SK2.out.mono ?_; rintro e' W2 ⟨rfl, hb2⟩
         have B2 := Lib.hid (B0.out.trans (hb2.mono B0.out.size))
         have R2 := Lib.hid ((hb2.block _ (Array.getElem?_eq_some_iff.1 R0.out).1).trans R0.out)
         clear hb2)
      | ((with_reducible show wpList _ _ _ (Oper.mk none (Op.store 30 _ _) _ _ _ _ :: _) _ _); refine wpList_store_own rfl 30 (.tmp 4) (.tmp 18) rfl w.heap.size (Ln.cells Ln.E0).toArray rfl rfl 30 _ R2.out Ln.size_line rfl (by kernel_rfl) ?_
         intro W1 HW1
         have B1 := Lib.hid (B2.out.trans (HW1.below.mono (Nat.le_refl _)))
         have R1 := Lib.hid HW1.row
         clear HW1))
    refine bodyPost_ret (Ln.res2 (fn := Try.f11) rfl _ _ w.heap.size 30 (Ln.cells Ln.E0).toArray (0, 0) _ rfl R1.out Try.underlying30 rfl Ln.size_line) rfl ⟨?_, B1.out⟩
    rw [HFD.out]; rfl
end Go.Proofs.Ytifniogldinbdaa
