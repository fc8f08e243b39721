/-
  What catches a cause that leaves by panic: the deferred closure's contracts.
-/
import Derived.Test.YtccacgknmddanaaGreatDoorHtFetch
import Derived.Defers
import Derived.Recover
import Derived.Laws.Pointers
namespace Go.Proofs.YtccacgknmddanaaGreatDoor
open Go.RowKit Ht
set_option linter.unusedVariables false
set_option linter.unusedSimpArgs false
theorem wpList_build_to {P : Program} {ops : Array Oper} {rest : List Oper} {o : Oper} {a : Act} {w : World} {Q : Exit → Act → World → Prop} (hg : o.guard = none) (t : TypeId) (parts : Array (Nat × Operand)) (ho : o.op = .build t parts)
    (cs : Array Value) (hb : P.built t (parts.map fun (i, x) => (i, a.eval x)).toList = some cs) (h : wpList P ops Q rest (a.put o.dst (.agg cs)) w) : wpList P ops Q (o :: rest) a w :=
  wpList_build hg t parts ho (by rw [hb]; rfl) (by rw [hb]; exact h)
namespace Ht
def I0 : I := ⟨0, 0, 0, 0, 0, false, false⟩
def H0 : H := ⟨0, 0, fun _ => 0, 0⟩
def S0 : S := ⟨H0, I0, 0, 0, false, A0, 0⟩
/-- a step of nothing but a hart -/
def SH (h : H) : S := ⟨h, I0, 0, 0, false, A0, 0⟩
end Ht
theorem do1_tmps (a b c x : Value) : (#[a, b, c] ++ (Array.replicate 16 undef).setIfInBounds 2 x) = #[a, b, c, undef, undef, x, undef, undef, undef, undef, undef, undef, undef, undef, undef, undef, undef, undef, undef] := by kernel_rfl
theorem ta_nil1 (w : World) : (Instr.typeAssert .nilIface 20 31 true).run Tryz.prog w = .ok (.tuple #[.int .i64 0, .bool false]) w := by kernel_rfl
theorem ta_nil2 (w : World) : (Instr.typeAssert .nilIface 20 24 true).run Tryz.prog w = .ok (.tuple #[.int .i64 0, .bool false]) w := by kernel_rfl
theorem ta_err (n : Int) (w : World) : (Instr.typeAssert (.iface 31 (.int .i64 n)) 20 31 true).run Tryz.prog w = .ok (.tuple #[.int .i64 n, .bool true]) w := by kernel_rfl
theorem ta_cause1 (n : Int) (w : World) : (Instr.typeAssert (.iface 24 (.int .i64 n)) 20 31 true).run Tryz.prog w = .ok (.tuple #[.int .i64 0, .bool false]) w := by kernel_rfl
theorem ta_cause2 (n : Int) (w : World) : (Instr.typeAssert (.iface 24 (.int .i64 n)) 20 24 true).run Tryz.prog w = .ok (.tuple #[.int .i64 n, .bool true]) w := by kernel_rfl
set_option maxRecDepth 100000 in
theorem catch_idle (p q r : Nat) (w : World) :
    CallsD Tryz.prog 33 #[.pointer (some ⟨p, 0, none⟩), .pointer (some ⟨q, 0, none⟩), .pointer (some ⟨r, 0, none⟩)] .returning w fun e u' w' => e = .returned (.tuple #[]) ∧ u' = .returning ∧ w' = w := by
  refine callsD_of_wpS Tryz.func33 rfl fun c₀ cs hu => ?_
  apply wpS_seq
  apply wpS_region
  simp [wpOpsS, go_sem, recoverD, hu, Tryz.ntmps33, Exit.thenS]
  rw [do1_tmps]
  refine wpS_of_wp ?_
  have t1 := ta_nil1
  have t2 := ta_nil2
  have HU := Lib.hid hu; clear hu
  go_wp2
  have hu := HU.out
  cases c₀
  simp_all [bodyPostS, results, Tryz.results33]
set_option maxRecDepth 100000 in
set_option maxHeartbeats 1000000 in
theorem catch_err (p q r : Nat) (w : World) (old : Array Value) (hs : w.heap[p]? = some (.cells old 63 (0, 0))) (hz : old.size = 53) (hq : w.cell? ⟨q, 0, none⟩ = some (.int .i64 0)) (hf : w.frozen? ⟨q, 0, none⟩ = false) (hpq : q ≠ p) (older : List PanicEntry) :
    CallsD Tryz.prog 33 #[.pointer (some ⟨p, 0, none⟩), .pointer (some ⟨q, 0, none⟩), .pointer (some ⟨r, 0, none⟩)] (.panicking ({ v := .iface 31 (.int .i64 2), recovered := false } :: older)) w fun e u' w' =>
      e = .returned (.tuple #[]) ∧ u' = .panicking ({ v := .iface 31 (.int .i64 2), recovered := true } :: older) ∧ w' = (w.setRow p (scells S0).toArray).setCell ⟨q, 0, none⟩ (.int .i64 2) := by
  have hq' : (w.setRow p (scells S0).toArray).cell? ⟨q, 0, none⟩ = some (.int .i64 0) := (World.cell?_of_block (w := w) (a := ⟨q, 0, none⟩) (setRow_other w p q _ hpq)).trans hq
  have hf' : (w.setRow p (scells S0).toArray).frozen? ⟨q, 0, none⟩ = false := (World.frozen?_of_block (w := w) (a := ⟨q, 0, none⟩) (setRow_other w p q _ hpq)).trans hf
  have HS := Lib.hid hs; have HZ := Lib.hid hz; clear hs hz hq hf hpq
  refine callsD_of_wpS Tryz.func33 rfl fun c₀ cs hu => ?_
  apply wpS_seq
  apply wpS_region
  simp [wpOpsS, go_sem, recoverD, hu, Tryz.ntmps33, Exit.thenS]
  rw [do1_tmps]
  refine wpS_of_wp ?_
  have t1 := ta_err
  have HU := Lib.hid hu; clear hu
  go_wp2_with (first
    | (refine wpList_build_to rfl 63 #[] rfl (scells S0).toArray (by kernel_rfl) ?_)
    | (refine wpList_store_row rfl 63 (.tmp 0) (.tmp 9) rfl p (scells S0).toArray rfl rfl 63 old HS.out (by kernel_rfl) (by rw [HZ.out]; kernel_rfl) (by kernel_rfl) ?_))
  simp [bodyPostS, results, Tryz.results33]
set_option maxRecDepth 100000 in
set_option maxHeartbeats 1000000 in
theorem catch_cause (p q r : Nat) (h : H) (c : Int) (w : World) (old : Array Value) (hs : w.heap[p]? = some (.cells old 63 (0, 0))) (hz : old.size = 53) (hr : w.heap[r]? = some (.cells (hcells h).toArray 26 (0, 0))) (older : List PanicEntry) :
    CallsD Tryz.prog 33 #[.pointer (some ⟨p, 0, none⟩), .pointer (some ⟨q, 0, none⟩), .pointer (some ⟨r, 0, none⟩)] (.panicking ({ v := .iface 24 (.int .i64 c), recovered := false } :: older)) w fun e u' w' =>
      e = .returned (.tuple #[]) ∧ u' = .panicking ({ v := .iface 24 (.int .i64 c), recovered := true } :: older) ∧ w' = (w.setRow p (scells (SH h)).toArray).setCell ⟨p, 34, none⟩ (.int .i64 c) := by
  have hp : Stp (w.setRow p (scells (SH h)).toArray) p (SH h) := setRow_heap _ _ _ _ _ _ hs
  have hq' : (w.setRow p (scells (SH h)).toArray).cell? ⟨p, 34, none⟩ = some (.int .i64 h.cause) := hp.cell 34
  have hf' := hp.free 34
  have HS := Lib.hid hs; have HZ := Lib.hid hz; have HR := Lib.hid hr; clear hs hz hr hp
  refine callsD_of_wpS Tryz.func33 rfl fun c₀ cs hu => ?_
  apply wpS_seq
  apply wpS_region
  simp [wpOpsS, go_sem, recoverD, hu, Tryz.ntmps33, Exit.thenS]
  rw [do1_tmps]
  refine wpS_of_wp ?_
  have t1 := ta_cause1
  have t2 := ta_cause2
  have HU := Lib.hid hu; clear hu
  go_wp2_with (first
    | (refine wpList_load_row rfl 26 (.tmp 2) rfl r rfl 26 (hcells h).toArray (0, 0) _ HR.out Tryz.underlying26 rfl (by kernel_rfl) ?_)
    | (refine wpList_build_to rfl 63 #[(0, .tmp 14)] rfl (scells (SH h)).toArray (by kernel_rfl) ?_)
    | (refine wpList_store_row rfl 63 (.tmp 0) (.tmp 15) rfl p (scells (SH h)).toArray rfl rfl 63 old HS.out (by kernel_rfl) (by rw [HZ.out]; kernel_rfl) (by kernel_rfl) ?_))
  simp [bodyPostS, results, Tryz.results33]
end Go.Proofs.YtccacgknmddanaaGreatDoor
