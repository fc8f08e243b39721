/-
  ImM: ImMem, ImLow, ImReach, ImRw, ImLn in one text.
-/
import Derived.Test.YtianojbdabeoeaaGreatDoorProg
import Derived.Test.YtianojbdabeoeaaGreatDoorImMath
import Derived.WalkKit
import Derived.WalkSpells
import Derived.WalkLawsBesides
import Derived.Handy
import Derived.Lib.Hide
import Derived.LoopTactic
import Derived.Laws.OwnMore
import Derived.Outline
import Derived.Maps.OwnOps
import Derived.Deep.MidRow
import Derived.Laws.CopyOwn

section
namespace Go.Proofs.YtianojbdabeoeaaGreatDoor
open Go.RowKit
set_option linter.unusedVariables false

theorem im_ret_int {k : IntKind} {a b : Int} (h : a = b) : Ending.returned (.int k a) = .returned (.int k b) := by rw [h]

/-- block g is a row of these bytes -/
def Row (w : World) (g : Nat) (bs : List Int) : Prop := w.heap[g]? = some (.cells (Im.vals bs).toArray 5 (0, 0))
/-- p leads to an image whose bytes lie in block g -/
structure Img (w : World) (p g : Nat) (bs : List Int) : Prop where
  ptr : w.heap[p]? = some (.cells #[.slice (some ⟨g, 0, none⟩) bs.length bs.length] 128 (0, 0))
  row : Row w g bs
  ok : Im.okB bs.length = true
  byt : Im.Byt bs

theorem im_heap_lt {w : World} {g : Nat} {o : Obj} (h : w.heap[g]? = some o) : g < w.heap.size := (Array.getElem?_eq_some_iff.1 h).1
theorem Row.lt {w : World} {g : Nat} {bs : List Int} (h : Row w g bs) : g < w.heap.size := im_heap_lt h
theorem Row.cell {w : World} {g : Nat} {bs : List Int} (h : Row w g bs) {j : Nat} (hj : j < bs.length) : w.cell? ⟨g, j, none⟩ = some (.int .u8 (bs.getD j 0)) := by
  rw [cell_of_row w g j _ _ _ h]
  simp [Im.vals, hj, List.getD_eq_getElem?_getD]
theorem Row.free {w : World} {g : Nat} {bs : List Int} (h : Row w g bs) (j : Nat) : w.frozen? ⟨g, j, none⟩ = false := frozen_of_row w g j _ _ h
theorem Row.kept {w w' : World} {g : Nat} {bs : List Int} {row : Option Nat} (h : Row w g bs) (hg : w.grownBy w' row) (hne : some g ≠ row) : Row w' g bs :=
  (hg.block g h.lt hne).trans h
theorem Row.below {w w' : World} {g B : Nat} {bs : List Int} (h : Row w g bs) (hg : Below B w w') (hne : g < B) : Row w' g bs :=
  (hg.block g hne).trans h
theorem Row.old {w w' : World} {g : Nat} {bs : List Int} (h : Row w g bs) (hg : Below w.heap.size w w') : Row w' g bs := h.below hg h.lt
theorem Row.alloc {w : World} {g : Nat} {bs : List Int} (h : Row w g bs) (o : Obj) : Row (w.alloc o) g bs := (Below.heap_alloc w o g h.lt).trans h
theorem Row.set {w : World} {g : Nat} {bs : List Int} (h : Row w g bs) (j : Nat) (x : Int) : Row (w.setCell ⟨g, j, none⟩ (.int .u8 x)) g (bs.set j x) := by
  unfold Row
  rw [heap_setCell_same w g j _ _ _ h]
  simp [Im.vals, List.map_set]

theorem Img.old {w w' : World} {p g : Nat} {bs : List Int} (h : Img w p g bs) (hb : Below w.heap.size w w') : Img w' p g bs :=
  ⟨(hb.block p (im_heap_lt h.ptr)).trans h.ptr, h.row.old hb, h.ok, h.byt⟩
theorem Img.ne {w : World} {p g : Nat} {bs : List Int} (h : Img w p g bs) : p ≠ g := by
  rintro rfl
  have h1 := h.ptr; have h2 := h.row
  unfold Row at h2
  rw [h1] at h2
  simp at h2
/-- what is written into the row of an image -/
theorem Img.wrote {w w' : World} {p g : Nat} {bs bs' : List Int} (h : Img w p g bs) (hg : w.grownBy w' (some g)) (hr : Row w' g bs') (hl : bs'.length = bs.length) (hb : Im.Byt bs') : Img w' p g bs' :=
  ⟨by rw [hg.block p (im_heap_lt h.ptr) (by have := h.ne; simp [this]), hl]; exact h.ptr, hr, by rw [hl]; exact h.ok, hb⟩
theorem Img.kept {w w' : World} {p g : Nat} {bs : List Int} {row : Option Nat} (h : Img w p g bs) (hg : w.grownBy w' row) (h1 : some p ≠ row) (h2 : some g ≠ row) : Img w' p g bs :=
  ⟨(hg.block p (im_heap_lt h.ptr) h1).trans h.ptr, h.row.kept hg h2, h.ok, h.byt⟩
theorem Img.cell {w : World} {p g : Nat} {bs : List Int} (h : Img w p g bs) : w.cell? ⟨p, 0, none⟩ = some (.slice (some ⟨g, 0, none⟩) bs.length bs.length) := by
  rw [cell_of_row w p 0 _ _ _ h.ptr]; rfl
theorem Img.bd {w : World} {p g : Nat} {bs : List Int} (h : Img w p g bs) : 16 ≤ bs.length ∧ bs.length ≤ 4096 ∧ bs.length % 16 = 0 := by
  have := Im.okB_bd h.ok; omega

theorem below_grown {w w' : World} (h : Below w.heap.size w w') (row : Option Nat) : w.grownBy w' row := ⟨h.os, h.tape, h.output, h.size, fun k hk _ => h.block k hk⟩
theorem grown_below {w w' : World} (h : w.grownBy w' none) : Below w.heap.size w w' := ⟨h.os, h.tape, h.output, h.size, fun k hk => h.block k hk (by simp)⟩
theorem grownBy_trans {a b c : World} {row : Option Nat} (h : a.grownBy b row) (k : b.grownBy c row) : a.grownBy c row :=
  ⟨k.os.trans h.os, k.tape.trans h.tape, k.output.trans h.output, Nat.le_trans h.size k.size, fun i hi hn => (k.block i (Nat.lt_of_lt_of_le hi h.size) hn).trans (h.block i hi hn)⟩
theorem below_tr {a b c : World} (h : Below a.heap.size a b) (k : Below b.heap.size b c) : Below a.heap.size a c := h.trans (k.mono h.size)
theorem im_below_drewN {B : Nat} {a w : World} (h : Below B a w) (n : Nat) : Below B a (w.drewN n) := ⟨h.os, h.tape, h.output, h.size, h.block⟩

theorem grownBy_set {a w : World} {g : Nat} (h : a.grownBy w (some g)) (j : Nat) (u : Value) : a.grownBy (w.setCell ⟨g, j, none⟩ u) (some g) :=
  grownBy_trans h ⟨rfl, rfl, rfl, by simp [World.setCell], fun k _ hn => Below.heap_setCell _ _ _ _ (by simpa using hn)⟩
theorem grownBy_alloc {a w : World} {row : Option Nat} (h : a.grownBy w row) (o : Obj) : a.grownBy (w.alloc o) row := grownBy_trans h (World.grownBy_alloc _ _ _)

theorem im_wf_u32 {a : Int} (h : (Lit.int .u32 a).wf = true) : 0 ≤ a ∧ a ≤ 4294967295 := bounds_u32 h
theorem im_wf_i64 {a : Int} (h : (Lit.int .i64 a).wf = true) : -9223372036854775808 ≤ a ∧ a ≤ 9223372036854775807 := bounds_i64 h

theorem own_any (p g n : Nat) (w : World) (hc : w.cell? ⟨p, 0, none⟩ = some (.slice (some ⟨g, 0, none⟩) n n)) :
    Calls Tryz.prog 45 #[.pointer (some ⟨p, 0, none⟩)] w fun e w' => e = .returned (.slice (some ⟨g, 0, none⟩) n n) ∧ w = w' := by
  go_enter Tryz.func45, Tryz.ntmps45
  go_wp2
  go_ret
  exact ⟨rfl, rfl⟩
theorem own_nil (w : World) :
    Calls Tryz.prog 45 #[.pointer none] w fun e w' => e = .returned (.slice none 0 0) ∧ w = w' := by
  go_enter Tryz.func45, Tryz.ntmps45
  go_wp2
  go_ret
  exact ⟨rfl, rfl⟩

theorem maybe_any (n : Int) (h : -9223372036854775808 ≤ n ∧ n ≤ 9223372036854775807) (w : World) :
    Calls Tryz.prog 65 #[.int .i64 n] w fun e w' => e = .returned (.bool (Im.okB n)) ∧ w = w' := by
  by_cases h1 : 16 ≤ n
  · by_cases h2 : n ≤ 4096
    · have e := Im.okB_and h1 h2
      rw [e]
      clear e
      go_enter Tryz.func65, Tryz.ntmps65
      go_wp2
      go_ret
      exact ⟨rfl, rfl⟩
    · rw [Im.okB_no (by omega)]
      go_enter Tryz.func65, Tryz.ntmps65
      go_wp2
      go_ret
      exact ⟨rfl, rfl⟩
  · rw [Im.okB_no (by omega)]
    go_enter Tryz.func65, Tryz.ntmps65
    go_wp2
    go_ret
    exact ⟨rfl, rfl⟩

end Go.Proofs.YtianojbdabeoeaaGreatDoor
end

section
namespace Go.Proofs.YtianojbdabeoeaaGreatDoor
open Go.RowKit Go.Maps
set_option linter.unusedVariables false

theorem im_wpList_insert_own {H : Type} {P : Program} (w : World) {ops : Array Oper} {rest : List Oper} {o : Oper} {a : Act} {Q : Exit → Act → World → Prop}
    (hg : o.guard = none) (m x v : Operand) (t : TypeId) (hop : o.op = Op.insert t m x v)
    (k e : TypeId) (K : Keyed P k) (ht : P.underlying t = some (.map k e)) (R : Value → Option (DataW H × List MemPlace)) (b n : Nat) (D : DataW H)
    (hm : a.eval m = .map (some b)) (hown : w.ownsMap P k R b n D) (hn : n < maxLen) (key val : Value) (kl : Lit) (hx : a.eval x = key) (hv : a.eval v = val) (hkey : keyOf P k key = some kl)
    (d : DataW H) (ps : List MemPlace) (hval : R val = some (d, ps))
    (hK : ∀ w', w'.ownsMap P k R b (n + 1) (D.put kl d) → w.grownBy w' (some b) → wpList P ops Q rest (a.put o.dst undef) w') :
    wpList P ops Q (o :: rest) a w := by
  refine wpList_plain hg fun K' hK' => ?_
  obtain ⟨w', hrun, r1, r2⟩ := hown.update K ht hn hkey hval
  unfold Oper.wp
  simp [execOp, hop, hm, hx, hv, hrun, Result.andThen]
  exact hK' _ _ (hK w' r1 r2)

theorem lawInt : Keyed Tryz.prog 3 := int_keyed Tryz.underlying3
theorem zeroInt (w : World) : (zeroValue 3).run Tryz.prog w = .ok (.int .i64 0) w := by kernel_rfl
/-- the map of widths -/
def wide3 : DataW Unit := (((DataW.map []).put (.int .i64 1) (.lit (.int .i64 8))).put (.int .i64 2) (.lit (.int .i64 16))).put (.int .i64 4) (.lit (.int .i64 32))
/-- how many bits a width has -/
def bitsOf (n : Int) : Int := if n = 1 then 8 else if n = 2 then 16 else if n = 4 then 32 else 0

theorem widths_any (w : World) :
    Calls Tryz.prog 67 #[] w fun e w' => ∃ r, e = .returned (.map (some r)) ∧ w'.ownsMap Tryz.prog 3 (plainElem Tryz.prog 3) r 3 wide3 ∧ Below w.heap.size w w' := by
  have hmm := @run_makeMap Tryz.prog
  go_enter Tryz.func67, Tryz.ntmps67
  go_wp2_with (first
    | (refine im_wpList_insert_own (H := Unit) _ rfl _ _ _ 131 rfl 3 3 lawInt Tryz.underlying131 (plainElem Tryz.prog 3) w.heap.size 0 (.map []) rfl (World.ownsMap_made w _ _ _) (by unfold maxLen; omega) (.int .i64 1) (.int .i64 8) (.int .i64 1) rfl rfl (keyOf_int_mk Tryz.underlying3 (by decide)) (.lit (.int .i64 8)) [] (plainElem_int Tryz.underlying3 (by decide)) ?_; intro w1 hown1 hg1)
    | (refine im_wpList_insert_own (H := Unit) _ rfl _ _ _ 131 rfl 3 3 lawInt Tryz.underlying131 (plainElem Tryz.prog 3) w.heap.size 1 _ rfl hown1 (by unfold maxLen; omega) (.int .i64 2) (.int .i64 16) (.int .i64 2) rfl rfl (keyOf_int_mk Tryz.underlying3 (by decide)) (.lit (.int .i64 16)) [] (plainElem_int Tryz.underlying3 (by decide)) ?_; intro w2 hown2 hg2)
    | (refine im_wpList_insert_own (H := Unit) _ rfl _ _ _ 131 rfl 3 3 lawInt Tryz.underlying131 (plainElem Tryz.prog 3) w.heap.size 2 _ rfl hown2 (by unfold maxLen; omega) (.int .i64 4) (.int .i64 32) (.int .i64 4) rfl rfl (keyOf_int_mk Tryz.underlying3 (by decide)) (.lit (.int .i64 32)) [] (plainElem_int Tryz.underlying3 (by decide)) ?_; intro w3 hown3 hg3))
  go_ret
  have h1 : (w.alloc (Obj.map #[] 0)).heap.size = w.heap.size + 1 := by simp
  have h2 := hg1.size
  have h3 := hg2.size
  exact ⟨_, rfl, hown3, ((((Below.refl _ _).alloc (Nat.le_refl _) _).grown hg1 (by omega) (fun k hk => by cases hk; exact Nat.le_refl _)).grown hg2 (by omega) (fun k hk => by cases hk; exact Nat.le_refl _)).grown hg3 (by omega) (fun k hk => by cases hk; exact Nat.le_refl _)⟩

theorem valueOf1 (g o cap : Nat) (a : Int) (w : World) (ba : 0 ≤ a ∧ a ≤ 255) (h0 : w.cell? ⟨g, o, none⟩ = some (.int .u8 a)) :
    Calls Tryz.prog 69 #[.slice (some ⟨g, o, none⟩) 1 cap] w fun e w' => e = .returned (.int .u32 (Im.val [a])) ∧ w = w' := by
  go_enter Tryz.func69, Tryz.ntmps69
  go_wp2
  refine wp_loop_rounds 2 ?_
  rw [rounds_succ]
  go_wp2
  rw [rounds_succ]
  go_wp2
  go_ret
  exact ⟨im_ret_int (by rw [Im.or0 ba.1 (by omega), Im.val1]), rfl⟩
theorem valueOf2 (g o cap : Nat) (a b : Int) (w : World) (ba : 0 ≤ a ∧ a ≤ 255) (bb : 0 ≤ b ∧ b ≤ 255) (h0 : w.cell? ⟨g, o, none⟩ = some (.int .u8 a)) (h1 : w.cell? ⟨g, o + 1, none⟩ = some (.int .u8 b)) :
    Calls Tryz.prog 69 #[.slice (some ⟨g, o, none⟩) 2 cap] w fun e w' => e = .returned (.int .u32 (Im.val [a, b])) ∧ w = w' := by
  go_enter Tryz.func69, Tryz.ntmps69
  go_wp2
  refine wp_loop_rounds 3 ?_
  rw [rounds_succ]
  go_wp2
  rw [rounds_succ]
  go_wp2
  rw [rounds_succ]
  go_wp2
  go_ret
  exact ⟨im_ret_int (by rw [Im.or0 ba.1 (by omega), Im.or8 ba.1 (by omega) bb.1 bb.2, Im.val2]), rfl⟩
theorem valueOf4 (g o cap : Nat) (a b c d : Int) (w : World) (ba : 0 ≤ a ∧ a ≤ 255) (bb : 0 ≤ b ∧ b ≤ 255) (bc : 0 ≤ c ∧ c ≤ 255) (bd : 0 ≤ d ∧ d ≤ 255) (h0 : w.cell? ⟨g, o, none⟩ = some (.int .u8 a)) (h1 : w.cell? ⟨g, o + 1, none⟩ = some (.int .u8 b)) (h2 : w.cell? ⟨g, o + 2, none⟩ = some (.int .u8 c)) (h3 : w.cell? ⟨g, o + 3, none⟩ = some (.int .u8 d)) :
    Calls Tryz.prog 69 #[.slice (some ⟨g, o, none⟩) 4 cap] w fun e w' => e = .returned (.int .u32 (Im.val [a, b, c, d])) ∧ w = w' := by
  go_enter Tryz.func69, Tryz.ntmps69
  go_wp2
  refine wp_loop_rounds 5 ?_
  rw [rounds_succ]
  go_wp2
  rw [rounds_succ]
  go_wp2
  rw [rounds_succ]
  go_wp2
  rw [rounds_succ]
  go_wp2
  rw [rounds_succ]
  go_wp2
  go_ret
  exact ⟨im_ret_int (by rw [Im.or0 ba.1 (by omega), Im.or8 ba.1 (by omega) bb.1 bb.2, Im.or16 (by omega) (by omega) bc.1 bc.2, Im.or24 (by omega) (by omega) bd.1 bd.2, Im.val4]), rfl⟩

theorem im_lay1 (g o cap : Nat) (v : Int) (bs : List Int) (w : World) (hv : 0 ≤ v ∧ v ≤ 4294967295) (hr : Row w g bs) (ho : o + 1 ≤ bs.length) :
    Calls Tryz.prog 196 #[.slice (some ⟨g, o, none⟩) 1 cap, .int .u32 v] w fun e w' => e = .returned (.tuple #[]) ∧ Row w' g (Im.sets bs o (Im.byt v) 1) ∧ w.grownBy w' (some g) := by
  have c0 := hr.cell (j := o) (by omega)
  have f0 := hr.free (o)
  have HR := Lib.hid hr; clear hr
  go_enter Tryz.func196, Tryz.ntmps196
  go_wp2
  refine wp_loop_rounds 2 ?_
  rw [rounds_succ]
  go_wp2
  rw [rounds_succ]
  go_wp2
  go_end0
  exact ⟨rfl, by rw [Im.sets1_eq]; exact (HR.out.set o _), (grownBy_set (World.grownBy.refl _ _) _ _)⟩
theorem im_lay2 (g o cap : Nat) (v : Int) (bs : List Int) (w : World) (hv : 0 ≤ v ∧ v ≤ 4294967295) (hr : Row w g bs) (ho : o + 2 ≤ bs.length) :
    Calls Tryz.prog 196 #[.slice (some ⟨g, o, none⟩) 2 cap, .int .u32 v] w fun e w' => e = .returned (.tuple #[]) ∧ Row w' g (Im.sets bs o (Im.byt v) 2) ∧ w.grownBy w' (some g) := by
  have c0 := hr.cell (j := o) (by omega)
  have f0 := hr.free (o)
  have c1 := hr.cell (j := o + 1) (by omega)
  have f1 := hr.free (o + 1)
  have HR := Lib.hid hr; clear hr
  go_enter Tryz.func196, Tryz.ntmps196
  go_wp2
  refine wp_loop_rounds 3 ?_
  rw [rounds_succ]
  go_wp2
  rw [rounds_succ]
  go_wp2
  rw [rounds_succ]
  go_wp2
  go_end0
  exact ⟨rfl, by rw [Im.sets2_eq]; exact ((HR.out.set o _).set (o + 1) _), (grownBy_set (grownBy_set (World.grownBy.refl _ _) _ _) _ _)⟩
theorem im_lay4 (g o cap : Nat) (v : Int) (bs : List Int) (w : World) (hv : 0 ≤ v ∧ v ≤ 4294967295) (hr : Row w g bs) (ho : o + 4 ≤ bs.length) :
    Calls Tryz.prog 196 #[.slice (some ⟨g, o, none⟩) 4 cap, .int .u32 v] w fun e w' => e = .returned (.tuple #[]) ∧ Row w' g (Im.sets bs o (Im.byt v) 4) ∧ w.grownBy w' (some g) := by
  have c0 := hr.cell (j := o) (by omega)
  have f0 := hr.free (o)
  have c1 := hr.cell (j := o + 1) (by omega)
  have f1 := hr.free (o + 1)
  have c2 := hr.cell (j := o + 2) (by omega)
  have f2 := hr.free (o + 2)
  have c3 := hr.cell (j := o + 3) (by omega)
  have f3 := hr.free (o + 3)
  have HR := Lib.hid hr; clear hr
  go_enter Tryz.func196, Tryz.ntmps196
  go_wp2
  refine wp_loop_rounds 5 ?_
  rw [rounds_succ]
  go_wp2
  rw [rounds_succ]
  go_wp2
  rw [rounds_succ]
  go_wp2
  rw [rounds_succ]
  go_wp2
  rw [rounds_succ]
  go_wp2
  go_end0
  exact ⟨rfl, by rw [Im.sets4_eq _ _ hv.2 hv.1]; exact ((((HR.out.set o _).set (o + 1) _).set (o + 2) _).set (o + 3) _), (grownBy_set (grownBy_set (grownBy_set (grownBy_set (World.grownBy.refl _ _) _ _) _ _) _ _) _ _)⟩

end Go.Proofs.YtianojbdabeoeaaGreatDoor
end

section
namespace Go.Proofs.YtianojbdabeoeaaGreatDoor
open Go.RowKit
set_option linter.unusedVariables false

theorem reach_nil (first : Int) (bits : Int) (F : Value) (h : 0 ≤ first ∧ first ≤ 18446744073709551615) (hb : 0 ≤ bits ∧ bits ≤ 128) (w : World) :
    Calls Tryz.prog 66 #[.pointer none, .int .u64 first, .int .i64 bits, F] w fun e w' => e = .returned (.int .i64 1) ∧ w = w' := by
  go_enter Tryz.func66, Tryz.ntmps66
  go_wp2_with (go_at_call 45; refine (own_nil _).mono ?_; rintro e w' ⟨rfl, rfl⟩)
  go_ret
  exact ⟨rfl, rfl⟩
theorem reach_arg (p g n : Nat) (first : Int) (F : Value) (h : 0 ≤ first ∧ first ≤ 18446744073709551615) (w : World) (hn : 16 ≤ n ∧ n ≤ 4096)
    (hc : w.cell? ⟨p, 0, none⟩ = some (.slice (some ⟨g, 0, none⟩) n n)) :
    Calls Tryz.prog 66 #[.pointer (some ⟨p, 0, none⟩), .int .u64 first, .int .i64 0, F] w fun e w' => e = .returned (.int .i64 2) ∧ w = w' := by
  have h0 : ((n : Int) == 0) = false := by simp; omega
  have HC := Lib.hid hc; clear hc
  go_enter Tryz.func66, Tryz.ntmps66
  go_wp2_with (go_at_call 45; refine (own_any _ _ _ _ HC.out).mono ?_; rintro e w' ⟨rfl, rfl⟩)
  go_ret
  exact ⟨rfl, rfl⟩
theorem reach_align (p g n first sz : Nat) (bits : Int) (F : Value) (h : first ≤ 68719476735) (hs : (sz = 1 ∧ bits = 8) ∨ (sz = 2 ∧ bits = 16) ∨ (sz = 4 ∧ bits = 32) ∨ (sz = 16 ∧ bits = 128)) (ha : ¬ first % sz = 0) (w : World) (hn : 16 ≤ n ∧ n ≤ 4096)
    (hc : w.cell? ⟨p, 0, none⟩ = some (.slice (some ⟨g, 0, none⟩) n n)) :
    Calls Tryz.prog 66 #[.pointer (some ⟨p, 0, none⟩), .int .u64 first, .int .i64 bits, F] w fun e w' => e = .returned (.int .i64 120) ∧ w = w' := by
  have h0 : ((n : Int) == 0) = false := by simp; omega
  have HC := Lib.hid hc; clear hc
  rcases hs with ⟨rfl, rfl⟩ | ⟨rfl, rfl⟩ | ⟨rfl, rfl⟩ | ⟨rfl, rfl⟩
  · omega
  · have h1 : ((first : Int) % 2 != 0) = true := by simp only [bne_iff_ne, ne_eq]; omega
    clear ha
    go_enter Tryz.func66, Tryz.ntmps66
    go_wp2_with (go_at_call 45; refine (own_any _ _ _ _ HC.out).mono ?_; rintro e w' ⟨rfl, rfl⟩)
    go_ret
    exact ⟨rfl, rfl⟩
  · have h1 : ((first : Int) % 4 != 0) = true := by simp only [bne_iff_ne, ne_eq]; omega
    clear ha
    go_enter Tryz.func66, Tryz.ntmps66
    go_wp2_with (go_at_call 45; refine (own_any _ _ _ _ HC.out).mono ?_; rintro e w' ⟨rfl, rfl⟩)
    go_ret
    exact ⟨rfl, rfl⟩
  · have h1 : ((first : Int) % 16 != 0) = true := by simp only [bne_iff_ne, ne_eq]; omega
    clear ha
    go_enter Tryz.func66, Tryz.ntmps66
    go_wp2_with (go_at_call 45; refine (own_any _ _ _ _ HC.out).mono ?_; rintro e w' ⟨rfl, rfl⟩)
    go_ret
    exact ⟨rfl, rfl⟩
theorem reach_range (p g n first sz : Nat) (bits : Int) (F : Value) (h : first ≤ 68719476735) (hs : (sz = 1 ∧ bits = 8) ∨ (sz = 2 ∧ bits = 16) ∨ (sz = 4 ∧ bits = 32) ∨ (sz = 16 ∧ bits = 128)) (ha : first % sz = 0) (hr : n ≤ first) (w : World) (hn : 16 ≤ n ∧ n ≤ 4096)
    (hc : w.cell? ⟨p, 0, none⟩ = some (.slice (some ⟨g, 0, none⟩) n n)) :
    Calls Tryz.prog 66 #[.pointer (some ⟨p, 0, none⟩), .int .u64 first, .int .i64 bits, F] w fun e w' => e = .returned (.int .i64 4) ∧ w = w' := by
  have h0 : ((n : Int) == 0) = false := by simp; omega
  have HC := Lib.hid hc; clear hc
  rcases hs with ⟨rfl, rfl⟩ | ⟨rfl, rfl⟩ | ⟨rfl, rfl⟩ | ⟨rfl, rfl⟩
  · have h1 : ((first : Int) % 1 != 0) = false := by simp only [bne_eq_false_iff_eq]; omega
    clear ha
    go_enter Tryz.func66, Tryz.ntmps66
    go_wp2_with (go_at_call 45; refine (own_any _ _ _ _ HC.out).mono ?_; rintro e w' ⟨rfl, rfl⟩)
    go_ret
    exact ⟨rfl, rfl⟩
  · have h1 : ((first : Int) % 2 != 0) = false := by simp only [bne_eq_false_iff_eq]; omega
    clear ha
    go_enter Tryz.func66, Tryz.ntmps66
    go_wp2_with (go_at_call 45; refine (own_any _ _ _ _ HC.out).mono ?_; rintro e w' ⟨rfl, rfl⟩)
    go_ret
    exact ⟨rfl, rfl⟩
  · have h1 : ((first : Int) % 4 != 0) = false := by simp only [bne_eq_false_iff_eq]; omega
    clear ha
    go_enter Tryz.func66, Tryz.ntmps66
    go_wp2_with (go_at_call 45; refine (own_any _ _ _ _ HC.out).mono ?_; rintro e w' ⟨rfl, rfl⟩)
    go_ret
    exact ⟨rfl, rfl⟩
  · have h1 : ((first : Int) % 16 != 0) = false := by simp only [bne_eq_false_iff_eq]; omega
    clear ha
    go_enter Tryz.func66, Tryz.ntmps66
    go_wp2_with (go_at_call 45; refine (own_any _ _ _ _ HC.out).mono ?_; rintro e w' ⟨rfl, rfl⟩)
    go_ret
    exact ⟨rfl, rfl⟩
set_option maxHeartbeats 4000000 in
theorem reach_goes (p g n first sz : Nat) (bits : Int) (f : FuncId) (hf : f = 68 ∨ f = 195) (cap : Addr) (Post : World → Prop)
    (hs : (sz = 1 ∧ bits = 8) ∨ (sz = 2 ∧ bits = 16) ∨ (sz = 4 ∧ bits = 32) ∨ (sz = 16 ∧ bits = 128)) (ha : first % sz = 0) (hr : first + sz ≤ n) (w : World) (hn : 16 ≤ n ∧ n ≤ 4096)
    (hc : w.cell? ⟨p, 0, none⟩ = some (.slice (some ⟨g, 0, none⟩) n n))
    (hk : Calls Tryz.prog f #[.slice (some ⟨g, first, none⟩) sz sz, .pointer (some cap)] w fun e w' => e = .returned (.tuple #[]) ∧ Post w') :
    Calls Tryz.prog 66 #[.pointer (some ⟨p, 0, none⟩), .int .u64 first, .int .i64 bits, .func (.func f) #[] #[.pointer (some cap)]] w fun e w' => e = .returned (.int .i64 0) ∧ Post w' := by
  have h0 : ((n : Int) == 0) = false := by simp; omega
  have HC := Lib.hid hc; clear hc
  have HK := Lib.hid hk; clear hk
  rcases hs with ⟨rfl, rfl⟩ | ⟨rfl, rfl⟩ | ⟨rfl, rfl⟩ | ⟨rfl, rfl⟩
  · have h1 : ((first : Int) % 1 != 0) = false := by simp only [bne_eq_false_iff_eq]; omega
    clear ha
    rcases hf with rfl | rfl
    all_goals
      go_enter Tryz.func66, Tryz.ntmps66
      go_wp2_with (first
        | (go_at_call 45; refine (own_any _ _ _ _ HC.out).mono ?_; rintro e w' ⟨rfl, rfl⟩)
        | (refine HK.out.mono ?_; rintro e w' ⟨rfl, hpost⟩))
      go_ret
      exact ⟨rfl, hpost⟩
  · have h1 : ((first : Int) % 2 != 0) = false := by simp only [bne_eq_false_iff_eq]; omega
    clear ha
    rcases hf with rfl | rfl
    all_goals
      go_enter Tryz.func66, Tryz.ntmps66
      go_wp2_with (first
        | (go_at_call 45; refine (own_any _ _ _ _ HC.out).mono ?_; rintro e w' ⟨rfl, rfl⟩)
        | (refine HK.out.mono ?_; rintro e w' ⟨rfl, hpost⟩))
      go_ret
      exact ⟨rfl, hpost⟩
  · have h1 : ((first : Int) % 4 != 0) = false := by simp only [bne_eq_false_iff_eq]; omega
    clear ha
    rcases hf with rfl | rfl
    all_goals
      go_enter Tryz.func66, Tryz.ntmps66
      go_wp2_with (first
        | (go_at_call 45; refine (own_any _ _ _ _ HC.out).mono ?_; rintro e w' ⟨rfl, rfl⟩)
        | (refine HK.out.mono ?_; rintro e w' ⟨rfl, hpost⟩))
      go_ret
      exact ⟨rfl, hpost⟩
  · have h1 : ((first : Int) % 16 != 0) = false := by simp only [bne_eq_false_iff_eq]; omega
    clear ha
    rcases hf with rfl | rfl
    all_goals
      go_enter Tryz.func66, Tryz.ntmps66
      go_wp2_with (first
        | (go_at_call 45; refine (own_any _ _ _ _ HC.out).mono ?_; rintro e w' ⟨rfl, rfl⟩)
        | (refine HK.out.mono ?_; rintro e w' ⟨rfl, hpost⟩))
      go_ret
      exact ⟨rfl, hpost⟩

end Go.Proofs.YtianojbdabeoeaaGreatDoor
end

section
namespace Go.Proofs.YtianojbdabeoeaaGreatDoor
open Go.RowKit Go.Maps
set_option linter.unusedVariables false

theorem read1_any (g o n cap r : Nat) (bs : List Int) (x : Value) (w : World) (hb : Im.Byt bs) (hr : Row w g bs) (hs : n = 1 ∨ n = 2 ∨ n = 4) (ho : o + n ≤ bs.length)
    (hc : w.cell? ⟨r, 0, none⟩ = some x) (hf : w.frozen? ⟨r, 0, none⟩ = false) :
    Calls Tryz.prog 68 #[.slice (some ⟨g, o, none⟩) n cap, .pointer (some ⟨r, 0, none⟩)] w fun e w' => e = .returned (.tuple #[]) ∧ w.setCell ⟨r, 0, none⟩ (.int .u32 (Im.val (Im.win bs o n))) = w' := by
  have HR := Lib.hid hr; have HB := Lib.hid hb; clear hr hb
  rcases hs with rfl | rfl | rfl
  · rw [Im.win1 ho]
    go_enter Tryz.func68, Tryz.ntmps68
    go_wp2_with fail
    refine (valueOf1 g o cap (bs.getD o 0) _ (Im.getD_byt HB.out _) (HR.out.cell (by omega))).mono ?_
    rintro e w' ⟨rfl, rfl⟩
    go_wp2
    go_end0
    exact ⟨rfl, rfl⟩
  · rw [Im.win2 ho]
    go_enter Tryz.func68, Tryz.ntmps68
    go_wp2_with fail
    refine (valueOf2 g o cap (bs.getD o 0) (bs.getD (o + 1) 0) _ (Im.getD_byt HB.out _) (Im.getD_byt HB.out _) (HR.out.cell (by omega)) (HR.out.cell (by omega))).mono ?_
    rintro e w' ⟨rfl, rfl⟩
    go_wp2
    go_end0
    exact ⟨rfl, rfl⟩
  · rw [Im.win4 ho]
    go_enter Tryz.func68, Tryz.ntmps68
    go_wp2_with fail
    refine (valueOf4 g o cap (bs.getD o 0) (bs.getD (o + 1) 0) (bs.getD (o + 2) 0) (bs.getD (o + 3) 0) _ (Im.getD_byt HB.out _) (Im.getD_byt HB.out _) (Im.getD_byt HB.out _) (Im.getD_byt HB.out _) (HR.out.cell (by omega)) (HR.out.cell (by omega)) (HR.out.cell (by omega)) (HR.out.cell (by omega))).mono ?_
    rintro e w' ⟨rfl, rfl⟩
    go_wp2
    go_end0
    exact ⟨rfl, rfl⟩
theorem write1_any (g o n cap r : Nat) (bs : List Int) (v : Int) (w : World) (hv : 0 ≤ v ∧ v ≤ 4294967295) (hr : Row w g bs) (hs : n = 1 ∨ n = 2 ∨ n = 4) (ho : o + n ≤ bs.length)
    (hc : w.cell? ⟨r, 0, none⟩ = some (.int .u32 v)) :
    Calls Tryz.prog 195 #[.slice (some ⟨g, o, none⟩) n cap, .pointer (some ⟨r, 0, none⟩)] w fun e w' => e = .returned (.tuple #[]) ∧ Row w' g (Im.sets bs o (Im.byt v) n) ∧ w.grownBy w' (some g) := by
  have HR := Lib.hid hr; clear hr
  rcases hs with rfl | rfl | rfl
  · go_enter Tryz.func195, Tryz.ntmps195
    go_wp2_with fail
    refine (im_lay1 g o cap v bs _ hv HR.out ho).mono ?_
    rintro e w' ⟨rfl, hrow, hgr⟩
    go_wp2
    go_end0
    exact ⟨rfl, hrow, hgr⟩
  · go_enter Tryz.func195, Tryz.ntmps195
    go_wp2_with fail
    refine (im_lay2 g o cap v bs _ hv HR.out ho).mono ?_
    rintro e w' ⟨rfl, hrow, hgr⟩
    go_wp2
    go_end0
    exact ⟨rfl, hrow, hgr⟩
  · go_enter Tryz.func195, Tryz.ntmps195
    go_wp2_with fail
    refine (im_lay4 g o cap v bs _ hv HR.out ho).mono ?_
    rintro e w' ⟨rfl, hrow, hgr⟩
    go_wp2
    go_end0
    exact ⟨rfl, hrow, hgr⟩

theorem wide3_at (n c : Int) (h : wide3.atKey (.int .i64 n) (.lit (.int .i64 0)) = .lit (.int .i64 c)) : c = bitsOf n := by
  have e : wide3 = .map [(.int .i64 1, .lit (.int .i64 8)), (.int .i64 2, .lit (.int .i64 16)), (.int .i64 4, .lit (.int .i64 32))] := by kernel_rfl
  rw [e] at h
  simp only [DataW.atKey] at h
  unfold bitsOf
  by_cases h1 : n = 1
  · subst h1; simp [Lit.sameKey] at h; rw [if_pos rfl, h]
  · by_cases h2 : n = 2
    · subst h2; simp [Lit.sameKey] at h; simp; omega
    · by_cases h4 : n = 4
      · subst h4; simp [Lit.sameKey] at h; simp; omega
      · rw [if_neg h1, if_neg h2, if_neg h4]
        simp [Lit.sameKey, Ne.symm h1, Ne.symm h2, Ne.symm h4] at h
        omega

/-- a block of one cell that has just been made, behind what has grown since -/
theorem one_new (w : World) (v : Value) (t : TypeId) {w1 : World} (hb1 : Below (w.alloc (.cells #[v] t)).heap.size (w.alloc (.cells #[v] t)) w1) :
    Below w.heap.size w w1 ∧ w1.cell? ⟨w.heap.size, 0, none⟩ = some v ∧ w1.frozen? ⟨w.heap.size, 0, none⟩ = false := by
  have hz : (w.alloc (Obj.cells #[v] t)).heap.size = w.heap.size + 1 := by simp
  refine ⟨((Below.refl w.heap.size w).alloc (Nat.le_refl _) _).trans (hb1.mono (by omega)), ?_, ?_⟩
  · exact (hb1.cell (p := ⟨w.heap.size, 0, none⟩) (by rw [hz]; exact Nat.lt_succ_self _)).trans (by rw [World.cell?_alloc_at _ _ _ _ rfl]; rfl)
  · exact (hb1.frozen (p := ⟨w.heap.size, 0, none⟩) (by rw [hz]; exact Nat.lt_succ_self _)).trans (World.frozen?_alloc_at _ _ _ _ rfl)

theorem read_refused (ptr : Value) (addr : Nat) (width code : Int) (w : World) (ha : addr ≤ 4294967295) (hw : (Lit.int .i64 width).wf = true)
    (hk : ∀ (F : Value) (w1 : World), Below w.heap.size w w1 → Calls Tryz.prog 66 #[ptr, .int .u64 addr, .int .i64 (bitsOf width), F] w1 fun e w' => e = .returned (.int .i64 code) ∧ w1 = w') :
    Calls Tryz.prog 40 #[ptr, .int .u32 addr, .int .i64 width] w fun e w' => e = .returned (.tuple #[.int .u32 0, .int .i64 code]) ∧ Below w.heap.size w w' := by
  have HW := Lib.hid hw; clear hw
  have HK := Lib.hid hk; clear hk
  go_enter Tryz.func40, Tryz.ntmps40
  go_wp2_with (first
    | (go_at_call 67; refine (widths_any _).mono ?_; rintro e w1 ⟨r, rfl, hown, hb1⟩; have HO := Lib.hid hown; clear hown)
    | (at_lookup; refine wpList_lookup_own_int _ rfl _ _ 131 rfl 3 3 .i64 lawInt Tryz.underlying131 Tryz.underlying3 (zeroInt _) r 3 _ rfl HO.out _ _ rfl (keyOf_int_mk Tryz.underlying3 HW.out) ?_; intro c hat hwc))
  obtain rfl := wide3_at _ _ hat
  obtain ⟨hb, hc, hf⟩ := one_new w _ _ hb1
  have HB := Lib.hid hb; clear hb hb1 hat hwc
  refine (HK.out _ _ HB.out).mono ?_
  rintro e w' ⟨rfl, rfl⟩
  go_wp2
  refine bodyPost_ret (v := .tuple #[.int .u32 0, .int .i64 code]) (by simp [results, Tryz.results40, go_sem, hc]) rfl ⟨rfl, HB.out.setCell (Nat.le_refl _) _⟩

theorem read_goes (p g : Nat) (bs : List Int) (addr n : Nat) (w : World) (ha : addr ≤ 4294967295) (hi : Img w p g bs) (hs : n = 1 ∨ n = 2 ∨ n = 4) (hal : addr % n = 0) (hlt : addr < bs.length) :
    Calls Tryz.prog 40 #[.pointer (some ⟨p, 0, none⟩), .int .u32 addr, .int .i64 n] w fun e w' => e = .returned (.tuple #[.int .u32 (Im.val (Im.win bs addr n)), .int .i64 0]) ∧ Below w.heap.size w w' := by
  have HI := Lib.hid hi; clear hi
  have hbd := HI.out.bd
  have HW := Lib.hid (show (Lit.int .i64 (n : Int)).wf = true by rcases hs with rfl | rfl | rfl <;> decide)
  have HL := Lib.hid (show addr + n ≤ bs.length by rcases hs with rfl | rfl | rfl <;> omega)
  have HA := Lib.hid hal; clear hal
  have HS := Lib.hid hs; clear hs
  go_enter Tryz.func40, Tryz.ntmps40
  go_wp2_with (first
    | (go_at_call 67; refine (widths_any _).mono ?_; rintro e w1 ⟨r, rfl, hown, hb1⟩; have HO := Lib.hid hown; clear hown)
    | (at_lookup; refine wpList_lookup_own_int _ rfl _ _ 131 rfl 3 3 .i64 lawInt Tryz.underlying131 Tryz.underlying3 (zeroInt _) r 3 _ rfl HO.out _ _ rfl (keyOf_int_mk Tryz.underlying3 HW.out) ?_; intro c hat hwc))
  obtain rfl := wide3_at _ _ hat
  obtain ⟨hb, hc, hf⟩ := one_new w _ _ hb1
  have HB := Lib.hid hb; clear hb hb1 hat hwc
  have hi1 := HI.out.old HB.out
  have hcall := read1_any g addr n n w.heap.size bs _ w1 hi1.byt hi1.row HS.out HL.out hc hf
  refine (reach_goes p g bs.length addr n (bitsOf n) 68 (.inl rfl) ⟨w.heap.size, 0, none⟩ _ (by rcases HS.out with rfl | rfl | rfl <;> decide) HA.out HL.out _ ⟨hbd.1, hbd.2.1⟩ hi1.cell hcall).mono ?_
  clear hcall hi1
  rintro e w' ⟨rfl, rfl⟩
  go_wp2
  refine bodyPost_ret (v := .tuple #[.int .u32 (Im.val (Im.win bs addr n)), .int .i64 0]) (by simp [results, Tryz.results40, go_sem, hc]) rfl ⟨rfl, (HB.out.setCell (Nat.le_refl _) _).setCell (Nat.le_refl _) _⟩

end Go.Proofs.YtianojbdabeoeaaGreatDoor
end

section
namespace Go.Proofs.YtianojbdabeoeaaGreatDoor
open Go.RowKit Go.Maps
set_option linter.unusedVariables false

theorem write_refused (ptr : Value) (addr : Nat) (width v code : Int) (w : World) (ha : addr ≤ 4294967295) (hw : (Lit.int .i64 width).wf = true)
    (hk : ∀ (F : Value) (w1 : World), Below w.heap.size w w1 → Calls Tryz.prog 66 #[ptr, .int .u64 addr, .int .i64 (bitsOf width), F] w1 fun e w' => e = .returned (.int .i64 code) ∧ w1 = w') :
    Calls Tryz.prog 98 #[ptr, .int .u32 addr, .int .i64 width, .int .u32 v] w fun e w' => e = .returned (.int .i64 code) ∧ Below w.heap.size w w' := by
  have HW := Lib.hid hw; clear hw
  have HK := Lib.hid hk; clear hk
  go_enter Tryz.func98, Tryz.ntmps98
  go_wp2_with (first
    | (go_at_call 67; refine (widths_any _).mono ?_; rintro e w1 ⟨r, rfl, hown, hb1⟩; have HO := Lib.hid hown; clear hown)
    | (at_lookup; refine wpList_lookup_own_int _ rfl _ _ 131 rfl 3 3 .i64 lawInt Tryz.underlying131 Tryz.underlying3 (zeroInt _) r 3 _ rfl HO.out _ _ rfl (keyOf_int_mk Tryz.underlying3 HW.out) ?_; intro c hat hwc))
  obtain rfl := wide3_at _ _ hat
  obtain ⟨hb, hc, hf⟩ := one_new w _ _ hb1
  have HB := Lib.hid hb; clear hb hb1 hat hwc
  refine (HK.out _ _ HB.out).mono ?_
  rintro e w' ⟨rfl, rfl⟩
  go_wp2
  go_ret
  exact ⟨rfl, HB.out⟩

theorem write_goes (p g : Nat) (bs : List Int) (addr n : Nat) (v : Int) (w : World) (ha : addr ≤ 4294967295) (hv : 0 ≤ v ∧ v ≤ 4294967295) (hi : Img w p g bs) (hs : n = 1 ∨ n = 2 ∨ n = 4) (hal : addr % n = 0) (hlt : addr < bs.length) :
    Calls Tryz.prog 98 #[.pointer (some ⟨p, 0, none⟩), .int .u32 addr, .int .i64 n, .int .u32 v] w fun e w' => e = .returned (.int .i64 0) ∧ Img w' p g (Im.sets bs addr (Im.byt v) n) ∧ w.grownBy w' (some g) := by
  have HI := Lib.hid hi; clear hi
  have hbd := HI.out.bd
  have HW := Lib.hid (show (Lit.int .i64 (n : Int)).wf = true by rcases hs with rfl | rfl | rfl <;> decide)
  have HL := Lib.hid (show addr + n ≤ bs.length by rcases hs with rfl | rfl | rfl <;> omega)
  have HA := Lib.hid hal; clear hal
  have HS := Lib.hid hs; clear hs
  go_enter Tryz.func98, Tryz.ntmps98
  go_wp2_with (first
    | (go_at_call 67; refine (widths_any _).mono ?_; rintro e w1 ⟨r, rfl, hown, hb1⟩; have HO := Lib.hid hown; clear hown)
    | (at_lookup; refine wpList_lookup_own_int _ rfl _ _ 131 rfl 3 3 .i64 lawInt Tryz.underlying131 Tryz.underlying3 (zeroInt _) r 3 _ rfl HO.out _ _ rfl (keyOf_int_mk Tryz.underlying3 HW.out) ?_; intro c hat hwc))
  obtain rfl := wide3_at _ _ hat
  obtain ⟨hb, hc, hf⟩ := one_new w _ _ hb1
  have HB := Lib.hid hb; clear hb hb1 hat hwc
  have hi1 := HI.out.old HB.out
  have hcall := write1_any g addr n n w.heap.size bs v w1 hv hi1.row HS.out HL.out hc
  refine (reach_goes p g bs.length addr n (bitsOf n) 195 (.inr rfl) ⟨w.heap.size, 0, none⟩ _ (by rcases HS.out with rfl | rfl | rfl <;> decide) HA.out HL.out _ ⟨hbd.1, hbd.2.1⟩ hi1.cell hcall).mono ?_
  have HI1 := Lib.hid hi1
  clear hcall hi1
  rintro e w' ⟨rfl, hrow, hgr⟩
  have HR := Lib.hid (And.intro hrow hgr); clear hrow hgr
  go_wp2
  go_ret
  exact ⟨rfl, HI1.out.wrote HR.out.2 HR.out.1 (Im.length_sets _ _ _ _) (Im.byt_sets HI.out.byt _ _ _ (fun i _ => Im.byt_byt v i)), grownBy_trans (below_grown HB.out _) HR.out.2⟩

theorem one_vals (ls : List Int) : (Im.vals ls).toArray.all (·.oneCell') = true := all_oneCell_toArray (ints_oneCell .u8 ls)
theorem Row.range {w : World} {g : Nat} {bs : List Int} (h : Row w g bs) {o n : Nat} (ho : o + n ≤ bs.length) : w.rangeAt g o (Im.vals (Im.win bs o n)) := by
  intro j v hv
  have hj : j < n := by
    have := (List.getElem?_eq_some_iff.1 hv).1
    simpa [Im.vals, Im.length_win ho] using this
  have e : (Im.win bs o n)[j]? = some (bs.getD (o + j) 0) := by
    have h1 := Im.get_win bs o n j hj
    rw [List.getD_eq_getElem?_getD, List.getElem?_eq_getElem (by rw [Im.length_win ho]; exact hj), Option.getD_some] at h1
    rw [List.getElem?_eq_getElem (by rw [Im.length_win ho]; exact hj), h1]
  rw [h.cell (by omega)]
  simp [Im.vals, e] at hv
  rw [← hv]; simp
theorem len_vals (ls : List Int) : (Im.vals ls).length = ls.length := by simp [Im.vals]
theorem grownBy_setRow {a w : World} {g : Nat} (h : a.grownBy w (some g)) (cs : Array Value) : a.grownBy (w.setRow g cs) (some g) :=
  grownBy_trans h ⟨rfl, rfl, rfl, by simp, fun k _ hn => setRow_other _ _ _ _ (by simpa using hn)⟩

end Go.Proofs.YtianojbdabeoeaaGreatDoor
end
