/-
  The contracts of the map of widths and of what goes over the bytes of a part: valueOf, lay.
-/
import Derived.Test.YtchjcfmmnfimlaaImMem
import Derived.Maps.OwnOps
namespace Go.Proofs.Ytchjcfmmnfimlaa
open Go.RowKit Go.Maps
set_option linter.unusedVariables false

theorem wpList_insert_own {H : Type} {P : Program} (w : World) {ops : Array Oper} {rest : List Oper} {o : Oper} {a : Act} {Q : Exit → Act → World → Prop}
    (hg : o.guard = none) (m x v : Operand) (t : TypeId) (hop : o.op = Op.insert t m x v)
    (k e : TypeId) (K : Keyed P k) (ht : P.underlying t = some (.map k e)) (R : Value → Option (DataW H × List MemPlace)) (b n : Nat) (D : DataW H)
    (hm : a.eval m = .map (some b)) (hown : w.ownsMap P k R b n D) (hn : n < maxLen) (key val : Value) (kl : Lit) (hx : a.eval x = key) (hv : a.eval v = val) (hkey : keyOf P k key = some kl)
    (d : DataW H) (ps : List MemPlace) (hval : R val = some (d, ps))
    (hK : ∀ w', w'.ownsMap P k R b (n + 1) (D.put kl d) → w.grownBy w' (some b) → wpList P ops Q rest (a.put o.dst undef) w') :
    wpList P ops Q (o :: rest) a w := by
  refine wpList_plain hg fun K' hK' => ?_
  obtain ⟨w', hrun, r1, r2⟩ := hown.update K ht hn hkey hval
  unfold Oper.wp
  simp [execOp, hop, hm, hx, hv, hrun, Result.andThen]
  exact hK' _ _ (hK w' r1 r2)

theorem lawInt : Keyed Try.prog 3 := int_keyed Try.underlying3
theorem zeroInt (w : World) : (zeroValue 3).run Try.prog w = .ok (.int .i64 0) w := by kernel_rfl
/-- the map of widths -/
def wide3 : DataW Unit := (((DataW.map []).put (.int .i64 1) (.lit (.int .i64 8))).put (.int .i64 2) (.lit (.int .i64 16))).put (.int .i64 4) (.lit (.int .i64 32))
/-- how many bits a width has -/
def bitsOf (n : Int) : Int := if n = 1 then 8 else if n = 2 then 16 else if n = 4 then 32 else 0

theorem widths_any (w : World) :
    Calls Try.prog 35 #[] w fun e w' => ∃ r, e = .returned (.map (some r)) ∧ w'.ownsMap Try.prog 3 (plainElem Try.prog 3) r 3 wide3 ∧ Below w.heap.size w w' := by
  have hmm := @run_makeMap Try.prog
  go_enter Try.func35, Try.ntmps35
  go_wp2_with (first
    | (refine wpList_insert_own (H := Unit) _ rfl _ _ _ 62 rfl 3 3 lawInt Try.underlying62 (plainElem Try.prog 3) w.heap.size 0 (.map []) rfl (World.ownsMap_made w _ _ _) (by unfold maxLen; omega) (.int .i64 1) (.int .i64 8) (.int .i64 1) rfl rfl (keyOf_int_mk Try.underlying3 (by decide)) (.lit (.int .i64 8)) [] (plainElem_int Try.underlying3 (by decide)) ?_; intro w1 hown1 hg1)
    | (refine wpList_insert_own (H := Unit) _ rfl _ _ _ 62 rfl 3 3 lawInt Try.underlying62 (plainElem Try.prog 3) w.heap.size 1 _ rfl hown1 (by unfold maxLen; omega) (.int .i64 2) (.int .i64 16) (.int .i64 2) rfl rfl (keyOf_int_mk Try.underlying3 (by decide)) (.lit (.int .i64 16)) [] (plainElem_int Try.underlying3 (by decide)) ?_; intro w2 hown2 hg2)
    | (refine wpList_insert_own (H := Unit) _ rfl _ _ _ 62 rfl 3 3 lawInt Try.underlying62 (plainElem Try.prog 3) w.heap.size 2 _ rfl hown2 (by unfold maxLen; omega) (.int .i64 4) (.int .i64 32) (.int .i64 4) rfl rfl (keyOf_int_mk Try.underlying3 (by decide)) (.lit (.int .i64 32)) [] (plainElem_int Try.underlying3 (by decide)) ?_; intro w3 hown3 hg3))
  go_ret
  have h1 : (w.alloc (Obj.map #[] 0)).heap.size = w.heap.size + 1 := by simp
  have h2 := hg1.size
  have h3 := hg2.size
  exact ⟨_, rfl, hown3, ((((Below.refl _ _).alloc (Nat.le_refl _) _).grown hg1 (by omega) (fun k hk => by cases hk; exact Nat.le_refl _)).grown hg2 (by omega) (fun k hk => by cases hk; exact Nat.le_refl _)).grown hg3 (by omega) (fun k hk => by cases hk; exact Nat.le_refl _)⟩

theorem valueOf1 (g o cap : Nat) (a : Int) (w : World) (ba : 0 ≤ a ∧ a ≤ 255) (h0 : w.cell? ⟨g, o, none⟩ = some (.int .u8 a)) :
    Calls Try.prog 37 #[.slice (some ⟨g, o, none⟩) 1 cap] w fun e w' => e = .returned (.int .u32 (Im.val [a])) ∧ w = w' := by
  go_enter Try.func37, Try.ntmps37
  go_wp2
  refine wp_loop_rounds 2 ?_
  rw [rounds_succ]
  go_wp2
  rw [rounds_succ]
  go_wp2
  go_ret
  exact ⟨ret_int (by rw [Im.or0 ba.1 (by omega), Im.val1]), rfl⟩
theorem valueOf2 (g o cap : Nat) (a b : Int) (w : World) (ba : 0 ≤ a ∧ a ≤ 255) (bb : 0 ≤ b ∧ b ≤ 255) (h0 : w.cell? ⟨g, o, none⟩ = some (.int .u8 a)) (h1 : w.cell? ⟨g, o + 1, none⟩ = some (.int .u8 b)) :
    Calls Try.prog 37 #[.slice (some ⟨g, o, none⟩) 2 cap] w fun e w' => e = .returned (.int .u32 (Im.val [a, b])) ∧ w = w' := by
  go_enter Try.func37, Try.ntmps37
  go_wp2
  refine wp_loop_rounds 3 ?_
  rw [rounds_succ]
  go_wp2
  rw [rounds_succ]
  go_wp2
  rw [rounds_succ]
  go_wp2
  go_ret
  exact ⟨ret_int (by rw [Im.or0 ba.1 (by omega), Im.or8 ba.1 (by omega) bb.1 bb.2, Im.val2]), rfl⟩
theorem valueOf4 (g o cap : Nat) (a b c d : Int) (w : World) (ba : 0 ≤ a ∧ a ≤ 255) (bb : 0 ≤ b ∧ b ≤ 255) (bc : 0 ≤ c ∧ c ≤ 255) (bd : 0 ≤ d ∧ d ≤ 255) (h0 : w.cell? ⟨g, o, none⟩ = some (.int .u8 a)) (h1 : w.cell? ⟨g, o + 1, none⟩ = some (.int .u8 b)) (h2 : w.cell? ⟨g, o + 2, none⟩ = some (.int .u8 c)) (h3 : w.cell? ⟨g, o + 3, none⟩ = some (.int .u8 d)) :
    Calls Try.prog 37 #[.slice (some ⟨g, o, none⟩) 4 cap] w fun e w' => e = .returned (.int .u32 (Im.val [a, b, c, d])) ∧ w = w' := by
  go_enter Try.func37, Try.ntmps37
  go_wp2
  refine wp_loop_rounds 5 ?_
  rw [rounds_succ]
  go_wp2
  rw [rounds_succ]
  go_wp2
  rw [rounds_succ]
  go_wp2
  rw [rounds_succ]
  go_wp2
  rw [rounds_succ]
  go_wp2
  go_ret
  exact ⟨ret_int (by rw [Im.or0 ba.1 (by omega), Im.or8 ba.1 (by omega) bb.1 bb.2, Im.or16 (by omega) (by omega) bc.1 bc.2, Im.or24 (by omega) (by omega) bd.1 bd.2, Im.val4]), rfl⟩

theorem lay1 (g o cap : Nat) (v : Int) (bs : List Int) (w : World) (hv : 0 ≤ v ∧ v ≤ 4294967295) (hr : Row w g bs) (ho : o + 1 ≤ bs.length) :
    Calls Try.prog 39 #[.slice (some ⟨g, o, none⟩) 1 cap, .int .u32 v] w fun e w' => e = .returned (.tuple #[]) ∧ Row w' g (Im.sets bs o (Im.byt v) 1) ∧ w.grownBy w' (some g) := by
  have c0 := hr.cell (j := o) (by omega)
  have f0 := hr.free (o)
  have HR := Lib.hid hr; clear hr
  go_enter Try.func39, Try.ntmps39
  go_wp2
  refine wp_loop_rounds 2 ?_
  rw [rounds_succ]
  go_wp2
  rw [rounds_succ]
  go_wp2
  go_end0
  exact ⟨rfl, by rw [Im.sets1_eq]; exact (HR.out.set o _), (grownBy_set (World.grownBy.refl _ _) _ _)⟩
theorem lay2 (g o cap : Nat) (v : Int) (bs : List Int) (w : World) (hv : 0 ≤ v ∧ v ≤ 4294967295) (hr : Row w g bs) (ho : o + 2 ≤ bs.length) :
    Calls Try.prog 39 #[.slice (some ⟨g, o, none⟩) 2 cap, .int .u32 v] w fun e w' => e = .returned (.tuple #[]) ∧ Row w' g (Im.sets bs o (Im.byt v) 2) ∧ w.grownBy w' (some g) := by
  have c0 := hr.cell (j := o) (by omega)
  have f0 := hr.free (o)
  have c1 := hr.cell (j := o + 1) (by omega)
  have f1 := hr.free (o + 1)
  have HR := Lib.hid hr; clear hr
  go_enter Try.func39, Try.ntmps39
  go_wp2
  refine wp_loop_rounds 3 ?_
  rw [rounds_succ]
  go_wp2
  rw [rounds_succ]
  go_wp2
  rw [rounds_succ]
  go_wp2
  go_end0
  exact ⟨rfl, by rw [Im.sets2_eq]; exact ((HR.out.set o _).set (o + 1) _), (grownBy_set (grownBy_set (World.grownBy.refl _ _) _ _) _ _)⟩
theorem lay4 (g o cap : Nat) (v : Int) (bs : List Int) (w : World) (hv : 0 ≤ v ∧ v ≤ 4294967295) (hr : Row w g bs) (ho : o + 4 ≤ bs.length) :
    Calls Try.prog 39 #[.slice (some ⟨g, o, none⟩) 4 cap, .int .u32 v] w fun e w' => e = .returned (.tuple #[]) ∧ Row w' g (Im.sets bs o (Im.byt v) 4) ∧ w.grownBy w' (some g) := by
  have c0 := hr.cell (j := o) (by omega)
  have f0 := hr.free (o)
  have c1 := hr.cell (j := o + 1) (by omega)
  have f1 := hr.free (o + 1)
  have c2 := hr.cell (j := o + 2) (by omega)
  have f2 := hr.free (o + 2)
  have c3 := hr.cell (j := o + 3) (by omega)
  have f3 := hr.free (o + 3)
  have HR := Lib.hid hr; clear hr
  go_enter Try.func39, Try.ntmps39
  go_wp2
  refine wp_loop_rounds 5 ?_
  rw [rounds_succ]
  go_wp2
  rw [rounds_succ]
  go_wp2
  rw [rounds_succ]
  go_wp2
  rw [rounds_succ]
  go_wp2
  rw [rounds_succ]
  go_wp2
  go_end0
  exact ⟨rfl, by rw [Im.sets4_eq _ _ hv.2 hv.1]; exact ((((HR.out.set o _).set (o + 1) _).set (o + 2) _).set (o + 3) _), (grownBy_set (grownBy_set (grownBy_set (grownBy_set (World.grownBy.refl _ _) _ _) _ _) _ _) _ _)⟩

end Go.Proofs.Ytchjcfmmnfimlaa
