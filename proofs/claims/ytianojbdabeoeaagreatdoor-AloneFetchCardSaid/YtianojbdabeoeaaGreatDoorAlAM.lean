/-
  AlAM: HlFun, AlMath, AlLow, AlBehind in one text.
-/
import Derived.Test.YtianojbdabeoeaaGreatDoorHlEM
import Derived.Test.YtianojbdabeoeaaGreatDoorImNM
import Derived.BigRegion
import Derived.StillTailTactics
import Derived.Test.YtianojbdabeoeaaGreatDoorOgM
import Derived.BigQuiet

section
namespace Go.Proofs.YtianojbdabeoeaaGreatDoor
open Go.RowKit Ht
set_option linter.unusedVariables false
namespace Ht
/-- what is told of a word, one of it -/
noncomputable def oS (h : H) (x size tv : Int) (tok : Bool) : S := (out_is h x size tv tok).choose
theorem out_err {h : H} {x size tv : Int} {tok : Bool} {s : S} {err : Int} (o : Out h x size tv tok s err) (g : goes h = true) : err = 0 := by
  cases o with
  | arg g' => rw [g] at g'; cases g'
  | ill _ _ => rfl
  | halt _ _ _ _ => rfl
  | ok _ _ _ _ => rfl
theorem oS_out {h : H} {x size tv : Int} {tok : Bool} (g : goes h = true) : Out h x size tv tok (oS h x size tv tok) 0 := by
  obtain ⟨err, o⟩ := (out_is h x size tv tok).choose_spec
  have e := out_err o g
  rw [e] at o; exact o
end Ht
theorem act_f {h : H} {x size : Int} (g : goes h = true) (hb : HB h) (hx : Is.Wd x) (hs : -9223372036854775808 ≤ size ∧ size ≤ 9223372036854775807) (w : World) :
    Calls Tryz.prog 12 #[hartV h, .int .u32 x, .int .i64 size] w fun e w' => e = .returned (.tuple #[accV (oS h x size 0 false).a, .int .i64 (oS h x size 0 false).h.cause, .int .i64 0]) ∧ Below w.heap.size w w' :=
  act_any (oS_out g) hb hx hs w
theorem done_f {h : H} {x size tv : Int} {tok : Bool} (g : goes h = true) (hb : HB h) (hx : Is.Wd x) (hs : -9223372036854775808 ≤ size ∧ size ≤ 9223372036854775807) (ht : Ar.Wd tv) (w : World) :
    Calls Tryz.prog 11 #[hartV h, .int .u32 x, .int .i64 size, ansV tv tok] w fun e w' => e = .returned (.tuple #[hartV (oS h x size tv tok).h, .int .i64 0]) ∧ Below w.heap.size w w' :=
  done_any (oS_out g) hb hx hs ht w
theorem wpList_valW {P : Program} {ops : Array Oper} {rest : List Oper} {o : Oper} {a : Act} {w : World} {Q : Exit → Act → World → Prop} (hgd : Region.wanted o (yielded ops a.tmps) = true) (v : Value)
    (hl : (execOp a.eval o).run P w = .ok (.value v) w) (h : wpList P ops Q rest (a.put o.dst v) w) : wpList P ops Q (o :: rest) a w :=
  wpList_step fun K hK => by rw [if_pos hgd]; unfold Oper.wp; rw [hl]; exact hK _ _ h
theorem run_neq_op {P : Program} {a : Act} {o : Oper} (t : TypeId) (x y : Operand) (ho : o.op = .binOp .neq t x y t) (xs ys : Array Value) (hx : a.eval x = .agg xs) (hy : a.eval y = .agg ys) (b : Bool) (hm : P.eqGuardType P.depth t = false)
    (hb : ∀ w, (binOp .neq t (.agg xs) (.agg ys)).run P w = .ok (.bool b) w) (w : World) : (execOp a.eval o).run P w = .ok (.value (.bool b)) w := by
  unfold execOp
  rw [ho]
  simp only [hx, hy]
  simp only [Sem.run_bind, run_eqGuard_agg w .neq t x y xs ys hm, Result.andThen_ok, hb, Sem.run_pure]
end Go.Proofs.YtianojbdabeoeaaGreatDoor
end

section
namespace Go.Proofs.YtianojbdabeoeaaGreatDoor
open Go.RowKit Ht
set_option linter.unusedVariables false
namespace Al
/-- a commit -/
structure C where
  pc : Int
  word : Int
  a : A
  tv : Int
  tok : Bool
  rd : Int
  value : Int
  cause : Int
def ccells (c : C) : List Value := [.int .u32 c.pc, .int .u32 c.word, .int .i64 c.a.kind, .int .u32 c.a.addr, .int .i64 c.a.width, .int .u32 c.a.value, .int .i64 c.a.op, .bool c.a.aq, .bool c.a.rl, .int .u32 c.tv, .bool c.tok, .int .i64 c.rd, .int .u32 c.value, .int .i64 c.cause]
def comV (c : C) : Value := .agg (ccells c).toArray
abbrev czero : Array Value := #[.int .u32 0, .int .u32 0, .int .i64 0, .int .u32 0, .int .i64 0, .int .u32 0, .int .i64 0, .bool false, .bool false, .int .u32 0, .bool false, .int .i64 0, .int .u32 0, .int .i64 0]
abbrev xzero : Array Value := #[.int .u32 0, .bool false]
/-- does an access hear an answer? -/
def hears (k : Int) : Bool := k == 1 || k == 3 || k == 4 || k == 5
/-- what it hears of one -/
def hv (a : A) (tv : Int) : Int := if hears a.kind then low tv a.width.toNat else 0
def ho (a : A) (tok : Bool) : Bool := if hears a.kind then tok else false
open Classical in
/-- the instruction that a word is -/
noncomputable def opOf (x : Int) : Nat := if h : ∃ op, Hit op x then h.choose else 0
theorem opOf_hit {x : Int} {op : Nat} (h : Hit op x) : Hit (opOf x) x := by
  have e : ∃ op, Hit op x := ⟨op, h⟩
  unfold opOf
  rw [dif_pos e]
  exact e.choose_spec
noncomputable def iOf (x : Int) : I := insOf (opOf x) x
/-- which register a word wrote, of the hart behind it, and what it is then -/
noncomputable def wr (x : Int) (h : H) : Int := if h.cause = 0 then ((iOf x).rd : Int) else 0
noncomputable def wv (x : Int) (h : H) : Int := if h.cause = 0 then h.R (iOf x).rd else 0
/-- a hart behind a word, and the commit -/
noncomputable def done (h : H) (x size : Int) (a : A) (tv : Int) (tok : Bool) : H := (oS h x size (hv a tv) (ho a tok)).h
noncomputable def com (h : H) (x size : Int) (a : A) (tv : Int) (tok : Bool) : C :=
  ⟨h.pc, x, a, hv a tv, ho a tok, wr x (done h x size a tv tok), wv x (done h x size a tv tok), (done h x size a tv tok).cause⟩
/-- the word at a place -/
def there (xs : List Int) (pc : Int) : Bool := pc % 4 == 0 && decide (pc / 4 < xs.length)
def word (xs : List Int) (pc : Int) : Int := if there xs pc then xs.getD (pc / 4).toNat 0 else 0
end Al
/-- the words of a code, as they lie -/
def CodeIn (w : World) (a : Option Addr) (xs : List Int) : Prop :=
  (0 < xs.length → ∃ g o, a = some ⟨g, o, none⟩ ∧ ∀ j, j < xs.length → w.cell? ⟨g, o + j, none⟩ = some (.int .u32 (xs.getD j 0))) ∧ ∀ x ∈ xs, Is.Wd x
theorem CodeIn.below {w w' : World} {a : Option Addr} {xs : List Int} (h : CodeIn w a xs) (hb : Below w.heap.size w w') : CodeIn w' a xs :=
  ⟨fun h0 => by
    obtain ⟨g, o, ha, hc⟩ := h.1 h0
    exact ⟨g, o, ha, fun j hj => (hb.cell (p := ⟨g, o + j, none⟩) (World.block_lt_of_cell? w _ (hc j hj))).trans (hc j hj)⟩, h.2⟩
theorem Al.word_wd {w : World} {a : Option Addr} {xs : List Int} (h : CodeIn w a xs) (pc : Int) : Is.Wd (Al.word xs pc) := by
  unfold Al.word
  split
  · rename_i ht
    rw [List.getD_eq_getElem?_getD]
    cases hx : xs[(pc / 4).toNat]? with
    | none => simp [Is.Wd]
    | some x => simpa using h.2 x (List.mem_of_getElem? hx)
  · simp [Is.Wd]
end Go.Proofs.YtianojbdabeoeaaGreatDoor
end

section
namespace Go.Proofs.YtianojbdabeoeaaGreatDoor
open Go.RowKit Ht
set_option linter.unusedVariables false
set_option maxHeartbeats 1000000 in
theorem fetch_any (a : Option Addr) (n c : Nat) (xs : List Int) (hl : xs.length = n) (hn : n ≤ 9223372036854775807) (pc : Int) (hp : Ar.Wd pc) (w : World) (hc : CodeIn w a xs) :
    Calls Tryz.prog 29 #[.slice a n c, .int .u32 pc] w fun e w' => e = .returned (.tuple #[.int .u32 (Al.word xs pc), .bool (Al.there xs pc)]) ∧ w = w' := by
  have HC := Lib.hid hc; have HL := Lib.hid hl; clear hc hl
  unfold Ar.Wd at hp
  obtain ⟨k, hk⟩ : ∃ k : Nat, pc / 4 = k := ⟨(pc / 4).toNat, by omega⟩
  have hkt : pc.tdiv 4 = (k : Int) := by rw [Int.tdiv_eq_ediv_of_nonneg hp.1]; exact hk
  have hm : (k : Int) % 4294967296 = k := by omega
  have hm2 : k % 4294967296 = k := by omega
  have hmt : pc.tmod 4 = pc % 4 := Int.tmod_eq_emod_of_nonneg hp.1
  by_cases h4 : pc % 4 = 0
  · rw [h4] at hmt
    by_cases hkn : k < n
    · obtain ⟨g, o, rfl, hcs⟩ := HC.out.1 (by rw [HL.out]; omega)
      have hx := hcs k (by rw [HL.out]; exact hkn)
      have ht : Al.there xs pc = true := by unfold Al.there; rw [HL.out]; simp [h4]; omega
      have hw : Al.word xs pc = xs.getD k 0 := by unfold Al.word; rw [if_pos ht, hk]; rfl
      rw [ht, hw]
      have hki : (k : Int) < (n : Int) := by omega
      clear ht hw h4 hcs hp hk
      go_enter Tryz.func29, Tryz.ntmps29
      go_wp2
      go_ret2
      exact ⟨rfl, rfl⟩
    · have ht : Al.there xs pc = false := by unfold Al.there; rw [HL.out]; simp [h4]; omega
      have hw : Al.word xs pc = 0 := by unfold Al.word; rw [ht]; rfl
      rw [ht, hw]
      have hki : ¬ (k : Int) < (n : Int) := by omega
      clear ht hw h4 hp hk
      go_enter Tryz.func29, Tryz.ntmps29
      go_wp2
      all_goals first | (exfalso; omega) | (go_ret2; exact ⟨rfl, rfl⟩)
  · have ht : Al.there xs pc = false := by unfold Al.there; simp [h4]
    have hw : Al.word xs pc = 0 := by unfold Al.word; rw [ht]; rfl
    rw [ht, hw]
    have hd : (pc.tmod 4 != 0) = true := by rw [hmt]; simpa using h4
    clear ht hw h4 hp hk hmt
    go_enter Tryz.func29, Tryz.ntmps29
    go_wp2
    go_ret2
    exact ⟨rfl, rfl⟩
theorem hears_any (k : Int) (w : World) :
    Calls Tryz.prog 77 #[.int .i64 k] w fun e w' => e = .returned (.bool (Al.hears k)) ∧ w = w' := by
  by_cases h1 : k = 1
  · subst h1; go_enter Tryz.func77, Tryz.ntmps77; go_wp2; go_ret; exact ⟨rfl, rfl⟩
  by_cases h3 : k = 3
  · subst h3; go_enter Tryz.func77, Tryz.ntmps77; go_wp2; go_ret; exact ⟨rfl, rfl⟩
  by_cases h4 : k = 4
  · subst h4; go_enter Tryz.func77, Tryz.ntmps77; go_wp2; go_ret; exact ⟨rfl, rfl⟩
  by_cases h5 : k = 5
  · subst h5; go_enter Tryz.func77, Tryz.ntmps77; go_wp2; go_ret; exact ⟨rfl, rfl⟩
  have e : Al.hears k = false := by unfold Al.hears; simp [h1, h3, h4, h5]
  rw [e]
  have n1 : (k == 1) = false := by simpa using h1
  have n3 : (k == 3) = false := by simpa using h3
  have n4 : (k == 4) = false := by simpa using h4
  have n5 : (k == 5) = false := by simpa using h5
  clear h1 h3 h4 h5 e
  go_enter Tryz.func77, Tryz.ntmps77
  go_wp2
  go_ret
  exact ⟨rfl, rfl⟩
/-- what an access hears has a width -/
def Al.WOk (a : A) : Prop := Al.hears a.kind = true → a.width = 1 ∨ a.width = 2 ∨ a.width = 4
set_option maxRecDepth 100000 in
set_option maxHeartbeats 1000000 in
theorem heard_any (a : A) (tv : Int) (tok : Bool) (ha : Al.WOk a) (ht : Ar.Wd tv) (w : World) :
    Calls Tryz.prog 218 #[accV a, ansV tv tok] w fun e w' => e = .returned (ansV (Al.hv a tv) (Al.ho a tok)) ∧ Below w.heap.size w w' := by
  have k1 := heap_a3 w (.cells (acells a).toArray 37) (.cells #[.int .u32 tv, .bool tok] 28) (.cells Al.xzero 28)
  have b1 : Below w.heap.size w (((w.alloc (.cells (acells a).toArray 37)).alloc (.cells #[.int .u32 tv, .bool tok] 28)).alloc (.cells Al.xzero 28)) := (((Below.refl w.heap.size w).alloc (Nat.le_refl _) _).alloc (by simp only [World.size_alloc]; omega) _).alloc (by simp only [World.size_alloc]; omega) _
  have k0 : (((w.alloc (.cells (acells a).toArray 37)).alloc (.cells #[.int .u32 tv, .bool tok] 28)).alloc (.cells Al.xzero 28)).cell? ⟨w.heap.size, 0, none⟩ = some (.int .i64 a.kind) := by rw [cell_of_row _ _ 0 _ _ _ k1.1]; rfl
  have k2 : (((w.alloc (.cells (acells a).toArray 37)).alloc (.cells #[.int .u32 tv, .bool tok] 28)).alloc (.cells Al.xzero 28)).cell? ⟨w.heap.size, 2, none⟩ = some (.int .i64 a.width) := by rw [cell_of_row _ _ 2 _ _ _ k1.1]; rfl
  have x0 : (((w.alloc (.cells (acells a).toArray 37)).alloc (.cells #[.int .u32 tv, .bool tok] 28)).alloc (.cells Al.xzero 28)).cell? ⟨w.heap.size + 1, 0, none⟩ = some (.int .u32 tv) := by rw [cell_of_row _ _ 0 _ _ _ k1.2.1]; rfl
  have f0 := frozen_of_row (((w.alloc (.cells (acells a).toArray 37)).alloc (.cells #[.int .u32 tv, .bool tok] 28)).alloc (.cells Al.xzero 28)) (w.heap.size + 1) 0 _ _ k1.2.1
  have K := Lib.hid k1; have HT := Lib.hid ht; have B1 := Lib.hid b1; clear k1 ht b1
  cases hk : Al.hears a.kind with
  | false =>
    have e1 : Al.hv a tv = 0 := by unfold Al.hv; rw [hk]; rfl
    have e2 : Al.ho a tok = false := by unfold Al.ho; rw [hk]; rfl
    rw [e1, e2]
    unfold accV ansV
    go_enter Tryz.func218, Tryz.ntmps218
    go_wp2_with (first
      | (go_at_call 77; refine (hears_any _ _).mono ?_; rintro e w1 ⟨rfl, rfl⟩; rw [hk])
      | (refine wpList_store_row rfl 28 (.tmp 4) (.tmp 9) rfl (w.heap.size + 2) Al.xzero rfl rfl 28 Al.xzero K.out.2.2 (by kernel_rfl) (by kernel_rfl) (by kernel_rfl) ?_))
    refine bodyPost_ret (v := .agg #[.int .u32 0, .bool false]) ?_ rfl ⟨rfl, below_setRow B1.out (by omega)⟩
    exact results_cell_row (fn := Tryz.f218) rfl _ _ (w.heap.size + 2) 28 #[.int .u32 0, .bool false] (0, 0) _ rfl (setRow_heap _ _ _ _ _ _ K.out.2.2) Tryz.underlying28 rfl (by kernel_rfl)
  | true =>
    have e2 : Al.ho a tok = tok := by unfold Al.ho; rw [hk]; rfl
    obtain ⟨n, hn⟩ : ∃ n, Al.hv a tv = n := ⟨_, rfl⟩
    have K2 := Lib.hid (heap_a3 w (.cells (acells a).toArray 37) (.cells #[.int .u32 n, .bool tok] 28) (.cells Al.xzero 28))
    have B2 := Lib.hid ((((Below.refl w.heap.size w).alloc (Nat.le_refl _) (.cells (acells a).toArray 37)).alloc (by simp only [World.size_alloc]; omega) (.cells #[.int .u32 n, .bool tok] 28)).alloc (by simp only [World.size_alloc]; omega) (.cells Al.xzero 28)).drew
    rw [e2, hn]
    have hcase : ∃ k : Int, a.width = k ∧ (k = 1 ∨ k = 2 ∨ k = 4) := ⟨_, rfl, ha hk⟩
    have hv0 : Al.hv a tv = low tv a.width.toNat := by unfold Al.hv; rw [hk]; rfl
    rw [hn] at hv0
    unfold accV ansV
    obtain ⟨k, hw, hk3⟩ := hcase
    rw [hw] at k2 hv0
    rcases hk3 with rfl | rfl | rfl
    · have hb : bits .and .u32 tv 255 = n := by rw [low_1 HT.out, hv0]; rfl
      clear hv0 hw e2
      go_enter Tryz.func218, Tryz.ntmps218
      go_wp2_with (go_at_call 77; refine (hears_any _ _).mono ?_; rintro e w1 ⟨rfl, rfl⟩; rw [hk])
      go_region
      go_wp2_with (first
        | (refine wpList_load_row rfl 28 (.tmp 3) rfl (w.heap.size + 1) rfl 28 #[.int .u32 n, .bool tok] (0, 0) _ K2.out.2.1 Tryz.underlying28 rfl (by kernel_rfl) ?_)
        | (refine wpList_store_row rfl 28 (.tmp 4) (.tmp 19) rfl (w.heap.size + 2) #[.int .u32 n, .bool tok] rfl rfl 28 Al.xzero K2.out.2.2 (by kernel_rfl) (by kernel_rfl) (by kernel_rfl) ?_))
      refine bodyPost_ret (v := .agg #[.int .u32 n, .bool tok]) ?_ rfl ⟨rfl, below_setRow B2.out (by omega)⟩
      exact results_cell_row (fn := Tryz.f218) rfl _ _ (w.heap.size + 2) 28 #[.int .u32 n, .bool tok] (0, 0) _ rfl (setRow_heap _ _ _ _ _ _ K2.out.2.2) Tryz.underlying28 rfl (by kernel_rfl)
    · have hb : bits .and .u32 tv 65535 = n := by rw [low_2 HT.out, hv0]; rfl
      clear hv0 hw e2
      go_enter Tryz.func218, Tryz.ntmps218
      go_wp2_with (go_at_call 77; refine (hears_any _ _).mono ?_; rintro e w1 ⟨rfl, rfl⟩; rw [hk])
      go_region
      go_wp2_with (first
        | (refine wpList_load_row rfl 28 (.tmp 3) rfl (w.heap.size + 1) rfl 28 #[.int .u32 n, .bool tok] (0, 0) _ K2.out.2.1 Tryz.underlying28 rfl (by kernel_rfl) ?_)
        | (refine wpList_store_row rfl 28 (.tmp 4) (.tmp 19) rfl (w.heap.size + 2) #[.int .u32 n, .bool tok] rfl rfl 28 Al.xzero K2.out.2.2 (by kernel_rfl) (by kernel_rfl) (by kernel_rfl) ?_))
      refine bodyPost_ret (v := .agg #[.int .u32 n, .bool tok]) ?_ rfl ⟨rfl, below_setRow B2.out (by omega)⟩
      exact results_cell_row (fn := Tryz.f218) rfl _ _ (w.heap.size + 2) 28 #[.int .u32 n, .bool tok] (0, 0) _ rfl (setRow_heap _ _ _ _ _ _ K2.out.2.2) Tryz.underlying28 rfl (by kernel_rfl)
    · have hb : bits .and .u32 tv 4294967295 = n := by rw [low_4 HT.out, hv0]; rfl
      clear hv0 hw e2
      go_enter Tryz.func218, Tryz.ntmps218
      go_wp2_with (go_at_call 77; refine (hears_any _ _).mono ?_; rintro e w1 ⟨rfl, rfl⟩; rw [hk])
      go_region
      go_wp2_with (first
        | (refine wpList_load_row rfl 28 (.tmp 3) rfl (w.heap.size + 1) rfl 28 #[.int .u32 n, .bool tok] (0, 0) _ K2.out.2.1 Tryz.underlying28 rfl (by kernel_rfl) ?_)
        | (refine wpList_store_row rfl 28 (.tmp 4) (.tmp 19) rfl (w.heap.size + 2) #[.int .u32 n, .bool tok] rfl rfl 28 Al.xzero K2.out.2.2 (by kernel_rfl) (by kernel_rfl) (by kernel_rfl) ?_))
      refine bodyPost_ret (v := .agg #[.int .u32 n, .bool tok]) ?_ rfl ⟨rfl, below_setRow B2.out (by omega)⟩
      exact results_cell_row (fn := Tryz.f218) rfl _ _ (w.heap.size + 2) 28 #[.int .u32 n, .bool tok] (0, 0) _ rfl (setRow_heap _ _ _ _ _ _ K2.out.2.2) Tryz.underlying28 rfl (by kernel_rfl)
end Go.Proofs.YtianojbdabeoeaaGreatDoor
end

section
namespace Go.Proofs.YtianojbdabeoeaaGreatDoor
open Go.RowKit Ht
set_option linter.unusedVariables false
theorem Al.iOf_rd {x : Int} (hx : Is.Wd x) : (Al.iOf x).rd ≤ 31 := by
  have h := (reg_bd hx (Is.fm (Al.opOf x))).1
  show (Is.rdO (Is.fm (Al.opOf x)) x).toNat ≤ 31
  omega
set_option maxRecDepth 100000 in
set_option maxHeartbeats 1000000 in
theorem written_any (x : Int) (h : H) (hx : Is.Wd x) (hh : h.cause = 0 → ∃ op, Hit op x) (w : World) :
    Calls Tryz.prog 219 #[.int .u32 x, hartV h] w fun e w' => e = .returned (.tuple #[.int .i64 (Al.wr x h), .int .u32 (Al.wv x h)]) ∧ Below w.heap.size w w' := by
  have k0 := heap_alloc_new w (.cells (hcells h).toArray 26)
  have c34 : (w.alloc (.cells (hcells h).toArray 26)).cell? ⟨w.heap.size, 34, none⟩ = some (.int .i64 h.cause) := by rw [cell_of_row _ _ 34 _ _ _ k0]; rfl
  have b0 : Below w.heap.size w (w.alloc (.cells (hcells h).toArray 26)) := (Below.refl w.heap.size w).alloc (Nat.le_refl _) _
  have K0 := Lib.hid k0; have B0 := Lib.hid b0; clear k0 b0
  by_cases hc : h.cause = 0
  · obtain ⟨op, hop⟩ := hh hc
    have HD := Lib.hid (fun w => dec_hit x hx (Al.opOf x) (Al.opOf_hit hop) w)
    have hr31 := Al.iOf_rd hx
    have e1 : Al.wr x h = ((Al.iOf x).rd : Int) := by unfold Al.wr; rw [if_pos hc]
    have e2 : Al.wv x h = h.R (Al.iOf x).rd := by unfold Al.wv; rw [if_pos hc]
    rw [e1, e2]
    have hi : insOf (Al.opOf x) x = Al.iOf x := rfl
    rw [hi] at HD
    generalize Al.iOf x = i at *
    rw [hc] at c34
    clear hop hh hx e1 e2 hi hc
    unfold hartV
    go_enter Tryz.func219, Tryz.ntmps219
    go_wp2_with fail
    refine (HD.out _).mono ?_
    rintro e w1 ⟨rfl, hb⟩
    have r0 := (hb.block w.heap.size (by simp only [World.size_alloc]; omega)).trans K0.out
    have b1 := B0.out.trans (hb.mono (by simp only [World.size_alloc]; omega))
    have z1 : w.heap.size + 1 ≤ w1.heap.size := by have := hb.size; simpa only [World.size_alloc] using this
    clear hb c34
    obtain ⟨W2, hW2⟩ : ∃ W2, W2 = (w1.alloc (.cells izero 85)).setRow w1.heap.size (icells i).toArray := ⟨_, rfl⟩
    have q0 : W2.heap[w.heap.size]? = some (.cells (hcells h).toArray 26 (0, 0)) := by rw [hW2]; exact (setRow_other _ _ _ _ (by omega)).trans ((Below.heap_alloc _ _ _ (by omega)).trans r0)
    have q1 : W2.heap[w1.heap.size]? = some (.cells (icells i).toArray 85 (0, 0)) := by rw [hW2]; exact setRow_heap _ _ _ _ _ _ (heap_alloc_new _ _)
    have b2 : Below w.heap.size w W2 := by rw [hW2]; exact below_setRow (b1.alloc b1.size _) b1.size
    have crd : W2.cell? ⟨w1.heap.size, 1, none⟩ = some (.int .i64 (i.rd : Int)) := by rw [cell_of_row W2 _ 1 _ _ _ q1]; rfl
    have creg : W2.cell? ⟨w.heap.size, 2 + i.rd, none⟩ = some (.int .u32 (h.R i.rd)) := by rw [cell_of_row W2 _ _ _ _ _ q0]; simpa using hcR h i.rd hr31
    have hri : (i.rd : Int) < 32 := by omega
    have HW2 := Lib.hid hW2; have B2 := Lib.hid b2; clear hW2 b2 q0 q1 r0 b1 z1 K0 B0 HD
    unfold instV
    go_wp2_with (have hx := HW2.out; clear HW2; refine wpList_store_row rfl 85 (.tmp 6) (.tmp 14) rfl w1.heap.size (icells i).toArray rfl rfl 85 izero (heap_alloc_new _ _) (by kernel_rfl) (by kernel_rfl) (by kernel_rfl) ?_; rw [← hx]; clear hx)
    go_quiet (fail)
    go_wp2
    go_ret2
    exact ⟨rfl, below_drewN B2.out⟩
  · have e1 : Al.wr x h = 0 := by unfold Al.wr; rw [if_neg hc]
    have e2 : Al.wv x h = 0 := by unfold Al.wv; rw [if_neg hc]
    rw [e1, e2]
    have hd : (h.cause != 0) = true := by simpa using hc
    clear hc e1 e2 hh
    unfold hartV
    go_enter Tryz.func219, Tryz.ntmps219
    go_wp2
    go_ret2
    exact ⟨rfl, B0.out⟩
theorem heap_a5 (w : World) (o1 o2 o3 o4 o5 : Obj) : (((((w.alloc o1).alloc o2).alloc o3).alloc o4).alloc o5).heap[w.heap.size]? = some o1 ∧ (((((w.alloc o1).alloc o2).alloc o3).alloc o4).alloc o5).heap[w.heap.size + 1]? = some o2 ∧
    (((((w.alloc o1).alloc o2).alloc o3).alloc o4).alloc o5).heap[w.heap.size + 2]? = some o3 ∧ (((((w.alloc o1).alloc o2).alloc o3).alloc o4).alloc o5).heap[w.heap.size + 3]? = some o4 ∧ (((((w.alloc o1).alloc o2).alloc o3).alloc o4).alloc o5).heap[w.heap.size + 4]? = some o5 ∧
    (((((w.alloc o1).alloc o2).alloc o3).alloc o4).alloc o5).heap.size = w.heap.size + 5 ∧ Below w.heap.size w (((((w.alloc o1).alloc o2).alloc o3).alloc o4).alloc o5) := by
  obtain ⟨h1, h2, h3, h4⟩ := heap_a4 w o1 o2 o3 o4
  have z : ((((w.alloc o1).alloc o2).alloc o3).alloc o4).heap.size = w.heap.size + 4 := by simp only [World.size_alloc]
  have p := fun (k : Nat) (h : k < w.heap.size + 4) => Below.heap_alloc ((((w.alloc o1).alloc o2).alloc o3).alloc o4) o5 k (by rw [z]; exact h)
  have e5 := heap_alloc_new ((((w.alloc o1).alloc o2).alloc o3).alloc o4) o5
  rw [z] at e5
  refine ⟨(p _ (by omega)).trans h1, (p _ (by omega)).trans h2, (p _ (by omega)).trans h3, (p _ (by omega)).trans h4, e5, by simp only [World.size_alloc], ?_⟩
  refine (((((Below.refl w.heap.size w).alloc (Nat.le_refl _) _).alloc ?_ _).alloc ?_ _).alloc ?_ _).alloc ?_ _ <;> simp only [World.size_alloc] <;> omega
set_option maxRecDepth 100000 in
set_option maxHeartbeats 4000000 in
theorem behind_any (h : H) (x size : Int) (a : A) (tv : Int) (tok : Bool) (g : goes h = true) (hb : HB h) (hx : Is.Wd x) (hs : -9223372036854775808 ≤ size ∧ size ≤ 9223372036854775807) (ha : Al.WOk a) (ht : Ar.Wd tv)
    (hv : Ar.Wd (Al.hv a tv)) (hh : (Al.done h x size a tv tok).cause = 0 → ∃ op, Hit op x) (w : World) :
    Calls Tryz.prog 194 #[hartV h, .int .u32 x, .int .i64 size, accV a, ansV tv tok] w fun e w' => e = .returned (.tuple #[hartV (Al.done h x size a tv tok), Al.comV (Al.com h x size a tv tok)]) ∧ Below w.heap.size w w' := by
  obtain ⟨k5, k8, k9, k10, k11, kz, kb⟩ := heap_a5 w (.cells (hcells h).toArray 26) (.cells (acells a).toArray 37) (.cells #[.int .u32 tv, .bool tok] 28) (.cells hzero 26) (.cells Al.czero 74)
  have HD := Lib.hid (fun w => done_f (h := h) (x := x) (size := size) (tv := Al.hv a tv) (tok := Al.ho a tok) g hb hx hs hv w)
  have HE := Lib.hid (fun w => heard_any a tv tok ha ht w)
  have HWR := Lib.hid (fun w => written_any x (Al.done h x size a tv tok) hx hh w)
  rw [show (oS h x size (Al.hv a tv) (Al.ho a tok)).h = Al.done h x size a tv tok from rfl] at HD
  unfold Al.com
  generalize Al.done h x size a tv tok = h2 at *
  generalize Al.hv a tv = tv2 at *
  generalize Al.ho a tok = tok2 at *
  generalize Al.wr x h2 = rd at *
  generalize Al.wv x h2 = v2 at *
  clear g hb hx hs ha ht hv hh
  obtain ⟨W0, hW0⟩ : ∃ W0, W0 = ((((w.alloc (.cells (hcells h).toArray 26)).alloc (.cells (acells a).toArray 37)).alloc (.cells #[.int .u32 tv, .bool tok] 28)).alloc (.cells hzero 26)).alloc (.cells Al.czero 74) := ⟨_, rfl⟩
  rw [← hW0] at k5 k8 k9 k10 k11 kz kb
  have K5 := Lib.hid k5; have K8 := Lib.hid k8; have K9 := Lib.hid k9; have K10 := Lib.hid k10; have K11 := Lib.hid k11; have KZ := Lib.hid kz; have KB := Lib.hid kb; have HW0 := Lib.hid hW0
  clear k5 k8 k9 k10 k11 kz kb hW0
  unfold hartV accV ansV
  go_enter Tryz.func194, Tryz.ntmps194
  go_wp2_with (first
    | (show wpList _ _ _ (Oper.mk (some 16) _ _ _ _ _ :: _) _ _; rw [← HW0.out]; refine wpList_load_row rfl 37 (.tmp 8) rfl (w.heap.size + 1) rfl 37 (acells a).toArray (0, 0) _ K8.out Tryz.underlying37 rfl (by kernel_rfl) ?_)
    | (show wpList _ _ _ (Oper.mk (some 17) _ _ _ _ _ :: _) _ _; refine wpList_load_row rfl 28 (.tmp 9) rfl (w.heap.size + 2) rfl 28 #[.int .u32 tv, .bool tok] (0, 0) _ K9.out Tryz.underlying28 rfl (by kernel_rfl) ?_))
  refine (HE.out _).mono ?_
  rintro e w1 ⟨rfl, hb⟩
  have r5 := (hb.block _ (by rw [KZ.out]; omega)).trans K5.out
  have r8 := (hb.block _ (by rw [KZ.out]; omega)).trans K8.out
  have r9 := (hb.block _ (by rw [KZ.out]; omega)).trans K9.out
  have r10 := (hb.block _ (by rw [KZ.out]; omega)).trans K10.out
  have r11 := (hb.block _ (by rw [KZ.out]; omega)).trans K11.out
  have z1 : w.heap.size + 5 ≤ w1.heap.size := by have := hb.size; rw [KZ.out] at this; exact this
  have b1 : Below w.heap.size w w1 := KB.out.trans (hb.mono KB.out.size)
  obtain ⟨W2, hW2⟩ : ∃ W2, W2 = w1.setRow (w.heap.size + 2) #[.int .u32 tv2, .bool tok2] := ⟨_, rfl⟩
  have s5 : W2.heap[w.heap.size]? = some (.cells (hcells h).toArray 26 (0, 0)) := by rw [hW2]; exact (setRow_other _ _ _ _ (by omega)).trans r5
  have s8 : W2.heap[w.heap.size + 1]? = some (.cells (acells a).toArray 37 (0, 0)) := by rw [hW2]; exact (setRow_other _ _ _ _ (by omega)).trans r8
  have s9 : W2.heap[w.heap.size + 2]? = some (.cells #[.int .u32 tv2, .bool tok2] 28 (0, 0)) := by rw [hW2]; exact setRow_heap _ _ _ _ _ _ r9
  have s10 : W2.heap[w.heap.size + 3]? = some (.cells hzero 26 (0, 0)) := by rw [hW2]; exact (setRow_other _ _ _ _ (by omega)).trans r10
  have s11 : W2.heap[w.heap.size + 4]? = some (.cells Al.czero 74 (0, 0)) := by rw [hW2]; exact (setRow_other _ _ _ _ (by omega)).trans r11
  have b2 : Below w.heap.size w W2 := by rw [hW2]; exact below_setRow b1 (by omega)
  have z2 : w.heap.size + 5 ≤ W2.heap.size := by rw [hW2]; simpa using z1
  have R9 := Lib.hid r9; have S5 := Lib.hid s5; have S8 := Lib.hid s8; have S9 := Lib.hid s9; have S10 := Lib.hid s10; have S11 := Lib.hid s11; have B2 := Lib.hid b2; have Z2 := Lib.hid z2; have HW2 := Lib.hid hW2
  clear r5 r8 r9 r10 r11 z1 b1 s5 s8 s9 s10 s11 b2 z2 hW2 hb K5 K8 K9 K10 K11 KZ KB HE
  unfold ansV
  go_wp2_with (first
    | (show wpList _ _ _ (Oper.mk none _ _ _ _ _ :: _) _ _; have hx := HW2.out; clear HW2; refine wpList_store_row rfl 28 (.tmp 9) (.tmp 18) rfl (w.heap.size + 2) #[.int .u32 tv2, .bool tok2] rfl rfl 28 #[.int .u32 tv, .bool tok] R9.out (by kernel_rfl) (by kernel_rfl) (by kernel_rfl) ?_; rw [← hx]; clear hx)
    | (show wpList _ _ _ (Oper.mk (some 20) _ _ _ _ _ :: _) _ _; refine wpList_load_row rfl 26 (.tmp 5) rfl w.heap.size rfl 26 (hcells h).toArray (0, 0) _ S5.out Tryz.underlying26 rfl (by kernel_rfl) ?_)
    | (show wpList _ _ _ (Oper.mk (some 23) _ _ _ _ _ :: _) _ _; refine wpList_load_row rfl 28 (.tmp 9) rfl (w.heap.size + 2) rfl 28 #[.int .u32 tv2, .bool tok2] (0, 0) _ S9.out Tryz.underlying28 rfl (by kernel_rfl) ?_))
  refine (HD.out _).mono ?_
  rintro e w3 ⟨rfl, hb⟩
  have r5 := (hb.block _ (by have := Z2.out; omega)).trans S5.out
  have r8 := (hb.block _ (by have := Z2.out; omega)).trans S8.out
  have r9 := (hb.block _ (by have := Z2.out; omega)).trans S9.out
  have r10 := (hb.block _ (by have := Z2.out; omega)).trans S10.out
  have r11 := (hb.block _ (by have := Z2.out; omega)).trans S11.out
  have z3 : w.heap.size + 5 ≤ w3.heap.size := Nat.le_trans Z2.out hb.size
  have b3 : Below w.heap.size w w3 := B2.out.trans (hb.mono B2.out.size)
  obtain ⟨W4, hW4⟩ : ∃ W4, W4 = (w3.alloc (.cells hzero 26)).setRow w3.heap.size (hcells h2).toArray := ⟨_, rfl⟩
  have old : ∀ k o, w3.heap[k]? = some o → W4.heap[k]? = some o := fun k o hk => by
    have hlt := (Array.getElem?_eq_some_iff.1 hk).1
    rw [hW4]; exact (setRow_other _ _ _ _ (by omega)).trans ((Below.heap_alloc _ _ _ hlt).trans hk)
  have s12 : W4.heap[w3.heap.size]? = some (.cells (hcells h2).toArray 26 (0, 0)) := by rw [hW4]; exact setRow_heap _ _ _ _ _ _ (heap_alloc_new _ _)
  have b4 : Below w.heap.size w W4 := by rw [hW4]; exact below_setRow (b3.alloc b3.size _) b3.size
  have z4 : w3.heap.size + 1 ≤ W4.heap.size := by rw [hW4]; simp
  have T5 := Lib.hid (old _ _ r5); have T8 := Lib.hid (old _ _ r8); have T9 := Lib.hid (old _ _ r9); have T10 := Lib.hid (old _ _ r10); have T11 := Lib.hid (old _ _ r11); have T12 := Lib.hid s12; have B4 := Lib.hid b4; have Z3 := Lib.hid z3; have Z4 := Lib.hid z4; have HW4 := Lib.hid hW4
  clear r5 r8 r9 r10 r11 z3 b3 old s12 b4 z4 hW4 hb S5 S8 S9 S10 S11 Z2 B2 HD R9
  unfold hartV
  go_wp2_with (first
    | (show wpList _ _ _ (Oper.mk none _ _ _ _ _ :: _) _ _; have hx := HW4.out; clear HW4; refine wpList_store_row rfl 26 (.tmp 12) (.tmp 25) rfl w3.heap.size (hcells h2).toArray rfl rfl 26 hzero (heap_alloc_new _ _) (by kernel_rfl) (by kernel_rfl) (by kernel_rfl) ?_; rw [← hx]; clear hx)
    | (show wpList _ _ _ (Oper.mk (some 29) _ _ _ _ _ :: _) _ _; refine wpList_load_row rfl 26 (.tmp 12) rfl w3.heap.size rfl 26 (hcells h2).toArray (0, 0) _ T12.out Tryz.underlying26 rfl (by kernel_rfl) ?_))
  refine (HWR.out _).mono ?_
  rintro e w5 ⟨rfl, hb⟩
  have kk : ∀ k o, W4.heap[k]? = some o → w5.heap[k]? = some o := fun k o hk => (hb.block _ (Array.getElem?_eq_some_iff.1 hk).1).trans hk
  have U5 := Lib.hid (kk _ _ T5.out); have U8 := Lib.hid (kk _ _ T8.out); have U9 := Lib.hid (kk _ _ T9.out); have U10 := Lib.hid (kk _ _ T10.out); have U11 := Lib.hid (kk _ _ T11.out); have U12 := Lib.hid (kk _ _ T12.out)
  have B5 := Lib.hid (B4.out.trans (hb.mono B4.out.size)); have Z5 := Lib.hid (show w3.heap.size + 1 ≤ w5.heap.size from Nat.le_trans Z4.out hb.size)
  clear kk hb T5 T8 T9 T10 T11 T12 B4 Z4 HWR
  go_wp2_with fail
  have hz := Z5.out; have hz3 := Z3.out
  refine Og.regionS (by kernel_rfl) 12 11 (w.heap.size + 3) (hcells h2).toArray (by omega) (fun t => if 33 ≤ t ∧ t ≤ 43 then some (t - 33) else none) [.is (.agg (hcells h2).toArray), .is (.pointer (some ⟨w.heap.size, 1, none⟩)), .is (.int .u32 h.pc), .is (.int .u32 x), .is (.agg (acells a).toArray), .is (.agg #[.int .u32 tv2, .bool tok2]), .is (.int .i64 rd), .is (.int .u32 v2), .is (.pointer (some ⟨w3.heap.size, 34, none⟩)), .is (.int .i64 h2.cause), .is (Al.comV ⟨h.pc, x, a, tv2, tok2, rd, v2, h2.cause⟩), .is undef] [true, true, true, true, true, true, true, true, true, true, true, true] (by kernel_rfl) ?_ ?_
  · refine ⟨?_, ?_, ?_, ?_, ?_, ?_, ?_, ?_, ?_, ?_, ?_, ?_, trivial⟩
    · refine ⟨rfl, (if_neg (by decide)).mpr fun ρ xw b hr hd => ?_⟩
      obtain ⟨d0, _⟩ := hd
      have d0 : ρ (.tmp 12) = .pointer (some ⟨w3.heap.size, 0, none⟩) := d0
      refine (if_pos (by rfl)).mpr ?_
      exact Og.gives_load 26 (.tmp 12) rfl ⟨w3.heap.size, 0, none⟩ (.agg (hcells h2).toArray) d0 (run_loadVar_row xw _ _ _ _ _ _ (hr.old (by omega) U12.out) Tryz.underlying26 rfl (by kernel_rfl)) (And.intro (Below.refl _ _) rfl)
    · refine ⟨rfl, (if_neg (by decide)).mpr fun ρ xw b hr hd => ?_⟩
      obtain ⟨d0, _⟩ := hd
      have d0 : ρ (.tmp 5) = .pointer (some ⟨w.heap.size, 0, none⟩) := d0
      refine (if_pos (by rfl)).mpr ?_
      refine Og.gives_is (.pointer (some ⟨w.heap.size, 1, none⟩)) ?_ (And.intro (Below.refl _ _) rfl)
      go_simp
    · refine ⟨rfl, (if_neg (by decide)).mpr fun ρ xw b hr hd => ?_⟩
      obtain ⟨d0, _⟩ := hd
      have d0 : ρ (.tmp 34) = .pointer (some ⟨w.heap.size, 1, none⟩) := d0
      refine (if_pos (by rfl)).mpr ?_
      have hc : xw.cell? ⟨w.heap.size, 1, none⟩ = some (.int .u32 h.pc) := by rw [hr.cell (by omega) U5.out]; rfl
      refine Og.gives_is (.int .u32 h.pc) ?_ (And.intro (Below.refl _ _) rfl)
      go_simp
    · refine ⟨rfl, (if_neg (by decide)).mpr fun ρ xw b hr hd => ?_⟩
      obtain ⟨d0, _⟩ := hd
      have d0 : ρ (.tmp 1) = .int .u32 x := d0
      refine (if_pos (by rfl)).mpr ?_
      refine Og.gives_is (.int .u32 x) ?_ (And.intro (Below.refl _ _) rfl)
      go_simp
    · refine ⟨rfl, (if_neg (by decide)).mpr fun ρ xw b hr hd => ?_⟩
      obtain ⟨d0, _⟩ := hd
      have d0 : ρ (.tmp 8) = .pointer (some ⟨w.heap.size + 1, 0, none⟩) := d0
      refine (if_pos (by rfl)).mpr ?_
      exact Og.gives_load 37 (.tmp 8) rfl ⟨w.heap.size + 1, 0, none⟩ (.agg (acells a).toArray) d0 (run_loadVar_row xw _ _ _ _ _ _ (hr.old (by omega) U8.out) Tryz.underlying37 rfl (by kernel_rfl)) (And.intro (Below.refl _ _) rfl)
    · refine ⟨rfl, (if_neg (by decide)).mpr fun ρ xw b hr hd => ?_⟩
      obtain ⟨d0, _⟩ := hd
      have d0 : ρ (.tmp 9) = .pointer (some ⟨w.heap.size + 2, 0, none⟩) := d0
      refine (if_pos (by rfl)).mpr ?_
      exact Og.gives_load 28 (.tmp 9) rfl ⟨w.heap.size + 2, 0, none⟩ (.agg #[.int .u32 tv2, .bool tok2]) d0 (run_loadVar_row xw _ _ _ _ _ _ (hr.old (by omega) U9.out) Tryz.underlying28 rfl (by kernel_rfl)) (And.intro (Below.refl _ _) rfl)
    · refine ⟨rfl, (if_neg (by decide)).mpr fun ρ xw b hr hd => ?_⟩
      obtain ⟨d0, _⟩ := hd
      have d0 : ρ (.tmp 14) = .int .i64 rd := d0
      refine (if_pos (by rfl)).mpr ?_
      refine Og.gives_is (.int .i64 rd) ?_ (And.intro (Below.refl _ _) rfl)
      go_simp
    · refine ⟨rfl, (if_neg (by decide)).mpr fun ρ xw b hr hd => ?_⟩
      obtain ⟨d0, _⟩ := hd
      have d0 : ρ (.tmp 15) = .int .u32 v2 := d0
      refine (if_pos (by rfl)).mpr ?_
      refine Og.gives_is (.int .u32 v2) ?_ (And.intro (Below.refl _ _) rfl)
      go_simp
    · refine ⟨rfl, (if_neg (by decide)).mpr fun ρ xw b hr hd => ?_⟩
      obtain ⟨d0, _⟩ := hd
      have d0 : ρ (.tmp 12) = .pointer (some ⟨w3.heap.size, 0, none⟩) := d0
      refine (if_pos (by rfl)).mpr ?_
      refine Og.gives_is (.pointer (some ⟨w3.heap.size, 34, none⟩)) ?_ (And.intro (Below.refl _ _) rfl)
      go_simp
    · refine ⟨rfl, (if_neg (by decide)).mpr fun ρ xw b hr hd => ?_⟩
      obtain ⟨d0, _⟩ := hd
      have d0 : ρ (.tmp 41) = .pointer (some ⟨w3.heap.size, 34, none⟩) := d0
      refine (if_pos (by rfl)).mpr ?_
      have hc : xw.cell? ⟨w3.heap.size, 34, none⟩ = some (.int .i64 h2.cause) := by rw [hr.cell (by omega) U12.out]; rfl
      refine Og.gives_is (.int .i64 h2.cause) ?_ (And.intro (Below.refl _ _) rfl)
      go_simp
    · refine ⟨rfl, (if_neg (by decide)).mpr fun ρ xw b hr hd => ?_⟩
      obtain ⟨e0, e1, e2, e3, e4, e5, e6, _⟩ := hd
      have e0 : ρ (.tmp 35) = .int .u32 h.pc := e0
      have e1 : ρ (.tmp 36) = .int .u32 x := e1
      have e2 : ρ (.tmp 37) = .agg (acells a).toArray := e2
      have e3 : ρ (.tmp 38) = .agg #[.int .u32 tv2, .bool tok2] := e3
      have e4 : ρ (.tmp 39) = .int .i64 rd := e4
      have e5 : ρ (.tmp 40) = .int .u32 v2 := e5
      have e6 : ρ (.tmp 42) = .int .i64 h2.cause := e6
      refine (if_pos (by rfl)).mpr ?_
      refine Og.gives_build 74 #[(0, .tmp 35), (1, .tmp 36), (2, .tmp 37), (3, .tmp 38), (4, .tmp 39), (5, .tmp 40), (6, .tmp 42)] rfl (Al.ccells ⟨h.pc, x, a, tv2, tok2, rd, v2, h2.cause⟩).toArray ?_ (And.intro (Below.refl _ _) rfl)
      simp only [List.map_toArray, List.map_cons, List.map_nil, e0, e1, e2, e3, e4, e5, e6]
      kernel_rfl
    · refine ⟨rfl, (if_pos (by rfl)).mpr ⟨rfl, fun ρ xw hr hd => ?_⟩⟩
      obtain ⟨d0, d1, _⟩ := hd
      have d0 : ρ (.tmp 10) = .pointer (some ⟨w.heap.size + 3, 0, none⟩) := d0
      have d1 : ρ (.tmp 33) = .agg (hcells h2).toArray := d1
      exact Og.gives_setrow 26 (.tmp 10) (.tmp 33) rfl (w.heap.size + 3) (hcells h2).toArray d0 d1 26 hzero ((Below.block hr _ (by omega)).trans U10.out) (by kernel_rfl) (by kernel_rfl) (by kernel_rfl) ⟨⟨rfl, xw, hr, Below.refl _ _⟩, rfl⟩
  · intro vs w6 hph hvs
    have hph : Og.PhS w5 (w.heap.size + 3) (hcells h2).toArray true w6 := hph
    have v0 : vs 0 = .agg (hcells h2).toArray := hvs 0 _ 33 rfl rfl
    have v1 : vs 1 = .pointer (some ⟨w.heap.size, 1, none⟩) := hvs 1 _ 34 rfl rfl
    have v2' : vs 2 = .int .u32 h.pc := hvs 2 _ 35 rfl rfl
    have v3 : vs 3 = .int .u32 x := hvs 3 _ 36 rfl rfl
    have v4 : vs 4 = .agg (acells a).toArray := hvs 4 _ 37 rfl rfl
    have v5 : vs 5 = .agg #[.int .u32 tv2, .bool tok2] := hvs 5 _ 38 rfl rfl
    have v6 : vs 6 = .int .i64 rd := hvs 6 _ 39 rfl rfl
    have v7 : vs 7 = .int .u32 v2 := hvs 7 _ 40 rfl rfl
    have v8 : vs 8 = .pointer (some ⟨w3.heap.size, 34, none⟩) := hvs 8 _ 41 rfl rfl
    have v9 : vs 9 = .int .i64 h2.cause := hvs 9 _ 42 rfl rfl
    have v10 : vs 10 = Al.comV ⟨h.pc, x, a, tv2, tok2, rd, v2, h2.cause⟩ := hvs 10 _ 43 rfl rfl
    have u11 := hph.old (by omega) U11.out
    have u10 := hph.new U10.out
    have b6 := hph.below B5.out B5.out.size (by omega)
    simp only [List.take_succ_cons, List.take_zero, List.drop_succ_cons, List.drop_zero, Og.putAll, Act.put, List.setIfInBounds_toArray, List.set_cons_zero, List.set_cons_succ, Nat.zero_add, Nat.reduceAdd, v0, v1, v2', v3, v4, v5, v6, v7, v8, v9, v10]
    refine wpList_store_row rfl 74 (.tmp 11) (.tmp 43) rfl (w.heap.size + 4) (Al.ccells ⟨h.pc, x, a, tv2, tok2, rd, v2, h2.cause⟩).toArray rfl rfl 74 Al.czero u11 (by kernel_rfl) (by kernel_rfl) (by kernel_rfl) ?_
    go_wp2
    refine bodyPost_ret (v := .tuple #[.agg (hcells h2).toArray, Al.comV ⟨h.pc, x, a, tv2, tok2, rd, v2, h2.cause⟩]) ?_ rfl ⟨rfl, below_setRow b6 (by omega)⟩
    exact results_cells2 (fn := Tryz.f194) rfl _ _ (w.heap.size + 3) (w.heap.size + 4) 26 (hcells h2).toArray (0, 0) _ _ rfl ((setRow_other _ _ _ _ (by omega)).trans u10) Tryz.underlying26 rfl (by kernel_rfl) rfl
      (run_loadVar_row _ _ _ _ _ _ _ (setRow_heap _ _ _ _ _ _ u11) Tryz.underlying74 rfl (by kernel_rfl))
end Go.Proofs.YtianojbdabeoeaaGreatDoor
end
