/-
  Which instruction a word is: the program's Decode.
-/
import Derived.Test.YtianojbdabeoeaaGreatDoorIsCand
namespace Go.Proofs.YtianojbdabeoeaaGreatDoor
open Go.RowKit Go.Maps Go.Shelf
set_option linter.unusedVariables false
set_option linter.unusedSimpArgs false
attribute [local go_sem] Oper.semAt_some

theorem candidates_any (x : Int) (w : World) :
    Calls Tryz.prog 102 #[.int .u32 x] w fun e w' => e = .returned (.func (.func 198) #[] #[.pointer (some ⟨w.heap.size, 0, none⟩)]) ∧ w' = w.alloc (.cells #[.int .u32 x] 22) := by
  go_enter Tryz.func102, Tryz.ntmps102
  go_wp2
  go_ret
  exact ⟨rfl, rfl⟩
namespace Is
/-- what of a word is no part of a form's -/
def ownO (k : Nat) (x : Int) : Int := bits .xor .u32 x (layO k (rdO k x) (rs1O k x) (rs2O k x) (immO k x) (aqO k x) (rlO k x))
theorem rdO_bd (k : Nat) (x : Int) : -9223372036854775808 ≤ rdO k x ∧ rdO k x ≤ 9223372036854775807 := by unfold rdO; split <;> omega
theorem rs1O_bd (k : Nat) (x : Int) : -9223372036854775808 ≤ rs1O k x ∧ rs1O k x ≤ 9223372036854775807 := by unfold rs1O; split <;> omega
theorem rs2O_bd (k : Nat) (x : Int) : -9223372036854775808 ≤ rs2O k x ∧ rs2O k x ≤ 9223372036854775807 := by unfold rs2O; split <;> omega
theorem immO_wd (k : Nat) {x : Int} (hx : Wd x) : Wd (immO k x) := by
  obtain ⟨h1, h2, h3, h4, h5, h6, h7⟩ := imms hx
  unfold immO
  split <;> first | assumption | (unfold Wd; omega)
def hit (k : Nat) (x : Int) (op : Nat) : Prop := fm op = k ∧ wd op = ownO k x
end Is
/-- an instruction's cells -/
def instC (op rd rs1 rs2 imm : Int) (aq rl : Bool) : Array Value := #[.int .i64 op, .int .i64 rd, .int .i64 rs1, .int .i64 rs2, .int .u32 imm, .bool aq, .bool rl]
/-- the instruction that a word is, of a form, but for its Op -/
def takeC (op : Nat) (k : Nat) (x : Int) : Array Value := instC op (Is.rdO k x) (Is.rs1O k x) (Is.rs2O k x) (Is.immO k x) (Is.aqO k x) (Is.rlO k x)
def Rw (W : World) (p : Nat) (cs : Array Value) (t : TypeId) : Prop := W.heap[p]? = some (.cells cs t (0, 0))
theorem Rw.below {W W' : World} {p : Nat} {cs : Array Value} {t : TypeId} (h : Rw W p cs t) (hb : Below W.heap.size W W') : Rw W' p cs t := (hb.block p (heap_lt h)).trans h
theorem Rw.alloc {W : World} {p : Nat} {cs : Array Value} {t : TypeId} (h : Rw W p cs t) (o : Obj) : Rw (W.alloc o) p cs t := h.below ((Below.refl _ W).alloc (Nat.le_refl _) o)
theorem Rw.other {W : World} {p g : Nat} {cs ds : Array Value} {t : TypeId} (h : Rw W p cs t) (hne : p ≠ g) : Rw (W.setRow g ds) p cs t := (setRow_other W g p ds hne).trans h
theorem Rw.lt {W : World} {p : Nat} {cs : Array Value} {t : TypeId} (h : Rw W p cs t) : p < W.heap.size := heap_lt h
theorem rw_own {β : Type} {B p : Nat} {t : TypeId} (cs : β → Array Value) : OwnFrom B (fun (s : β) W => Rw W p (cs s) t) := fun s A C row hs hg hr =>
  (hg.block p hs.lt (fun e => by obtain ⟨_, o, ho, hc⟩ := hr p e.symm; rw [hs] at ho; cases ho; cases hc)).trans hs
theorem rw_new (W : World) (cs : Array Value) (t : TypeId) : Rw (W.alloc (.cells cs t (0, 0))) W.heap.size cs t := heap_alloc_new _ _
theorem keeps_of_below {W W' : World} (h : Below W.heap.size W W') : KeepsOthers W W' := ⟨h.size, fun k o hk _ => (h.block k (heap_lt hk)).trans hk⟩
theorem keeps_setRow (W : World) (g : Nat) (cs ds : Array Value) (t : TypeId) (h : Rw W g ds t) : KeepsOthers W (W.setRow g cs) :=
  ⟨by simp, fun k o hk ho => (setRow_other W g k cs (fun e => by subst e; rw [h] at hk; cases hk; cases ho)).trans hk⟩
theorem def_step {W : World} {D p : Nat} {o : Obj} (i : Nat) (v : Value) (hne : D ≠ p) (h : W.heap[D]? = some o) : (W.setCell ⟨p, i, none⟩ v).heap[D]? = some o := (heap_setCell_other W ⟨p, i, none⟩ D v hne).trans h
theorem deferred_seven {W : World} {D p : Nat} {l : List Deferred} {v0 v1 v2 v3 v4 v5 v6 : Value} (hne : D ≠ p) (h : W.heap[D]? = some (.deferred (some l))) :
    (((((((W.setCell ⟨p, 0, none⟩ v0).setCell ⟨p, 1, none⟩ v1).setCell ⟨p, 2, none⟩ v2).setCell ⟨p, 3, none⟩ v3).setCell ⟨p, 4, none⟩ v4).setCell ⟨p, 5, none⟩ v5).setCell ⟨p, 6, none⟩ v6).drew.heap[D]? = some (.deferred (some l)) := by
  rw [heap_drew]
  exact def_step 6 v6 hne (def_step 5 v5 hne (def_step 4 v4 hne (def_step 3 v3 hne (def_step 2 v2 hne (def_step 1 v1 hne (def_step 0 v0 hne h))))))
theorem rw_seven {W : World} {D p : Nat} {o : Obj} {t : TypeId} {a0 a1 a2 a3 a4 a5 a6 v0 v1 v2 v3 v4 v5 v6 : Value} (hne : D ≠ p) (h : Rw W p #[a0, a1, a2, a3, a4, a5, a6] t) :
    Rw ((((((((W.setCell ⟨p, 0, none⟩ v0).setCell ⟨p, 1, none⟩ v1).setCell ⟨p, 2, none⟩ v2).setCell ⟨p, 3, none⟩ v3).setCell ⟨p, 4, none⟩ v4).setCell ⟨p, 5, none⟩ v5).setCell ⟨p, 6, none⟩ v6).drew.putObj D o) p #[v0, v1, v2, v3, v4, v5, v6] t := by
  have h0 := heap_setCell_same W p 0 _ _ v0 h
  have h1 := heap_setCell_same _ p 1 _ _ v1 h0
  have h2 := heap_setCell_same _ p 2 _ _ v2 h1
  have h3 := heap_setCell_same _ p 3 _ _ v3 h2
  have h4 := heap_setCell_same _ p 4 _ _ v4 h3
  have h5 := heap_setCell_same _ p 5 _ _ v5 h4
  have h6 := heap_setCell_same _ p 6 _ _ v6 h5
  unfold Rw
  rw [World.putObj_heap_other (fun e => hne e.symm), heap_drew, h6]
  simp
theorem results_row2 {P : Program} {fn : Func} {p u : Tmp} {ty : TypeId} (h : fn.results = #[.cell p ty, .tmp u]) (tmps : Array Value) (w : World) (g : Nat) (t : TypeId) (cs : Array Value) (fr : Nat × Nat) (d : TypeDesc)
    (hp : tmps.getD p undef = .pointer (some ⟨g, 0, none⟩)) (hg : w.heap[g]? = some (.cells cs t fr))
    (hu : P.underlying ty = some d) (hd : (match d with | .struct _ | .array _ _ => true | _ => false) = true) (hi : (P.info? ty).map (·.size) = some cs.size) :
    (results fn tmps).run P w = .ok (.tuple #[.agg cs, tmps.getD u undef]) w := by
  have hp' : tmps[p]?.getD undef = .pointer (some ⟨g, 0, none⟩) := by simpa using hp
  simp [results, h, hp', asAddr, run_loadVar_row w g t ty cs fr d hg hu hd hi]
theorem below_put {B D : Nat} {a w : World} {o : Obj} (h : Below B a w) (hD : B ≤ D) : Below B a (w.putObj D o) :=
  ⟨h.os, h.tape, h.output, Nat.le_trans h.size (by simp), fun k hk => (World.putObj_heap_other (by omega)).trans (h.block k hk)⟩
theorem below_step {B p : Nat} {a w : World} (i : Nat) (v : Value) (h : Below B a w) (hp : B ≤ p) : Below B a (w.setCell ⟨p, i, none⟩ v) := h.setCell (p := ⟨p, i, none⟩) hp v
theorem below_seven {W a : World} {B D p : Nat} {o : Obj} {v0 v1 v2 v3 v4 v5 v6 : Value} (h : Below B a W) (hp : B ≤ p) (hD : B ≤ D) :
    Below B a ((((((((W.setCell ⟨p, 0, none⟩ v0).setCell ⟨p, 1, none⟩ v1).setCell ⟨p, 2, none⟩ v2).setCell ⟨p, 3, none⟩ v3).setCell ⟨p, 4, none⟩ v4).setCell ⟨p, 5, none⟩ v5).setCell ⟨p, 6, none⟩ v6).drew.putObj D o) :=
  below_put (below_step 6 v6 (below_step 5 v5 (below_step 4 v4 (below_step 3 v3 (below_step 2 v2 (below_step 1 v1 (below_step 0 v0 h hp) hp) hp) hp) hp) hp) hp).drew hD
theorem kp_of_below {c : Nat} {W W' : World} (hc : c < W.heap.size) (h : Below W.heap.size W W') : KpC c W W' := ⟨(keeps_of_below h).walks, h.cell (p := ⟨c, 0, none⟩) hc⟩
theorem kp_trans {c : Nat} {A B C : World} (h : KpC c A B) (k : KpC c B C) : KpC c A C := ⟨h.1.trans k.1, k.2.trans h.2⟩
namespace Og
variable {P : Program}
theorem wpListIn_of_gives {lr n : Nat} {ops : Array Oper} {rest : List Oper} {o : Oper} {a : Act} {w : World} {Q : Exit → Act → World → Prop} {R : Value → World → Prop} (hg : o.guard = none) (hnd : ∀ c, o.op ≠ .defer c)
    (h : gives P o a.eval w R) (hk : ∀ v w', R v w' → wpListIn (Fence.wide.inRound lr) n P ops Q rest (a.put o.dst v) w') : wpListIn (Fence.wide.inRound lr) n P ops Q (o :: rest) a w :=
  wpListIn_plain hg fun K hK => wpIn_of_gives hnd h fun v w' hr => hK _ _ (hk v w' hr)
end Og
/-- nothing of these forms is the word -/
def NoHit (x : Int) (ks : List Nat) : Prop := ∀ k ∈ ks, ∀ op, op < 60 → ¬ Is.hit k x op
/-- the first Op of the form k that the word is -/
def FirstHit (x : Int) (k op : Nat) : Prop := op < 60 ∧ Is.hit k x op ∧ ∀ q, q < op → ¬ Is.hit k x q
/-- what Decode answers -/
def DecPost (x : Int) (e : Ending) : Prop :=
  (NoHit x (Is.stL (x % 128) 60).2 ∧ e = .returned (.tuple #[inst 0 0 0 0 0 false false, .bool false])) ∨
  (∃ (pre : List Nat) (k op j : Nat), j ≤ 60 ∧ pre ++ [k] = (Is.stL (x % 128) j).2 ∧ 1 ≤ k ∧ NoHit x pre ∧ FirstHit x k op ∧ e = .returned (.tuple #[.agg (takeC op k x), .bool true]))

set_option maxRecDepth 100000 in
set_option maxHeartbeats 8000000 in
theorem dec_any (x : Int) (hx : Is.Wd x) (w : World) :
    Calls Tryz.prog 80 #[.int .u32 x] w fun e w' => DecPost x e ∧ Below w.heap.size w w' := by
  have HX := Lib.hid hx; clear hx
  refine (callsIn_wide (n := 5)).1 ?_
  refine callsIn_of_wp_marks Tryz.func80 rfl trivial ?_ rfl
  simp only [Tryz.ntmps80, List.size_toArray, List.length_cons, List.length_nil, Nat.reduceAdd, Nat.reduceSub, Array.replicate_succ, Array.replicate_zero, List.push_toArray, List.append_toArray, List.nil_append, List.cons_append]
  refine wpIn_wide.2 ?_
  go_wp2_with fail
  go_step3
  go_wp2_with fail
  go_step3
  go_wp2_with (go_at_call 102; refine (candidates_any _ _).mono ?_; rintro e w1 ⟨rfl, rfl⟩)
  obtain ⟨W0, hW0⟩ : ∃ W0, (((w.alloc (Obj.cells #[.int .u32 x] 22)).alloc (Obj.cells (instC 0 0 0 0 0 false false) 85)).alloc (Obj.cells (instC 0 0 0 0 0 false false) 85)).alloc (Obj.cells #[.int .u32 x] 22) = W0 := ⟨_, rfl⟩
  have hsz : W0.heap.size = w.heap.size + 4 := by rw [← hW0]; simp
  have hbx : Rw W0 w.heap.size #[.int .u32 x] 22 := by rw [← hW0]; exact (((rw_new _ _ _).alloc _).alloc _).alloc _
  have hres : Rw W0 (w.heap.size + 1) (instC 0 0 0 0 0 false false) 85 := by
    rw [← hW0]; have := ((rw_new (w.alloc (Obj.cells #[.int .u32 x] 22)) (instC 0 0 0 0 0 false false) 85).alloc (Obj.cells (instC 0 0 0 0 0 false false) 85)).alloc (Obj.cells #[.int .u32 x] 22)
    rwa [World.size_alloc] at this
  have hfnd : Rw W0 (w.heap.size + 1 + 1) (instC 0 0 0 0 0 false false) 85 := by
    rw [← hW0]; have := (rw_new ((w.alloc (Obj.cells #[.int .u32 x] 22)).alloc (Obj.cells (instC 0 0 0 0 0 false false) 85)) (instC 0 0 0 0 0 false false) 85).alloc (Obj.cells #[.int .u32 x] 22)
    rwa [World.size_alloc, World.size_alloc] at this
  have hcb : Rw W0 (w.heap.size + 1 + 1 + 1) #[.int .u32 x] 22 := by
    rw [← hW0]; have := rw_new (((w.alloc (Obj.cells #[.int .u32 x] 22)).alloc (Obj.cells (instC 0 0 0 0 0 false false) 85)).alloc (Obj.cells (instC 0 0 0 0 0 false false) 85)) #[.int .u32 x] 22
    rwa [World.size_alloc, World.size_alloc, World.size_alloc] at this
  have hB0 : Below w.heap.size w W0 := by rw [← hW0]; exact ((((Below.refl _ w).alloc (Nat.le_refl _) _).alloc (by simp) _).alloc (by simp; omega) _).alloc (by simp; omega) _
  have hcc : W0.cell? ⟨w.heap.size + 1 + 1 + 1, 0, none⟩ = some (.int .u32 x) := by rw [cell_of_row W0 _ 0 _ _ _ hcb]; rfl
  unfold instC at hW0
  rw [hW0]
  have H0 := Lib.hid (And.intro hbx (And.intro hres (And.intro hfnd (And.intro hB0 (And.intro hcc hcb)))))
  have hclt : w.heap.size + 1 + 1 + 1 < W0.heap.size := by omega
  clear hW0 hbx hres hfnd hcb hB0 hcc
  refine (wpIn_wide (n := 5)).1 ?_
  refine wpIn_rangeFunc_ownH rfl (by decide) (gf := 198) (lb := #[.pointer (some ⟨w.heap.size + 1 + 1 + 1, 0, none⟩)]) rfl trivial (enters_of Tryz.func198 (by kernel_rfl) rfl)
    (cand_stops (5 - 1) (by decide) x HX.out (w.heap.size + 1 + 1 + 1) W0 H0.out.2.2.2.2.1 hclt) (fun h k => kp_trans h k)
    (fun W l o o' hl ho hc hw => ⟨KeepsWalks.putObj _ ho hw, by unfold World.cell?; rw [World.putObj_heap_other (Nat.ne_of_lt (show w.heap.size + 1 + 1 + 1 < l by omega))]⟩) (Below.refl _ _) (fun _ => rfl)
    (fun pre W => ((Rw W w.heap.size #[.int .u32 x] 22 ∧ Rw W (w.heap.size + 1) (instC 0 0 0 0 0 false false) 85) ∧ (Rw W (w.heap.size + 1 + 1) (instC 0 0 0 0 0 false false) 85 ∧ Rw W (w.heap.size + 1 + 1 + 1) #[.int .u32 x] 22)) ∧ (NoHit x (pre.map (·.1)) ∧ Below w.heap.size w W))
    (fun c pre W => c = .exit 0 ∧ ∃ (p : List Nat) (k op : Nat), pre.map (·.1) = p ++ [k] ∧ 1 ≤ k ∧ NoHit x p ∧ FirstHit x k op ∧ ((Rw W w.heap.size #[.int .u32 x] 22 ∧ Rw W (w.heap.size + 1) (instC 0 0 0 0 0 false false) 85) ∧ Rw W (w.heap.size + 1 + 1) (takeC op k x) 85) ∧ Below w.heap.size w W)
    (OwnFrom.and (OwnFrom.and (OwnFrom.and (rw_own (fun _ => _)) (rw_own (fun _ => _))) (OwnFrom.and (rw_own (fun _ => _)) (rw_own (fun _ => _)))) (OwnFrom.and (fun _ _ _ _ hs _ _ => hs) (ownFrom_below (Nat.le_refl _) (by omega))))
    (fun c s A B row hs hg hr => by
      obtain ⟨e, p, k, op, e1, e2, e3, e4, ⟨⟨h1, h2⟩, h3⟩, h4⟩ := hs
      exact ⟨e, p, k, op, e1, e2, e3, e4, ⟨⟨rw_own (fun _ : Unit => _) () A B row h1 hg hr, rw_own (fun _ : Unit => _) () A B row h2 hg hr⟩, rw_own (fun _ : Unit => _) () A B row h3 hg hr⟩, ownFrom_below (Nat.le_refl _) (by omega) () A B row h4 hg hr⟩)
    ⟨⟨⟨H0.out.1, H0.out.2.1⟩, H0.out.2.2.1, H0.out.2.2.2.2.2⟩, ⟨(fun k hk => (by cases hk)), H0.out.2.2.2.1⟩⟩
    (fun k a' W => ∃ g, w.heap.size + 1 + 1 + 1 < g ∧ Rw W g (foc k.1) 169 ∧ a' = { tmps := #[.int .u32 x, .pointer (some ⟨w.heap.size, 0, none⟩), .pointer (some ⟨w.heap.size + 1, 0, none⟩), .bool false, .pointer (some ⟨w.heap.size + 1 + 1, 0, none⟩), .int .i64 (k.1 : Int), .pointer (some ⟨g, 0, none⟩), undef, undef, undef, undef, .agg #[.int .i64 0, .int .i64 0, .int .i64 0, .int .i64 0, .int .u32 0, .bool false, .bool false], .int .u32 x, .func (.func 198) #[] #[.pointer (some ⟨w.heap.size + 1 + 1 + 1, 0, none⟩)], .int .i64 (k.1 : Int), fo k.1, undef, undef, undef, undef, undef, undef, undef, undef, undef, undef, undef, undef, undef, undef, undef, undef, undef, undef, undef, undef, undef, undef, undef, undef, undef, undef, undef, undef, undef, undef, undef], defers := [] })
    (fun k a' _ A B row hs hg hr => by obtain ⟨g, h1, h2, h3⟩ := hs; exact ⟨g, h1, rw_own (fun _ : Unit => _) () A B row h2 hg hr, h3⟩)
    ?assign ?body ?done ?stop
  case assign =>
    rintro l pre k W K hi hK
    obtain ⟨⟨⟨i1, i2⟩, i3, i6⟩, i4, i5⟩ := hi
    have HK := Lib.hid hK; have HI := Lib.hid (And.intro i1 (And.intro i2 (And.intro i3 (And.intro i4 (And.intro i5 i6))))); clear hK i1 i2 i3 i4 i5 i6
    gi_wp2_with (refine Og.wpListIn_of_gives rfl (fun c e => by cases e) (Og.gives_store_row (R := fun v w' => v = undef ∧ w' = (W.alloc (Obj.cells #[.int .i64 0, .nilFunc, .nilFunc, .nilFunc] 169)).setRow W.heap.size (foc k.1)) 169 (.tmp 6) (.tmp 15) rfl W.heap.size (foc k.1) rfl (fo_agg _ k.2) 169 _ (rw_new _ _ _) (by rw [foc_size _ k.2]; exact form_info) (foc_size _ k.2).symm (foc_one _ k.2) ⟨rfl, rfl⟩) ?_; rintro v w' ⟨rfl, rfl⟩)
    have hb : Below W.heap.size W ((W.alloc (Obj.cells #[.int .i64 0, .nilFunc, .nilFunc, .nilFunc] 169)).setRow W.heap.size (foc k.1)) := below_setRow ((Below.refl _ W).alloc (Nat.le_refl _) _) (Nat.le_refl _)
    have hle := HI.out.2.2.2.2.1.size
    refine HK.out _ _ ((keeps_of_below hb).from _) (kp_of_below HI.out.2.2.2.2.2.lt hb) ⟨⟨⟨HI.out.1.below hb, HI.out.2.1.below hb⟩, HI.out.2.2.1.below hb, HI.out.2.2.2.2.2.below hb⟩, HI.out.2.2.2.1, HI.out.2.2.2.2.1.trans (hb.mono hle)⟩ ⟨W.heap.size, HI.out.2.2.2.2.2.lt, setRow_heap _ _ _ _ _ _ (rw_new _ _ _), rfl⟩
  case body =>
    rintro l pre k a' W hl ⟨rr, hrr⟩ ⟨⟨⟨i1, i2⟩, i3, i6⟩, i4, i5⟩ ⟨g, hg, hgr, rfl⟩ hlen
    have HI := Lib.hid (And.intro i1 (And.intro i2 (And.intro i3 (And.intro i4 (And.intro i5 i6))))); clear i1 i2 i3 i4 i5 i6
    have HG := Lib.hid hgr; clear hgr
    have hc0 : W.cell? ⟨w.heap.size, 0, none⟩ = some (.int .u32 x) := by rw [cell_of_row W _ 0 _ _ _ HI.out.1]; rfl
    gi_wp2_with (refine Og.wpListIn_of_gives rfl (fun c e => by cases e) (Og.gives_load_row (R := fun v w' => v = .agg (foc k.1) ∧ W = w') 169 (.tmp 6) rfl g rfl _ _ _ _ HG.out Tryz.underlying169 (by kernel_rfl) (by rw [foc_size _ k.2]; exact form_info) ⟨rfl, rfl⟩) ?_; rintro v w' ⟨rfl, rfl⟩)
    rw [← fo_agg _ k.2]
    refine ⟨trivial, (CallsIn.inRound l (callsIn_wide.2 (take_any k.1 k.2 x HX.out _))).mono ?_⟩
    rintro e wa ⟨rfl, hba⟩
    have HBA := Lib.hid hba; clear hba hc0
    unfold inst
    gi_wp2_with fail
    obtain ⟨wb, hwb⟩ : ∃ wb : World, wa.alloc (Obj.cells (takeC 0 k.1 x) 85) = wb := ⟨_, rfl⟩
    have hbb : Below W.heap.size W wb := by rw [← hwb]; exact HBA.out.alloc HBA.out.size _
    have hq : Rw wb wa.heap.size (takeC 0 k.1 x) 85 := by rw [← hwb]; exact rw_new _ _ _
    have hbx := HI.out.1.below hbb
    have hgr := HG.out.below hbb
    unfold takeC instC at hwb
    rw [Int.ofNat_zero] at hwb
    rw [hwb]
    have HBB := Lib.hid hbb; have HQ := Lib.hid hq; have HBX := Lib.hid hbx; have HGB := Lib.hid hgr; clear hbb hq hbx hgr hwb HBA
    refine Og.region3R (by kernel_rfl) (fun t => if t = 8 then some 5 else if 19 ≤ t ∧ t ≤ 23 then some (t - 19) else none) [.is (.int .u32 x), .is (.agg (foc k.1)), .is (.agg (takeC 0 k.1 x)), .is (.int .u32 (Is.layO k.1 (Is.rdO k.1 x) (Is.rs1O k.1 x) (Is.rs2O k.1 x) (Is.immO k.1 x) (Is.aqO k.1 x) (Is.rlO k.1 x))), .is (.int .u32 (Is.ownO k.1 x)), .is (.int .u32 (Is.ownO k.1 x))] [true, true, true, true, true, true] (by kernel_rfl) (by kernel_rfl) ?_ ?_
    · refine ⟨?_, ?_, ?_, ?_, ?_, ?_, trivial⟩
      · refine ⟨rfl, fun ρ w1 hr hd => ?_⟩
        obtain ⟨d0, _⟩ := hd
        have d0 : ρ (.tmp 1) = .pointer (some ⟨w.heap.size, 0, none⟩) := d0
        have hc : w1.cell? ⟨w.heap.size, 0, none⟩ = some (.int .u32 x) := by rw [cell_of_row w1 _ 0 _ _ _ (HBX.out.below hr)]; rfl
        refine (if_pos (by rfl)).mpr ?_
        refine Og.gives_is (.int .u32 x) ?_ (And.intro (Below.refl _ _) rfl)
        go_simp
      · refine ⟨rfl, fun ρ w1 hr hd => ?_⟩
        obtain ⟨d0, _⟩ := hd
        have d0 : ρ (.tmp 6) = .pointer (some ⟨g, 0, none⟩) := d0
        refine (if_pos (by rfl)).mpr ?_
        exact Og.gives_load_row 169 (.tmp 6) rfl g d0 _ _ _ _ (HGB.out.below hr) Tryz.underlying169 (by kernel_rfl) (by rw [foc_size _ k.2]; exact form_info) ⟨Below.refl _ _, rfl⟩
      · refine ⟨rfl, fun ρ w1 hr hd => ?_⟩
        obtain ⟨d0, _⟩ := hd
        have d0 : ρ (.tmp 7) = .pointer (some ⟨wa.heap.size, 0, none⟩) := d0
        refine (if_pos (by rfl)).mpr ?_
        exact Og.gives_load_row 85 (.tmp 7) rfl wa.heap.size d0 _ _ _ _ (HQ.out.below hr) Tryz.underlying85 (by kernel_rfl) (by kernel_rfl) ⟨Below.refl _ _, rfl⟩
      · refine ⟨rfl, fun ρ w1 hr hd => ?_⟩
        obtain ⟨d0, d1, d2, _⟩ := hd
        have d0 : ρ (.func 104) = .func (.func 104) #[] #[] := d0
        have d1 : ρ (.tmp 20) = .agg (foc k.1) := d1
        have d2 : ρ (.tmp 21) = .agg (takeC 0 k.1 x) := d2
        refine (if_pos (by rfl)).mpr ?_
        refine Og.gives_call 104 #[.agg (foc k.1), .agg (takeC 0 k.1 x)] ?_ ?_
        · go_simp
        · rw [← fo_agg _ k.2]
          refine (lay_any k.1 k.2 0 _ _ _ _ _ _ (Is.rdO_bd _ _) (Is.rs1O_bd _ _) (Is.rs2O_bd _ _) (Is.immO_wd k.1 HX.out) w1).mono ?_
          rintro e w3 ⟨rfl, hb3⟩
          exact ⟨_, rfl, hb3, rfl⟩
      · refine ⟨rfl, fun ρ w1 hr hd => ?_⟩
        obtain ⟨d0, d1, _⟩ := hd
        have d0 : ρ (.tmp 19) = .int .u32 x := d0
        have d1 : ρ (.tmp 22) = .int .u32 (Is.layO k.1 (Is.rdO k.1 x) (Is.rs1O k.1 x) (Is.rs2O k.1 x) (Is.immO k.1 x) (Is.aqO k.1 x) (Is.rlO k.1 x)) := d1
        refine (if_pos (by rfl)).mpr ?_
        refine Og.gives_is (.int .u32 (Is.ownO k.1 x)) ?_ (And.intro (Below.refl _ _) rfl)
        unfold Is.ownO; go_simp
      · refine ⟨rfl, fun ρ w1 hr hd => ?_⟩
        obtain ⟨d0, _⟩ := hd
        have d0 : ρ (.tmp 23) = .int .u32 (Is.ownO k.1 x) := d0
        refine (if_pos (by rfl)).mpr ?_
        refine Og.gives_is (.int .u32 (Is.ownO k.1 x)) ?_ (And.intro (Below.refl _ _) rfl)
        go_simp
    · intro vs wc hbz hall
      have v0 : vs 0 = .int .u32 x := hall 0 _ 19 rfl rfl
      have v1 : vs 1 = .agg (foc k.1) := hall 1 _ 20 rfl rfl
      have v2 : vs 2 = .agg (takeC 0 k.1 x) := hall 2 _ 21 rfl rfl
      have v3 : vs 3 = .int .u32 (Is.layO k.1 (Is.rdO k.1 x) (Is.rs1O k.1 x) (Is.rs2O k.1 x) (Is.immO k.1 x) (Is.aqO k.1 x) (Is.rlO k.1 x)) := hall 3 _ 22 rfl rfl
      have v4 : vs 4 = .int .u32 (Is.ownO k.1 x) := hall 4 _ 23 rfl rfl
      have v5 : vs 5 = .int .u32 (Is.ownO k.1 x) := hall 5 _ 8 rfl rfl
      simp only [Og.putAll, Act.put, List.setIfInBounds_toArray, List.set_cons_zero, List.set_cons_succ, Nat.zero_add, Nat.reduceAdd, v0, v1, v2, v3, v4, v5]
      clear v0 v1 v2 v3 v4 v5 hall
      have HBC := Lib.hid (HBB.out.trans (hbz.mono HBB.out.size)); have HQC := Lib.hid (HQ.out.below hbz)
      clear hbz
      gi_wp2_with fail
      refine ⟨trivial, (CallsIn.inRound l (callsIn_wide.2 (table_any _))).mono ?_⟩
      rintro e wf ⟨rfl, hbf⟩
      have HBF := Lib.hid (HBC.out.trans (hbf.mono HBC.out.size)); have HQF := Lib.hid (HQC.out.below hbf)
      clear hbf
      gi_wp2_with fail
      gi_loopw [25] (fun i wr => ∃ j : Nat, j ≤ 60 ∧ i = .int .i64 (j : Int) ∧ Below wf.heap.size wf wr ∧ ∀ q, q < j → ¬ Is.hit k.1 x q) (fun i _ => 60 - (intOf i).toNat)
      case atStart => exact ⟨0, by omega, rfl, Below.refl _ _, fun q hq => absurd hq (Nat.not_lt_zero q)⟩
      case round =>
        obtain ⟨j, hj, rfl, hbr, hno⟩ := hrel
        have HBR := Lib.hid hbr; have HNO := Lib.hid hno; clear hbr hno
        by_cases hlt : j < 60
        · have hi : ∀ w : World, (Instr.index 173 (.agg TB) (.int .i64 (j : Int))).run Tryz.prog w = .ok (.agg #[.string ⟨(Is.nm j).toArray⟩, .int .i64 (Is.fm j : Int), .int .u32 (Is.wd j)]) w := fun w => index_row j hlt w
          by_cases hh : Is.hit k.1 x j
          · have h1 : (Is.fm j : Int) = (k.1 : Int) := by rw [hh.1]
            have h2 : Is.wd j = Is.ownO k.1 x := hh.2
            have HH := Lib.hid hh
            have t1 : ((Is.fm j : Int) == (k.1 : Int)) = true := by rw [h1]; exact beq_self_eq_true _
            have t2 : (Is.wd j == Is.ownO k.1 x) = true := by rw [h2]; exact beq_self_eq_true _
            clear h1 h2 hh
            have HBW := Lib.hid (HBF.out.trans (HBR.out.mono HBF.out.size))
            have HQW := Lib.hid (HQF.out.below HBR.out)
            have HFN := Lib.hid ((HI.out.2.2.1.below HBW.out).alloc (Obj.cells #[.string ⟨(Is.nm j).toArray⟩, .int .i64 (Is.fm j : Int), .int .u32 (Is.wd j)] 172))
            gi_wp2_with (first
              | (refine Og.wpListIn_of_gives rfl (fun c e => by cases e) (Og.gives_load_row (R := fun v w' => v = .agg (takeC 0 k.1 x) ∧ (wr.alloc (Obj.cells #[.string ⟨(Is.nm j).toArray⟩, .int .i64 (Is.fm j : Int), .int .u32 (Is.wd j)] 172)) = w') 85 (.tmp 7) rfl wa.heap.size rfl _ _ _ _ (HQW.out.alloc _) Tryz.underlying85 (by kernel_rfl) (by kernel_rfl) ⟨rfl, rfl⟩) ?_; rintro v w' ⟨rfl, rfl⟩)
              | (refine Og.wpListIn_of_gives rfl (fun c e => by cases e) (Og.gives_store_row (R := fun v w' => v = undef ∧ w' = (wr.alloc (Obj.cells #[.string ⟨(Is.nm j).toArray⟩, .int .i64 (Is.fm j : Int), .int .u32 (Is.wd j)] 172)).setRow (w.heap.size + 1 + 1) (takeC 0 k.1 x)) 85 (.tmp 4) (.tmp 39) rfl (w.heap.size + 1 + 1) (takeC 0 k.1 x) rfl rfl 85 _ HFN.out (by kernel_rfl) rfl (by kernel_rfl) ⟨rfl, rfl⟩) ?_; rintro v w' ⟨rfl, hw'⟩; have hcx : w'.cell? ⟨w.heap.size + 1 + 1, 0, none⟩ = some (.int .i64 0) := (by rw [hw', cell_setRow_same _ _ _ _ _ _ _ HFN.out]; rfl); have hfx : w'.frozen? ⟨w.heap.size + 1 + 1, 0, none⟩ = false := (by rw [hw']; exact frozen_of_row _ _ _ _ _ (setRow_heap _ _ _ _ _ _ HFN.out)); have HW := Lib.hid hw'; clear hw'))
            have hrow : Rw w' (w.heap.size + 1 + 1) (takeC 0 k.1 x) 85 := by rw [HW.out]; exact setRow_heap _ _ _ _ _ _ HFN.out
            have hrow2 : Rw (w'.setCell ⟨w.heap.size + 1 + 1, 0, none⟩ (.int .i64 (j : Int))) (w.heap.size + 1 + 1) (takeC j k.1 x) 85 := heap_setCell_same w' _ 0 _ _ _ hrow
            have hk1 : KeepsFrom W0.heap.size W (w'.setCell ⟨w.heap.size + 1 + 1, 0, none⟩ (.int .i64 (j : Int))) := by
              have e1 := keeps_of_below (HBW.out.alloc HBW.out.size (Obj.cells #[.string ⟨(Is.nm j).toArray⟩, .int .i64 (Is.fm j : Int), .int .u32 (Is.wd j)] 172))
              have e2 := keeps_setRow _ (w.heap.size + 1 + 1) (takeC 0 k.1 x) _ _ HFN.out
              rw [← HW.out] at e2
              exact ((e1.trans e2).trans (KeepsOthers.setCell _ _ _)).from _
            have hbl : Below w.heap.size w (w'.setCell ⟨w.heap.size + 1 + 1, 0, none⟩ (.int .i64 (j : Int))) := by
              have hle := HI.out.2.2.2.2.1.size
              have e1 := HI.out.2.2.2.2.1.trans ((HBW.out.alloc HBW.out.size (Obj.cells #[.string ⟨(Is.nm j).toArray⟩, .int .i64 (Is.fm j : Int), .int .u32 (Is.wd j)] 172)).mono hle)
              have e2 := below_setRow (g := w.heap.size + 1 + 1) (cs := takeC 0 k.1 x) e1 (by omega)
              rw [← HW.out] at e2
              exact e2.setCell (by show w.heap.size ≤ w.heap.size + 1 + 1; omega) _
            have oth : ∀ p cs t, p ≠ w.heap.size + 1 + 1 → Rw W p cs t → Rw (w'.setCell ⟨w.heap.size + 1 + 1, 0, none⟩ (.int .i64 (j : Int))) p cs t := fun p cs t hne hp => by
              have e1 := ((hp.below HBW.out).alloc (Obj.cells #[.string ⟨(Is.nm j).toArray⟩, .int .i64 (Is.fm j : Int), .int .u32 (Is.wd j)] 172)).other (g := w.heap.size + 1 + 1) (ds := takeC 0 k.1 x) hne
              rw [← HW.out] at e1
              exact (heap_setCell_other w' _ _ _ hne).trans e1
            exact ⟨hk1, rfl, pre.map (·.1), k.1, j, by rw [List.map_append]; rfl, k.2.1, HI.out.2.2.2.1, ⟨hlt, HH.out, HNO.out⟩, ⟨⟨oth _ _ _ (by omega) HI.out.1, oth _ _ _ (by omega) HI.out.2.1⟩, hrow2⟩, hbl⟩
          · have HH := Lib.hid hh
            have HBW := Lib.hid (HBR.out.alloc HBR.out.size (Obj.cells #[.string ⟨(Is.nm j).toArray⟩, .int .i64 (Is.fm j : Int), .int .u32 (Is.wd j)] 172))
            by_cases h1 : Is.fm j = k.1
            · have h2 : ¬ Is.wd j = Is.ownO k.1 x := fun h2 => hh ⟨h1, h2⟩
              have t1 : ((Is.fm j : Int) == (k.1 : Int)) = true := by rw [h1]; exact beq_self_eq_true _
              have t2 : (Is.wd j == Is.ownO k.1 x) = false := by simpa using h2
              clear h1 h2 hh
              gi_wp2_with fail
              go_roundw
              case rel => exact ⟨j + 1, by omega, by go_num, HBW.out, fun q hq => by rcases Nat.lt_succ_iff_lt_or_eq.1 hq with h | h; exact HNO.out q h; rw [h]; exact HH.out⟩
              case measure => simp [intOf]; omega
            · have t1 : ((Is.fm j : Int) == (k.1 : Int)) = false := beq_eq_false_iff_ne.2 (by omega)
              clear h1 hh
              gi_wp2_with fail
              go_roundw
              case rel => exact ⟨j + 1, by omega, by go_num, HBW.out, fun q hq => by rcases Nat.lt_succ_iff_lt_or_eq.1 hq with h | h; exact HNO.out q h; rw [h]; exact HH.out⟩
              case measure => simp [intOf]; omega
        · obtain rfl : j = 60 := by omega
          have HBW := Lib.hid (HBF.out.trans (HBR.out.mono HBF.out.size))
          gi_wp2_with fail
          exact ⟨(keeps_of_below HBW.out).from _, kp_of_below HI.out.2.2.2.2.2.lt HBW.out, ⟨⟨HI.out.1.below HBW.out, HI.out.2.1.below HBW.out⟩, HI.out.2.2.1.below HBW.out, HI.out.2.2.2.2.2.below HBW.out⟩, by
            rw [List.map_append]
            intro q hq op hop
            rcases List.mem_append.1 hq with h | h
            · exact HI.out.2.2.2.1 q h op hop
            · rw [List.map_cons, List.map_nil, List.mem_singleton] at h
              rw [h]
              exact HNO.out op hop, HI.out.2.2.2.2.1.trans (HBW.out.mono HI.out.2.2.2.2.1.size)⟩
  case done =>
    rintro D xs W hD hS ⟨⟨⟨i1, i2⟩, i3, i6⟩, i4, i5⟩ hK
    go_wp2_with fail
    have hf0 : W.cell? ⟨w.heap.size + 1 + 1, 0, none⟩ = some (.int .i64 0) := by rw [cell_of_row W _ 0 _ _ _ i3]; rfl
    have hf1 : W.cell? ⟨w.heap.size + 1 + 1, 1, none⟩ = some (.int .i64 0) := by rw [cell_of_row W _ 1 _ _ _ i3]; rfl
    have hf2 : W.cell? ⟨w.heap.size + 1 + 1, 2, none⟩ = some (.int .i64 0) := by rw [cell_of_row W _ 2 _ _ _ i3]; rfl
    have hf3 : W.cell? ⟨w.heap.size + 1 + 1, 3, none⟩ = some (.int .i64 0) := by rw [cell_of_row W _ 3 _ _ _ i3]; rfl
    have hf4 : W.cell? ⟨w.heap.size + 1 + 1, 4, none⟩ = some (.int .u32 0) := by rw [cell_of_row W _ 4 _ _ _ i3]; rfl
    have hf5 : W.cell? ⟨w.heap.size + 1 + 1, 5, none⟩ = some (.bool false) := by rw [cell_of_row W _ 5 _ _ _ i3]; rfl
    have hf6 : W.cell? ⟨w.heap.size + 1 + 1, 6, none⟩ = some (.bool false) := by rw [cell_of_row W _ 6 _ _ _ i3]; rfl
    have hr0 : W.cell? ⟨w.heap.size + 1, 0, none⟩ = some (.int .i64 0) := by rw [cell_of_row W _ 0 _ _ _ i2]; rfl
    have hz0 : W.frozen? ⟨w.heap.size + 1, 0, none⟩ = false := frozen_of_row W _ 0 _ _ i2
    have hr1 : W.cell? ⟨w.heap.size + 1, 1, none⟩ = some (.int .i64 0) := by rw [cell_of_row W _ 1 _ _ _ i2]; rfl
    have hz1 : W.frozen? ⟨w.heap.size + 1, 1, none⟩ = false := frozen_of_row W _ 1 _ _ i2
    have hr2 : W.cell? ⟨w.heap.size + 1, 2, none⟩ = some (.int .i64 0) := by rw [cell_of_row W _ 2 _ _ _ i2]; rfl
    have hz2 : W.frozen? ⟨w.heap.size + 1, 2, none⟩ = false := frozen_of_row W _ 2 _ _ i2
    have hr3 : W.cell? ⟨w.heap.size + 1, 3, none⟩ = some (.int .i64 0) := by rw [cell_of_row W _ 3 _ _ _ i2]; rfl
    have hz3 : W.frozen? ⟨w.heap.size + 1, 3, none⟩ = false := frozen_of_row W _ 3 _ _ i2
    have hr4 : W.cell? ⟨w.heap.size + 1, 4, none⟩ = some (.int .u32 0) := by rw [cell_of_row W _ 4 _ _ _ i2]; rfl
    have hz4 : W.frozen? ⟨w.heap.size + 1, 4, none⟩ = false := frozen_of_row W _ 4 _ _ i2
    have hr5 : W.cell? ⟨w.heap.size + 1, 5, none⟩ = some (.bool false) := by rw [cell_of_row W _ 5 _ _ _ i2]; rfl
    have hz5 : W.frozen? ⟨w.heap.size + 1, 5, none⟩ = false := frozen_of_row W _ 5 _ _ i2
    have hr6 : W.cell? ⟨w.heap.size + 1, 6, none⟩ = some (.bool false) := by rw [cell_of_row W _ 6 _ _ _ i2]; rfl
    have hz6 : W.frozen? ⟨w.heap.size + 1, 6, none⟩ = false := frozen_of_row W _ 6 _ _ i2
    have HI := Lib.hid (And.intro i2 (And.intro i3 (And.intro i4 (And.intro i5 (And.intro hK hS))))); clear i1 i2 i3 i4 i5 i6 hK hS
    go_region
    all_goals
      go_wp2
      (try rw [Exit.noGoto_ret])
      refine ⟨by simp, .inl ⟨_, _, rfl, run_takeDeferred (deferred_seven (by omega) HI.out.2.2.2.2.1), ?_⟩⟩
      refine ⟨.tuple #[inst 0 0 0 0 0 false false, .bool false], results_row2 (fn := Tryz.f80) rfl _ _ (w.heap.size + 1) 85 _ (0, 0) _ rfl (rw_seven (by omega) HI.out.1) Tryz.underlying85 (by kernel_rfl) (by kernel_rfl), .inl ⟨by rw [← HI.out.2.2.2.2.2]; exact HI.out.2.2.1, rfl⟩, ?_⟩
      exact below_seven HI.out.2.2.2.1 (by omega) (by omega)
  case stop => 
    rintro D c pre W hD ⟨j, hj, hS⟩ ⟨rfl, p, k, op, e1, hk1, hno, hfh, ⟨⟨i1, i2⟩, i3⟩, i5⟩ hK
    refine wpIn_wide.2 ?_
    go_wp2_with fail
    have hf0 : W.cell? ⟨w.heap.size + 1 + 1, 0, none⟩ = some (.int .i64 (op : Int)) := by rw [cell_of_row W _ 0 _ _ _ i3]; rfl
    have hf1 : W.cell? ⟨w.heap.size + 1 + 1, 1, none⟩ = some (.int .i64 (Is.rdO k x)) := by rw [cell_of_row W _ 1 _ _ _ i3]; rfl
    have hf2 : W.cell? ⟨w.heap.size + 1 + 1, 2, none⟩ = some (.int .i64 (Is.rs1O k x)) := by rw [cell_of_row W _ 2 _ _ _ i3]; rfl
    have hf3 : W.cell? ⟨w.heap.size + 1 + 1, 3, none⟩ = some (.int .i64 (Is.rs2O k x)) := by rw [cell_of_row W _ 3 _ _ _ i3]; rfl
    have hf4 : W.cell? ⟨w.heap.size + 1 + 1, 4, none⟩ = some (.int .u32 (Is.immO k x)) := by rw [cell_of_row W _ 4 _ _ _ i3]; rfl
    have hf5 : W.cell? ⟨w.heap.size + 1 + 1, 5, none⟩ = some (.bool (Is.aqO k x)) := by rw [cell_of_row W _ 5 _ _ _ i3]; rfl
    have hf6 : W.cell? ⟨w.heap.size + 1 + 1, 6, none⟩ = some (.bool (Is.rlO k x)) := by rw [cell_of_row W _ 6 _ _ _ i3]; rfl
    have hr0 : W.cell? ⟨w.heap.size + 1, 0, none⟩ = some (.int .i64 0) := by rw [cell_of_row W _ 0 _ _ _ i2]; rfl
    have hz0 : W.frozen? ⟨w.heap.size + 1, 0, none⟩ = false := frozen_of_row W _ 0 _ _ i2
    have hr1 : W.cell? ⟨w.heap.size + 1, 1, none⟩ = some (.int .i64 0) := by rw [cell_of_row W _ 1 _ _ _ i2]; rfl
    have hz1 : W.frozen? ⟨w.heap.size + 1, 1, none⟩ = false := frozen_of_row W _ 1 _ _ i2
    have hr2 : W.cell? ⟨w.heap.size + 1, 2, none⟩ = some (.int .i64 0) := by rw [cell_of_row W _ 2 _ _ _ i2]; rfl
    have hz2 : W.frozen? ⟨w.heap.size + 1, 2, none⟩ = false := frozen_of_row W _ 2 _ _ i2
    have hr3 : W.cell? ⟨w.heap.size + 1, 3, none⟩ = some (.int .i64 0) := by rw [cell_of_row W _ 3 _ _ _ i2]; rfl
    have hz3 : W.frozen? ⟨w.heap.size + 1, 3, none⟩ = false := frozen_of_row W _ 3 _ _ i2
    have hr4 : W.cell? ⟨w.heap.size + 1, 4, none⟩ = some (.int .u32 0) := by rw [cell_of_row W _ 4 _ _ _ i2]; rfl
    have hz4 : W.frozen? ⟨w.heap.size + 1, 4, none⟩ = false := frozen_of_row W _ 4 _ _ i2
    have hr5 : W.cell? ⟨w.heap.size + 1, 5, none⟩ = some (.bool false) := by rw [cell_of_row W _ 5 _ _ _ i2]; rfl
    have hz5 : W.frozen? ⟨w.heap.size + 1, 5, none⟩ = false := frozen_of_row W _ 5 _ _ i2
    have hr6 : W.cell? ⟨w.heap.size + 1, 6, none⟩ = some (.bool false) := by rw [cell_of_row W _ 6 _ _ _ i2]; rfl
    have hz6 : W.frozen? ⟨w.heap.size + 1, 6, none⟩ = false := frozen_of_row W _ 6 _ _ i2
    have HI := Lib.hid (And.intro i2 (And.intro i3 (And.intro hno (And.intro i5 (And.intro hK (And.intro hS (And.intro e1 hfh))))))); clear i1 i2 i3 hno i5 hK hS e1 hfh
    have hop : ¬ (op : Int) = 0 := by
      intro h0
      obtain rfl : op = 0 := by omega
      have := HI.out.2.2.2.2.2.2.2.2.1.1
      have e0 : Is.fm 0 = 0 := rfl
      omega
    have hop' : ((op : Int) != 0) = true := by simpa using hop
    clear hop
    go_region
    all_goals
      go_wp2
      (try rw [Exit.noGoto_ret])
      refine ⟨by simp, .inl ⟨_, _, rfl, run_takeDeferred (deferred_seven (by omega) HI.out.2.2.2.2.1), ?_⟩⟩
      refine ⟨.tuple #[.agg (takeC op k x), .bool true], results_row2 (fn := Tryz.f80) rfl _ _ (w.heap.size + 1) 85 _ (0, 0) _ rfl (rw_seven (by omega) HI.out.1) Tryz.underlying85 (by kernel_rfl) (by kernel_rfl), .inr ⟨p, k, op, j, hj, by rw [← HI.out.2.2.2.2.2.1]; exact HI.out.2.2.2.2.2.2.1.symm, hk1, HI.out.2.2.1, HI.out.2.2.2.2.2.2.2, rfl⟩, ?_⟩
      exact below_seven HI.out.2.2.2.1 (by omega) (by omega)
end Go.Proofs.YtianojbdabeoeaaGreatDoor
