/-
  The contract of To.
-/
import Derived.Test.YtnfpcklpmfemiaaNtIter
namespace Go.Proofs.Ytnfpcklpmfemiaa
open Go.RowKit
set_option linter.unusedVariables false
set_option linter.unusedSimpArgs false
attribute [local go_sem] Oper.semAt_some
namespace Nt
theorem Box.lt {w : World} {q : Nat} {t : TypeId} {v : Value} (h : Box w q t v) : q < w.heap.size := (Array.getElem?_eq_some_iff.1 h).1
theorem Own.keptC {w w' : World} {F : Nat → Prop} {a c l} (h : Own w F a c l) (hb : ∀ k x, w.heap[k]? = some x → x.isCells = true → F k → w'.heap[k]? = some x) : Own w' F a c l := by
  rcases h with h | ⟨g, cur, e, hf, hg, r⟩
  · exact .inl h
  · exact .inr ⟨g, cur, e, hf, hb g _ hg rfl hf, r⟩
theorem Own.cellsF {w : World} {F : Nat → Prop} {a c l} (h : Own w F a c l) : Own w (fun k => F k ∧ ∃ x, w.heap[k]? = some x ∧ x.isCells = true) a c l := by
  rcases h with h | ⟨g, cur, e, hf, hg, r⟩
  · exact .inl h
  · exact .inr ⟨g, cur, e, ⟨hf, _, hg, rfl⟩, hg, r⟩
/-- messages that are gathered in a box cb, while R stays -/
structure AccR (w : World) (cb N : Nat) (R : World → Prop) (l : List E) (W : World) : Prop where
  bel : Below w.heap.size w W
  out : ∃ a c, Boxed W cb 68 (.slice a l.length c) ∧ Own W (fun k => N ≤ k) a c l
  r : R W
  nn : N ≤ W.heap.size
/-- what R asks -/
def Stab (cb N : Nat) (R : World → Prop) : Prop := ∀ A A', R A → A.heap.size ≤ A'.heap.size → (∀ k, k < A.heap.size → k < N → k ≠ cb → A'.heap[k]? = A.heap[k]?) → R A'
section
variable {w : World} {cb N : Nat} {R : World → Prop} {l : List E} {W : World}
theorem AccR.kp (h : AccR w cb N R l W) (hR : Stab cb N R) {W' : World} (hb : Below W.heap.size W W') : AccR w cb N R l W' := by
  obtain ⟨a, c, h1, h2⟩ := h.out
  exact ⟨h.bel.trans (hb.mono h.bel.size), ⟨a, c, (hb.block cb h1.lt).trans h1, h2.kp hb⟩, hR W W' h.r hb.size (fun k hk _ _ => hb.block k hk), Nat.le_trans h.nn hb.size⟩
theorem AccR.putObj (h : AccR w cb N R l W) (hR : Stab cb N R) (hN : w.heap.size ≤ N) {j : Nat} {o : Obj} (o' : Obj) (hj : N ≤ j) (ho : W.heap[j]? = some o) (hc : o.isCells = false) : AccR w cb N R l (W.putObj j o') := by
  obtain ⟨a, c, h1, h2⟩ := h.out
  have hk : ∀ (k : Nat) (x : Obj), W.heap[k]? = some x → x.isCells = true → (W.putObj j o').heap[k]? = some x := fun k x hx hxc => (World.putObj_heap_other (fun e => by subst e; rw [ho] at hx; cases hx; rw [hc] at hxc; cases hxc)).trans hx
  exact ⟨below_putObj h.bel (by omega), ⟨a, c, hk cb _ h1 rfl, h2.keptC fun k x hx hxc _ => hk k x hx hxc⟩, hR W _ h.r (by simp) (fun k hk1 hk2 _ => World.putObj_heap_other (by omega)), by simpa using h.nn⟩
theorem AccR.grown (h : AccR w cb N R l W) (hR : Stab cb N R) (hN : w.heap.size ≤ N) {W' : World} {r : Nat} {o : Obj} (hr : N ≤ r) (ho : W.heap[r]? = some o) (hc : o.isCells = false) (hg : W.grownBy W' (some r)) : AccR w cb N R l W' := by
  obtain ⟨a, c, h1, h2⟩ := h.out
  have hne : ∀ (k : Nat) (x : Obj), W.heap[k]? = some x → x.isCells = true → W'.heap[k]? = some x := fun k x hx hxc => (hg.block k (Array.getElem?_eq_some_iff.1 hx).1 (fun e => by cases e; rw [ho] at hx; cases hx; rw [hc] at hxc; cases hxc)).trans hx
  exact ⟨h.bel.grown hg h.bel.size (fun j hj => by cases hj; omega), ⟨a, c, hne cb _ h1 rfl, h2.keptC fun k x hx hxc _ => hne k x hx hxc⟩, hR W _ h.r hg.size (fun k hk1 hk2 _ => hg.block k hk1 (by simp; omega)), Nat.le_trans h.nn hg.size⟩
end
theorem IterL.sub {F : Fence} {n : Nat} {P : Program} {g : Nat} {lb : Array Value} {R : World → Prop} {xs : List E} (h : Og.IterL F n P g lb R (fun e : E => #[EV e]) xs) (ys : List {e : E // Ok e}) (hy : ys.map (·.1) = xs) :
    Og.IterL F n P g lb R (fun e : {e : E // Ok e} => #[EV e.1]) ys := by
  intro l J Jx W h1 h2 h3 h4
  have := h l J Jx W h1 h2 (fun k x W1 hx hj => by
    rw [← hy, List.getElem?_map] at hx
    obtain ⟨y, hy, rfl⟩ := Option.map_eq_some_iff.1 hx
    exact h3 k y W1 hy hj) h4
  rw [← hy, List.length_map] at this
  exact this
theorem IterL.weak {α : Type} {F : Fence} {n : Nat} {P : Program} {g : Nat} {lb : Array Value} {R R' : World → Prop} {enc : α → Array Value} {xs : List α} (h : Og.IterL F n P g lb R enc xs) (hR : ∀ W, R' W → R W) : Og.IterL F n P g lb R' enc xs :=
  fun l J Jx W h1 h2 h3 h4 => h l J Jx W h1 (fun k A hA => hR _ (h2 k A hA)) h3 h4
set_option maxRecDepth 100000 in
set_option maxHeartbeats 8000000 in
theorem to_of (v : Option Addr) (node : Int) (w : World) {xs : List E} (hxl : xs.length ≤ 1024) (hok : ∀ e ∈ xs, Ok e) (S : World → Prop) (hS : S w) (hSS : ∀ A A', S A → A.heap.size ≤ A'.heap.size → (∀ k, k < w.heap.size → A'.heap[k]? = A.heap[k]?) → S A')
    (hit : ∀ q1 q2, Og.IterL Fence.wide 4 Try.prog 76 #[.pointer (some ⟨q1, 0, none⟩), .pointer (some ⟨q2, 0, none⟩)] (fun W => Box W q1 62 (.pointer v) ∧ Box W q2 3 (.int .i64 node) ∧ S W) (fun e : E => #[EV e]) xs) :
    Calls Try.prog 34 #[.pointer v, .int .i64 node] w fun e w' => Told w w' e xs := by
  obtain ⟨cb, hcb⟩ : ∃ cb, cb = w.heap.size := ⟨_, rfl⟩
  obtain ⟨B, hB⟩ : ∃ B, B = w.alloc (.cells #[.slice none 0 0] 68) := ⟨_, rfl⟩
  have HB := Lib.hid hB; have HCB := Lib.hid hcb
  have B0 := Lib.hid (show Below w.heap.size w B by rw [hB]; exact (Below.refl w.heap.size w).alloc (Nat.le_refl _) _)
  have BX := Lib.hid (show Boxed B cb 68 (.slice none 0 0) by rw [hB, hcb]; exact Boxed.new w _ _)
  have hsB := Lib.hid (show B.heap.size = w.heap.size + 1 by rw [hB]; simp)
  have HSS := Lib.hid hSS; have HS := Lib.hid hS; have HXO := Lib.hid hok
  obtain ⟨q1, hq1⟩ : ∃ q1, q1 = B.heap.size := ⟨_, rfl⟩
  obtain ⟨q2, hq2⟩ : ∃ q2, q2 = B.heap.size + 1 := ⟨_, rfl⟩
  have HIT := Lib.hid (hit q1 q2)
  have HQ1 := Lib.hid hq1; have HQ2 := Lib.hid hq2
  clear hB hcb hit hSS hS hok hq1 hq2
  refine (callsIn_wide (n := 5)).1 ?_
  refine callsIn_of_wp_marks Try.func34 rfl trivial ?_ rfl
  simp only [Try.ntmps34, List.size_toArray, List.length_cons, List.length_nil, Nat.reduceAdd, Nat.reduceSub, Array.replicate_succ, Array.replicate_zero, List.push_toArray, List.append_toArray, List.nil_append, List.cons_append]
  refine wpIn_wide.2 ?_
  go_wp2_with (go_at_call 65; rw [← HB.out, ← HCB.out]; refine (going_any v node B).mono ?_; rintro e W1 ⟨rfl, hw1⟩; have HW1 := Lib.hid hw1; clear hw1; rw [← HQ2.out, ← HQ1.out])
  have hw1 := HW1.out
  have bx1 : Box W1 q1 62 (.pointer v) := by
    rw [hw1, HQ1.out]
    exact (Below.heap_alloc _ _ _ (by simp)).trans (heap_alloc_new _ _)
  have bx2 : Box W1 q2 3 (.int .i64 node) := by
    have := heap_alloc_new (B.alloc (.cells #[.pointer v] 62)) (.cells #[.int .i64 node] 3)
    rw [World.size_alloc] at this
    rw [hw1, HQ2.out]; exact this
  have hb1 : Below B.heap.size B W1 := by rw [hw1]; exact ((Below.refl _ _).alloc (Nat.le_refl _) _).alloc (by simp) _
  have B2 := Lib.hid (B0.out.trans (hb1.mono B0.out.size))
  have BX2 := Lib.hid (show Boxed W1 cb 68 (.slice none 0 0) from (hb1.block cb BX.out.lt).trans BX.out)
  obtain ⟨R, hR⟩ : ∃ R : World → Prop, R = fun W => Box W q1 62 (.pointer v) ∧ Box W q2 3 (.int .i64 node) ∧ S W := ⟨_, rfl⟩
  have hit2 := HIT.out
  rw [← hR] at hit2
  have HIT2 := Lib.hid hit2
  obtain ⟨N, hN⟩ : ∃ N, N = W1.heap.size := ⟨_, rfl⟩
  have HRW := Lib.hid (show R W1 from by
    rw [hR]; exact ⟨bx1, bx2, HSS.out w W1 HS.out B2.out.size (fun k hk => B2.out.block k hk)⟩)
  have HST := Lib.hid (show Stab cb N R from by
    intro A A' hA hs hk
    rw [hR] at hA ⊢
    have l1 := bx1.lt; have l2 := bx2.lt; have l3 := HCB.out; have l4 := HQ1.out; have l5 := HQ2.out; have l6 := hsB.out; have l7 := B2.out.size
    exact ⟨(hk q1 hA.1.lt (by omega) (by omega)).trans hA.1, (hk q2 hA.2.1.lt (by omega) (by omega)).trans hA.2.1, HSS.out A A' hA.2.2 hs (fun k hkw => by
      by_cases hka : k < A.heap.size
      · exact hk k hka (by omega) (by omega)
      · have := hA.1.lt; omega)⟩)
  have hcN : cb < N := by rw [hN]; exact BX2.out.lt
  have HN := Lib.hid hN
  have hwN : w.heap.size ≤ N := by rw [hN]; exact B2.out.size
  have HA := Lib.hid (show AccR w cb N R (xs.take 0) W1 from ⟨B2.out, ⟨none, 0, BX2.out, Own.nil _ _⟩, HRW.out, by rw [hN]; exact Nat.le_refl _⟩)
  clear hN hw1 bx1 bx2 hb1 hR hit2 HIT
  obtain ⟨ys, hys⟩ : ∃ ys : List {e : E // Ok e}, ys.map (·.1) = xs := ⟨xs.pmap (fun e h => ⟨e, h⟩) HXO.out, by simp [List.map_pmap]⟩
  have HYS := Lib.hid hys
  have hyl : ys.length = xs.length := by rw [← hys, List.length_map]
  clear hys
  refine (wpIn_wide (n := 5)).1 ?_
  refine Og.wpIn_rangeFunc_sts (α := {e : E // Ok e}) (σ := Nat) rfl (by decide) (gf := 76) (lb := #[.pointer (some ⟨q1, 0, none⟩), .pointer (some ⟨q2, 0, none⟩)]) rfl trivial (fun _ _ => rfl)
    (IterL.sub HIT2.out ys HYS.out).toS (fun _ => rfl)
    (fun k W => AccR w cb N R (xs.take k) W) (fun c W => False)
    (fun k A A' h hb => h.kp HST.out hb) (fun k A l o o' h hl ho hc => h.putObj HST.out hwN o' (by rw [HN.out]; exact hl) ho hc)
    (fun k A A' r o h hr ho hc hg => h.grown HST.out hwN (by rw [HN.out]; exact hr) ho hc hg) (fun c A A' r o h _ _ _ _ => h) (fun c A l o o' h hl ho hc => h)
    (fun k A h => h.r) HA.out
    (fun e U => { tmps := #[.pointer v, .int .i64 node, undef, undef, .slice none 0 0, .pointer (some ⟨cb, 0, none⟩), .pointer (some ⟨U.heap.size, 0, none⟩), .pointer v, .int .i64 node, .func (.func 76) #[] #[.pointer (some ⟨q1, 0, none⟩), .pointer (some ⟨q2, 0, none⟩)], EV e.1, undef, undef, undef, undef, undef], defers := [] })
    (fun e U => U.alloc (.cells (cells e.1).toArray 57)) (fun e U => (Below.refl _ _).alloc (Nat.le_refl _) _) ?assign ?body ?done ?stop
  case assign =>
    rintro l m W K hK
    have HK := Lib.hid hK
    have HOK := Lib.hid m.2
    clear hK
    refine Eq.mp (congrArg (fun t : Array Value => Code.wpIn _ _ _ _ _ { tmps := t, defers := [] } _) (show #[.pointer v, .int .i64 node, undef, undef, .slice none 0 0, .pointer (some ⟨cb, 0, none⟩), undef, .pointer v, .int .i64 node, .func (.func 76) #[] #[.pointer (some ⟨q1, 0, none⟩), .pointer (some ⟨q2, 0, none⟩)], EV m.1, undef, undef, undef, undef, undef] = _ from by kernel_rfl)) ?_
    unfold EV
    gi_wp2_with ((with_reducible show wpListIn _ _ _ _ _ (Oper.mk none (Op.store 57 _ _) _ _ _ _ :: _) _ _); refine wpListIn_store_row rfl 57 (.tmp 6) (.tmp 10) rfl W.heap.size (cells m.1).toArray rfl rfl 57 _ (heap_alloc_new _ _) (by rw [HOK.out.size]; exact size_msg) (by rw [HOK.out.size]; rfl) (cells_all m.1) ?_; rw [alloc_setRow])
    exact HK.out
  case body =>
    rintro l k k2 e U W ⟨hx, rfl⟩ hAU hA hcl hsz
    have hkl := (List.getElem?_eq_some_iff.1 hx).1
    have RWP := Lib.hid (hcl U.heap.size _ (heap_alloc_new _ _) rfl)
    obtain ⟨ad, cc, hv, hr⟩ := hA.out
    have hlen : (xs.take k).length = k := by rw [List.length_take]; omega
    have HLEN := Lib.hid hlen
    have hxe : xs[k]? = some e.1 := by rw [← HYS.out, List.getElem?_map, hx]; rfl
    have HT := Lib.hid (show xs.take (k + 1) = xs.take k ++ [e.1] by rw [List.take_add_one, hxe]; rfl)
    have hokt : ∀ x ∈ xs.take k, Ok x := fun x hx => HXO.out x (List.mem_of_mem_take hx)
    obtain ⟨W', hW'⟩ : ∃ W', W' = W.alloc (.cells (cells e.1).toArray 57) := ⟨_, rfl⟩
    have hba : Below W.heap.size W W' := by rw [hW']; exact (Below.refl _ _).alloc (Nat.le_refl _) _
    have hszA : W'.heap.size = W.heap.size + 1 := by rw [hW']; simp
    have hone : LsIn W' (some ⟨W.heap.size, 0, none⟩) 1 [e.1] := ls_one e.2 (by rw [hW']; exact heap_alloc_new _ _)
    obtain ⟨a', c', w3, hr3, ho3, hf3⟩ := append_any (hr.kp hba).cellsF hokt hone (by rw [hlen]; simp only [List.length_singleton]; omega)
    rw [← HT.out] at hr3 ho3
    have hlk : (xs.take (k + 1)).length = k + 1 := by rw [List.length_take]; omega
    rw [hlk] at hr3
    rw [hlen] at hr3
    rw [hlen] at hv
    have hnn := hA.nn
    have hcbW : cb < W.heap.size := hv.lt
    have hv3 : Boxed w3 cb 68 (.slice ad k cc) := (hf3.block cb (by omega) (fun h => by have := h.1; omega)).trans ((hba.block cb hcbW).trans hv)
    have c2 := hv.cell
    have c3 := hv3.cell
    have c4 := hv3.frozen
    obtain ⟨W5, hW5⟩ : ∃ W5, W5 = w3.setCell ⟨cb, 0, none⟩ (.slice a' (k + 1) c') := ⟨_, rfl⟩
    have hk5 : ∀ j, j ≠ cb → W5.heap[j]? = w3.heap[j]? := fun j hj => by rw [hW5]; exact Below.heap_setCell _ _ _ j hj
    have hs5 : W5.heap.size = w3.heap.size := by rw [hW5]; show (w3.heap.modify cb _).size = _; exact Array.size_modify
    have hs3 := hf3.size
    have V5 := Lib.hid (show Boxed W5 cb 68 (.slice a' (k + 1) c') from by rw [hW5]; exact hv3.set _)
    have O5 := Lib.hid (show Own W5 (fun k => N ≤ k) a' c' (xs.take (k + 1)) from (ho3.mono (fun j hj => by
      rcases hj with hj | hj
      · exact hj.1
      · omega)).kept (fun j hj _ => hk5 j (by omega)))
    have K5 := Lib.hid (show Go.KeepsOthers W W5 from ⟨by omega, fun j o hj hoc => by
      have hjl := (Array.getElem?_eq_some_iff.1 hj).1
      rw [hk5 j (fun e => by subst e; have hv' : W.heap[j]? = _ := hv; rw [hv'] at hj; cases hj; cases hoc)]
      have h1 := hf3.block j (by omega) (fun h => by
        obtain ⟨x, hx1, hx2⟩ := h.2
        rw [hba.block j hjl, hj] at hx1
        cases hx1; rw [hoc] at hx2; cases hx2)
      rw [h1, hba.block j hjl]; exact hj⟩)
    have L5 := Lib.hid (show Below w.heap.size w W5 from by
      have hl3 := HCB.out
      refine ⟨?_, ?_, ?_, by have := hA.bel.size; omega, fun j hj => ?_⟩
      · rw [hW5]; exact hf3.os.trans (hba.os.trans hA.bel.os)
      · rw [hW5]; exact hf3.tape.trans (hba.tape.trans hA.bel.tape)
      · rw [hW5]; exact hf3.output.trans (hba.output.trans hA.bel.output)
      · have := hA.bel.size
        rw [hk5 j (by omega), hf3.block j (by omega) (fun h => by have := h.1; omega), hba.block j (by omega)]
        exact hA.bel.block j hj)
    have R5 := Lib.hid (HST.out W W5 hA.r (by omega) (fun j h1 h2 h3 => by
      rw [hk5 j h3, hf3.block j (by omega) (fun h => by have := h.1; omega), hba.block j h1]))
    have N5 := Lib.hid (show N ≤ W5.heap.size from by omega)
    have HR3 := Lib.hid hr3; have HW5 := Lib.hid hW5; have HWA := Lib.hid hW'; have HLK := Lib.hid hlk
    have HOK := Lib.hid e.2
    clear hA hAU hv hr hx hcl hsz hlen hxe hokt hba hszA hone ho3 hf3 hr3 hv3 hW5 hk5 hs5 hs3 hW' hnn hcbW hlk
    unfold EV
    gi_wp2_with (first
      | ((with_reducible show wpListIn _ _ _ _ _ (Oper.mk (some 12) _ _ _ _ _ :: _) _ _); refine wpListIn_load_row rfl 57 (.tmp 6) rfl U.heap.size (by kernel_rfl) 57 (cells e.1).toArray (0, 0) _ RWP.out Try.underlying57 rfl (by rw [HOK.out.size]; exact size_msg) ?_)
      | ((with_reducible show wpListIn _ _ _ _ _ (Oper.mk (some 13) _ _ _ _ _ :: _) _ _); refine wpListIn_buildMsg rfl e.1 HOK.out (.tmp 12) rfl rfl ?_; rw [← HWA.out])
      | ((with_reducible show wpListIn _ _ _ _ _ (Oper.mk (some 14) _ _ _ _ _ :: _) _ _); refine wpListIn_append rfl (.tmp 11) (.tmp 13) 68 rfl rfl rfl HR3.out ?_))
    rw [← HW5.out]
    refine ⟨K5.out, L5.out, ⟨a', c', ?_, O5.out⟩, R5.out, N5.out⟩
    rw [HLK.out]; exact V5.out
  case done =>
    rintro D k W hD hf hA hK
    have hf : k = ys.length := hf
    obtain ⟨ad, cc, hv, hr⟩ := hA.out
    rw [hf, hyl, List.take_length] at hv hr
    have c2 := hv.cell
    have HRR := Lib.hid hr; have HB := Lib.hid hA.bel; have HK := Lib.hid hK; have HDD := Lib.hid hD
    clear hv hr hA hK hD hf
    go_wp2_with fail
    refine ⟨by simp, .inl ⟨_, _, rfl, run_takeDeferred HK.out, ?_⟩⟩
    refine ⟨_, results_tmp (fn := Try.f34) rfl _ _ _, ⟨ad, cc, rfl, ?_, HXO.out, below_putObj HB.out (by have := HDD.out; have := HN.out; omega)⟩⟩
    refine (HRR.out.mono (fun j hj => Nat.le_trans hwN hj)).keptC (fun j x hx hxc _ => ?_)
    exact (World.putObj_heap_other (fun e => by subst e; rw [HK.out] at hx; cases hx; cases hxc)).trans hx
  case stop =>
    rintro D c W hD h hK
    exact h.elim
theorem to_nil (node : Int) (w : World) : Calls Try.prog 34 #[.pointer none, .int .i64 node] w fun e w' => Told w w' e [] :=
  to_of none node w (xs := []) (Nat.zero_le _) (fun e he => by cases he) (fun _ => True) trivial (fun _ _ _ _ _ => trivial) (fun q1 q2 => IterL.weak (none_iter 4 (by decide) q1 q2) (fun W h => h.1))
theorem to_any (node : Int) (w : World) {F p most l} (h : Net w F p most l) : Calls Try.prog 34 #[.pointer (some ⟨p, 0, none⟩), .int .i64 node] w fun e w' => Told w w' e (toL node l) := by
  obtain ⟨a, c, h⟩ := h
  have hlt := h.lt
  refine to_of (some ⟨p, 0, none⟩) node w (Nat.le_trans (List.length_filter_le _ _) (Nat.le_trans h.len h.max)) (fun e he => h.ok e (List.mem_filter.1 he).1) (fun W => Nin W F p most a c l) h
    (fun A A' hA hs hk => hA.kept hs (fun k hk2 => hk k (hlt k hk2))) (fun q1 q2 => going_iter 4 (by decide) q1 q2 F p most a c l node)
end Nt
end Go.Proofs.Ytnfpcklpmfemiaa
