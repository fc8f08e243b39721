/-
  The contracts of All, and of the laws' all: what a cache tells when it is gone over.
-/
import Derived.Test.YtifniogldinbdaaLnCopy
namespace Go.Proofs.Ytifniogldinbdaa
open Go.RowKit
set_option linter.unusedVariables false
set_option linter.unusedSimpArgs false
attribute [local go_sem] Oper.semAt_some
namespace Ln
/-- a function that goes over lines, what it reads lies in blocks of G -/
def SeqIn (w : World) (G : Nat → Prop) (v : Value) (xs : List E) : Prop := ∃ q, v = .func (.func 46) #[] #[.pointer (some ⟨q, 0, none⟩)] ∧ G q ∧
  ((Box w q 22 (.pointer none) ∧ xs = []) ∨ ∃ p2 F2 g2 ways S2, Box w q 22 (.pointer (some ⟨p2, 0, none⟩)) ∧ Cin w F2 p2 g2 ways S2 ∧ lsQ S2 = xs ∧ ∀ k, F2 k → G k)
theorem Box.lt {w : World} {q : Nat} {t : TypeId} {v : Value} (h : Box w q t v) : q < w.heap.size := (Array.getElem?_eq_some_iff.1 h).1
theorem SeqIn.kept {w w' : World} {G : Nat → Prop} {v : Value} {xs : List E} (h : SeqIn w G v xs) (hs : w.heap.size ≤ w'.heap.size) (hb : ∀ k, k < w.heap.size → G k → w'.heap[k]? = w.heap[k]?) : SeqIn w' G v xs := by
  obtain ⟨q, e, hq, h⟩ := h
  refine ⟨q, e, hq, ?_⟩
  rcases h with ⟨h1, h2⟩ | ⟨p2, F2, g2, ways, S2, h1, h2, h3, h4⟩
  · exact .inl ⟨(hb q h1.lt hq).trans h1, h2⟩
  · exact .inr ⟨p2, F2, g2, ways, S2, (hb q h1.lt hq).trans h1, h2.kept hs (fun k hk => hb k (h2.lt k hk) (h4 k hk)), h3, h4⟩
theorem SeqIn.out {w : World} {G : Nat → Prop} {v : Value} {xs : List E} (h : SeqIn w G v xs) : ∃ (q : Nat) (R : World → Prop), v = .func (.func 46) #[] #[.pointer (some ⟨q, 0, none⟩)] ∧ xs.length ≤ 512 ∧
    Og.IterL Fence.wide 4 Try.prog 46 #[.pointer (some ⟨q, 0, none⟩)] R (fun e : E => #[EV e]) xs ∧ (∀ e ∈ xs, Ok e) ∧ R w ∧
    ∀ A A', R A → A.heap.size ≤ A'.heap.size → (∀ k, k < A.heap.size → G k → A'.heap[k]? = A.heap[k]?) → R A' := by
  obtain ⟨q, e, hq, h⟩ := h
  rcases h with ⟨h1, rfl⟩ | ⟨p2, F2, g2, ways, S2, h1, h2, rfl, h4⟩
  · exact ⟨q, _, e, Nat.zero_le _, none_iter 4 (by decide) q, (fun e he => by cases he), h1, fun A A' hR hs hb => (hb q hR.lt hq).trans hR⟩
  · refine ⟨q, _, e, lsQ_len h2, standing_iter 4 (by decide) q F2 p2 g2 ways S2, ?_, ⟨h1, h2⟩, fun A A' hR hs hb => ⟨(hb q hR.1.lt hq).trans hR.1, hR.2.kept hs (fun k hk => hb k (hR.2.lt k hk) (h4 k hk))⟩⟩
    intro e he
    unfold lsQ at he
    obtain ⟨l, hl, hel⟩ := List.mem_flatten.1 he
    obtain ⟨r, hr, rfl⟩ := List.mem_map.1 hl
    exact h2.ok r hr e hel
end Ln
theorem all_nil (w : World) : Calls Try.prog 26 #[.pointer none] w fun e w' => ∃ s, e = .returned s ∧ Below w.heap.size w w' ∧ w.heap.size < w'.heap.size ∧ Ln.SeqIn w' (fun k => w.heap.size ≤ k ∧ k < w'.heap.size) s [] := by
  go_enter Try.func26, Try.ntmps26
  go_wp2_with (first
    | (go_at_call 18; refine (copy_nil w).mono ?_; rintro e W2 ⟨rfl, hw⟩; subst hw)
    | (go_at_call 38; refine (standing_any none w).mono ?_; rintro e W2 ⟨rfl, rfl⟩))
  go_ret
  exact ⟨_, rfl, (Below.refl w.heap.size w).alloc (Nat.le_refl _) _, by simp, w.heap.size, rfl, ⟨Nat.le_refl _, by simp⟩, .inl ⟨Ln.box_new w _ _, rfl⟩⟩
theorem all_any (w : World) {F p ways Q} (h : Ln.Cache w F p ways Q) : Calls Try.prog 26 #[.pointer (some ⟨p, 0, none⟩)] w fun e w' => ∃ s, e = .returned s ∧ Below w.heap.size w w' ∧ w.heap.size < w'.heap.size ∧ Ln.SeqIn w' (fun k => w.heap.size ≤ k ∧ k < w'.heap.size) s Q.flatten := by
  have HC := Lib.hid (copy_any w h)
  clear h
  go_enter Try.func26, Try.ntmps26
  go_wp2_with (first
    | (go_at_call 18; refine HC.out.mono ?_; rintro e W2 ⟨p2, rfl, hb2, F2, hca, hf2⟩
       have B2 := Lib.hid hb2; have CA := Lib.hid hca; have HF := Lib.hid hf2
       clear hb2 hca hf2)
    | (go_at_call 38; refine (standing_any (some ⟨p2, 0, none⟩) W2).mono ?_; rintro e W3 ⟨rfl, rfl⟩))
  go_ret
  have hs := B2.out.size
  obtain ⟨g2, S2, hc, hq⟩ := CA.out
  refine ⟨_, rfl, B2.out.alloc hs _, by simp; omega, W2.heap.size, rfl, ⟨hs, by simp⟩, .inr ⟨p2, F2, g2, ways, S2, Ln.box_new W2 _ _, hc.kp ((Below.refl _ _).alloc (Nat.le_refl _) _), ?_, fun k hk => ⟨HF.out k hk, ?_⟩⟩⟩
  · unfold Ln.lsQ; rw [hq]
  · have := hc.lt k hk; simp; omega
namespace Ln
/-- lines that are gathered in a box cb, while R stays -/
structure AccR (w : World) (cb N : Nat) (R : World → Prop) (l : List E) (W : World) : Prop where
  bel : Below w.heap.size w W
  out : ∃ a c, Boxed W cb 38 (.slice a l.length c) ∧ W.ownsRow N 30 18 (.slice a l.length c) l.length (flat l)
  r : R W
  nn : N ≤ W.heap.size
/-- what R asks -/
def Stab (cb N : Nat) (R : World → Prop) : Prop := ∀ A A', R A → A.heap.size ≤ A'.heap.size → (∀ k, k < A.heap.size → k < N → k ≠ cb → A'.heap[k]? = A.heap[k]?) → R A'
variable {w : World} {cb N : Nat} {R : World → Prop} {l : List E} {W : World}
theorem AccR.kp (h : AccR w cb N R l W) (hR : Stab cb N R) {W' : World} (hb : Below W.heap.size W W') : AccR w cb N R l W' := by
  obtain ⟨a, c, h1, h2⟩ := h.out
  exact ⟨h.bel.trans (hb.mono h.bel.size), ⟨a, c, (hb.block cb h1.lt).trans h1, row_kept h2 (fun k hk => hb.block k (h2.lt k hk).2)⟩, hR W W' h.r hb.size (fun k hk _ _ => hb.block k hk), Nat.le_trans h.nn hb.size⟩
theorem AccR.putObj (h : AccR w cb N R l W) (hR : Stab cb N R) (hN : w.heap.size ≤ N) {j : Nat} {o : Obj} (o' : Obj) (hj : N ≤ j) (ho : W.heap[j]? = some o) (hc : o.isCells = false) : AccR w cb N R l (W.putObj j o') := by
  obtain ⟨a, c, h1, h2⟩ := h.out
  have hk : ∀ (k : Nat) (x : Obj), W.heap[k]? = some x → x.isCells = true → (W.putObj j o').heap[k]? = some x := fun k x hx hxc => (World.putObj_heap_other (fun e => by subst e; rw [ho] at hx; cases hx; rw [hc] at hxc; cases hxc)).trans hx
  exact ⟨below_putObj h.bel (by omega), ⟨a, c, hk cb _ h1 rfl, ⟨h2.1, h2.2.imp id fun ⟨g, cap, cur, e1, e2, e3, r⟩ => ⟨g, cap, cur, e1, e2, hk g _ e3 rfl, r⟩⟩⟩, hR W _ h.r (by simp) (fun k hk1 hk2 _ => World.putObj_heap_other (by omega)), by simpa using h.nn⟩
theorem AccR.grown (h : AccR w cb N R l W) (hR : Stab cb N R) (hN : w.heap.size ≤ N) {W' : World} {r : Nat} {o : Obj} (hr : N ≤ r) (ho : W.heap[r]? = some o) (hc : o.isCells = false) (hg : W.grownBy W' (some r)) : AccR w cb N R l W' := by
  obtain ⟨a, c, h1, h2⟩ := h.out
  have hne : ∀ (k : Nat) (x : Obj), W.heap[k]? = some x → x.isCells = true → W'.heap[k]? = some x := fun k x hx hxc => (hg.block k (Array.getElem?_eq_some_iff.1 hx).1 (fun e => by cases e; rw [ho] at hx; cases hx; rw [hc] at hxc; cases hxc)).trans hx
  exact ⟨h.bel.grown hg h.bel.size (fun j hj => by cases hj; omega), ⟨a, c, hne cb _ h1 rfl, ⟨h2.1, h2.2.imp id fun ⟨g, cap, cur, e1, e2, e3, r⟩ => ⟨g, cap, cur, e1, e2, hne g _ e3 rfl, r⟩⟩⟩, hR W _ h.r hg.size (fun k hk1 hk2 _ => hg.block k hk1 (by simp; omega)), Nat.le_trans h.nn hg.size⟩
end Ln
theorem Ln.func_nil (f : FuncId) (a b : Array Value) (W : World) : (binOp .eql 58 (.func (.func f) a b) .nilFunc).run Try.prog W = .ok (.bool false) W := by
  have h1 : ∀ d, (Op.equalIn (d + 1) 58 (.func (.func f) a b) .nilFunc).run Try.prog W = .ok false W := fun d => by simp [Op.equalIn, run_underlying Try.underlying58]
  simp only [binOp]
  simp [Op.equal, Op.maxDepth, h1 9999]
theorem Og.IterL.sub {F : Fence} {n : Nat} {P : Program} {g : Nat} {lb : Array Value} {R : World → Prop} {xs : List Ln.E} (h : Og.IterL F n P g lb R (fun e : Ln.E => #[Ln.EV e]) xs) (ys : List {e : Ln.E // Ln.Ok e}) (hy : ys.map (·.1) = xs) :
    Og.IterL F n P g lb R (fun e : {e : Ln.E // Ln.Ok e} => #[Ln.EV e.1]) ys := by
  intro l J Jx W h1 h2 h3 h4
  have := h l J Jx W h1 h2 (fun k x W1 hx hj => by
    rw [← hy, List.getElem?_map] at hx
    obtain ⟨y, hy, rfl⟩ := Option.map_eq_some_iff.1 hx
    exact h3 k y W1 hy hj) h4
  rw [← hy, List.length_map] at this
  exact this
set_option maxRecDepth 100000 in
set_option maxHeartbeats 8000000 in
theorem gather_of (v : Value) (w : World) {xs : List Ln.E}
    (hall : ∀ W, Below w.heap.size w W → Calls Try.prog 26 #[v] W fun e w' => ∃ s, e = .returned s ∧ Below W.heap.size W w' ∧ W.heap.size < w'.heap.size ∧ Ln.SeqIn w' (fun k => W.heap.size ≤ k ∧ k < w'.heap.size) s xs) :
    Calls Try.prog 17 #[v] w fun e w' => ∃ a c, e = .returned (.slice a xs.length c) ∧ w'.ownsRow w.heap.size 30 18 (.slice a xs.length c) xs.length (Ln.flat xs) ∧ (∀ e ∈ xs, Ln.Ok e) ∧ Below w.heap.size w w' := by
  have HALL := Lib.hid hall
  clear hall
  obtain ⟨cb, hcb⟩ : ∃ cb, cb = w.heap.size := ⟨_, rfl⟩
  obtain ⟨B, hB⟩ : ∃ B, B = w.alloc (.cells #[.slice none 0 0] 38) := ⟨_, rfl⟩
  have HB := Lib.hid hB; have HCB := Lib.hid hcb
  have B0 := Lib.hid (show Below w.heap.size w B by rw [hB]; exact (Below.refl w.heap.size w).alloc (Nat.le_refl _) _)
  have BX := Lib.hid (show Boxed B cb 38 (.slice none 0 0) by rw [hB, hcb]; exact Boxed.new w _ _)
  have hsB := Lib.hid (show B.heap.size = w.heap.size + 1 by rw [hB]; simp)
  clear hB hcb
  refine (callsIn_wide (n := 5)).1 ?_
  refine callsIn_of_wp_marks Try.func17 rfl trivial ?_ rfl
  simp only [Try.ntmps17, List.size_toArray, List.length_cons, List.length_nil, Nat.reduceAdd, Nat.reduceSub, Array.replicate_succ, Array.replicate_zero, List.push_toArray, List.append_toArray, List.nil_append, List.cons_append]
  refine wpIn_wide.2 ?_
  go_wp2_with (first
    | (go_at_call 26; rw [← HB.out, ← HCB.out]; refine (HALL.out B B0.out).mono ?_
       rintro e W1 ⟨s1, rfl, hb1, _, q1, rfl, _⟩
       have B1 := Lib.hid (B0.out.trans (hb1.mono B0.out.size))
       have hfn := Ln.func_nil 46 #[] #[.pointer (some ⟨q1, 0, none⟩)] W1
       have BX1 := Lib.hid (show Boxed W1 cb 38 (.slice none 0 0) from (hb1.block cb BX.out.lt).trans BX.out)
       clear hb1)
    | (go_at_call 26; refine (HALL.out W1 B1.out).mono ?_
       rintro e W2 ⟨s2, rfl, hb2, hlt2, hs2⟩
       have B2 := Lib.hid (B1.out.trans (hb2.mono B1.out.size))
       have BX2 := Lib.hid (show Boxed W2 cb 38 (.slice none 0 0) from (hb2.block cb BX1.out.lt).trans BX1.out)
       obtain ⟨q, R, rfl, hxl, hit, hxo, hr, hst⟩ := hs2.out
       have HIT := Lib.hid hit; have HXO := Lib.hid hxo; have HR := Lib.hid hr
       have HST := Lib.hid (show Ln.Stab cb W2.heap.size R from fun A A' hA hs hk => hst A A' hA hs (fun k hk1 hk2 => hk k hk1 hk2.2 (by have := BX1.out.lt; omega)))
       have hcN := BX2.out.lt
       clear hb2 hs2 hit hxo hr hst))
  obtain ⟨N, hN⟩ : ∃ N, N = W2.heap.size := ⟨_, rfl⟩
  rw [← hN] at HST hcN
  have HN := Lib.hid hN
  have hwN : w.heap.size ≤ N := by rw [hN]; exact B2.out.size
  have HA := Lib.hid (show Ln.AccR w cb N R (xs.take 0) W2 from ⟨B2.out, ⟨none, 0, BX2.out, World.ownsRow_nil _ _ _ _⟩, HR.out, by rw [hN]; exact Nat.le_refl _⟩)
  obtain ⟨i0, hi, hz0, hz1, hz2⟩ := Ln.info_line
  have HI := Lib.hid hi; have HZ0 := Lib.hid hz0; have HZ1 := Lib.hid hz1; have HZ2 := Lib.hid hz2
  clear hN hi hz0 hz1 hz2 HALL
  obtain ⟨ys, hys⟩ : ∃ ys : List {e : Ln.E // Ln.Ok e}, ys.map (·.1) = xs := ⟨xs.pmap (fun e h => ⟨e, h⟩) HXO.out, by simp [List.map_pmap]⟩
  have HYS := Lib.hid hys
  have hyl : ys.length = xs.length := by rw [← hys, List.length_map]
  clear hys
  refine (wpIn_wide (n := 5)).1 ?_
  refine Og.wpIn_rangeFunc_sts (α := {e : Ln.E // Ln.Ok e}) (σ := Nat) rfl (by decide) (gf := 46) (lb := #[.pointer (some ⟨q, 0, none⟩)]) rfl trivial (fun _ _ => rfl)
    (Og.IterL.sub HIT.out ys HYS.out).toS (fun _ => rfl)
    (fun k W => Ln.AccR w cb N R (xs.take k) W) (fun c W => False)
    (fun k A A' h hb => h.kp HST.out hb) (fun k A l o o' h hl ho hc => h.putObj HST.out hwN o' (by rw [HN.out]; exact hl) ho hc)
    (fun k A A' r o h hr ho hc hg => h.grown HST.out hwN (by rw [HN.out]; exact hr) ho hc hg) (fun c A A' r o h _ _ _ _ => h) (fun c A l o o' h hl ho hc => h)
    (fun k A h => h.r) HA.out
    (fun e U => { tmps := #[v, undef, .slice none 0 0, .pointer (some ⟨cb, 0, none⟩), .pointer (some ⟨U.heap.size, 0, none⟩), v, .func (.func 46) #[] #[.pointer (some ⟨q1, 0, none⟩)], .bool false, v, .func (.func 46) #[] #[.pointer (some ⟨q, 0, none⟩)], Ln.EV e.1, undef, undef, undef, undef, undef], defers := [] })
    (fun e U => U.alloc (.cells (Ln.cells e.1).toArray 30)) (fun e U => (Below.refl _ _).alloc (Nat.le_refl _) _) ?assign ?body ?done ?stop
  case assign =>
    rintro l m W K hK
    have HK := Lib.hid hK
    have HOK := Lib.hid m.2
    clear hK
    refine Eq.mp (congrArg (fun t : Array Value => Code.wpIn _ _ _ _ _ { tmps := t, defers := [] } _) (show #[v, undef, .slice none 0 0, .pointer (some ⟨cb, 0, none⟩), undef, v, .func (.func 46) #[] #[.pointer (some ⟨q1, 0, none⟩)], .bool false, v, .func (.func 46) #[] #[.pointer (some ⟨q, 0, none⟩)], Ln.EV m.1, undef, undef, undef, undef, undef] = _ from by kernel_rfl)) ?_
    unfold Ln.EV
    gi_wp2_with ((with_reducible show wpListIn _ _ _ _ _ (Oper.mk none (Op.store 30 _ _) _ _ _ _ :: _) _ _); refine Ln.wpListIn_store_row rfl 30 (.tmp 4) (.tmp 10) rfl W.heap.size (Ln.cells m.1).toArray rfl rfl 30 _ (heap_alloc_new _ _) (by rw [HOK.out.size]; exact Ln.size_line) (by rw [HOK.out.size]; rfl) (Ln.cells_all m.1) ?_; rw [Ln.alloc_setRow])
    exact HK.out
  case body =>
    rintro l k k2 e U W ⟨hx, rfl⟩ hAU hA hcl hsz
    have hkl := (List.getElem?_eq_some_iff.1 hx).1
    have RWP := Lib.hid (hcl U.heap.size _ (heap_alloc_new _ _) rfl)
    obtain ⟨ad, cc, hv, hr⟩ := hA.out
    have hlen : (xs.take k).length = k := by rw [List.length_take]; omega
    rw [hlen] at hv hr
    have HT := Lib.hid (show xs.take (k + 1) = xs.take k ++ [e.1] by
      have hxe : xs[k]? = some e.1 := by rw [← HYS.out, List.getElem?_map, hx]; rfl
      rw [List.take_add_one, hxe]; rfl)
    have c2 := hv.cell
    have HV := Lib.hid hv; have HRR := Lib.hid hr; have HB := Lib.hid hA.bel; have HAA := Lib.hid hA; have HNN := Lib.hid hA.nn
    have HOK := Lib.hid e.2
    clear hA hAU hv hr hx hcl hsz
    unfold Ln.EV
    gi_wp2_with (first
      | ((with_reducible show wpListIn _ _ _ _ _ (Oper.mk (some 12) _ _ _ _ _ :: _) _ _); refine Ln.wpListIn_load_row rfl 30 (.tmp 4) rfl U.heap.size (by kernel_rfl) 30 (Ln.cells e.1).toArray (0, 0) _ RWP.out Try.underlying30 rfl (by rw [HOK.out.size]; exact Ln.size_line) ?_)
      | ((with_reducible show wpListIn _ _ _ _ _ (Oper.mk (some 13) _ _ _ _ _ :: _) _ _); refine Ln.wpListIn_buildLine rfl e.1 HOK.out (.tmp 12) rfl rfl ?_)
      | ((with_reducible show wpListIn _ _ _ _ _ (Oper.mk (some 14) _ _ _ _ _ :: _) _ _); refine wpListIn_append_own (W.alloc (.cells (Ln.cells e.1).toArray 30)) rfl (.tmp 11) (.tmp 13) 38 rfl N 30 i0 (Ln.EV Ln.E0) 18 32 Try.underlying38 HI.out HZ0.out HZ1.out HZ2.out rfl (by decide) _ k _ rfl (HRR.out.alloc _) ⟨W.heap.size, 0, none⟩ 1 1 (Ln.cells e.1) rfl (by rw [HOK.out.len]) (fun j u hu => World.news_of_block (heap_alloc_new W _) j u hu) (Ln.cells_one _) (by unfold maxLen; omega) (by omega) (by have := HNN.out; simp only [World.size_alloc]; omega) ?_
         intro v' w3 hown hgrow _
         rw [← Ln.flat_one e.1, ← Ln.flat_app, ← HT.out] at hown
         obtain ⟨a', c', rfl⟩ := Ln.own_form hown
         obtain ⟨f1, f2, f3, f4, f5⟩ := Boxed.appended HV.out (by decide) (Ln.own_mono HRR.out hwN) HB.out.size (by rw [HCB.out]; exact Nat.le_refl _) (Ln.own_mono hown hwN) hgrow
         have hf1 := f1.cell; have hf2 := f1.frozen
         have hlk : (xs.take (k + 1)).length = k + 1 := by rw [List.length_take]; omega
         have hno : some cb ≠ (Value.slice a' (k + 1) c').ownBlock := f1.not_row (by decide) hown
         have F2 := Lib.hid f2
         have F3 := Lib.hid (hown.kept (grownBy_setCell' w3 cb (.slice a' (k + 1) c')) (.inr (Ne.symm hno)))
         have F4 := Lib.hid f4; have F5 := Lib.hid (HB.out.trans f5)
         have FG := Lib.hid (show ∀ j, j < W.heap.size → j < N → j ≠ cb → (w3.setCell ⟨cb, 0, none⟩ (.slice a' (k + 1) c')).heap[j]? = W.heap[j]? from fun j h1 h2 h3 => by
           rw [(grownBy_setCell' w3 cb (.slice a' (k + 1) c')).block j (by have := hgrow.size; simp at this; omega) (by simpa using h3)]
           refine (hgrow.block j (by simp; omega) (fun e => ?_)).trans ((World.grownBy_alloc W _ none).block j h1 (by simp))
           have := (HRR.out.lt j e.symm).1
           omega)
         have FS := Lib.hid (show W.heap.size ≤ (w3.setCell ⟨cb, 0, none⟩ (.slice a' (k + 1) c')).heap.size from by
           have := hgrow.size; have := (grownBy_setCell' w3 cb (.slice a' (k + 1) c')).size; simp at *; omega)
         clear f1 f2 f3 f4 f5 hown hgrow c2 hno))
    refine ⟨F4.out, F5.out, ⟨a', c', ?_, ?_⟩, HST.out W _ HAA.out.r FS.out FG.out, Nat.le_trans HNN.out FS.out⟩
    · rw [hlk]; exact F2.out
    · rw [hlk]; exact F3.out
  case done =>
    rintro D k W hD hf hA hK
    have hf : k = ys.length := hf
    obtain ⟨ad, cc, hv, hr⟩ := hA.out
    rw [hf, hyl, List.take_length] at hv hr
    have c2 := hv.cell
    have HRR := Lib.hid hr; have HB := Lib.hid hA.bel; have HK := Lib.hid hK; have HDD := Lib.hid hD
    clear hv hr hA hK hD hf
    go_wp2_with fail
    refine ⟨by simp, .inl ⟨_, _, rfl, run_takeDeferred HK.out, ?_⟩⟩
    refine ⟨_, results_tmp (fn := Try.f17) rfl _ _ _, ⟨ad, cc, rfl, ?_, HXO.out, Ln.below_putObj HB.out (by have := HDD.out; have := HN.out; omega)⟩⟩
    have hr := Ln.own_mono HRR.out hwN
    have hk : ∀ (j : Nat) (x : Obj), W.heap[j]? = some x → x.isCells = true → (W.putObj D (.deferred none)).heap[j]? = some x := fun j x hx hxc => (World.putObj_heap_other (fun e => by subst e; rw [HK.out] at hx; cases hx; cases hxc)).trans hx
    exact ⟨hr.1, hr.2.imp id fun ⟨g, cap, cur, e1, e2, e3, r⟩ => ⟨g, cap, cur, e1, e2, hk g _ e3 rfl, r⟩⟩
  case stop =>
    rintro D c W hD h hK
    exact h.elim
end Go.Proofs.Ytifniogldinbdaa
