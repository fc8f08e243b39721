/-
  The document's own answers: Set, Find, Of, Choice.
-/
import Derived.Test.YtifniogldinbdaaLnEq
import Derived.Test.YtifniogldinbdaaLnClone
namespace Go.Proofs.Ytifniogldinbdaa
open Go.RowKit
set_option linter.unusedVariables false
set_option linter.unusedSimpArgs false
namespace Ln
/-- the document's lines: sets, ways, and a list -/
def RV (s ways : Nat) (a : Option Addr) (c : Nat) (l : List E) : Value := .agg #[.int .i64 (s : Int), .int .i64 (ways : Int), .slice a l.length c]
def rcs (s ways : Nat) (a : Option Addr) (c : Nat) (l : List E) : Array Value := #[.int .i64 (s : Int), .int .i64 (ways : Int), .slice a l.length c]
/-- what the document's lines ask of a world -/
structure RIn (w : World) (s ways : Nat) (a : Option Addr) (c : Nat) (l : List E) : Prop where
  ls : LsIn w a c l
  s0 : 0 < s
  s1 : s ≤ 64
  w0 : 0 < ways
  w1 : ways ≤ 8
  len : l.length ≤ 500
  nil : a = none → c = 0
theorem RIn.kp {w w' : World} {s ways a c l} (h : RIn w s ways a c l) (k : Ev.Kp w w') : RIn w' s ways a c l := ⟨h.ls.kp k, h.s0, h.s1, h.w0, h.w1, h.len, h.nil⟩
/-- a box of the document's lines -/
structure RBox (w B : World) (b : Nat) (s ways : Nat) (a : Option Addr) (c : Nat) (l : List E) : Prop where
  bel : Below w.heap.size w B
  row : B.heap[b]? = some (.cells #[.int .i64 (s : Int), .int .i64 (ways : Int), .slice a l.length c] 46 (0, 0))
  rin : RIn w s ways a c l
theorem RBox.rinB {w B : World} {b s ways a c l} (h : RBox w B b s ways a c l) : RIn B s ways a c l := h.rin.kp (Ev.kp_below h.bel)
theorem RBox.kp {w B B' : World} {b s ways a c l} (h : RBox w B b s ways a c l) (hb : Below B.heap.size B B') : RBox w B' b s ways a c l :=
  ⟨h.bel.trans (hb.mono h.bel.size), (hb.block _ (Array.getElem?_eq_some_iff.1 h.row).1).trans h.row, h.rin⟩
theorem RBox.c0 {w B : World} {b s ways a c l} (h : RBox w B b s ways a c l) : B.cell? ⟨b, 0, none⟩ = some (.int .i64 (s : Int)) := by rw [cell_of_row _ _ _ _ _ _ h.row]; rfl
theorem RBox.c1 {w B : World} {b s ways a c l} (h : RBox w B b s ways a c l) : B.cell? ⟨b, 1, none⟩ = some (.int .i64 (ways : Int)) := by rw [cell_of_row _ _ _ _ _ _ h.row]; rfl
theorem RBox.c2 {w B : World} {b s ways a c l} (h : RBox w B b s ways a c l) : B.cell? ⟨b, 2, none⟩ = some (.slice a l.length c) := by rw [cell_of_row _ _ _ _ _ _ h.row]; rfl
theorem rbox {w : World} {s ways a c l} (h : RIn w s ways a c l) : RBox w (w.alloc (.cells #[.int .i64 (s : Int), .int .i64 (ways : Int), .slice a l.length c] 46)) w.heap.size s ways a c l :=
  ⟨(Below.refl w.heap.size w).alloc (Nat.le_refl _) _, heap_alloc_new _ _, h⟩
theorem own_ne {W : World} {base : Nat} {e : TypeId} {sz n : Nat} {v : Value} {xs : List Value} (hr : W.ownsRow base e sz v n xs) {b : Nat} {cs : Array Value} {t : TypeId} {f : Nat × Nat} (hB : W.heap[b]? = some (.cells cs t f)) (hte : t ≠ e) : v.ownBlock ≠ some b := by
  rcases hr.2 with ⟨rfl, _⟩ | ⟨g, cap, cur, rfl, _, hg, _⟩
  · simp [Value.ownBlock]
  · intro e'
    obtain rfl : g = b := by simpa [Value.ownBlock] using e'
    rw [hg] at hB; cases hB; exact hte rfl
theorem RBox.grown {w B B' : World} {b s ways a c l} (h : RBox w B b s ways a c l) {row : Option Nat} {tmp : Obj} (hg : (B.alloc tmp).grownBy B' row) (h1 : row ≠ some b) (h2 : ∀ k, row = some k → w.heap.size ≤ k) : RBox w B' b s ways a c l :=
  ⟨(h.bel.alloc h.bel.size tmp).grown hg (by have := h.bel.size; simp; omega) h2, (hg.block b (by have := (Array.getElem?_eq_some_iff.1 h.row).1; simp; omega) (fun e => h1 e.symm)).trans (((Below.refl B.heap.size B).alloc (Nat.le_refl _) tmp).block b (Array.getElem?_eq_some_iff.1 h.row).1 |>.trans h.row), h.rin⟩
theorem RBox.grown0 {w B B' : World} {b s ways a c l} (h : RBox w B b s ways a c l) {row : Option Nat} (hg : B.grownBy B' row) (h1 : row ≠ some b) (h2 : ∀ k, row = some k → w.heap.size ≤ k) : RBox w B' b s ways a c l :=
  ⟨h.bel.grown hg h.bel.size h2, (hg.block b (Array.getElem?_eq_some_iff.1 h.row).1 (fun e => h1 e.symm)).trans h.row, h.rin⟩
/-- the lines of a set -/
def ofL (l : List E) (s t : Nat) : List E := l.filter fun e => e.n.toNat % s == t
theorem ofL_yes {l : List E} {s t k : Nat} {e : E} (h : l[k]? = some e) (he : e.n.toNat % s = t) : ofL (l.take (k + 1)) s t = ofL (l.take k) s t ++ [e] := by
  unfold ofL; rw [List.take_add_one, h, List.filter_append]; simp [he]
theorem ofL_no {l : List E} {s t k : Nat} {e : E} (h : l[k]? = some e) (he : ¬ e.n.toNat % s = t) : ofL (l.take (k + 1)) s t = ofL (l.take k) s t := by
  unfold ofL; rw [List.take_add_one, h, List.filter_append]; simp [he]
theorem ofL_len (l : List E) (s t : Nat) : (ofL l s t).length ≤ l.length := List.length_filter_le _ _
theorem wrap_small {n : Int} (h0 : 0 ≤ n) (h1 : n < 4294967296) : IntKind.i64.wrap n = n := by rw [IntKind.wrap_i64]; omega
end Ln
set_option maxRecDepth 100000 in
theorem rset_any (s ways : Nat) (a : Option Addr) (c : Nat) (l : List Ln.E) (n : Int) (hn : Ev.u32B n) (w : World) (h : Ln.RIn w s ways a c l) :
    Calls Try.prog 42 #[.agg #[.int .i64 (s : Int), .int .i64 (ways : Int), .slice a l.length c], .int .u32 n] w fun e w' => e = .returned (.int .i64 ((n.toNat % s : Nat) : Int)) ∧ Below w.heap.size w w' := by
  obtain ⟨i, hi, e1, e2, e3⟩ := Ln.mod_at hn h.s0 h.s1
  rw [e1]
  have B0 := Lib.hid (Ln.rbox h).bel
  have hs0 := h.s0; have hs1 := h.s1
  unfold Ev.u32B at hn
  clear h e1 e2
  go_enter Try.func42, Try.ntmps42
  go_wp2
  go_ret
  refine ⟨?_, B0.out⟩
  first
    | rfl
    | (rw [← e3]; rfl)
set_option maxRecDepth 100000 in
set_option maxHeartbeats 2000000 in
theorem rfind_any (s ways : Nat) (a : Option Addr) (c : Nat) (l : List Ln.E) (n : Int) (hn : Ev.u32B n) (w : World) (h : Ln.RIn w s ways a c l) :
    Calls Try.prog 25 #[.agg #[.int .i64 (s : Int), .int .i64 (ways : Int), .slice a l.length c], .int .u32 n] w fun e w' => e = .returned (.int .i64 (Ln.ix l n 0)) ∧ Below w.heap.size w w' := by
  have hlen := h.len
  obtain ⟨b, hb⟩ : ∃ b, b = w.heap.size := ⟨_, rfl⟩
  obtain ⟨B, hB⟩ : ∃ B, B = w.alloc (.cells #[.int .i64 (s : Int), .int .i64 (ways : Int), .slice a l.length c] 46) := ⟨_, rfl⟩
  have RB := Lib.hid (show Ln.RBox w B b s ways a c l by rw [hB, hb]; exact Ln.rbox h)
  have HB := Lib.hid hB; have Hb := Lib.hid hb
  have c2 := RB.out.c2
  clear h hb hB
  go_enter Try.func25, Try.ntmps25
  go_wp2_with fail
  rw [← HB.out, ← Hb.out]
  go_loopw [5] (fun i wr => B = wr ∧ ∃ k : Nat, k ≤ l.length ∧ i = .int .i64 (k : Int) ∧ Ln.ix l n 0 = Ln.ix (l.drop k) n k) (fun i _ => l.length - (intOf i).toNat)
  case atStart => exact ⟨rfl, 0, Nat.zero_le _, rfl, rfl⟩
  case round =>
    obtain ⟨rfl, k, hk, rfl, hgo⟩ := hrel
    have HGO := Lib.hid hgo
    clear hgo
    by_cases hlt : k < l.length
    · obtain ⟨m, hm⟩ : ∃ m, l[k]? = some m := ⟨_, List.getElem?_eq_getElem hlt⟩
      obtain ⟨ga, o, ea, hc⟩ := RB.out.rinB.ls.at_ hm
      have HD := Lib.hid (Ln.ix_step (n := n) hm)
      have hki : (k : Int) < (l.length : Int) := by omega
      have cc := hc 0 _ (Ln.cell0 m)
      rw [Nat.add_zero] at cc
      clear hm hc
      subst ea
      by_cases he : m.n = n
      · have HE := Lib.hid (show Ln.ix l n 0 = (k : Int) by rw [HGO.out, HD.out, if_pos he])
        subst he
        go_wp2
        go_ret
        exact ⟨by rw [HE.out]; rfl, RB.out.bel⟩
      · have HE := Lib.hid (show Ln.ix l n 0 = Ln.ix (l.drop (k + 1)) n (k + 1) by rw [HGO.out, HD.out, if_neg he])
        go_wp2
        go_roundw
        case rel => exact ⟨trivial, k + 1, by omega, by go_num, HE.out⟩
        case measure => simp [intOf]; omega
    · have hki : ¬ (k : Int) < (l.length : Int) := by omega
      have HY := Lib.hid (show Ln.ix l n 0 = -1 by rw [HGO.out, List.drop_eq_nil_of_le (by omega)]; rfl)
      go_wp2
      go_ret
      exact ⟨by rw [HY.out]; rfl, RB.out.bel⟩
theorem rchoice_any (p t : Int) (hp : Ev.i64B p) (ht : 0 < t) (ht2 : t ≤ 1000) (w : World) : Calls Try.prog 43 #[.int .i64 p, .int .i64 t] w fun r w' => r = .returned (.int .i64 (p % t)) ∧ w = w' := by
  have h1 : -t < p.tmod t := by have := Int.lt_tmod_of_pos p ht; omega
  have h2 : p.tmod t < t := Int.tmod_lt_of_pos p ht
  have h3 : ¬ t = 0 := by omega
  have h4 : ¬ t = -1 := by omega
  have h5 := Int.emod_nonneg p (by omega : t ≠ 0)
  have h6 := Int.emod_lt_of_pos p ht
  have hn : (t.natAbs : Int) = t := by omega
  have e : p.tmod t = if 0 ≤ p ∨ t ∣ p then p % t else p % t - t := by rw [Int.tmod_eq_emod]; split <;> omega
  have HE := Lib.hid e
  unfold Ev.i64B at hp
  clear e hn
  obtain ⟨q, hq⟩ : ∃ q, p.tmod t = q := ⟨_, rfl⟩
  have HQ := Lib.hid hq
  by_cases hneg : p.tmod t < 0
  · have e2 : p.tmod t + t = p % t := by have := HE.out; split at this <;> omega
    clear HE hq
    go_enter Try.func43, Try.ntmps43
    go_wp2
    go_ret
    exact ⟨rfl, rfl⟩
  · have e2 : p.tmod t = p % t := by have := HE.out; split at this <;> omega
    clear HE hq
    go_enter Try.func43, Try.ntmps43
    go_wp2
    go_ret
    exact ⟨rfl, rfl⟩
namespace Ln
/-- lines that are gathered in a slice of one's own -/
def Acc (w W : World) (v : Value) (l : List E) : Prop := ∃ a c, v = .slice a l.length c ∧ W.ownsRow w.heap.size 30 18 (.slice a l.length c) l.length (flat l)
theorem Acc.nil (w W : World) : Acc w W (.slice none 0 0) [] := ⟨none, 0, rfl, World.ownsRow_nil _ _ _ _⟩
end Ln
set_option maxRecDepth 100000 in
set_option maxHeartbeats 4000000 in
theorem rof_any (s ways : Nat) (a : Option Addr) (c : Nat) (l : List Ln.E) (t : Nat) (ht : t < 64) (w : World) (h : Ln.RIn w s ways a c l) :
    Calls Try.prog 41 #[.agg #[.int .i64 (s : Int), .int .i64 (ways : Int), .slice a l.length c], .int .i64 (t : Int)] w fun e w' => ∃ a' c', e = .returned (.slice a' (Ln.ofL l s t).length c') ∧ w'.ownsRow w.heap.size 30 18 (.slice a' (Ln.ofL l s t).length c') (Ln.ofL l s t).length (Ln.flat (Ln.ofL l s t)) ∧ Below w.heap.size w w' := by
  have hlen := h.len
  obtain ⟨b, hb⟩ : ∃ b, b = w.heap.size := ⟨_, rfl⟩
  obtain ⟨B, hB⟩ : ∃ B, B = w.alloc (.cells #[.int .i64 (s : Int), .int .i64 (ways : Int), .slice a l.length c] 46) := ⟨_, rfl⟩
  have RB := Lib.hid (show Ln.RBox w B b s ways a c l by rw [hB, hb]; exact Ln.rbox h)
  have HB := Lib.hid hB; have Hb := Lib.hid hb
  obtain ⟨i0, hi, hz0, hz1, hz2⟩ := Ln.info_line
  have HI := Lib.hid hi; have HZ0 := Lib.hid hz0; have HZ1 := Lib.hid hz1; have HZ2 := Lib.hid hz2
  clear h hb hB hi hz0 hz1 hz2
  go_enter Try.func41, Try.ntmps41
  go_wp2_with fail
  rw [← HB.out, ← Hb.out]
  go_loopw [5, 6] (fun v i wr => ∃ k : Nat, k ≤ l.length ∧ i = .int .i64 (k : Int) ∧ Ln.Acc w wr v (Ln.ofL (l.take k) s t) ∧ Ln.RBox w wr b s ways a c l) (fun _ i _ => l.length - (intOf i).toNat)
  case atStart => exact ⟨0, Nat.zero_le _, rfl, Ln.Acc.nil w B, RB.out⟩
  case round =>
    obtain ⟨k, hk, rfl, ⟨oa, oc, rfl, ho⟩, hrb⟩ := hrel
    have RR := Lib.hid hrb; have HO := Lib.hid ho
    have c2 := hrb.c2
    have hol : (Ln.ofL (l.take k) s t).length ≤ 500 := by have := Ln.ofL_len (l.take k) s t; rw [List.length_take] at this; omega
    clear hrb ho
    by_cases hlt : k < l.length
    · obtain ⟨m, hm⟩ : ∃ m, l[k]? = some m := ⟨_, List.getElem?_eq_getElem hlt⟩
      have HM := Lib.hid hm
      have HOK := Lib.hid (RR.out.rin.ls.ok_ hm)
      obtain ⟨ga, o, ea, hc⟩ := RR.out.rinB.ls.at_ hm
      have HC := Lib.hid hc
      have hki : (k : Int) < (l.length : Int) := by omega
      have cc := hc 0 _ (Ln.cell0 m)
      rw [Nat.add_zero] at cc
      clear hm hc
      subst ea
      obtain ⟨i, hi⟩ : ∃ i, m.n.toNat % s = i := ⟨_, rfl⟩
      have KS := Lib.hid (show ∀ W, Ln.RIn W s ways (some ⟨ga, o, none⟩) c l → Calls Try.prog 42 #[.agg #[.int .i64 (s : Int), .int .i64 (ways : Int), .slice (some ⟨ga, o, none⟩) l.length c], .int .u32 m.n] W fun e w' => e = .returned (.int .i64 (i : Int)) ∧ Below W.heap.size W w' from fun W hW => hi ▸ rset_any s ways _ c l m.n HOK.out.n W hW)
      have HI2 := Lib.hid hi
      have q0 : ∀ z : Og.On wr.heap.size wr, z.x.cell? ⟨b, 2, none⟩ = _ := fun z => Og.cellB z c2
      have q1 : ∀ z : Og.On wr.heap.size wr, z.x.cell? ⟨ga, o + k * 18, none⟩ = _ := fun z => Og.cellB z cc
      have LX := Lib.hid (fun z : Og.On wr.heap.size wr => Og.rowB (P := Try.prog) z 46 _ RR.out.row Try.underlying46 rfl (by kernel_rfl))
      by_cases he : i = t
      · have hei : ((i : Int) == (t : Int)) = true := beq_iff_eq.2 (by omega)
        have HT := Lib.hid (Ln.ofL_yes (s := s) (t := t) HM.out (HI2.out.trans he))
        go_wp2_with fail
        refine Og.regionB (by kernel_rfl) (by kernel_rfl) ?_
        repeat (first
          | go_big_quiet_skip
          | (go_big_quiet_want
             first
              | ((with_reducible show Oper.quiet _ (Oper.mk (some 14) _ _ _ _ _) _ _ _); refine Og.quiet_load 46 (.tmp 2) rfl (.agg #[.int .i64 (s : Int), .int .i64 (ways : Int), .slice (some ⟨ga, o, none⟩) l.length c]) ⟨b, 0, none⟩ _ rfl (by rintro _ ⟨z, rfl⟩; exact LX.out z) (by simp only [Act.put, List.setIfInBounds_toArray, List.set_cons_zero, List.set_cons_succ]; rfl) ?_
                 go_big_quiet_on)
              | (go_big_quiet_op
                 first
                  | go_big_quiet_on
                  | (apply Exists.intro
                     refine ⟨fun z => ?_, ?_⟩
                     · exact Og.callB (KS.out z.x (RR.out.rinB.kp (Ev.kp_below z.b)))
                     go_big_quiet_on))))
        refine wpQuiet_nil ?_
        intro _ hw'
        obtain ⟨q9, hw''⟩ := hw'
        subst hw''
        have RQ := Lib.hid (RR.out.kp q9.b)
        have OQ := Lib.hid (Ln.row_kept HO.out (fun j hj => q9.b.block j (HO.out.lt j hj).2))
        have c3 := RQ.out.c2
        have HCQ := Lib.hid (fun j x hx => Ev.kp_below q9.b _ _ (HC.out j x hx))
        clear q0 q1 LX c2 cc
        go_wp2_with (first
          | ((with_reducible show wpList _ _ _ (Oper.mk (some 29) _ _ _ _ _ :: _) _ _); refine wpList_load_at rfl 30 (.tmp 28) rfl ga (o + k * 18) rfl (Ln.cells m) _ HCQ.out Try.underlying30 rfl (by rw [HOK.out.len]; exact Ln.size_line) ?_)
          | ((with_reducible show wpList _ _ _ (Oper.mk (some 30) _ _ _ _ _ :: _) _ _); refine Ln.wpList_buildLine rfl m HOK.out (.tmp 29) rfl rfl ?_)
          | ((with_reducible show wpList _ _ _ (Oper.mk (some 31) _ _ _ _ _ :: _) _ _); refine wpList_append_own (q9.x.alloc (.cells (Ln.cells m).toArray 30)) rfl (.tmp 24) (.tmp 30) 38 rfl w.heap.size 30 i0 (Ln.EV Ln.E0) 18 32 Try.underlying38 HI.out HZ0.out HZ1.out HZ2.out rfl (by decide) _ _ _ rfl (OQ.out.alloc _) ⟨q9.x.heap.size, 0, none⟩ 1 1 (Ln.cells m) rfl (by rw [HOK.out.len]) (fun j u hu => World.news_of_block (heap_alloc_new q9.x _) j u hu) (Ln.cells_one _) (by unfold maxLen; omega) (by omega) (by have := RQ.out.bel.size; simp only [World.size_alloc]; omega) ?_
             intro v' w3 hown hgrow _
             have RN := Lib.hid (RQ.out.grown hgrow (Ln.own_ne OQ.out RQ.out.row (by decide)) (fun j hj => (OQ.out.lt j hj).1))
             rw [← Ln.flat_one m, ← Ln.flat_app, ← HT.out, show (Ln.ofL (l.take k) s t).length + 1 = (Ln.ofL (l.take (k + 1)) s t).length by rw [HT.out]; simp] at hown
             obtain ⟨a', c', rfl⟩ := Ln.own_form hown
             have HOW := Lib.hid hown
             clear hown hgrow))
        go_roundw
        case rel => exact ⟨k + 1, by omega, by go_num, ⟨a', c', rfl, HOW.out⟩, RN.out⟩
        case measure => simp [intOf]; omega
      · have hei : ((i : Int) == (t : Int)) = false := by rw [beq_eq_false_iff_ne]; omega
        have HT := Lib.hid (Ln.ofL_no (s := s) (t := t) HM.out (fun e => he (HI2.out.symm.trans e)))
        go_wp2_with fail
        refine Og.regionB (by kernel_rfl) (by kernel_rfl) ?_
        repeat (first
          | go_big_quiet_skip
          | (go_big_quiet_want
             first
              | ((with_reducible show Oper.quiet _ (Oper.mk (some 14) _ _ _ _ _) _ _ _); refine Og.quiet_load 46 (.tmp 2) rfl (.agg #[.int .i64 (s : Int), .int .i64 (ways : Int), .slice (some ⟨ga, o, none⟩) l.length c]) ⟨b, 0, none⟩ _ rfl (by rintro _ ⟨z, rfl⟩; exact LX.out z) (by simp only [Act.put, List.setIfInBounds_toArray, List.set_cons_zero, List.set_cons_succ]; rfl) ?_
                 go_big_quiet_on)
              | (go_big_quiet_op
                 first
                  | go_big_quiet_on
                  | (apply Exists.intro
                     refine ⟨fun z => ?_, ?_⟩
                     · exact Og.callB (KS.out z.x (RR.out.rinB.kp (Ev.kp_below z.b)))
                     go_big_quiet_on))))
        refine wpQuiet_nil ?_
        intro _ hw'
        obtain ⟨q9, hw''⟩ := hw'
        subst hw''
        have RQ := Lib.hid (RR.out.kp q9.b)
        have OQ := Lib.hid (Ln.row_kept HO.out (fun j hj => q9.b.block j (HO.out.lt j hj).2))
        clear q0 q1 LX c2 cc
        go_wp2_with fail
        go_roundw
        case rel => exact ⟨k + 1, by omega, by go_num, ⟨oa, oc, by rw [HT.out], by rw [HT.out]; exact OQ.out⟩, RQ.out⟩
        case measure => simp [intOf]; omega
    · have hki : ¬ (k : Int) < (l.length : Int) := by omega
      have hke : k = l.length := by omega
      subst hke
      have ho := HO.out
      rw [List.take_length] at ho
      have HO2 := Lib.hid ho
      have HTL := Lib.hid (show Ln.ofL (l.take l.length) s t = Ln.ofL l s t by rw [List.take_length])
      go_wp2
      go_ret
      exact ⟨oa, oc, by rw [← HTL.out]; rfl, HO2.out, RR.out.bel⟩
end Go.Proofs.Ytifniogldinbdaa
