/-
  The document's Send.
-/
import Derived.Test.YtnfpcklpmfemiaaNtTo
import Derived.Test.YtnfpcklpmfemiaaNtRc
namespace Go.Proofs.Ytnfpcklpmfemiaa
open Go.RowKit
set_option linter.unusedVariables false
set_option linter.unusedSimpArgs false
namespace Nt
/-- the document's list behind a call: as it was, or in a block of its own -/
def RT (w w' : World) (a : Option Addr) (c : Nat) (l : List E) (a' : Option Addr) (c' : Nat) (l' : List E) : Prop :=
  (a' = a ∧ c' = c ∧ l' = l) ∨ Own w' (fun k => w.heap.size ≤ k) a' c' l'
theorem fr_belowN {w w' : World} {q : Nat} (h : Fr (fun k => q ≤ k) w w') (hq : q ≤ w.heap.size) : Below q w w' := ⟨h.os, h.tape, h.output, h.size, fun k hk => h.block k (by omega) (by omega)⟩
theorem build0_to {o : Oper} {ρ : Operand → Value} {w : World} (ho : o.op = .buildSlice 68 0 #[]) : (execOp ρ o).run Try.prog w = .ok (.value (.slice (some ⟨w.heap.size, 0, none⟩) 0 0)) (w.alloc (.cells #[] 57)) := by
  have h : (Instr.buildSlice 68 0 #[]).run Try.prog w = .ok (.slice (some ⟨w.heap.size, 0, none⟩) 0 0) (w.alloc (.cells #[] 57)) := by kernel_rfl
  unfold execOp
  simp only [ho, Sem.run_bind, List.map_toArray, List.map_nil, h, Result.andThen_ok, Sem.run_pure]
theorem tail_store {W W5 : World} {nb : Nat} {most : Nat} {a : Option Addr} {c : Nat} {l : List E} (hb : Below W.heap.size W W5) (hbox : W.heap[nb]? = some (.cells #[.int .i64 (most : Int), .slice a l.length c] 76 (0, 0)))
    {a2 : Option Addr} {c2 : Nat} {l2 : List E} (ho : Own W5 (fun k => W.heap.size ≤ k) a2 c2 l2) :
    W5.cell? ⟨nb, 1, none⟩ = some (.slice a l.length c) ∧ W5.frozen? ⟨nb, 1, none⟩ = false ∧
    (W5.setCell ⟨nb, 1, none⟩ (.slice a2 l2.length c2)).heap[nb]? = some (.cells #[.int .i64 (most : Int), .slice a2 l2.length c2] 76 (0, 0)) ∧
    Own (W5.setCell ⟨nb, 1, none⟩ (.slice a2 l2.length c2)) (fun k => W.heap.size ≤ k) a2 c2 l2 ∧ Fr (fun k => k = nb) W (W5.setCell ⟨nb, 1, none⟩ (.slice a2 l2.length c2)) := by
  have hlt := (Array.getElem?_eq_some_iff.1 hbox).1
  have h5 := (hb.block nb hlt).trans hbox
  have hk : ∀ k, k ≠ nb → (W5.setCell ⟨nb, 1, none⟩ (.slice a2 l2.length c2)).heap[k]? = W5.heap[k]? := fun k hk => Below.heap_setCell _ _ _ k hk
  have hs : (W5.setCell ⟨nb, 1, none⟩ (.slice a2 l2.length c2)).heap.size = W5.heap.size := by show (W5.heap.modify nb _).size = _; exact Array.size_modify
  refine ⟨by rw [cell_of_row _ _ _ _ _ _ h5]; rfl, free_row h5, by rw [set_row _ h5]; rfl, ho.kept (fun k hk1 _ => hk k (by omega)), ⟨hb.os, hb.tape, hb.output, by rw [hs]; exact hb.size, fun k hk1 hk2 => (hk k hk2).trans (hb.block k hk1)⟩⟩
set_option maxRecDepth 100000 in
set_option maxHeartbeats 8000000 in
theorem rsend_any (most : Nat) (a : Option Addr) (c : Nat) (l : List E) (e : E) (hok : Ok e) (w : World) (h : LsIn w a c l) (hl : l.length ≤ 1024) (hm : l.length ≤ most) (hmm : most ≤ 1024) :
    Calls Try.prog 40 #[.agg #[.int .i64 (most : Int), .slice a l.length c], .agg (cells e).toArray] w fun r w' => ∃ a' c', r = .returned (.tuple #[.agg #[.int .i64 (most : Int), .slice a' (sendL most l e).length c'], .int .i64 (sendE most l e)]) ∧ Below w.heap.size w w' ∧ RT w w' a c l a' c' (sendL most l e) := by
  obtain ⟨nb, hnb⟩ : ∃ nb, nb = w.heap.size := ⟨_, rfl⟩
  obtain ⟨mb, hmb⟩ : ∃ mb, mb = w.heap.size + 1 := ⟨_, rfl⟩
  obtain ⟨rb, hrb⟩ : ∃ rb, rb = w.heap.size + 1 + 1 := ⟨_, rfl⟩
  obtain ⟨B, hB⟩ : ∃ B, B = ((w.alloc (.cells #[.int .i64 (most : Int), .slice a l.length c] 76)).alloc (.cells (cells e).toArray 57)).alloc (.cells #[.int .i64 0, .slice none 0 0] 76) := ⟨_, rfl⟩
  have HB := Lib.hid hB; have HNB := Lib.hid hnb; have HMB := Lib.hid hmb; have HRB := Lib.hid hrb
  have B0 := Lib.hid (show Below w.heap.size w B by rw [hB]; exact (((Below.refl w.heap.size w).alloc (Nat.le_refl _) _).alloc (by simp) _).alloc (by simp only [World.size_alloc]; omega) _)
  have N0 := Lib.hid (show B.heap[nb]? = some (.cells #[.int .i64 (most : Int), .slice a l.length c] 76 (0, 0)) by
    rw [hB, hnb]; exact (Below.heap_alloc _ _ _ (by simp only [World.size_alloc]; omega)).trans ((Below.heap_alloc _ _ _ (by simp)).trans (heap_alloc_new _ _)))
  have M0 := Lib.hid (show B.heap[mb]? = some (.cells (cells e).toArray 57 (0, 0)) by
    have := heap_alloc_new (w.alloc (.cells #[.int .i64 (most : Int), .slice a l.length c] 76)) (.cells (cells e).toArray 57)
    rw [World.size_alloc] at this
    rw [hB, hmb]; exact (Below.heap_alloc _ _ _ (by simp)).trans this)
  have Z0 := Lib.hid (show B.heap[rb]? = some (.cells #[.int .i64 0, .slice none 0 0] 76 (0, 0)) by
    have := heap_alloc_new ((w.alloc (.cells #[.int .i64 (most : Int), .slice a l.length c] 76)).alloc (.cells (cells e).toArray 57)) (.cells #[.int .i64 0, .slice none 0 0] 76)
    rw [World.size_alloc, World.size_alloc] at this
    rw [hB, hrb]; exact this)
  have HOK := Lib.hid hok
  have HIN := Lib.hid h
  have KC := Lib.hid (rcheck_any e hok B)
  obtain ⟨m, hme⟩ : ∃ m, may e = m := ⟨_, rfl⟩
  have HE := Lib.hid (show sendE most l e = if m then (if l.length = most then 210 else 0) else 2 from by unfold sendE; rw [hme])
  have HL := Lib.hid (show sendL most l e = if m then (if l.length = most then l else l ++ [e]) else l from by unfold sendL; rw [hme])
  have HC := KC.out
  rw [show chk e = if m then 0 else 2 from by unfold chk; rw [hme]] at HC
  have KC2 := Lib.hid HC
  clear hB hnb hmb hrb hok h hme HC KC
  cases m
  · have HE2 := Lib.hid (show sendE most l e = 2 from by rw [HE.out]; rfl)
    have HL2 := Lib.hid (show sendL most l e = l from by rw [HL.out]; rfl)
    have KC3 := Lib.hid (show Calls Try.prog 27 #[.agg (cells e).toArray] B fun r w' => r = .returned (.int .i64 2) ∧ Below B.heap.size B w' from KC2.out)
    go_enter Try.func40, Try.ntmps40
    go_wp2_with (first
      | ((with_reducible show wpList _ _ _ (Oper.mk (some 6) _ _ _ _ _ :: _) _ _); rw [← HB.out, ← HRB.out, ← HMB.out, ← HNB.out]; refine wpList_load_row rfl 57 (.tmp 3) rfl mb rfl 57 _ (0, 0) _ M0.out Try.underlying57 rfl (by rw [HOK.out.size]; exact size_msg) ?_)
      | (go_at_call 27; (with_reducible refine KC3.out.mono ?_); rintro e2 W1 ⟨rfl, hb⟩
         have B1 := Lib.hid hb; have N1 := Lib.hid ((hb.block _ (Array.getElem?_eq_some_iff.1 N0.out).1).trans N0.out); have Z1 := Lib.hid ((hb.block _ (Array.getElem?_eq_some_iff.1 Z0.out).1).trans Z0.out)
         clear hb)
      | ((with_reducible show wpList _ _ _ (Oper.mk (some 9) _ _ _ _ _ :: _) _ _); refine wpList_load_row rfl 76 (.tmp 2) rfl nb rfl 76 _ (0, 0) _ N1.out Try.underlying76 rfl (by kernel_rfl) ?_)
      | ((with_reducible show wpList _ _ _ (Oper.mk none (Op.store 76 _ _) _ _ _ _ :: _) _ _); refine wpList_store_own rfl 76 (.tmp 4) (.tmp 9) rfl rb #[.int .i64 (most : Int), .slice a l.length c] rfl rfl 76 _ Z1.out (by kernel_rfl) rfl (by kernel_rfl) ?_
         intro W2 HW2
         have S2 := Lib.hid HW2
         clear HW2))
    refine bodyPost_ret (res2 (fn := Try.f40) rfl _ _ rb 76 _ (0, 0) _ rfl S2.out.row Try.underlying76 rfl (by kernel_rfl)) rfl ?_
    rw [HE2.out, HL2.out]
    exact ⟨a, c, rfl, (B0.out.trans (B1.out.mono B0.out.size)).trans (S2.out.below.mono (by have := HRB.out; omega)), .inl ⟨rfl, rfl, rfl⟩⟩
  · have HE2 := Lib.hid (show sendE most l e = if l.length = most then 210 else 0 from by rw [HE.out]; simp)
    have HL2 := Lib.hid (show sendL most l e = if l.length = most then l else l ++ [e] from by rw [HL.out]; simp)
    have KC3 := Lib.hid (show Calls Try.prog 27 #[.agg (cells e).toArray] B fun r w' => r = .returned (.int .i64 0) ∧ Below B.heap.size B w' from KC2.out)
    by_cases hf : l.length = most
    · have hge : (most : Int) ≤ (l.length : Int) := by omega
      have HE3 := Lib.hid (show sendE most l e = 210 from by rw [HE2.out, if_pos hf])
      have HL3 := Lib.hid (show sendL most l e = l from by rw [HL2.out, if_pos hf])
      clear hf
      go_enter Try.func40, Try.ntmps40
      go_wp2_with (first
        | ((with_reducible show wpList _ _ _ (Oper.mk (some 6) _ _ _ _ _ :: _) _ _); rw [← HB.out, ← HRB.out, ← HMB.out, ← HNB.out]; refine wpList_load_row rfl 57 (.tmp 3) rfl mb rfl 57 _ (0, 0) _ M0.out Try.underlying57 rfl (by rw [HOK.out.size]; exact size_msg) ?_)
        | (go_at_call 27; (with_reducible refine KC3.out.mono ?_); rintro e2 W1 ⟨rfl, hb⟩
           have B1 := Lib.hid hb; have N1 := Lib.hid ((hb.block _ (Array.getElem?_eq_some_iff.1 N0.out).1).trans N0.out); have Z1 := Lib.hid ((hb.block _ (Array.getElem?_eq_some_iff.1 Z0.out).1).trans Z0.out)
           have c0 : W1.cell? ⟨nb, 0, none⟩ = some (.int .i64 (most : Int)) := by rw [cell_of_row _ _ _ _ _ _ N1.out]; rfl
           have c1 : W1.cell? ⟨nb, 1, none⟩ = some (.slice a l.length c) := by rw [cell_of_row _ _ _ _ _ _ N1.out]; rfl
           clear hb)
        | ((with_reducible show wpList _ _ _ (Oper.mk (some 16) _ _ _ _ _ :: _) _ _); refine wpList_load_row rfl 76 (.tmp 2) rfl nb rfl 76 _ (0, 0) _ N1.out Try.underlying76 rfl (by kernel_rfl) ?_)
        | ((with_reducible show wpList _ _ _ (Oper.mk none (Op.store 76 _ _) _ _ _ _ :: _) _ _); refine wpList_store_own rfl 76 (.tmp 4) (.tmp 16) rfl rb #[.int .i64 (most : Int), .slice a l.length c] rfl rfl 76 _ Z1.out (by kernel_rfl) rfl (by kernel_rfl) ?_
           intro W2 HW2
           have S2 := Lib.hid HW2
           clear HW2))
      refine bodyPost_ret (res2 (fn := Try.f40) rfl _ _ rb 76 _ (0, 0) _ rfl S2.out.row Try.underlying76 rfl (by kernel_rfl)) rfl ?_
      rw [HE3.out, HL3.out]
      exact ⟨a, c, rfl, (B0.out.trans (B1.out.mono B0.out.size)).trans (S2.out.below.mono (by have := HRB.out; omega)), .inl ⟨rfl, rfl, rfl⟩⟩
    · have hge : ¬ (most : Int) ≤ (l.length : Int) := by omega
      have HE3 := Lib.hid (show sendE most l e = 0 from by rw [HE2.out, if_neg hf])
      have HL3 := Lib.hid (show sendL most l e = l ++ [e] from by rw [HL2.out, if_neg hf])
      go_enter Try.func40, Try.ntmps40
      go_wp2_with (first
        | ((with_reducible show wpList _ _ _ (Oper.mk (some 6) _ _ _ _ _ :: _) _ _); rw [← HB.out, ← HRB.out, ← HMB.out, ← HNB.out]; refine wpList_load_row rfl 57 (.tmp 3) rfl mb rfl 57 _ (0, 0) _ M0.out Try.underlying57 rfl (by rw [HOK.out.size]; exact size_msg) ?_)
        | (go_at_call 27; (with_reducible refine KC3.out.mono ?_); rintro e2 W1 ⟨rfl, hb⟩
           have B1 := Lib.hid hb; have N1 := Lib.hid ((hb.block _ (Array.getElem?_eq_some_iff.1 N0.out).1).trans N0.out); have Z1 := Lib.hid ((hb.block _ (Array.getElem?_eq_some_iff.1 Z0.out).1).trans Z0.out)
           have M1 := Lib.hid ((hb.block _ (Array.getElem?_eq_some_iff.1 M0.out).1).trans M0.out)
           have L1 := Lib.hid ((HIN.out.kp (Ev.kp_below B0.out)).kp (Ev.kp_below hb))
           have c0 : W1.cell? ⟨nb, 0, none⟩ = some (.int .i64 (most : Int)) := by rw [cell_of_row _ _ _ _ _ _ N1.out]; rfl
           have c1 : W1.cell? ⟨nb, 1, none⟩ = some (.slice a l.length c) := by rw [cell_of_row _ _ _ _ _ _ N1.out]; rfl
           clear hb))
      clear c0 c1
      refine Og.region_to (fun A (i : Nat × Option Addr × Nat × Nat × Option Addr × Nat) => ((((((((A.put (some 17) (.slice (some ⟨i.1, 0, none⟩) 0 0)).put (some 18) (.pointer (some ⟨nb, 1, none⟩))).put (some 19) (.slice a l.length c)).put (some 20) (.slice i.2.1 l.length i.2.2.1)).put (some 21) (.agg (cells e).toArray)).put (some 22) (.slice (some ⟨i.2.2.2.1, 0, none⟩) 1 1)).put (some 23) (.slice i.2.2.2.2.1 (l ++ [e]).length i.2.2.2.2.2)).put (some 24) (.pointer (some ⟨nb, 1, none⟩)))) (fun w' (i : Nat × Option Addr × Nat × Nat × Option Addr × Nat) => w'.heap[nb]? = some (.cells #[.int .i64 (most : Int), .slice i.2.2.2.2.1 (l ++ [e]).length i.2.2.2.2.2] 76 (0, 0)) ∧ Own w' (fun k => W1.heap.size ≤ k) i.2.2.2.2.1 i.2.2.2.2.2 (l ++ [e]) ∧ Fr (fun k => k = nb) W1 w') ?_ ?_
      · obtain ⟨wq, hwq⟩ : ∃ wq, wq = { W1 with drawn := W1.drawn + 1 } := ⟨_, rfl⟩
        have BQ := Lib.hid (show Below W1.heap.size W1 wq by rw [hwq]; exact ⟨rfl, rfl, rfl, Nat.le_refl _, fun _ _ => rfl⟩)
        have HWQ := Lib.hid hwq
        clear hwq
        have LQ := Lib.hid (L1.out.kp (Ev.kp_below BQ.out))
        have hq := Lib.hid BQ.out.size
        have HFA := Lib.hid (show (fun x : World => x.cell? ⟨nb, 1, none⟩ = some (.slice a l.length c) ∧ x.heap[mb]? = some (.cells (cells e).toArray 57 (0, 0))) wq from ⟨by rw [cell_of_row _ _ _ _ _ _ ((BQ.out.block _ (Array.getElem?_eq_some_iff.1 N1.out).1).trans N1.out)]; rfl, (BQ.out.block _ (Array.getElem?_eq_some_iff.1 M1.out).1).trans M1.out⟩)
        refine Og.region_S (S := Og.SF 5 (fun x : World => x.cell? ⟨nb, 1, none⟩ = some (.slice a l.length c) ∧ x.heap[mb]? = some (.cells (cells e).toArray 57 (0, 0)))) (by kernel_rfl) ?_
        rw [← HWQ.out]
        refine Og.s_take 1 { dst := some 18, op := Go.Op.fieldAddr 76 (Go.Operand.tmp 2) 1, type := 0, pos := "ref.go:49", after := #[], guard := none } (.pointer (some ⟨nb, 1, none⟩)) _ (by kernel_rfl) (by kernel_rfl) (by kernel_rfl) (by kernel_rfl) (by kernel_rfl) (fun _ _ _ h => nomatch h.1) (fun _ => HFA.out) (fun x' hx => ?_) (by simp only [Act.put, List.setIfInBounds_toArray, List.set_cons_zero, List.set_cons_succ]; rfl) ?_
        · go_simp; try (with_reducible rfl)
        refine Og.s_take 2 { dst := some 19, op := Go.Op.load 68 (Go.Operand.tmp 18), type := 68, pos := "ref.go:49", after := #[{ on := 1, ground := Go.Ground.data }], guard := none } (.slice a l.length c) _ (by kernel_rfl) (by kernel_rfl) (by kernel_rfl) (by kernel_rfl) (by kernel_rfl) (fun _ _ _ h => nomatch h.1) (fun _ => HFA.out) (fun x' hx => ?_) (by simp only [Act.put, List.setIfInBounds_toArray, List.set_cons_zero, List.set_cons_succ]; rfl) ?_
        · have hx1 := (hx (by decide)).1; go_simp; try (with_reducible rfl)
        refine Og.s_take 4 { dst := some 21, op := Go.Op.load 57 (Go.Operand.tmp 3), type := 57, pos := "ref.go:49", after := #[], guard := none } (.agg (cells e).toArray) _ (by kernel_rfl) (by kernel_rfl) (by kernel_rfl) (by kernel_rfl) (by kernel_rfl) (fun _ _ _ h => nomatch h.1) (fun _ => HFA.out) (fun x' hx => ?_) (by simp only [Act.put, List.setIfInBounds_toArray, List.set_cons_zero, List.set_cons_succ]; rfl) ?_
        · exact Og.load_run 57 (.tmp 3) rfl ⟨mb, 0, none⟩ rfl (run_loadVar_row x' mb 57 57 _ (0, 0) _ (hx (by decide)).2 Try.underlying57 rfl (by rw [HOK.out.size]; exact size_msg))
        refine Og.s_two 0 5 { dst := some 17, op := Go.Op.buildSlice 68 0 #[], type := 68, pos := "ref.go:49", after := #[], guard := none } { dst := some 22, op := Go.Op.buildSlice 68 1 #[(0, Go.Operand.tmp 21)], type := 68, pos := "ref.go:49", after := #[{ on := 4, ground := Go.Ground.data }], guard := none } (by kernel_rfl) (by kernel_rfl) (by kernel_rfl) (by kernel_rfl) (by kernel_rfl) ?_ ?_
        · refine Og.run_to (v := .slice (some ⟨wq.heap.size, 0, none⟩) 0 0) (w' := wq.alloc (.cells #[] 57)) (build0_to rfl) ?_
          obtain ⟨n1, hn1⟩ : ∃ n1, n1 = wq.heap.size := ⟨_, rfl⟩
          obtain ⟨W3, hW3⟩ : ∃ W3, W3 = wq.alloc (.cells #[] 57) := ⟨_, rfl⟩
          have BA := Lib.hid (show Below wq.heap.size wq W3 by rw [hW3]; exact (Below.refl wq.heap.size wq).alloc (Nat.le_refl _) _)
          rw [← hW3, ← hn1]
          clear hW3 hn1
          refine ⟨Og.keep_sf (fun h => ⟨Ev.kp_below BA.out _ _ h.1, (BA.out.block _ (Array.getElem?_eq_some_iff.1 h.2).1).trans h.2⟩), ?_⟩
          refine Og.s_two 3 5 { dst := some 20, op := Go.Op.call { callee := Go.Callee.builtin Go.Builtin.append, args := #[Go.Operand.tmp 17, Go.Operand.tmp 19], argTypes := #[68, 68] }, type := 68, pos := "ref.go:49", after := #[{ on := 0, ground := Go.Ground.data }, { on := 2, ground := Go.Ground.data }], guard := none } { dst := some 22, op := Go.Op.buildSlice 68 1 #[(0, Go.Operand.tmp 21)], type := 68, pos := "ref.go:49", after := #[{ on := 4, ground := Go.Ground.data }], guard := none } (by kernel_rfl) (by kernel_rfl) (by kernel_rfl) (by kernel_rfl) (by kernel_rfl) ?_ ?_
          · obtain ⟨a1, c1, W4, hr1, ho1, hf1⟩ := append_any (w := W3) (F := fun _ => False) (a := some ⟨n1, 0, none⟩) (c := 0) (l := []) (.inl ⟨rfl, rfl⟩) (fun _ h => nomatch h) (LQ.out.kp (Ev.kp_below BA.out)) (by simp only [List.length_nil]; omega)
            simp only [List.nil_append, List.length_nil] at hr1 ho1
            have BB := Lib.hid (fr_below hf1)
            have OB := Lib.hid (show Own W4 (fun k => W3.heap.size ≤ k) a1 c1 l from ho1.mono (fun k hk => by
              rcases hk with hk | hk
              · exact hk.elim
              · omega))
            refine Og.run_to (v := .slice a1 l.length c1) (w' := W4) (Og.append_to (.tmp 17) (.tmp 19) 68 rfl rfl rfl hr1) ⟨Og.keep_sf (fun h => ⟨Ev.kp_below BB.out _ _ h.1, (BB.out.block _ (Array.getElem?_eq_some_iff.1 h.2).1).trans h.2⟩), ?_⟩
            clear hr1 ho1 hf1
            refine Og.s_one 5 { dst := some 22, op := Go.Op.buildSlice 68 1 #[(0, Go.Operand.tmp 21)], type := 68, pos := "ref.go:49", after := #[{ on := 4, ground := Go.Ground.data }], guard := none } (by kernel_rfl) (by kernel_rfl) (by kernel_rfl) ?_
            refine Og.run_to (v := .slice (some ⟨W4.heap.size, 0, none⟩) 1 1) (w' := W4.alloc (.cells (cells e).toArray 57)) (build_to HOK.out (.tmp 21) rfl rfl) ?_
            obtain ⟨n2, hn2⟩ : ∃ n2, n2 = W4.heap.size := ⟨_, rfl⟩
            obtain ⟨W5, hW5⟩ : ∃ W5, W5 = W4.alloc (.cells (cells e).toArray 57) := ⟨_, rfl⟩
            have BC := Lib.hid (show Below W4.heap.size W4 W5 by rw [hW5]; exact (Below.refl W4.heap.size W4).alloc (Nat.le_refl _) _)
            have ZC := Lib.hid (show LsIn W5 (some ⟨n2, 0, none⟩) 1 [e] from ls_one HOK.out (by rw [hW5, hn2]; exact heap_alloc_new _ _))
            rw [← hW5, ← hn2]
            clear hW5 hn2
            refine ⟨Og.keep_sf (fun h => ⟨Ev.kp_below BC.out _ _ h.1, (BC.out.block _ (Array.getElem?_eq_some_iff.1 h.2).1).trans h.2⟩), ?_⟩
            refine Og.s_one 6 { dst := some 23, op := Go.Op.call { callee := Go.Callee.builtin Go.Builtin.append, args := #[Go.Operand.tmp 20, Go.Operand.tmp 22], argTypes := #[68, 68] }, type := 68, pos := "ref.go:49", after := #[{ on := 3, ground := Go.Ground.data }, { on := 5, ground := Go.Ground.data }, { on := 3, ground := Go.Ground.chain }], guard := none } (by kernel_rfl) (by kernel_rfl) (by kernel_rfl) ?_
            have hbw := BQ.out.trans ((BA.out.mono hq.out).trans ((BB.out.mono (by have := BA.out.size; have := hq.out; omega)).trans (BC.out.mono (by have := BA.out.size; have := BB.out.size; have := hq.out; omega))))
            obtain ⟨a2, c2, W6, hr2, ho2, hf2⟩ := append_any ((OB.out.kp BC.out).mono (G := fun k => W1.heap.size ≤ k) (fun k hk => by have := BA.out.size; have := hq.out; omega)) L1.out.ok (ZC.out) (by simp only [List.length_singleton]; omega)
            have B5 := Lib.hid (hbw.trans (fr_belowN hf2 (by have := hbw.size; omega)))
            obtain ⟨t1, t2, t3, t4, t5⟩ := tail_store B5.out N1.out (ho2.mono (fun k hk => by
              rcases hk with hk | hk
              · exact hk
              · have := hbw.size; omega))
            have HR2 := Lib.hid hr2; have T1 := Lib.hid t1; have T2 := Lib.hid t2; have T3 := Lib.hid t3; have T4 := Lib.hid t4; have T5 := Lib.hid t5
            have M5 := Lib.hid ((B5.out.block _ (Array.getElem?_eq_some_iff.1 M1.out).1).trans M1.out)
            clear hr2 ho2 hf2 t1 t2 t3 t4 t5 hbw
            refine Og.run_to (v := .slice a2 (l ++ [e]).length c2) (w' := W6) (Og.append_to (.tmp 20) (.tmp 22) 68 rfl rfl rfl HR2.out) ⟨Og.keep_sf (fun h => ⟨T1.out, M5.out⟩), ?_⟩
            refine Og.s_take 7 { dst := some 24, op := Go.Op.fieldAddr 76 (Go.Operand.tmp 2) 1, type := 0, pos := "ref.go:49", after := #[{ on := 0, ground := Go.Ground.phase }, { on := 1, ground := Go.Ground.phase }, { on := 2, ground := Go.Ground.phase }, { on := 3, ground := Go.Ground.phase }, { on := 4, ground := Go.Ground.phase }, { on := 5, ground := Go.Ground.phase }, { on := 6, ground := Go.Ground.phase }], guard := none } (.pointer (some ⟨nb, 1, none⟩)) _ (by kernel_rfl) (by kernel_rfl) (by kernel_rfl) (by kernel_rfl) (by kernel_rfl) (fun _ _ _ h => nomatch h.1) (fun h => absurd h (by decide)) (fun x' hx => ?_) (by simp only [Act.put, List.setIfInBounds_toArray, List.set_cons_zero, List.set_cons_succ]; rfl) ?_
            · go_simp; try (with_reducible rfl)
            refine Og.s_one 8 { dst := none, op := Go.Op.store 68 (Go.Operand.tmp 24) (Go.Operand.tmp 23), type := 0, pos := "ref.go:49", after := #[{ on := 7, ground := Go.Ground.data }, { on := 6, ground := Go.Ground.data }, { on := 6, ground := Go.Ground.chain }, { on := 0, ground := Go.Ground.phase }, { on := 1, ground := Go.Ground.phase }, { on := 2, ground := Go.Ground.phase }, { on := 3, ground := Go.Ground.phase }, { on := 4, ground := Go.Ground.phase }, { on := 5, ground := Go.Ground.phase }, { on := 6, ground := Go.Ground.phase }], guard := none } (by kernel_rfl) (by kernel_rfl) (by kernel_rfl) ?_
            refine Og.skip_to (w' := W6.setCell ⟨nb, 1, none⟩ (.slice a2 (l ++ [e]).length c2)) (Og.store_to 68 (.tmp 24) (.tmp 23) rfl rfl rfl (by kernel_rfl) T1.out T2.out) ⟨Og.keep_last (o := { dst := none, op := Go.Op.store 68 (Go.Operand.tmp 24) (Go.Operand.tmp 23), type := 0, pos := "ref.go:49", after := #[{ on := 7, ground := Go.Ground.data }, { on := 6, ground := Go.Ground.data }, { on := 6, ground := Go.Ground.chain }, { on := 0, ground := Go.Ground.phase }, { on := 1, ground := Go.Ground.phase }, { on := 2, ground := Go.Ground.phase }, { on := 3, ground := Go.Ground.phase }, { on := 4, ground := Go.Ground.phase }, { on := 5, ground := Go.Ground.phase }, { on := 6, ground := Go.Ground.phase }], guard := none }) (by kernel_rfl) (by kernel_rfl), ?_⟩
            refine Og.s_done (by kernel_rfl) ?_ _
            refine ⟨rfl, (n1, a1, c1, n2, a2, c2), ?_, T3.out, T4.out, T5.out⟩
            simp only [Act.put, List.setIfInBounds_toArray, List.set_cons_zero, List.set_cons_succ]
          · refine Og.run_to (v := .slice (some ⟨W3.heap.size, 0, none⟩) 1 1) (w' := W3.alloc (.cells (cells e).toArray 57)) (build_to HOK.out (.tmp 21) rfl rfl) ?_
            obtain ⟨n2, hn2⟩ : ∃ n2, n2 = W3.heap.size := ⟨_, rfl⟩
            obtain ⟨W4, hW4⟩ : ∃ W4, W4 = W3.alloc (.cells (cells e).toArray 57) := ⟨_, rfl⟩
            have BB := Lib.hid (show Below W3.heap.size W3 W4 by rw [hW4]; exact (Below.refl W3.heap.size W3).alloc (Nat.le_refl _) _)
            have ZB := Lib.hid (show LsIn W4 (some ⟨n2, 0, none⟩) 1 [e] from ls_one HOK.out (by rw [hW4, hn2]; exact heap_alloc_new _ _))
            rw [← hW4, ← hn2]
            clear hW4 hn2
            refine ⟨Og.keep_sf (fun h => ⟨Ev.kp_below BB.out _ _ h.1, (BB.out.block _ (Array.getElem?_eq_some_iff.1 h.2).1).trans h.2⟩), ?_⟩
            refine Og.s_one 3 { dst := some 20, op := Go.Op.call { callee := Go.Callee.builtin Go.Builtin.append, args := #[Go.Operand.tmp 17, Go.Operand.tmp 19], argTypes := #[68, 68] }, type := 68, pos := "ref.go:49", after := #[{ on := 0, ground := Go.Ground.data }, { on := 2, ground := Go.Ground.data }], guard := none } (by kernel_rfl) (by kernel_rfl) (by kernel_rfl) ?_
            obtain ⟨a1, c1, W5, hr1, ho1, hf1⟩ := append_any (w := W4) (F := fun _ => False) (a := some ⟨n1, 0, none⟩) (c := 0) (l := []) (.inl ⟨rfl, rfl⟩) (fun _ h => nomatch h) ((LQ.out.kp (Ev.kp_below BA.out)).kp (Ev.kp_below BB.out)) (by simp only [List.length_nil]; omega)
            simp only [List.nil_append, List.length_nil] at hr1 ho1
            have BC := Lib.hid (fr_below hf1)
            have OC := Lib.hid (show Own W5 (fun k => W4.heap.size ≤ k) a1 c1 l from ho1.mono (fun k hk => by
              rcases hk with hk | hk
              · exact hk.elim
              · omega))
            refine Og.run_to (v := .slice a1 l.length c1) (w' := W5) (Og.append_to (.tmp 17) (.tmp 19) 68 rfl rfl rfl hr1) ⟨Og.keep_sf (fun h => ⟨Ev.kp_below BC.out _ _ h.1, (BC.out.block _ (Array.getElem?_eq_some_iff.1 h.2).1).trans h.2⟩), ?_⟩
            clear hr1 ho1 hf1
            refine Og.s_one 6 { dst := some 23, op := Go.Op.call { callee := Go.Callee.builtin Go.Builtin.append, args := #[Go.Operand.tmp 20, Go.Operand.tmp 22], argTypes := #[68, 68] }, type := 68, pos := "ref.go:49", after := #[{ on := 3, ground := Go.Ground.data }, { on := 5, ground := Go.Ground.data }, { on := 3, ground := Go.Ground.chain }], guard := none } (by kernel_rfl) (by kernel_rfl) (by kernel_rfl) ?_
            have hbw := BQ.out.trans ((BA.out.mono hq.out).trans ((BB.out.mono (by have := BA.out.size; have := hq.out; omega)).trans (BC.out.mono (by have := BA.out.size; have := BB.out.size; have := hq.out; omega))))
            obtain ⟨a2, c2, W6, hr2, ho2, hf2⟩ := append_any (OC.out.mono (G := fun k => W1.heap.size ≤ k) (fun k hk => by have := BA.out.size; have := BB.out.size; have := hq.out; omega)) L1.out.ok (ZB.out.kp (Ev.kp_below BC.out)) (by simp only [List.length_singleton]; omega)
            have B5 := Lib.hid (hbw.trans (fr_belowN hf2 (by have := hbw.size; omega)))
            obtain ⟨t1, t2, t3, t4, t5⟩ := tail_store B5.out N1.out (ho2.mono (fun k hk => by
              rcases hk with hk | hk
              · exact hk
              · have := hbw.size; omega))
            have HR2 := Lib.hid hr2; have T1 := Lib.hid t1; have T2 := Lib.hid t2; have T3 := Lib.hid t3; have T4 := Lib.hid t4; have T5 := Lib.hid t5
            have M5 := Lib.hid ((B5.out.block _ (Array.getElem?_eq_some_iff.1 M1.out).1).trans M1.out)
            clear hr2 ho2 hf2 t1 t2 t3 t4 t5 hbw
            refine Og.run_to (v := .slice a2 (l ++ [e]).length c2) (w' := W6) (Og.append_to (.tmp 20) (.tmp 22) 68 rfl rfl rfl HR2.out) ⟨Og.keep_sf (fun h => ⟨T1.out, M5.out⟩), ?_⟩
            refine Og.s_take 7 { dst := some 24, op := Go.Op.fieldAddr 76 (Go.Operand.tmp 2) 1, type := 0, pos := "ref.go:49", after := #[{ on := 0, ground := Go.Ground.phase }, { on := 1, ground := Go.Ground.phase }, { on := 2, ground := Go.Ground.phase }, { on := 3, ground := Go.Ground.phase }, { on := 4, ground := Go.Ground.phase }, { on := 5, ground := Go.Ground.phase }, { on := 6, ground := Go.Ground.phase }], guard := none } (.pointer (some ⟨nb, 1, none⟩)) _ (by kernel_rfl) (by kernel_rfl) (by kernel_rfl) (by kernel_rfl) (by kernel_rfl) (fun _ _ _ h => nomatch h.1) (fun h => absurd h (by decide)) (fun x' hx => ?_) (by simp only [Act.put, List.setIfInBounds_toArray, List.set_cons_zero, List.set_cons_succ]; rfl) ?_
            · go_simp; try (with_reducible rfl)
            refine Og.s_one 8 { dst := none, op := Go.Op.store 68 (Go.Operand.tmp 24) (Go.Operand.tmp 23), type := 0, pos := "ref.go:49", after := #[{ on := 7, ground := Go.Ground.data }, { on := 6, ground := Go.Ground.data }, { on := 6, ground := Go.Ground.chain }, { on := 0, ground := Go.Ground.phase }, { on := 1, ground := Go.Ground.phase }, { on := 2, ground := Go.Ground.phase }, { on := 3, ground := Go.Ground.phase }, { on := 4, ground := Go.Ground.phase }, { on := 5, ground := Go.Ground.phase }, { on := 6, ground := Go.Ground.phase }], guard := none } (by kernel_rfl) (by kernel_rfl) (by kernel_rfl) ?_
            refine Og.skip_to (w' := W6.setCell ⟨nb, 1, none⟩ (.slice a2 (l ++ [e]).length c2)) (Og.store_to 68 (.tmp 24) (.tmp 23) rfl rfl rfl (by kernel_rfl) T1.out T2.out) ⟨Og.keep_last (o := { dst := none, op := Go.Op.store 68 (Go.Operand.tmp 24) (Go.Operand.tmp 23), type := 0, pos := "ref.go:49", after := #[{ on := 7, ground := Go.Ground.data }, { on := 6, ground := Go.Ground.data }, { on := 6, ground := Go.Ground.chain }, { on := 0, ground := Go.Ground.phase }, { on := 1, ground := Go.Ground.phase }, { on := 2, ground := Go.Ground.phase }, { on := 3, ground := Go.Ground.phase }, { on := 4, ground := Go.Ground.phase }, { on := 5, ground := Go.Ground.phase }, { on := 6, ground := Go.Ground.phase }], guard := none }) (by kernel_rfl) (by kernel_rfl), ?_⟩
            refine Og.s_done (by kernel_rfl) ?_ _
            refine ⟨rfl, (n1, a1, c1, n2, a2, c2), ?_, T3.out, T4.out, T5.out⟩
            simp only [Act.put, List.setIfInBounds_toArray, List.set_cons_zero, List.set_cons_succ]
        · refine Og.run_to (v := .slice (some ⟨wq.heap.size, 0, none⟩) 1 1) (w' := wq.alloc (.cells (cells e).toArray 57)) (build_to HOK.out (.tmp 21) rfl rfl) ?_
          obtain ⟨n2, hn2⟩ : ∃ n2, n2 = wq.heap.size := ⟨_, rfl⟩
          obtain ⟨W3, hW3⟩ : ∃ W3, W3 = wq.alloc (.cells (cells e).toArray 57) := ⟨_, rfl⟩
          have BA := Lib.hid (show Below wq.heap.size wq W3 by rw [hW3]; exact (Below.refl wq.heap.size wq).alloc (Nat.le_refl _) _)
          have ZA := Lib.hid (show LsIn W3 (some ⟨n2, 0, none⟩) 1 [e] from ls_one HOK.out (by rw [hW3, hn2]; exact heap_alloc_new _ _))
          rw [← hW3, ← hn2]
          clear hW3 hn2
          refine ⟨Og.keep_sf (fun h => ⟨Ev.kp_below BA.out _ _ h.1, (BA.out.block _ (Array.getElem?_eq_some_iff.1 h.2).1).trans h.2⟩), ?_⟩
          refine Og.s_one 0 { dst := some 17, op := Go.Op.buildSlice 68 0 #[], type := 68, pos := "ref.go:49", after := #[], guard := none } (by kernel_rfl) (by kernel_rfl) (by kernel_rfl) ?_
          refine Og.run_to (v := .slice (some ⟨W3.heap.size, 0, none⟩) 0 0) (w' := W3.alloc (.cells #[] 57)) (build0_to rfl) ?_
          obtain ⟨n1, hn1⟩ : ∃ n1, n1 = W3.heap.size := ⟨_, rfl⟩
          obtain ⟨W4, hW4⟩ : ∃ W4, W4 = W3.alloc (.cells #[] 57) := ⟨_, rfl⟩
          have BB := Lib.hid (show Below W3.heap.size W3 W4 by rw [hW4]; exact (Below.refl W3.heap.size W3).alloc (Nat.le_refl _) _)
          rw [← hW4, ← hn1]
          clear hW4 hn1
          refine ⟨Og.keep_sf (fun h => ⟨Ev.kp_below BB.out _ _ h.1, (BB.out.block _ (Array.getElem?_eq_some_iff.1 h.2).1).trans h.2⟩), ?_⟩
          refine Og.s_one 3 { dst := some 20, op := Go.Op.call { callee := Go.Callee.builtin Go.Builtin.append, args := #[Go.Operand.tmp 17, Go.Operand.tmp 19], argTypes := #[68, 68] }, type := 68, pos := "ref.go:49", after := #[{ on := 0, ground := Go.Ground.data }, { on := 2, ground := Go.Ground.data }], guard := none } (by kernel_rfl) (by kernel_rfl) (by kernel_rfl) ?_
          obtain ⟨a1, c1, W5, hr1, ho1, hf1⟩ := append_any (w := W4) (F := fun _ => False) (a := some ⟨n1, 0, none⟩) (c := 0) (l := []) (.inl ⟨rfl, rfl⟩) (fun _ h => nomatch h) ((LQ.out.kp (Ev.kp_below BA.out)).kp (Ev.kp_below BB.out)) (by simp only [List.length_nil]; omega)
          simp only [List.nil_append, List.length_nil] at hr1 ho1
          have BC := Lib.hid (fr_below hf1)
          have OC := Lib.hid (show Own W5 (fun k => W4.heap.size ≤ k) a1 c1 l from ho1.mono (fun k hk => by
            rcases hk with hk | hk
            · exact hk.elim
            · omega))
          refine Og.run_to (v := .slice a1 l.length c1) (w' := W5) (Og.append_to (.tmp 17) (.tmp 19) 68 rfl rfl rfl hr1) ⟨Og.keep_sf (fun h => ⟨Ev.kp_below BC.out _ _ h.1, (BC.out.block _ (Array.getElem?_eq_some_iff.1 h.2).1).trans h.2⟩), ?_⟩
          clear hr1 ho1 hf1
          refine Og.s_one 6 { dst := some 23, op := Go.Op.call { callee := Go.Callee.builtin Go.Builtin.append, args := #[Go.Operand.tmp 20, Go.Operand.tmp 22], argTypes := #[68, 68] }, type := 68, pos := "ref.go:49", after := #[{ on := 3, ground := Go.Ground.data }, { on := 5, ground := Go.Ground.data }, { on := 3, ground := Go.Ground.chain }], guard := none } (by kernel_rfl) (by kernel_rfl) (by kernel_rfl) ?_
          have hbw := BQ.out.trans ((BA.out.mono hq.out).trans ((BB.out.mono (by have := BA.out.size; have := hq.out; omega)).trans (BC.out.mono (by have := BA.out.size; have := BB.out.size; have := hq.out; omega))))
          obtain ⟨a2, c2, W6, hr2, ho2, hf2⟩ := append_any (OC.out.mono (G := fun k => W1.heap.size ≤ k) (fun k hk => by have := BA.out.size; have := BB.out.size; have := hq.out; omega)) L1.out.ok ((ZA.out.kp (Ev.kp_below BB.out)).kp (Ev.kp_below BC.out)) (by simp only [List.length_singleton]; omega)
          have B5 := Lib.hid (hbw.trans (fr_belowN hf2 (by have := hbw.size; omega)))
          obtain ⟨t1, t2, t3, t4, t5⟩ := tail_store B5.out N1.out (ho2.mono (fun k hk => by
            rcases hk with hk | hk
            · exact hk
            · have := hbw.size; omega))
          have HR2 := Lib.hid hr2; have T1 := Lib.hid t1; have T2 := Lib.hid t2; have T3 := Lib.hid t3; have T4 := Lib.hid t4; have T5 := Lib.hid t5
          have M5 := Lib.hid ((B5.out.block _ (Array.getElem?_eq_some_iff.1 M1.out).1).trans M1.out)
          clear hr2 ho2 hf2 t1 t2 t3 t4 t5 hbw
          refine Og.run_to (v := .slice a2 (l ++ [e]).length c2) (w' := W6) (Og.append_to (.tmp 20) (.tmp 22) 68 rfl rfl rfl HR2.out) ⟨Og.keep_sf (fun h => ⟨T1.out, M5.out⟩), ?_⟩
          refine Og.s_take 7 { dst := some 24, op := Go.Op.fieldAddr 76 (Go.Operand.tmp 2) 1, type := 0, pos := "ref.go:49", after := #[{ on := 0, ground := Go.Ground.phase }, { on := 1, ground := Go.Ground.phase }, { on := 2, ground := Go.Ground.phase }, { on := 3, ground := Go.Ground.phase }, { on := 4, ground := Go.Ground.phase }, { on := 5, ground := Go.Ground.phase }, { on := 6, ground := Go.Ground.phase }], guard := none } (.pointer (some ⟨nb, 1, none⟩)) _ (by kernel_rfl) (by kernel_rfl) (by kernel_rfl) (by kernel_rfl) (by kernel_rfl) (fun _ _ _ h => nomatch h.1) (fun h => absurd h (by decide)) (fun x' hx => ?_) (by simp only [Act.put, List.setIfInBounds_toArray, List.set_cons_zero, List.set_cons_succ]; rfl) ?_
          · go_simp; try (with_reducible rfl)
          refine Og.s_one 8 { dst := none, op := Go.Op.store 68 (Go.Operand.tmp 24) (Go.Operand.tmp 23), type := 0, pos := "ref.go:49", after := #[{ on := 7, ground := Go.Ground.data }, { on := 6, ground := Go.Ground.data }, { on := 6, ground := Go.Ground.chain }, { on := 0, ground := Go.Ground.phase }, { on := 1, ground := Go.Ground.phase }, { on := 2, ground := Go.Ground.phase }, { on := 3, ground := Go.Ground.phase }, { on := 4, ground := Go.Ground.phase }, { on := 5, ground := Go.Ground.phase }, { on := 6, ground := Go.Ground.phase }], guard := none } (by kernel_rfl) (by kernel_rfl) (by kernel_rfl) ?_
          refine Og.skip_to (w' := W6.setCell ⟨nb, 1, none⟩ (.slice a2 (l ++ [e]).length c2)) (Og.store_to 68 (.tmp 24) (.tmp 23) rfl rfl rfl (by kernel_rfl) T1.out T2.out) ⟨Og.keep_last (o := { dst := none, op := Go.Op.store 68 (Go.Operand.tmp 24) (Go.Operand.tmp 23), type := 0, pos := "ref.go:49", after := #[{ on := 7, ground := Go.Ground.data }, { on := 6, ground := Go.Ground.data }, { on := 6, ground := Go.Ground.chain }, { on := 0, ground := Go.Ground.phase }, { on := 1, ground := Go.Ground.phase }, { on := 2, ground := Go.Ground.phase }, { on := 3, ground := Go.Ground.phase }, { on := 4, ground := Go.Ground.phase }, { on := 5, ground := Go.Ground.phase }, { on := 6, ground := Go.Ground.phase }], guard := none }) (by kernel_rfl) (by kernel_rfl), ?_⟩
          refine Og.s_done (by kernel_rfl) ?_ _
          refine ⟨rfl, (n1, a1, c1, n2, a2, c2), ?_, T3.out, T4.out, T5.out⟩
          simp only [Act.put, List.setIfInBounds_toArray, List.set_cons_zero, List.set_cons_succ]
      rintro i WX ⟨hx1, hx2, hx3⟩
      have NX := Lib.hid hx1; have OX := Lib.hid hx2; have FX := Lib.hid hx3
      have hrz := (Array.getElem?_eq_some_iff.1 Z1.out).1
      have ZX := Lib.hid ((hx3.block rb hrz (by have := HRB.out; have := HNB.out; omega)).trans Z1.out)
      have BX := Lib.hid (show Below w.heap.size w WX from Fr.below (B0.out.trans (B1.out.mono B0.out.size)) hx3 (fun k hk => by have := HNB.out; omega) (Nat.le_refl _))
      clear hx1 hx2 hx3 hrz
      simp only [Act.put, List.setIfInBounds_toArray, List.set_cons_zero, List.set_cons_succ]
      go_wp2_with (first
        | ((with_reducible show wpList _ _ _ (Oper.mk (some 25) _ _ _ _ _ :: _) _ _); refine wpList_load_row rfl 76 (.tmp 2) rfl nb rfl 76 _ (0, 0) _ NX.out Try.underlying76 rfl (by kernel_rfl) ?_)
        | ((with_reducible show wpList _ _ _ (Oper.mk none (Op.store 76 _ _) _ _ _ _ :: _) _ _); refine wpList_store_own rfl 76 (.tmp 4) (.tmp 25) rfl rb #[.int .i64 (most : Int), .slice i.2.2.2.2.1 (l ++ [e]).length i.2.2.2.2.2] rfl rfl 76 _ ZX.out (by kernel_rfl) rfl (by kernel_rfl) ?_
           intro W2 HW2
           have S2 := Lib.hid HW2
           clear HW2))
      refine bodyPost_ret (res2 (fn := Try.f40) rfl _ _ rb 76 _ (0, 0) _ rfl S2.out.row Try.underlying76 rfl (by kernel_rfl)) rfl ?_
      rw [HE3.out, HL3.out]
      have hs1 := B0.out.size; have hs2 := B1.out.size
      exact ⟨i.2.2.2.2.1, i.2.2.2.2.2, rfl, BX.out.trans (S2.out.below.mono (by have := HRB.out; omega)), .inr ((OX.out.kept (fun k hk _ => S2.out.block k (by have := (Array.getElem?_eq_some_iff.1 Z1.out).1; omega))).mono (fun k hk => by omega))⟩
end Nt
end Go.Proofs.Ytnfpcklpmfemiaa
