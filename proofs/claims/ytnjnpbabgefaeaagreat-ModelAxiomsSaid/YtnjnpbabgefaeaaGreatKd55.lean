import Derived.Test.YtnjnpbabgefaeaaGreatKd54
set_option linter.unusedVariables false
set_option linter.unusedSimpArgs false

section
namespace Go.Proofs.YtnjnpbabgefaeaaGreat
open Go.RowKit
namespace Og
structure Halt (p : Prop) : Prop where
  out : p
end Og
namespace Md
open Ev
def fl (f : Nat → Bool) (k : Nat) : List Nat := (List.range k).filter f
theorem fl_len (f : Nat → Bool) (k : Nat) : (fl f k).length ≤ k := Nat.le_trans (List.length_filter_le _ _) (by simp)
theorem fl_succ (f : Nat → Bool) (k : Nat) : fl f (k + 1) = fl f k ++ if f k then [k] else [] := by
  unfold fl; rw [List.range_succ, List.filter_append]; cases h : f k <;> simp [h]
theorem fl_yes {f : Nat → Bool} {k : Nat} (h : f k = true) : fl f (k + 1) = fl f k ++ [k] := by rw [fl_succ, h]; rfl
theorem fl_no {f : Nat → Bool} {k : Nat} (h : f k = false) : fl f (k + 1) = fl f k := by rw [fl_succ, h]; simp
theorem IntRow.form {W : World} {base : Nat} {v : Value} {l : List Nat} (h : IntRow W base v l) : ∃ a c, v = .slice a l.length c := by
  rcases h.2 with ⟨e1, e2⟩ | ⟨g, cap, cur, e1, _⟩
  · exact ⟨none, 0, by rw [e1, e2]⟩
  · exact ⟨_, _, e1⟩
theorem fl_row {W : World} {base : Nat} {v : Value} {l : List Nat} {k : Nat} (h : W.ownsRow base 3 1 v (l.length + 1) (((cI l).map fun n => Value.int .i64 n) ++ [.int .i64 (k : Int)])) : IntRow W base v (l ++ [k]) := by
  unfold IntRow
  simpa [cI] using h
end Md
set_option maxRecDepth 100000 in
set_option maxHeartbeats 8000000 in
theorem rbyax_any (x : Ev.X) (hc : Ev.check x = 0) (w : World) (hin : Ev.XIn w x) :
    Calls Tryz.prog 16 #[Ev.exV x] w fun e w' => e = .returned (.bool (Md.atomB x && Md.byOrd x)) ∧ Below w.heap.size w w' := by
  have hn64 := (Ev.check_order hc).2.2
  have hl1 := hin.ev.le; have hl2 := hin.ev.max
  obtain ⟨xb, hxb⟩ : ∃ xb, xb = w.heap.size := ⟨_, rfl⟩
  obtain ⟨B, hB⟩ : ∃ B, B = w.alloc (.cells (Ev.xcells x).toArray 26) := ⟨_, rfl⟩
  have HB := Lib.hid hB; have HXB := Lib.hid hxb
  have B0 := Lib.hid (show Below w.heap.size w B by rw [hB]; exact (Below.refl w.heap.size w).alloc (Nat.le_refl _) _)
  have RX := Lib.hid (show B.heap[xb]? = some (.cells #[.slice x.ae x.ev.length x.ce, .slice x.fr.a x.fr.l.length x.fr.c, .slice x.ao x.od.length x.co] 26 (0, 0)) by rw [hB, hxb]; exact heap_alloc_new _ _)
  have HX := Lib.hid (show Ev.XIn B x from hin.kp (Ev.kp_below B0.out))
  have HC := Lib.hid hc
  obtain ⟨i0, hi, hz0, hz1, hz2⟩ := info_int
  have HI := Lib.hid hi; have HZ0 := Lib.hid hz0; have HZ1 := Lib.hid hz1; have HZ2 := Lib.hid hz2
  obtain ⟨f5, hf5⟩ : ∃ f : Nat → Bool, f = fun a : Nat => (Ev.nth x.ev a).k == 5 := ⟨_, rfl⟩
  obtain ⟨f4, hf4⟩ : ∃ f : Nat → Bool, f = fun a : Nat => !((Ev.nth x.ev a).k == 4) := ⟨_, rfl⟩
  have HF5 := Lib.hid hf5; have HF4 := Lib.hid hf4
  clear hin hB hxb hc hi hz0 hz1 hz2 hf5 hf4
  unfold Ev.exV
  go_enter Tryz.func16, Tryz.ntmps16
  go_wp2
  rw [← HB.out, ← HXB.out]
  go_loopw [3, 4, 5] (fun vb va i wr => ∃ k : Nat, k ≤ x.ev.length ∧ i = .int .i64 (k : Int) ∧ Md.IntRow wr B.heap.size vb (Md.fl f5 k) ∧ Md.IntRow wr B.heap.size va (Md.fl f4 k) ∧ Md.Apt vb va ∧ Below B.heap.size B wr) (fun _ _ i _ => x.ev.length - (intOf i).toNat)
  case atStart => exact ⟨0, Nat.zero_le _, rfl, World.ownsRow_nil _ _ _ _, World.ownsRow_nil _ _ _ _, .inl rfl, Below.refl _ _⟩
  case round =>
    obtain ⟨k, hk, rfl, hrb, hra, hapt, hbr⟩ := hrel
    have HRB := Lib.hid hrb; have HRA := Lib.hid hra; have HAP := Lib.hid hapt; have HBR := Lib.hid hbr
    clear hrb hra hapt hbr
    by_cases hlt : k < x.ev.length
    · have hki : (k : Int) < (x.ev.length : Int) := by omega
      obtain ⟨e1, he1⟩ : ∃ e, x.ev[k]? = some e := ⟨_, List.getElem?_eq_getElem hlt⟩
      obtain ⟨g, o, eg, hc1⟩ := HX.out.ev.at_ he1
      have hn1 := Ev.nth_some he1
      have R4 := Lib.hid ((HBR.out.block _ (Array.getElem?_eq_some_iff.1 RX.out).1).trans RX.out)
      have HEG := Lib.hid eg
      have cx : wr.cell? ⟨xb, 0, none⟩ = some (.slice (some ⟨g, o, none⟩) x.ev.length x.ce) := by rw [cell_of_row _ _ _ _ _ _ R4.out, ← eg]; rfl
      have ck := Ev.kp_below HBR.out _ _ (hc1 1 _ rfl)
      have HCK := Lib.hid (hc1 1 _ rfl)
      have V5 := Lib.hid (show f5 k = (e1.k == 5) by rw [HF5.out]; show ((Ev.nth x.ev k).k == 5) = _; rw [hn1])
      have V4 := Lib.hid (show f4 k = !(e1.k == 4) by rw [HF4.out]; show (!((Ev.nth x.ev k).k == 4)) = _; rw [hn1])
      clear he1 eg hn1 hc1
      by_cases h4 : e1.k = 4
      · have N4 := Lib.hid (Md.fl_no (show f4 k = false by rw [V4.out]; simp [h4]))
        have N5 := Lib.hid (Md.fl_no (show f5 k = false by rw [V5.out]; simp [h4]))
        go_wp2_with fail
        first
          | exact ⟨⟨k + 1, by omega, by go_num, by rw [N5.out]; exact HRB.out, by rw [N4.out]; exact HRA.out, HAP.out, HBR.out⟩, by simp [intOf]; omega⟩
          | (go_roundw
             case rel => exact ⟨k + 1, by omega, by go_num, by rw [N5.out]; exact HRB.out, by rw [N4.out]; exact HRA.out, HAP.out, HBR.out⟩
             case measure => simp [intOf]; omega)
      · have N4 := Lib.hid (Md.fl_yes (show f4 k = true by rw [V4.out]; simp [h4]))
        by_cases h5 : e1.k = 5
        · have N5 := Lib.hid (Md.fl_yes (show f5 k = true by rw [V5.out]; simp [h5]))
          go_wp2_with (first
            | ((with_reducible show wpList _ _ _ (Oper.mk (some 23) _ _ _ _ _ :: _) _ _); refine wpList_append_own_at _ rfl (.tmp 20) (.tmp 22) 23 rfl B.heap.size 3 i0 (.int .i64 0) 1 8 Tryz.underlying23 HI.out HZ0.out HZ1.out HZ2.out rfl (by decide) u4 _ _ rfl (HRA.out.alloc _) ⟨wr.heap.size, 0, none⟩ 1 1 [.int .i64 (k : Int)] rfl rfl (fun j u hu => World.news_of_block (heap_alloc_new wr _) j u hu) (Md.one_int k) (by have := Md.fl_len f4 k; unfold maxLen; omega) (by have := Md.fl_len f4 k; omega) (by have := HBR.out.size; simp only [World.size_alloc]; omega) ?_; intro u1 W1 hown1 hgrow1 _ hat1; have HO1 := Lib.hid (Md.fl_row hown1); have HG1 := Lib.hid hgrow1; have HA1 := Lib.hid hat1; have HB1 := Lib.hid (Below.grown (HBR.out.alloc HBR.out.size _) hgrow1 (by have := HBR.out.size; simp only [World.size_alloc]; omega) (fun k hk => Ev.own_ge HRA.out hk)); have cx1 : W1.cell? ⟨xb, 0, none⟩ = some (.slice (some ⟨g, o, none⟩) x.ev.length x.ce) := (by rw [cell_of_row _ _ _ _ _ _ ((HB1.out.block _ (Array.getElem?_eq_some_iff.1 RX.out).1).trans RX.out), ← HEG.out]; rfl); have ck1 := Ev.kp_below HB1.out _ _ HCK.out; clear hown1 hgrow1 hat1; have HRB1 := Lib.hid (show Md.IntRow W1 B.heap.size u3 (Md.fl f5 k) from World.ownsRow.kept (HRB.out.alloc _) HG1.out HAP.out); have HAP1 := Lib.hid (show Md.Apt u3 u1 from Md.apt_symm (Md.apt_app (Md.apt_symm HAP.out) HA1.out (HRB.out.alloc _))))
            | ((with_reducible show wpList _ _ _ (Oper.mk (some 34) _ _ _ _ _ :: _) _ _); refine wpList_append_own_at _ rfl (.tmp 31) (.tmp 33) 23 rfl B.heap.size 3 i0 (.int .i64 0) 1 8 Tryz.underlying23 HI.out HZ0.out HZ1.out HZ2.out rfl (by decide) u3 _ _ rfl (HRB1.out.alloc _) ⟨W1.heap.size, 0, none⟩ 1 1 [.int .i64 (k : Int)] rfl rfl (fun j u hu => World.news_of_block (heap_alloc_new W1 _) j u hu) (Md.one_int k) (by have := Md.fl_len f5 k; unfold maxLen; omega) (by have := Md.fl_len f5 k; omega) (by have := HB1.out.size; simp only [World.size_alloc]; omega) ?_; intro u2 W2 hown2 hgrow2 _ hat2; have HO2 := Lib.hid (Md.fl_row hown2); have HG2 := Lib.hid hgrow2; have HA2 := Lib.hid hat2; have HB2 := Lib.hid (Below.grown (HB1.out.alloc HB1.out.size _) hgrow2 (by have := HB1.out.size; simp only [World.size_alloc]; omega) (fun k hk => Ev.own_ge HRB1.out hk)); have cx2 : W2.cell? ⟨xb, 0, none⟩ = some (.slice (some ⟨g, o, none⟩) x.ev.length x.ce) := (by rw [cell_of_row _ _ _ _ _ _ ((HB2.out.block _ (Array.getElem?_eq_some_iff.1 RX.out).1).trans RX.out), ← HEG.out]; rfl); have ck2 := Ev.kp_below HB2.out _ _ HCK.out; clear hown2 hgrow2 hat2))
          have HO12 := Lib.hid (show Md.IntRow W2 B.heap.size u1 (Md.fl f4 k ++ [k]) from World.ownsRow.kept (HO1.out.alloc _) HG2.out (Md.apt_symm HAP1.out))
          have HAP2 := Lib.hid (show Md.Apt u2 u1 from Md.apt_app HAP1.out HA2.out (HO1.out.alloc _))
          first
            | exact ⟨⟨k + 1, by omega, by go_num, by rw [N5.out]; exact HO2.out, by rw [N4.out]; exact HO12.out, HAP2.out, HB2.out⟩, by simp [intOf]; omega⟩
            | (go_roundw
               case rel => exact ⟨k + 1, by omega, by go_num, by rw [N5.out]; exact HO2.out, by rw [N4.out]; exact HO12.out, HAP2.out, HB2.out⟩
               case measure => simp [intOf]; omega)
        · have N5 := Lib.hid (Md.fl_no (show f5 k = false by rw [V5.out]; simp [h5]))
          go_wp2_with ((with_reducible show wpList _ _ _ (Oper.mk (some 23) _ _ _ _ _ :: _) _ _); refine wpList_append_own_at _ rfl (.tmp 20) (.tmp 22) 23 rfl B.heap.size 3 i0 (.int .i64 0) 1 8 Tryz.underlying23 HI.out HZ0.out HZ1.out HZ2.out rfl (by decide) u4 _ _ rfl (HRA.out.alloc _) ⟨wr.heap.size, 0, none⟩ 1 1 [.int .i64 (k : Int)] rfl rfl (fun j u hu => World.news_of_block (heap_alloc_new wr _) j u hu) (Md.one_int k) (by have := Md.fl_len f4 k; unfold maxLen; omega) (by have := Md.fl_len f4 k; omega) (by have := HBR.out.size; simp only [World.size_alloc]; omega) ?_; intro u1 W1 hown1 hgrow1 _ hat1; have HO1 := Lib.hid (Md.fl_row hown1); have HG1 := Lib.hid hgrow1; have HA1 := Lib.hid hat1; have HB1 := Lib.hid (Below.grown (HBR.out.alloc HBR.out.size _) hgrow1 (by have := HBR.out.size; simp only [World.size_alloc]; omega) (fun k hk => Ev.own_ge HRA.out hk)); have cx1 : W1.cell? ⟨xb, 0, none⟩ = some (.slice (some ⟨g, o, none⟩) x.ev.length x.ce) := (by rw [cell_of_row _ _ _ _ _ _ ((HB1.out.block _ (Array.getElem?_eq_some_iff.1 RX.out).1).trans RX.out), ← HEG.out]; rfl); have ck1 := Ev.kp_below HB1.out _ _ HCK.out; clear hown1 hgrow1 hat1; have HRB1 := Lib.hid (show Md.IntRow W1 B.heap.size u3 (Md.fl f5 k) from World.ownsRow.kept (HRB.out.alloc _) HG1.out HAP.out); have HAP1 := Lib.hid (show Md.Apt u3 u1 from Md.apt_symm (Md.apt_app (Md.apt_symm HAP.out) HA1.out (HRB.out.alloc _))))
          first
            | exact ⟨⟨k + 1, by omega, by go_num, by rw [N5.out]; exact HRB1.out, by rw [N4.out]; exact HO1.out, HAP1.out, HB1.out⟩, by simp [intOf]; omega⟩
            | (go_roundw
               case rel => exact ⟨k + 1, by omega, by go_num, by rw [N5.out]; exact HRB1.out, by rw [N4.out]; exact HO1.out, HAP1.out, HB1.out⟩
               case measure => simp [intOf]; omega)
    · have hke : k = x.ev.length := by omega
      have hki : ¬ (k : Int) < (x.ev.length : Int) := by omega
      have hb5 := HRB.out; have ha4 := HRA.out
      have e5 : Md.fl f5 k = Md.begs x := by rw [hke, HF5.out]; rfl
      have e4 : Md.fl f4 k = Md.accs x := by rw [hke, HF4.out]; rfl
      rw [e5] at hb5; rw [e4] at ha4
      obtain ⟨a1, c1, ev1⟩ := Md.IntRow.form hb5
      obtain ⟨a2, c2, ev2⟩ := Md.IntRow.form ha4
      subst ev1; subst ev2
      have HR5 := Lib.hid hb5; have HR4 := Lib.hid ha4
      have R4 := Lib.hid ((HBR.out.block _ (Array.getElem?_eq_some_iff.1 RX.out).1).trans RX.out)
      have hfl := check_from HC.out
      have hbn : ∀ a ∈ Md.begs x, a < x.ev.length := fun a h => (Md.mem_begs.1 h).1
      have han : ∀ a ∈ Md.accs x, a < x.ev.length := fun a h => by unfold Md.accs at h; exact List.mem_range.1 (List.mem_filter.1 h).1
      have hln : (Md.accs x).length ≤ 64 := Nat.le_trans (List.length_filter_le _ _) (by simp; omega)
      have hle : (Md.begs x).length ≤ (Md.accs x).length := Md.len_le_of_sub (Md.nodup_begs x) (fun a h => Md.begs_accs h)
      have KS := Lib.hid (fun (W : World) (hw : Below wr.heap.size wr W) => rsome_any x (Md.accs x) hfl han (by omega) (by omega) ((Md.accs x).length - (Md.begs x).length) (Md.begs x) a1 a2 c1 c2 W (by omega) hbn (HX.out.kp (Ev.kp_below (HBR.out.trans (hw.mono HBR.out.size)))) ((Md.IntRow.ints HR5.out (fun q hq => by have := hbn q hq; omega)).kp (Ev.kp_below hw)) ((Md.IntRow.ints HR4.out (fun q hq => by have := han q hq; omega)).kp (Ev.kp_below hw)))
      obtain ⟨b, hb⟩ : ∃ b, Md.atomB x = b := ⟨_, rfl⟩
      obtain ⟨b2, hb2⟩ : ∃ b, Md.byOrd x = b := ⟨_, rfl⟩
      have HBB := Lib.hid hb; have HB2 := Lib.hid hb2
      have KT := Lib.hid (fun (W : World) (hw : Below wr.heap.size wr W) => ratomic_any x W (HX.out.kp (Ev.kp_below (HBR.out.trans (hw.mono HBR.out.size)))) HC.out)
      have hcx : wr.cell? ⟨xb, 0, none⟩ = some (.slice x.ae x.ev.length x.ce) := by rw [cell_of_row _ _ _ _ _ _ R4.out]; rfl
      clear hb5 ha4 e5 e4 hke hfl hbn han hln hle hb hb2 HRB HRA HAP
      go_wp2_with (first
        | ((with_reducible show wpList _ _ _ (Oper.mk (some 35) _ _ _ _ _ :: _) _ _); refine wpList_load_row rfl 26 (.tmp 1) rfl xb (by kernel_rfl) 26 #[.slice x.ae x.ev.length x.ce, .slice x.fr.a x.fr.l.length x.fr.c, .slice x.ao x.od.length x.co] (0, 0) _ R4.out Tryz.underlying26 rfl (by kernel_rfl) ?_)
        | (go_at_call 20; refine (KT.out _ (Below.refl _ _)).mono ?_; rintro e W1 ⟨rfl, hb1⟩; rw [HBB.out]; have B1 := Lib.hid hb1; clear hb1; refine Og.Halt.out ?_))
      refine ⟨?_⟩
      cases b
      · go_wp2_with fail
        go_ret
        exact ⟨by rw [HBB.out]; rfl, B0.out.trans ((HBR.out.trans (B1.out.mono HBR.out.size)).mono B0.out.size)⟩
      · have R5 := Lib.hid ((B1.out.block _ (Array.getElem?_eq_some_iff.1 R4.out).1).trans R4.out)
        go_wp2_with (first
          | ((with_reducible show wpList _ _ _ (Oper.mk (some 38) _ _ _ _ _ :: _) _ _); refine Ev.load_row_g 26 (.tmp 1) rfl rfl xb (by kernel_rfl) 26 #[.slice x.ae x.ev.length x.ce, .slice x.fr.a x.fr.l.length x.fr.c, .slice x.ao x.od.length x.co] (0, 0) _ R5.out Tryz.underlying26 rfl (by kernel_rfl) ?_)
          | (go_at_call 36; refine (KS.out _ B1.out).mono ?_; rintro e W2 ⟨rfl, hb2⟩; have B2 := Lib.hid (B1.out.trans (hb2.mono B1.out.size)); clear hb2))
        go_ret
        exact ⟨by rw [HBB.out]; rfl, B0.out.trans ((HBR.out.trans (B2.out.mono HBR.out.size)).mono B0.out.size)⟩
end Go.Proofs.YtnjnpbabgefaeaaGreat
end

section
namespace Go.Proofs.YtnjnpbabgefaeaaGreat.modelAxioms
open Go.ChangeShapes Go.WideShapes Go.ChangeAt Go.RowKit
set_option maxRecDepth 100000 in
set_option maxHeartbeats 8000000 in
theorem walk (w : World) (x0 : Ev.X) (b0 : Ev.XIn w x0) :
    Calls Tryz.prog 3 #[Ev.exV x0] w fun e w' => e = .returned (.bool true) ∧ Below w.heap.size w w' := by
  have HIN := Lib.hid b0
  obtain ⟨B, hB⟩ : ∃ B, B = w.alloc (.cells (Ev.xcells x0).toArray 26) := ⟨_, rfl⟩
  have HB := Lib.hid hB
  have R0 := Lib.hid (show B.heap[w.heap.size]? = some (.cells (Ev.xcells x0).toArray 26 (0, 0)) by rw [hB]; exact heap_alloc_new _ _)
  have B0 := Lib.hid (show Below w.heap.size w B by rw [hB]; exact (Below.refl w.heap.size w).alloc (Nat.le_refl _) _)
  clear hB b0
  unfold Ev.exV
  go_enter Tryz.func3, Tryz.ntmps3
  go_wp2_with (first
    | ((with_reducible show wpList _ _ _ (Oper.mk (some 5) _ _ _ _ _ :: _) _ _); rw [show w.alloc (Obj.cells (Ev.xcells x0).toArray 26) = B from HB.out.symm])
    | ((with_reducible show wpList _ _ _ (Oper.mk (some 5) _ _ _ _ _ :: _) _ _); refine wpList_load_row rfl 26 (.tmp 1) rfl w.heap.size (by kernel_rfl) 26 (Ev.xcells x0).toArray (0, 0) _ R0.out Tryz.underlying26 rfl (by kernel_rfl) ?_))
  refine (wide8_any x0 _ (HIN.out.kp (Ev.kp_below B0.out))).mono ?_
  rintro e W1 ⟨b, rfl, hw, hb⟩
  have BW := Lib.hid (B0.out.trans (hb.mono B0.out.size))
  have R1 := Lib.hid ((hb.block w.heap.size (Array.getElem?_eq_some_iff.1 R0.out).1).trans R0.out)
  have HW := Lib.hid hw
  clear hb hw
  cases b
  case true =>
    go_wp2_with fail
    refine (known8_any _).mono ?_
    rintro e W99 ⟨rfl, hb99⟩
    have HEND := Lib.hid (BW.out.trans (hb99.mono BW.out.size)); clear hb99
    go_wp2_with fail
    go_ret
    exact ⟨rfl, HEND.out⟩
  obtain ⟨v, hv⟩ : ∃ v, Ev.check x0 = v := ⟨_, rfl⟩
  have HV := Lib.hid hv
  clear hv
  go_wp2_with ((with_reducible show wpList _ _ _ (Oper.mk (some 8) _ _ _ _ _ :: _) _ _); refine Ev.load_row_g 26 (.tmp 1) rfl rfl w.heap.size (by kernel_rfl) 26 (Ev.xcells x0).toArray (0, 0) _ R1.out Tryz.underlying26 rfl (by kernel_rfl) ?_)
  refine (rcheck_is HV.out _ (HIN.out.kp (Ev.kp_below BW.out))).mono ?_
  rintro e W2 ⟨rfl, hb⟩
  have B2 := Lib.hid (BW.out.trans (hb.mono BW.out.size))
  have R2 := Lib.hid ((hb.block w.heap.size (Array.getElem?_eq_some_iff.1 R1.out).1).trans R1.out)
  clear hb
  by_cases hv0 : v = 0
  case neg =>
    have t0 : (v != 0) = true := by simpa using hv0
    go_wp2_with fail
    refine (known8_any _).mono ?_
    rintro e W99 ⟨rfl, hb99⟩
    have HEND := Lib.hid (B2.out.trans (hb99.mono B2.out.size)); clear hb99
    go_wp2_with fail
    go_ret
    exact ⟨rfl, HEND.out⟩
  subst hv0
  have HC := Lib.hid HV.out
  have HN := Lib.hid (show x0.ev.length ≤ 1000 by have := HW.out trivial; omega)
  go_wp2_with ((with_reducible show wpList _ _ _ (Oper.mk (some 13) _ _ _ _ _ :: _) _ _); refine Ev.load_row_g 26 (.tmp 1) rfl rfl w.heap.size (by kernel_rfl) 26 (Ev.xcells x0).toArray (0, 0) _ R2.out Tryz.underlying26 rfl (by kernel_rfl) ?_)
  refine (rmoving_any x0 _ HN.out (HIN.out.kp (Ev.kp_below B2.out))).mono ?_
  rintro e W3 ⟨m, hm, rfl, hb⟩
  have B3 := Lib.hid (B2.out.trans (hb.mono B2.out.size))
  have R3 := Lib.hid ((hb.block w.heap.size (Array.getElem?_eq_some_iff.1 R2.out).1).trans R2.out)
  clear hb hm
  by_cases hm5 : (5 : Int) < (m : Int)
  case pos =>
    go_wp2_with fail
    refine (known8_any _).mono ?_
    rintro e W99 ⟨rfl, hb99⟩
    have HEND := Lib.hid (B3.out.trans (hb99.mono B3.out.size)); clear hb99
    go_wp2_with fail
    go_ret
    exact ⟨rfl, HEND.out⟩
  go_wp2_with ((with_reducible show wpList _ _ _ (Oper.mk (some 19) _ _ _ _ _ :: _) _ _); refine wpList_load_row rfl 26 (.tmp 1) rfl w.heap.size (by kernel_rfl) 26 (Ev.xcells x0).toArray (0, 0) _ R3.out Tryz.underlying26 rfl (by kernel_rfl) ?_)
  refine (allowed_any x0 _ (HIN.out.kp (Ev.kp_below B3.out))).mono ?_
  rintro e W4 ⟨hb, (⟨hc, _⟩ | ⟨_, b1, rfl, k1⟩)⟩
  case inl => exact absurd HC.out hc
  have B4 := Lib.hid (B3.out.trans (hb.mono B3.out.size))
  have R4 := Lib.hid ((hb.block w.heap.size (Array.getElem?_eq_some_iff.1 R3.out).1).trans R3.out)
  have HAX := Lib.hid (show (Md.atomB x0 && Md.byOrd x0) = b1 from Md.same_bool ((Md.allow_ax HC.out).symm.trans (Md.all3_allow HC.out).symm) k1)
  clear hb k1
  go_wp2_with ((with_reducible show wpList _ _ _ (Oper.mk (some 27) _ _ _ _ _ :: _) _ _); refine Ev.load_row_g 26 (.tmp 1) rfl rfl w.heap.size (by kernel_rfl) 26 (Ev.xcells x0).toArray (0, 0) _ R4.out Tryz.underlying26 rfl (by kernel_rfl) ?_)
  refine (rbyax_any x0 HC.out _ (HIN.out.kp (Ev.kp_below B4.out))).mono ?_
  rw [HAX.out]
  rintro e W5 ⟨rfl, hb⟩
  have B5 := Lib.hid (B4.out.trans (hb.mono B4.out.size)); clear hb
  cases b1
  all_goals
    go_wp2_with fail
    refine (known8_any _).mono ?_
    rintro e W99 ⟨rfl, hb99⟩
    have HEND := Lib.hid (B5.out.trans (hb99.mono B5.out.size)); clear hb99
    go_wp2_with fail
    go_ret
    exact ⟨rfl, HEND.out⟩
set_option maxRecDepth 100000 in
theorem lifted (os : Os) (started : os.Started) (H : Type) (enc : TypeId × Value → H) :
    ReturnsInHanded {} Tryz.checked os 3 .any (Rows.modelAxiomsSpec.pre6 enc Tryz.prog Tryz.f3 Rows.modelAxiomsRow.domain false) (Rows.modelAxiomsSpec.post enc Tryz.prog Tryz.f3 false true false false) := by
  refine returnsInHanded_of_change (C := Tryz.checked) own started (by kernel_rfl) Tryz.func3
    (ChangeSpec.witness6 (enc := enc) (C := Tryz.checked) false ⟨#[], #[.agg #[.slice none 0 0, .slice none 0 0, .slice none 0 0]], []⟩ 8 (by kernel_rfl) (by kernel_rfl) (by kernel_rfl) (by kernel_rfl)) ?_
  intro W base args ds gs before hval0 hW hcnd _
  have hval : ∀ (j : Nat) t v, Tryz.f3.params[j]? = some t → args[j]? = some v → Value.okWide Tryz.prog W .any base t v := hval0
  have hW' := hW
  obtain ⟨p, q, hA0, hV, rfl, hfz, hnd⟩ := hW
  have hA : DataW.TrodAll enc Tryz.prog W 0 (fun _ => true) true Tryz.f3.params.toList args.toList ds p := hA0
  rw [Tryz.params3] at hA hval
  obtain ⟨v0, vs0, d0, ds0, p0, q0, hargs, rfl, rfl, h0, r0⟩ := trodAll_cons hA
  obtain ⟨rfl, rfl, rfl⟩ := trodAll_nil r0
  obtain rfl : args = #[v0] := by cases args; simp_all
  obtain ⟨rfl, rfl⟩ := trodVars_none hV
  clear hA0 hval0
  simp only [List.append_nil] at hW'
  have hlt : ∀ x ∈ p0, x.block < W.heap.size := fun x hx => by simpa using hW'.lt x (by simpa using hx)
  obtain ⟨x0, rfl, b0⟩ := open_exec (hval 0 26 v0 rfl rfl) h0
  refine (walk W x0 b0).mono fun e W' ⟨he, hb⟩ => ?_
  subst he
  have harg0 : DataW.Trod enc Tryz.prog W' 0 (fun b => decide (b < W.heap.size)) true 26 _ _ _ := Below.trod laidOut (by kernel_rfl) (of_decide_eq_true (by kernel_rfl)) h0 hb (fun x hx => hlt x (by simp [hx]))
  exact ⟨_, rfl, _, _, _, [], _, [], hW', trodAll_mk1 (shut_bool Tryz.underlying4 _), (trodAll_cons_mk harg0 trodAll_mk0), rfl, hb.frame _, fun h => by cases h⟩
theorem over : Rows.modelAxiomsRow.holds Tryz.pinned (OpenSpec.ofChange Rows.modelAxiomsSpec) :=
  OpenClaim.holds_of_wide 3 Tryz.f3 rfl rfl rfl rfl rfl rfl rfl ⟨rfl, rfl, rfl, rfl, rfl⟩ rfl rfl rfl rfl rfl (by kernel_rfl) Tryz.func3 (by kernel_rfl)
    (of_decide_eq_true (by kernel_rfl)) (by unfold Func.isWrapper; first | (rw [if_pos (by decide +kernel)]; kernel_rfl) | (rw [if_neg (by decide +kernel)]; exact ⟨rfl, rfl⟩))
    (fun os started H enc _ => lifted os started H enc)
theorem proved : Rows.ModelAxiomsSaid :=
  over
end Go.Proofs.YtnjnpbabgefaeaaGreat.modelAxioms
end
