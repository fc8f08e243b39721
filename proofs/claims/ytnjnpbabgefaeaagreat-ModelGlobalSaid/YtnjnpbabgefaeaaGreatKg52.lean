import Derived.Test.YtnjnpbabgefaeaaGreatKg51
import Derived.Test.YtnjnpbabgefaeaaGreatKg45
import Derived.Test.YtnjnpbabgefaeaaGreatKg02
import Derived.Shelf.SlicesG.Delete
import Derived.Lib.OwnBridge
import Derived.Test.YtnjnpbabgefaeaaGreatKg47
import Derived.Test.YtnjnpbabgefaeaaGreatKg49
set_option linter.unusedVariables false
set_option linter.unusedSimpArgs false

section
namespace Go.Proofs.YtnjnpbabgefaeaaGreat
open Go.RowKit
theorem Md.drop_at {l : List Nat} {k m : Nat} (h : l[k]? = some m) : l.drop k = m :: l.drop (k + 1) := by
  have hk := (List.getElem?_eq_some_iff.1 h).1
  rw [List.drop_eq_getElem_cons hk, (List.getElem?_eq_some_iff.1 h).2]
set_option maxRecDepth 100000 in
set_option maxHeartbeats 2000000 in
theorem ixfunc_any (a : Option Addr) (c : Nat) (l : List Nat) (G : FuncId) (caps : Array Value) (f : Nat → Bool) (w : World) (hin : Ev.IntsIn w ⟨a, c, Md.cI l⟩) (hlen : l.length ≤ 1000) (hE : Ev.Enters G)
    (hF : ∀ W, Below w.heap.size w W → ∀ m ∈ l, Calls Tryz.prog G (#[.int .i64 (m : Int)] ++ caps) W fun e w' => e = .returned (.bool (f m)) ∧ Below W.heap.size W w') :
    Calls Tryz.prog 93 #[.slice a l.length c, .func (.func G) #[] caps] w fun e w' => ∃ r : Int, e = .returned (.int .i64 r) ∧ decide (0 ≤ r) = l.any f ∧ Below w.heap.size w w' := by
  have HIN := Lib.hid hin; have HF := Lib.hid hF; have HE := Lib.hid hE; clear hin hF hE
  go_enter Tryz.func93, Tryz.ntmps93
  go_wp2
  go_loopw [5, 8] (fun _ i wr => ∃ k : Nat, k ≤ l.length ∧ i = .int .i64 (k : Int) ∧ l.any f = (l.drop k).any f ∧ Below w.heap.size w wr) (fun _ i _ => l.length - (intOf i).toNat)
  case atStart => exact ⟨0, Nat.zero_le _, rfl, rfl, Below.refl _ _⟩
  case round =>
    obtain ⟨k, hk, rfl, hgo, hbr⟩ := hrel
    have HGO := Lib.hid hgo; have HBR := Lib.hid hbr; clear hgo hbr
    by_cases hlt : k < l.length
    · obtain ⟨m, hm⟩ : ∃ m, l[k]? = some m := ⟨_, List.getElem?_eq_getElem hlt⟩
      have hci : (Md.cI l)[k]? = some (m : Int) := by unfold Md.cI; rw [List.getElem?_map, hm]; rfl
      obtain ⟨g, o, ea, hc⟩ := (HIN.out.kp (Ev.kp_below HBR.out)).at_ hci
      have HMM := Lib.hid (List.mem_of_getElem? hm)
      have HD := Lib.hid (Md.drop_at hm)
      have hki : (k : Int) < (l.length : Int) := by omega
      have hcf := HE.out
      unfold Ev.Enters at hcf
      have hea : a = some ⟨g, o, none⟩ := ea
      clear hm hci ea
      rw [hea]; clear hea
      go_wp2_with fail
      clear hcf
      obtain ⟨b, hb⟩ : ∃ b, f m = b := ⟨_, rfl⟩
      have HFP := HF.out wr HBR.out m HMM.out
      rw [hb] at HFP
      refine HFP.mono ?_
      clear HFP
      rintro e W2 ⟨rfl, hb2⟩
      have HB2 := Lib.hid (HBR.out.trans (hb2.mono HBR.out.size))
      have HB := Lib.hid hb
      clear hb hb2 hc
      cases b
      · have HN := Lib.hid (show l.any f = (l.drop (k + 1)).any f by rw [HGO.out, HD.out, List.any_cons, HB.out, Bool.false_or])
        go_wp2_with fail
        go_roundw
        case rel => exact ⟨k + 1, by omega, by go_num, HN.out, HB2.out⟩
        case measure => simp [intOf]; omega
      · have HY := Lib.hid (show l.any f = true by rw [HGO.out, HD.out, List.any_cons, HB.out, Bool.true_or])
        go_wp2_with fail
        go_ret
        exact ⟨(k : Int), rfl, by rw [HY.out]; simp, HB2.out⟩
    · have hki : ¬ (k : Int) < (l.length : Int) := by omega
      have HY := Lib.hid (show l.any f = false by rw [HGO.out, List.drop_eq_nil_of_le (by omega)]; rfl)
      go_wp2
      go_ret
      exact ⟨-1, rfl, by rw [HY.out]; rfl, HBR.out⟩
set_option maxRecDepth 100000 in
set_option maxHeartbeats 2000000 in
theorem cfunc_any (a : Option Addr) (c : Nat) (l : List Nat) (G : FuncId) (caps : Array Value) (f : Nat → Bool) (w : World) (hin : Ev.IntsIn w ⟨a, c, Md.cI l⟩) (hlen : l.length ≤ 1000) (hE : Ev.Enters G)
    (hF : ∀ W, Below w.heap.size w W → ∀ m ∈ l, Calls Tryz.prog G (#[.int .i64 (m : Int)] ++ caps) W fun e w' => e = .returned (.bool (f m)) ∧ Below W.heap.size W w') :
    Calls Tryz.prog 67 #[.slice a l.length c, .func (.func G) #[] caps] w fun e w' => e = .returned (.bool (l.any f)) ∧ Below w.heap.size w w' := by
  have HP := Lib.hid (ixfunc_any a c l G caps f w hin hlen hE hF); clear hin hF hE
  obtain ⟨v, hv⟩ : ∃ v, l.any f = v := ⟨_, rfl⟩
  rw [hv]
  have HV := Lib.hid hv
  clear hv
  go_enter Tryz.func67, Tryz.ntmps67
  go_wp2_with fail
  refine HP.out.mono ?_
  rintro e W ⟨r, rfl, hr, hb⟩
  have HB := Lib.hid hb
  rw [HV.out] at hr
  clear hb HP HV
  by_cases h0 : 0 ≤ r
  · have e0 : v = true := by rw [← hr]; simpa using h0
    subst e0
    clear hr
    go_wp2_with fail
    go_ret
    exact ⟨rfl, HB.out⟩
  · have e0 : v = false := by rw [← hr]; simpa using h0
    subst e0
    clear hr
    go_wp2_with fail
    go_ret
    refine ⟨?_, HB.out⟩
    show Ending.returned (Value.bool (decide (0 ≤ r))) = _
    rw [decide_eq_false (show ¬ 0 ≤ r by omega)]
end Go.Proofs.YtnjnpbabgefaeaaGreat
end

section
namespace Go.Proofs.YtnjnpbabgefaeaaGreat
open Go.RowKit
theorem Md.row_addr {W : World} {base n c : Nat} {a : Option Addr} {l : List Nat} (h : Md.IntRow W base (.slice a n c) l) (hl : 0 < l.length) : ∃ g, a = some ⟨g, 0, none⟩ ∧ base ≤ g ∧ g < W.heap.size := by
  rcases h.2 with ⟨_, e2⟩ | ⟨g, cap, cur, e1, hb, hg, _⟩
  · omega
  · have : a = some ⟨g, 0, none⟩ := by simpa using (by injection e1 : a = some ⟨g, 0, none⟩)
    exact ⟨g, this, hb, (Array.getElem?_eq_some_iff.1 hg).1⟩
theorem del_any (l : List Nat) (i g c base : Nat) (w : World) (h : Md.IntRow w base (.slice (some ⟨g, 0, none⟩) l.length c) l) (hi : i < l.length) :
    Calls Tryz.prog 70 #[.slice (some ⟨g, 0, none⟩) l.length c, .int .i64 (i : Int), .int .i64 ((i + 1 : Nat) : Int)] w fun e w' => e = .returned (.slice (some ⟨g, 0, none⟩) (l.take i ++ l.drop (i + 1)).length c) ∧
      Md.IntRow w' base (.slice (some ⟨g, 0, none⟩) (l.take i ++ l.drop (i + 1)).length c) (l.take i ++ l.drop (i + 1)) ∧ w.grownBy w' (some g) ∧ base ≤ g := by
  have hlen : (l.take i ++ l.drop (i + 1)).length = l.length - 1 := by rw [List.length_append, List.length_take, List.length_drop]; omega
  have h' : w.ownsRow base 3 1 (.slice (some ⟨g, 0, none⟩) l.length c) l.length ((Md.cI l).map (Value.int .i64)) := h
  obtain ⟨g', cap, hv, hb, _, hn, hm, hl, hH⟩ := Go.Lib.holds_of_ownsRow h' (by simp)
  obtain ⟨rfl, rfl⟩ : g = g' ∧ c = cap := by
    injection hv with e1 _ e3
    injection e1 with e1
    injection e1 with e1
    exact ⟨e1, e3⟩
  have hcl : (Md.cI l).length = l.length := by simp [Md.cI]
  have D := AnyG.slices_Delete_int Tryz.delInts g 0 c i (i + 1) (Md.cI l) w hH (by omega) (by unfold maxLen at hm; omega) (by omega) (by omega)
  rw [hcl] at D
  refine D.mono ?_
  rintro e w' ⟨he, q, hw⟩
  have e1 : i + 1 - i = 1 := by omega
  rw [e1] at he hw
  rw [hlen]
  obtain ⟨ys, hys⟩ : ∃ ys, ys = (Md.cI l).take i ++ (Md.cI l).drop (i + 1) ++ List.replicate 1 (0 : Int) := ⟨_, rfl⟩
  rw [← hys] at hw
  have hyl : ys.length = l.length := by rw [hys]; simp [hcl]; omega
  have htk : ys.take (l.length - 1) = Md.cI (l.take i ++ l.drop (i + 1)) := by
    have : (Md.cI (l.take i ++ l.drop (i + 1))) = (Md.cI l).take i ++ (Md.cI l).drop (i + 1) := by unfold Md.cI; rw [List.map_append, List.map_take, List.map_drop]
    rw [hys, ← this, List.take_append_of_le_length (by rw [this]; simp [hcl]; omega)]
    exact List.take_of_length_le (by rw [this]; simp [hcl]; omega)
  refine ⟨he, ?_, ?_, hb⟩
  · have U := Go.Lib.ownsRow_putRow (q := q) (k := l.length - 1) h' hyl (by omega)
    rw [htk, ← hw] at U
    unfold Md.IntRow
    rw [hlen]
    exact U
  · rw [hw]
    refine ⟨rfl, rfl, rfl, by simp, fun k hk hne => ?_⟩
    have : g ≠ k := fun e => hne (by rw [e])
    simp [Go.Sort.putRow, Go.Sort.mapBlock, Go.Sort.ahead, Array.getElem?_modify, this]
end Go.Proofs.YtnjnpbabgefaeaaGreat
end

section
namespace Go.Proofs.YtnjnpbabgefaeaaGreat
open Go.RowKit
theorem Md.placed_fl (x : Ev.X) : Md.placedL x = Md.fl (fun n : Nat => (Ev.nth x.ev (n : Int)).k != 4) x.ev.length := rfl
set_option maxRecDepth 100000 in
set_option maxHeartbeats 4000000 in
theorem placed_any (x : Ev.X) (q : Nat) (w : World) (hj : Md.JIn w q x) (hn : x.ev.length ≤ 64) :
    Calls Tryz.prog 66 #[.pointer (some ⟨q, 0, none⟩)] w fun e w' => ∃ a c, e = .returned (.slice a (Md.placedL x).length c) ∧ Md.IntRow w' w.heap.size (.slice a (Md.placedL x).length c) (Md.placedL x) ∧ Below w.heap.size w w' := by
  have c0 := hj.c0
  have HX := Lib.hid hj.xin
  have hl1 := hj.xin.ev.le; have hl2 := hj.xin.ev.max
  obtain ⟨i0, hi, hz0, hz1, hz2⟩ := info_int
  have HI := Lib.hid hi; have HZ0 := Lib.hid hz0; have HZ1 := Lib.hid hz1; have HZ2 := Lib.hid hz2
  obtain ⟨f, hf⟩ : ∃ f : Nat → Bool, f = fun n : Nat => (Ev.nth x.ev (n : Int)).k != 4 := ⟨_, rfl⟩
  have HF := Lib.hid hf
  have HPL := Lib.hid (show Md.placedL x = Md.fl f x.ev.length by rw [hf]; exact Md.placed_fl x)
  rw [HPL.out]
  clear hj hi hz0 hz1 hz2 hf
  go_enter Tryz.func66, Tryz.ntmps66
  go_wp2
  go_loopw [3, 4, 12] (fun v _ i wr => ∃ k : Nat, k ≤ x.ev.length ∧ i = .int .i64 (k : Int) ∧ Md.IntRow wr w.heap.size v (Md.fl f k) ∧ Below w.heap.size w wr) (fun _ _ i _ => x.ev.length - (intOf i).toNat)
  case atStart => exact ⟨0, Nat.zero_le _, rfl, World.ownsRow_nil _ _ _ _, Below.refl _ _⟩
  case round =>
    obtain ⟨k, hk, rfl, hrow, hbr⟩ := hrel
    have HROW := Lib.hid hrow; have HBR := Lib.hid hbr
    clear hrow hbr c0
    by_cases hlt : k < x.ev.length
    · obtain ⟨e, he⟩ : ∃ e, x.ev[k]? = some e := ⟨_, List.getElem?_eq_getElem hlt⟩
      obtain ⟨g, o, ea, hce⟩ := (HX.out.kp (Ev.kp_below HBR.out)).ev.at_ he
      have HC := Lib.hid hce
      have hki : (k : Int) < (x.ev.length : Int) := by omega
      have HFK := Lib.hid (show f k = (e.k != 4) by rw [HF.out]; show ((Ev.nth x.ev k).k != 4) = _; rw [Ev.nth_some he])
      clear he hce
      rw [ea]; clear ea
      go_wp2_with (first
        | ((with_reducible show wpList _ _ _ (Oper.mk (some 16) _ _ _ _ _ :: _) _ _); refine wpList_load_at rfl 48 (.tmp 15) rfl g (o + k * 13) (by kernel_rfl) (Ev.cells e) _ HC.out Tryz.underlying48 rfl (by kernel_rfl) ?_)
        | ((with_reducible show wpList _ _ _ (Oper.mk none (Op.store 48 _ _) _ _ _ _ :: _) _ _); refine wpList_store_own rfl 48 (.tmp 5) (.tmp 16) rfl wr.heap.size (Ev.cells e).toArray rfl rfl 48 (Ev.cells Ev.R0).toArray (heap_alloc_new _ _) (by kernel_rfl) (by kernel_rfl) (by kernel_rfl) ?_
           intro W1 HW1
           have B1 := Lib.hid (((Below.refl wr.heap.size wr).alloc (Nat.le_refl _) _).trans HW1.below)
           have RW1 := Lib.hid HW1.row
           clear HW1)
        | ((with_reducible show wpList _ _ _ (Oper.mk (some 17) _ _ _ _ _ :: _) _ _); refine wpList_load_row rfl 48 (.tmp 5) rfl wr.heap.size (by kernel_rfl) 48 (Ev.cells e).toArray (0, 0) _ RW1.out Tryz.underlying48 rfl (by kernel_rfl) ?_))
      have HB2 := Lib.hid (HBR.out.trans (B1.out.mono HBR.out.size))
      have HR2 := Lib.hid (show Md.IntRow W1 w.heap.size u3 (Md.fl f k) from Ev.row_below HROW.out B1.out)
      refine (isFence_any e W1).mono ?_
      rintro r W2 ⟨rfl, hb2⟩
      have HB3 := Lib.hid (HB2.out.trans (hb2.mono HB2.out.size))
      have HR3 := Lib.hid (show Md.IntRow W2 w.heap.size u3 (Md.fl f k) from Ev.row_below HR2.out hb2)
      clear hb2
      by_cases h4 : e.k = 4
      · have t4 : (e.k == 4) = true := by simpa using h4
        have HTF := Lib.hid (Md.fl_no (show f k = false by rw [HFK.out]; simp [h4]))
        go_wp2_with fail
        go_roundw
        case rel => exact ⟨k + 1, by omega, by go_num, by rw [HTF.out]; exact HR3.out, HB3.out⟩
        case measure => simp [intOf]; omega
      · have t4 : (e.k == 4) = false := by simpa using h4
        have HTF := Lib.hid (Md.fl_yes (show f k = true by rw [HFK.out]; simp [h4]))
        go_wp2_with ((with_reducible show wpList _ _ _ (Oper.mk (some 23) _ _ _ _ _ :: _) _ _); refine wpList_append_own _ rfl (.tmp 20) (.tmp 22) 23 rfl w.heap.size 3 i0 (.int .i64 0) 1 8 Tryz.underlying23 HI.out HZ0.out HZ1.out HZ2.out rfl (by decide) _ _ _ rfl (HR3.out.alloc _) ⟨W2.heap.size, 0, none⟩ 1 1 [.int .i64 (k : Int)] rfl rfl (fun j u hu => World.news_of_block (heap_alloc_new W2 _) j u hu) (Md.one_int k) (by have := Md.fl_len f k; unfold maxLen; omega) (by have := Md.fl_len f k; omega) (by have := HB3.out.size; simp only [World.size_alloc]; omega) ?_
                     intro v' w3 hown hgrow _
                     have HOWN := Lib.hid (Md.fl_row hown); have HGR := Lib.hid hgrow; clear hown hgrow)
        have HB5 := Lib.hid (Below.grown (HB3.out.alloc HB3.out.size _) HGR.out (by have := HB3.out.size; simp only [World.size_alloc]; omega) (fun k hk => Ev.own_ge HR3.out hk))
        go_roundw
        case rel => exact ⟨k + 1, by omega, by go_num, by rw [HTF.out]; exact HOWN.out, HB5.out⟩
        case measure => simp [intOf]; omega
    · have hki : ¬ (k : Int) < (x.ev.length : Int) := by omega
      have hrow := HROW.out
      rw [show k = x.ev.length by omega] at hrow
      obtain ⟨A, c', hv⟩ := Md.IntRow.form hrow
      subst hv
      have HR := Lib.hid hrow
      clear hrow hlt
      go_wp2
      go_ret
      exact ⟨A, c', rfl, HR.out, HBR.out⟩
end Go.Proofs.YtnjnpbabgefaeaaGreat
end

section
namespace Go.Proofs.YtnjnpbabgefaeaaGreat
open Go.RowKit
set_option maxRecDepth 100000 in
set_option maxHeartbeats 2000000 in
theorem gleads_any (b n : Nat) (S : List (Nat × Nat)) (cl cn m o : Nat) (ho : o < 64) (hm : m < 64) (w : World) (hS : Md.PSet w b n S)
    (hl : w.cell? ⟨cl, 0, none⟩ = some (.map (some b))) (hn : w.cell? ⟨cn, 0, none⟩ = some (.int .i64 (m : Int))) :
    Calls Tryz.prog 68 #[.int .i64 (o : Int), .pointer (some ⟨cl, 0, none⟩), .pointer (some ⟨cn, 0, none⟩)] w fun e w' => e = .returned (.bool (decide ((o, m) ∈ S))) ∧ Below w.heap.size w w' := by
  have HP := Lib.hid (lead_any b n S o m ho hm w hS)
  clear hS
  go_enter Tryz.func68, Tryz.ntmps68
  go_wp2_with fail
  refine HP.out.mono ?_
  rintro e W ⟨rfl, hb⟩
  have HB := Lib.hid hb
  clear hb HP hl hn
  go_wp2_with fail
  go_ret
  exact ⟨rfl, HB.out⟩
end Go.Proofs.YtnjnpbabgefaeaaGreat
end
