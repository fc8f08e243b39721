/-
  ImageMakes: for every input the statement's function returns true, with no condition; each argument reads behind the call as before. By contracts of the program's and the document's functions.
-/
import Derived.Test.YtchjcfmmnfimlaaImCap
namespace Go.Proofs.Ytchjcfmmnfimlaa.imageMakes
open Go.ChangeShapes Go.WideShapes Go.ChangeAt Go.RowKit
set_option linter.unusedVariables false

/-! THE WALK: the Go text returns true; of memory nothing that stood there has turned. -/
set_option maxRecDepth 100000 in
set_option maxHeartbeats 8000000 in
theorem walk (w : World) (a0 : Option Addr) (n0 c0 : Nat) (x0 : List Int) (l0 : x0.length = n0) (m0 : n0 ≤ 9223372036854775807) (b0 : BIn w a0 x0) (z0 : a0 = none → c0 = 0) (a1 : Int) (w1 : (Lit.int .i64 a1).wf = true) :
    Calls Try.prog 3 #[.slice a0 n0 c0, .int .i64 a1] w fun e w' => e = .returned (.bool true) ∧ Below w.heap.size w w' := by
  have B0 := Lib.hid b0; clear b0
  have hs := wf_i64 w1
  by_cases hbig : 10000 < n0
  · go_enter Try.func3, Try.ntmps3
    go_wp2_with (go_at_call 11; refine (works_any _).mono ?_; rintro e wz ⟨rfl, hbz⟩)
    go_ret
    exact ⟨rfl, hbz⟩
  · obtain ⟨i0, hi0, hz0, hz1, hz2⟩ := info_parts info5
    have I0 := Lib.hid hi0; have Z0 := Lib.hid hz0; have Z1 := Lib.hid hz1; have Z2 := Lib.hid hz2; clear hi0 hz0 hz1 hz2
    have hown := World.ownsRow_made (base := w.heap.size) (e := 5) (size := 1) w #[] 0 (Nat.le_refl _) (by unfold maxLen; omega) rfl
    have HO := Lib.hid hown; clear hown
    cases a0 with
    | none =>
      obtain rfl : c0 = 0 := z0 rfl
      have hx0 : x0 = [] := by
        by_cases h : 0 < x0.length
        · obtain ⟨_, _, h1, _⟩ := B0.out.1 h; cases h1
        · exact List.eq_nil_of_length_eq_zero (by omega)
      have hn0 : n0 = 0 := by rw [← l0, hx0]; rfl
      have HE := Lib.hid (show Im.okB (n0 : Int) = false by rw [hn0]; decide)
      have HN := Lib.hid hn0; have HXN := Lib.hid hx0; clear hn0 hx0
      by_cases hF : Im.okB a1 = true
      · obtain ⟨n1, rfl⟩ := Int.eq_ofNat_of_zero_le (show 0 ≤ a1 by have := Im.okB_bd hF; omega)
        have hbn := Im.okB_bd hF
        have HF := Lib.hid hF; clear hF
        have HB1 := Lib.hid ((Below.refl w.heap.size w).alloc (Nat.le_refl _) (.cells #[] 5))
        have HOx := Lib.hid (show (w.alloc (.cells #[] 5)).ownsRow w.heap.size 5 1 (.slice (some ⟨w.heap.size, 0, none⟩) 0 0) n0 (Im.vals x0) by rw [HN.out, HXN.out]; exact HO.out)
        go_enter Try.func3, Try.ntmps3
        go_wp2_with (first
          | (at_builtin; refine wpList_append_own_none rfl (.tmp 15) (.tmp 16) 22 rfl w.heap.size 5 i0 1 Try.underlying22 I0.out _ 0 [] rfl HO.out (by show Value.slice none n0 0 = _; rw [HN.out]) ?_)
          | (at_builtin; refine wpList_append_own _ rfl (.tmp 17) (.tmp 18) 22 rfl w.heap.size 5 i0 (.int .u8 0) 1 1 Try.underlying22 I0.out Z0.out Z1.out Z2.out rfl (by decide) (.slice (some ⟨w.heap.size, 0, none⟩) 0 0) n0 (Im.vals x0) rfl (HOx.out.alloc _) ⟨w.heap.size + 1, 0, none⟩ 1 1 [.int .u8 77] rfl rfl (by rw [show w.heap.size + 1 = (w.alloc (.cells #[] 5)).heap.size from (Array.size_push ..).symm]; exact cell_one_new _ _ _) (ints_oneCell .u8 [77]) (by unfold maxLen; omega) (by omega) (by have := HB1.out.size; simp; omega) ?_; intro v2 wy hown2 hg2 _; rw [vals_snoc] at hown2; obtain ⟨gm, cap, rfl, hgm⟩ := own_at hown2 (by omega); have HCAP := own_cap hown2; have HO2 := Lib.hid hown2; have HGM := Lib.hid hgm; have HB := Lib.hid ((HB1.out.alloc HB1.out.size _).grown hg2 (by have := HB1.out.size; simp; omega) (fun k hk => (HOx.out.lt k hk).1)); clear hown2 hg2 hgm))
        have HSL := Lib.hid (sl_front HO2.out)
        have HGL := Lib.hid (own_lt HO2.out)
        refine (of_no n0 cap _ HE.out (by omega) _).mono ?_
        rintro e wa ⟨rfl, hb⟩
        have HBA := Lib.hid hb; clear hb
        have HO2A := Lib.hid (own_old HO2.out HBA.out)
        have HT := Lib.hid (below_tr HB.out HBA.out)
        have HGLA := Lib.hid (own_lt HO2A.out)
        go_wp2_with fail
        refine (new_yes n1 HF.out _).mono ?_
        rintro e wb ⟨q, k, rfl, hi, hp, hh, hb⟩
        have HY := Lib.hid hi; have HQK := Lib.hid (show gm < q ∧ gm < k from ⟨Nat.lt_of_lt_of_le HGLA.out hp, Nat.lt_of_lt_of_le HGLA.out hh⟩); have HBB := Lib.hid hb; clear hi hp hh hb
        have HO3 := Lib.hid (own_old HO2A.out HBB.out)
        have HT := Lib.hid (below_tr HT.out HBB.out)
        have cm := conv_sl wb _ n0 cap x0 (sl_front HO3.out) l0
        have cb := conv_sl wb none n0 0 x0 (B0.out.1.old HT.out) l0
        have k77 := own_cell HO3.out (j := n0) (by omega)
        rw [show (x0 ++ [(77 : Int)]).getD n0 0 = 77 by rw [← l0]; simp [List.getD_eq_getElem?_getD]] at k77
        have hcap := HCAP
        go_wp2_with (first
          | (go_at_call 14; refine (num_any _ _).mono ?_; rintro e w' ⟨rfl, rfl⟩)
          | (go_at_call 15; refine (rsize_any _ (by omega) _).mono ?_; (first | rw [HE.out] | rw [HF.out]); rintro e w' ⟨rfl, rfl⟩))
        clear cm cb k77
        go_loopw [10] (fun i wr => ∃ (j : Nat) (zs : List Int), i = .int .i64 j ∧ j ≤ n0 ∧ Im.Byt zs ∧ wr.ownsRow w.heap.size 5 1 (.slice (some ⟨gm, 0, none⟩) (n0 + 1) cap) (n0 + 1) (Im.vals zs) ∧ wb.grownBy wr (some gm)) (fun i wr => n0 - (intOf i).toNat)
        case atStart => exact ⟨0, _, rfl, Nat.zero_le _, Im.byt_append B0.out.2 (by intro x hx; simp at hx; omega), HO3.out, World.grownBy.refl _ _⟩
        case round =>
          obtain ⟨j, zs, rfl, hj, hzb, hown, hgr⟩ := hrel
          have HZB := Lib.hid hzb; have HOW := Lib.hid hown; have HGR := Lib.hid hgr; clear hzb hown hgr
          by_cases hlt : j < n0
          · have hc := own_cell HOW.out (j := j) (by omega)
            have hf := own_frozen HOW.out j
            have hz := Im.getD_byt HZB.out j
            obtain ⟨z, ez⟩ : ∃ z, z = zs.getD j 0 := ⟨_, rfl⟩
            rw [← ez] at hc hz
            clear ez
            go_wp2
            go_roundw
            case rel => exact ⟨j + 1, zs.set j ((z + 1) % 256), by go_num, by omega, Im.byt_set HZB.out j (by omega), own_set HOW.out j _ (by omega), grownBy_set HGR.out j _⟩
            case measure => simp [intOf]; omega
          · have HT := Lib.hid (HT.out.grown HGR.out HT.out.size (fun k hk => by cases hk; exact HGM.out))
            have HY := Lib.hid (HY.out.kept HGR.out (by have := HQK.out; simp; omega) (by have := HQK.out; simp; omega))
            go_wp2_with fail
            refine Og.region3 (by kernel_rfl) (fun t => if 107 ≤ t ∧ t ≤ 124 then some (t - 107) else none) [.is (.int .i64 2), .is (.int .i64 2), .is (.bool false), .is (.bool false), .is (undef), .is (undef), .is (undef), .is (undef), .is (undef), .is (undef), .is (undef), .is (undef), .is (undef), .is (undef), .is (undef), .is (undef), .is (undef), .is (.bool false)] [true, true, true, true, false, false, false, false, false, false, false, false, false, false, false, false, false, true] (by kernel_rfl) ?_ ?_
            · refine ⟨?_, ?_, ?_, ?_, ?_, ?_, ?_, ?_, ?_, ?_, ?_, ?_, ?_, ?_, ?_, ?_, ?_, ?_, trivial⟩
              · refine ⟨rfl, fun ρ w1 hr hd => ?_⟩
                obtain ⟨d0, _⟩ := hd
                have d0 : ρ (.tmp 7) = .int .i64 2 := d0
                refine (if_pos (by rfl)).mpr ?_
                refine Og.gives_is (.int .i64 2) ?_ (And.intro (Below.refl _ _) rfl)
                go_simp
              · refine ⟨rfl, fun ρ w1 hr hd => ?_⟩
                obtain ⟨d0, d1, _⟩ := hd
                have d0 : ρ (.func 14) = .func (.func 14) #[] #[] := d0
                have d1 : ρ (.tmp 107) = .int .i64 2 := d1
                refine (if_pos (by rfl)).mpr ?_
                refine Og.gives_call 14 #[.int .i64 2] ?_ ?_
                · go_simp
                · exact (num_any _ w1).mono fun e w' ⟨he, hw⟩ => ⟨_, he, by subst hw; exact Below.refl _ _, rfl⟩
              · refine ⟨rfl, fun ρ w1 hr hd => ?_⟩
                obtain ⟨d0, d1, _⟩ := hd
                have d0 : ρ (.tmp 108) = .int .i64 2 := d0
                have d1 : ρ (.const (.int .i64 0)) = .int .i64 0 := d1
                refine (if_pos (by rfl)).mpr ?_
                refine Og.gives_is (.bool false) ?_ (And.intro (Below.refl _ _) rfl)
                go_simp
              · refine ⟨rfl, fun ρ w1 hr hd => ?_⟩
                obtain ⟨d0, _⟩ := hd
                have d0 : ρ (.tmp 109) = .bool false := d0
                refine (if_pos (by rfl)).mpr ?_
                refine Og.gives_is (.bool false) ?_ (And.intro (Below.refl _ _) rfl)
                go_simp
              · refine ⟨fun v w hv => by (have hv' : v = .bool false := hv); subst hv'; exact (if_neg (by exact Bool.false_ne_true)).mpr (fun h => by cases h), fun ρ w1 hr hd => ?_⟩
                exact (if_neg (by exact Bool.false_ne_true)).mpr (rfl : undef = undef)
              · refine ⟨fun v w hv => by (have hv' : v = .bool false := hv); subst hv'; exact (if_neg (by exact Bool.false_ne_true)).mpr (fun h => by cases h), fun ρ w1 hr hd => ?_⟩
                exact (if_neg (by exact Bool.false_ne_true)).mpr (rfl : undef = undef)
              · refine ⟨fun v w hv => by (have hv' : v = .bool false := hv); subst hv'; exact (if_neg (by exact Bool.false_ne_true)).mpr (fun h => by cases h), fun ρ w1 hr hd => ?_⟩
                exact (if_neg (by exact Bool.false_ne_true)).mpr (rfl : undef = undef)
              · refine ⟨fun v w hv => by (have hv' : v = .bool false := hv); subst hv'; exact (if_neg (by exact Bool.false_ne_true)).mpr (fun h => by cases h), fun ρ w1 hr hd => ?_⟩
                exact (if_neg (by exact Bool.false_ne_true)).mpr (rfl : undef = undef)
              · refine ⟨fun v w hv => by (have hv' : v = .bool false := hv); subst hv'; exact (if_neg (by exact Bool.false_ne_true)).mpr (fun h => by cases h), fun ρ w1 hr hd => ?_⟩
                exact (if_neg (by exact Bool.false_ne_true)).mpr (rfl : undef = undef)
              · refine ⟨fun v w hv => by (have hv' : v = .bool false := hv); subst hv'; exact (if_neg (by exact Bool.false_ne_true)).mpr (fun h => by cases h), fun ρ w1 hr hd => ?_⟩
                exact (if_neg (by exact Bool.false_ne_true)).mpr (rfl : undef = undef)
              · refine ⟨fun v w hv => by (have hv' : v = .bool false := hv); subst hv'; exact (if_neg (by exact Bool.false_ne_true)).mpr (fun h => by cases h), fun ρ w1 hr hd => ?_⟩
                exact (if_neg (by exact Bool.false_ne_true)).mpr (rfl : undef = undef)
              · refine ⟨fun v w hv => by (have hv' : v = undef := hv); subst hv'; exact (if_neg (by exact Bool.false_ne_true)).mpr (fun h => by simp [undef] at h), fun ρ w1 hr hd => ?_⟩
                exact (if_neg (by exact Bool.false_ne_true)).mpr (rfl : undef = undef)
              · refine ⟨fun v w hv => by (have hv' : v = undef := hv); subst hv'; exact (if_neg (by exact Bool.false_ne_true)).mpr (fun h => by simp [undef] at h), fun ρ w1 hr hd => ?_⟩
                exact (if_neg (by exact Bool.false_ne_true)).mpr (rfl : undef = undef)
              · refine ⟨fun v w hv => by (have hv' : v = undef := hv); subst hv'; exact (if_neg (by exact Bool.false_ne_true)).mpr (fun h => by simp [undef] at h), fun ρ w1 hr hd => ?_⟩
                exact (if_neg (by exact Bool.false_ne_true)).mpr (rfl : undef = undef)
              · refine ⟨fun v w hv => by (have hv' : v = undef := hv); subst hv'; exact (if_neg (by exact Bool.false_ne_true)).mpr (fun h => by simp [undef] at h), fun ρ w1 hr hd => ?_⟩
                exact (if_neg (by exact Bool.false_ne_true)).mpr (rfl : undef = undef)
              · refine ⟨fun v w hv => by (have hv' : v = undef := hv); subst hv'; exact (if_neg (by exact Bool.false_ne_true)).mpr (fun h => by simp [undef] at h), fun ρ w1 hr hd => ?_⟩
                exact (if_neg (by exact Bool.false_ne_true)).mpr (rfl : undef = undef)
              · refine ⟨fun v w hv => by (have hv' : v = .bool false := hv); subst hv'; exact (if_neg (by exact Bool.false_ne_true)).mpr (fun h => by cases h), fun ρ w1 hr hd => ?_⟩
                exact (if_neg (by exact Bool.false_ne_true)).mpr (rfl : undef = undef)
              · refine ⟨rfl, fun ρ w1 hr hd => ?_⟩
                obtain ⟨d0, d1, d2, _⟩ := hd
                have d0 : ρ (.tmp 110) = .bool false := d0
                have d1 : ρ (.tmp 123) = undef := d1
                have d2 : ρ (.const (.bool false)) = .bool false := d2
                refine (if_pos (by rfl)).mpr ?_
                refine Og.gives_is (.bool false) ?_ (And.intro (Below.refl _ _) rfl)
                go_simp
            · intro vs w1 hbz hall
              have v0 : vs 0 = .int .i64 2 := hall 0 _ 107 rfl rfl
              have v1 : vs 1 = .int .i64 2 := hall 1 _ 108 rfl rfl
              have v2 : vs 2 = .bool false := hall 2 _ 109 rfl rfl
              have v3 : vs 3 = .bool false := hall 3 _ 110 rfl rfl
              have v4 : vs 4 = undef := hall 4 _ 111 rfl rfl
              have v5 : vs 5 = undef := hall 5 _ 112 rfl rfl
              have v6 : vs 6 = undef := hall 6 _ 113 rfl rfl
              have v7 : vs 7 = undef := hall 7 _ 114 rfl rfl
              have v8 : vs 8 = undef := hall 8 _ 115 rfl rfl
              have v9 : vs 9 = undef := hall 9 _ 116 rfl rfl
              have v10 : vs 10 = undef := hall 10 _ 117 rfl rfl
              have v11 : vs 11 = undef := hall 11 _ 118 rfl rfl
              have v12 : vs 12 = undef := hall 12 _ 119 rfl rfl
              have v13 : vs 13 = undef := hall 13 _ 120 rfl rfl
              have v14 : vs 14 = undef := hall 14 _ 121 rfl rfl
              have v15 : vs 15 = undef := hall 15 _ 122 rfl rfl
              have v16 : vs 16 = undef := hall 16 _ 123 rfl rfl
              have v17 : vs 17 = .bool false := hall 17 _ 124 rfl rfl
              simp only [Og.putAll, Act.put, List.setIfInBounds_toArray, List.set_cons_zero, List.set_cons_succ, Nat.zero_add, Nat.reduceAdd, v0, v1, v2, v3, v4, v5, v6, v7, v8, v9, v10, v11, v12, v13, v14, v15, v16, v17]
              clear v0 v1 v2 v3 v4 v5 v6 v7 v8 v9 v10 v11 v12 v13 v14 v15 v16 v17
              have HT := Lib.hid (below_tr HT.out hbz)
              have HY := Lib.hid (HY.out.old hbz)
              clear hbz hall
              go_wp2_with fail
              refine Og.region2 (by kernel_rfl) (fun t => if t = 4 then some 15 else if 125 ≤ t ∧ t ≤ 139 then some (t - 125) else none) [.is (.int .i64 0), .is (.int .i64 0), .is (.bool false), .is (.bool false), .is (.pointer (some ⟨q, 0, none⟩)), .says (fun v w => ∃ a c, v = .slice a n1 c ∧ Sl w a (List.replicate n1 0)), .is (.string (strOfNums (List.replicate n1 0))), .is (.int .i64 (n1 : Int)), .says (fun v w => ∃ a c, v = .slice a n1 c ∧ Sl w a (List.replicate n1 0)), .is (.string (strOfNums (List.replicate n1 0))), .is (.bool true), .is (.bool true), .is (.bool true), .is (.bool true), .is (.bool true), .is (.bool true)] [true, true, true, true, true, true, true, true, true, true, true, true, true, true, true, true] (by kernel_rfl) ?_ ?_
              · refine ⟨?_, ?_, ?_, ?_, ?_, ?_, ?_, ?_, ?_, ?_, ?_, ?_, ?_, ?_, ?_, ?_, trivial⟩
                · refine ⟨rfl, fun ρ w1 hr hd => ?_⟩
                  obtain ⟨d0, _⟩ := hd
                  have d0 : ρ (.tmp 9) = .int .i64 0 := d0
                  refine (if_pos (by rfl)).mpr ?_
                  refine Og.gives_is (.int .i64 0) ?_ (And.intro (Below.refl _ _) rfl)
                  go_simp
                · refine ⟨rfl, fun ρ w1 hr hd => ?_⟩
                  obtain ⟨d0, d1, _⟩ := hd
                  have d0 : ρ (.func 14) = .func (.func 14) #[] #[] := d0
                  have d1 : ρ (.tmp 125) = .int .i64 0 := d1
                  refine (if_pos (by rfl)).mpr ?_
                  refine Og.gives_call 14 #[.int .i64 0] ?_ ?_
                  · go_simp
                  · exact (num_any _ w1).mono fun e w' ⟨he, hw⟩ => ⟨_, he, by subst hw; exact Below.refl _ _, rfl⟩
                · refine ⟨rfl, fun ρ w1 hr hd => ?_⟩
                  obtain ⟨d0, d1, _⟩ := hd
                  have d0 : ρ (.tmp 126) = .int .i64 0 := d0
                  have d1 : ρ (.const (.int .i64 0)) = .int .i64 0 := d1
                  refine (if_pos (by rfl)).mpr ?_
                  refine Og.gives_is (.bool false) ?_ (And.intro (Below.refl _ _) rfl)
                  go_simp
                · refine ⟨rfl, fun ρ w1 hr hd => ?_⟩
                  obtain ⟨d0, _⟩ := hd
                  have d0 : ρ (.tmp 127) = .bool false := d0
                  refine (if_pos (by rfl)).mpr ?_
                  refine Og.gives_is (.bool false) ?_ (And.intro (Below.refl _ _) rfl)
                  go_simp
                · refine ⟨fun v w hv => by (have hv' : v = .bool false := hv); subst hv'; exact (if_pos (by rfl)).mpr rfl, fun ρ w1 hr hd => ?_⟩
                  obtain ⟨d0, _⟩ := hd
                  have d0 : ρ (.tmp 8) = .pointer (some ⟨q, 0, none⟩) := d0
                  refine (if_pos (by rfl)).mpr ?_
                  refine Og.gives_is (.pointer (some ⟨q, 0, none⟩)) ?_ (And.intro (Below.refl _ _) rfl)
                  go_simp
                · refine ⟨fun v w hv => by (have hv' : v = .bool false := hv); subst hv'; exact (if_pos (by rfl)).mpr rfl, fun ρ w1 hr hd => ?_⟩
                  obtain ⟨d0, d1, _⟩ := hd
                  have d0 : ρ (.func 16) = .func (.func 16) #[] #[] := d0
                  have d1 : ρ (.tmp 129) = .pointer (some ⟨q, 0, none⟩) := d1
                  refine (if_pos (by rfl)).mpr ?_
                  refine Og.gives_call 16 #[.pointer (some ⟨q, 0, none⟩)] ?_ ?_
                  · go_simp
                  · refine (bytes_any q k (List.replicate n1 0) w1 (HY.out.old hr)).mono fun e w' ⟨v, he, hown, hb⟩ => ?_
                    rw [List.length_replicate] at hown
                    obtain ⟨a5, c5, hv, hsl, _, _⟩ := sl_own hown
                    exact ⟨v, he, hb, w', Below.refl _ _, a5, c5, hv, hsl⟩
                · refine ⟨fun v w hv => by (have hv' : v = .bool false := hv); subst hv'; exact (if_pos (by rfl)).mpr rfl, fun ρ w1 hr hd => ?_⟩
                  obtain ⟨d0, _⟩ := hd
                  have d0 : ∃ w1', Below w1'.heap.size w1' w1 ∧ (fun v w => ∃ a c, v = .slice a n1 c ∧ Sl w a (List.replicate n1 0)) (ρ (.tmp 130)) w1' := d0
                  obtain ⟨w2, hb2, a5, c5, d0, hs⟩ := d0
                  have cv := conv_sl w1 a5 n1 c5 (List.replicate n1 0) (hs.old hb2) (by simp)
                  refine (if_pos (by rfl)).mpr ?_
                  refine Og.gives_is (.string (strOfNums (List.replicate n1 0))) ?_ (And.intro (Below.refl _ _) rfl)
                  go_simp
                · refine ⟨fun v w hv => by (have hv' : v = .bool false := hv); subst hv'; exact (if_pos (by rfl)).mpr rfl, fun ρ w1 hr hd => ?_⟩
                  obtain ⟨d0, _⟩ := hd
                  have d0 : ρ (.tmp 1) = .int .i64 (n1 : Int) := d0
                  refine (if_pos (by rfl)).mpr ?_
                  refine Og.gives_is (.int .i64 (n1 : Int)) ?_ (And.intro (Below.refl _ _) rfl)
                  go_simp
                · refine ⟨fun v w hv => by (have hv' : v = .bool false := hv); subst hv'; exact (if_pos (by rfl)).mpr rfl, fun ρ w1 hr hd => ?_⟩
                  obtain ⟨d0, d1, _⟩ := hd
                  have d0 : ρ (.tmp 132) = .int .i64 (n1 : Int) := d0
                  have d1 : ρ (.tmp 132) = .int .i64 (n1 : Int) := d1
                  obtain ⟨i0, hi, hz0, hz1, hz2⟩ := info_parts info5
                  have hbn := Im.okB_bd HF.out
                  obtain ⟨w', hrun, hown, hgr⟩ := run_make_full (P := Try.prog) (w := w1) w1.heap.size 22 5 i0 (.int .u8 0) 1 Try.underlying22 hi hz0 hz1 .i64 .i64 n1 (by rw [hz2]; omega) (by unfold maxLen; omega) (Nat.le_refl _)
                  rw [made_zeros] at hown
                  obtain ⟨a5, c5, hv, hsl, _, _⟩ := sl_own hown
                  refine (if_pos (by rfl)).mpr ?_
                  refine Og.gives_new _ (w' := w') ?_ (And.intro (grown_below hgr) ⟨w', Below.refl _ _, a5, c5, hv, hsl⟩)
                  simp [execOp, d0, hrun, Result.andThen]
                · refine ⟨fun v w hv => by (have hv' : v = .bool false := hv); subst hv'; exact (if_pos (by rfl)).mpr rfl, fun ρ w1 hr hd => ?_⟩
                  obtain ⟨d0, _⟩ := hd
                  have d0 : ∃ w1', Below w1'.heap.size w1' w1 ∧ (fun v w => ∃ a c, v = .slice a n1 c ∧ Sl w a (List.replicate n1 0)) (ρ (.tmp 133)) w1' := d0
                  obtain ⟨w2, hb2, a5, c5, d0, hs⟩ := d0
                  have cv := conv_sl w1 a5 n1 c5 (List.replicate n1 0) (hs.old hb2) (by simp)
                  refine (if_pos (by rfl)).mpr ?_
                  refine Og.gives_is (.string (strOfNums (List.replicate n1 0))) ?_ (And.intro (Below.refl _ _) rfl)
                  go_simp
                · refine ⟨fun v w hv => by (have hv' : v = .bool false := hv); subst hv'; exact (if_pos (by rfl)).mpr rfl, fun ρ w1 hr hd => ?_⟩
                  obtain ⟨d0, d1, _⟩ := hd
                  have d0 : ρ (.tmp 131) = .string (strOfNums (List.replicate n1 0)) := d0
                  have d1 : ρ (.tmp 134) = .string (strOfNums (List.replicate n1 0)) := d1
                  refine (if_pos (by rfl)).mpr ?_
                  refine Og.gives_is (.bool true) ?_ (And.intro (Below.refl _ _) rfl)
                  go_simp
                · refine ⟨rfl, fun ρ w1 hr hd => ?_⟩
                  obtain ⟨d0, d1, d2, _⟩ := hd
                  have d0 : ρ (.tmp 128) = .bool false := d0
                  have d1 : ρ (.const (.bool true)) = .bool true := d1
                  have d2 : ρ (.tmp 135) = .bool true := d2
                  refine (if_pos (by rfl)).mpr ?_
                  refine Og.gives_is (.bool true) ?_ (And.intro (Below.refl _ _) rfl)
                  go_simp
                · refine ⟨rfl, fun ρ w1 hr hd => ?_⟩
                  obtain ⟨d0, _⟩ := hd
                  have d0 : ρ (.tmp 136) = .bool true := d0
                  refine (if_pos (by rfl)).mpr ?_
                  refine Og.gives_is (.bool true) ?_ (And.intro (Below.refl _ _) rfl)
                  go_simp
                · refine ⟨fun v w hv => by (have hv' : v = .bool true := hv); subst hv'; exact (if_pos (by rfl)).mpr rfl, fun ρ w1 hr hd => ?_⟩
                  obtain ⟨d0, _⟩ := hd
                  have d0 : ρ (.func 11) = .func (.func 11) #[] #[] := d0
                  refine (if_pos (by rfl)).mpr ?_
                  refine Og.gives_call 11 #[] ?_ ?_
                  · go_simp
                  · exact (works_any w1).mono fun e w' ⟨he, hb⟩ => ⟨_, he, hb, rfl⟩
                · refine ⟨rfl, fun ρ w1 hr hd => ?_⟩
                  obtain ⟨d0, d1, d2, _⟩ := hd
                  have d0 : ρ (.tmp 137) = .bool true := d0
                  have d1 : ρ (.tmp 138) = .bool true := d1
                  have d2 : ρ (.const (.bool false)) = .bool false := d2
                  refine (if_pos (by rfl)).mpr ?_
                  refine Og.gives_is (.bool true) ?_ (And.intro (Below.refl _ _) rfl)
                  go_simp
                · refine ⟨rfl, fun ρ w1 hr hd => ?_⟩
                  obtain ⟨d0, _⟩ := hd
                  have d0 : ρ (.tmp 139) = .bool true := d0
                  refine (if_pos (by rfl)).mpr ?_
                  refine Og.gives_is (.bool true) ?_ (And.intro (Below.refl _ _) rfl)
                  go_simp
              · intro a w1 hbz hdf hsz hall
                have hres : a.tmps.getD 4 undef = .bool true := hall 15 _ 4 rfl rfl
                go_wp2
                refine bodyPost_ret (v := .bool true) (by rw [results_tmp rfl]; rw [hres]) hdf ⟨rfl, below_tr HT.out hbz⟩
      · have HF := Lib.hid (show Im.okB a1 = false by simpa using hF); clear hF
        have HB1 := Lib.hid ((Below.refl w.heap.size w).alloc (Nat.le_refl _) (.cells #[] 5))
        have HOx := Lib.hid (show (w.alloc (.cells #[] 5)).ownsRow w.heap.size 5 1 (.slice (some ⟨w.heap.size, 0, none⟩) 0 0) n0 (Im.vals x0) by rw [HN.out, HXN.out]; exact HO.out)
        go_enter Try.func3, Try.ntmps3
        go_wp2_with (first
          | (at_builtin; refine wpList_append_own_none rfl (.tmp 15) (.tmp 16) 22 rfl w.heap.size 5 i0 1 Try.underlying22 I0.out _ 0 [] rfl HO.out (by show Value.slice none n0 0 = _; rw [HN.out]) ?_)
          | (at_builtin; refine wpList_append_own _ rfl (.tmp 17) (.tmp 18) 22 rfl w.heap.size 5 i0 (.int .u8 0) 1 1 Try.underlying22 I0.out Z0.out Z1.out Z2.out rfl (by decide) (.slice (some ⟨w.heap.size, 0, none⟩) 0 0) n0 (Im.vals x0) rfl (HOx.out.alloc _) ⟨w.heap.size + 1, 0, none⟩ 1 1 [.int .u8 77] rfl rfl (by rw [show w.heap.size + 1 = (w.alloc (.cells #[] 5)).heap.size from (Array.size_push ..).symm]; exact cell_one_new _ _ _) (ints_oneCell .u8 [77]) (by unfold maxLen; omega) (by omega) (by have := HB1.out.size; simp; omega) ?_; intro v2 wy hown2 hg2 _; rw [vals_snoc] at hown2; obtain ⟨gm, cap, rfl, hgm⟩ := own_at hown2 (by omega); have HCAP := own_cap hown2; have HO2 := Lib.hid hown2; have HGM := Lib.hid hgm; have HB := Lib.hid ((HB1.out.alloc HB1.out.size _).grown hg2 (by have := HB1.out.size; simp; omega) (fun k hk => (HOx.out.lt k hk).1)); clear hown2 hg2 hgm))
        have HSL := Lib.hid (sl_front HO2.out)
        have HGL := Lib.hid (own_lt HO2.out)
        refine (of_no n0 cap _ HE.out (by omega) _).mono ?_
        rintro e wa ⟨rfl, hb⟩
        have HBA := Lib.hid hb; clear hb
        have HO2A := Lib.hid (own_old HO2.out HBA.out)
        have HT := Lib.hid (below_tr HB.out HBA.out)
        have HGLA := Lib.hid (own_lt HO2A.out)
        go_wp2_with fail
        refine (new_no a1 hs HF.out _).mono ?_
        rintro e w' ⟨rfl, rfl⟩
        have HO3 := HO2A
        have cm := conv_sl wa _ n0 cap x0 (sl_front HO3.out) l0
        have cb := conv_sl wa none n0 0 x0 (B0.out.1.old HT.out) l0
        have k77 := own_cell HO3.out (j := n0) (by omega)
        rw [show (x0 ++ [(77 : Int)]).getD n0 0 = 77 by rw [← l0]; simp [List.getD_eq_getElem?_getD]] at k77
        have hcap := HCAP
        go_wp2_with (first
          | (go_at_call 14; refine (num_any _ _).mono ?_; rintro e w' ⟨rfl, rfl⟩)
          | (go_at_call 15; refine (rsize_any _ (by omega) _).mono ?_; (first | rw [HE.out] | rw [HF.out]); rintro e w' ⟨rfl, rfl⟩))
        clear cm cb k77
        go_loopw [10] (fun i wr => ∃ (j : Nat) (zs : List Int), i = .int .i64 j ∧ j ≤ n0 ∧ Im.Byt zs ∧ wr.ownsRow w.heap.size 5 1 (.slice (some ⟨gm, 0, none⟩) (n0 + 1) cap) (n0 + 1) (Im.vals zs) ∧ wa.grownBy wr (some gm)) (fun i wr => n0 - (intOf i).toNat)
        case atStart => exact ⟨0, _, rfl, Nat.zero_le _, Im.byt_append B0.out.2 (by intro x hx; simp at hx; omega), HO3.out, World.grownBy.refl _ _⟩
        case round =>
          obtain ⟨j, zs, rfl, hj, hzb, hown, hgr⟩ := hrel
          have HZB := Lib.hid hzb; have HOW := Lib.hid hown; have HGR := Lib.hid hgr; clear hzb hown hgr
          by_cases hlt : j < n0
          · have hc := own_cell HOW.out (j := j) (by omega)
            have hf := own_frozen HOW.out j
            have hz := Im.getD_byt HZB.out j
            obtain ⟨z, ez⟩ : ∃ z, z = zs.getD j 0 := ⟨_, rfl⟩
            rw [← ez] at hc hz
            clear ez
            go_wp2
            go_roundw
            case rel => exact ⟨j + 1, zs.set j ((z + 1) % 256), by go_num, by omega, Im.byt_set HZB.out j (by omega), own_set HOW.out j _ (by omega), grownBy_set HGR.out j _⟩
            case measure => simp [intOf]; omega
          · have HT := Lib.hid (HT.out.grown HGR.out HT.out.size (fun k hk => by cases hk; exact HGM.out))
            go_wp2_with fail
            refine Og.region3 (by kernel_rfl) (fun t => if 107 ≤ t ∧ t ≤ 124 then some (t - 107) else none) [.is (.int .i64 2), .is (.int .i64 2), .is (.bool false), .is (.bool false), .is (undef), .is (undef), .is (undef), .is (undef), .is (undef), .is (undef), .is (undef), .is (undef), .is (undef), .is (undef), .is (undef), .is (undef), .is (undef), .is (.bool false)] [true, true, true, true, false, false, false, false, false, false, false, false, false, false, false, false, false, true] (by kernel_rfl) ?_ ?_
            · refine ⟨?_, ?_, ?_, ?_, ?_, ?_, ?_, ?_, ?_, ?_, ?_, ?_, ?_, ?_, ?_, ?_, ?_, ?_, trivial⟩
              · refine ⟨rfl, fun ρ w1 hr hd => ?_⟩
                obtain ⟨d0, _⟩ := hd
                have d0 : ρ (.tmp 7) = .int .i64 2 := d0
                refine (if_pos (by rfl)).mpr ?_
                refine Og.gives_is (.int .i64 2) ?_ (And.intro (Below.refl _ _) rfl)
                go_simp
              · refine ⟨rfl, fun ρ w1 hr hd => ?_⟩
                obtain ⟨d0, d1, _⟩ := hd
                have d0 : ρ (.func 14) = .func (.func 14) #[] #[] := d0
                have d1 : ρ (.tmp 107) = .int .i64 2 := d1
                refine (if_pos (by rfl)).mpr ?_
                refine Og.gives_call 14 #[.int .i64 2] ?_ ?_
                · go_simp
                · exact (num_any _ w1).mono fun e w' ⟨he, hw⟩ => ⟨_, he, by subst hw; exact Below.refl _ _, rfl⟩
              · refine ⟨rfl, fun ρ w1 hr hd => ?_⟩
                obtain ⟨d0, d1, _⟩ := hd
                have d0 : ρ (.tmp 108) = .int .i64 2 := d0
                have d1 : ρ (.const (.int .i64 0)) = .int .i64 0 := d1
                refine (if_pos (by rfl)).mpr ?_
                refine Og.gives_is (.bool false) ?_ (And.intro (Below.refl _ _) rfl)
                go_simp
              · refine ⟨rfl, fun ρ w1 hr hd => ?_⟩
                obtain ⟨d0, _⟩ := hd
                have d0 : ρ (.tmp 109) = .bool false := d0
                refine (if_pos (by rfl)).mpr ?_
                refine Og.gives_is (.bool false) ?_ (And.intro (Below.refl _ _) rfl)
                go_simp
              · refine ⟨fun v w hv => by (have hv' : v = .bool false := hv); subst hv'; exact (if_neg (by exact Bool.false_ne_true)).mpr (fun h => by cases h), fun ρ w1 hr hd => ?_⟩
                exact (if_neg (by exact Bool.false_ne_true)).mpr (rfl : undef = undef)
              · refine ⟨fun v w hv => by (have hv' : v = .bool false := hv); subst hv'; exact (if_neg (by exact Bool.false_ne_true)).mpr (fun h => by cases h), fun ρ w1 hr hd => ?_⟩
                exact (if_neg (by exact Bool.false_ne_true)).mpr (rfl : undef = undef)
              · refine ⟨fun v w hv => by (have hv' : v = .bool false := hv); subst hv'; exact (if_neg (by exact Bool.false_ne_true)).mpr (fun h => by cases h), fun ρ w1 hr hd => ?_⟩
                exact (if_neg (by exact Bool.false_ne_true)).mpr (rfl : undef = undef)
              · refine ⟨fun v w hv => by (have hv' : v = .bool false := hv); subst hv'; exact (if_neg (by exact Bool.false_ne_true)).mpr (fun h => by cases h), fun ρ w1 hr hd => ?_⟩
                exact (if_neg (by exact Bool.false_ne_true)).mpr (rfl : undef = undef)
              · refine ⟨fun v w hv => by (have hv' : v = .bool false := hv); subst hv'; exact (if_neg (by exact Bool.false_ne_true)).mpr (fun h => by cases h), fun ρ w1 hr hd => ?_⟩
                exact (if_neg (by exact Bool.false_ne_true)).mpr (rfl : undef = undef)
              · refine ⟨fun v w hv => by (have hv' : v = .bool false := hv); subst hv'; exact (if_neg (by exact Bool.false_ne_true)).mpr (fun h => by cases h), fun ρ w1 hr hd => ?_⟩
                exact (if_neg (by exact Bool.false_ne_true)).mpr (rfl : undef = undef)
              · refine ⟨fun v w hv => by (have hv' : v = .bool false := hv); subst hv'; exact (if_neg (by exact Bool.false_ne_true)).mpr (fun h => by cases h), fun ρ w1 hr hd => ?_⟩
                exact (if_neg (by exact Bool.false_ne_true)).mpr (rfl : undef = undef)
              · refine ⟨fun v w hv => by (have hv' : v = undef := hv); subst hv'; exact (if_neg (by exact Bool.false_ne_true)).mpr (fun h => by simp [undef] at h), fun ρ w1 hr hd => ?_⟩
                exact (if_neg (by exact Bool.false_ne_true)).mpr (rfl : undef = undef)
              · refine ⟨fun v w hv => by (have hv' : v = undef := hv); subst hv'; exact (if_neg (by exact Bool.false_ne_true)).mpr (fun h => by simp [undef] at h), fun ρ w1 hr hd => ?_⟩
                exact (if_neg (by exact Bool.false_ne_true)).mpr (rfl : undef = undef)
              · refine ⟨fun v w hv => by (have hv' : v = undef := hv); subst hv'; exact (if_neg (by exact Bool.false_ne_true)).mpr (fun h => by simp [undef] at h), fun ρ w1 hr hd => ?_⟩
                exact (if_neg (by exact Bool.false_ne_true)).mpr (rfl : undef = undef)
              · refine ⟨fun v w hv => by (have hv' : v = undef := hv); subst hv'; exact (if_neg (by exact Bool.false_ne_true)).mpr (fun h => by simp [undef] at h), fun ρ w1 hr hd => ?_⟩
                exact (if_neg (by exact Bool.false_ne_true)).mpr (rfl : undef = undef)
              · refine ⟨fun v w hv => by (have hv' : v = undef := hv); subst hv'; exact (if_neg (by exact Bool.false_ne_true)).mpr (fun h => by simp [undef] at h), fun ρ w1 hr hd => ?_⟩
                exact (if_neg (by exact Bool.false_ne_true)).mpr (rfl : undef = undef)
              · refine ⟨fun v w hv => by (have hv' : v = .bool false := hv); subst hv'; exact (if_neg (by exact Bool.false_ne_true)).mpr (fun h => by cases h), fun ρ w1 hr hd => ?_⟩
                exact (if_neg (by exact Bool.false_ne_true)).mpr (rfl : undef = undef)
              · refine ⟨rfl, fun ρ w1 hr hd => ?_⟩
                obtain ⟨d0, d1, d2, _⟩ := hd
                have d0 : ρ (.tmp 110) = .bool false := d0
                have d1 : ρ (.tmp 123) = undef := d1
                have d2 : ρ (.const (.bool false)) = .bool false := d2
                refine (if_pos (by rfl)).mpr ?_
                refine Og.gives_is (.bool false) ?_ (And.intro (Below.refl _ _) rfl)
                go_simp
            · intro vs w1 hbz hall
              have v0 : vs 0 = .int .i64 2 := hall 0 _ 107 rfl rfl
              have v1 : vs 1 = .int .i64 2 := hall 1 _ 108 rfl rfl
              have v2 : vs 2 = .bool false := hall 2 _ 109 rfl rfl
              have v3 : vs 3 = .bool false := hall 3 _ 110 rfl rfl
              have v4 : vs 4 = undef := hall 4 _ 111 rfl rfl
              have v5 : vs 5 = undef := hall 5 _ 112 rfl rfl
              have v6 : vs 6 = undef := hall 6 _ 113 rfl rfl
              have v7 : vs 7 = undef := hall 7 _ 114 rfl rfl
              have v8 : vs 8 = undef := hall 8 _ 115 rfl rfl
              have v9 : vs 9 = undef := hall 9 _ 116 rfl rfl
              have v10 : vs 10 = undef := hall 10 _ 117 rfl rfl
              have v11 : vs 11 = undef := hall 11 _ 118 rfl rfl
              have v12 : vs 12 = undef := hall 12 _ 119 rfl rfl
              have v13 : vs 13 = undef := hall 13 _ 120 rfl rfl
              have v14 : vs 14 = undef := hall 14 _ 121 rfl rfl
              have v15 : vs 15 = undef := hall 15 _ 122 rfl rfl
              have v16 : vs 16 = undef := hall 16 _ 123 rfl rfl
              have v17 : vs 17 = .bool false := hall 17 _ 124 rfl rfl
              simp only [Og.putAll, Act.put, List.setIfInBounds_toArray, List.set_cons_zero, List.set_cons_succ, Nat.zero_add, Nat.reduceAdd, v0, v1, v2, v3, v4, v5, v6, v7, v8, v9, v10, v11, v12, v13, v14, v15, v16, v17]
              clear v0 v1 v2 v3 v4 v5 v6 v7 v8 v9 v10 v11 v12 v13 v14 v15 v16 v17
              have HT := Lib.hid (below_tr HT.out hbz)
              clear hbz hall
              go_wp2_with fail
              refine Og.region2 (by kernel_rfl) (fun t => if t = 4 then some 15 else if 125 ≤ t ∧ t ≤ 139 then some (t - 125) else none) [.is (.int .i64 2), .is (.int .i64 2), .is (.bool true), .is (.bool true), .is (undef), .is (undef), .is (undef), .is (undef), .is (undef), .is (undef), .is (undef), .is (.bool true), .is (.bool true), .is (.bool true), .is (.bool true), .is (.bool true)] [true, true, true, true, false, false, false, false, false, false, false, true, true, true, true, true] (by kernel_rfl) ?_ ?_
              · refine ⟨?_, ?_, ?_, ?_, ?_, ?_, ?_, ?_, ?_, ?_, ?_, ?_, ?_, ?_, ?_, ?_, trivial⟩
                · refine ⟨rfl, fun ρ w1 hr hd => ?_⟩
                  obtain ⟨d0, _⟩ := hd
                  have d0 : ρ (.tmp 9) = .int .i64 2 := d0
                  refine (if_pos (by rfl)).mpr ?_
                  refine Og.gives_is (.int .i64 2) ?_ (And.intro (Below.refl _ _) rfl)
                  go_simp
                · refine ⟨rfl, fun ρ w1 hr hd => ?_⟩
                  obtain ⟨d0, d1, _⟩ := hd
                  have d0 : ρ (.func 14) = .func (.func 14) #[] #[] := d0
                  have d1 : ρ (.tmp 125) = .int .i64 2 := d1
                  refine (if_pos (by rfl)).mpr ?_
                  refine Og.gives_call 14 #[.int .i64 2] ?_ ?_
                  · go_simp
                  · exact (num_any _ w1).mono fun e w' ⟨he, hw⟩ => ⟨_, he, by subst hw; exact Below.refl _ _, rfl⟩
                · refine ⟨rfl, fun ρ w1 hr hd => ?_⟩
                  obtain ⟨d0, d1, _⟩ := hd
                  have d0 : ρ (.tmp 126) = .int .i64 2 := d0
                  have d1 : ρ (.const (.int .i64 0)) = .int .i64 0 := d1
                  refine (if_pos (by rfl)).mpr ?_
                  refine Og.gives_is (.bool true) ?_ (And.intro (Below.refl _ _) rfl)
                  go_simp
                · refine ⟨rfl, fun ρ w1 hr hd => ?_⟩
                  obtain ⟨d0, _⟩ := hd
                  have d0 : ρ (.tmp 127) = .bool true := d0
                  refine (if_pos (by rfl)).mpr ?_
                  refine Og.gives_is (.bool true) ?_ (And.intro (Below.refl _ _) rfl)
                  go_simp
                · refine ⟨fun v w hv => by (have hv' : v = .bool true := hv); subst hv'; exact (if_neg (by exact Bool.false_ne_true)).mpr (fun h => by cases h), fun ρ w1 hr hd => ?_⟩
                  exact (if_neg (by exact Bool.false_ne_true)).mpr (rfl : undef = undef)
                · refine ⟨fun v w hv => by (have hv' : v = .bool true := hv); subst hv'; exact (if_neg (by exact Bool.false_ne_true)).mpr (fun h => by cases h), fun ρ w1 hr hd => ?_⟩
                  exact (if_neg (by exact Bool.false_ne_true)).mpr (rfl : undef = undef)
                · refine ⟨fun v w hv => by (have hv' : v = .bool true := hv); subst hv'; exact (if_neg (by exact Bool.false_ne_true)).mpr (fun h => by cases h), fun ρ w1 hr hd => ?_⟩
                  exact (if_neg (by exact Bool.false_ne_true)).mpr (rfl : undef = undef)
                · refine ⟨fun v w hv => by (have hv' : v = .bool true := hv); subst hv'; exact (if_neg (by exact Bool.false_ne_true)).mpr (fun h => by cases h), fun ρ w1 hr hd => ?_⟩
                  exact (if_neg (by exact Bool.false_ne_true)).mpr (rfl : undef = undef)
                · refine ⟨fun v w hv => by (have hv' : v = .bool true := hv); subst hv'; exact (if_neg (by exact Bool.false_ne_true)).mpr (fun h => by cases h), fun ρ w1 hr hd => ?_⟩
                  exact (if_neg (by exact Bool.false_ne_true)).mpr (rfl : undef = undef)
                · refine ⟨fun v w hv => by (have hv' : v = .bool true := hv); subst hv'; exact (if_neg (by exact Bool.false_ne_true)).mpr (fun h => by cases h), fun ρ w1 hr hd => ?_⟩
                  exact (if_neg (by exact Bool.false_ne_true)).mpr (rfl : undef = undef)
                · refine ⟨fun v w hv => by (have hv' : v = .bool true := hv); subst hv'; exact (if_neg (by exact Bool.false_ne_true)).mpr (fun h => by cases h), fun ρ w1 hr hd => ?_⟩
                  exact (if_neg (by exact Bool.false_ne_true)).mpr (rfl : undef = undef)
                · refine ⟨rfl, fun ρ w1 hr hd => ?_⟩
                  obtain ⟨d0, d1, d2, _⟩ := hd
                  have d0 : ρ (.tmp 128) = .bool true := d0
                  have d1 : ρ (.const (.bool true)) = .bool true := d1
                  have d2 : ρ (.tmp 135) = undef := d2
                  refine (if_pos (by rfl)).mpr ?_
                  refine Og.gives_is (.bool true) ?_ (And.intro (Below.refl _ _) rfl)
                  go_simp
                · refine ⟨rfl, fun ρ w1 hr hd => ?_⟩
                  obtain ⟨d0, _⟩ := hd
                  have d0 : ρ (.tmp 136) = .bool true := d0
                  refine (if_pos (by rfl)).mpr ?_
                  refine Og.gives_is (.bool true) ?_ (And.intro (Below.refl _ _) rfl)
                  go_simp
                · refine ⟨fun v w hv => by (have hv' : v = .bool true := hv); subst hv'; exact (if_pos (by rfl)).mpr rfl, fun ρ w1 hr hd => ?_⟩
                  obtain ⟨d0, _⟩ := hd
                  have d0 : ρ (.func 11) = .func (.func 11) #[] #[] := d0
                  refine (if_pos (by rfl)).mpr ?_
                  refine Og.gives_call 11 #[] ?_ ?_
                  · go_simp
                  · exact (works_any w1).mono fun e w' ⟨he, hb⟩ => ⟨_, he, hb, rfl⟩
                · refine ⟨rfl, fun ρ w1 hr hd => ?_⟩
                  obtain ⟨d0, d1, d2, _⟩ := hd
                  have d0 : ρ (.tmp 137) = .bool true := d0
                  have d1 : ρ (.tmp 138) = .bool true := d1
                  have d2 : ρ (.const (.bool false)) = .bool false := d2
                  refine (if_pos (by rfl)).mpr ?_
                  refine Og.gives_is (.bool true) ?_ (And.intro (Below.refl _ _) rfl)
                  go_simp
                · refine ⟨rfl, fun ρ w1 hr hd => ?_⟩
                  obtain ⟨d0, _⟩ := hd
                  have d0 : ρ (.tmp 139) = .bool true := d0
                  refine (if_pos (by rfl)).mpr ?_
                  refine Og.gives_is (.bool true) ?_ (And.intro (Below.refl _ _) rfl)
                  go_simp
              · intro a w1 hbz hdf hsz hall
                have hres : a.tmps.getD 4 undef = .bool true := hall 15 _ 4 rfl rfl
                go_wp2
                refine bodyPost_ret (v := .bool true) (by rw [results_tmp rfl]; rw [hres]) hdf ⟨rfl, below_tr HT.out hbz⟩
    | some ad =>
      clear z0
      have hsrc : ∀ (j : Nat) (v : Value), (Im.vals x0)[j]? = some v → (w.alloc (.cells #[] 5)).cell? (ad.add j) = some v := fun j v hv => by
        have hj : j < x0.length := by have := (List.getElem?_eq_some_iff.1 hv).1; rwa [len_vals] at this
        obtain ⟨b1, o1, he, hcell⟩ := B0.out.1 (by omega)
        injection he with he
        subst he
        have e : (⟨b1, o1, none⟩ : Addr).add j = ⟨b1, o1 + j, none⟩ := by unfold Addr.add; split <;> simp_all
        rw [e, World.cell?_alloc_past _ _ _ (World.block_lt_of_cell? w ⟨b1, o1 + j, none⟩ (hcell j hj)), hcell j hj]
        simp [Im.vals, hj, List.getD_eq_getElem?_getD] at hv ⊢
        exact hv
      have HS := Lib.hid hsrc; clear hsrc
      by_cases hE : Im.okB (n0 : Int) = true
      all_goals by_cases hF : Im.okB a1 = true
      · have hbe := Im.okB_bd hE
        have HE := Lib.hid hE; clear hE
        obtain ⟨n1, rfl⟩ := Int.eq_ofNat_of_zero_le (show 0 ≤ a1 by have := Im.okB_bd hF; omega)
        have hbn := Im.okB_bd hF
        have HF := Lib.hid hF; clear hF
        go_enter Try.func3, Try.ntmps3
        go_wp2_with (first
          | (at_builtin; refine wpList_append_own _ rfl (.tmp 15) (.tmp 16) 22 rfl w.heap.size 5 i0 (.int .u8 0) 1 1 Try.underlying22 I0.out Z0.out Z1.out Z2.out rfl (by decide) _ 0 [] rfl HO.out ad n0 c0 (Im.vals x0) rfl (by rw [len_vals, l0]; omega) HS.out (ints_oneCell .u8 x0) (by unfold maxLen; omega) (by omega) (by simp) ?_; intro v1 wx hown1 hg1 _; simp only [Nat.zero_add, List.nil_append] at hown1; have HO1 := Lib.hid hown1; have HB1 := Lib.hid (((Below.refl w.heap.size w).alloc (Nat.le_refl _) (.cells #[] 5)).grown hg1 (by simp) (fun k hk => by cases hk; exact Nat.le_refl _)); clear hown1 hg1)
          | (at_builtin; refine wpList_append_own _ rfl (.tmp 17) (.tmp 18) 22 rfl w.heap.size 5 i0 (.int .u8 0) 1 1 Try.underlying22 I0.out Z0.out Z1.out Z2.out rfl (by decide) v1 n0 (Im.vals x0) rfl (HO1.out.alloc _) ⟨wx.heap.size, 0, none⟩ 1 1 [.int .u8 77] rfl rfl (cell_one_new _ _ _) (ints_oneCell .u8 [77]) (by unfold maxLen; omega) (by omega) (by have := HB1.out.size; simp; omega) ?_; intro v2 wy hown2 hg2 _; rw [vals_snoc] at hown2; obtain ⟨gm, cap, rfl, hgm⟩ := own_at hown2 (by omega); have HCAP := own_cap hown2; have HO2 := Lib.hid hown2; have HGM := Lib.hid hgm; have HB := Lib.hid ((HB1.out.alloc HB1.out.size _).grown hg2 (by have := HB1.out.size; simp; omega) (fun k hk => (HO1.out.lt k hk).1)); clear hown2 hg2 hgm))
        have HSL := Lib.hid (sl_front HO2.out)
        have HGL := Lib.hid (own_lt HO2.out)
        refine (of_yes n0 cap _ x0 HE.out l0 B0.out.2 _ HSL.out).mono ?_
        rintro e wa ⟨p, h, rfl, hi, hp, hh, hb⟩
        have HX := Lib.hid hi; have HPH := Lib.hid (show gm < p ∧ gm < h from ⟨Nat.lt_of_lt_of_le HGL.out hp, Nat.lt_of_lt_of_le HGL.out hh⟩); have HBA := Lib.hid hb; clear hi hp hh hb
        have HO2A := Lib.hid (own_old HO2.out HBA.out)
        have HT := Lib.hid (below_tr HB.out HBA.out)
        have HGLA := Lib.hid (own_lt HO2A.out)
        go_wp2_with fail
        refine (new_yes n1 HF.out _).mono ?_
        rintro e wb ⟨q, k, rfl, hi, hp, hh, hb⟩
        have HY := Lib.hid hi; have HQK := Lib.hid (show gm < q ∧ gm < k from ⟨Nat.lt_of_lt_of_le HGLA.out hp, Nat.lt_of_lt_of_le HGLA.out hh⟩); have HBB := Lib.hid hb; clear hi hp hh hb
        have HX := Lib.hid (HX.out.old HBB.out)
        have HO3 := Lib.hid (own_old HO2A.out HBB.out)
        have HT := Lib.hid (below_tr HT.out HBB.out)
        have cm := conv_sl wb _ n0 cap x0 (sl_front HO3.out) l0
        have cb := conv_sl wb (some ad) n0 c0 x0 (B0.out.1.old HT.out) l0
        have k77 := own_cell HO3.out (j := n0) (by omega)
        rw [show (x0 ++ [(77 : Int)]).getD n0 0 = 77 by rw [← l0]; simp [List.getD_eq_getElem?_getD]] at k77
        have hcap := HCAP
        go_wp2_with (first
          | (go_at_call 14; refine (num_any _ _).mono ?_; rintro e w' ⟨rfl, rfl⟩)
          | (go_at_call 15; refine (rsize_any _ (by omega) _).mono ?_; (first | rw [HE.out] | rw [HF.out]); rintro e w' ⟨rfl, rfl⟩))
        clear cm cb k77
        go_loopw [10] (fun i wr => ∃ (j : Nat) (zs : List Int), i = .int .i64 j ∧ j ≤ n0 ∧ Im.Byt zs ∧ wr.ownsRow w.heap.size 5 1 (.slice (some ⟨gm, 0, none⟩) (n0 + 1) cap) (n0 + 1) (Im.vals zs) ∧ wb.grownBy wr (some gm)) (fun i wr => n0 - (intOf i).toNat)
        case atStart => exact ⟨0, _, rfl, Nat.zero_le _, Im.byt_append B0.out.2 (by intro x hx; simp at hx; omega), HO3.out, World.grownBy.refl _ _⟩
        case round =>
          obtain ⟨j, zs, rfl, hj, hzb, hown, hgr⟩ := hrel
          have HZB := Lib.hid hzb; have HOW := Lib.hid hown; have HGR := Lib.hid hgr; clear hzb hown hgr
          by_cases hlt : j < n0
          · have hc := own_cell HOW.out (j := j) (by omega)
            have hf := own_frozen HOW.out j
            have hz := Im.getD_byt HZB.out j
            obtain ⟨z, ez⟩ : ∃ z, z = zs.getD j 0 := ⟨_, rfl⟩
            rw [← ez] at hc hz
            clear ez
            go_wp2
            go_roundw
            case rel => exact ⟨j + 1, zs.set j ((z + 1) % 256), by go_num, by omega, Im.byt_set HZB.out j (by omega), own_set HOW.out j _ (by omega), grownBy_set HGR.out j _⟩
            case measure => simp [intOf]; omega
          · have HT := Lib.hid (HT.out.grown HGR.out HT.out.size (fun k hk => by cases hk; exact HGM.out))
            have HX := Lib.hid (HX.out.kept HGR.out (by have := HPH.out; simp; omega) (by have := HPH.out; simp; omega))
            have HY := Lib.hid (HY.out.kept HGR.out (by have := HQK.out; simp; omega) (by have := HQK.out; simp; omega))
            go_wp2_with fail
            refine Og.region3 (by kernel_rfl) (fun t => if 107 ≤ t ∧ t ≤ 124 then some (t - 107) else none) [.is (.int .i64 0), .is (.int .i64 0), .is (.bool true), .is (.bool true), .is (.pointer (some ⟨p, 0, none⟩)), .says (fun v w => ∃ a c, v = .slice a x0.length c ∧ Sl w a x0), .is (.string (strOfNums x0)), .is (.slice (some ad) n0 c0), .is (.string (strOfNums x0)), .is (.bool false), .is (.bool false), .is (.pointer (some ⟨p, 0, none⟩)), .is (.int .i64 (n0 : Int)), .is (.slice (some ad) n0 c0), .is (.int .i64 (n0 : Int)), .is (.bool false), .is (.bool false), .is (.bool false)] [true, true, true, true, true, true, true, true, true, true, true, true, true, true, true, true, true, true] (by kernel_rfl) ?_ ?_
            · refine ⟨?_, ?_, ?_, ?_, ?_, ?_, ?_, ?_, ?_, ?_, ?_, ?_, ?_, ?_, ?_, ?_, ?_, ?_, trivial⟩
              · refine ⟨rfl, fun ρ w1 hr hd => ?_⟩
                obtain ⟨d0, _⟩ := hd
                have d0 : ρ (.tmp 7) = .int .i64 0 := d0
                refine (if_pos (by rfl)).mpr ?_
                refine Og.gives_is (.int .i64 0) ?_ (And.intro (Below.refl _ _) rfl)
                go_simp
              · refine ⟨rfl, fun ρ w1 hr hd => ?_⟩
                obtain ⟨d0, d1, _⟩ := hd
                have d0 : ρ (.func 14) = .func (.func 14) #[] #[] := d0
                have d1 : ρ (.tmp 107) = .int .i64 0 := d1
                refine (if_pos (by rfl)).mpr ?_
                refine Og.gives_call 14 #[.int .i64 0] ?_ ?_
                · go_simp
                · exact (num_any _ w1).mono fun e w' ⟨he, hw⟩ => ⟨_, he, by subst hw; exact Below.refl _ _, rfl⟩
              · refine ⟨rfl, fun ρ w1 hr hd => ?_⟩
                obtain ⟨d0, d1, _⟩ := hd
                have d0 : ρ (.tmp 108) = .int .i64 0 := d0
                have d1 : ρ (.const (.int .i64 0)) = .int .i64 0 := d1
                refine (if_pos (by rfl)).mpr ?_
                refine Og.gives_is (.bool true) ?_ (And.intro (Below.refl _ _) rfl)
                go_simp
              · refine ⟨rfl, fun ρ w1 hr hd => ?_⟩
                obtain ⟨d0, _⟩ := hd
                have d0 : ρ (.tmp 109) = .bool true := d0
                refine (if_pos (by rfl)).mpr ?_
                refine Og.gives_is (.bool true) ?_ (And.intro (Below.refl _ _) rfl)
                go_simp
              · refine ⟨fun v w hv => by (have hv' : v = .bool true := hv); subst hv'; exact (if_pos (by rfl)).mpr rfl, fun ρ w1 hr hd => ?_⟩
                obtain ⟨d0, _⟩ := hd
                have d0 : ρ (.tmp 6) = .pointer (some ⟨p, 0, none⟩) := d0
                refine (if_pos (by rfl)).mpr ?_
                refine Og.gives_is (.pointer (some ⟨p, 0, none⟩)) ?_ (And.intro (Below.refl _ _) rfl)
                go_simp
              · refine ⟨fun v w hv => by (have hv' : v = .bool true := hv); subst hv'; exact (if_pos (by rfl)).mpr rfl, fun ρ w1 hr hd => ?_⟩
                obtain ⟨d0, d1, _⟩ := hd
                have d0 : ρ (.func 16) = .func (.func 16) #[] #[] := d0
                have d1 : ρ (.tmp 111) = .pointer (some ⟨p, 0, none⟩) := d1
                refine (if_pos (by rfl)).mpr ?_
                refine Og.gives_call 16 #[.pointer (some ⟨p, 0, none⟩)] ?_ ?_
                · go_simp
                · refine (bytes_any p h x0 w1 (HX.out.old hr)).mono fun e w' ⟨v, he, hown, hb⟩ => ?_
                  obtain ⟨a5, c5, hv, hsl, _, _⟩ := sl_own hown
                  exact ⟨v, he, hb, w', Below.refl _ _, a5, c5, hv, hsl⟩
              · refine ⟨fun v w hv => by (have hv' : v = .bool true := hv); subst hv'; exact (if_pos (by rfl)).mpr rfl, fun ρ w1 hr hd => ?_⟩
                obtain ⟨d0, _⟩ := hd
                have d0 : ∃ w1', Below w1'.heap.size w1' w1 ∧ (fun v w => ∃ a c, v = .slice a x0.length c ∧ Sl w a x0) (ρ (.tmp 112)) w1' := d0
                obtain ⟨w2, hb2, a5, c5, d0, hs⟩ := d0
                have cv := conv_sl w1 a5 n0 c5 x0 (hs.old hb2) l0
                rw [l0] at d0
                refine (if_pos (by rfl)).mpr ?_
                refine Og.gives_is (.string (strOfNums x0)) ?_ (And.intro (Below.refl _ _) rfl)
                go_simp
              · refine ⟨fun v w hv => by (have hv' : v = .bool true := hv); subst hv'; exact (if_pos (by rfl)).mpr rfl, fun ρ w1 hr hd => ?_⟩
                obtain ⟨d0, _⟩ := hd
                have d0 : ρ (.tmp 0) = .slice (some ad) n0 c0 := d0
                refine (if_pos (by rfl)).mpr ?_
                refine Og.gives_is (.slice (some ad) n0 c0) ?_ (And.intro (Below.refl _ _) rfl)
                go_simp
              · refine ⟨fun v w hv => by (have hv' : v = .bool true := hv); subst hv'; exact (if_pos (by rfl)).mpr rfl, fun ρ w1 hr hd => ?_⟩
                obtain ⟨d0, _⟩ := hd
                have d0 : ρ (.tmp 114) = .slice (some ad) n0 c0 := d0
                have cv := conv_sl w1 (some ad) n0 c0 x0 ((B0.out.1.old HT.out).old hr) l0
                refine (if_pos (by rfl)).mpr ?_
                refine Og.gives_is (.string (strOfNums x0)) ?_ (And.intro (Below.refl _ _) rfl)
                go_simp
              · refine ⟨fun v w hv => by (have hv' : v = .bool true := hv); subst hv'; exact (if_pos (by rfl)).mpr rfl, fun ρ w1 hr hd => ?_⟩
                obtain ⟨d0, d1, _⟩ := hd
                have d0 : ρ (.tmp 113) = .string (strOfNums x0) := d0
                have d1 : ρ (.tmp 115) = .string (strOfNums x0) := d1
                refine (if_pos (by rfl)).mpr ?_
                refine Og.gives_is (.bool false) ?_ (And.intro (Below.refl _ _) rfl)
                go_simp
              · refine ⟨fun v w hv => by (have hv' : v = .bool true := hv); subst hv'; exact (if_pos (by rfl)).mpr rfl, fun ρ w1 hr hd => ?_⟩
                obtain ⟨d0, _⟩ := hd
                have d0 : ρ (.tmp 116) = .bool false := d0
                refine (if_pos (by rfl)).mpr ?_
                refine Og.gives_is (.bool false) ?_ (And.intro (Below.refl _ _) rfl)
                go_simp
              · refine ⟨fun v w hv => by (have hv' : v = .bool false := hv); subst hv'; exact (if_pos (by rfl)).mpr rfl, fun ρ w1 hr hd => ?_⟩
                obtain ⟨d0, _⟩ := hd
                have d0 : ρ (.tmp 6) = .pointer (some ⟨p, 0, none⟩) := d0
                refine (if_pos (by rfl)).mpr ?_
                refine Og.gives_is (.pointer (some ⟨p, 0, none⟩)) ?_ (And.intro (Below.refl _ _) rfl)
                go_simp
              · refine ⟨fun v w hv => by (have hv' : v = .bool false := hv); subst hv'; exact (if_pos (by rfl)).mpr rfl, fun ρ w1 hr hd => ?_⟩
                obtain ⟨d0, d1, _⟩ := hd
                have d0 : ρ (.func 17) = .func (.func 17) #[] #[] := d0
                have d1 : ρ (.tmp 118) = .pointer (some ⟨p, 0, none⟩) := d1
                refine (if_pos (by rfl)).mpr ?_
                refine Og.gives_call 17 #[.pointer (some ⟨p, 0, none⟩)] ?_ ?_
                · go_simp
                · exact (size_any p h n0 w1 (by omega) (by have := (HX.out.old hr).cell; rw [l0] at this; exact this)).mono fun e w' ⟨he, hw⟩ => ⟨_, he, by subst hw; exact Below.refl _ _, rfl⟩
              · refine ⟨fun v w hv => by (have hv' : v = .bool false := hv); subst hv'; exact (if_pos (by rfl)).mpr rfl, fun ρ w1 hr hd => ?_⟩
                obtain ⟨d0, _⟩ := hd
                have d0 : ρ (.tmp 0) = .slice (some ad) n0 c0 := d0
                refine (if_pos (by rfl)).mpr ?_
                refine Og.gives_is (.slice (some ad) n0 c0) ?_ (And.intro (Below.refl _ _) rfl)
                go_simp
              · refine ⟨fun v w hv => by (have hv' : v = .bool false := hv); subst hv'; exact (if_pos (by rfl)).mpr rfl, fun ρ w1 hr hd => ?_⟩
                obtain ⟨d0, _⟩ := hd
                have d0 : ρ (.tmp 120) = .slice (some ad) n0 c0 := d0
                refine (if_pos (by rfl)).mpr ?_
                refine Og.gives_is (.int .i64 (n0 : Int)) ?_ (And.intro (Below.refl _ _) rfl)
                go_simp
              · refine ⟨fun v w hv => by (have hv' : v = .bool false := hv); subst hv'; exact (if_pos (by rfl)).mpr rfl, fun ρ w1 hr hd => ?_⟩
                obtain ⟨d0, d1, _⟩ := hd
                have d0 : ρ (.tmp 119) = .int .i64 (n0 : Int) := d0
                have d1 : ρ (.tmp 121) = .int .i64 (n0 : Int) := d1
                refine (if_pos (by rfl)).mpr ?_
                refine Og.gives_is (.bool false) ?_ (And.intro (Below.refl _ _) rfl)
                go_simp
              · refine ⟨fun v w hv => by (have hv' : v = .bool true := hv); subst hv'; exact (if_pos (by rfl)).mpr rfl, fun ρ w1 hr hd => ?_⟩
                obtain ⟨d0, d1, d2, _⟩ := hd
                have d0 : ρ (.tmp 117) = .bool false := d0
                have d1 : ρ (.const (.bool true)) = .bool true := d1
                have d2 : ρ (.tmp 122) = .bool false := d2
                refine (if_pos (by rfl)).mpr ?_
                refine Og.gives_is (.bool false) ?_ (And.intro (Below.refl _ _) rfl)
                go_simp
              · refine ⟨rfl, fun ρ w1 hr hd => ?_⟩
                obtain ⟨d0, d1, d2, _⟩ := hd
                have d0 : ρ (.tmp 110) = .bool true := d0
                have d1 : ρ (.tmp 123) = .bool false := d1
                have d2 : ρ (.const (.bool false)) = .bool false := d2
                refine (if_pos (by rfl)).mpr ?_
                refine Og.gives_is (.bool false) ?_ (And.intro (Below.refl _ _) rfl)
                go_simp
            · intro vs w1 hbz hall
              have v0 : vs 0 = .int .i64 0 := hall 0 _ 107 rfl rfl
              have v1 : vs 1 = .int .i64 0 := hall 1 _ 108 rfl rfl
              have v2 : vs 2 = .bool true := hall 2 _ 109 rfl rfl
              have v3 : vs 3 = .bool true := hall 3 _ 110 rfl rfl
              have v4 : vs 4 = .pointer (some ⟨p, 0, none⟩) := hall 4 _ 111 rfl rfl
              have v6 : vs 6 = .string (strOfNums x0) := hall 6 _ 113 rfl rfl
              have v7 : vs 7 = .slice (some ad) n0 c0 := hall 7 _ 114 rfl rfl
              have v8 : vs 8 = .string (strOfNums x0) := hall 8 _ 115 rfl rfl
              have v9 : vs 9 = .bool false := hall 9 _ 116 rfl rfl
              have v10 : vs 10 = .bool false := hall 10 _ 117 rfl rfl
              have v11 : vs 11 = .pointer (some ⟨p, 0, none⟩) := hall 11 _ 118 rfl rfl
              have v12 : vs 12 = .int .i64 (n0 : Int) := hall 12 _ 119 rfl rfl
              have v13 : vs 13 = .slice (some ad) n0 c0 := hall 13 _ 120 rfl rfl
              have v14 : vs 14 = .int .i64 (n0 : Int) := hall 14 _ 121 rfl rfl
              have v15 : vs 15 = .bool false := hall 15 _ 122 rfl rfl
              have v16 : vs 16 = .bool false := hall 16 _ 123 rfl rfl
              have v17 : vs 17 = .bool false := hall 17 _ 124 rfl rfl
              simp only [Og.putAll, Act.put, List.setIfInBounds_toArray, List.set_cons_zero, List.set_cons_succ, Nat.zero_add, Nat.reduceAdd, v0, v1, v2, v3, v4, v6, v7, v8, v9, v10, v11, v12, v13, v14, v15, v16, v17]
              clear v0 v1 v2 v3 v4 v6 v7 v8 v9 v10 v11 v12 v13 v14 v15 v16 v17
              have HT := Lib.hid (below_tr HT.out hbz)
              have HY := Lib.hid (HY.out.old hbz)
              clear hbz hall
              go_wp2_with fail
              refine Og.region2 (by kernel_rfl) (fun t => if t = 4 then some 15 else if 125 ≤ t ∧ t ≤ 139 then some (t - 125) else none) [.is (.int .i64 0), .is (.int .i64 0), .is (.bool false), .is (.bool false), .is (.pointer (some ⟨q, 0, none⟩)), .says (fun v w => ∃ a c, v = .slice a n1 c ∧ Sl w a (List.replicate n1 0)), .is (.string (strOfNums (List.replicate n1 0))), .is (.int .i64 (n1 : Int)), .says (fun v w => ∃ a c, v = .slice a n1 c ∧ Sl w a (List.replicate n1 0)), .is (.string (strOfNums (List.replicate n1 0))), .is (.bool true), .is (.bool true), .is (.bool true), .is (.bool true), .is (.bool true), .is (.bool true)] [true, true, true, true, true, true, true, true, true, true, true, true, true, true, true, true] (by kernel_rfl) ?_ ?_
              · refine ⟨?_, ?_, ?_, ?_, ?_, ?_, ?_, ?_, ?_, ?_, ?_, ?_, ?_, ?_, ?_, ?_, trivial⟩
                · refine ⟨rfl, fun ρ w1 hr hd => ?_⟩
                  obtain ⟨d0, _⟩ := hd
                  have d0 : ρ (.tmp 9) = .int .i64 0 := d0
                  refine (if_pos (by rfl)).mpr ?_
                  refine Og.gives_is (.int .i64 0) ?_ (And.intro (Below.refl _ _) rfl)
                  go_simp
                · refine ⟨rfl, fun ρ w1 hr hd => ?_⟩
                  obtain ⟨d0, d1, _⟩ := hd
                  have d0 : ρ (.func 14) = .func (.func 14) #[] #[] := d0
                  have d1 : ρ (.tmp 125) = .int .i64 0 := d1
                  refine (if_pos (by rfl)).mpr ?_
                  refine Og.gives_call 14 #[.int .i64 0] ?_ ?_
                  · go_simp
                  · exact (num_any _ w1).mono fun e w' ⟨he, hw⟩ => ⟨_, he, by subst hw; exact Below.refl _ _, rfl⟩
                · refine ⟨rfl, fun ρ w1 hr hd => ?_⟩
                  obtain ⟨d0, d1, _⟩ := hd
                  have d0 : ρ (.tmp 126) = .int .i64 0 := d0
                  have d1 : ρ (.const (.int .i64 0)) = .int .i64 0 := d1
                  refine (if_pos (by rfl)).mpr ?_
                  refine Og.gives_is (.bool false) ?_ (And.intro (Below.refl _ _) rfl)
                  go_simp
                · refine ⟨rfl, fun ρ w1 hr hd => ?_⟩
                  obtain ⟨d0, _⟩ := hd
                  have d0 : ρ (.tmp 127) = .bool false := d0
                  refine (if_pos (by rfl)).mpr ?_
                  refine Og.gives_is (.bool false) ?_ (And.intro (Below.refl _ _) rfl)
                  go_simp
                · refine ⟨fun v w hv => by (have hv' : v = .bool false := hv); subst hv'; exact (if_pos (by rfl)).mpr rfl, fun ρ w1 hr hd => ?_⟩
                  obtain ⟨d0, _⟩ := hd
                  have d0 : ρ (.tmp 8) = .pointer (some ⟨q, 0, none⟩) := d0
                  refine (if_pos (by rfl)).mpr ?_
                  refine Og.gives_is (.pointer (some ⟨q, 0, none⟩)) ?_ (And.intro (Below.refl _ _) rfl)
                  go_simp
                · refine ⟨fun v w hv => by (have hv' : v = .bool false := hv); subst hv'; exact (if_pos (by rfl)).mpr rfl, fun ρ w1 hr hd => ?_⟩
                  obtain ⟨d0, d1, _⟩ := hd
                  have d0 : ρ (.func 16) = .func (.func 16) #[] #[] := d0
                  have d1 : ρ (.tmp 129) = .pointer (some ⟨q, 0, none⟩) := d1
                  refine (if_pos (by rfl)).mpr ?_
                  refine Og.gives_call 16 #[.pointer (some ⟨q, 0, none⟩)] ?_ ?_
                  · go_simp
                  · refine (bytes_any q k (List.replicate n1 0) w1 (HY.out.old hr)).mono fun e w' ⟨v, he, hown, hb⟩ => ?_
                    rw [List.length_replicate] at hown
                    obtain ⟨a5, c5, hv, hsl, _, _⟩ := sl_own hown
                    exact ⟨v, he, hb, w', Below.refl _ _, a5, c5, hv, hsl⟩
                · refine ⟨fun v w hv => by (have hv' : v = .bool false := hv); subst hv'; exact (if_pos (by rfl)).mpr rfl, fun ρ w1 hr hd => ?_⟩
                  obtain ⟨d0, _⟩ := hd
                  have d0 : ∃ w1', Below w1'.heap.size w1' w1 ∧ (fun v w => ∃ a c, v = .slice a n1 c ∧ Sl w a (List.replicate n1 0)) (ρ (.tmp 130)) w1' := d0
                  obtain ⟨w2, hb2, a5, c5, d0, hs⟩ := d0
                  have cv := conv_sl w1 a5 n1 c5 (List.replicate n1 0) (hs.old hb2) (by simp)
                  refine (if_pos (by rfl)).mpr ?_
                  refine Og.gives_is (.string (strOfNums (List.replicate n1 0))) ?_ (And.intro (Below.refl _ _) rfl)
                  go_simp
                · refine ⟨fun v w hv => by (have hv' : v = .bool false := hv); subst hv'; exact (if_pos (by rfl)).mpr rfl, fun ρ w1 hr hd => ?_⟩
                  obtain ⟨d0, _⟩ := hd
                  have d0 : ρ (.tmp 1) = .int .i64 (n1 : Int) := d0
                  refine (if_pos (by rfl)).mpr ?_
                  refine Og.gives_is (.int .i64 (n1 : Int)) ?_ (And.intro (Below.refl _ _) rfl)
                  go_simp
                · refine ⟨fun v w hv => by (have hv' : v = .bool false := hv); subst hv'; exact (if_pos (by rfl)).mpr rfl, fun ρ w1 hr hd => ?_⟩
                  obtain ⟨d0, d1, _⟩ := hd
                  have d0 : ρ (.tmp 132) = .int .i64 (n1 : Int) := d0
                  have d1 : ρ (.tmp 132) = .int .i64 (n1 : Int) := d1
                  obtain ⟨i0, hi, hz0, hz1, hz2⟩ := info_parts info5
                  have hbn := Im.okB_bd HF.out
                  obtain ⟨w', hrun, hown, hgr⟩ := run_make_full (P := Try.prog) (w := w1) w1.heap.size 22 5 i0 (.int .u8 0) 1 Try.underlying22 hi hz0 hz1 .i64 .i64 n1 (by rw [hz2]; omega) (by unfold maxLen; omega) (Nat.le_refl _)
                  rw [made_zeros] at hown
                  obtain ⟨a5, c5, hv, hsl, _, _⟩ := sl_own hown
                  refine (if_pos (by rfl)).mpr ?_
                  refine Og.gives_new _ (w' := w') ?_ (And.intro (grown_below hgr) ⟨w', Below.refl _ _, a5, c5, hv, hsl⟩)
                  simp [execOp, d0, hrun, Result.andThen]
                · refine ⟨fun v w hv => by (have hv' : v = .bool false := hv); subst hv'; exact (if_pos (by rfl)).mpr rfl, fun ρ w1 hr hd => ?_⟩
                  obtain ⟨d0, _⟩ := hd
                  have d0 : ∃ w1', Below w1'.heap.size w1' w1 ∧ (fun v w => ∃ a c, v = .slice a n1 c ∧ Sl w a (List.replicate n1 0)) (ρ (.tmp 133)) w1' := d0
                  obtain ⟨w2, hb2, a5, c5, d0, hs⟩ := d0
                  have cv := conv_sl w1 a5 n1 c5 (List.replicate n1 0) (hs.old hb2) (by simp)
                  refine (if_pos (by rfl)).mpr ?_
                  refine Og.gives_is (.string (strOfNums (List.replicate n1 0))) ?_ (And.intro (Below.refl _ _) rfl)
                  go_simp
                · refine ⟨fun v w hv => by (have hv' : v = .bool false := hv); subst hv'; exact (if_pos (by rfl)).mpr rfl, fun ρ w1 hr hd => ?_⟩
                  obtain ⟨d0, d1, _⟩ := hd
                  have d0 : ρ (.tmp 131) = .string (strOfNums (List.replicate n1 0)) := d0
                  have d1 : ρ (.tmp 134) = .string (strOfNums (List.replicate n1 0)) := d1
                  refine (if_pos (by rfl)).mpr ?_
                  refine Og.gives_is (.bool true) ?_ (And.intro (Below.refl _ _) rfl)
                  go_simp
                · refine ⟨rfl, fun ρ w1 hr hd => ?_⟩
                  obtain ⟨d0, d1, d2, _⟩ := hd
                  have d0 : ρ (.tmp 128) = .bool false := d0
                  have d1 : ρ (.const (.bool true)) = .bool true := d1
                  have d2 : ρ (.tmp 135) = .bool true := d2
                  refine (if_pos (by rfl)).mpr ?_
                  refine Og.gives_is (.bool true) ?_ (And.intro (Below.refl _ _) rfl)
                  go_simp
                · refine ⟨rfl, fun ρ w1 hr hd => ?_⟩
                  obtain ⟨d0, _⟩ := hd
                  have d0 : ρ (.tmp 136) = .bool true := d0
                  refine (if_pos (by rfl)).mpr ?_
                  refine Og.gives_is (.bool true) ?_ (And.intro (Below.refl _ _) rfl)
                  go_simp
                · refine ⟨fun v w hv => by (have hv' : v = .bool true := hv); subst hv'; exact (if_pos (by rfl)).mpr rfl, fun ρ w1 hr hd => ?_⟩
                  obtain ⟨d0, _⟩ := hd
                  have d0 : ρ (.func 11) = .func (.func 11) #[] #[] := d0
                  refine (if_pos (by rfl)).mpr ?_
                  refine Og.gives_call 11 #[] ?_ ?_
                  · go_simp
                  · exact (works_any w1).mono fun e w' ⟨he, hb⟩ => ⟨_, he, hb, rfl⟩
                · refine ⟨rfl, fun ρ w1 hr hd => ?_⟩
                  obtain ⟨d0, d1, d2, _⟩ := hd
                  have d0 : ρ (.tmp 137) = .bool true := d0
                  have d1 : ρ (.tmp 138) = .bool true := d1
                  have d2 : ρ (.const (.bool false)) = .bool false := d2
                  refine (if_pos (by rfl)).mpr ?_
                  refine Og.gives_is (.bool true) ?_ (And.intro (Below.refl _ _) rfl)
                  go_simp
                · refine ⟨rfl, fun ρ w1 hr hd => ?_⟩
                  obtain ⟨d0, _⟩ := hd
                  have d0 : ρ (.tmp 139) = .bool true := d0
                  refine (if_pos (by rfl)).mpr ?_
                  refine Og.gives_is (.bool true) ?_ (And.intro (Below.refl _ _) rfl)
                  go_simp
              · intro a w1 hbz hdf hsz hall
                have hres : a.tmps.getD 4 undef = .bool true := hall 15 _ 4 rfl rfl
                go_wp2
                refine bodyPost_ret (v := .bool true) (by rw [results_tmp rfl]; rw [hres]) hdf ⟨rfl, below_tr HT.out hbz⟩
      · have hbe := Im.okB_bd hE
        have HE := Lib.hid hE; clear hE
        have HF := Lib.hid (show Im.okB a1 = false by simpa using hF); clear hF
        go_enter Try.func3, Try.ntmps3
        go_wp2_with (first
          | (at_builtin; refine wpList_append_own _ rfl (.tmp 15) (.tmp 16) 22 rfl w.heap.size 5 i0 (.int .u8 0) 1 1 Try.underlying22 I0.out Z0.out Z1.out Z2.out rfl (by decide) _ 0 [] rfl HO.out ad n0 c0 (Im.vals x0) rfl (by rw [len_vals, l0]; omega) HS.out (ints_oneCell .u8 x0) (by unfold maxLen; omega) (by omega) (by simp) ?_; intro v1 wx hown1 hg1 _; simp only [Nat.zero_add, List.nil_append] at hown1; have HO1 := Lib.hid hown1; have HB1 := Lib.hid (((Below.refl w.heap.size w).alloc (Nat.le_refl _) (.cells #[] 5)).grown hg1 (by simp) (fun k hk => by cases hk; exact Nat.le_refl _)); clear hown1 hg1)
          | (at_builtin; refine wpList_append_own _ rfl (.tmp 17) (.tmp 18) 22 rfl w.heap.size 5 i0 (.int .u8 0) 1 1 Try.underlying22 I0.out Z0.out Z1.out Z2.out rfl (by decide) v1 n0 (Im.vals x0) rfl (HO1.out.alloc _) ⟨wx.heap.size, 0, none⟩ 1 1 [.int .u8 77] rfl rfl (cell_one_new _ _ _) (ints_oneCell .u8 [77]) (by unfold maxLen; omega) (by omega) (by have := HB1.out.size; simp; omega) ?_; intro v2 wy hown2 hg2 _; rw [vals_snoc] at hown2; obtain ⟨gm, cap, rfl, hgm⟩ := own_at hown2 (by omega); have HCAP := own_cap hown2; have HO2 := Lib.hid hown2; have HGM := Lib.hid hgm; have HB := Lib.hid ((HB1.out.alloc HB1.out.size _).grown hg2 (by have := HB1.out.size; simp; omega) (fun k hk => (HO1.out.lt k hk).1)); clear hown2 hg2 hgm))
        have HSL := Lib.hid (sl_front HO2.out)
        have HGL := Lib.hid (own_lt HO2.out)
        refine (of_yes n0 cap _ x0 HE.out l0 B0.out.2 _ HSL.out).mono ?_
        rintro e wa ⟨p, h, rfl, hi, hp, hh, hb⟩
        have HX := Lib.hid hi; have HPH := Lib.hid (show gm < p ∧ gm < h from ⟨Nat.lt_of_lt_of_le HGL.out hp, Nat.lt_of_lt_of_le HGL.out hh⟩); have HBA := Lib.hid hb; clear hi hp hh hb
        have HO2A := Lib.hid (own_old HO2.out HBA.out)
        have HT := Lib.hid (below_tr HB.out HBA.out)
        have HGLA := Lib.hid (own_lt HO2A.out)
        go_wp2_with fail
        refine (new_no a1 hs HF.out _).mono ?_
        rintro e w' ⟨rfl, rfl⟩
        have HO3 := HO2A
        have cm := conv_sl wa _ n0 cap x0 (sl_front HO3.out) l0
        have cb := conv_sl wa (some ad) n0 c0 x0 (B0.out.1.old HT.out) l0
        have k77 := own_cell HO3.out (j := n0) (by omega)
        rw [show (x0 ++ [(77 : Int)]).getD n0 0 = 77 by rw [← l0]; simp [List.getD_eq_getElem?_getD]] at k77
        have hcap := HCAP
        go_wp2_with (first
          | (go_at_call 14; refine (num_any _ _).mono ?_; rintro e w' ⟨rfl, rfl⟩)
          | (go_at_call 15; refine (rsize_any _ (by omega) _).mono ?_; (first | rw [HE.out] | rw [HF.out]); rintro e w' ⟨rfl, rfl⟩))
        clear cm cb k77
        go_loopw [10] (fun i wr => ∃ (j : Nat) (zs : List Int), i = .int .i64 j ∧ j ≤ n0 ∧ Im.Byt zs ∧ wr.ownsRow w.heap.size 5 1 (.slice (some ⟨gm, 0, none⟩) (n0 + 1) cap) (n0 + 1) (Im.vals zs) ∧ wa.grownBy wr (some gm)) (fun i wr => n0 - (intOf i).toNat)
        case atStart => exact ⟨0, _, rfl, Nat.zero_le _, Im.byt_append B0.out.2 (by intro x hx; simp at hx; omega), HO3.out, World.grownBy.refl _ _⟩
        case round =>
          obtain ⟨j, zs, rfl, hj, hzb, hown, hgr⟩ := hrel
          have HZB := Lib.hid hzb; have HOW := Lib.hid hown; have HGR := Lib.hid hgr; clear hzb hown hgr
          by_cases hlt : j < n0
          · have hc := own_cell HOW.out (j := j) (by omega)
            have hf := own_frozen HOW.out j
            have hz := Im.getD_byt HZB.out j
            obtain ⟨z, ez⟩ : ∃ z, z = zs.getD j 0 := ⟨_, rfl⟩
            rw [← ez] at hc hz
            clear ez
            go_wp2
            go_roundw
            case rel => exact ⟨j + 1, zs.set j ((z + 1) % 256), by go_num, by omega, Im.byt_set HZB.out j (by omega), own_set HOW.out j _ (by omega), grownBy_set HGR.out j _⟩
            case measure => simp [intOf]; omega
          · have HT := Lib.hid (HT.out.grown HGR.out HT.out.size (fun k hk => by cases hk; exact HGM.out))
            have HX := Lib.hid (HX.out.kept HGR.out (by have := HPH.out; simp; omega) (by have := HPH.out; simp; omega))
            go_wp2_with fail
            refine Og.region3 (by kernel_rfl) (fun t => if 107 ≤ t ∧ t ≤ 124 then some (t - 107) else none) [.is (.int .i64 0), .is (.int .i64 0), .is (.bool true), .is (.bool true), .is (.pointer (some ⟨p, 0, none⟩)), .says (fun v w => ∃ a c, v = .slice a x0.length c ∧ Sl w a x0), .is (.string (strOfNums x0)), .is (.slice (some ad) n0 c0), .is (.string (strOfNums x0)), .is (.bool false), .is (.bool false), .is (.pointer (some ⟨p, 0, none⟩)), .is (.int .i64 (n0 : Int)), .is (.slice (some ad) n0 c0), .is (.int .i64 (n0 : Int)), .is (.bool false), .is (.bool false), .is (.bool false)] [true, true, true, true, true, true, true, true, true, true, true, true, true, true, true, true, true, true] (by kernel_rfl) ?_ ?_
            · refine ⟨?_, ?_, ?_, ?_, ?_, ?_, ?_, ?_, ?_, ?_, ?_, ?_, ?_, ?_, ?_, ?_, ?_, ?_, trivial⟩
              · refine ⟨rfl, fun ρ w1 hr hd => ?_⟩
                obtain ⟨d0, _⟩ := hd
                have d0 : ρ (.tmp 7) = .int .i64 0 := d0
                refine (if_pos (by rfl)).mpr ?_
                refine Og.gives_is (.int .i64 0) ?_ (And.intro (Below.refl _ _) rfl)
                go_simp
              · refine ⟨rfl, fun ρ w1 hr hd => ?_⟩
                obtain ⟨d0, d1, _⟩ := hd
                have d0 : ρ (.func 14) = .func (.func 14) #[] #[] := d0
                have d1 : ρ (.tmp 107) = .int .i64 0 := d1
                refine (if_pos (by rfl)).mpr ?_
                refine Og.gives_call 14 #[.int .i64 0] ?_ ?_
                · go_simp
                · exact (num_any _ w1).mono fun e w' ⟨he, hw⟩ => ⟨_, he, by subst hw; exact Below.refl _ _, rfl⟩
              · refine ⟨rfl, fun ρ w1 hr hd => ?_⟩
                obtain ⟨d0, d1, _⟩ := hd
                have d0 : ρ (.tmp 108) = .int .i64 0 := d0
                have d1 : ρ (.const (.int .i64 0)) = .int .i64 0 := d1
                refine (if_pos (by rfl)).mpr ?_
                refine Og.gives_is (.bool true) ?_ (And.intro (Below.refl _ _) rfl)
                go_simp
              · refine ⟨rfl, fun ρ w1 hr hd => ?_⟩
                obtain ⟨d0, _⟩ := hd
                have d0 : ρ (.tmp 109) = .bool true := d0
                refine (if_pos (by rfl)).mpr ?_
                refine Og.gives_is (.bool true) ?_ (And.intro (Below.refl _ _) rfl)
                go_simp
              · refine ⟨fun v w hv => by (have hv' : v = .bool true := hv); subst hv'; exact (if_pos (by rfl)).mpr rfl, fun ρ w1 hr hd => ?_⟩
                obtain ⟨d0, _⟩ := hd
                have d0 : ρ (.tmp 6) = .pointer (some ⟨p, 0, none⟩) := d0
                refine (if_pos (by rfl)).mpr ?_
                refine Og.gives_is (.pointer (some ⟨p, 0, none⟩)) ?_ (And.intro (Below.refl _ _) rfl)
                go_simp
              · refine ⟨fun v w hv => by (have hv' : v = .bool true := hv); subst hv'; exact (if_pos (by rfl)).mpr rfl, fun ρ w1 hr hd => ?_⟩
                obtain ⟨d0, d1, _⟩ := hd
                have d0 : ρ (.func 16) = .func (.func 16) #[] #[] := d0
                have d1 : ρ (.tmp 111) = .pointer (some ⟨p, 0, none⟩) := d1
                refine (if_pos (by rfl)).mpr ?_
                refine Og.gives_call 16 #[.pointer (some ⟨p, 0, none⟩)] ?_ ?_
                · go_simp
                · refine (bytes_any p h x0 w1 (HX.out.old hr)).mono fun e w' ⟨v, he, hown, hb⟩ => ?_
                  obtain ⟨a5, c5, hv, hsl, _, _⟩ := sl_own hown
                  exact ⟨v, he, hb, w', Below.refl _ _, a5, c5, hv, hsl⟩
              · refine ⟨fun v w hv => by (have hv' : v = .bool true := hv); subst hv'; exact (if_pos (by rfl)).mpr rfl, fun ρ w1 hr hd => ?_⟩
                obtain ⟨d0, _⟩ := hd
                have d0 : ∃ w1', Below w1'.heap.size w1' w1 ∧ (fun v w => ∃ a c, v = .slice a x0.length c ∧ Sl w a x0) (ρ (.tmp 112)) w1' := d0
                obtain ⟨w2, hb2, a5, c5, d0, hs⟩ := d0
                have cv := conv_sl w1 a5 n0 c5 x0 (hs.old hb2) l0
                rw [l0] at d0
                refine (if_pos (by rfl)).mpr ?_
                refine Og.gives_is (.string (strOfNums x0)) ?_ (And.intro (Below.refl _ _) rfl)
                go_simp
              · refine ⟨fun v w hv => by (have hv' : v = .bool true := hv); subst hv'; exact (if_pos (by rfl)).mpr rfl, fun ρ w1 hr hd => ?_⟩
                obtain ⟨d0, _⟩ := hd
                have d0 : ρ (.tmp 0) = .slice (some ad) n0 c0 := d0
                refine (if_pos (by rfl)).mpr ?_
                refine Og.gives_is (.slice (some ad) n0 c0) ?_ (And.intro (Below.refl _ _) rfl)
                go_simp
              · refine ⟨fun v w hv => by (have hv' : v = .bool true := hv); subst hv'; exact (if_pos (by rfl)).mpr rfl, fun ρ w1 hr hd => ?_⟩
                obtain ⟨d0, _⟩ := hd
                have d0 : ρ (.tmp 114) = .slice (some ad) n0 c0 := d0
                have cv := conv_sl w1 (some ad) n0 c0 x0 ((B0.out.1.old HT.out).old hr) l0
                refine (if_pos (by rfl)).mpr ?_
                refine Og.gives_is (.string (strOfNums x0)) ?_ (And.intro (Below.refl _ _) rfl)
                go_simp
              · refine ⟨fun v w hv => by (have hv' : v = .bool true := hv); subst hv'; exact (if_pos (by rfl)).mpr rfl, fun ρ w1 hr hd => ?_⟩
                obtain ⟨d0, d1, _⟩ := hd
                have d0 : ρ (.tmp 113) = .string (strOfNums x0) := d0
                have d1 : ρ (.tmp 115) = .string (strOfNums x0) := d1
                refine (if_pos (by rfl)).mpr ?_
                refine Og.gives_is (.bool false) ?_ (And.intro (Below.refl _ _) rfl)
                go_simp
              · refine ⟨fun v w hv => by (have hv' : v = .bool true := hv); subst hv'; exact (if_pos (by rfl)).mpr rfl, fun ρ w1 hr hd => ?_⟩
                obtain ⟨d0, _⟩ := hd
                have d0 : ρ (.tmp 116) = .bool false := d0
                refine (if_pos (by rfl)).mpr ?_
                refine Og.gives_is (.bool false) ?_ (And.intro (Below.refl _ _) rfl)
                go_simp
              · refine ⟨fun v w hv => by (have hv' : v = .bool false := hv); subst hv'; exact (if_pos (by rfl)).mpr rfl, fun ρ w1 hr hd => ?_⟩
                obtain ⟨d0, _⟩ := hd
                have d0 : ρ (.tmp 6) = .pointer (some ⟨p, 0, none⟩) := d0
                refine (if_pos (by rfl)).mpr ?_
                refine Og.gives_is (.pointer (some ⟨p, 0, none⟩)) ?_ (And.intro (Below.refl _ _) rfl)
                go_simp
              · refine ⟨fun v w hv => by (have hv' : v = .bool false := hv); subst hv'; exact (if_pos (by rfl)).mpr rfl, fun ρ w1 hr hd => ?_⟩
                obtain ⟨d0, d1, _⟩ := hd
                have d0 : ρ (.func 17) = .func (.func 17) #[] #[] := d0
                have d1 : ρ (.tmp 118) = .pointer (some ⟨p, 0, none⟩) := d1
                refine (if_pos (by rfl)).mpr ?_
                refine Og.gives_call 17 #[.pointer (some ⟨p, 0, none⟩)] ?_ ?_
                · go_simp
                · exact (size_any p h n0 w1 (by omega) (by have := (HX.out.old hr).cell; rw [l0] at this; exact this)).mono fun e w' ⟨he, hw⟩ => ⟨_, he, by subst hw; exact Below.refl _ _, rfl⟩
              · refine ⟨fun v w hv => by (have hv' : v = .bool false := hv); subst hv'; exact (if_pos (by rfl)).mpr rfl, fun ρ w1 hr hd => ?_⟩
                obtain ⟨d0, _⟩ := hd
                have d0 : ρ (.tmp 0) = .slice (some ad) n0 c0 := d0
                refine (if_pos (by rfl)).mpr ?_
                refine Og.gives_is (.slice (some ad) n0 c0) ?_ (And.intro (Below.refl _ _) rfl)
                go_simp
              · refine ⟨fun v w hv => by (have hv' : v = .bool false := hv); subst hv'; exact (if_pos (by rfl)).mpr rfl, fun ρ w1 hr hd => ?_⟩
                obtain ⟨d0, _⟩ := hd
                have d0 : ρ (.tmp 120) = .slice (some ad) n0 c0 := d0
                refine (if_pos (by rfl)).mpr ?_
                refine Og.gives_is (.int .i64 (n0 : Int)) ?_ (And.intro (Below.refl _ _) rfl)
                go_simp
              · refine ⟨fun v w hv => by (have hv' : v = .bool false := hv); subst hv'; exact (if_pos (by rfl)).mpr rfl, fun ρ w1 hr hd => ?_⟩
                obtain ⟨d0, d1, _⟩ := hd
                have d0 : ρ (.tmp 119) = .int .i64 (n0 : Int) := d0
                have d1 : ρ (.tmp 121) = .int .i64 (n0 : Int) := d1
                refine (if_pos (by rfl)).mpr ?_
                refine Og.gives_is (.bool false) ?_ (And.intro (Below.refl _ _) rfl)
                go_simp
              · refine ⟨fun v w hv => by (have hv' : v = .bool true := hv); subst hv'; exact (if_pos (by rfl)).mpr rfl, fun ρ w1 hr hd => ?_⟩
                obtain ⟨d0, d1, d2, _⟩ := hd
                have d0 : ρ (.tmp 117) = .bool false := d0
                have d1 : ρ (.const (.bool true)) = .bool true := d1
                have d2 : ρ (.tmp 122) = .bool false := d2
                refine (if_pos (by rfl)).mpr ?_
                refine Og.gives_is (.bool false) ?_ (And.intro (Below.refl _ _) rfl)
                go_simp
              · refine ⟨rfl, fun ρ w1 hr hd => ?_⟩
                obtain ⟨d0, d1, d2, _⟩ := hd
                have d0 : ρ (.tmp 110) = .bool true := d0
                have d1 : ρ (.tmp 123) = .bool false := d1
                have d2 : ρ (.const (.bool false)) = .bool false := d2
                refine (if_pos (by rfl)).mpr ?_
                refine Og.gives_is (.bool false) ?_ (And.intro (Below.refl _ _) rfl)
                go_simp
            · intro vs w1 hbz hall
              have v0 : vs 0 = .int .i64 0 := hall 0 _ 107 rfl rfl
              have v1 : vs 1 = .int .i64 0 := hall 1 _ 108 rfl rfl
              have v2 : vs 2 = .bool true := hall 2 _ 109 rfl rfl
              have v3 : vs 3 = .bool true := hall 3 _ 110 rfl rfl
              have v4 : vs 4 = .pointer (some ⟨p, 0, none⟩) := hall 4 _ 111 rfl rfl
              have v6 : vs 6 = .string (strOfNums x0) := hall 6 _ 113 rfl rfl
              have v7 : vs 7 = .slice (some ad) n0 c0 := hall 7 _ 114 rfl rfl
              have v8 : vs 8 = .string (strOfNums x0) := hall 8 _ 115 rfl rfl
              have v9 : vs 9 = .bool false := hall 9 _ 116 rfl rfl
              have v10 : vs 10 = .bool false := hall 10 _ 117 rfl rfl
              have v11 : vs 11 = .pointer (some ⟨p, 0, none⟩) := hall 11 _ 118 rfl rfl
              have v12 : vs 12 = .int .i64 (n0 : Int) := hall 12 _ 119 rfl rfl
              have v13 : vs 13 = .slice (some ad) n0 c0 := hall 13 _ 120 rfl rfl
              have v14 : vs 14 = .int .i64 (n0 : Int) := hall 14 _ 121 rfl rfl
              have v15 : vs 15 = .bool false := hall 15 _ 122 rfl rfl
              have v16 : vs 16 = .bool false := hall 16 _ 123 rfl rfl
              have v17 : vs 17 = .bool false := hall 17 _ 124 rfl rfl
              simp only [Og.putAll, Act.put, List.setIfInBounds_toArray, List.set_cons_zero, List.set_cons_succ, Nat.zero_add, Nat.reduceAdd, v0, v1, v2, v3, v4, v6, v7, v8, v9, v10, v11, v12, v13, v14, v15, v16, v17]
              clear v0 v1 v2 v3 v4 v6 v7 v8 v9 v10 v11 v12 v13 v14 v15 v16 v17
              have HT := Lib.hid (below_tr HT.out hbz)
              clear hbz hall
              go_wp2_with fail
              refine Og.region2 (by kernel_rfl) (fun t => if t = 4 then some 15 else if 125 ≤ t ∧ t ≤ 139 then some (t - 125) else none) [.is (.int .i64 2), .is (.int .i64 2), .is (.bool true), .is (.bool true), .is (undef), .is (undef), .is (undef), .is (undef), .is (undef), .is (undef), .is (undef), .is (.bool true), .is (.bool true), .is (.bool true), .is (.bool true), .is (.bool true)] [true, true, true, true, false, false, false, false, false, false, false, true, true, true, true, true] (by kernel_rfl) ?_ ?_
              · refine ⟨?_, ?_, ?_, ?_, ?_, ?_, ?_, ?_, ?_, ?_, ?_, ?_, ?_, ?_, ?_, ?_, trivial⟩
                · refine ⟨rfl, fun ρ w1 hr hd => ?_⟩
                  obtain ⟨d0, _⟩ := hd
                  have d0 : ρ (.tmp 9) = .int .i64 2 := d0
                  refine (if_pos (by rfl)).mpr ?_
                  refine Og.gives_is (.int .i64 2) ?_ (And.intro (Below.refl _ _) rfl)
                  go_simp
                · refine ⟨rfl, fun ρ w1 hr hd => ?_⟩
                  obtain ⟨d0, d1, _⟩ := hd
                  have d0 : ρ (.func 14) = .func (.func 14) #[] #[] := d0
                  have d1 : ρ (.tmp 125) = .int .i64 2 := d1
                  refine (if_pos (by rfl)).mpr ?_
                  refine Og.gives_call 14 #[.int .i64 2] ?_ ?_
                  · go_simp
                  · exact (num_any _ w1).mono fun e w' ⟨he, hw⟩ => ⟨_, he, by subst hw; exact Below.refl _ _, rfl⟩
                · refine ⟨rfl, fun ρ w1 hr hd => ?_⟩
                  obtain ⟨d0, d1, _⟩ := hd
                  have d0 : ρ (.tmp 126) = .int .i64 2 := d0
                  have d1 : ρ (.const (.int .i64 0)) = .int .i64 0 := d1
                  refine (if_pos (by rfl)).mpr ?_
                  refine Og.gives_is (.bool true) ?_ (And.intro (Below.refl _ _) rfl)
                  go_simp
                · refine ⟨rfl, fun ρ w1 hr hd => ?_⟩
                  obtain ⟨d0, _⟩ := hd
                  have d0 : ρ (.tmp 127) = .bool true := d0
                  refine (if_pos (by rfl)).mpr ?_
                  refine Og.gives_is (.bool true) ?_ (And.intro (Below.refl _ _) rfl)
                  go_simp
                · refine ⟨fun v w hv => by (have hv' : v = .bool true := hv); subst hv'; exact (if_neg (by exact Bool.false_ne_true)).mpr (fun h => by cases h), fun ρ w1 hr hd => ?_⟩
                  exact (if_neg (by exact Bool.false_ne_true)).mpr (rfl : undef = undef)
                · refine ⟨fun v w hv => by (have hv' : v = .bool true := hv); subst hv'; exact (if_neg (by exact Bool.false_ne_true)).mpr (fun h => by cases h), fun ρ w1 hr hd => ?_⟩
                  exact (if_neg (by exact Bool.false_ne_true)).mpr (rfl : undef = undef)
                · refine ⟨fun v w hv => by (have hv' : v = .bool true := hv); subst hv'; exact (if_neg (by exact Bool.false_ne_true)).mpr (fun h => by cases h), fun ρ w1 hr hd => ?_⟩
                  exact (if_neg (by exact Bool.false_ne_true)).mpr (rfl : undef = undef)
                · refine ⟨fun v w hv => by (have hv' : v = .bool true := hv); subst hv'; exact (if_neg (by exact Bool.false_ne_true)).mpr (fun h => by cases h), fun ρ w1 hr hd => ?_⟩
                  exact (if_neg (by exact Bool.false_ne_true)).mpr (rfl : undef = undef)
                · refine ⟨fun v w hv => by (have hv' : v = .bool true := hv); subst hv'; exact (if_neg (by exact Bool.false_ne_true)).mpr (fun h => by cases h), fun ρ w1 hr hd => ?_⟩
                  exact (if_neg (by exact Bool.false_ne_true)).mpr (rfl : undef = undef)
                · refine ⟨fun v w hv => by (have hv' : v = .bool true := hv); subst hv'; exact (if_neg (by exact Bool.false_ne_true)).mpr (fun h => by cases h), fun ρ w1 hr hd => ?_⟩
                  exact (if_neg (by exact Bool.false_ne_true)).mpr (rfl : undef = undef)
                · refine ⟨fun v w hv => by (have hv' : v = .bool true := hv); subst hv'; exact (if_neg (by exact Bool.false_ne_true)).mpr (fun h => by cases h), fun ρ w1 hr hd => ?_⟩
                  exact (if_neg (by exact Bool.false_ne_true)).mpr (rfl : undef = undef)
                · refine ⟨rfl, fun ρ w1 hr hd => ?_⟩
                  obtain ⟨d0, d1, d2, _⟩ := hd
                  have d0 : ρ (.tmp 128) = .bool true := d0
                  have d1 : ρ (.const (.bool true)) = .bool true := d1
                  have d2 : ρ (.tmp 135) = undef := d2
                  refine (if_pos (by rfl)).mpr ?_
                  refine Og.gives_is (.bool true) ?_ (And.intro (Below.refl _ _) rfl)
                  go_simp
                · refine ⟨rfl, fun ρ w1 hr hd => ?_⟩
                  obtain ⟨d0, _⟩ := hd
                  have d0 : ρ (.tmp 136) = .bool true := d0
                  refine (if_pos (by rfl)).mpr ?_
                  refine Og.gives_is (.bool true) ?_ (And.intro (Below.refl _ _) rfl)
                  go_simp
                · refine ⟨fun v w hv => by (have hv' : v = .bool true := hv); subst hv'; exact (if_pos (by rfl)).mpr rfl, fun ρ w1 hr hd => ?_⟩
                  obtain ⟨d0, _⟩ := hd
                  have d0 : ρ (.func 11) = .func (.func 11) #[] #[] := d0
                  refine (if_pos (by rfl)).mpr ?_
                  refine Og.gives_call 11 #[] ?_ ?_
                  · go_simp
                  · exact (works_any w1).mono fun e w' ⟨he, hb⟩ => ⟨_, he, hb, rfl⟩
                · refine ⟨rfl, fun ρ w1 hr hd => ?_⟩
                  obtain ⟨d0, d1, d2, _⟩ := hd
                  have d0 : ρ (.tmp 137) = .bool true := d0
                  have d1 : ρ (.tmp 138) = .bool true := d1
                  have d2 : ρ (.const (.bool false)) = .bool false := d2
                  refine (if_pos (by rfl)).mpr ?_
                  refine Og.gives_is (.bool true) ?_ (And.intro (Below.refl _ _) rfl)
                  go_simp
                · refine ⟨rfl, fun ρ w1 hr hd => ?_⟩
                  obtain ⟨d0, _⟩ := hd
                  have d0 : ρ (.tmp 139) = .bool true := d0
                  refine (if_pos (by rfl)).mpr ?_
                  refine Og.gives_is (.bool true) ?_ (And.intro (Below.refl _ _) rfl)
                  go_simp
              · intro a w1 hbz hdf hsz hall
                have hres : a.tmps.getD 4 undef = .bool true := hall 15 _ 4 rfl rfl
                go_wp2
                refine bodyPost_ret (v := .bool true) (by rw [results_tmp rfl]; rw [hres]) hdf ⟨rfl, below_tr HT.out hbz⟩
      · have HE := Lib.hid (show Im.okB (n0 : Int) = false by simpa using hE); clear hE
        obtain ⟨n1, rfl⟩ := Int.eq_ofNat_of_zero_le (show 0 ≤ a1 by have := Im.okB_bd hF; omega)
        have hbn := Im.okB_bd hF
        have HF := Lib.hid hF; clear hF
        go_enter Try.func3, Try.ntmps3
        go_wp2_with (first
          | (at_builtin; refine wpList_append_own _ rfl (.tmp 15) (.tmp 16) 22 rfl w.heap.size 5 i0 (.int .u8 0) 1 1 Try.underlying22 I0.out Z0.out Z1.out Z2.out rfl (by decide) _ 0 [] rfl HO.out ad n0 c0 (Im.vals x0) rfl (by rw [len_vals, l0]; omega) HS.out (ints_oneCell .u8 x0) (by unfold maxLen; omega) (by omega) (by simp) ?_; intro v1 wx hown1 hg1 _; simp only [Nat.zero_add, List.nil_append] at hown1; have HO1 := Lib.hid hown1; have HB1 := Lib.hid (((Below.refl w.heap.size w).alloc (Nat.le_refl _) (.cells #[] 5)).grown hg1 (by simp) (fun k hk => by cases hk; exact Nat.le_refl _)); clear hown1 hg1)
          | (at_builtin; refine wpList_append_own _ rfl (.tmp 17) (.tmp 18) 22 rfl w.heap.size 5 i0 (.int .u8 0) 1 1 Try.underlying22 I0.out Z0.out Z1.out Z2.out rfl (by decide) v1 n0 (Im.vals x0) rfl (HO1.out.alloc _) ⟨wx.heap.size, 0, none⟩ 1 1 [.int .u8 77] rfl rfl (cell_one_new _ _ _) (ints_oneCell .u8 [77]) (by unfold maxLen; omega) (by omega) (by have := HB1.out.size; simp; omega) ?_; intro v2 wy hown2 hg2 _; rw [vals_snoc] at hown2; obtain ⟨gm, cap, rfl, hgm⟩ := own_at hown2 (by omega); have HCAP := own_cap hown2; have HO2 := Lib.hid hown2; have HGM := Lib.hid hgm; have HB := Lib.hid ((HB1.out.alloc HB1.out.size _).grown hg2 (by have := HB1.out.size; simp; omega) (fun k hk => (HO1.out.lt k hk).1)); clear hown2 hg2 hgm))
        have HSL := Lib.hid (sl_front HO2.out)
        have HGL := Lib.hid (own_lt HO2.out)
        refine (of_no n0 cap _ HE.out (by omega) _).mono ?_
        rintro e wa ⟨rfl, hb⟩
        have HBA := Lib.hid hb; clear hb
        have HO2A := Lib.hid (own_old HO2.out HBA.out)
        have HT := Lib.hid (below_tr HB.out HBA.out)
        have HGLA := Lib.hid (own_lt HO2A.out)
        go_wp2_with fail
        refine (new_yes n1 HF.out _).mono ?_
        rintro e wb ⟨q, k, rfl, hi, hp, hh, hb⟩
        have HY := Lib.hid hi; have HQK := Lib.hid (show gm < q ∧ gm < k from ⟨Nat.lt_of_lt_of_le HGLA.out hp, Nat.lt_of_lt_of_le HGLA.out hh⟩); have HBB := Lib.hid hb; clear hi hp hh hb
        have HO3 := Lib.hid (own_old HO2A.out HBB.out)
        have HT := Lib.hid (below_tr HT.out HBB.out)
        have cm := conv_sl wb _ n0 cap x0 (sl_front HO3.out) l0
        have cb := conv_sl wb (some ad) n0 c0 x0 (B0.out.1.old HT.out) l0
        have k77 := own_cell HO3.out (j := n0) (by omega)
        rw [show (x0 ++ [(77 : Int)]).getD n0 0 = 77 by rw [← l0]; simp [List.getD_eq_getElem?_getD]] at k77
        have hcap := HCAP
        go_wp2_with (first
          | (go_at_call 14; refine (num_any _ _).mono ?_; rintro e w' ⟨rfl, rfl⟩)
          | (go_at_call 15; refine (rsize_any _ (by omega) _).mono ?_; (first | rw [HE.out] | rw [HF.out]); rintro e w' ⟨rfl, rfl⟩))
        clear cm cb k77
        go_loopw [10] (fun i wr => ∃ (j : Nat) (zs : List Int), i = .int .i64 j ∧ j ≤ n0 ∧ Im.Byt zs ∧ wr.ownsRow w.heap.size 5 1 (.slice (some ⟨gm, 0, none⟩) (n0 + 1) cap) (n0 + 1) (Im.vals zs) ∧ wb.grownBy wr (some gm)) (fun i wr => n0 - (intOf i).toNat)
        case atStart => exact ⟨0, _, rfl, Nat.zero_le _, Im.byt_append B0.out.2 (by intro x hx; simp at hx; omega), HO3.out, World.grownBy.refl _ _⟩
        case round =>
          obtain ⟨j, zs, rfl, hj, hzb, hown, hgr⟩ := hrel
          have HZB := Lib.hid hzb; have HOW := Lib.hid hown; have HGR := Lib.hid hgr; clear hzb hown hgr
          by_cases hlt : j < n0
          · have hc := own_cell HOW.out (j := j) (by omega)
            have hf := own_frozen HOW.out j
            have hz := Im.getD_byt HZB.out j
            obtain ⟨z, ez⟩ : ∃ z, z = zs.getD j 0 := ⟨_, rfl⟩
            rw [← ez] at hc hz
            clear ez
            go_wp2
            go_roundw
            case rel => exact ⟨j + 1, zs.set j ((z + 1) % 256), by go_num, by omega, Im.byt_set HZB.out j (by omega), own_set HOW.out j _ (by omega), grownBy_set HGR.out j _⟩
            case measure => simp [intOf]; omega
          · have HT := Lib.hid (HT.out.grown HGR.out HT.out.size (fun k hk => by cases hk; exact HGM.out))
            have HY := Lib.hid (HY.out.kept HGR.out (by have := HQK.out; simp; omega) (by have := HQK.out; simp; omega))
            go_wp2_with fail
            refine Og.region3 (by kernel_rfl) (fun t => if 107 ≤ t ∧ t ≤ 124 then some (t - 107) else none) [.is (.int .i64 2), .is (.int .i64 2), .is (.bool false), .is (.bool false), .is (undef), .is (undef), .is (undef), .is (undef), .is (undef), .is (undef), .is (undef), .is (undef), .is (undef), .is (undef), .is (undef), .is (undef), .is (undef), .is (.bool false)] [true, true, true, true, false, false, false, false, false, false, false, false, false, false, false, false, false, true] (by kernel_rfl) ?_ ?_
            · refine ⟨?_, ?_, ?_, ?_, ?_, ?_, ?_, ?_, ?_, ?_, ?_, ?_, ?_, ?_, ?_, ?_, ?_, ?_, trivial⟩
              · refine ⟨rfl, fun ρ w1 hr hd => ?_⟩
                obtain ⟨d0, _⟩ := hd
                have d0 : ρ (.tmp 7) = .int .i64 2 := d0
                refine (if_pos (by rfl)).mpr ?_
                refine Og.gives_is (.int .i64 2) ?_ (And.intro (Below.refl _ _) rfl)
                go_simp
              · refine ⟨rfl, fun ρ w1 hr hd => ?_⟩
                obtain ⟨d0, d1, _⟩ := hd
                have d0 : ρ (.func 14) = .func (.func 14) #[] #[] := d0
                have d1 : ρ (.tmp 107) = .int .i64 2 := d1
                refine (if_pos (by rfl)).mpr ?_
                refine Og.gives_call 14 #[.int .i64 2] ?_ ?_
                · go_simp
                · exact (num_any _ w1).mono fun e w' ⟨he, hw⟩ => ⟨_, he, by subst hw; exact Below.refl _ _, rfl⟩
              · refine ⟨rfl, fun ρ w1 hr hd => ?_⟩
                obtain ⟨d0, d1, _⟩ := hd
                have d0 : ρ (.tmp 108) = .int .i64 2 := d0
                have d1 : ρ (.const (.int .i64 0)) = .int .i64 0 := d1
                refine (if_pos (by rfl)).mpr ?_
                refine Og.gives_is (.bool false) ?_ (And.intro (Below.refl _ _) rfl)
                go_simp
              · refine ⟨rfl, fun ρ w1 hr hd => ?_⟩
                obtain ⟨d0, _⟩ := hd
                have d0 : ρ (.tmp 109) = .bool false := d0
                refine (if_pos (by rfl)).mpr ?_
                refine Og.gives_is (.bool false) ?_ (And.intro (Below.refl _ _) rfl)
                go_simp
              · refine ⟨fun v w hv => by (have hv' : v = .bool false := hv); subst hv'; exact (if_neg (by exact Bool.false_ne_true)).mpr (fun h => by cases h), fun ρ w1 hr hd => ?_⟩
                exact (if_neg (by exact Bool.false_ne_true)).mpr (rfl : undef = undef)
              · refine ⟨fun v w hv => by (have hv' : v = .bool false := hv); subst hv'; exact (if_neg (by exact Bool.false_ne_true)).mpr (fun h => by cases h), fun ρ w1 hr hd => ?_⟩
                exact (if_neg (by exact Bool.false_ne_true)).mpr (rfl : undef = undef)
              · refine ⟨fun v w hv => by (have hv' : v = .bool false := hv); subst hv'; exact (if_neg (by exact Bool.false_ne_true)).mpr (fun h => by cases h), fun ρ w1 hr hd => ?_⟩
                exact (if_neg (by exact Bool.false_ne_true)).mpr (rfl : undef = undef)
              · refine ⟨fun v w hv => by (have hv' : v = .bool false := hv); subst hv'; exact (if_neg (by exact Bool.false_ne_true)).mpr (fun h => by cases h), fun ρ w1 hr hd => ?_⟩
                exact (if_neg (by exact Bool.false_ne_true)).mpr (rfl : undef = undef)
              · refine ⟨fun v w hv => by (have hv' : v = .bool false := hv); subst hv'; exact (if_neg (by exact Bool.false_ne_true)).mpr (fun h => by cases h), fun ρ w1 hr hd => ?_⟩
                exact (if_neg (by exact Bool.false_ne_true)).mpr (rfl : undef = undef)
              · refine ⟨fun v w hv => by (have hv' : v = .bool false := hv); subst hv'; exact (if_neg (by exact Bool.false_ne_true)).mpr (fun h => by cases h), fun ρ w1 hr hd => ?_⟩
                exact (if_neg (by exact Bool.false_ne_true)).mpr (rfl : undef = undef)
              · refine ⟨fun v w hv => by (have hv' : v = .bool false := hv); subst hv'; exact (if_neg (by exact Bool.false_ne_true)).mpr (fun h => by cases h), fun ρ w1 hr hd => ?_⟩
                exact (if_neg (by exact Bool.false_ne_true)).mpr (rfl : undef = undef)
              · refine ⟨fun v w hv => by (have hv' : v = undef := hv); subst hv'; exact (if_neg (by exact Bool.false_ne_true)).mpr (fun h => by simp [undef] at h), fun ρ w1 hr hd => ?_⟩
                exact (if_neg (by exact Bool.false_ne_true)).mpr (rfl : undef = undef)
              · refine ⟨fun v w hv => by (have hv' : v = undef := hv); subst hv'; exact (if_neg (by exact Bool.false_ne_true)).mpr (fun h => by simp [undef] at h), fun ρ w1 hr hd => ?_⟩
                exact (if_neg (by exact Bool.false_ne_true)).mpr (rfl : undef = undef)
              · refine ⟨fun v w hv => by (have hv' : v = undef := hv); subst hv'; exact (if_neg (by exact Bool.false_ne_true)).mpr (fun h => by simp [undef] at h), fun ρ w1 hr hd => ?_⟩
                exact (if_neg (by exact Bool.false_ne_true)).mpr (rfl : undef = undef)
              · refine ⟨fun v w hv => by (have hv' : v = undef := hv); subst hv'; exact (if_neg (by exact Bool.false_ne_true)).mpr (fun h => by simp [undef] at h), fun ρ w1 hr hd => ?_⟩
                exact (if_neg (by exact Bool.false_ne_true)).mpr (rfl : undef = undef)
              · refine ⟨fun v w hv => by (have hv' : v = undef := hv); subst hv'; exact (if_neg (by exact Bool.false_ne_true)).mpr (fun h => by simp [undef] at h), fun ρ w1 hr hd => ?_⟩
                exact (if_neg (by exact Bool.false_ne_true)).mpr (rfl : undef = undef)
              · refine ⟨fun v w hv => by (have hv' : v = .bool false := hv); subst hv'; exact (if_neg (by exact Bool.false_ne_true)).mpr (fun h => by cases h), fun ρ w1 hr hd => ?_⟩
                exact (if_neg (by exact Bool.false_ne_true)).mpr (rfl : undef = undef)
              · refine ⟨rfl, fun ρ w1 hr hd => ?_⟩
                obtain ⟨d0, d1, d2, _⟩ := hd
                have d0 : ρ (.tmp 110) = .bool false := d0
                have d1 : ρ (.tmp 123) = undef := d1
                have d2 : ρ (.const (.bool false)) = .bool false := d2
                refine (if_pos (by rfl)).mpr ?_
                refine Og.gives_is (.bool false) ?_ (And.intro (Below.refl _ _) rfl)
                go_simp
            · intro vs w1 hbz hall
              have v0 : vs 0 = .int .i64 2 := hall 0 _ 107 rfl rfl
              have v1 : vs 1 = .int .i64 2 := hall 1 _ 108 rfl rfl
              have v2 : vs 2 = .bool false := hall 2 _ 109 rfl rfl
              have v3 : vs 3 = .bool false := hall 3 _ 110 rfl rfl
              have v4 : vs 4 = undef := hall 4 _ 111 rfl rfl
              have v5 : vs 5 = undef := hall 5 _ 112 rfl rfl
              have v6 : vs 6 = undef := hall 6 _ 113 rfl rfl
              have v7 : vs 7 = undef := hall 7 _ 114 rfl rfl
              have v8 : vs 8 = undef := hall 8 _ 115 rfl rfl
              have v9 : vs 9 = undef := hall 9 _ 116 rfl rfl
              have v10 : vs 10 = undef := hall 10 _ 117 rfl rfl
              have v11 : vs 11 = undef := hall 11 _ 118 rfl rfl
              have v12 : vs 12 = undef := hall 12 _ 119 rfl rfl
              have v13 : vs 13 = undef := hall 13 _ 120 rfl rfl
              have v14 : vs 14 = undef := hall 14 _ 121 rfl rfl
              have v15 : vs 15 = undef := hall 15 _ 122 rfl rfl
              have v16 : vs 16 = undef := hall 16 _ 123 rfl rfl
              have v17 : vs 17 = .bool false := hall 17 _ 124 rfl rfl
              simp only [Og.putAll, Act.put, List.setIfInBounds_toArray, List.set_cons_zero, List.set_cons_succ, Nat.zero_add, Nat.reduceAdd, v0, v1, v2, v3, v4, v5, v6, v7, v8, v9, v10, v11, v12, v13, v14, v15, v16, v17]
              clear v0 v1 v2 v3 v4 v5 v6 v7 v8 v9 v10 v11 v12 v13 v14 v15 v16 v17
              have HT := Lib.hid (below_tr HT.out hbz)
              have HY := Lib.hid (HY.out.old hbz)
              clear hbz hall
              go_wp2_with fail
              refine Og.region2 (by kernel_rfl) (fun t => if t = 4 then some 15 else if 125 ≤ t ∧ t ≤ 139 then some (t - 125) else none) [.is (.int .i64 0), .is (.int .i64 0), .is (.bool false), .is (.bool false), .is (.pointer (some ⟨q, 0, none⟩)), .says (fun v w => ∃ a c, v = .slice a n1 c ∧ Sl w a (List.replicate n1 0)), .is (.string (strOfNums (List.replicate n1 0))), .is (.int .i64 (n1 : Int)), .says (fun v w => ∃ a c, v = .slice a n1 c ∧ Sl w a (List.replicate n1 0)), .is (.string (strOfNums (List.replicate n1 0))), .is (.bool true), .is (.bool true), .is (.bool true), .is (.bool true), .is (.bool true), .is (.bool true)] [true, true, true, true, true, true, true, true, true, true, true, true, true, true, true, true] (by kernel_rfl) ?_ ?_
              · refine ⟨?_, ?_, ?_, ?_, ?_, ?_, ?_, ?_, ?_, ?_, ?_, ?_, ?_, ?_, ?_, ?_, trivial⟩
                · refine ⟨rfl, fun ρ w1 hr hd => ?_⟩
                  obtain ⟨d0, _⟩ := hd
                  have d0 : ρ (.tmp 9) = .int .i64 0 := d0
                  refine (if_pos (by rfl)).mpr ?_
                  refine Og.gives_is (.int .i64 0) ?_ (And.intro (Below.refl _ _) rfl)
                  go_simp
                · refine ⟨rfl, fun ρ w1 hr hd => ?_⟩
                  obtain ⟨d0, d1, _⟩ := hd
                  have d0 : ρ (.func 14) = .func (.func 14) #[] #[] := d0
                  have d1 : ρ (.tmp 125) = .int .i64 0 := d1
                  refine (if_pos (by rfl)).mpr ?_
                  refine Og.gives_call 14 #[.int .i64 0] ?_ ?_
                  · go_simp
                  · exact (num_any _ w1).mono fun e w' ⟨he, hw⟩ => ⟨_, he, by subst hw; exact Below.refl _ _, rfl⟩
                · refine ⟨rfl, fun ρ w1 hr hd => ?_⟩
                  obtain ⟨d0, d1, _⟩ := hd
                  have d0 : ρ (.tmp 126) = .int .i64 0 := d0
                  have d1 : ρ (.const (.int .i64 0)) = .int .i64 0 := d1
                  refine (if_pos (by rfl)).mpr ?_
                  refine Og.gives_is (.bool false) ?_ (And.intro (Below.refl _ _) rfl)
                  go_simp
                · refine ⟨rfl, fun ρ w1 hr hd => ?_⟩
                  obtain ⟨d0, _⟩ := hd
                  have d0 : ρ (.tmp 127) = .bool false := d0
                  refine (if_pos (by rfl)).mpr ?_
                  refine Og.gives_is (.bool false) ?_ (And.intro (Below.refl _ _) rfl)
                  go_simp
                · refine ⟨fun v w hv => by (have hv' : v = .bool false := hv); subst hv'; exact (if_pos (by rfl)).mpr rfl, fun ρ w1 hr hd => ?_⟩
                  obtain ⟨d0, _⟩ := hd
                  have d0 : ρ (.tmp 8) = .pointer (some ⟨q, 0, none⟩) := d0
                  refine (if_pos (by rfl)).mpr ?_
                  refine Og.gives_is (.pointer (some ⟨q, 0, none⟩)) ?_ (And.intro (Below.refl _ _) rfl)
                  go_simp
                · refine ⟨fun v w hv => by (have hv' : v = .bool false := hv); subst hv'; exact (if_pos (by rfl)).mpr rfl, fun ρ w1 hr hd => ?_⟩
                  obtain ⟨d0, d1, _⟩ := hd
                  have d0 : ρ (.func 16) = .func (.func 16) #[] #[] := d0
                  have d1 : ρ (.tmp 129) = .pointer (some ⟨q, 0, none⟩) := d1
                  refine (if_pos (by rfl)).mpr ?_
                  refine Og.gives_call 16 #[.pointer (some ⟨q, 0, none⟩)] ?_ ?_
                  · go_simp
                  · refine (bytes_any q k (List.replicate n1 0) w1 (HY.out.old hr)).mono fun e w' ⟨v, he, hown, hb⟩ => ?_
                    rw [List.length_replicate] at hown
                    obtain ⟨a5, c5, hv, hsl, _, _⟩ := sl_own hown
                    exact ⟨v, he, hb, w', Below.refl _ _, a5, c5, hv, hsl⟩
                · refine ⟨fun v w hv => by (have hv' : v = .bool false := hv); subst hv'; exact (if_pos (by rfl)).mpr rfl, fun ρ w1 hr hd => ?_⟩
                  obtain ⟨d0, _⟩ := hd
                  have d0 : ∃ w1', Below w1'.heap.size w1' w1 ∧ (fun v w => ∃ a c, v = .slice a n1 c ∧ Sl w a (List.replicate n1 0)) (ρ (.tmp 130)) w1' := d0
                  obtain ⟨w2, hb2, a5, c5, d0, hs⟩ := d0
                  have cv := conv_sl w1 a5 n1 c5 (List.replicate n1 0) (hs.old hb2) (by simp)
                  refine (if_pos (by rfl)).mpr ?_
                  refine Og.gives_is (.string (strOfNums (List.replicate n1 0))) ?_ (And.intro (Below.refl _ _) rfl)
                  go_simp
                · refine ⟨fun v w hv => by (have hv' : v = .bool false := hv); subst hv'; exact (if_pos (by rfl)).mpr rfl, fun ρ w1 hr hd => ?_⟩
                  obtain ⟨d0, _⟩ := hd
                  have d0 : ρ (.tmp 1) = .int .i64 (n1 : Int) := d0
                  refine (if_pos (by rfl)).mpr ?_
                  refine Og.gives_is (.int .i64 (n1 : Int)) ?_ (And.intro (Below.refl _ _) rfl)
                  go_simp
                · refine ⟨fun v w hv => by (have hv' : v = .bool false := hv); subst hv'; exact (if_pos (by rfl)).mpr rfl, fun ρ w1 hr hd => ?_⟩
                  obtain ⟨d0, d1, _⟩ := hd
                  have d0 : ρ (.tmp 132) = .int .i64 (n1 : Int) := d0
                  have d1 : ρ (.tmp 132) = .int .i64 (n1 : Int) := d1
                  obtain ⟨i0, hi, hz0, hz1, hz2⟩ := info_parts info5
                  have hbn := Im.okB_bd HF.out
                  obtain ⟨w', hrun, hown, hgr⟩ := run_make_full (P := Try.prog) (w := w1) w1.heap.size 22 5 i0 (.int .u8 0) 1 Try.underlying22 hi hz0 hz1 .i64 .i64 n1 (by rw [hz2]; omega) (by unfold maxLen; omega) (Nat.le_refl _)
                  rw [made_zeros] at hown
                  obtain ⟨a5, c5, hv, hsl, _, _⟩ := sl_own hown
                  refine (if_pos (by rfl)).mpr ?_
                  refine Og.gives_new _ (w' := w') ?_ (And.intro (grown_below hgr) ⟨w', Below.refl _ _, a5, c5, hv, hsl⟩)
                  simp [execOp, d0, hrun, Result.andThen]
                · refine ⟨fun v w hv => by (have hv' : v = .bool false := hv); subst hv'; exact (if_pos (by rfl)).mpr rfl, fun ρ w1 hr hd => ?_⟩
                  obtain ⟨d0, _⟩ := hd
                  have d0 : ∃ w1', Below w1'.heap.size w1' w1 ∧ (fun v w => ∃ a c, v = .slice a n1 c ∧ Sl w a (List.replicate n1 0)) (ρ (.tmp 133)) w1' := d0
                  obtain ⟨w2, hb2, a5, c5, d0, hs⟩ := d0
                  have cv := conv_sl w1 a5 n1 c5 (List.replicate n1 0) (hs.old hb2) (by simp)
                  refine (if_pos (by rfl)).mpr ?_
                  refine Og.gives_is (.string (strOfNums (List.replicate n1 0))) ?_ (And.intro (Below.refl _ _) rfl)
                  go_simp
                · refine ⟨fun v w hv => by (have hv' : v = .bool false := hv); subst hv'; exact (if_pos (by rfl)).mpr rfl, fun ρ w1 hr hd => ?_⟩
                  obtain ⟨d0, d1, _⟩ := hd
                  have d0 : ρ (.tmp 131) = .string (strOfNums (List.replicate n1 0)) := d0
                  have d1 : ρ (.tmp 134) = .string (strOfNums (List.replicate n1 0)) := d1
                  refine (if_pos (by rfl)).mpr ?_
                  refine Og.gives_is (.bool true) ?_ (And.intro (Below.refl _ _) rfl)
                  go_simp
                · refine ⟨rfl, fun ρ w1 hr hd => ?_⟩
                  obtain ⟨d0, d1, d2, _⟩ := hd
                  have d0 : ρ (.tmp 128) = .bool false := d0
                  have d1 : ρ (.const (.bool true)) = .bool true := d1
                  have d2 : ρ (.tmp 135) = .bool true := d2
                  refine (if_pos (by rfl)).mpr ?_
                  refine Og.gives_is (.bool true) ?_ (And.intro (Below.refl _ _) rfl)
                  go_simp
                · refine ⟨rfl, fun ρ w1 hr hd => ?_⟩
                  obtain ⟨d0, _⟩ := hd
                  have d0 : ρ (.tmp 136) = .bool true := d0
                  refine (if_pos (by rfl)).mpr ?_
                  refine Og.gives_is (.bool true) ?_ (And.intro (Below.refl _ _) rfl)
                  go_simp
                · refine ⟨fun v w hv => by (have hv' : v = .bool true := hv); subst hv'; exact (if_pos (by rfl)).mpr rfl, fun ρ w1 hr hd => ?_⟩
                  obtain ⟨d0, _⟩ := hd
                  have d0 : ρ (.func 11) = .func (.func 11) #[] #[] := d0
                  refine (if_pos (by rfl)).mpr ?_
                  refine Og.gives_call 11 #[] ?_ ?_
                  · go_simp
                  · exact (works_any w1).mono fun e w' ⟨he, hb⟩ => ⟨_, he, hb, rfl⟩
                · refine ⟨rfl, fun ρ w1 hr hd => ?_⟩
                  obtain ⟨d0, d1, d2, _⟩ := hd
                  have d0 : ρ (.tmp 137) = .bool true := d0
                  have d1 : ρ (.tmp 138) = .bool true := d1
                  have d2 : ρ (.const (.bool false)) = .bool false := d2
                  refine (if_pos (by rfl)).mpr ?_
                  refine Og.gives_is (.bool true) ?_ (And.intro (Below.refl _ _) rfl)
                  go_simp
                · refine ⟨rfl, fun ρ w1 hr hd => ?_⟩
                  obtain ⟨d0, _⟩ := hd
                  have d0 : ρ (.tmp 139) = .bool true := d0
                  refine (if_pos (by rfl)).mpr ?_
                  refine Og.gives_is (.bool true) ?_ (And.intro (Below.refl _ _) rfl)
                  go_simp
              · intro a w1 hbz hdf hsz hall
                have hres : a.tmps.getD 4 undef = .bool true := hall 15 _ 4 rfl rfl
                go_wp2
                refine bodyPost_ret (v := .bool true) (by rw [results_tmp rfl]; rw [hres]) hdf ⟨rfl, below_tr HT.out hbz⟩
      · have HE := Lib.hid (show Im.okB (n0 : Int) = false by simpa using hE); clear hE
        have HF := Lib.hid (show Im.okB a1 = false by simpa using hF); clear hF
        go_enter Try.func3, Try.ntmps3
        go_wp2_with (first
          | (at_builtin; refine wpList_append_own _ rfl (.tmp 15) (.tmp 16) 22 rfl w.heap.size 5 i0 (.int .u8 0) 1 1 Try.underlying22 I0.out Z0.out Z1.out Z2.out rfl (by decide) _ 0 [] rfl HO.out ad n0 c0 (Im.vals x0) rfl (by rw [len_vals, l0]; omega) HS.out (ints_oneCell .u8 x0) (by unfold maxLen; omega) (by omega) (by simp) ?_; intro v1 wx hown1 hg1 _; simp only [Nat.zero_add, List.nil_append] at hown1; have HO1 := Lib.hid hown1; have HB1 := Lib.hid (((Below.refl w.heap.size w).alloc (Nat.le_refl _) (.cells #[] 5)).grown hg1 (by simp) (fun k hk => by cases hk; exact Nat.le_refl _)); clear hown1 hg1)
          | (at_builtin; refine wpList_append_own _ rfl (.tmp 17) (.tmp 18) 22 rfl w.heap.size 5 i0 (.int .u8 0) 1 1 Try.underlying22 I0.out Z0.out Z1.out Z2.out rfl (by decide) v1 n0 (Im.vals x0) rfl (HO1.out.alloc _) ⟨wx.heap.size, 0, none⟩ 1 1 [.int .u8 77] rfl rfl (cell_one_new _ _ _) (ints_oneCell .u8 [77]) (by unfold maxLen; omega) (by omega) (by have := HB1.out.size; simp; omega) ?_; intro v2 wy hown2 hg2 _; rw [vals_snoc] at hown2; obtain ⟨gm, cap, rfl, hgm⟩ := own_at hown2 (by omega); have HCAP := own_cap hown2; have HO2 := Lib.hid hown2; have HGM := Lib.hid hgm; have HB := Lib.hid ((HB1.out.alloc HB1.out.size _).grown hg2 (by have := HB1.out.size; simp; omega) (fun k hk => (HO1.out.lt k hk).1)); clear hown2 hg2 hgm))
        have HSL := Lib.hid (sl_front HO2.out)
        have HGL := Lib.hid (own_lt HO2.out)
        refine (of_no n0 cap _ HE.out (by omega) _).mono ?_
        rintro e wa ⟨rfl, hb⟩
        have HBA := Lib.hid hb; clear hb
        have HO2A := Lib.hid (own_old HO2.out HBA.out)
        have HT := Lib.hid (below_tr HB.out HBA.out)
        have HGLA := Lib.hid (own_lt HO2A.out)
        go_wp2_with fail
        refine (new_no a1 hs HF.out _).mono ?_
        rintro e w' ⟨rfl, rfl⟩
        have HO3 := HO2A
        have cm := conv_sl wa _ n0 cap x0 (sl_front HO3.out) l0
        have cb := conv_sl wa (some ad) n0 c0 x0 (B0.out.1.old HT.out) l0
        have k77 := own_cell HO3.out (j := n0) (by omega)
        rw [show (x0 ++ [(77 : Int)]).getD n0 0 = 77 by rw [← l0]; simp [List.getD_eq_getElem?_getD]] at k77
        have hcap := HCAP
        go_wp2_with (first
          | (go_at_call 14; refine (num_any _ _).mono ?_; rintro e w' ⟨rfl, rfl⟩)
          | (go_at_call 15; refine (rsize_any _ (by omega) _).mono ?_; (first | rw [HE.out] | rw [HF.out]); rintro e w' ⟨rfl, rfl⟩))
        clear cm cb k77
        go_loopw [10] (fun i wr => ∃ (j : Nat) (zs : List Int), i = .int .i64 j ∧ j ≤ n0 ∧ Im.Byt zs ∧ wr.ownsRow w.heap.size 5 1 (.slice (some ⟨gm, 0, none⟩) (n0 + 1) cap) (n0 + 1) (Im.vals zs) ∧ wa.grownBy wr (some gm)) (fun i wr => n0 - (intOf i).toNat)
        case atStart => exact ⟨0, _, rfl, Nat.zero_le _, Im.byt_append B0.out.2 (by intro x hx; simp at hx; omega), HO3.out, World.grownBy.refl _ _⟩
        case round =>
          obtain ⟨j, zs, rfl, hj, hzb, hown, hgr⟩ := hrel
          have HZB := Lib.hid hzb; have HOW := Lib.hid hown; have HGR := Lib.hid hgr; clear hzb hown hgr
          by_cases hlt : j < n0
          · have hc := own_cell HOW.out (j := j) (by omega)
            have hf := own_frozen HOW.out j
            have hz := Im.getD_byt HZB.out j
            obtain ⟨z, ez⟩ : ∃ z, z = zs.getD j 0 := ⟨_, rfl⟩
            rw [← ez] at hc hz
            clear ez
            go_wp2
            go_roundw
            case rel => exact ⟨j + 1, zs.set j ((z + 1) % 256), by go_num, by omega, Im.byt_set HZB.out j (by omega), own_set HOW.out j _ (by omega), grownBy_set HGR.out j _⟩
            case measure => simp [intOf]; omega
          · have HT := Lib.hid (HT.out.grown HGR.out HT.out.size (fun k hk => by cases hk; exact HGM.out))
            go_wp2_with fail
            refine Og.region3 (by kernel_rfl) (fun t => if 107 ≤ t ∧ t ≤ 124 then some (t - 107) else none) [.is (.int .i64 2), .is (.int .i64 2), .is (.bool false), .is (.bool false), .is (undef), .is (undef), .is (undef), .is (undef), .is (undef), .is (undef), .is (undef), .is (undef), .is (undef), .is (undef), .is (undef), .is (undef), .is (undef), .is (.bool false)] [true, true, true, true, false, false, false, false, false, false, false, false, false, false, false, false, false, true] (by kernel_rfl) ?_ ?_
            · refine ⟨?_, ?_, ?_, ?_, ?_, ?_, ?_, ?_, ?_, ?_, ?_, ?_, ?_, ?_, ?_, ?_, ?_, ?_, trivial⟩
              · refine ⟨rfl, fun ρ w1 hr hd => ?_⟩
                obtain ⟨d0, _⟩ := hd
                have d0 : ρ (.tmp 7) = .int .i64 2 := d0
                refine (if_pos (by rfl)).mpr ?_
                refine Og.gives_is (.int .i64 2) ?_ (And.intro (Below.refl _ _) rfl)
                go_simp
              · refine ⟨rfl, fun ρ w1 hr hd => ?_⟩
                obtain ⟨d0, d1, _⟩ := hd
                have d0 : ρ (.func 14) = .func (.func 14) #[] #[] := d0
                have d1 : ρ (.tmp 107) = .int .i64 2 := d1
                refine (if_pos (by rfl)).mpr ?_
                refine Og.gives_call 14 #[.int .i64 2] ?_ ?_
                · go_simp
                · exact (num_any _ w1).mono fun e w' ⟨he, hw⟩ => ⟨_, he, by subst hw; exact Below.refl _ _, rfl⟩
              · refine ⟨rfl, fun ρ w1 hr hd => ?_⟩
                obtain ⟨d0, d1, _⟩ := hd
                have d0 : ρ (.tmp 108) = .int .i64 2 := d0
                have d1 : ρ (.const (.int .i64 0)) = .int .i64 0 := d1
                refine (if_pos (by rfl)).mpr ?_
                refine Og.gives_is (.bool false) ?_ (And.intro (Below.refl _ _) rfl)
                go_simp
              · refine ⟨rfl, fun ρ w1 hr hd => ?_⟩
                obtain ⟨d0, _⟩ := hd
                have d0 : ρ (.tmp 109) = .bool false := d0
                refine (if_pos (by rfl)).mpr ?_
                refine Og.gives_is (.bool false) ?_ (And.intro (Below.refl _ _) rfl)
                go_simp
              · refine ⟨fun v w hv => by (have hv' : v = .bool false := hv); subst hv'; exact (if_neg (by exact Bool.false_ne_true)).mpr (fun h => by cases h), fun ρ w1 hr hd => ?_⟩
                exact (if_neg (by exact Bool.false_ne_true)).mpr (rfl : undef = undef)
              · refine ⟨fun v w hv => by (have hv' : v = .bool false := hv); subst hv'; exact (if_neg (by exact Bool.false_ne_true)).mpr (fun h => by cases h), fun ρ w1 hr hd => ?_⟩
                exact (if_neg (by exact Bool.false_ne_true)).mpr (rfl : undef = undef)
              · refine ⟨fun v w hv => by (have hv' : v = .bool false := hv); subst hv'; exact (if_neg (by exact Bool.false_ne_true)).mpr (fun h => by cases h), fun ρ w1 hr hd => ?_⟩
                exact (if_neg (by exact Bool.false_ne_true)).mpr (rfl : undef = undef)
              · refine ⟨fun v w hv => by (have hv' : v = .bool false := hv); subst hv'; exact (if_neg (by exact Bool.false_ne_true)).mpr (fun h => by cases h), fun ρ w1 hr hd => ?_⟩
                exact (if_neg (by exact Bool.false_ne_true)).mpr (rfl : undef = undef)
              · refine ⟨fun v w hv => by (have hv' : v = .bool false := hv); subst hv'; exact (if_neg (by exact Bool.false_ne_true)).mpr (fun h => by cases h), fun ρ w1 hr hd => ?_⟩
                exact (if_neg (by exact Bool.false_ne_true)).mpr (rfl : undef = undef)
              · refine ⟨fun v w hv => by (have hv' : v = .bool false := hv); subst hv'; exact (if_neg (by exact Bool.false_ne_true)).mpr (fun h => by cases h), fun ρ w1 hr hd => ?_⟩
                exact (if_neg (by exact Bool.false_ne_true)).mpr (rfl : undef = undef)
              · refine ⟨fun v w hv => by (have hv' : v = .bool false := hv); subst hv'; exact (if_neg (by exact Bool.false_ne_true)).mpr (fun h => by cases h), fun ρ w1 hr hd => ?_⟩
                exact (if_neg (by exact Bool.false_ne_true)).mpr (rfl : undef = undef)
              · refine ⟨fun v w hv => by (have hv' : v = undef := hv); subst hv'; exact (if_neg (by exact Bool.false_ne_true)).mpr (fun h => by simp [undef] at h), fun ρ w1 hr hd => ?_⟩
                exact (if_neg (by exact Bool.false_ne_true)).mpr (rfl : undef = undef)
              · refine ⟨fun v w hv => by (have hv' : v = undef := hv); subst hv'; exact (if_neg (by exact Bool.false_ne_true)).mpr (fun h => by simp [undef] at h), fun ρ w1 hr hd => ?_⟩
                exact (if_neg (by exact Bool.false_ne_true)).mpr (rfl : undef = undef)
              · refine ⟨fun v w hv => by (have hv' : v = undef := hv); subst hv'; exact (if_neg (by exact Bool.false_ne_true)).mpr (fun h => by simp [undef] at h), fun ρ w1 hr hd => ?_⟩
                exact (if_neg (by exact Bool.false_ne_true)).mpr (rfl : undef = undef)
              · refine ⟨fun v w hv => by (have hv' : v = undef := hv); subst hv'; exact (if_neg (by exact Bool.false_ne_true)).mpr (fun h => by simp [undef] at h), fun ρ w1 hr hd => ?_⟩
                exact (if_neg (by exact Bool.false_ne_true)).mpr (rfl : undef = undef)
              · refine ⟨fun v w hv => by (have hv' : v = undef := hv); subst hv'; exact (if_neg (by exact Bool.false_ne_true)).mpr (fun h => by simp [undef] at h), fun ρ w1 hr hd => ?_⟩
                exact (if_neg (by exact Bool.false_ne_true)).mpr (rfl : undef = undef)
              · refine ⟨fun v w hv => by (have hv' : v = .bool false := hv); subst hv'; exact (if_neg (by exact Bool.false_ne_true)).mpr (fun h => by cases h), fun ρ w1 hr hd => ?_⟩
                exact (if_neg (by exact Bool.false_ne_true)).mpr (rfl : undef = undef)
              · refine ⟨rfl, fun ρ w1 hr hd => ?_⟩
                obtain ⟨d0, d1, d2, _⟩ := hd
                have d0 : ρ (.tmp 110) = .bool false := d0
                have d1 : ρ (.tmp 123) = undef := d1
                have d2 : ρ (.const (.bool false)) = .bool false := d2
                refine (if_pos (by rfl)).mpr ?_
                refine Og.gives_is (.bool false) ?_ (And.intro (Below.refl _ _) rfl)
                go_simp
            · intro vs w1 hbz hall
              have v0 : vs 0 = .int .i64 2 := hall 0 _ 107 rfl rfl
              have v1 : vs 1 = .int .i64 2 := hall 1 _ 108 rfl rfl
              have v2 : vs 2 = .bool false := hall 2 _ 109 rfl rfl
              have v3 : vs 3 = .bool false := hall 3 _ 110 rfl rfl
              have v4 : vs 4 = undef := hall 4 _ 111 rfl rfl
              have v5 : vs 5 = undef := hall 5 _ 112 rfl rfl
              have v6 : vs 6 = undef := hall 6 _ 113 rfl rfl
              have v7 : vs 7 = undef := hall 7 _ 114 rfl rfl
              have v8 : vs 8 = undef := hall 8 _ 115 rfl rfl
              have v9 : vs 9 = undef := hall 9 _ 116 rfl rfl
              have v10 : vs 10 = undef := hall 10 _ 117 rfl rfl
              have v11 : vs 11 = undef := hall 11 _ 118 rfl rfl
              have v12 : vs 12 = undef := hall 12 _ 119 rfl rfl
              have v13 : vs 13 = undef := hall 13 _ 120 rfl rfl
              have v14 : vs 14 = undef := hall 14 _ 121 rfl rfl
              have v15 : vs 15 = undef := hall 15 _ 122 rfl rfl
              have v16 : vs 16 = undef := hall 16 _ 123 rfl rfl
              have v17 : vs 17 = .bool false := hall 17 _ 124 rfl rfl
              simp only [Og.putAll, Act.put, List.setIfInBounds_toArray, List.set_cons_zero, List.set_cons_succ, Nat.zero_add, Nat.reduceAdd, v0, v1, v2, v3, v4, v5, v6, v7, v8, v9, v10, v11, v12, v13, v14, v15, v16, v17]
              clear v0 v1 v2 v3 v4 v5 v6 v7 v8 v9 v10 v11 v12 v13 v14 v15 v16 v17
              have HT := Lib.hid (below_tr HT.out hbz)
              clear hbz hall
              go_wp2_with fail
              refine Og.region2 (by kernel_rfl) (fun t => if t = 4 then some 15 else if 125 ≤ t ∧ t ≤ 139 then some (t - 125) else none) [.is (.int .i64 2), .is (.int .i64 2), .is (.bool true), .is (.bool true), .is (undef), .is (undef), .is (undef), .is (undef), .is (undef), .is (undef), .is (undef), .is (.bool true), .is (.bool true), .is (.bool true), .is (.bool true), .is (.bool true)] [true, true, true, true, false, false, false, false, false, false, false, true, true, true, true, true] (by kernel_rfl) ?_ ?_
              · refine ⟨?_, ?_, ?_, ?_, ?_, ?_, ?_, ?_, ?_, ?_, ?_, ?_, ?_, ?_, ?_, ?_, trivial⟩
                · refine ⟨rfl, fun ρ w1 hr hd => ?_⟩
                  obtain ⟨d0, _⟩ := hd
                  have d0 : ρ (.tmp 9) = .int .i64 2 := d0
                  refine (if_pos (by rfl)).mpr ?_
                  refine Og.gives_is (.int .i64 2) ?_ (And.intro (Below.refl _ _) rfl)
                  go_simp
                · refine ⟨rfl, fun ρ w1 hr hd => ?_⟩
                  obtain ⟨d0, d1, _⟩ := hd
                  have d0 : ρ (.func 14) = .func (.func 14) #[] #[] := d0
                  have d1 : ρ (.tmp 125) = .int .i64 2 := d1
                  refine (if_pos (by rfl)).mpr ?_
                  refine Og.gives_call 14 #[.int .i64 2] ?_ ?_
                  · go_simp
                  · exact (num_any _ w1).mono fun e w' ⟨he, hw⟩ => ⟨_, he, by subst hw; exact Below.refl _ _, rfl⟩
                · refine ⟨rfl, fun ρ w1 hr hd => ?_⟩
                  obtain ⟨d0, d1, _⟩ := hd
                  have d0 : ρ (.tmp 126) = .int .i64 2 := d0
                  have d1 : ρ (.const (.int .i64 0)) = .int .i64 0 := d1
                  refine (if_pos (by rfl)).mpr ?_
                  refine Og.gives_is (.bool true) ?_ (And.intro (Below.refl _ _) rfl)
                  go_simp
                · refine ⟨rfl, fun ρ w1 hr hd => ?_⟩
                  obtain ⟨d0, _⟩ := hd
                  have d0 : ρ (.tmp 127) = .bool true := d0
                  refine (if_pos (by rfl)).mpr ?_
                  refine Og.gives_is (.bool true) ?_ (And.intro (Below.refl _ _) rfl)
                  go_simp
                · refine ⟨fun v w hv => by (have hv' : v = .bool true := hv); subst hv'; exact (if_neg (by exact Bool.false_ne_true)).mpr (fun h => by cases h), fun ρ w1 hr hd => ?_⟩
                  exact (if_neg (by exact Bool.false_ne_true)).mpr (rfl : undef = undef)
                · refine ⟨fun v w hv => by (have hv' : v = .bool true := hv); subst hv'; exact (if_neg (by exact Bool.false_ne_true)).mpr (fun h => by cases h), fun ρ w1 hr hd => ?_⟩
                  exact (if_neg (by exact Bool.false_ne_true)).mpr (rfl : undef = undef)
                · refine ⟨fun v w hv => by (have hv' : v = .bool true := hv); subst hv'; exact (if_neg (by exact Bool.false_ne_true)).mpr (fun h => by cases h), fun ρ w1 hr hd => ?_⟩
                  exact (if_neg (by exact Bool.false_ne_true)).mpr (rfl : undef = undef)
                · refine ⟨fun v w hv => by (have hv' : v = .bool true := hv); subst hv'; exact (if_neg (by exact Bool.false_ne_true)).mpr (fun h => by cases h), fun ρ w1 hr hd => ?_⟩
                  exact (if_neg (by exact Bool.false_ne_true)).mpr (rfl : undef = undef)
                · refine ⟨fun v w hv => by (have hv' : v = .bool true := hv); subst hv'; exact (if_neg (by exact Bool.false_ne_true)).mpr (fun h => by cases h), fun ρ w1 hr hd => ?_⟩
                  exact (if_neg (by exact Bool.false_ne_true)).mpr (rfl : undef = undef)
                · refine ⟨fun v w hv => by (have hv' : v = .bool true := hv); subst hv'; exact (if_neg (by exact Bool.false_ne_true)).mpr (fun h => by cases h), fun ρ w1 hr hd => ?_⟩
                  exact (if_neg (by exact Bool.false_ne_true)).mpr (rfl : undef = undef)
                · refine ⟨fun v w hv => by (have hv' : v = .bool true := hv); subst hv'; exact (if_neg (by exact Bool.false_ne_true)).mpr (fun h => by cases h), fun ρ w1 hr hd => ?_⟩
                  exact (if_neg (by exact Bool.false_ne_true)).mpr (rfl : undef = undef)
                · refine ⟨rfl, fun ρ w1 hr hd => ?_⟩
                  obtain ⟨d0, d1, d2, _⟩ := hd
                  have d0 : ρ (.tmp 128) = .bool true := d0
                  have d1 : ρ (.const (.bool true)) = .bool true := d1
                  have d2 : ρ (.tmp 135) = undef := d2
                  refine (if_pos (by rfl)).mpr ?_
                  refine Og.gives_is (.bool true) ?_ (And.intro (Below.refl _ _) rfl)
                  go_simp
                · refine ⟨rfl, fun ρ w1 hr hd => ?_⟩
                  obtain ⟨d0, _⟩ := hd
                  have d0 : ρ (.tmp 136) = .bool true := d0
                  refine (if_pos (by rfl)).mpr ?_
                  refine Og.gives_is (.bool true) ?_ (And.intro (Below.refl _ _) rfl)
                  go_simp
                · refine ⟨fun v w hv => by (have hv' : v = .bool true := hv); subst hv'; exact (if_pos (by rfl)).mpr rfl, fun ρ w1 hr hd => ?_⟩
                  obtain ⟨d0, _⟩ := hd
                  have d0 : ρ (.func 11) = .func (.func 11) #[] #[] := d0
                  refine (if_pos (by rfl)).mpr ?_
                  refine Og.gives_call 11 #[] ?_ ?_
                  · go_simp
                  · exact (works_any w1).mono fun e w' ⟨he, hb⟩ => ⟨_, he, hb, rfl⟩
                · refine ⟨rfl, fun ρ w1 hr hd => ?_⟩
                  obtain ⟨d0, d1, d2, _⟩ := hd
                  have d0 : ρ (.tmp 137) = .bool true := d0
                  have d1 : ρ (.tmp 138) = .bool true := d1
                  have d2 : ρ (.const (.bool false)) = .bool false := d2
                  refine (if_pos (by rfl)).mpr ?_
                  refine Og.gives_is (.bool true) ?_ (And.intro (Below.refl _ _) rfl)
                  go_simp
                · refine ⟨rfl, fun ρ w1 hr hd => ?_⟩
                  obtain ⟨d0, _⟩ := hd
                  have d0 : ρ (.tmp 139) = .bool true := d0
                  refine (if_pos (by rfl)).mpr ?_
                  refine Og.gives_is (.bool true) ?_ (And.intro (Below.refl _ _) rfl)
                  go_simp
              · intro a w1 hbz hdf hsz hall
                have hres : a.tmps.getD 4 undef = .bool true := hall 15 _ 4 rfl rfl
                go_wp2
                refine bodyPost_ret (v := .bool true) (by rw [results_tmp rfl]; rw [hres]) hdf ⟨rfl, below_tr HT.out hbz⟩

/-! THE ROW -/
set_option maxRecDepth 100000 in
theorem lifted (os : Os) (started : os.Started) (H : Type) (enc : TypeId × Value → H) :
    ReturnsInHanded {} Try.checked os 3 .any (Rows.imageMakesSpec.pre6 enc Try.prog Try.f3 Rows.imageMakesRow.domain false) (Rows.imageMakesSpec.post enc Try.prog Try.f3 false true false false) := by
  refine returnsInHanded_of_change (C := Try.checked) own started (by kernel_rfl) Try.func3
    (ChangeSpec.witness6 (enc := enc) (C := Try.checked) false ⟨#[], #[.slice none 0 0, .int .i64 0], []⟩ 8 (by kernel_rfl) (by kernel_rfl) (by kernel_rfl) (by kernel_rfl)) ?_
  intro W base args ds gs before hval0 hW hcnd _
  have hval : ∀ (j : Nat) t v, Try.f3.params[j]? = some t → args[j]? = some v → Value.okWide Try.prog W .any base t v := hval0
  have hW' := hW
  obtain ⟨p, q, hA0, hV, rfl, hfz, hnd⟩ := hW
  have hA : DataW.TrodAll enc Try.prog W 0 (fun _ => true) true Try.f3.params.toList args.toList ds p := hA0
  rw [Try.params3] at hA hval
  obtain ⟨v0, vs0, d0, ds0, p0, q0, hargs, rfl, rfl, h0, r0⟩ := trodAll_cons hA
  obtain ⟨v1, vs1, d1, ds1, p1, q1, rfl, rfl, rfl, h1, r1⟩ := trodAll_cons r0
  obtain ⟨rfl, rfl, rfl⟩ := trodAll_nil r1
  obtain rfl : args = #[v0, v1] := by cases args; simp_all
  obtain ⟨rfl, rfl⟩ := trodVars_none hV
  clear hA0 hval0
  simp only [List.append_nil] at hW'
  have hlt : ∀ x ∈ p0 ++ (p1), x.block < W.heap.size := fun x hx => by simpa using hW'.lt x (by simpa using hx)
  obtain ⟨a0, n0, c0, rfl⟩ := okWide_slice Try.underlying22 (hval 0 22 v0 rfl rfl)
  obtain ⟨x0, l0, m0, b0⟩ := open_bytes h0
  have z0 := nil_cap h0
  have h1k := h1
  obtain ⟨a1, rfl, rfl, rfl, w1⟩ := open_int Try.underlying3 (hval 1 3 v1 rfl rfl) h1
  refine (walk W a0 n0 c0 x0 l0 m0 b0 z0 a1 w1).mono fun e W' ⟨he, hb⟩ => ?_
  subst he
  have harg0 : DataW.Trod enc Try.prog W' 0 (fun b => decide (b < W.heap.size)) true 22 _ _ _ := Below.trod laidOut (by kernel_rfl) (of_decide_eq_true (by kernel_rfl)) h0 hb (fun x hx => hlt x (by simp [hx]))
  have harg1 : DataW.Trod enc Try.prog W' 0 (fun b => decide (b < W.heap.size)) true 3 _ _ _ := Below.trod laidOut (by kernel_rfl) (of_decide_eq_true (by kernel_rfl)) h1k hb (fun x hx => by cases hx)
  exact ⟨_, rfl, _, _, _, [], _, [], hW', trodAll_mk1 (shut_bool Try.underlying4 _), (trodAll_cons_mk harg0 (trodAll_cons_mk harg1 trodAll_mk0)), rfl, hb.frame _, fun h => by cases h⟩

theorem over : Rows.imageMakesRow.holds Try.pinned (OpenSpec.ofChange Rows.imageMakesSpec) :=
  OpenClaim.holds_of_wide 3 Try.f3 rfl rfl rfl rfl rfl rfl rfl ⟨rfl, rfl, rfl, rfl, rfl⟩ rfl rfl rfl rfl rfl (by kernel_rfl) Try.func3 (by kernel_rfl)
    (of_decide_eq_true (by kernel_rfl)) (by unfold Func.isWrapper; first | (rw [if_pos (by decide +kernel)]; kernel_rfl) | (rw [if_neg (by decide +kernel)]; exact ⟨rfl, rfl⟩))
    (fun os started H enc _ => lifted os started H enc)

/-- THE STATEMENT -/
theorem proved : Rows.ImageMakesSaid :=
  over
end Go.Proofs.Ytchjcfmmnfimlaa.imageMakes
