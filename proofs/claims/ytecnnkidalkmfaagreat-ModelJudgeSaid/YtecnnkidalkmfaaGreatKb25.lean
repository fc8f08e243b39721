import Derived.Test.YtecnnkidalkmfaaGreatKb21
import Derived.Test.YtecnnkidalkmfaaGreatKb24
import Derived.Test.YtecnnkidalkmfaaGreatKb20
import Derived.Test.YtecnnkidalkmfaaGreatKb10
set_option linter.unusedVariables false
set_option linter.unusedSimpArgs false

section
namespace Go.Proofs.YtecnnkidalkmfaaGreat
open Go.RowKit
namespace Ev
end Ev
theorem Ev.own_mono {w : World} {B B' : Nat} {e : TypeId} {size n : Nat} {v : Value} {xs : List Value} (h : w.ownsRow B e size v n xs) (hB : B' ≤ B) : w.ownsRow B' e size v n xs :=
  ⟨h.1, h.2.imp id fun ⟨g, cap, cur, e1, e2, r⟩ => ⟨g, cap, cur, e1, Nat.le_trans hB e2, r⟩⟩
set_option maxRecDepth 100000 in
set_option maxHeartbeats 4000000 in
theorem rpairs1_own (x : Ev.X) (w : World) (hin : Ev.XIn w x) (hck : Ev.check x = 0) :
    Calls Tryz.prog 23 #[Ev.exV x, .int .i64 1] w fun e w' => ∃ a c, e = .returned (.slice a (Ev.pl (Ev.isPo x) x.ev.length x.ev.length).length c) ∧ w'.ownsRow w.heap.size 72 2 (.slice a (Ev.pl (Ev.isPo x) x.ev.length x.ev.length).length c) (Ev.pl (Ev.isPo x) x.ev.length x.ev.length).length ((Ev.pl (Ev.isPo x) x.ev.length x.ev.length).flatMap Ev.pv) ∧ Below w.heap.size w w' := by
  obtain ⟨IS, hIS⟩ : ∃ IS : Nat → Nat → Bool, (Ev.isPo x) = IS := ⟨_, rfl⟩
  have HIS := Lib.hid hIS
  have hn64 : x.ev.length ≤ 64 := (Ev.check_order hck).2.2
  have hl1 := hin.ev.le; have hl2 := hin.ev.max
  have HCK := Lib.hid hck
  have HFL := Lib.hid (check_from hck)
  obtain ⟨B, hB⟩ : ∃ B, B = w.alloc (Obj.cells (Ev.xcells x).toArray 26) := ⟨_, rfl⟩
  have HB := Lib.hid hB
  have B0 := Lib.hid (show Below w.heap.size w B by rw [hB]; exact (Below.refl w.heap.size w).alloc (Nat.le_refl _) _)
  have HX := Lib.hid (show Ev.XIn B x from hin.kp (Ev.kp_below B0.out))
  have RX := Lib.hid (show B.heap[w.heap.size]? = some (.cells (Ev.xcells x).toArray 26 (0, 0)) by rw [hB]; exact heap_alloc_new _ _)
  obtain ⟨i0, hi, hz0, hz1, hz2⟩ := info_pair
  have HI := Lib.hid hi; have HZ0 := Lib.hid hz0; have HZ1 := Lib.hid hz1; have HZ2 := Lib.hid hz2; clear hi hz0 hz1 hz2
  rw [hIS]
  clear hin hB hck hIS
  unfold Ev.exV Ev.xcells
  go_enter Tryz.func23, Tryz.ntmps23
  go_wp2
  rw [show w.alloc (Obj.cells #[Value.slice x.ae x.ev.length x.ce, Value.slice x.fr.a x.fr.l.length x.fr.c, Value.slice x.ao x.od.length x.co] 26) = B from HB.out.symm]
  go_loopw [5, 7, 8, 9, 24, 30, 36, 42, 48, 54] (fun v i _ _ _ _ _ _ _ _ wr => ∃ a : Nat, a ≤ x.ev.length ∧ i = .int .i64 (a : Int) ∧ wr.ownsRow B.heap.size 72 2 v (Ev.pl IS x.ev.length a).length ((Ev.pl IS x.ev.length a).flatMap Ev.pv) ∧ Below B.heap.size B wr) (fun _ i _ _ _ _ _ _ _ _ _ => x.ev.length - (intOf i).toNat)
  case atStart => exact ⟨0, Nat.zero_le _, rfl, World.ownsRow_nil _ _ _ _, Below.refl _ _⟩
  case round =>
    obtain ⟨a, ha, rfl, hrow, hbr⟩ := hrel
    have HROW := Lib.hid hrow; have HBR := Lib.hid hbr
    clear hrow hbr
    by_cases hlt : a < x.ev.length
    · have hai : (a : Int) < (x.ev.length : Int) := by omega
      go_wp2
      go_loopw [5, 8, 9, 24, 30, 36, 42, 48, 54] (fun v j _ _ _ _ _ _ _ w3 => ∃ q : Nat, q ≤ x.ev.length ∧ j = .int .i64 (q : Int) ∧ w3.ownsRow B.heap.size 72 2 v (Ev.pl IS x.ev.length a ++ Ev.rowL IS a (List.range q)).length ((Ev.pl IS x.ev.length a ++ Ev.rowL IS a (List.range q)).flatMap Ev.pv) ∧ Below B.heap.size B w3) (fun _ j _ _ _ _ _ _ _ _ => x.ev.length - (intOf j).toNat)
      case atStart => exact ⟨0, Nat.zero_le _, rfl, by simpa [Ev.rowL] using HROW.out, HBR.out⟩
      case round =>
        obtain ⟨q, hq, rfl, hrow3, hb3⟩ := hrel
        have HR3 := Lib.hid hrow3; have HB3 := Lib.hid hb3
        clear hrow3 hb3
        by_cases hql : q < x.ev.length
        · have hqi : (q : Int) < (x.ev.length : Int) := by omega
          obtain ⟨v, hv⟩ : ∃ v, IS a q = v := ⟨_, rfl⟩
          have HV := Lib.hid hv
          have HV2 := Lib.hid (show Ev.isPo x a q = v by rw [← hv, ← HIS.out])
          have HRS := Lib.hid (show Ev.rowL IS a (List.range (q + 1)) = Ev.rowL IS a (List.range q) ++ if v then [(a, q)] else [] by rw [Ev.rowL_succ, hv])
          have RX3 := Lib.hid ((HB3.out.block w.heap.size (Array.getElem?_eq_some_iff.1 RX.out).1).trans RX.out)
          have hlen : (Ev.pl IS x.ev.length a ++ Ev.rowL IS a (List.range q)).length ≤ 4160 := by
            have h1 := Ev.pl_len IS x.ev.length a
            have h2 := Ev.rowL_len IS a q
            have h3 : a * x.ev.length ≤ 64 * 64 := Nat.mul_le_mul (by omega) hn64
            rw [List.length_append]; omega
          clear hv
          go_wp2_with ((with_reducible show wpList _ _ _ (Oper.mk (some 26) _ _ _ _ _ :: _) _ _); refine wpList_load_row rfl 26 (.tmp 2) rfl w.heap.size (by kernel_rfl) 26 (Ev.xcells x).toArray (0, 0) _ RX3.out Tryz.underlying26 rfl (by kernel_rfl) ?_)
          refine (rpo_any x a q hlt hql _ (HX.out.kp (Ev.kp_below HB3.out))).mono ?_
          rintro e W4 ⟨rfl, hb4⟩
          rw [HV2.out]
          have HB4 := Lib.hid (HB3.out.trans (hb4.mono HB3.out.size))
          have HR4 := Lib.hid (Ev.row_below HR3.out hb4)
          clear hb4
          cases v
          · go_wp2_with fail
            go_roundw
            case rel => exact ⟨q + 1, by omega, by go_num, by rw [HRS.out]; simpa using HR4.out, HB4.out⟩
            case measure => simp [intOf]; omega
          · go_wp2_with ((with_reducible show wpList _ _ _ (Oper.mk (some 99) _ _ _ _ _ :: _) _ _); refine wpList_append_own _ rfl (.tmp 94) (.tmp 98) 37 rfl B.heap.size 72 i0 (.agg #[.int .i64 0, .int .i64 0]) 2 16 Tryz.underlying37 HI.out HZ0.out HZ1.out HZ2.out rfl (by decide) _ _ _ rfl (HR4.out.alloc _) ⟨W4.heap.size, 0, none⟩ 1 1 (Ev.pv (a, q)) rfl rfl (fun j u hu => World.news_of_block (heap_alloc_new W4 _) j u hu) (Ev.pv_one _) (by unfold maxLen; omega) (by omega) (by have := HB4.out.size; simp only [World.size_alloc]; omega) ?_
                         intro v' w5 hown hgrow _
                         have HOWN := Lib.hid hown; have HGR := Lib.hid hgrow; clear hown hgrow)
            have HB5 := Lib.hid (Below.grown (HB4.out.alloc HB4.out.size _) HGR.out (by have := HB4.out.size; simp only [World.size_alloc]; omega) (fun k hk => Ev.own_ge HR4.out hk))
            go_roundw
            case rel =>
              refine ⟨q + 1, by omega, by go_num, ?_, HB5.out⟩
              have := HOWN.out
              have hrs : Ev.rowL IS a (List.range (q + 1)) = Ev.rowL IS a (List.range q) ++ [(a, q)] := by have h := HRS.out; simpa using h
              rw [hrs, ← List.append_assoc, List.length_append, List.flatMap_append]
              simpa using this
            case measure => simp [intOf]; omega
        · have hqe : q = x.ev.length := by omega
          have hqi : ¬ (q : Int) < (x.ev.length : Int) := by omega
          have HE := Lib.hid (show wr.ownsRow B.heap.size 72 2 u5 (Ev.pl IS x.ev.length (a + 1)).length ((Ev.pl IS x.ev.length (a + 1)).flatMap Ev.pv) by rw [Ev.pl_succ, ← hqe]; have := HR3.out; rwa [hqe] at this ⊢)
          clear hqe
          go_wp2
          go_roundw
          case rel => exact ⟨a + 1, by omega, by go_num, HE.out, HB3.out⟩
          case measure => simp [intOf]; omega
    · have han : a = x.ev.length := by omega
      have hai : ¬ (a : Int) < (x.ev.length : Int) := by omega
      have hrow := HROW.out
      rw [han] at hrow
      obtain ⟨A, c, hv, hp⟩ := Ev.pairs_of_row hrow
      subst hv
      have HP := Lib.hid (Ev.own_mono hrow B0.out.size)
      clear hrow hp han
      go_wp2
      go_ret
      exact ⟨A, c, rfl, HP.out, B0.out.trans (HBR.out.mono B0.out.size)⟩
set_option maxRecDepth 100000 in
set_option maxHeartbeats 4000000 in
theorem rpairs2_own (x : Ev.X) (w : World) (hin : Ev.XIn w x) (hck : Ev.check x = 0) :
    Calls Tryz.prog 23 #[Ev.exV x, .int .i64 2] w fun e w' => ∃ a c, e = .returned (.slice a (Ev.pl (Ev.isRf x) x.ev.length x.ev.length).length c) ∧ w'.ownsRow w.heap.size 72 2 (.slice a (Ev.pl (Ev.isRf x) x.ev.length x.ev.length).length c) (Ev.pl (Ev.isRf x) x.ev.length x.ev.length).length ((Ev.pl (Ev.isRf x) x.ev.length x.ev.length).flatMap Ev.pv) ∧ Below w.heap.size w w' := by
  obtain ⟨IS, hIS⟩ : ∃ IS : Nat → Nat → Bool, (Ev.isRf x) = IS := ⟨_, rfl⟩
  have HIS := Lib.hid hIS
  have hn64 : x.ev.length ≤ 64 := (Ev.check_order hck).2.2
  have hl1 := hin.ev.le; have hl2 := hin.ev.max
  have HCK := Lib.hid hck
  have HFL := Lib.hid (check_from hck)
  obtain ⟨B, hB⟩ : ∃ B, B = w.alloc (Obj.cells (Ev.xcells x).toArray 26) := ⟨_, rfl⟩
  have HB := Lib.hid hB
  have B0 := Lib.hid (show Below w.heap.size w B by rw [hB]; exact (Below.refl w.heap.size w).alloc (Nat.le_refl _) _)
  have HX := Lib.hid (show Ev.XIn B x from hin.kp (Ev.kp_below B0.out))
  have RX := Lib.hid (show B.heap[w.heap.size]? = some (.cells (Ev.xcells x).toArray 26 (0, 0)) by rw [hB]; exact heap_alloc_new _ _)
  obtain ⟨i0, hi, hz0, hz1, hz2⟩ := info_pair
  have HI := Lib.hid hi; have HZ0 := Lib.hid hz0; have HZ1 := Lib.hid hz1; have HZ2 := Lib.hid hz2; clear hi hz0 hz1 hz2
  rw [hIS]
  clear hin hB hck hIS
  unfold Ev.exV Ev.xcells
  go_enter Tryz.func23, Tryz.ntmps23
  go_wp2
  rw [show w.alloc (Obj.cells #[Value.slice x.ae x.ev.length x.ce, Value.slice x.fr.a x.fr.l.length x.fr.c, Value.slice x.ao x.od.length x.co] 26) = B from HB.out.symm]
  go_loopw [5, 7, 8, 9, 24, 30, 36, 42, 48, 54] (fun v i _ _ _ _ _ _ _ _ wr => ∃ a : Nat, a ≤ x.ev.length ∧ i = .int .i64 (a : Int) ∧ wr.ownsRow B.heap.size 72 2 v (Ev.pl IS x.ev.length a).length ((Ev.pl IS x.ev.length a).flatMap Ev.pv) ∧ Below B.heap.size B wr) (fun _ i _ _ _ _ _ _ _ _ _ => x.ev.length - (intOf i).toNat)
  case atStart => exact ⟨0, Nat.zero_le _, rfl, World.ownsRow_nil _ _ _ _, Below.refl _ _⟩
  case round =>
    obtain ⟨a, ha, rfl, hrow, hbr⟩ := hrel
    have HROW := Lib.hid hrow; have HBR := Lib.hid hbr
    clear hrow hbr
    by_cases hlt : a < x.ev.length
    · have hai : (a : Int) < (x.ev.length : Int) := by omega
      go_wp2
      go_loopw [5, 8, 9, 24, 30, 36, 42, 48, 54] (fun v j _ _ _ _ _ _ _ w3 => ∃ q : Nat, q ≤ x.ev.length ∧ j = .int .i64 (q : Int) ∧ w3.ownsRow B.heap.size 72 2 v (Ev.pl IS x.ev.length a ++ Ev.rowL IS a (List.range q)).length ((Ev.pl IS x.ev.length a ++ Ev.rowL IS a (List.range q)).flatMap Ev.pv) ∧ Below B.heap.size B w3) (fun _ j _ _ _ _ _ _ _ _ => x.ev.length - (intOf j).toNat)
      case atStart => exact ⟨0, Nat.zero_le _, rfl, by simpa [Ev.rowL] using HROW.out, HBR.out⟩
      case round =>
        obtain ⟨q, hq, rfl, hrow3, hb3⟩ := hrel
        have HR3 := Lib.hid hrow3; have HB3 := Lib.hid hb3
        clear hrow3 hb3
        by_cases hql : q < x.ev.length
        · have hqi : (q : Int) < (x.ev.length : Int) := by omega
          obtain ⟨v, hv⟩ : ∃ v, IS a q = v := ⟨_, rfl⟩
          have HV := Lib.hid hv
          have HV2 := Lib.hid (show Ev.isRf x a q = v by rw [← hv, ← HIS.out])
          have HRS := Lib.hid (show Ev.rowL IS a (List.range (q + 1)) = Ev.rowL IS a (List.range q) ++ if v then [(a, q)] else [] by rw [Ev.rowL_succ, hv])
          have RX3 := Lib.hid ((HB3.out.block w.heap.size (Array.getElem?_eq_some_iff.1 RX.out).1).trans RX.out)
          have hlen : (Ev.pl IS x.ev.length a ++ Ev.rowL IS a (List.range q)).length ≤ 4160 := by
            have h1 := Ev.pl_len IS x.ev.length a
            have h2 := Ev.rowL_len IS a q
            have h3 : a * x.ev.length ≤ 64 * 64 := Nat.mul_le_mul (by omega) hn64
            rw [List.length_append]; omega
          clear hv
          go_wp2_with ((with_reducible show wpList _ _ _ (Oper.mk (some 32) _ _ _ _ _ :: _) _ _); refine wpList_load_row rfl 26 (.tmp 2) rfl w.heap.size (by kernel_rfl) 26 (Ev.xcells x).toArray (0, 0) _ RX3.out Tryz.underlying26 rfl (by kernel_rfl) ?_)
          refine (rrf_any x a q hlt hql HFL.out _ (HX.out.kp (Ev.kp_below HB3.out))).mono ?_
          rintro e W4 ⟨rfl, hb4⟩
          rw [HV2.out]
          have HB4 := Lib.hid (HB3.out.trans (hb4.mono HB3.out.size))
          have HR4 := Lib.hid (Ev.row_below HR3.out hb4)
          clear hb4
          cases v
          · go_wp2_with fail
            go_roundw
            case rel => exact ⟨q + 1, by omega, by go_num, by rw [HRS.out]; simpa using HR4.out, HB4.out⟩
            case measure => simp [intOf]; omega
          · go_wp2_with ((with_reducible show wpList _ _ _ (Oper.mk (some 99) _ _ _ _ _ :: _) _ _); refine wpList_append_own _ rfl (.tmp 94) (.tmp 98) 37 rfl B.heap.size 72 i0 (.agg #[.int .i64 0, .int .i64 0]) 2 16 Tryz.underlying37 HI.out HZ0.out HZ1.out HZ2.out rfl (by decide) _ _ _ rfl (HR4.out.alloc _) ⟨W4.heap.size, 0, none⟩ 1 1 (Ev.pv (a, q)) rfl rfl (fun j u hu => World.news_of_block (heap_alloc_new W4 _) j u hu) (Ev.pv_one _) (by unfold maxLen; omega) (by omega) (by have := HB4.out.size; simp only [World.size_alloc]; omega) ?_
                         intro v' w5 hown hgrow _
                         have HOWN := Lib.hid hown; have HGR := Lib.hid hgrow; clear hown hgrow)
            have HB5 := Lib.hid (Below.grown (HB4.out.alloc HB4.out.size _) HGR.out (by have := HB4.out.size; simp only [World.size_alloc]; omega) (fun k hk => Ev.own_ge HR4.out hk))
            go_roundw
            case rel =>
              refine ⟨q + 1, by omega, by go_num, ?_, HB5.out⟩
              have := HOWN.out
              have hrs : Ev.rowL IS a (List.range (q + 1)) = Ev.rowL IS a (List.range q) ++ [(a, q)] := by have h := HRS.out; simpa using h
              rw [hrs, ← List.append_assoc, List.length_append, List.flatMap_append]
              simpa using this
            case measure => simp [intOf]; omega
        · have hqe : q = x.ev.length := by omega
          have hqi : ¬ (q : Int) < (x.ev.length : Int) := by omega
          have HE := Lib.hid (show wr.ownsRow B.heap.size 72 2 u5 (Ev.pl IS x.ev.length (a + 1)).length ((Ev.pl IS x.ev.length (a + 1)).flatMap Ev.pv) by rw [Ev.pl_succ, ← hqe]; have := HR3.out; rwa [hqe] at this ⊢)
          clear hqe
          go_wp2
          go_roundw
          case rel => exact ⟨a + 1, by omega, by go_num, HE.out, HB3.out⟩
          case measure => simp [intOf]; omega
    · have han : a = x.ev.length := by omega
      have hai : ¬ (a : Int) < (x.ev.length : Int) := by omega
      have hrow := HROW.out
      rw [han] at hrow
      obtain ⟨A, c, hv, hp⟩ := Ev.pairs_of_row hrow
      subst hv
      have HP := Lib.hid (Ev.own_mono hrow B0.out.size)
      clear hrow hp han
      go_wp2
      go_ret
      exact ⟨A, c, rfl, HP.out, B0.out.trans (HBR.out.mono B0.out.size)⟩
set_option maxRecDepth 100000 in
set_option maxHeartbeats 4000000 in
theorem rpairs3_own (x : Ev.X) (w : World) (hin : Ev.XIn w x) (hck : Ev.check x = 0) :
    Calls Tryz.prog 23 #[Ev.exV x, .int .i64 3] w fun e w' => ∃ a c, e = .returned (.slice a (Ev.pl (fun a b : Nat => Ev.isCo x (a : Int) (b : Int)) x.ev.length x.ev.length).length c) ∧ w'.ownsRow w.heap.size 72 2 (.slice a (Ev.pl (fun a b : Nat => Ev.isCo x (a : Int) (b : Int)) x.ev.length x.ev.length).length c) (Ev.pl (fun a b : Nat => Ev.isCo x (a : Int) (b : Int)) x.ev.length x.ev.length).length ((Ev.pl (fun a b : Nat => Ev.isCo x (a : Int) (b : Int)) x.ev.length x.ev.length).flatMap Ev.pv) ∧ Below w.heap.size w w' := by
  obtain ⟨IS, hIS⟩ : ∃ IS : Nat → Nat → Bool, (fun a b : Nat => Ev.isCo x (a : Int) (b : Int)) = IS := ⟨_, rfl⟩
  have HIS := Lib.hid hIS
  have hn64 : x.ev.length ≤ 64 := (Ev.check_order hck).2.2
  have hl1 := hin.ev.le; have hl2 := hin.ev.max
  have HCK := Lib.hid hck
  have HFL := Lib.hid (check_from hck)
  obtain ⟨B, hB⟩ : ∃ B, B = w.alloc (Obj.cells (Ev.xcells x).toArray 26) := ⟨_, rfl⟩
  have HB := Lib.hid hB
  have B0 := Lib.hid (show Below w.heap.size w B by rw [hB]; exact (Below.refl w.heap.size w).alloc (Nat.le_refl _) _)
  have HX := Lib.hid (show Ev.XIn B x from hin.kp (Ev.kp_below B0.out))
  have RX := Lib.hid (show B.heap[w.heap.size]? = some (.cells (Ev.xcells x).toArray 26 (0, 0)) by rw [hB]; exact heap_alloc_new _ _)
  obtain ⟨i0, hi, hz0, hz1, hz2⟩ := info_pair
  have HI := Lib.hid hi; have HZ0 := Lib.hid hz0; have HZ1 := Lib.hid hz1; have HZ2 := Lib.hid hz2; clear hi hz0 hz1 hz2
  rw [hIS]
  clear hin hB hck hIS
  unfold Ev.exV Ev.xcells
  go_enter Tryz.func23, Tryz.ntmps23
  go_wp2
  rw [show w.alloc (Obj.cells #[Value.slice x.ae x.ev.length x.ce, Value.slice x.fr.a x.fr.l.length x.fr.c, Value.slice x.ao x.od.length x.co] 26) = B from HB.out.symm]
  go_loopw [5, 7, 8, 9, 24, 30, 36, 42, 48, 54] (fun v i _ _ _ _ _ _ _ _ wr => ∃ a : Nat, a ≤ x.ev.length ∧ i = .int .i64 (a : Int) ∧ wr.ownsRow B.heap.size 72 2 v (Ev.pl IS x.ev.length a).length ((Ev.pl IS x.ev.length a).flatMap Ev.pv) ∧ Below B.heap.size B wr) (fun _ i _ _ _ _ _ _ _ _ _ => x.ev.length - (intOf i).toNat)
  case atStart => exact ⟨0, Nat.zero_le _, rfl, World.ownsRow_nil _ _ _ _, Below.refl _ _⟩
  case round =>
    obtain ⟨a, ha, rfl, hrow, hbr⟩ := hrel
    have HROW := Lib.hid hrow; have HBR := Lib.hid hbr
    clear hrow hbr
    by_cases hlt : a < x.ev.length
    · have hai : (a : Int) < (x.ev.length : Int) := by omega
      go_wp2
      go_loopw [5, 8, 9, 24, 30, 36, 42, 48, 54] (fun v j _ _ _ _ _ _ _ w3 => ∃ q : Nat, q ≤ x.ev.length ∧ j = .int .i64 (q : Int) ∧ w3.ownsRow B.heap.size 72 2 v (Ev.pl IS x.ev.length a ++ Ev.rowL IS a (List.range q)).length ((Ev.pl IS x.ev.length a ++ Ev.rowL IS a (List.range q)).flatMap Ev.pv) ∧ Below B.heap.size B w3) (fun _ j _ _ _ _ _ _ _ _ => x.ev.length - (intOf j).toNat)
      case atStart => exact ⟨0, Nat.zero_le _, rfl, by simpa [Ev.rowL] using HROW.out, HBR.out⟩
      case round =>
        obtain ⟨q, hq, rfl, hrow3, hb3⟩ := hrel
        have HR3 := Lib.hid hrow3; have HB3 := Lib.hid hb3
        clear hrow3 hb3
        by_cases hql : q < x.ev.length
        · have hqi : (q : Int) < (x.ev.length : Int) := by omega
          obtain ⟨v, hv⟩ : ∃ v, IS a q = v := ⟨_, rfl⟩
          have HV := Lib.hid hv
          have HV2 := Lib.hid (show Ev.isCo x a q = v by rw [← hv, ← HIS.out])
          have HRS := Lib.hid (show Ev.rowL IS a (List.range (q + 1)) = Ev.rowL IS a (List.range q) ++ if v then [(a, q)] else [] by rw [Ev.rowL_succ, hv])
          have RX3 := Lib.hid ((HB3.out.block w.heap.size (Array.getElem?_eq_some_iff.1 RX.out).1).trans RX.out)
          have hlen : (Ev.pl IS x.ev.length a ++ Ev.rowL IS a (List.range q)).length ≤ 4160 := by
            have h1 := Ev.pl_len IS x.ev.length a
            have h2 := Ev.rowL_len IS a q
            have h3 : a * x.ev.length ≤ 64 * 64 := Nat.mul_le_mul (by omega) hn64
            rw [List.length_append]; omega
          clear hv
          go_wp2_with ((with_reducible show wpList _ _ _ (Oper.mk (some 38) _ _ _ _ _ :: _) _ _); refine wpList_load_row rfl 26 (.tmp 2) rfl w.heap.size (by kernel_rfl) 26 (Ev.xcells x).toArray (0, 0) _ RX3.out Tryz.underlying26 rfl (by kernel_rfl) ?_)
          refine (rco_any x a q hlt hql _ (HX.out.kp (Ev.kp_below HB3.out))).mono ?_
          rintro e W4 ⟨rfl, hb4⟩
          rw [HV2.out]
          have HB4 := Lib.hid (HB3.out.trans (hb4.mono HB3.out.size))
          have HR4 := Lib.hid (Ev.row_below HR3.out hb4)
          clear hb4
          cases v
          · go_wp2_with fail
            go_roundw
            case rel => exact ⟨q + 1, by omega, by go_num, by rw [HRS.out]; simpa using HR4.out, HB4.out⟩
            case measure => simp [intOf]; omega
          · go_wp2_with ((with_reducible show wpList _ _ _ (Oper.mk (some 99) _ _ _ _ _ :: _) _ _); refine wpList_append_own _ rfl (.tmp 94) (.tmp 98) 37 rfl B.heap.size 72 i0 (.agg #[.int .i64 0, .int .i64 0]) 2 16 Tryz.underlying37 HI.out HZ0.out HZ1.out HZ2.out rfl (by decide) _ _ _ rfl (HR4.out.alloc _) ⟨W4.heap.size, 0, none⟩ 1 1 (Ev.pv (a, q)) rfl rfl (fun j u hu => World.news_of_block (heap_alloc_new W4 _) j u hu) (Ev.pv_one _) (by unfold maxLen; omega) (by omega) (by have := HB4.out.size; simp only [World.size_alloc]; omega) ?_
                         intro v' w5 hown hgrow _
                         have HOWN := Lib.hid hown; have HGR := Lib.hid hgrow; clear hown hgrow)
            have HB5 := Lib.hid (Below.grown (HB4.out.alloc HB4.out.size _) HGR.out (by have := HB4.out.size; simp only [World.size_alloc]; omega) (fun k hk => Ev.own_ge HR4.out hk))
            go_roundw
            case rel =>
              refine ⟨q + 1, by omega, by go_num, ?_, HB5.out⟩
              have := HOWN.out
              have hrs : Ev.rowL IS a (List.range (q + 1)) = Ev.rowL IS a (List.range q) ++ [(a, q)] := by have h := HRS.out; simpa using h
              rw [hrs, ← List.append_assoc, List.length_append, List.flatMap_append]
              simpa using this
            case measure => simp [intOf]; omega
        · have hqe : q = x.ev.length := by omega
          have hqi : ¬ (q : Int) < (x.ev.length : Int) := by omega
          have HE := Lib.hid (show wr.ownsRow B.heap.size 72 2 u5 (Ev.pl IS x.ev.length (a + 1)).length ((Ev.pl IS x.ev.length (a + 1)).flatMap Ev.pv) by rw [Ev.pl_succ, ← hqe]; have := HR3.out; rwa [hqe] at this ⊢)
          clear hqe
          go_wp2
          go_roundw
          case rel => exact ⟨a + 1, by omega, by go_num, HE.out, HB3.out⟩
          case measure => simp [intOf]; omega
    · have han : a = x.ev.length := by omega
      have hai : ¬ (a : Int) < (x.ev.length : Int) := by omega
      have hrow := HROW.out
      rw [han] at hrow
      obtain ⟨A, c, hv, hp⟩ := Ev.pairs_of_row hrow
      subst hv
      have HP := Lib.hid (Ev.own_mono hrow B0.out.size)
      clear hrow hp han
      go_wp2
      go_ret
      exact ⟨A, c, rfl, HP.out, B0.out.trans (HBR.out.mono B0.out.size)⟩
set_option maxRecDepth 100000 in
set_option maxHeartbeats 4000000 in
theorem rpairs4_own (x : Ev.X) (w : World) (hin : Ev.XIn w x) (hck : Ev.check x = 0) :
    Calls Tryz.prog 23 #[Ev.exV x, .int .i64 4] w fun e w' => ∃ a c, e = .returned (.slice a (Ev.pl (Ev.isFr x) x.ev.length x.ev.length).length c) ∧ w'.ownsRow w.heap.size 72 2 (.slice a (Ev.pl (Ev.isFr x) x.ev.length x.ev.length).length c) (Ev.pl (Ev.isFr x) x.ev.length x.ev.length).length ((Ev.pl (Ev.isFr x) x.ev.length x.ev.length).flatMap Ev.pv) ∧ Below w.heap.size w w' := by
  obtain ⟨IS, hIS⟩ : ∃ IS : Nat → Nat → Bool, (Ev.isFr x) = IS := ⟨_, rfl⟩
  have HIS := Lib.hid hIS
  have hn64 : x.ev.length ≤ 64 := (Ev.check_order hck).2.2
  have hl1 := hin.ev.le; have hl2 := hin.ev.max
  have HCK := Lib.hid hck
  have HFL := Lib.hid (check_from hck)
  obtain ⟨B, hB⟩ : ∃ B, B = w.alloc (Obj.cells (Ev.xcells x).toArray 26) := ⟨_, rfl⟩
  have HB := Lib.hid hB
  have B0 := Lib.hid (show Below w.heap.size w B by rw [hB]; exact (Below.refl w.heap.size w).alloc (Nat.le_refl _) _)
  have HX := Lib.hid (show Ev.XIn B x from hin.kp (Ev.kp_below B0.out))
  have RX := Lib.hid (show B.heap[w.heap.size]? = some (.cells (Ev.xcells x).toArray 26 (0, 0)) by rw [hB]; exact heap_alloc_new _ _)
  obtain ⟨i0, hi, hz0, hz1, hz2⟩ := info_pair
  have HI := Lib.hid hi; have HZ0 := Lib.hid hz0; have HZ1 := Lib.hid hz1; have HZ2 := Lib.hid hz2; clear hi hz0 hz1 hz2
  rw [hIS]
  clear hin hB hck hIS
  unfold Ev.exV Ev.xcells
  go_enter Tryz.func23, Tryz.ntmps23
  go_wp2
  rw [show w.alloc (Obj.cells #[Value.slice x.ae x.ev.length x.ce, Value.slice x.fr.a x.fr.l.length x.fr.c, Value.slice x.ao x.od.length x.co] 26) = B from HB.out.symm]
  go_loopw [5, 7, 8, 9, 24, 30, 36, 42, 48, 54] (fun v i _ _ _ _ _ _ _ _ wr => ∃ a : Nat, a ≤ x.ev.length ∧ i = .int .i64 (a : Int) ∧ wr.ownsRow B.heap.size 72 2 v (Ev.pl IS x.ev.length a).length ((Ev.pl IS x.ev.length a).flatMap Ev.pv) ∧ Below B.heap.size B wr) (fun _ i _ _ _ _ _ _ _ _ _ => x.ev.length - (intOf i).toNat)
  case atStart => exact ⟨0, Nat.zero_le _, rfl, World.ownsRow_nil _ _ _ _, Below.refl _ _⟩
  case round =>
    obtain ⟨a, ha, rfl, hrow, hbr⟩ := hrel
    have HROW := Lib.hid hrow; have HBR := Lib.hid hbr
    clear hrow hbr
    by_cases hlt : a < x.ev.length
    · have hai : (a : Int) < (x.ev.length : Int) := by omega
      go_wp2
      go_loopw [5, 8, 9, 24, 30, 36, 42, 48, 54] (fun v j _ _ _ _ _ _ _ w3 => ∃ q : Nat, q ≤ x.ev.length ∧ j = .int .i64 (q : Int) ∧ w3.ownsRow B.heap.size 72 2 v (Ev.pl IS x.ev.length a ++ Ev.rowL IS a (List.range q)).length ((Ev.pl IS x.ev.length a ++ Ev.rowL IS a (List.range q)).flatMap Ev.pv) ∧ Below B.heap.size B w3) (fun _ j _ _ _ _ _ _ _ _ => x.ev.length - (intOf j).toNat)
      case atStart => exact ⟨0, Nat.zero_le _, rfl, by simpa [Ev.rowL] using HROW.out, HBR.out⟩
      case round =>
        obtain ⟨q, hq, rfl, hrow3, hb3⟩ := hrel
        have HR3 := Lib.hid hrow3; have HB3 := Lib.hid hb3
        clear hrow3 hb3
        by_cases hql : q < x.ev.length
        · have hqi : (q : Int) < (x.ev.length : Int) := by omega
          obtain ⟨v, hv⟩ : ∃ v, IS a q = v := ⟨_, rfl⟩
          have HV := Lib.hid hv
          have HV2 := Lib.hid (show Ev.isFr x a q = v by rw [← hv, ← HIS.out])
          have HRS := Lib.hid (show Ev.rowL IS a (List.range (q + 1)) = Ev.rowL IS a (List.range q) ++ if v then [(a, q)] else [] by rw [Ev.rowL_succ, hv])
          have RX3 := Lib.hid ((HB3.out.block w.heap.size (Array.getElem?_eq_some_iff.1 RX.out).1).trans RX.out)
          have hlen : (Ev.pl IS x.ev.length a ++ Ev.rowL IS a (List.range q)).length ≤ 4160 := by
            have h1 := Ev.pl_len IS x.ev.length a
            have h2 := Ev.rowL_len IS a q
            have h3 : a * x.ev.length ≤ 64 * 64 := Nat.mul_le_mul (by omega) hn64
            rw [List.length_append]; omega
          clear hv
          go_wp2_with ((with_reducible show wpList _ _ _ (Oper.mk (some 44) _ _ _ _ _ :: _) _ _); refine wpList_load_row rfl 26 (.tmp 2) rfl w.heap.size (by kernel_rfl) 26 (Ev.xcells x).toArray (0, 0) _ RX3.out Tryz.underlying26 rfl (by kernel_rfl) ?_)
          refine (rfr_any x a q hlt hql HCK.out _ (HX.out.kp (Ev.kp_below HB3.out))).mono ?_
          rintro e W4 ⟨rfl, hb4⟩
          rw [HV2.out]
          have HB4 := Lib.hid (HB3.out.trans (hb4.mono HB3.out.size))
          have HR4 := Lib.hid (Ev.row_below HR3.out hb4)
          clear hb4
          cases v
          · go_wp2_with fail
            go_roundw
            case rel => exact ⟨q + 1, by omega, by go_num, by rw [HRS.out]; simpa using HR4.out, HB4.out⟩
            case measure => simp [intOf]; omega
          · go_wp2_with ((with_reducible show wpList _ _ _ (Oper.mk (some 99) _ _ _ _ _ :: _) _ _); refine wpList_append_own _ rfl (.tmp 94) (.tmp 98) 37 rfl B.heap.size 72 i0 (.agg #[.int .i64 0, .int .i64 0]) 2 16 Tryz.underlying37 HI.out HZ0.out HZ1.out HZ2.out rfl (by decide) _ _ _ rfl (HR4.out.alloc _) ⟨W4.heap.size, 0, none⟩ 1 1 (Ev.pv (a, q)) rfl rfl (fun j u hu => World.news_of_block (heap_alloc_new W4 _) j u hu) (Ev.pv_one _) (by unfold maxLen; omega) (by omega) (by have := HB4.out.size; simp only [World.size_alloc]; omega) ?_
                         intro v' w5 hown hgrow _
                         have HOWN := Lib.hid hown; have HGR := Lib.hid hgrow; clear hown hgrow)
            have HB5 := Lib.hid (Below.grown (HB4.out.alloc HB4.out.size _) HGR.out (by have := HB4.out.size; simp only [World.size_alloc]; omega) (fun k hk => Ev.own_ge HR4.out hk))
            go_roundw
            case rel =>
              refine ⟨q + 1, by omega, by go_num, ?_, HB5.out⟩
              have := HOWN.out
              have hrs : Ev.rowL IS a (List.range (q + 1)) = Ev.rowL IS a (List.range q) ++ [(a, q)] := by have h := HRS.out; simpa using h
              rw [hrs, ← List.append_assoc, List.length_append, List.flatMap_append]
              simpa using this
            case measure => simp [intOf]; omega
        · have hqe : q = x.ev.length := by omega
          have hqi : ¬ (q : Int) < (x.ev.length : Int) := by omega
          have HE := Lib.hid (show wr.ownsRow B.heap.size 72 2 u5 (Ev.pl IS x.ev.length (a + 1)).length ((Ev.pl IS x.ev.length (a + 1)).flatMap Ev.pv) by rw [Ev.pl_succ, ← hqe]; have := HR3.out; rwa [hqe] at this ⊢)
          clear hqe
          go_wp2
          go_roundw
          case rel => exact ⟨a + 1, by omega, by go_num, HE.out, HB3.out⟩
          case measure => simp [intOf]; omega
    · have han : a = x.ev.length := by omega
      have hai : ¬ (a : Int) < (x.ev.length : Int) := by omega
      have hrow := HROW.out
      rw [han] at hrow
      obtain ⟨A, c, hv, hp⟩ := Ev.pairs_of_row hrow
      subst hv
      have HP := Lib.hid (Ev.own_mono hrow B0.out.size)
      clear hrow hp han
      go_wp2
      go_ret
      exact ⟨A, c, rfl, HP.out, B0.out.trans (HBR.out.mono B0.out.size)⟩
namespace Ev
theorem PairsIn.at_ {w : World} {a : Option Addr} {c : Nat} {ps : List (Nat × Nat)} (h : PairsIn w a c ps) {k : Nat} {p : Nat × Nat} (hk : ps[k]? = some p) :
    ∃ g o, a = some ⟨g, o, none⟩ ∧ ∀ i c, (pv p)[i]? = some c → w.cell? ⟨g, o + k * 2 + i, none⟩ = some c := by
  have hl := (List.getElem?_eq_some_iff.1 hk).1
  obtain ⟨g, o, e, hc⟩ := h.rows (by simp; omega)
  exact ⟨g, o, e, fun i c hi => hc k (pv p) (by rw [List.getElem?_map, hk]; rfl) i c hi⟩
theorem PairsIn.kp {w w' : World} {a : Option Addr} {c : Nat} {ps : List (Nat × Nat)} (h : PairsIn w a c ps) (k : Kp w w') : PairsIn w' a c ps := ⟨h.rows.kp k, h.le, h.max⟩
end Ev
end Go.Proofs.YtecnnkidalkmfaaGreat
end

section
namespace Go.Proofs.YtecnnkidalkmfaaGreat
open Go.RowKit
namespace Ev
theorem nodup_of_len {α : Type} [DecidableEq α] : ∀ {b a : List α}, a.Nodup → (∀ x ∈ a, x ∈ b) → b.length ≤ a.length → b.Nodup
  | [], _, _, _, _ => List.nodup_nil
  | y :: s, a, ha, hs, hl => by
    rw [List.nodup_cons]
    constructor
    · intro hy
      have := nodup_le (a := a) (b := s) ha fun x hx => by
        rcases List.mem_cons.1 (hs x hx) with rfl | h
        · exact hy
        · exact h
      simp only [List.length_cons] at hl
      omega
    · refine nodup_of_len (a := a.erase y) (ha.erase y) (fun x hx => ?_) ?_
      · have hm := List.mem_of_mem_erase hx
        rcases List.mem_cons.1 (hs x hm) with rfl | h
        · exact absurd hx (List.Nodup.not_mem_erase ha)
        · exact h
      · have := List.le_length_erase (l := a) (a := y)
        simp only [List.length_cons] at hl
        omega
def sts (xs : List R) (y : Int) : List Int := ((List.range xs.length).filter fun i : Nat => isSt y (nth xs (i : Int))).map fun i : Nat => (i : Int)
theorem sts_mem {xs : List R} {y n : Int} : n ∈ sts xs y ↔ ∃ i : Nat, i < xs.length ∧ isSt y (nth xs (i : Int)) = true ∧ n = i := by
  unfold sts
  rw [List.mem_map]
  constructor
  · rintro ⟨i, hi, rfl⟩
    rw [List.mem_filter, List.mem_range] at hi
    exact ⟨i, hi.1, hi.2, rfl⟩
  · rintro ⟨i, hi, hq, rfl⟩
    exact ⟨i, List.mem_filter.2 ⟨List.mem_range.2 hi, hq⟩, rfl⟩
theorem sts_nodup (xs : List R) (y : Int) : (sts xs y).Nodup := by
  unfold sts
  rw [List.Nodup, List.pairwise_map]
  exact (List.nodup_range.filter _).imp fun {a b} h e => h (by have e2 : (a : Int) = (b : Int) := e; omega)
theorem range_map (xs : List R) : (List.range xs.length).map (fun i : Nat => nth xs (i : Int)) = xs := by
  apply List.ext_getElem
  · simp
  · intro i h1 h2
    simp only [List.getElem_map, List.getElem_range]
    exact nth_get h2
theorem sts_len (xs : List R) (y : Int) : (sts xs y).length = cnt xs y := by
  unfold sts cnt
  rw [List.length_map]
  conv => rhs; rw [← range_map xs]
  rw [List.filter_map, List.length_map]
  rfl
def rOrd (xs : List R) (A b : Int) (s : List Int) : Prop := (∀ i : Nat, i < xs.length → stores (nth xs i).k = true → (nth xs i).a = A → (i : Int) ∈ s) ∧ s.length = cnt xs A ∧ s.getD 0 0 = b
theorem ord_iff {xs : List R} {od : List Sl} {s : Sl} {b : Nat} (hs : od[b]? = some s) {A : Int} (hA : (nth xs b).a = A) : orderAt xs od b = true ↔ rOrd xs A b s.l := by
  unfold orderAt rOrd
  rw [hs]
  simp only [Bool.and_eq_true, beq_iff_eq]
  rw [hA]
  unfold onceOk
  rw [Bool.and_eq_true, List.all_eq_true, decide_eq_true_eq]
  have hone : ∀ n, s.l.getD 0 0 = (b : Int) → (onceAt xs (s.l.getD 0 0) n = true ↔ n ∈ sts xs A) := fun n h0 => by
    rw [h0, sts_mem]
    unfold onceAt inB isSt
    rw [hA]
    simp only [Bool.and_eq_true, decide_eq_true_eq, beq_iff_eq]
    constructor
    · rintro ⟨⟨⟨h1, h2⟩, h3⟩, h4⟩
      obtain ⟨i, rfl⟩ : ∃ i : Nat, n = i := ⟨n.toNat, by omega⟩
      exact ⟨i, by omega, ⟨h3, h4⟩, rfl⟩
    · rintro ⟨i, hi, ⟨h3, h4⟩, rfl⟩
      exact ⟨⟨⟨by omega, by omega⟩, h3⟩, h4⟩
  constructor
  · rintro ⟨⟨h1, h2⟩, h3, h4⟩
    refine ⟨fun i hi hk ha => ?_, h1, h2⟩
    refine back_of_len (a := s.l) (b := sts xs A) h4 ?_ (fun n hn => (hone n h2).1 (h3 n hn)) _ (sts_mem.2 ⟨i, hi, ?_, rfl⟩)
    · rw [sts_len]; omega
    · unfold isSt; rw [hk, ha]; simp
  · rintro ⟨h1, h2, h3⟩
    have hsub : ∀ n ∈ sts xs A, n ∈ s.l := fun n hn => by
      obtain ⟨i, hi, hq, rfl⟩ := sts_mem.1 hn
      unfold isSt at hq
      simp only [Bool.and_eq_true, beq_iff_eq] at hq
      exact h1 i hi hq.1 hq.2
    have hl : s.l.length ≤ (sts xs A).length := by rw [sts_len]; omega
    exact ⟨⟨h2, h3⟩, fun n hn => (hone n h3).2 (back_of_len (sts_nodup xs A) hl hsub n hn), nodup_of_len (sts_nodup xs A) hsub hl⟩
end Ev
end Go.Proofs.YtecnnkidalkmfaaGreat
end
