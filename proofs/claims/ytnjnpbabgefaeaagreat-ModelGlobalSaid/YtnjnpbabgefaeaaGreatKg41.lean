import Derived.Test.YtnjnpbabgefaeaaGreatKg38
import Derived.Test.YtnjnpbabgefaeaaGreatKg24
import Derived.Test.YtnjnpbabgefaeaaGreatKg01
set_option linter.unusedVariables false
set_option linter.unusedSimpArgs false

section
namespace Go.Proofs.YtnjnpbabgefaeaaGreat
open Go.RowKit
namespace Ev
def isG6 (x : X) (a b : Nat) : Bool := isPpo x a b || isCo x (a : Int) (b : Int) || isFr x a b || (isRf x a b && (nth x.ev (a : Int)).h != (nth x.ev (b : Int)).h)
end Ev
theorem rppo_is {x : Ev.X} {a b : Nat} {v : Bool} (h : Ev.isPpo x a b = v) (ha : a < x.ev.length) (hb : b < x.ev.length) (hfl : x.fr.l.length = x.ev.length) (w : World) (hin : Ev.XIn w x) :
    Calls Tryz.prog 45 #[.agg (Ev.xcells x).toArray, .int .i64 (a : Int), .int .i64 (b : Int)] w fun e w' => e = .returned (.bool v) ∧ Below w.heap.size w w' := h ▸ rppo_any x a b ha hb hfl w hin
theorem rfr_is {x : Ev.X} {a b : Nat} {v : Bool} (h : Ev.isFr x a b = v) (ha : a < x.ev.length) (hb : b < x.ev.length) (hck : Ev.check x = 0) (w : World) (hin : Ev.XIn w x) :
    Calls Tryz.prog 44 #[.agg (Ev.xcells x).toArray, .int .i64 (a : Int), .int .i64 (b : Int)] w fun e w' => e = .returned (.bool v) ∧ Below w.heap.size w w' := h ▸ rfr_any x a b ha hb hck w hin
theorem rrf_is {x : Ev.X} {a b : Nat} {v : Bool} (h : Ev.isRf x a b = v) (ha : a < x.ev.length) (hb : b < x.ev.length) (hfl : x.fr.l.length = x.ev.length) (w : World) (hin : Ev.XIn w x) :
    Calls Tryz.prog 43 #[.agg (Ev.xcells x).toArray, .int .i64 (a : Int), .int .i64 (b : Int)] w fun e w' => e = .returned (.bool v) ∧ Below w.heap.size w w' := h ▸ rrf_any x a b ha hb hfl w hin
set_option maxRecDepth 100000 in
set_option maxHeartbeats 16000000 in
theorem rpairs6_any (x : Ev.X) (w : World) (hin : Ev.XIn w x) (hck : Ev.check x = 0) :
    Calls Tryz.prog 23 #[Ev.exV x, .int .i64 6] w fun e w' => ∃ a c, e = .returned (.slice a (Ev.pl (Ev.isG6 x) x.ev.length x.ev.length).length c) ∧ Ev.PairsIn w' a c (Ev.pl (Ev.isG6 x) x.ev.length x.ev.length) ∧ Below w.heap.size w w' := by
  obtain ⟨IS, hIS⟩ : ∃ IS : Nat → Nat → Bool, (Ev.isG6 x) = IS := ⟨_, rfl⟩
  have HIS := Lib.hid hIS
  have hn64 : x.ev.length ≤ 64 := (Ev.check_order hck).2.2
  have hl1 := hin.ev.le; have hl2 := hin.ev.max
  have HCK := Lib.hid hck
  have HFL := Lib.hid (check_from hck)
  obtain ⟨B, hB⟩ : ∃ B, B = w.alloc (Obj.cells (Ev.xcells x).toArray 26) := ⟨_, rfl⟩
  have HB := Lib.hid hB
  have B0 := Lib.hid (show Below w.heap.size w B by rw [hB]; exact (Below.refl w.heap.size w).alloc (Nat.le_refl _) _)
  have HX := Lib.hid (show Ev.XIn B x from hin.kp (Ev.kp_below B0.out))
  have RX := Lib.hid (show B.heap[w.heap.size]? = some (.cells (Ev.xcells x).toArray 26 (0, 0)) by rw [hB]; exact heap_alloc_new _ _)
  obtain ⟨i0, hi, hz0, hz1, hz2⟩ := info_pair
  have HI := Lib.hid hi; have HZ0 := Lib.hid hz0; have HZ1 := Lib.hid hz1; have HZ2 := Lib.hid hz2; clear hi hz0 hz1 hz2
  rw [hIS]
  clear hin hB hck hIS
  unfold Ev.exV Ev.xcells
  go_enter Tryz.func23, Tryz.ntmps23
  go_wp2
  rw [show w.alloc (Obj.cells #[Value.slice x.ae x.ev.length x.ce, Value.slice x.fr.a x.fr.l.length x.fr.c, Value.slice x.ao x.od.length x.co] 26) = B from HB.out.symm]
  go_loopw [5, 7, 8, 9, 24, 30, 36, 42, 48, 54] (fun v i _ _ _ _ _ _ _ _ wr => ∃ a : Nat, a ≤ x.ev.length ∧ i = .int .i64 (a : Int) ∧ wr.ownsRow B.heap.size 72 2 v (Ev.pl IS x.ev.length a).length ((Ev.pl IS x.ev.length a).flatMap Ev.pv) ∧ Below B.heap.size B wr) (fun _ i _ _ _ _ _ _ _ _ _ => x.ev.length - (intOf i).toNat)
  case atStart => exact ⟨0, Nat.zero_le _, rfl, World.ownsRow_nil _ _ _ _, Below.refl _ _⟩
  case round =>
    obtain ⟨a, ha, rfl, hrow, hbr⟩ := hrel
    have HROW := Lib.hid hrow; have HBR := Lib.hid hbr
    clear hrow hbr
    by_cases hlt : a < x.ev.length
    · have hai : (a : Int) < (x.ev.length : Int) := by omega
      go_wp2
      go_loopw [5, 8, 9, 24, 30, 36, 42, 48, 54] (fun v j _ _ _ _ _ _ _ w3 => ∃ q : Nat, q ≤ x.ev.length ∧ j = .int .i64 (q : Int) ∧ w3.ownsRow B.heap.size 72 2 v (Ev.pl IS x.ev.length a ++ Ev.rowL IS a (List.range q)).length ((Ev.pl IS x.ev.length a ++ Ev.rowL IS a (List.range q)).flatMap Ev.pv) ∧ Below B.heap.size B w3) (fun _ j _ _ _ _ _ _ _ _ => x.ev.length - (intOf j).toNat)
      case atStart => exact ⟨0, Nat.zero_le _, rfl, by simpa [Ev.rowL] using HROW.out, HBR.out⟩
      case round =>
        obtain ⟨q, hq, rfl, hrow3, hb3⟩ := hrel
        have HR3 := Lib.hid hrow3; have HB3 := Lib.hid hb3
        clear hrow3 hb3
        by_cases hql : q < x.ev.length
        · have hqi : (q : Int) < (x.ev.length : Int) := by omega
          have hrx := (HB3.out.block w.heap.size (Array.getElem?_eq_some_iff.1 RX.out).1).trans RX.out
          have RX3 := Lib.hid hrx
          have X3 := Lib.hid (HX.out.kp (Ev.kp_below HB3.out))
          have hlen : (Ev.pl IS x.ev.length a ++ Ev.rowL IS a (List.range q)).length ≤ 4160 := by
            have h1 := Ev.pl_len IS x.ev.length a
            have h2 := Ev.rowL_len IS a q
            have h3 : a * x.ev.length ≤ 64 * 64 := Nat.mul_le_mul (by omega) hn64
            rw [List.length_append]; omega
          obtain ⟨ea, hea⟩ : ∃ e, x.ev[a]? = some e := ⟨_, List.getElem?_eq_getElem hlt⟩
          obtain ⟨eb, heb⟩ : ∃ e, x.ev[q]? = some e := ⟨_, List.getElem?_eq_getElem hql⟩
          have hna := Ev.nth_some hea; have hnb := Ev.nth_some heb
          obtain ⟨ga, oa, ega, hca⟩ := X3.out.ev.at_ hea
          obtain ⟨gb, ob, egb, hcb⟩ := X3.out.ev.at_ heb
          obtain ⟨rfl, rfl⟩ : gb = ga ∧ ob = oa := by rw [ega] at egb; cases egb; exact ⟨rfl, rfl⟩
          have LX := Lib.hid (fun z : Og.On wr.heap.size wr => Og.rowB (P := Tryz.prog) z 26 _ RX3.out Tryz.underlying26 rfl (by kernel_rfl))
          have XI := Lib.hid (fun z : Og.On wr.heap.size wr => X3.out.kp (Ev.kp_below z.b))
          have cha : ∀ z : Og.On wr.heap.size wr, z.x.cell? ⟨gb, ob + a * 13, none⟩ = some (.int .i64 ea.h) := fun z => Og.cellB z (by simpa using hca 0 _ rfl)
          have chb : ∀ z : Og.On wr.heap.size wr, z.x.cell? ⟨gb, ob + q * 13, none⟩ = some (.int .i64 eb.h) := fun z => Og.cellB z (by simpa using hcb 0 _ rfl)
          have cxz : ∀ z : Og.On wr.heap.size wr, z.x.cell? ⟨w.heap.size, 0, none⟩ = some (.slice (some ⟨gb, ob, none⟩) x.ev.length x.ce) := fun z => Og.cellB z (by rw [← egb]; exact Ev.xcell0 RX3.out)
          have HNA := Lib.hid hna; have HNB := Lib.hid hnb
          clear hrx hea heb ega egb hca hcb hna hnb
          cases hp5 : Ev.isPpo x a q with
          | true =>
            have HP5 := Lib.hid hp5; clear hp5
            have HV6 := Lib.hid (show Ev.isG6 x a q = true by unfold Ev.isG6; rw [HP5.out]; rfl)
            have HRS := Lib.hid (show Ev.rowL IS a (List.range (q + 1)) = Ev.rowL IS a (List.range q) ++ if true = true then [(a, q)] else [] by rw [Ev.rowL_succ, ← HIS.out, HV6.out])
            go_wp2_with fail
            refine Og.regionB (by kernel_rfl) (by kernel_rfl) ?_
            repeat (first
              | go_big_quiet_skip
              | (go_big_quiet_want
                 first
                  | ((with_reducible show Oper.quiet _ (Oper.mk (some 56) _ _ _ _ _) _ _ _); refine Og.quiet_load 26 (.tmp 2) rfl (.agg (Ev.xcells x).toArray) ⟨w.heap.size, 0, none⟩ _ rfl (by rintro _ ⟨z, rfl⟩; exact LX.out z) (by simp only [Act.put, List.setIfInBounds_toArray, List.set_cons_zero, List.set_cons_succ]; rfl) ?_
                     go_big_quiet_on)
                  | ((with_reducible show Oper.quiet _ (Oper.mk (some 61) _ _ _ _ _) _ _ _); refine Og.quiet_load 26 (.tmp 2) rfl (.agg (Ev.xcells x).toArray) ⟨w.heap.size, 0, none⟩ _ rfl (by rintro _ ⟨z, rfl⟩; exact LX.out z) (by simp only [Act.put, List.setIfInBounds_toArray, List.set_cons_zero, List.set_cons_succ]; rfl) ?_
                     go_big_quiet_on)
                  | ((with_reducible show Oper.quiet _ (Oper.mk (some 67) _ _ _ _ _) _ _ _); refine Og.quiet_load 26 (.tmp 2) rfl (.agg (Ev.xcells x).toArray) ⟨w.heap.size, 0, none⟩ _ rfl (by rintro _ ⟨z, rfl⟩; exact LX.out z) (by simp only [Act.put, List.setIfInBounds_toArray, List.set_cons_zero, List.set_cons_succ]; rfl) ?_
                     go_big_quiet_on)
                  | ((with_reducible show Oper.quiet _ (Oper.mk (some 73) _ _ _ _ _) _ _ _); refine Og.quiet_load 26 (.tmp 2) rfl (.agg (Ev.xcells x).toArray) ⟨w.heap.size, 0, none⟩ _ rfl (by rintro _ ⟨z, rfl⟩; exact LX.out z) (by simp only [Act.put, List.setIfInBounds_toArray, List.set_cons_zero, List.set_cons_succ]; rfl) ?_
                     go_big_quiet_on)
                  | (go_big_quiet_op
                     first
                      | go_big_quiet_on
                      | (apply Exists.intro
                         refine ⟨fun z => ?_, ?_⟩
                         · first
                            | (with_reducible exact Og.callB (rppo_is HP5.out hlt hql HFL.out _ (XI.out z)))
                         go_big_quiet_on))))
            refine wpQuiet_nil ?_
            intro _ hw'
            obtain ⟨q9, hw''⟩ := hw'
            subst hw''
            have HB4 := Lib.hid (HB3.out.trans (q9.b.mono HB3.out.size))
            have HR4 := Lib.hid (Ev.row_below HR3.out q9.b)
            go_wp2_with ((with_reducible show wpList _ _ _ (Oper.mk (some 99) _ _ _ _ _ :: _) _ _); refine wpList_append_own _ rfl (.tmp 94) (.tmp 98) 37 rfl B.heap.size 72 i0 (.agg #[.int .i64 0, .int .i64 0]) 2 16 Tryz.underlying37 HI.out HZ0.out HZ1.out HZ2.out rfl (by decide) _ _ _ rfl (HR4.out.alloc _) ⟨q9.x.heap.size, 0, none⟩ 1 1 (Ev.pv (a, q)) rfl rfl (fun j u hu => World.news_of_block (heap_alloc_new q9.x _) j u hu) (Ev.pv_one _) (by unfold maxLen; omega) (by omega) (by have := HB4.out.size; simp only [World.size_alloc]; omega) ?_
                         intro v' w5 hown hgrow _
                         have HOWN := Lib.hid hown; have HGR := Lib.hid hgrow; clear hown hgrow)
            have HB5 := Lib.hid (Below.grown (HB4.out.alloc HB4.out.size _) HGR.out (by have := HB4.out.size; simp only [World.size_alloc]; omega) (fun k hk => Ev.own_ge HR4.out hk))
            go_roundw
            case rel =>
              refine ⟨q + 1, by omega, by go_num, ?_, HB5.out⟩
              have := HOWN.out
              have hrs : Ev.rowL IS a (List.range (q + 1)) = Ev.rowL IS a (List.range q) ++ [(a, q)] := by have h := HRS.out; simpa using h
              rw [hrs, ← List.append_assoc, List.length_append, List.flatMap_append]
              simpa using this
            case measure => simp [intOf]; omega
          | false =>
            have HP5 := Lib.hid hp5; clear hp5
            cases hc3 : Ev.isCo x (a : Int) (q : Int) with
            | true =>
              have HC3 := Lib.hid hc3; clear hc3
              have HV6 := Lib.hid (show Ev.isG6 x a q = true by unfold Ev.isG6; rw [HP5.out, HC3.out]; rfl)
              have HRS := Lib.hid (show Ev.rowL IS a (List.range (q + 1)) = Ev.rowL IS a (List.range q) ++ if true = true then [(a, q)] else [] by rw [Ev.rowL_succ, ← HIS.out, HV6.out])
              go_wp2_with fail
              refine Og.regionB (by kernel_rfl) (by kernel_rfl) ?_
              repeat (first
                | go_big_quiet_skip
                | (go_big_quiet_want
                   first
                    | ((with_reducible show Oper.quiet _ (Oper.mk (some 56) _ _ _ _ _) _ _ _); refine Og.quiet_load 26 (.tmp 2) rfl (.agg (Ev.xcells x).toArray) ⟨w.heap.size, 0, none⟩ _ rfl (by rintro _ ⟨z, rfl⟩; exact LX.out z) (by simp only [Act.put, List.setIfInBounds_toArray, List.set_cons_zero, List.set_cons_succ]; rfl) ?_
                       go_big_quiet_on)
                    | ((with_reducible show Oper.quiet _ (Oper.mk (some 61) _ _ _ _ _) _ _ _); refine Og.quiet_load 26 (.tmp 2) rfl (.agg (Ev.xcells x).toArray) ⟨w.heap.size, 0, none⟩ _ rfl (by rintro _ ⟨z, rfl⟩; exact LX.out z) (by simp only [Act.put, List.setIfInBounds_toArray, List.set_cons_zero, List.set_cons_succ]; rfl) ?_
                       go_big_quiet_on)
                    | ((with_reducible show Oper.quiet _ (Oper.mk (some 67) _ _ _ _ _) _ _ _); refine Og.quiet_load 26 (.tmp 2) rfl (.agg (Ev.xcells x).toArray) ⟨w.heap.size, 0, none⟩ _ rfl (by rintro _ ⟨z, rfl⟩; exact LX.out z) (by simp only [Act.put, List.setIfInBounds_toArray, List.set_cons_zero, List.set_cons_succ]; rfl) ?_
                       go_big_quiet_on)
                    | ((with_reducible show Oper.quiet _ (Oper.mk (some 73) _ _ _ _ _) _ _ _); refine Og.quiet_load 26 (.tmp 2) rfl (.agg (Ev.xcells x).toArray) ⟨w.heap.size, 0, none⟩ _ rfl (by rintro _ ⟨z, rfl⟩; exact LX.out z) (by simp only [Act.put, List.setIfInBounds_toArray, List.set_cons_zero, List.set_cons_succ]; rfl) ?_
                       go_big_quiet_on)
                    | (go_big_quiet_op
                       first
                        | go_big_quiet_on
                        | (apply Exists.intro
                           refine ⟨fun z => ?_, ?_⟩
                           · first
                              | (with_reducible exact Og.callB (rppo_is HP5.out hlt hql HFL.out _ (XI.out z)))
                              | (with_reducible exact Og.callB (rco_is HC3.out hlt hql _ (XI.out z)))
                           go_big_quiet_on))))
              refine wpQuiet_nil ?_
              intro _ hw'
              obtain ⟨q9, hw''⟩ := hw'
              subst hw''
              have HB4 := Lib.hid (HB3.out.trans (q9.b.mono HB3.out.size))
              have HR4 := Lib.hid (Ev.row_below HR3.out q9.b)
              go_wp2_with ((with_reducible show wpList _ _ _ (Oper.mk (some 99) _ _ _ _ _ :: _) _ _); refine wpList_append_own _ rfl (.tmp 94) (.tmp 98) 37 rfl B.heap.size 72 i0 (.agg #[.int .i64 0, .int .i64 0]) 2 16 Tryz.underlying37 HI.out HZ0.out HZ1.out HZ2.out rfl (by decide) _ _ _ rfl (HR4.out.alloc _) ⟨q9.x.heap.size, 0, none⟩ 1 1 (Ev.pv (a, q)) rfl rfl (fun j u hu => World.news_of_block (heap_alloc_new q9.x _) j u hu) (Ev.pv_one _) (by unfold maxLen; omega) (by omega) (by have := HB4.out.size; simp only [World.size_alloc]; omega) ?_
                           intro v' w5 hown hgrow _
                           have HOWN := Lib.hid hown; have HGR := Lib.hid hgrow; clear hown hgrow)
              have HB5 := Lib.hid (Below.grown (HB4.out.alloc HB4.out.size _) HGR.out (by have := HB4.out.size; simp only [World.size_alloc]; omega) (fun k hk => Ev.own_ge HR4.out hk))
              go_roundw
              case rel =>
                refine ⟨q + 1, by omega, by go_num, ?_, HB5.out⟩
                have := HOWN.out
                have hrs : Ev.rowL IS a (List.range (q + 1)) = Ev.rowL IS a (List.range q) ++ [(a, q)] := by have h := HRS.out; simpa using h
                rw [hrs, ← List.append_assoc, List.length_append, List.flatMap_append]
                simpa using this
              case measure => simp [intOf]; omega
            | false =>
              have HC3 := Lib.hid hc3; clear hc3
              cases hf4 : Ev.isFr x a q with
              | true =>
                have HF4 := Lib.hid hf4; clear hf4
                have HV6 := Lib.hid (show Ev.isG6 x a q = true by unfold Ev.isG6; rw [HP5.out, HC3.out, HF4.out]; rfl)
                have HRS := Lib.hid (show Ev.rowL IS a (List.range (q + 1)) = Ev.rowL IS a (List.range q) ++ if true = true then [(a, q)] else [] by rw [Ev.rowL_succ, ← HIS.out, HV6.out])
                go_wp2_with fail
                refine Og.regionB (by kernel_rfl) (by kernel_rfl) ?_
                repeat (first
                  | go_big_quiet_skip
                  | (go_big_quiet_want
                     first
                      | ((with_reducible show Oper.quiet _ (Oper.mk (some 56) _ _ _ _ _) _ _ _); refine Og.quiet_load 26 (.tmp 2) rfl (.agg (Ev.xcells x).toArray) ⟨w.heap.size, 0, none⟩ _ rfl (by rintro _ ⟨z, rfl⟩; exact LX.out z) (by simp only [Act.put, List.setIfInBounds_toArray, List.set_cons_zero, List.set_cons_succ]; rfl) ?_
                         go_big_quiet_on)
                      | ((with_reducible show Oper.quiet _ (Oper.mk (some 61) _ _ _ _ _) _ _ _); refine Og.quiet_load 26 (.tmp 2) rfl (.agg (Ev.xcells x).toArray) ⟨w.heap.size, 0, none⟩ _ rfl (by rintro _ ⟨z, rfl⟩; exact LX.out z) (by simp only [Act.put, List.setIfInBounds_toArray, List.set_cons_zero, List.set_cons_succ]; rfl) ?_
                         go_big_quiet_on)
                      | ((with_reducible show Oper.quiet _ (Oper.mk (some 67) _ _ _ _ _) _ _ _); refine Og.quiet_load 26 (.tmp 2) rfl (.agg (Ev.xcells x).toArray) ⟨w.heap.size, 0, none⟩ _ rfl (by rintro _ ⟨z, rfl⟩; exact LX.out z) (by simp only [Act.put, List.setIfInBounds_toArray, List.set_cons_zero, List.set_cons_succ]; rfl) ?_
                         go_big_quiet_on)
                      | ((with_reducible show Oper.quiet _ (Oper.mk (some 73) _ _ _ _ _) _ _ _); refine Og.quiet_load 26 (.tmp 2) rfl (.agg (Ev.xcells x).toArray) ⟨w.heap.size, 0, none⟩ _ rfl (by rintro _ ⟨z, rfl⟩; exact LX.out z) (by simp only [Act.put, List.setIfInBounds_toArray, List.set_cons_zero, List.set_cons_succ]; rfl) ?_
                         go_big_quiet_on)
                      | (go_big_quiet_op
                         first
                          | go_big_quiet_on
                          | (apply Exists.intro
                             refine ⟨fun z => ?_, ?_⟩
                             · first
                                | (with_reducible exact Og.callB (rppo_is HP5.out hlt hql HFL.out _ (XI.out z)))
                                | (with_reducible exact Og.callB (rco_is HC3.out hlt hql _ (XI.out z)))
                                | (with_reducible exact Og.callB (rfr_is HF4.out hlt hql HCK.out _ (XI.out z)))
                             go_big_quiet_on))))
                refine wpQuiet_nil ?_
                intro _ hw'
                obtain ⟨q9, hw''⟩ := hw'
                subst hw''
                have HB4 := Lib.hid (HB3.out.trans (q9.b.mono HB3.out.size))
                have HR4 := Lib.hid (Ev.row_below HR3.out q9.b)
                go_wp2_with ((with_reducible show wpList _ _ _ (Oper.mk (some 99) _ _ _ _ _ :: _) _ _); refine wpList_append_own _ rfl (.tmp 94) (.tmp 98) 37 rfl B.heap.size 72 i0 (.agg #[.int .i64 0, .int .i64 0]) 2 16 Tryz.underlying37 HI.out HZ0.out HZ1.out HZ2.out rfl (by decide) _ _ _ rfl (HR4.out.alloc _) ⟨q9.x.heap.size, 0, none⟩ 1 1 (Ev.pv (a, q)) rfl rfl (fun j u hu => World.news_of_block (heap_alloc_new q9.x _) j u hu) (Ev.pv_one _) (by unfold maxLen; omega) (by omega) (by have := HB4.out.size; simp only [World.size_alloc]; omega) ?_
                             intro v' w5 hown hgrow _
                             have HOWN := Lib.hid hown; have HGR := Lib.hid hgrow; clear hown hgrow)
                have HB5 := Lib.hid (Below.grown (HB4.out.alloc HB4.out.size _) HGR.out (by have := HB4.out.size; simp only [World.size_alloc]; omega) (fun k hk => Ev.own_ge HR4.out hk))
                go_roundw
                case rel =>
                  refine ⟨q + 1, by omega, by go_num, ?_, HB5.out⟩
                  have := HOWN.out
                  have hrs : Ev.rowL IS a (List.range (q + 1)) = Ev.rowL IS a (List.range q) ++ [(a, q)] := by have h := HRS.out; simpa using h
                  rw [hrs, ← List.append_assoc, List.length_append, List.flatMap_append]
                  simpa using this
                case measure => simp [intOf]; omega
              | false =>
                have HF4 := Lib.hid hf4; clear hf4
                cases hr2 : Ev.isRf x a q with
                | false =>
                  have HR2 := Lib.hid hr2; clear hr2
                  have HV6 := Lib.hid (show Ev.isG6 x a q = false by unfold Ev.isG6; rw [HP5.out, HC3.out, HF4.out, HR2.out]; rfl)
                  have HRS := Lib.hid (show Ev.rowL IS a (List.range (q + 1)) = Ev.rowL IS a (List.range q) ++ if false = true then [(a, q)] else [] by rw [Ev.rowL_succ, ← HIS.out, HV6.out])
                  go_wp2_with fail
                  refine Og.regionB (by kernel_rfl) (by kernel_rfl) ?_
                  repeat (first
                    | go_big_quiet_skip
                    | (go_big_quiet_want
                       first
                        | ((with_reducible show Oper.quiet _ (Oper.mk (some 56) _ _ _ _ _) _ _ _); refine Og.quiet_load 26 (.tmp 2) rfl (.agg (Ev.xcells x).toArray) ⟨w.heap.size, 0, none⟩ _ rfl (by rintro _ ⟨z, rfl⟩; exact LX.out z) (by simp only [Act.put, List.setIfInBounds_toArray, List.set_cons_zero, List.set_cons_succ]; rfl) ?_
                           go_big_quiet_on)
                        | ((with_reducible show Oper.quiet _ (Oper.mk (some 61) _ _ _ _ _) _ _ _); refine Og.quiet_load 26 (.tmp 2) rfl (.agg (Ev.xcells x).toArray) ⟨w.heap.size, 0, none⟩ _ rfl (by rintro _ ⟨z, rfl⟩; exact LX.out z) (by simp only [Act.put, List.setIfInBounds_toArray, List.set_cons_zero, List.set_cons_succ]; rfl) ?_
                           go_big_quiet_on)
                        | ((with_reducible show Oper.quiet _ (Oper.mk (some 67) _ _ _ _ _) _ _ _); refine Og.quiet_load 26 (.tmp 2) rfl (.agg (Ev.xcells x).toArray) ⟨w.heap.size, 0, none⟩ _ rfl (by rintro _ ⟨z, rfl⟩; exact LX.out z) (by simp only [Act.put, List.setIfInBounds_toArray, List.set_cons_zero, List.set_cons_succ]; rfl) ?_
                           go_big_quiet_on)
                        | ((with_reducible show Oper.quiet _ (Oper.mk (some 73) _ _ _ _ _) _ _ _); refine Og.quiet_load 26 (.tmp 2) rfl (.agg (Ev.xcells x).toArray) ⟨w.heap.size, 0, none⟩ _ rfl (by rintro _ ⟨z, rfl⟩; exact LX.out z) (by simp only [Act.put, List.setIfInBounds_toArray, List.set_cons_zero, List.set_cons_succ]; rfl) ?_
                           go_big_quiet_on)
                        | (go_big_quiet_op
                           first
                            | go_big_quiet_on
                            | (apply Exists.intro
                               refine ⟨fun z => ?_, ?_⟩
                               · first
                                  | (with_reducible exact Og.callB (rppo_is HP5.out hlt hql HFL.out _ (XI.out z)))
                                  | (with_reducible exact Og.callB (rco_is HC3.out hlt hql _ (XI.out z)))
                                  | (with_reducible exact Og.callB (rfr_is HF4.out hlt hql HCK.out _ (XI.out z)))
                                  | (with_reducible exact Og.callB (rrf_is HR2.out hlt hql HFL.out _ (XI.out z)))
                               go_big_quiet_on))))
                  refine wpQuiet_nil ?_
                  intro _ hw'
                  obtain ⟨q9, hw''⟩ := hw'
                  subst hw''
                  have HB4 := Lib.hid (HB3.out.trans (q9.b.mono HB3.out.size))
                  have HR4 := Lib.hid (Ev.row_below HR3.out q9.b)
                  go_wp2_with fail
                  go_roundw
                  case rel => exact ⟨q + 1, by omega, by go_num, by rw [HRS.out]; simpa using HR4.out, HB4.out⟩
                  case measure => simp [intOf]; omega
                | true =>
                  have HR2 := Lib.hid hr2; clear hr2
                  cases hh : ea.h != eb.h with
                  | true =>
                    have HV6 := Lib.hid (show Ev.isG6 x a q = true by unfold Ev.isG6; rw [HP5.out, HC3.out, HF4.out, HR2.out, HNA.out, HNB.out, hh]; rfl)
                    have HRS := Lib.hid (show Ev.rowL IS a (List.range (q + 1)) = Ev.rowL IS a (List.range q) ++ if true = true then [(a, q)] else [] by rw [Ev.rowL_succ, ← HIS.out, HV6.out])
                    go_wp2_with fail
                    refine Og.regionB (by kernel_rfl) (by kernel_rfl) ?_
                    repeat (first
                      | go_big_quiet_skip
                      | (go_big_quiet_want
                         first
                          | ((with_reducible show Oper.quiet _ (Oper.mk (some 56) _ _ _ _ _) _ _ _); refine Og.quiet_load 26 (.tmp 2) rfl (.agg (Ev.xcells x).toArray) ⟨w.heap.size, 0, none⟩ _ rfl (by rintro _ ⟨z, rfl⟩; exact LX.out z) (by simp only [Act.put, List.setIfInBounds_toArray, List.set_cons_zero, List.set_cons_succ]; rfl) ?_
                             go_big_quiet_on)
                          | ((with_reducible show Oper.quiet _ (Oper.mk (some 61) _ _ _ _ _) _ _ _); refine Og.quiet_load 26 (.tmp 2) rfl (.agg (Ev.xcells x).toArray) ⟨w.heap.size, 0, none⟩ _ rfl (by rintro _ ⟨z, rfl⟩; exact LX.out z) (by simp only [Act.put, List.setIfInBounds_toArray, List.set_cons_zero, List.set_cons_succ]; rfl) ?_
                             go_big_quiet_on)
                          | ((with_reducible show Oper.quiet _ (Oper.mk (some 67) _ _ _ _ _) _ _ _); refine Og.quiet_load 26 (.tmp 2) rfl (.agg (Ev.xcells x).toArray) ⟨w.heap.size, 0, none⟩ _ rfl (by rintro _ ⟨z, rfl⟩; exact LX.out z) (by simp only [Act.put, List.setIfInBounds_toArray, List.set_cons_zero, List.set_cons_succ]; rfl) ?_
                             go_big_quiet_on)
                          | ((with_reducible show Oper.quiet _ (Oper.mk (some 73) _ _ _ _ _) _ _ _); refine Og.quiet_load 26 (.tmp 2) rfl (.agg (Ev.xcells x).toArray) ⟨w.heap.size, 0, none⟩ _ rfl (by rintro _ ⟨z, rfl⟩; exact LX.out z) (by simp only [Act.put, List.setIfInBounds_toArray, List.set_cons_zero, List.set_cons_succ]; rfl) ?_
                             go_big_quiet_on)
                          | (go_big_quiet_op
                             first
                              | go_big_quiet_on
                              | (apply Exists.intro
                                 refine ⟨fun z => ?_, ?_⟩
                                 · first
                                    | (with_reducible exact Og.callB (rppo_is HP5.out hlt hql HFL.out _ (XI.out z)))
                                    | (with_reducible exact Og.callB (rco_is HC3.out hlt hql _ (XI.out z)))
                                    | (with_reducible exact Og.callB (rfr_is HF4.out hlt hql HCK.out _ (XI.out z)))
                                    | (with_reducible exact Og.callB (rrf_is HR2.out hlt hql HFL.out _ (XI.out z)))
                                 go_big_quiet_on))))
                    refine wpQuiet_nil ?_
                    intro _ hw'
                    obtain ⟨q9, hw''⟩ := hw'
                    subst hw''
                    have HB4 := Lib.hid (HB3.out.trans (q9.b.mono HB3.out.size))
                    have HR4 := Lib.hid (Ev.row_below HR3.out q9.b)
                    go_wp2_with ((with_reducible show wpList _ _ _ (Oper.mk (some 99) _ _ _ _ _ :: _) _ _); refine wpList_append_own _ rfl (.tmp 94) (.tmp 98) 37 rfl B.heap.size 72 i0 (.agg #[.int .i64 0, .int .i64 0]) 2 16 Tryz.underlying37 HI.out HZ0.out HZ1.out HZ2.out rfl (by decide) _ _ _ rfl (HR4.out.alloc _) ⟨q9.x.heap.size, 0, none⟩ 1 1 (Ev.pv (a, q)) rfl rfl (fun j u hu => World.news_of_block (heap_alloc_new q9.x _) j u hu) (Ev.pv_one _) (by unfold maxLen; omega) (by omega) (by have := HB4.out.size; simp only [World.size_alloc]; omega) ?_
                                 intro v' w5 hown hgrow _
                                 have HOWN := Lib.hid hown; have HGR := Lib.hid hgrow; clear hown hgrow)
                    have HB5 := Lib.hid (Below.grown (HB4.out.alloc HB4.out.size _) HGR.out (by have := HB4.out.size; simp only [World.size_alloc]; omega) (fun k hk => Ev.own_ge HR4.out hk))
                    go_roundw
                    case rel =>
                      refine ⟨q + 1, by omega, by go_num, ?_, HB5.out⟩
                      have := HOWN.out
                      have hrs : Ev.rowL IS a (List.range (q + 1)) = Ev.rowL IS a (List.range q) ++ [(a, q)] := by have h := HRS.out; simpa using h
                      rw [hrs, ← List.append_assoc, List.length_append, List.flatMap_append]
                      simpa using this
                    case measure => simp [intOf]; omega
                  | false =>
                    have HV6 := Lib.hid (show Ev.isG6 x a q = false by unfold Ev.isG6; rw [HP5.out, HC3.out, HF4.out, HR2.out, HNA.out, HNB.out, hh]; rfl)
                    have HRS := Lib.hid (show Ev.rowL IS a (List.range (q + 1)) = Ev.rowL IS a (List.range q) ++ if false = true then [(a, q)] else [] by rw [Ev.rowL_succ, ← HIS.out, HV6.out])
                    go_wp2_with fail
                    refine Og.regionB (by kernel_rfl) (by kernel_rfl) ?_
                    repeat (first
                      | go_big_quiet_skip
                      | (go_big_quiet_want
                         first
                          | ((with_reducible show Oper.quiet _ (Oper.mk (some 56) _ _ _ _ _) _ _ _); refine Og.quiet_load 26 (.tmp 2) rfl (.agg (Ev.xcells x).toArray) ⟨w.heap.size, 0, none⟩ _ rfl (by rintro _ ⟨z, rfl⟩; exact LX.out z) (by simp only [Act.put, List.setIfInBounds_toArray, List.set_cons_zero, List.set_cons_succ]; rfl) ?_
                             go_big_quiet_on)
                          | ((with_reducible show Oper.quiet _ (Oper.mk (some 61) _ _ _ _ _) _ _ _); refine Og.quiet_load 26 (.tmp 2) rfl (.agg (Ev.xcells x).toArray) ⟨w.heap.size, 0, none⟩ _ rfl (by rintro _ ⟨z, rfl⟩; exact LX.out z) (by simp only [Act.put, List.setIfInBounds_toArray, List.set_cons_zero, List.set_cons_succ]; rfl) ?_
                             go_big_quiet_on)
                          | ((with_reducible show Oper.quiet _ (Oper.mk (some 67) _ _ _ _ _) _ _ _); refine Og.quiet_load 26 (.tmp 2) rfl (.agg (Ev.xcells x).toArray) ⟨w.heap.size, 0, none⟩ _ rfl (by rintro _ ⟨z, rfl⟩; exact LX.out z) (by simp only [Act.put, List.setIfInBounds_toArray, List.set_cons_zero, List.set_cons_succ]; rfl) ?_
                             go_big_quiet_on)
                          | ((with_reducible show Oper.quiet _ (Oper.mk (some 73) _ _ _ _ _) _ _ _); refine Og.quiet_load 26 (.tmp 2) rfl (.agg (Ev.xcells x).toArray) ⟨w.heap.size, 0, none⟩ _ rfl (by rintro _ ⟨z, rfl⟩; exact LX.out z) (by simp only [Act.put, List.setIfInBounds_toArray, List.set_cons_zero, List.set_cons_succ]; rfl) ?_
                             go_big_quiet_on)
                          | (go_big_quiet_op
                             first
                              | go_big_quiet_on
                              | (apply Exists.intro
                                 refine ⟨fun z => ?_, ?_⟩
                                 · first
                                    | (with_reducible exact Og.callB (rppo_is HP5.out hlt hql HFL.out _ (XI.out z)))
                                    | (with_reducible exact Og.callB (rco_is HC3.out hlt hql _ (XI.out z)))
                                    | (with_reducible exact Og.callB (rfr_is HF4.out hlt hql HCK.out _ (XI.out z)))
                                    | (with_reducible exact Og.callB (rrf_is HR2.out hlt hql HFL.out _ (XI.out z)))
                                 go_big_quiet_on))))
                    refine wpQuiet_nil ?_
                    intro _ hw'
                    obtain ⟨q9, hw''⟩ := hw'
                    subst hw''
                    have HB4 := Lib.hid (HB3.out.trans (q9.b.mono HB3.out.size))
                    have HR4 := Lib.hid (Ev.row_below HR3.out q9.b)
                    go_wp2_with fail
                    go_roundw
                    case rel => exact ⟨q + 1, by omega, by go_num, by rw [HRS.out]; simpa using HR4.out, HB4.out⟩
                    case measure => simp [intOf]; omega
        · have hqe : q = x.ev.length := by omega
          have hqi : ¬ (q : Int) < (x.ev.length : Int) := by omega
          have HE := Lib.hid (show wr.ownsRow B.heap.size 72 2 u5 (Ev.pl IS x.ev.length (a + 1)).length ((Ev.pl IS x.ev.length (a + 1)).flatMap Ev.pv) by rw [Ev.pl_succ, ← hqe]; have := HR3.out; rwa [hqe] at this ⊢)
          clear hqe
          go_wp2
          go_roundw
          case rel => exact ⟨a + 1, by omega, by go_num, HE.out, HB3.out⟩
          case measure => simp [intOf]; omega
    · have han : a = x.ev.length := by omega
      have hai : ¬ (a : Int) < (x.ev.length : Int) := by omega
      have hrow := HROW.out
      rw [han] at hrow
      obtain ⟨A, c, hv, hp⟩ := Ev.pairs_of_row hrow
      have HP := Lib.hid hp
      subst hv
      clear hrow hp han
      go_wp2
      go_ret
      exact ⟨A, c, rfl, HP.out, B0.out.trans (HBR.out.mono B0.out.size)⟩
end Go.Proofs.YtnjnpbabgefaeaaGreat
end
