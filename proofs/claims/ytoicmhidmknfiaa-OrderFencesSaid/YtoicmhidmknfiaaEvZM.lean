/-
  EvZM: EvPpo, EvDP5 in one text.
-/
import Derived.Test.YtoicmhidmknfiaaEvRulA
import Derived.Test.YtoicmhidmknfiaaEvRulB
import Derived.Test.YtoicmhidmknfiaaEvRulC
import Derived.Test.YtoicmhidmknfiaaEvRulD
import Derived.Test.YtoicmhidmknfiaaEvRulL2
import Derived.Test.YtoicmhidmknfiaaEvRulL4
import Derived.Test.YtoicmhidmknfiaaEvRulL12
import Derived.Test.YtoicmhidmknfiaaEvRulL13
import Derived.Test.YtoicmhidmknfiaaEvCM

section
namespace Go.Proofs.Ytoicmhidmknfiaa
open Go.RowKit
set_option linter.unusedVariables false
set_option linter.unusedSimpArgs false
namespace Ev
theorem rule_of {x : X} {r : Int} {a b : Nat} (h1 : isPo x a b = true) (h2 : (nth x.ev a).k ≠ 4) (h3 : (nth x.ev b).k ≠ 4) : rule x r a b = ruleOf x r a b := by
  unfold rule; rw [if_neg]; rintro (h | h | h)
  · rw [h1] at h; cases h
  · exact h2 h
  · exact h3 h
def isPpo (x : X) (a b : Nat) : Bool := (List.range 13).any fun i => rule x ((i + 1 : Nat) : Int) a b
end Ev
theorem rrule_any (x : Ev.X) (K : Nat) (h1 : 1 ≤ K) (h2 : K ≤ 13) (a b : Nat) (ha : a < x.ev.length) (hb : b < x.ev.length) (hfl : x.fr.l.length = x.ev.length) (w : World) (hin : Ev.XIn w x) :
    Calls Try.prog 22 #[Ev.exV x, .int .i64 (K : Int), .int .i64 (a : Int), .int .i64 (b : Int)] w fun e w' => e = .returned (.bool (Ev.rule x (K : Int) a b)) ∧ Below w.heap.size w w' := by
  by_cases hno : Ev.isPo x a b = false ∨ (Ev.nth x.ev a).k = 4 ∨ (Ev.nth x.ev b).k = 4
  · rw [show Ev.rule x (K : Int) a b = false by unfold Ev.rule; rw [if_pos hno]]
    exact rule_no x K a b ha hb hno w hin
  · have hp : Ev.isPo x a b = true := by
      cases h : Ev.isPo x a b with
      | true => rfl
      | false => exact absurd (.inl h) hno
    have h4 : (Ev.nth x.ev a).k ≠ 4 := fun h => hno (.inr (.inl h))
    have h5 : (Ev.nth x.ev b).k ≠ 4 := fun h => hno (.inr (.inr h))
    rw [Ev.rule_of hp h4 h5]
    have HFL := Lib.hid hfl
    clear hno hfl
    match K, h1, h2 with
    | 1, _, _ => exact (rule_1 x a b ha hb hp h4 h5 w hin)
    | 2, _, _ => exact (rule_2 x a b ha hb hp h4 h5 HFL.out w hin)
    | 3, _, _ => exact (rule_3 x a b ha hb hp h4 h5 HFL.out w hin)
    | 4, _, _ => exact (rule_4 x a b ha hb hp h4 h5 w hin)
    | 5, _, _ => exact (rule_5 x a b ha hb hp h4 h5 w hin)
    | 6, _, _ => exact (rule_6 x a b ha hb hp h4 h5 w hin)
    | 7, _, _ => exact (rule_7 x a b ha hb hp h4 h5 w hin)
    | 8, _, _ => exact (rule_8 x a b ha hb hp h4 h5 w hin)
    | 9, _, _ => exact (rule_9 x a b ha hb hp h4 h5 w hin)
    | 10, _, _ => exact (rule_10 x a b ha hb hp h4 h5 w hin)
    | 11, _, _ => exact (rule_11 x a b ha hb hp h4 h5 w hin)
    | 12, _, _ => exact (rule_12 x a b ha hb hp h4 h5 HFL.out w hin)
    | 13, _, _ => exact (rule_13 x a b ha hb hp h4 h5 w hin)
    | k + 14, _, h => exact absurd h (by omega)
theorem rrule_is {x : Ev.X} {K : Nat} {a b : Nat} {v : Bool} (h : Ev.rule x (K : Int) a b = v) (h1 : 1 ≤ K) (h2 : K ≤ 13) (ha : a < x.ev.length) (hb : b < x.ev.length) (hfl : x.fr.l.length = x.ev.length) (w : World) (hin : Ev.XIn w x) :
    Calls Try.prog 22 #[.agg (Ev.xcells x).toArray, .int .i64 (K : Int), .int .i64 (a : Int), .int .i64 (b : Int)] w fun e w' => e = .returned (.bool v) ∧ Below w.heap.size w w' := h ▸ rrule_any x K h1 h2 a b ha hb hfl w hin
set_option maxRecDepth 100000 in
set_option maxHeartbeats 4000000 in
theorem rppo_any (x : Ev.X) (a b : Nat) (ha : a < x.ev.length) (hb : b < x.ev.length) (hfl : x.fr.l.length = x.ev.length) (w : World) (hin : Ev.XIn w x) :
    Calls Try.prog 49 #[Ev.exV x, .int .i64 (a : Int), .int .i64 (b : Int)] w fun e w' => e = .returned (.bool (Ev.isPpo x a b)) ∧ Below w.heap.size w w' := by
  obtain ⟨B, hB⟩ : ∃ B, B = w.alloc (Obj.cells (Ev.xcells x).toArray 26) := ⟨_, rfl⟩
  have HB := Lib.hid hB
  have B0 := Lib.hid (show Below w.heap.size w B by rw [hB]; exact (Below.refl w.heap.size w).alloc (Nat.le_refl _) _)
  have HX := Lib.hid (show Ev.XIn B x from hin.kp (Ev.kp_below B0.out))
  have RX := Lib.hid (show B.heap[w.heap.size]? = some (.cells (Ev.xcells x).toArray 26 (0, 0)) by rw [hB]; exact heap_alloc_new _ _)
  have HFL := Lib.hid hfl
  clear hin hB hfl
  unfold Ev.exV
  go_enter Try.func49, Try.ntmps49
  go_wp2
  rw [show w.alloc (Obj.cells (Ev.xcells x).toArray 26) = B from HB.out.symm]
  go_loopw [7] (fun i wr => ∃ r : Nat, 1 ≤ r ∧ r ≤ 14 ∧ i = .int .i64 (r : Int) ∧ (∀ q, 1 ≤ q → q < r → Ev.rule x (q : Int) a b = false) ∧ Below B.heap.size B wr) (fun i _ => 14 - (intOf i).toNat)
  case atStart => exact ⟨1, Nat.le_refl _, by omega, rfl, fun q h1 h2 => by omega, Below.refl _ _⟩
  case round =>
    obtain ⟨r, hr1, hr2, rfl, hall, hbr⟩ := hrel
    have HALL := Lib.hid hall; have HBR := Lib.hid hbr
    have RX3 := Lib.hid ((hbr.block w.heap.size (Array.getElem?_eq_some_iff.1 RX.out).1).trans RX.out)
    clear hall hbr
    by_cases hlt : r ≤ 13
    · have hri : (r : Int) ≤ 13 := by omega
      obtain ⟨v, hv⟩ : ∃ v, Ev.rule x (r : Int) a b = v := ⟨_, rfl⟩
      have HV := Lib.hid hv
      clear hv
      go_wp2_with ((with_reducible show wpList _ _ _ (Oper.mk (some 12) _ _ _ _ _ :: _) _ _); refine wpList_load_row rfl 26 (.tmp 3) rfl w.heap.size (by kernel_rfl) 26 (Ev.xcells x).toArray (0, 0) _ RX3.out Try.underlying26 rfl (by kernel_rfl) ?_)
      refine (rrule_is HV.out hr1 hlt ha hb HFL.out _ (HX.out.kp (Ev.kp_below HBR.out))).mono ?_
      rintro e W4 ⟨rfl, hb4⟩
      have HB4 := Lib.hid (HBR.out.trans (hb4.mono HBR.out.size))
      clear hb4
      cases v
      · have HA2 := Lib.hid (show ∀ q, 1 ≤ q → q < r + 1 → Ev.rule x (q : Int) a b = false from fun q h1 h2 => by
          rcases Nat.lt_succ_iff_lt_or_eq.1 h2 with h | h
          · exact HALL.out q h1 h
          · rw [h]; exact HV.out)
        go_wp2_with fail
        go_roundw
        case rel => exact ⟨r + 1, by omega, by omega, by go_num, HA2.out, HB4.out⟩
        case measure => simp [intOf]; omega
      · have HF := Lib.hid (show Ev.isPpo x a b = true from List.any_eq_true.2 ⟨r - 1, List.mem_range.2 (by omega), by rw [show r - 1 + 1 = r by omega]; exact HV.out⟩)
        go_wp2_with fail
        go_ret
        exact ⟨by rw [HF.out]; try rfl, B0.out.trans (HB4.out.mono B0.out.size)⟩
    · have hri : ¬ (r : Int) ≤ 13 := by omega
      have HF := Lib.hid (show Ev.isPpo x a b = false from List.any_eq_false.2 fun i hi => by
        have := List.mem_range.1 hi
        rw [HALL.out (i + 1) (by omega) (by omega)]; simp)
      go_wp2
      go_ret
      exact ⟨by rw [HF.out]; try rfl, B0.out.trans (HBR.out.mono B0.out.size)⟩
end Go.Proofs.Ytoicmhidmknfiaa
end

section
namespace Go.Proofs.Ytoicmhidmknfiaa
open Go.RowKit
set_option linter.unusedVariables false
set_option linter.unusedSimpArgs false
set_option maxRecDepth 100000 in
set_option maxHeartbeats 4000000 in
theorem rpairs5_any (x : Ev.X) (w : World) (hin : Ev.XIn w x) (hck : Ev.check x = 0) :
    Calls Try.prog 21 #[Ev.exV x, .int .i64 5] w fun e w' => ∃ a c, e = .returned (.slice a (Ev.pl (Ev.isPpo x) x.ev.length x.ev.length).length c) ∧ Ev.PairsIn w' a c (Ev.pl (Ev.isPpo x) x.ev.length x.ev.length) ∧ Below w.heap.size w w' := by
  obtain ⟨IS, hIS⟩ : ∃ IS : Nat → Nat → Bool, (Ev.isPpo x) = IS := ⟨_, rfl⟩
  have HIS := Lib.hid hIS
  have hn64 : x.ev.length ≤ 64 := (Ev.check_order hck).2.2
  have hl1 := hin.ev.le; have hl2 := hin.ev.max
  have HCK := Lib.hid hck
  have HFL := Lib.hid (check_from hck)
  obtain ⟨B, hB⟩ : ∃ B, B = w.alloc (Obj.cells (Ev.xcells x).toArray 26) := ⟨_, rfl⟩
  have HB := Lib.hid hB
  have B0 := Lib.hid (show Below w.heap.size w B by rw [hB]; exact (Below.refl w.heap.size w).alloc (Nat.le_refl _) _)
  have HX := Lib.hid (show Ev.XIn B x from hin.kp (Ev.kp_below B0.out))
  have RX := Lib.hid (show B.heap[w.heap.size]? = some (.cells (Ev.xcells x).toArray 26 (0, 0)) by rw [hB]; exact heap_alloc_new _ _)
  obtain ⟨i0, hi, hz0, hz1, hz2⟩ := info_pair
  have HI := Lib.hid hi; have HZ0 := Lib.hid hz0; have HZ1 := Lib.hid hz1; have HZ2 := Lib.hid hz2; clear hi hz0 hz1 hz2
  rw [hIS]
  clear hin hB hck hIS
  unfold Ev.exV Ev.xcells
  go_enter Try.func21, Try.ntmps21
  go_wp2
  rw [show w.alloc (Obj.cells #[Value.slice x.ae x.ev.length x.ce, Value.slice x.fr.a x.fr.l.length x.fr.c, Value.slice x.ao x.od.length x.co] 26) = B from HB.out.symm]
  go_loopw [5, 7, 8, 9, 24, 30, 36, 42, 48, 54] (fun v i _ _ _ _ _ _ _ _ wr => ∃ a : Nat, a ≤ x.ev.length ∧ i = .int .i64 (a : Int) ∧ wr.ownsRow B.heap.size 43 2 v (Ev.pl IS x.ev.length a).length ((Ev.pl IS x.ev.length a).flatMap Ev.pv) ∧ Below B.heap.size B wr) (fun _ i _ _ _ _ _ _ _ _ _ => x.ev.length - (intOf i).toNat)
  case atStart => exact ⟨0, Nat.zero_le _, rfl, World.ownsRow_nil _ _ _ _, Below.refl _ _⟩
  case round =>
    obtain ⟨a, ha, rfl, hrow, hbr⟩ := hrel
    have HROW := Lib.hid hrow; have HBR := Lib.hid hbr
    clear hrow hbr
    by_cases hlt : a < x.ev.length
    · have hai : (a : Int) < (x.ev.length : Int) := by omega
      go_wp2
      go_loopw [5, 8, 9, 24, 30, 36, 42, 48, 54] (fun v j _ _ _ _ _ _ _ w3 => ∃ q : Nat, q ≤ x.ev.length ∧ j = .int .i64 (q : Int) ∧ w3.ownsRow B.heap.size 43 2 v (Ev.pl IS x.ev.length a ++ Ev.rowL IS a (List.range q)).length ((Ev.pl IS x.ev.length a ++ Ev.rowL IS a (List.range q)).flatMap Ev.pv) ∧ Below B.heap.size B w3) (fun _ j _ _ _ _ _ _ _ _ => x.ev.length - (intOf j).toNat)
      case atStart => exact ⟨0, Nat.zero_le _, rfl, by simpa [Ev.rowL] using HROW.out, HBR.out⟩
      case round =>
        obtain ⟨q, hq, rfl, hrow3, hb3⟩ := hrel
        have HR3 := Lib.hid hrow3; have HB3 := Lib.hid hb3
        clear hrow3 hb3
        by_cases hql : q < x.ev.length
        · have hqi : (q : Int) < (x.ev.length : Int) := by omega
          obtain ⟨v, hv⟩ : ∃ v, IS a q = v := ⟨_, rfl⟩
          have HV := Lib.hid hv
          have HV2 := Lib.hid (show Ev.isPpo x a q = v by rw [← hv, ← HIS.out])
          have HRS := Lib.hid (show Ev.rowL IS a (List.range (q + 1)) = Ev.rowL IS a (List.range q) ++ if v then [(a, q)] else [] by rw [Ev.rowL_succ, hv])
          have RX3 := Lib.hid ((HB3.out.block w.heap.size (Array.getElem?_eq_some_iff.1 RX.out).1).trans RX.out)
          have hlen : (Ev.pl IS x.ev.length a ++ Ev.rowL IS a (List.range q)).length ≤ 4160 := by
            have h1 := Ev.pl_len IS x.ev.length a
            have h2 := Ev.rowL_len IS a q
            have h3 : a * x.ev.length ≤ 64 * 64 := Nat.mul_le_mul (by omega) hn64
            rw [List.length_append]; omega
          clear hv
          go_wp2_with ((with_reducible show wpList _ _ _ (Oper.mk (some 50) _ _ _ _ _ :: _) _ _); refine wpList_load_row rfl 26 (.tmp 2) rfl w.heap.size (by kernel_rfl) 26 (Ev.xcells x).toArray (0, 0) _ RX3.out Try.underlying26 rfl (by kernel_rfl) ?_)
          refine (rppo_any x a q hlt hql HFL.out _ (HX.out.kp (Ev.kp_below HB3.out))).mono ?_
          rintro e W4 ⟨rfl, hb4⟩
          rw [HV2.out]
          have HB4 := Lib.hid (HB3.out.trans (hb4.mono HB3.out.size))
          have HR4 := Lib.hid (Ev.row_below HR3.out hb4)
          clear hb4
          cases v
          · go_wp2_with fail
            go_roundw
            case rel => exact ⟨q + 1, by omega, by go_num, by rw [HRS.out]; simpa using HR4.out, HB4.out⟩
            case measure => simp [intOf]; omega
          · go_wp2_with ((with_reducible show wpList _ _ _ (Oper.mk (some 99) _ _ _ _ _ :: _) _ _); refine wpList_append_own _ rfl (.tmp 94) (.tmp 98) 33 rfl B.heap.size 43 i0 (.agg #[.int .i64 0, .int .i64 0]) 2 16 Try.underlying33 HI.out HZ0.out HZ1.out HZ2.out rfl (by decide) _ _ _ rfl (HR4.out.alloc _) ⟨W4.heap.size, 0, none⟩ 1 1 (Ev.pv (a, q)) rfl rfl (fun j u hu => World.news_of_block (heap_alloc_new W4 _) j u hu) (Ev.pv_one _) (by unfold maxLen; omega) (by omega) (by have := HB4.out.size; simp only [World.size_alloc]; omega) ?_
                         intro v' w5 hown hgrow _
                         have HOWN := Lib.hid hown; have HGR := Lib.hid hgrow; clear hown hgrow)
            have HB5 := Lib.hid (Below.grown (HB4.out.alloc HB4.out.size _) HGR.out (by have := HB4.out.size; simp only [World.size_alloc]; omega) (fun k hk => Ev.own_ge HR4.out hk))
            go_roundw
            case rel =>
              refine ⟨q + 1, by omega, by go_num, ?_, HB5.out⟩
              have := HOWN.out
              have hrs : Ev.rowL IS a (List.range (q + 1)) = Ev.rowL IS a (List.range q) ++ [(a, q)] := by have h := HRS.out; simpa using h
              rw [hrs, ← List.append_assoc, List.length_append, List.flatMap_append]
              simpa using this
            case measure => simp [intOf]; omega
        · have hqe : q = x.ev.length := by omega
          have hqi : ¬ (q : Int) < (x.ev.length : Int) := by omega
          have HE := Lib.hid (show wr.ownsRow B.heap.size 43 2 u5 (Ev.pl IS x.ev.length (a + 1)).length ((Ev.pl IS x.ev.length (a + 1)).flatMap Ev.pv) by rw [Ev.pl_succ, ← hqe]; have := HR3.out; rwa [hqe] at this ⊢)
          clear hqe
          go_wp2
          go_roundw
          case rel => exact ⟨a + 1, by omega, by go_num, HE.out, HB3.out⟩
          case measure => simp [intOf]; omega
    · have han : a = x.ev.length := by omega
      have hai : ¬ (a : Int) < (x.ev.length : Int) := by omega
      have hrow := HROW.out
      rw [han] at hrow
      obtain ⟨A, c, hv, hp⟩ := Ev.pairs_of_row hrow
      have HP := Lib.hid hp
      subst hv
      clear hrow hp han
      go_wp2
      go_ret
      exact ⟨A, c, rfl, HP.out, B0.out.trans (HBR.out.mono B0.out.size)⟩
namespace Ev
theorem PairsIn.at_ {w : World} {a : Option Addr} {c : Nat} {ps : List (Nat × Nat)} (h : PairsIn w a c ps) {k : Nat} {p : Nat × Nat} (hk : ps[k]? = some p) :
    ∃ g o, a = some ⟨g, o, none⟩ ∧ ∀ i c, (pv p)[i]? = some c → w.cell? ⟨g, o + k * 2 + i, none⟩ = some c := by
  have hl := (List.getElem?_eq_some_iff.1 hk).1
  obtain ⟨g, o, e, hc⟩ := h.rows (by simp; omega)
  exact ⟨g, o, e, fun i c hi => hc k (pv p) (by rw [List.getElem?_map, hk]; rfl) i c hi⟩
theorem PairsIn.kp {w w' : World} {a : Option Addr} {c : Nat} {ps : List (Nat × Nat)} (h : PairsIn w a c ps) (k : Kp w w') : PairsIn w' a c ps := ⟨h.rows.kp k, h.le, h.max⟩
end Ev
set_option maxRecDepth 100000 in
set_option maxHeartbeats 2000000 in
/-- two lists that are alike -/
theorem samePairs_yes (a b : Option Addr) (c d : Nat) (ps : List (Nat × Nat)) (w : World) (ha : Ev.PairsIn w a c ps) (hb : Ev.PairsIn w b d ps) :
    Calls Try.prog 20 #[.slice a ps.length c, .slice b ps.length d] w fun e w' => e = .returned (.bool true) ∧ Below w.heap.size w w' := by
  have HA := Lib.hid ha; have HB := Lib.hid hb
  have h1 := ha.le; have h2 := ha.max; have h3 := hb.le; have h4 := hb.max
  clear ha hb
  have tn : ((ps.length : Int) != (ps.length : Int)) = false := by simp
  go_enter Try.func20, Try.ntmps20
  go_wp2
  go_loopw [5] (fun i wr => ∃ k : Nat, k ≤ ps.length ∧ i = .int .i64 (k : Int) ∧ Below w.heap.size w wr) (fun i _ => ps.length - (intOf i).toNat)
  case atStart => exact ⟨0, Nat.zero_le _, rfl, Below.refl _ _⟩
  case round =>
    obtain ⟨k, hk, rfl, hbr⟩ := hrel
    have HBR := Lib.hid hbr; clear hbr
    by_cases hlt : k < ps.length
    · obtain ⟨p, hp⟩ : ∃ p, ps[k]? = some p := ⟨_, List.getElem?_eq_getElem hlt⟩
      obtain ⟨g, o, ea, hca⟩ := (HA.out.kp (Ev.kp_below HBR.out)).at_ hp
      obtain ⟨g', o', eb, hcb⟩ := (HB.out.kp (Ev.kp_below HBR.out)).at_ hp
      have hki : (k : Int) < (ps.length : Int) := by omega
      have LA := Lib.hid (fun z : Og.On wr.heap.size wr => run_loadVar_at (P := Try.prog) z.x g (o + k * 2) 43 [.int .i64 (p.1 : Int), .int .i64 (p.2 : Int)] _ (fun i v hv => Og.cellB z (hca i v hv)) Try.underlying43 rfl (by kernel_rfl))
      have LB := Lib.hid (fun z : Og.On wr.heap.size wr => run_loadVar_at (P := Try.prog) z.x g' (o' + k * 2) 43 [.int .i64 (p.1 : Int), .int .i64 (p.2 : Int)] _ (fun i v hv => Og.cellB z (hcb i v hv)) Try.underlying43 rfl (by kernel_rfl))
      rw [ea, eb]
      clear hp ea eb hca hcb
      go_wp2
      refine Og.regionB (by kernel_rfl) (by kernel_rfl) ?_
      repeat (first
        | go_big_quiet_skip
        | (go_big_quiet_want
           first
            | ((with_reducible show Oper.quiet _ (Oper.mk (some 20) _ _ _ _ _) _ _ _); refine Og.quiet_load 43 (.tmp 19) rfl (.agg [Value.int .i64 (p.1 : Int), Value.int .i64 (p.2 : Int)].toArray) ⟨g, o + k * 2, none⟩ _ rfl (by rintro _ ⟨z, rfl⟩; exact LA.out z) (by simp only [Act.put, List.setIfInBounds_toArray, List.set_cons_zero, List.set_cons_succ]; rfl) ?_
               go_big_quiet_on)
            | ((with_reducible show Oper.quiet _ (Oper.mk (some 24) _ _ _ _ _) _ _ _); refine Og.quiet_load 43 (.tmp 23) rfl (.agg [Value.int .i64 (p.1 : Int), Value.int .i64 (p.2 : Int)].toArray) ⟨g', o' + k * 2, none⟩ _ rfl (by rintro _ ⟨z, rfl⟩; exact LB.out z) (by simp only [Act.put, List.setIfInBounds_toArray, List.set_cons_zero, List.set_cons_succ]; rfl) ?_
               go_big_quiet_on)
            | (go_big_quiet_op
               first
                | go_big_quiet_on)))
      refine wpQuiet_nil ?_
      intro _ hw'
      obtain ⟨q9, hw''⟩ := hw'
      subst hw''
      have HEND := Lib.hid (HBR.out.trans (q9.b.mono HBR.out.size))
      go_wp2_with fail
      go_roundw
      case rel => exact ⟨k + 1, by omega, by go_num, HEND.out⟩
      case measure => simp [intOf]; omega
    · have hki : ¬ (k : Int) < (ps.length : Int) := by omega
      go_wp2
      go_ret
      exact ⟨rfl, HBR.out⟩
end Go.Proofs.Ytoicmhidmknfiaa
end
