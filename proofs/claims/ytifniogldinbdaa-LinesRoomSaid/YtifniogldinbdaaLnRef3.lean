/-
  The document's own answers: Same, All.
-/
import Derived.Test.YtifniogldinbdaaLnRef2
namespace Go.Proofs.Ytifniogldinbdaa
open Go.RowKit
set_option linter.unusedVariables false
set_option linter.unusedSimpArgs false
set_option maxRecDepth 100000 in
set_option maxHeartbeats 4000000 in
theorem rsame_any (a a' : Option Addr) (c c' : Nat) (x y : List Ln.E) (hx : x.length ≤ 600) (hy : y.length ≤ 600) (w : World) (h1 : Ln.LsIn w a c x) (h2 : Ln.LsIn w a' c' y) :
    Calls Try.prog 29 #[.slice a x.length c, .slice a' y.length c'] w fun e w' => e = .returned (.bool (Ln.sameLs x y)) ∧ Below w.heap.size w w' := by
  have H1 := Lib.hid h1; have H2 := Lib.hid h2
  clear h1 h2
  by_cases hl : x.length = y.length
  · have hli : ((x.length : Int) = (y.length : Int)) := by omega
    have hlb : ((x.length : Int) != (y.length : Int)) = false := by rw [hli]; simp
    go_enter Try.func29, Try.ntmps29
    go_wp2
    go_loopw [5] (fun i wr => ∃ k : Nat, k ≤ x.length ∧ i = .int .i64 (k : Int) ∧ Ln.sameLs x y = Ln.sameLs (x.drop k) (y.drop k) ∧ Below w.heap.size w wr) (fun i _ => x.length - (intOf i).toNat)
    case atStart => exact ⟨0, Nat.zero_le _, rfl, rfl, Below.refl _ _⟩
    case round =>
      obtain ⟨k, hk, rfl, hgo, hbr⟩ := hrel
      have HGO := Lib.hid hgo; have HBR := Lib.hid hbr
      clear hgo hbr
      by_cases hlt : k < x.length
      · obtain ⟨m, hm⟩ : ∃ m, x[k]? = some m := ⟨_, List.getElem?_eq_getElem hlt⟩
        obtain ⟨m', hm'⟩ : ∃ m, y[k]? = some m := ⟨_, List.getElem?_eq_getElem (by omega)⟩
        have O1 := Lib.hid (H1.out.ok_ hm); have O2 := Lib.hid (H2.out.ok_ hm')
        have HSS := Lib.hid (Ln.sameLs_step hm hm')
        obtain ⟨g1, o1, ea, hc⟩ := (H1.out.kp (Ev.kp_below HBR.out)).at_ hm
        obtain ⟨g2, o2, ea', hc'⟩ := (H2.out.kp (Ev.kp_below HBR.out)).at_ hm'
        have hki : (k : Int) < (x.length : Int) := by omega
        have hki2 : (k : Int) < (y.length : Int) := by omega
        have L1 := Lib.hid (fun z : Og.On wr.heap.size wr => run_loadVar_at (P := Try.prog) z.x g1 (o1 + k * 18) 30 (Ln.cells m) _ (fun i c hi => Og.cellB z (hc i c hi)) Try.underlying30 rfl (by rw [O1.out.len]; exact Ln.size_line))
        have L2 := Lib.hid (fun z : Og.On wr.heap.size wr => run_loadVar_at (P := Try.prog) z.x g2 (o2 + k * 18) 30 (Ln.cells m') _ (fun i c hi => Og.cellB z (hc' i c hi)) Try.underlying30 rfl (by rw [O2.out.len]; exact Ln.size_line))
        rw [ea, ea']
        clear hm hm' hc hc' ea ea'
        obtain ⟨v, hv⟩ : ∃ v, (!Ln.eqL m m') = v := ⟨_, rfl⟩
        have HV := Lib.hid hv
        clear hv
        go_wp2_with fail
        refine Og.regionB (by kernel_rfl) (by kernel_rfl) ?_
        repeat (first
          | go_big_quiet_skip
          | (go_big_quiet_want
             first
              | ((with_reducible show Oper.quiet _ (Oper.mk (some 20) _ _ _ _ _) _ _ _); refine Og.quiet_load 30 (.tmp 19) rfl (.agg (Ln.cells m).toArray) ⟨g1, o1 + k * 18, none⟩ _ rfl (by rintro _ ⟨z, rfl⟩; exact L1.out z) (by simp only [Act.put, List.setIfInBounds_toArray, List.set_cons_zero, List.set_cons_succ]; rfl) ?_
                 go_big_quiet_on)
              | ((with_reducible show Oper.quiet _ (Oper.mk (some 24) _ _ _ _ _) _ _ _); refine Og.quiet_load 30 (.tmp 23) rfl (.agg (Ln.cells m').toArray) ⟨g2, o2 + k * 18, none⟩ _ rfl (by rintro _ ⟨z, rfl⟩; exact L2.out z) (by simp only [Act.put, List.setIfInBounds_toArray, List.set_cons_zero, List.set_cons_succ]; rfl) ?_
                 go_big_quiet_on)
              | ((with_reducible show Oper.quiet _ (Oper.mk (some 25) _ _ _ _ _) _ _ _); refine Og.quiet_eql v _ (fun W => Ln.neq_op (a := m) (b := m') (.tmp 20) (.tmp 24) rfl O1.out O2.out rfl rfl v HV.out W) (by simp only [Act.put, List.setIfInBounds_toArray, List.set_cons_zero, List.set_cons_succ]; rfl) ?_
                 go_big_quiet_on)
              | (go_big_quiet_op
                 go_big_quiet_on)))
        refine wpQuiet_nil ?_
        intro _ hw'
        obtain ⟨q9, hw''⟩ := hw'
        subst hw''
        have B9 := Lib.hid (HBR.out.trans (q9.b.mono HBR.out.size))
        cases v
        · have HE := Lib.hid (show Ln.sameLs x y = Ln.sameLs (x.drop (k + 1)) (y.drop (k + 1)) by
            rw [HGO.out, HSS.out]
            have := HV.out
            simp at this
            rw [this]; rfl)
          go_wp2_with fail
          go_roundw
          case rel => exact ⟨k + 1, by omega, by go_num, HE.out, B9.out⟩
          case measure => simp [intOf]; omega
        · have HE := Lib.hid (show Ln.sameLs x y = false by
            rw [HGO.out, HSS.out]
            have := HV.out
            simp at this
            rw [this]; rfl)
          go_wp2_with fail
          go_ret
          exact ⟨by rw [HE.out]; rfl, B9.out⟩
      · have hki : ¬ (k : Int) < (x.length : Int) := by omega
        have HE := Lib.hid (show Ln.sameLs x y = true by rw [HGO.out, List.drop_eq_nil_of_le (by omega), List.drop_eq_nil_of_le (by omega)]; rfl)
        go_wp2
        go_ret
        exact ⟨by rw [HE.out]; rfl, HBR.out⟩
  · have hli : ¬ ((x.length : Int) = (y.length : Int)) := by omega
    have hlb : ((x.length : Int) != (y.length : Int)) = true := bne_iff_ne.2 hli
    have HE := Lib.hid (Ln.sameLs_len hl)
    go_enter Try.func29, Try.ntmps29
    go_wp2
    go_ret
    exact ⟨by rw [HE.out]; rfl, Below.refl _ _⟩
namespace Ln
/-- all lines, set by set -/
def allL (l : List E) (s k : Nat) : List E := ((List.range k).map (ofL l s)).flatten
theorem allL_succ (l : List E) (s k : Nat) : allL l s (k + 1) = allL l s k ++ ofL l s k := by unfold allL; rw [List.range_succ, List.map_append, List.flatten_append]; simp
theorem allL_ok {l : List E} (h : ∀ e ∈ l, Ok e) (s k : Nat) : ∀ e ∈ allL l s k, Ok e := by
  intro e he
  unfold allL at he
  obtain ⟨r, hr, her⟩ := List.mem_flatten.1 he
  obtain ⟨t, _, rfl⟩ := List.mem_map.1 hr
  exact h e (List.mem_filter.1 her).1
theorem allL_len {l : List E} (s : Nat) (k : Nat) : (allL l s k).length ≤ k * l.length := by
  induction k with
  | zero => simp [allL]
  | succ k ih =>
    rw [allL_succ, List.length_append, Nat.succ_mul]
    have := ofL_len l s k
    omega
end Ln
set_option maxRecDepth 100000 in
set_option maxHeartbeats 4000000 in
theorem rall_any (s ways : Nat) (a : Option Addr) (c : Nat) (l : List Ln.E) (w : World) (h : Ln.RIn w s ways a c l) :
    Calls Try.prog 30 #[.agg #[.int .i64 (s : Int), .int .i64 (ways : Int), .slice a l.length c]] w fun e w' => ∃ a' c', e = .returned (.slice a' (Ln.allL l s s).length c') ∧ w'.ownsRow w.heap.size 30 18 (.slice a' (Ln.allL l s s).length c') (Ln.allL l s s).length (Ln.flat (Ln.allL l s s)) ∧ Below w.heap.size w w' := by
  have hlen := h.len
  have hs0 := h.s0; have hs1 := h.s1
  obtain ⟨b, hb⟩ : ∃ b, b = w.heap.size := ⟨_, rfl⟩
  obtain ⟨B, hB⟩ : ∃ B, B = w.alloc (.cells #[.int .i64 (s : Int), .int .i64 (ways : Int), .slice a l.length c] 46) := ⟨_, rfl⟩
  have RB := Lib.hid (show Ln.RBox w B b s ways a c l by rw [hB, hb]; exact Ln.rbox h)
  have HB := Lib.hid hB; have Hb := Lib.hid hb
  have HLO := Lib.hid h.ls.ok
  obtain ⟨i0, hi, hz0, hz1, hz2⟩ := Ln.info_line
  have HI := Lib.hid hi; have HZ0 := Lib.hid hz0; have HZ1 := Lib.hid hz1; have HZ2 := Lib.hid hz2
  clear h hb hB hi hz0 hz1 hz2
  go_enter Try.func30, Try.ntmps30
  go_wp2_with fail
  rw [← HB.out, ← Hb.out]
  go_loopw [3, 4] (fun v i wr => ∃ k : Nat, k ≤ s ∧ i = .int .i64 (k : Int) ∧ Ln.Acc w wr v (Ln.allL l s k) ∧ Ln.RBox w wr b s ways a c l) (fun _ i _ => s - (intOf i).toNat)
  case atStart => exact ⟨0, Nat.zero_le _, rfl, Ln.Acc.nil w B, RB.out⟩
  case round =>
    obtain ⟨k, hk, rfl, ⟨oa, oc, rfl, ho⟩, hrb⟩ := hrel
    have RR := Lib.hid hrb; have HO := Lib.hid ho
    have c0 := hrb.c0
    have hol : (Ln.allL l s k).length ≤ 64 * 500 := by
      have := Ln.allL_len (l := l) s k
      have h2 : k * l.length ≤ 64 * 500 := Nat.mul_le_mul (by omega) (by omega)
      omega
    clear hrb ho
    by_cases hlt : k < s
    · have hki : (k : Int) < (s : Int) := by omega
      have HT := Lib.hid (Ln.allL_succ l s k)
      have KO := Lib.hid (rof_any s ways a c l k (by omega) wr RR.out.rinB)
      have hfl := Ln.ofL_len l s k
      go_wp2_with (first
        | ((with_reducible show wpList _ _ _ (Oper.mk (some 12) _ _ _ _ _ :: _) _ _); refine wpList_load_row rfl 46 (.tmp 1) rfl b rfl 46 _ (0, 0) _ RR.out.row Try.underlying46 rfl (by kernel_rfl) ?_)
        | (go_at_call 41; (with_reducible refine KO.out.mono ?_); rintro e W2 ⟨a', c', rfl, ho', hb'⟩
           have R2 := Lib.hid (RR.out.kp hb'); have O2 := Lib.hid (Ln.row_kept HO.out (fun j hj => hb'.block j (HO.out.lt j hj).2)); have OF := Lib.hid ho'; have B2 := Lib.hid hb'
           clear ho' hb'
           refine Ln.Stop.out ?_))
      refine ⟨?_⟩
      obtain ⟨af, cf, ef, hlf⟩ := Ln.own_in OF.out (fun e he => HLO.out e (List.mem_filter.1 he).1)
      obtain ⟨rfl, rfl⟩ : a' = af ∧ c' = cf := by injection ef with e1 _ e3; exact ⟨e1, e3⟩
      have HLF := Lib.hid hlf
      cases a' with
      | none =>
        have hn : Ln.ofL l s k = [] := by
          cases hq : Ln.ofL l s k with
          | nil => rfl
          | cons x r => rw [hq] at hlf; obtain ⟨g, o, e, _⟩ := hlf.rows (by simp); cases e
        have hc0 : c' = 0 := by
          rcases OF.out.2 with ⟨e1, _⟩ | ⟨g, cap, cur, e1, _⟩
          · injection e1
          · injection e1 with e1; cases e1
        subst hc0
        have HN := Lib.hid hn
        rw [show (Ln.ofL l s k).length = 0 by rw [hn]; rfl]
        rw [hn] at HT
        clear hlf hn ef
        go_wp2_with ((with_reducible show wpList _ _ _ (Oper.mk (some 15) _ _ _ _ _ :: _) _ _); refine wpList_append_own_none rfl (.tmp 11) (.tmp 14) 38 rfl w.heap.size 30 i0 18 Try.underlying38 HI.out _ _ _ rfl O2.out rfl ?_)
        go_roundw
        case rel => exact ⟨k + 1, by omega, by go_num, ⟨oa, oc, by rw [HT.out, List.append_nil], by rw [HT.out, List.append_nil]; exact O2.out⟩, R2.out⟩
        case measure => simp [intOf]; omega
      | some af =>
        clear hlf ef
        go_wp2_with ((with_reducible show wpList _ _ _ (Oper.mk (some 15) _ _ _ _ _ :: _) _ _); refine wpList_append_own W2 rfl (.tmp 11) (.tmp 14) 38 rfl w.heap.size 30 i0 (Ln.EV Ln.E0) 18 32 Try.underlying38 HI.out HZ0.out HZ1.out HZ2.out rfl (by decide) _ _ _ rfl O2.out af (Ln.ofL l s k).length c' (Ln.flat (Ln.ofL l s k)) rfl (by rw [Ln.flat_len HLF.out.ok]) HLF.out.news (Ln.flat_one' _) (by unfold maxLen; omega) (by omega) R2.out.bel.size ?_
                     intro v' w3 hown hgrow _
                     have RN := Lib.hid (R2.out.grown0 hgrow (Ln.own_ne O2.out R2.out.row (by decide)) (fun j hj => (O2.out.lt j hj).1))
                     rw [← Ln.flat_app, ← HT.out, show (Ln.allL l s k).length + (Ln.ofL l s k).length = (Ln.allL l s (k + 1)).length by rw [HT.out]; simp] at hown
                     obtain ⟨a', c', rfl⟩ := Ln.own_form hown
                     have HOW := Lib.hid hown
                     clear hown hgrow
                     refine Ln.Stop.out ?_)
        refine ⟨?_⟩
        go_wp2_with fail
        go_roundw
        case rel => exact ⟨k + 1, by omega, by go_num, ⟨a', c', rfl, HOW.out⟩, RN.out⟩
        case measure => simp [intOf]; omega
    · have hki : ¬ (k : Int) < (s : Int) := by omega
      have hke : k = s := by omega
      subst hke
      go_wp2
      go_ret
      exact ⟨oa, oc, rfl, HO.out, RR.out.bel⟩
end Go.Proofs.Ytifniogldinbdaa
