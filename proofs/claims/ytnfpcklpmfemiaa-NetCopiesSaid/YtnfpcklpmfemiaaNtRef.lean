/-
  The document's To and Same; slices.Equal of messages.
-/
import Derived.Test.YtnfpcklpmfemiaaNtRDel
namespace Go.Proofs.Ytnfpcklpmfemiaa
open Go.RowKit
set_option linter.unusedVariables false
set_option linter.unusedSimpArgs false
namespace Nt
def sameLs : List E → List E → Bool
  | [], [] => true
  | a :: x, b :: y => eqM a b && sameLs x y
  | _, _ => false
theorem sameLs_iff {x y : List E} (hx : ∀ e ∈ x, Ok e) (hy : ∀ e ∈ y, Ok e) : sameLs x y = true ↔ x = y := by
  induction x generalizing y with
  | nil => cases y <;> simp [sameLs]
  | cons a x ih =>
    cases y with
    | nil => simp [sameLs]
    | cons b y =>
      simp only [sameLs, Bool.and_eq_true, List.cons.injEq]
      rw [eqM_iff (hx a List.mem_cons_self) (hy b List.mem_cons_self), ih (fun e he => hx e (List.mem_cons_of_mem _ he)) (fun e he => hy e (List.mem_cons_of_mem _ he))]
theorem sameLs_step {x y : List E} {k : Nat} {a b : E} (h1 : x[k]? = some a) (h2 : y[k]? = some b) : sameLs (x.drop k) (y.drop k) = (eqM a b && sameLs (x.drop (k + 1)) (y.drop (k + 1))) := by
  obtain ⟨p1, q1⟩ := List.getElem?_eq_some_iff.1 h1
  obtain ⟨p2, q2⟩ := List.getElem?_eq_some_iff.1 h2
  rw [List.drop_eq_getElem_cons p1, List.drop_eq_getElem_cons p2, q1, q2]; rfl
theorem sameLs_len {x y : List E} (h : x.length ≠ y.length) : sameLs x y = false := by
  induction x generalizing y with
  | nil => cases y <;> simp_all [sameLs]
  | cons a x ih => cases y with
    | nil => rfl
    | cons b y => simp only [sameLs]; rw [ih (by simpa using h)]; simp
set_option maxRecDepth 100000 in
set_option maxHeartbeats 4000000 in
theorem rsame_any (a a' : Option Addr) (c c' : Nat) (x y : List E) (hx : x.length ≤ 1100) (hy : y.length ≤ 1100) (w : World) (h1 : LsIn w a c x) (h2 : LsIn w a' c' y) :
    Calls Try.prog 41 #[.slice a x.length c, .slice a' y.length c'] w fun e w' => e = .returned (.bool (sameLs x y)) ∧ Below w.heap.size w w' := by
  have H1 := Lib.hid h1; have H2 := Lib.hid h2
  clear h1 h2
  by_cases hl : x.length = y.length
  · have hli : ((x.length : Int) = (y.length : Int)) := by omega
    have hlb : ((x.length : Int) != (y.length : Int)) = false := by rw [hli]; simp
    go_enter Try.func41, Try.ntmps41
    go_wp2
    go_loopw [5] (fun i wr => ∃ k : Nat, k ≤ x.length ∧ i = .int .i64 (k : Int) ∧ sameLs x y = sameLs (x.drop k) (y.drop k) ∧ Below w.heap.size w wr) (fun i _ => x.length - (intOf i).toNat)
    case atStart => exact ⟨0, Nat.zero_le _, rfl, rfl, Below.refl _ _⟩
    case round =>
      obtain ⟨k, hk, rfl, hgo, hbr⟩ := hrel
      have HGO := Lib.hid hgo; have HBR := Lib.hid hbr
      clear hgo hbr
      by_cases hlt : k < x.length
      · obtain ⟨m, hm⟩ : ∃ m, x[k]? = some m := ⟨_, List.getElem?_eq_getElem hlt⟩
        obtain ⟨m', hm'⟩ : ∃ m, y[k]? = some m := ⟨_, List.getElem?_eq_getElem (by omega)⟩
        have O1 := Lib.hid (H1.out.ok_ hm); have O2 := Lib.hid (H2.out.ok_ hm')
        have HSS := Lib.hid (sameLs_step hm hm')
        obtain ⟨g1, o1, ea, hc⟩ := (H1.out.kp (Ev.kp_below HBR.out)).at_ hm
        obtain ⟨g2, o2, ea', hc'⟩ := (H2.out.kp (Ev.kp_below HBR.out)).at_ hm'
        have hki : (k : Int) < (x.length : Int) := by omega
        have hki2 : (k : Int) < (y.length : Int) := by omega
        have L1 := Lib.hid (fun z : Og.On wr.heap.size wr => run_loadVar_at (P := Try.prog) z.x g1 (o1 + k * 20) 57 (cells m) _ (fun i c hi => Og.cellB z (hc i c hi)) Try.underlying57 rfl (by rw [O1.out.len]; exact size_msg))
        have L2 := Lib.hid (fun z : Og.On wr.heap.size wr => run_loadVar_at (P := Try.prog) z.x g2 (o2 + k * 20) 57 (cells m') _ (fun i c hi => Og.cellB z (hc' i c hi)) Try.underlying57 rfl (by rw [O2.out.len]; exact size_msg))
        rw [ea, ea']
        clear hm hm' hc hc' ea ea'
        obtain ⟨v, hv⟩ : ∃ v, (!eqM m m') = v := ⟨_, rfl⟩
        have HV := Lib.hid hv
        clear hv
        go_wp2_with fail
        refine Og.regionB (by kernel_rfl) (by kernel_rfl) ?_
        repeat (first
          | go_big_quiet_skip
          | (go_big_quiet_want
             first
              | ((with_reducible show Oper.quiet _ (Oper.mk (some 20) _ _ _ _ _) _ _ _); refine Og.quiet_load 57 (.tmp 19) rfl (.agg (cells m).toArray) ⟨g1, o1 + k * 20, none⟩ _ rfl (by rintro _ ⟨z, rfl⟩; exact L1.out z) (by simp only [Act.put, List.setIfInBounds_toArray, List.set_cons_zero, List.set_cons_succ]; rfl) ?_
                 go_big_quiet_on)
              | ((with_reducible show Oper.quiet _ (Oper.mk (some 24) _ _ _ _ _) _ _ _); refine Og.quiet_load 57 (.tmp 23) rfl (.agg (cells m').toArray) ⟨g2, o2 + k * 20, none⟩ _ rfl (by rintro _ ⟨z, rfl⟩; exact L2.out z) (by simp only [Act.put, List.setIfInBounds_toArray, List.set_cons_zero, List.set_cons_succ]; rfl) ?_
                 go_big_quiet_on)
              | ((with_reducible show Oper.quiet _ (Oper.mk (some 25) _ _ _ _ _) _ _ _); refine Og.quiet_eql v _ (fun W => neq_op (a := m) (b := m') (.tmp 20) (.tmp 24) rfl O1.out O2.out rfl rfl v HV.out W) (by simp only [Act.put, List.setIfInBounds_toArray, List.set_cons_zero, List.set_cons_succ]; rfl) ?_
                 go_big_quiet_on)
              | (go_big_quiet_op
                 go_big_quiet_on)))
        refine wpQuiet_nil ?_
        intro _ hw'
        obtain ⟨q9, hw''⟩ := hw'
        subst hw''
        have B9 := Lib.hid (HBR.out.trans (q9.b.mono HBR.out.size))
        cases v
        · have HE := Lib.hid (show sameLs x y = sameLs (x.drop (k + 1)) (y.drop (k + 1)) by
            rw [HGO.out, HSS.out]
            have := HV.out
            simp at this
            rw [this]; rfl)
          go_wp2_with fail
          go_roundw
          case rel => exact ⟨k + 1, by omega, by go_num, HE.out, B9.out⟩
          case measure => simp [intOf]; omega
        · have HE := Lib.hid (show sameLs x y = false by
            rw [HGO.out, HSS.out]
            have := HV.out
            simp at this
            rw [this]; rfl)
          go_wp2_with fail
          go_ret
          exact ⟨by rw [HE.out]; rfl, B9.out⟩
      · have hki : ¬ (k : Int) < (x.length : Int) := by omega
        have HE := Lib.hid (show sameLs x y = true by rw [HGO.out, List.drop_eq_nil_of_le (by omega), List.drop_eq_nil_of_le (by omega)]; rfl)
        go_wp2
        go_ret
        exact ⟨by rw [HE.out]; rfl, HBR.out⟩
  · have hli : ¬ ((x.length : Int) = (y.length : Int)) := by omega
    have hlb : ((x.length : Int) != (y.length : Int)) = true := bne_iff_ne.2 hli
    have HE := Lib.hid (sameLs_len hl)
    go_enter Try.func41, Try.ntmps41
    go_wp2
    go_ret
    exact ⟨by rw [HE.out]; rfl, Below.refl _ _⟩
set_option maxRecDepth 100000 in
set_option maxHeartbeats 4000000 in
theorem equal_any (a a' : Option Addr) (c c' : Nat) (x y : List E) (hx : x.length ≤ 1100) (hy : y.length ≤ 1100) (w : World) (h1 : LsIn w a c x) (h2 : LsIn w a' c' y) :
    Calls Try.prog 66 #[.slice a x.length c, .slice a' y.length c'] w fun e w' => e = .returned (.bool (sameLs x y)) ∧ Below w.heap.size w w' := by
  have H1 := Lib.hid h1; have H2 := Lib.hid h2
  clear h1 h2
  by_cases hl : x.length = y.length
  · have hli : ((x.length : Int) = (y.length : Int)) := by omega
    have hlb : ((x.length : Int) != (y.length : Int)) = false := by rw [hli]; simp
    go_enter Try.func66, Try.ntmps66
    go_wp2
    go_loopw [5, 13] (fun _ i wr => ∃ k : Nat, k ≤ x.length ∧ i = .int .i64 (k : Int) ∧ sameLs x y = sameLs (x.drop k) (y.drop k) ∧ Below w.heap.size w wr) (fun _ i _ => x.length - (intOf i).toNat)
    case atStart => exact ⟨0, Nat.zero_le _, rfl, rfl, Below.refl _ _⟩
    case round =>
      obtain ⟨k, hk, rfl, hgo, hbr⟩ := hrel
      have HGO := Lib.hid hgo; have HBR := Lib.hid hbr
      clear hgo hbr
      by_cases hlt : k < x.length
      · obtain ⟨m, hm⟩ : ∃ m, x[k]? = some m := ⟨_, List.getElem?_eq_getElem hlt⟩
        obtain ⟨m', hm'⟩ : ∃ m, y[k]? = some m := ⟨_, List.getElem?_eq_getElem (by omega)⟩
        have O1 := Lib.hid (H1.out.ok_ hm); have O2 := Lib.hid (H2.out.ok_ hm')
        have HSS := Lib.hid (sameLs_step hm hm')
        obtain ⟨g1, o1, ea, hc⟩ := (H1.out.kp (Ev.kp_below HBR.out)).at_ hm
        obtain ⟨g2, o2, ea', hc'⟩ := (H2.out.kp (Ev.kp_below HBR.out)).at_ hm'
        have hki : (k : Int) < (x.length : Int) := by omega
        have hki2 : (k : Int) < (y.length : Int) := by omega
        have L1 := Lib.hid (fun z : Og.On wr.heap.size wr => run_loadVar_at (P := Try.prog) z.x g1 (o1 + k * 20) 57 (cells m) _ (fun i c hi => Og.cellB z (hc i c hi)) Try.underlying57 rfl (by rw [O1.out.len]; exact size_msg))
        have L2 := Lib.hid (fun z : Og.On wr.heap.size wr => run_loadVar_at (P := Try.prog) z.x g2 (o2 + k * 20) 57 (cells m') _ (fun i c hi => Og.cellB z (hc' i c hi)) Try.underlying57 rfl (by rw [O2.out.len]; exact size_msg))
        rw [ea, ea']
        clear hm hm' hc hc' ea ea'
        obtain ⟨v, hv⟩ : ∃ v, (!eqM m m') = v := ⟨_, rfl⟩
        have HV := Lib.hid hv
        clear hv
        go_wp2_with fail
        refine Og.regionB (by kernel_rfl) (by kernel_rfl) ?_
        repeat (first
          | go_big_quiet_skip
          | (go_big_quiet_want
             first
              | ((with_reducible show Oper.quiet _ (Oper.mk (some 19) _ _ _ _ _) _ _ _); refine Og.quiet_load 57 (.tmp 18) rfl (.agg (cells m).toArray) ⟨g1, o1 + k * 20, none⟩ _ rfl (by rintro _ ⟨z, rfl⟩; exact L1.out z) (by simp only [Act.put, List.setIfInBounds_toArray, List.set_cons_zero, List.set_cons_succ]; rfl) ?_
                 go_big_quiet_on)
              | ((with_reducible show Oper.quiet _ (Oper.mk (some 23) _ _ _ _ _) _ _ _); refine Og.quiet_load 57 (.tmp 22) rfl (.agg (cells m').toArray) ⟨g2, o2 + k * 20, none⟩ _ rfl (by rintro _ ⟨z, rfl⟩; exact L2.out z) (by simp only [Act.put, List.setIfInBounds_toArray, List.set_cons_zero, List.set_cons_succ]; rfl) ?_
                 go_big_quiet_on)
              | ((with_reducible show Oper.quiet _ (Oper.mk (some 24) _ _ _ _ _) _ _ _); refine Og.quiet_eql v _ (fun W => neq_op (a := m) (b := m') (.tmp 19) (.tmp 23) rfl O1.out O2.out rfl rfl v HV.out W) (by simp only [Act.put, List.setIfInBounds_toArray, List.set_cons_zero, List.set_cons_succ]; rfl) ?_
                 go_big_quiet_on)
              | (go_big_quiet_op
                 go_big_quiet_on)))
        refine wpQuiet_nil ?_
        intro _ hw'
        obtain ⟨q9, hw''⟩ := hw'
        subst hw''
        have B9 := Lib.hid (HBR.out.trans (q9.b.mono HBR.out.size))
        cases v
        · have HE := Lib.hid (show sameLs x y = sameLs (x.drop (k + 1)) (y.drop (k + 1)) by
            rw [HGO.out, HSS.out]
            have := HV.out
            simp at this
            rw [this]; rfl)
          go_wp2_with fail
          go_roundw
          case rel => exact ⟨k + 1, by omega, by go_num, HE.out, B9.out⟩
          case measure => simp [intOf]; omega
        · have HE := Lib.hid (show sameLs x y = false by
            rw [HGO.out, HSS.out]
            have := HV.out
            simp at this
            rw [this]; rfl)
          go_wp2_with fail
          go_ret
          exact ⟨by rw [HE.out]; rfl, B9.out⟩
      · have hki : ¬ (k : Int) < (x.length : Int) := by omega
        have HE := Lib.hid (show sameLs x y = true by rw [HGO.out, List.drop_eq_nil_of_le (by omega), List.drop_eq_nil_of_le (by omega)]; rfl)
        go_wp2
        go_ret
        exact ⟨by rw [HE.out]; rfl, HBR.out⟩
  · have hli : ¬ ((x.length : Int) = (y.length : Int)) := by omega
    have hlb : ((x.length : Int) != (y.length : Int)) = true := bne_iff_ne.2 hli
    have HE := Lib.hid (sameLs_len hl)
    go_enter Try.func66, Try.ntmps66
    go_wp2
    go_ret
    exact ⟨by rw [HE.out]; rfl, Below.refl _ _⟩
theorem wpList_append {P : Program} {ops : Array Oper} {rest : List Oper} {o : Oper} {a : Act} {w w' : World} {Q : Exit → Act → World → Prop} (hgd : o.guard = none) (s x : Operand) (t : TypeId)
    (ho : o.op = .call { callee := .builtin .append, args := #[s, x], argTypes := #[t, t] }) {v u v' : Value} (hs : a.eval s = v) (hx : a.eval x = u) (hr : (Builtin.append_ #[t, t] o.type #[v, u]).run P w = .ok v' w')
    (h : wpList P ops Q rest (a.put o.dst v') w') : wpList P ops Q (o :: rest) a w :=
  wpList_plain hgd fun _ hK => Og.run_to (Og.append_to s x t ho hs hx hr) (hK _ _ h)
theorem wpList_buildMsg {ops : Array Oper} {rest : List Oper} {o : Oper} {a : Act} {w : World} {Q : Exit → Act → World → Prop} (hgd : o.guard = none) (e : E) (hok : Ok e) (x : Operand) (ho : o.op = .buildSlice 68 1 #[(0, x)]) (hx : a.eval x = EV e)
    (h : wpList Try.prog ops Q rest (a.put o.dst (.slice (some ⟨w.heap.size, 0, none⟩) 1 1)) (w.alloc (.cells (cells e).toArray 57))) : wpList Try.prog ops Q (o :: rest) a w :=
  wpList_plain hgd fun _ hK => Og.run_to (build_to hok x ho hx) (hK _ _ h)
set_option maxRecDepth 100000 in
set_option maxHeartbeats 4000000 in
theorem rto_any (most : Nat) (a : Option Addr) (c : Nat) (l : List E) (node : Int) (w : World) (h : LsIn w a c l) (hl : l.length ≤ 1024) :
    Calls Try.prog 67 #[.agg #[.int .i64 (most : Int), .slice a l.length c], .int .i64 node] w fun r w' => Told w w' r (toL node l) := by
  obtain ⟨nb, hnb⟩ : ∃ nb, nb = w.heap.size := ⟨_, rfl⟩
  obtain ⟨B, hB⟩ : ∃ B, B = w.alloc (.cells #[.int .i64 (most : Int), .slice a l.length c] 76) := ⟨_, rfl⟩
  have HB := Lib.hid hB; have HNB := Lib.hid hnb
  have B0 := Lib.hid (show Below w.heap.size w B by rw [hB]; exact (Below.refl w.heap.size w).alloc (Nat.le_refl _) _)
  have N0 := Lib.hid (show B.heap[nb]? = some (.cells #[.int .i64 (most : Int), .slice a l.length c] 76 (0, 0)) by rw [hB, hnb]; exact heap_alloc_new _ _)
  have HIN := Lib.hid h
  obtain ⟨q, hq⟩ : ∃ q, q = B.heap.size := ⟨_, rfl⟩
  have HQ := Lib.hid hq
  clear hB hnb h hq
  go_enter Try.func67, Try.ntmps67
  go_wp2_with fail
  rw [← HB.out, ← HNB.out]
  go_loopw [5, 6] (fun v i wr => ∃ k : Nat, k ≤ l.length ∧ i = .int .i64 (k : Int) ∧ ∃ a' c', v = .slice a' (toL node (l.take k)).length c' ∧ Own wr (fun j => q ≤ j) a' c' (toL node (l.take k)) ∧ Below q B wr) (fun _ i _ => l.length - (intOf i).toNat)
  case atStart => exact ⟨0, Nat.zero_le _, rfl, none, 0, rfl, Own.nil _ _, by rw [HQ.out]; exact Below.refl _ _⟩
  case round =>
    obtain ⟨k, hk, rfl, a', c', rfl, ho, hbq⟩ := hrel
    have OO := Lib.hid ho; have BB := Lib.hid hbq
    have hnq : nb < q := by rw [HQ.out]; exact (Array.getElem?_eq_some_iff.1 N0.out).1
    have NR := Lib.hid ((hbq.block nb hnq).trans N0.out)
    have c1 : wr.cell? ⟨nb, 1, none⟩ = some (.slice a l.length c) := by rw [cell_of_row _ _ _ _ _ _ NR.out]; rfl
    have hwB := B0.out.size
    have hqB := HQ.out
    have BW := Lib.hid (show Below w.heap.size w wr from B0.out.trans (hbq.mono (by omega)))
    have hlt2 : (toL node (l.take k)).length ≤ 1024 := Nat.le_trans (List.length_filter_le _ _) (by rw [List.length_take]; omega)
    clear ho hbq
    by_cases hlt : k < l.length
    · obtain ⟨e, he⟩ : ∃ e, l[k]? = some e := ⟨_, List.getElem?_eq_getElem hlt⟩
      have HE := Lib.hid he
      have HOK := Lib.hid (HIN.out.ok_ he)
      obtain ⟨ga, o, ea, hc⟩ := (HIN.out.kp (Ev.kp_below BW.out)).at_ he
      have HC := Lib.hid hc
      have hki : (k : Int) < (l.length : Int) := by omega
      have cc : wr.cell? ⟨ga, o + k * 20 + 2, none⟩ = some (.int .i64 e.t) := hc 2 _ (cell2 e)
      clear he hc hqB
      subst ea
      by_cases ht : e.t = node
      · have htb : (e.t == node) = true := by simpa using ht
        have HT := Lib.hid (show toL node (l.take (k + 1)) = toL node (l.take k) ++ [e] from by rw [toL_succ HE.out, htb]; rfl)
        obtain ⟨W', hW'⟩ : ∃ W', W' = wr.alloc (.cells (cells e).toArray 57) := ⟨_, rfl⟩
        have hba : Below wr.heap.size wr W' := by rw [hW']; exact (Below.refl _ _).alloc (Nat.le_refl _) _
        have hone : LsIn W' (some ⟨wr.heap.size, 0, none⟩) 1 [e] := ls_one HOK.out (by rw [hW']; exact heap_alloc_new _ _)
        have hokt : ∀ x ∈ toL node (l.take k), Ok x := fun x hx => HIN.out.ok x (List.mem_of_mem_take (List.mem_filter.1 hx).1)
        obtain ⟨a2, c2, W3, hr3, ho3, hf3⟩ := append_any (OO.out.kp hba) hokt hone (by simp only [List.length_singleton]; omega)
        rw [← HT.out] at hr3 ho3
        have hsz := BB.out.size; have hsz2 := hba.size
        have O3 := Lib.hid (show Own W3 (fun j => q ≤ j) a2 c2 (toL node (l.take (k + 1))) from ho3.mono (fun j hj => by
          rcases hj with hj | hj
          · exact hj
          · have := HQ.out; omega))
        have B3 := Lib.hid (show Below q B W3 from (BB.out.trans (hba.mono (by have := HQ.out; omega))).trans (fr_belowN hf3 (by have := HQ.out; omega)))
        have HR3 := Lib.hid hr3; have HW' := Lib.hid hW'
        clear ho3 hf3 hr3 hW' hba hone hokt hsz hsz2
        go_wp2_with (first
          | ((with_reducible show wpList _ _ _ (Oper.mk (some 27) _ _ _ _ _ :: _) _ _); refine wpList_load_at rfl 57 (.tmp 26) rfl ga (o + k * 20) rfl (cells e) _ HC.out Try.underlying57 rfl (by rw [HOK.out.len]; exact size_msg) ?_)
          | ((with_reducible show wpList _ _ _ (Oper.mk (some 28) _ _ _ _ _ :: _) _ _); refine wpList_buildMsg rfl e HOK.out (.tmp 27) rfl rfl ?_; rw [← HW'.out])
          | ((with_reducible show wpList _ _ _ (Oper.mk (some 29) _ _ _ _ _ :: _) _ _); refine wpList_append rfl (.tmp 22) (.tmp 28) 68 rfl rfl rfl HR3.out ?_))
        go_roundw
        case rel => exact ⟨k + 1, by omega, by go_num, a2, c2, rfl, O3.out, B3.out⟩
        case measure => simp [intOf]; omega
      · have htb : (e.t == node) = false := by simpa using ht
        have HT := Lib.hid (show toL node (l.take (k + 1)) = toL node (l.take k) from by rw [toL_succ HE.out, htb]; simp)
        go_wp2_with fail
        go_roundw
        case rel => exact ⟨k + 1, by omega, by go_num, a', c', by rw [HT.out], by rw [HT.out]; exact OO.out, BB.out⟩
        case measure => simp [intOf]; omega
    · have hki : ¬ (k : Int) < (l.length : Int) := by omega
      have HTL := Lib.hid (show toL node (l.take k) = toL node l by rw [List.take_of_length_le (by omega)])
      go_wp2_with fail
      go_ret
      refine ⟨a', c', by rw [← HTL.out]; rfl, ?_, fun x hx => HIN.out.ok x (List.mem_filter.1 hx).1, BW.out⟩
      rw [← HTL.out]
      exact OO.out.mono (fun j hj => by omega)
end Nt
end Go.Proofs.Ytnfpcklpmfemiaa
