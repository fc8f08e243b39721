/-
  The contracts of slices.IndexFunc of lines, and seek.
-/
import Derived.Test.YtifniogldinbdaaLnLow
import Derived.Test.YtifniogldinbdaaOgD
import Derived.BigGuardPart
namespace Go.Proofs.Ytifniogldinbdaa
open Go.RowKit
set_option linter.unusedVariables false
set_option linter.unusedSimpArgs false
namespace Ln
/-- the place of a number in a list, from k on; -1: there is none -/
def ix : List E → Int → Nat → Int
  | [], _, _ => -1
  | e :: r, n, k => if e.n = n then (k : Int) else ix r n (k + 1)
theorem ix_none {l : List E} {n : Int} {k : Nat} (h : ix l n k < 0) : ix l n k = -1 ∧ ∀ e ∈ l, e.n ≠ n := by
  induction l generalizing k with
  | nil => exact ⟨rfl, fun e he => by cases he⟩
  | cons e r ih =>
    unfold ix at h ⊢
    split at h
    · omega
    · rename_i hn
      rw [if_neg hn]
      obtain ⟨h1, h2⟩ := ih h
      exact ⟨h1, fun x hx => by rcases List.mem_cons.1 hx with rfl | hx; exact hn; exact h2 x hx⟩
theorem ix_some {l : List E} {n : Int} {k : Nat} (h : 0 ≤ ix l n k) : ∃ (i : Nat) (e : E), ix l n k = ((k + i : Nat) : Int) ∧ l[i]? = some e ∧ e.n = n ∧ ∀ (j : Nat) (x : E), j < i → l[j]? = some x → x.n ≠ n := by
  induction l generalizing k with
  | nil => unfold ix at h; omega
  | cons e r ih =>
    unfold ix at h ⊢
    by_cases hn : e.n = n
    · rw [if_pos hn]
      exact ⟨0, e, rfl, rfl, hn, fun j x hj => by omega⟩
    · rw [if_neg hn] at h ⊢
      obtain ⟨i, x, h1, h2, h3, h4⟩ := ih h
      refine ⟨i + 1, x, by rw [h1]; congr 1; omega, by simpa using h2, h3, fun j y hj hy => ?_⟩
      cases j with
      | zero => obtain rfl : e = y := by simpa using hy
                exact hn
      | succ j => exact h4 j y (by omega) (by simpa using hy)
theorem ix_step {l : List E} {n : Int} {k : Nat} {e : E} (h : l[k]? = some e) : ix (l.drop k) n k = if e.n = n then (k : Int) else ix (l.drop (k + 1)) n (k + 1) := by
  obtain ⟨hl, he⟩ := List.getElem?_eq_some_iff.1 h
  rw [List.drop_eq_getElem_cons hl, he]; rfl
end Ln
def Ln.Enters (G : FuncId) : Prop := ∀ args w, (callFunc G args).run Try.prog w = .ok (.enter G args) w
set_option maxRecDepth 100000 in
set_option maxHeartbeats 2000000 in
theorem ixLine_any (a : Option Addr) (c : Nat) (l : List Ln.E) (g : Nat) (n : Int) (w : World) (hin : Ln.LsIn w a c l) (hg : w.cell? ⟨g, 0, none⟩ = some (.int .u32 n)) (hlen : l.length ≤ 1000) :
    Calls Try.prog 44 #[.slice a l.length c, .func (.func 49) #[] #[.pointer (some ⟨g, 0, none⟩)]] w fun e w' => e = .returned (.int .i64 (Ln.ix l n 0)) ∧ Below w.heap.size w w' := by
  have HIN := Lib.hid hin; have HG := Lib.hid hg; clear hin hg
  go_enter Try.func44, Try.ntmps44
  go_wp2
  go_loopw [5, 8] (fun _ i wr => ∃ k : Nat, k ≤ l.length ∧ i = .int .i64 (k : Int) ∧ Ln.ix l n 0 = Ln.ix (l.drop k) n k ∧ Below w.heap.size w wr) (fun _ i _ => l.length - (intOf i).toNat)
  case atStart => exact ⟨0, Nat.zero_le _, rfl, rfl, Below.refl _ _⟩
  case round =>
    obtain ⟨k, hk, rfl, hgo, hbr⟩ := hrel
    have HGO := Lib.hid hgo; have HBR := Lib.hid hbr; clear hgo hbr
    by_cases hlt : k < l.length
    · obtain ⟨m, hm⟩ : ∃ m, l[k]? = some m := ⟨_, List.getElem?_eq_getElem hlt⟩
      obtain ⟨ga, o, ea, hc⟩ := (HIN.out.kp (Ev.kp_below HBR.out)).at_ hm
      have HOK := Lib.hid (HIN.out.ok_ hm)
      have HD := Lib.hid (Ln.ix_step (n := n) hm)
      have HGC := Lib.hid (Ev.kp_below HBR.out _ _ HG.out)
      have HC := Lib.hid hc
      have hki : (k : Int) < (l.length : Int) := by omega
      clear hm hc
      rw [ea]; clear ea
      go_wp2_with (first
        | ((with_reducible show wpList _ _ _ (Oper.mk (some 15) _ _ _ _ _ :: _) _ _); refine wpList_load_at rfl 30 (.tmp 14) rfl ga (o + k * 18) rfl (Ln.cells m) _ HC.out Try.underlying30 rfl (by rw [HOK.out.len]; exact Ln.size_line) ?_)
        | (go_at_call 49
           refine (isIt_any n m g wr HGC.out HOK.out).mono ?_
           obtain ⟨b, hb⟩ : ∃ b, decide (m.n = n) = b := ⟨_, rfl⟩
           rw [hb]
           rintro e W2 ⟨rfl, hb2⟩
           have HB2 := Lib.hid (HBR.out.trans (hb2.mono HBR.out.size))
           have HB := Lib.hid hb
           clear hb hb2
           cases b))
      · have e1 : m.n ≠ n := of_decide_eq_false HB.out
        have HN := Lib.hid (show Ln.ix l n 0 = Ln.ix (l.drop (k + 1)) n (k + 1) by rw [HGO.out, HD.out, if_neg e1])
        clear e1
        go_wp2_with fail
        go_roundw
        case rel => exact ⟨k + 1, by omega, by go_num, HN.out, HB2.out⟩
        case measure => simp [intOf]; omega
      · have e1 : m.n = n := of_decide_eq_true HB.out
        have HN := Lib.hid (show Ln.ix l n 0 = (k : Int) by rw [HGO.out, HD.out, if_pos e1])
        clear e1
        go_wp2_with fail
        go_ret
        exact ⟨by rw [HN.out]; rfl, HB2.out⟩
    · have hki : ¬ (k : Int) < (l.length : Int) := by omega
      have HY := Lib.hid (show Ln.ix l n 0 = -1 by rw [HGO.out, List.drop_eq_nil_of_le (by omega)]; rfl)
      go_wp2
      go_ret
      exact ⟨by rw [HY.out]; rfl, HBR.out⟩
theorem seek_nil (n : Int) (w : World) : Calls Try.prog 32 #[.pointer none, .int .u32 n] w fun e w' => e = .returned (.tuple #[.int .i64 0, .int .i64 0, .bool false]) ∧ w = w' := by
  go_enter Try.func32, Try.ntmps32
  go_wp2_with (go_at_call 33; refine (isNone_nil w).mono ?_; rintro e W2 ⟨rfl, rfl⟩)
  exact bodyPost_ret (results_tmp3 (fn := Try.f32) rfl _ _ _) rfl ⟨rfl, rfl⟩
theorem Ln.mod_at {n : Int} {s : Nat} (hn : Ev.u32B n) (hs : 0 < s) (hs2 : s ≤ 64) : ∃ i : Nat, i < s ∧ n.toNat % s = i ∧ (n % ((s : Int) % 4294967296)) = (i : Int) ∧ n.tmod (s : Int) = (i : Int) := by
  unfold Ev.u32B at hn
  obtain ⟨k, rfl⟩ := Int.eq_ofNat_of_zero_le hn.1
  refine ⟨k % s, Nat.mod_lt _ hs, by simp, ?_, ?_⟩
  · rw [show (s : Int) % 4294967296 = s by omega]; simp
  · rw [Int.tmod_eq_emod_of_nonneg (by omega)]; simp
set_option maxRecDepth 100000 in
set_option maxHeartbeats 2000000 in
theorem seek_any (n : Int) (hn : Ev.u32B n) (w : World) {F p g ways S} (h : Ln.Cin w F p g ways S) {i : Nat} {r : Ln.RW} (hi : n.toNat % S.length = i) (hr : S[i]? = some r) :
    Calls Try.prog 32 #[.pointer (some ⟨p, 0, none⟩), .int .u32 n] w fun e w' => e = .returned (.tuple #[.int .i64 (i : Int), .int .i64 (Ln.ix r.l n 0), .bool (decide (0 ≤ Ln.ix r.l n 0))]) ∧ Below w.heap.size w w' := by
  obtain ⟨i', hi', e1, e2, e3⟩ := Ln.mod_at hn h.pos h.len
  obtain rfl : i' = i := e1.symm.trans hi
  have c0 := h.c0
  have H := Lib.hid h
  have HR := Lib.hid hr
  have KN := Lib.hid (isNone_any w h)
  have hp := h.pos; have hl := h.len
  have hi2 : (i' : Int) < (S.length : Int) := by omega
  have hf := h.fits r (List.mem_of_getElem? hr)
  have hw := h.wlen
  unfold Ev.u32B at hn
  have cs := h.cs hr
  have q0 : ∀ z : Og.On w.heap.size w, z.x.cell? ⟨p, 0, none⟩ = _ := fun z => Og.cellB z c0
  have q2 : ∀ z : Og.On w.heap.size w, z.x.cell? ⟨g, i', none⟩ = _ := fun z => Og.cellB z cs
  clear h hr hi e1
  go_enter Try.func32, Try.ntmps32
  go_wp2_with (go_at_call 33; refine KN.out.mono ?_; rintro e W2 ⟨rfl, rfl⟩)
  -- REGION
  refine Og.region3 (by kernel_rfl) (fun t => ([(18, 0), (19, 1), (20, 2), (21, 3), (22, 4), (23, 5), (24, 6), (25, 7), (26, 8), (27, 9), (5, 10)] : List (Nat × Nat)).lookup t) [.is (.pointer (some ⟨p, 0, none⟩)), .is (.pointer (some ⟨p, 0, none⟩)), .is (.pointer (some ⟨p, 0, none⟩)), .is (.slice (some ⟨g, 0, none⟩) S.length S.length), .is (.int .i64 (i' : Int)), .is (.pointer (some ⟨g, i', none⟩)), .is (.slice r.a r.l.length r.c), .is (.int .u32 n), .says (fun v w => ∃ q, v = .func (.func 49) #[] #[.pointer (some ⟨q, 0, none⟩)] ∧ w.cell? ⟨q, 0, none⟩ = some (.int .u32 n)), .is (.int .i64 (Ln.ix r.l n 0)), .is (.int .i64 (Ln.ix r.l n 0))] [true, true, true, true, true, true, true, true, true, true, true] (by kernel_rfl) ?_ ?_
  · refine ⟨?_, ?_, ?_, ?_, ?_, ?_, ?_, ?_, ?_, ?_, ?_, trivial⟩
    · refine ⟨rfl, fun ρ w1 hr hd => ?_⟩
      obtain ⟨d0, _⟩ := hd
      have d0 : ρ (.tmp 0) = .pointer (some ⟨p, 0, none⟩) := d0
      refine (if_pos (by rfl)).mpr ?_
      refine Og.gives_is (.pointer (some ⟨p, 0, none⟩)) ?_ (And.intro (Below.refl _ _) rfl)
      go_simp
    · refine ⟨rfl, fun ρ w1 hr hd => ?_⟩
      obtain ⟨d0, _⟩ := hd
      have d0 : ρ (.tmp 18) = .pointer (some ⟨p, 0, none⟩) := d0
      refine (if_pos (by rfl)).mpr ?_
      refine Og.gives_is (.pointer (some ⟨p, 0, none⟩)) ?_ (And.intro (Below.refl _ _) rfl)
      go_simp
    · refine ⟨rfl, fun ρ w1 hr hd => ?_⟩
      obtain ⟨d0, _⟩ := hd
      have d0 : ρ (.tmp 19) = .pointer (some ⟨p, 0, none⟩) := d0
      refine (if_pos (by rfl)).mpr ?_
      refine Og.gives_is (.pointer (some ⟨p, 0, none⟩)) ?_ (And.intro (Below.refl _ _) rfl)
      go_simp
    · refine ⟨rfl, fun ρ w1 hr hd => ?_⟩
      obtain ⟨d0, _⟩ := hd
      have d0 : ρ (.tmp 20) = .pointer (some ⟨p, 0, none⟩) := d0
      refine (if_pos (by rfl)).mpr ?_
      have hc : w1.cell? ⟨p, 0, none⟩ = some (.slice (some ⟨g, 0, none⟩) S.length S.length) := Ev.kp_below hr _ _ c0
      refine Og.gives_is (.slice (some ⟨g, 0, none⟩) S.length S.length) ?_ (And.intro (Below.refl _ _) rfl)
      go_simp
    · refine ⟨rfl, fun ρ w1 hr hd => ?_⟩
      obtain ⟨d0, _⟩ := hd
      have d0 : ρ (.tmp 4) = .int .i64 (i' : Int) := d0
      refine (if_pos (by rfl)).mpr ?_
      refine Og.gives_is (.int .i64 (i' : Int)) ?_ (And.intro (Below.refl _ _) rfl)
      go_simp
    · refine ⟨rfl, fun ρ w1 hr hd => ?_⟩
      obtain ⟨d0, d1, _⟩ := hd
      have d0 : ρ (.tmp 21) = .slice (some ⟨g, 0, none⟩) S.length S.length := d0
      have d1 : ρ (.tmp 22) = .int .i64 (i' : Int) := d1
      refine (if_pos (by rfl)).mpr ?_
      refine Og.gives_is (.pointer (some ⟨g, i', none⟩)) ?_ (And.intro (Below.refl _ _) rfl)
      go_simp
    · refine ⟨rfl, fun ρ w1 hr hd => ?_⟩
      obtain ⟨d0, _⟩ := hd
      have d0 : ρ (.tmp 23) = .pointer (some ⟨g, i', none⟩) := d0
      refine (if_pos (by rfl)).mpr ?_
      have hc : w1.cell? ⟨g, i', none⟩ = some (.slice r.a r.l.length r.c) := Ev.kp_below hr _ _ cs
      refine Og.gives_is (.slice r.a r.l.length r.c) ?_ (And.intro (Below.refl _ _) rfl)
      go_simp
    · refine ⟨rfl, fun ρ w1 hr hd => ?_⟩
      obtain ⟨d0, _⟩ := hd
      have d0 : ρ (.tmp 1) = .int .u32 n := d0
      refine (if_pos (by rfl)).mpr ?_
      refine Og.gives_is (.int .u32 n) ?_ (And.intro (Below.refl _ _) rfl)
      go_simp
    · refine ⟨rfl, fun ρ w1 hr hd => ?_⟩
      obtain ⟨d0, d1, _⟩ := hd
      have d0 : ρ (.func 45) = .func (.func 45) #[] #[] := d0
      have d1 : ρ (.tmp 25) = .int .u32 n := d1
      refine (if_pos (by rfl)).mpr ?_
      refine Og.gives_call 45 #[.int .u32 n] ?_ ?_
      · go_simp
      · refine (hasNumber_any n w1).mono ?_
        rintro e w3 ⟨rfl, rfl⟩
        exact ⟨_, rfl, (Below.refl _ _).alloc (Nat.le_refl _) _, _, Below.refl _ _, _, rfl, by rw [cell_of_row _ _ _ _ _ _ (heap_alloc_new w1 _)]; rfl⟩
    · refine ⟨rfl, fun ρ w1 hr hd => ?_⟩
      obtain ⟨d0, d1, d2, _⟩ := hd
      have d0 : ρ (.func 44) = .func (.func 44) #[] #[] := d0
      have d1 : ρ (.tmp 24) = .slice r.a r.l.length r.c := d1
      have d2 : ∃ w1', Below w1'.heap.size w1' w1 ∧ (fun v w => ∃ q, v = .func (.func 49) #[] #[.pointer (some ⟨q, 0, none⟩)] ∧ w.cell? ⟨q, 0, none⟩ = some (.int .u32 n)) (ρ (.tmp 26)) w1' := d2
      obtain ⟨v2, hv2⟩ : ∃ v, ρ (.tmp 26) = v := ⟨_, rfl⟩
      rw [hv2] at d2
      refine (if_pos (by rfl)).mpr ?_
      obtain ⟨w1', hb1, q, hq, hc⟩ := d2
      subst hq
      refine Og.gives_call 44 #[.slice r.a r.l.length r.c, .func (.func 49) #[] #[.pointer (some ⟨q, 0, none⟩)]] ?_ ?_
      · go_simp
      · refine (ixLine_any r.a r.c r.l q n w1 ((H.out.row HR.out).kp (Ev.kp_below hr)) (Ev.kp_below hb1 _ _ hc) (by omega)).mono ?_
        rintro e w3 ⟨rfl, hb⟩
        exact ⟨_, rfl, hb, rfl⟩
    · refine ⟨rfl, fun ρ w1 hr hd => ?_⟩
      obtain ⟨d0, _⟩ := hd
      have d0 : ρ (.tmp 27) = .int .i64 (Ln.ix r.l n 0) := d0
      refine (if_pos (by rfl)).mpr ?_
      refine Og.gives_is (.int .i64 (Ln.ix r.l n 0)) ?_ (And.intro (Below.refl _ _) rfl)
      go_simp
  · intro vs w1 hbz hall
    have e0 : vs 0 = .pointer (some ⟨p, 0, none⟩) := hall 0 _ 18 rfl rfl
    have e1 : vs 1 = .pointer (some ⟨p, 0, none⟩) := hall 1 _ 19 rfl rfl
    have e2 : vs 2 = .pointer (some ⟨p, 0, none⟩) := hall 2 _ 20 rfl rfl
    have e3 : vs 3 = .slice (some ⟨g, 0, none⟩) S.length S.length := hall 3 _ 21 rfl rfl
    have e4 : vs 4 = .int .i64 (i' : Int) := hall 4 _ 22 rfl rfl
    have e5 : vs 5 = .pointer (some ⟨g, i', none⟩) := hall 5 _ 23 rfl rfl
    have e6 : vs 6 = .slice r.a r.l.length r.c := hall 6 _ 24 rfl rfl
    have e7 : vs 7 = .int .u32 n := hall 7 _ 25 rfl rfl
    have h8 : ∃ w1', Below w1'.heap.size w1' w1 ∧ (fun v w => ∃ q, v = .func (.func 49) #[] #[.pointer (some ⟨q, 0, none⟩)] ∧ w.cell? ⟨q, 0, none⟩ = some (.int .u32 n)) (vs 8) w1' := hall 8 _ 26 rfl rfl
    obtain ⟨wz8, hz8, p8⟩ := h8
    have e9 : vs 9 = .int .i64 (Ln.ix r.l n 0) := hall 9 _ 27 rfl rfl
    have e10 : vs 10 = .int .i64 (Ln.ix r.l n 0) := hall 10 _ 5 rfl rfl
    simp only [Og.putAll, Act.put, List.setIfInBounds_toArray, List.set_cons_zero, List.set_cons_succ, Nat.zero_add, Nat.reduceAdd, e0, e1, e2, e3, e4, e5, e6, e7, e9, e10]
    have HBZ := Lib.hid hbz
    clear hall hbz
    go_wp2_with fail
    refine bodyPost_ret (results_tmp3 (fn := Try.f32) rfl _ _ _) rfl ?_
    exact ⟨rfl, HBZ.out⟩
end Go.Proofs.Ytifniogldinbdaa
