/-
  The contract of standing, and of the function that it tells: it hands over the lines, set by set.
-/
import Derived.Test.YtifniogldinbdaaLnIn
namespace Go.Proofs.Ytifniogldinbdaa
open Go.RowKit
set_option linter.unusedVariables false
set_option linter.unusedSimpArgs false
namespace Ln
/-- all lines, set by set -/
def lsQ (S : List RW) : List E := (S.map (·.l)).flatten
/-- how many lines the first sets have -/
def off (S : List RW) (i : Nat) : Nat := (lsQ (S.take i)).length
theorem off_zero (S : List RW) : off S 0 = 0 := rfl
theorem off_succ {S : List RW} {i : Nat} {r : RW} (h : S[i]? = some r) : off S (i + 1) = off S i + r.l.length := by
  unfold off lsQ
  rw [List.take_add_one, h]
  simp
theorem off_end (S : List RW) : off S S.length = (lsQ S).length := by unfold off; rw [List.take_length]
theorem off_at {S : List RW} {i j : Nat} {r : RW} {e : E} (h : S[i]? = some r) (he : r.l[j]? = some e) : (lsQ S)[off S i + j]? = some e := by
  have hi := (List.getElem?_eq_some_iff.1 h).1
  have hs : S = S.take i ++ (r :: S.drop (i + 1)) := by
    have := List.drop_eq_getElem_cons hi
    rw [(List.getElem?_eq_some_iff.1 h).2] at this
    rw [← this, List.take_append_drop]
  have hj := (List.getElem?_eq_some_iff.1 he).1
  have e1 : lsQ S = lsQ (S.take i) ++ (r.l ++ lsQ (S.drop (i + 1))) := by
    conv => lhs; rw [hs]
    unfold lsQ
    simp
  rw [e1]
  unfold off
  rw [List.getElem?_append_right (by omega), Nat.add_sub_cancel_left, List.getElem?_append_left hj]
  exact he
/-- boxed: what a function has captured -/
def Box (w : World) (p : Nat) (t : TypeId) (v : Value) : Prop := w.heap[p]? = some (.cells #[v] t (0, 0))
theorem Box.kp {w w' : World} {p : Nat} {t : TypeId} {v : Value} (h : Box w p t v) (hb : Below w.heap.size w w') : Box w' p t v := (hb.block p (Array.getElem?_eq_some_iff.1 h).1).trans h
theorem Box.cell {w : World} {p : Nat} {t : TypeId} {v : Value} (h : Box w p t v) : w.cell? ⟨p, 0, none⟩ = some v := by rw [cell_of_row _ _ _ _ _ _ h]; rfl
theorem box_new (w : World) (t : TypeId) (v : Value) : Box (w.alloc (.cells #[v] t (0, 0))) w.heap.size t v := heap_alloc_new _ _
end Ln
theorem standing_any (v : Option Addr) (w : World) :
    Calls Try.prog 38 #[.pointer v] w fun r w' => r = .returned (.func (.func 46) #[] #[.pointer (some ⟨w.heap.size, 0, none⟩)]) ∧ w' = w.alloc (.cells #[.pointer v] 22) := by
  go_enter Try.func38, Try.ntmps38
  go_wp2
  go_ret
  exact ⟨rfl, rfl⟩
set_option maxRecDepth 100000 in
set_option maxHeartbeats 4000000 in
theorem none_iter (m : Nat) (hm : 1 ≤ m) (q : Nat) :
    Og.IterL Fence.wide m Try.prog 46 #[.pointer (some ⟨q, 0, none⟩)] (fun W => Ln.Box W q 22 (.pointer none)) (fun e : Ln.E => #[Ln.EV e]) [] := by
  intro l J Jx W hst hR hY h0
  have HST := Lib.hid hst; have HR := Lib.hid hR; have HY := Lib.hid hY; have H0 := Lib.hid h0
  have c1 := (hR _ _ h0).cell
  clear hst hR hY h0
  refine callsIn_of_wp Try.func46 rfl trivial ?_ rfl
  simp only [Try.ntmps46, List.size_toArray, List.length_cons, List.length_nil, Nat.reduceAdd, Nat.reduceSub, Array.replicate_succ, Array.replicate_zero, List.push_toArray, List.append_toArray, List.nil_append, List.cons_append]
  refine Og.wpIn_scope ?_
  gi_wp2_with fail
  refine ⟨trivial, (callsIn_wide.2 (isNone_nil _)).mono ?_⟩
  rintro e W2 ⟨rfl, rfl⟩
  gi_wp2_with fail
  rw [Exit.noGoto_ret]
  exact bodyPost_ret (results_none rfl _ _ _) rfl ⟨⟨_, rfl⟩, .inl H0.out⟩
set_option maxRecDepth 100000 in
set_option maxHeartbeats 4000000 in
theorem standing_iter (m : Nat) (hm : 1 ≤ m) (q : Nat) (F : Nat → Prop) (p g ways : Nat) (S : List Ln.RW) :
    Og.IterL Fence.wide m Try.prog 46 #[.pointer (some ⟨q, 0, none⟩)] (fun W => Ln.Box W q 22 (.pointer (some ⟨p, 0, none⟩)) ∧ Ln.Cin W F p g ways S) (fun e : Ln.E => #[Ln.EV e]) (Ln.lsQ S) := by
  intro l J Jx W hst hR hY h0
  have HST := Lib.hid hst; have HR := Lib.hid hR; have HY := Lib.hid hY; have H0 := Lib.hid h0
  have c1 := (hR _ _ h0).1.cell
  have c2 := (hR _ _ h0).2.c0
  have hl := (hR _ _ h0).2.len
  have hw8 := (hR _ _ h0).2.wlen
  have HF := Lib.hid (hR _ _ h0).2.fits
  have KN := Lib.hid (isNone_any W (hR _ _ h0).2)
  clear hst hR hY h0
  refine callsIn_of_wp Try.func46 rfl trivial ?_ rfl
  simp only [Try.ntmps46, List.size_toArray, List.length_cons, List.length_nil, Nat.reduceAdd, Nat.reduceSub, Array.replicate_succ, Array.replicate_zero, List.push_toArray, List.append_toArray, List.nil_append, List.cons_append]
  refine Og.wpIn_scope ?_
  gi_wp2_with fail
  refine ⟨trivial, (callsIn_wide.2 KN.out).mono ?_⟩
  rintro e W2 ⟨rfl, rfl⟩
  gi_wp2_with fail
  refine wpIn_label ?_
  gi_wp2_with fail
  clear c1 c2
  gi_loopw [4, 6, 14] (fun _ _ i wr => ∃ k : Nat, k ≤ S.length ∧ i = .int .i64 (k : Int) ∧ J (Ln.off S k) wr) (fun _ _ i _ => S.length - (intOf i).toNat)
  case atStart => exact ⟨0, Nat.zero_le _, rfl, H0.out⟩
  case round =>
    obtain ⟨k, hk, rfl, hj⟩ := hrel
    have HJ := Lib.hid hj
    clear hj
    by_cases hlt : k < S.length
    · have hki : (k : Int) < (S.length : Int) := by omega
      obtain ⟨r, hr⟩ : ∃ r, S[k]? = some r := ⟨_, List.getElem?_eq_getElem hlt⟩
      have HRK := Lib.hid hr
      have hrl := HF.out r (List.mem_of_getElem? hr)
      have c3 := (HR.out _ _ HJ.out).2.cs hr
      clear hr
      gi_wp2_with fail
      clear c3
      gi_loopw [6, 20] (fun _ i w2 => ∃ j : Nat, j ≤ r.l.length ∧ i = .int .i64 (j : Int) ∧ J (Ln.off S k + j) w2) (fun _ i _ => r.l.length - (intOf i).toNat)
      case atStart => exact ⟨0, Nat.zero_le _, rfl, HJ.out⟩
      case round =>
        obtain ⟨j, hj, rfl, hjj⟩ := hrel
        have HJJ := Lib.hid hjj
        clear hjj
        by_cases hjl : j < r.l.length
        · have hji : (j : Int) < (r.l.length : Int) := by omega
          obtain ⟨e, he⟩ : ∃ e, r.l[j]? = some e := ⟨_, List.getElem?_eq_getElem hjl⟩
          obtain ⟨ga, o, ea, hc⟩ := ((HR.out _ _ HJJ.out).2.row HRK.out).at_ he
          have HOK := Lib.hid (((HR.out _ _ HJJ.out).2.row HRK.out).ok_ he)
          have HC := Lib.hid hc
          have HAT := Lib.hid (Ln.off_at HRK.out he)
          clear hc he
          rw [ea]; clear ea
          obtain ⟨vb, hvb⟩ : ∃ vb, vb = wr.heap.size := ⟨_, rfl⟩
          obtain ⟨B, hB⟩ : ∃ B, B = wr.alloc (.cells #[.int .u32 0, .int .i64 0, .int .u8 0, .int .u8 0, .int .u8 0, .int .u8 0, .int .u8 0, .int .u8 0, .int .u8 0, .int .u8 0, .int .u8 0, .int .u8 0, .int .u8 0, .int .u8 0, .int .u8 0, .int .u8 0, .int .u8 0, .int .u8 0] 30) := ⟨_, rfl⟩
          have HB := Lib.hid hB; have HVB := Lib.hid hvb
          have B0 := Lib.hid (show Below wr.heap.size wr B by rw [hB]; exact (Below.refl wr.heap.size wr).alloc (Nat.le_refl _) _)
          have R0 := Lib.hid (show B.heap[vb]? = some (.cells (Ln.cells Ln.E0).toArray 30 (0, 0)) by rw [hB, hvb]; exact heap_alloc_new _ _)
          clear hB hvb
          gi_wp2_with (first
            | ((with_reducible show wpListIn _ _ _ _ _ (Oper.mk (some 23) _ _ _ _ _ :: _) _ _); refine Ln.wpListIn_load_at rfl 30 (.tmp 22) rfl ga (o + j * 18) rfl (Ln.cells e) _ HC.out Try.underlying30 rfl (by rw [HOK.out.len]; exact Ln.size_line) ?_)
            | ((with_reducible show wpListIn _ _ _ _ _ (Oper.mk none (Op.store 30 _ _) _ _ _ _ :: _) _ _); rw [← HB.out, ← HVB.out]; refine Ln.wpListIn_store_own rfl 30 (.tmp 6) (.tmp 23) rfl vb (Ln.cells e).toArray rfl rfl 30 _ R0.out (by rw [HOK.out.size]; exact Ln.size_line) (by rw [HOK.out.size]; rfl) (Ln.cells_all e) ?_
               intro W3 HW3
               have B3 := Lib.hid (B0.out.trans (HW3.below.mono (by rw [HVB.out]; exact Nat.le_refl _)))
               have R3 := Lib.hid HW3.row
               have HJ3 := Lib.hid (HST.out _ _ _ HJJ.out B3.out)
               clear HW3
               obtain ⟨fn, tmps, assign, body, hy, hRd⟩ := HY.out _ _ W3 HAT.out HJ3.out
               unfold Ln.EV at hy)
            | ((with_reducible show wpListIn _ _ _ _ _ (Oper.mk (some 25) _ _ _ _ _ :: _) _ _); refine Ln.wpListIn_load_row rfl 30 (.tmp 6) rfl vb rfl 30 (Ln.cells e).toArray (0, 0) _ R3.out Try.underlying30 rfl (by rw [HOK.out.size]; exact Ln.size_line) ?_))
          refine hRd.mono ?_
          rintro e' W4 (⟨rfl, hJ4⟩ | ⟨rfl, hJx4⟩)
          · have HJ4 := Lib.hid hJ4; clear hJ4 hy hRd
            gi_wp2_with fail
            go_roundw
            case rel => exact ⟨j + 1, by omega, by go_num, by rw [← Nat.add_assoc]; exact HJ4.out⟩
            case measure => simp [intOf]; omega
          · have HJ4 := Lib.hid hJx4; clear hJx4 hy hRd
            gi_wp2_with fail
            rw [Exit.noGoto_normal]
            refine bodyPost_end (results_none rfl _ _ _) rfl ?_
            exact ⟨⟨_, rfl⟩, .inr HJ4.out⟩
        · have hji : ¬ (j : Int) < (r.l.length : Int) := by omega
          have HN := Lib.hid (show Ln.off S (k + 1) = Ln.off S k + j by rw [Ln.off_succ HRK.out]; omega)
          gi_wp2_with fail
          exact ⟨⟨k + 1, by omega, by go_num, by rw [HN.out]; exact HJJ.out⟩, by simp [intOf]; omega⟩
    · have hki : ¬ (k : Int) < (S.length : Int) := by omega
      have HN := Lib.hid (show Ln.off S k = (Ln.lsQ S).length by rw [← Ln.off_end, show k = S.length by omega])
      gi_wp2_with fail
      refine bodyPost_end (results_none rfl _ _ _) rfl ?_
      exact ⟨⟨_, rfl⟩, .inl (by rw [← HN.out]; exact HJ.out)⟩
end Go.Proofs.Ytifniogldinbdaa
