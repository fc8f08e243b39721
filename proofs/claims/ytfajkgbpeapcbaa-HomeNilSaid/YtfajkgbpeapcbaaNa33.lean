import Derived.Test.YtfajkgbpeapcbaaNa32
import Derived.Test.YtfajkgbpeapcbaaNa21
set_option linter.unusedVariables false
set_option linter.unusedSimpArgs false

section
namespace Go.Proofs.Ytfajkgbpeapcbaa
open Go.RowKit
namespace Hm
open Nt
set_option maxRecDepth 100000
section
theorem isNone_nil (w : World) : Calls Try.prog 71 #[.pointer none] w fun e w' => e = .returned (.bool true) ∧ w = w' := by
  go_enter Try.func71, Try.ntmps71
  go_wp2
  go_ret
  exact ⟨rfl, rfl⟩
theorem Memory_nil (w : World) : Calls Try.prog 39 #[.pointer none] w fun e w' => e = .returned (.pointer none) ∧ w = w' := by
  go_enter Try.func39, Try.ntmps39
  go_wp2_with (go_at_call 71; (with_reducible refine (isNone_nil _).mono ?_); rintro e1 w1 ⟨rfl, rfl⟩)
  first | go_ret | skip
  exact ⟨rfl, rfl⟩
theorem Lines_nil (w : World) : Calls Try.prog 31 #[.pointer none] w fun e w' => e = .returned (.int .i64 0) ∧ w = w' := by
  go_enter Try.func31, Try.ntmps31
  go_wp2_with (go_at_call 71; (with_reducible refine (isNone_nil _).mono ?_); rintro e1 w1 ⟨rfl, rfl⟩)
  first | go_ret | skip
  exact ⟨rfl, rfl⟩
theorem Idle_nil (w : World) : Calls Try.prog 33 #[.pointer none] w fun e w' => e = .returned (.bool false) ∧ w = w' := by
  go_enter Try.func33, Try.ntmps33
  go_wp2_with (go_at_call 71; (with_reducible refine (isNone_nil _).mono ?_); rintro e1 w1 ⟨rfl, rfl⟩)
  first | go_ret | skip
  exact ⟨rfl, rfl⟩
theorem Copy_nil (w : World) : Calls Try.prog 34 #[.pointer none] w fun e w' => e = .returned (.pointer none) ∧ w = w' := by
  go_enter Try.func34, Try.ntmps34
  go_wp2_with (go_at_call 71; (with_reducible refine (isNone_nil _).mono ?_); rintro e1 w1 ⟨rfl, rfl⟩)
  first | go_ret | skip
  exact ⟨rfl, rfl⟩
theorem reach_nilh (n : Int) (w : World) : Calls Try.prog 75 #[.pointer none, .int .u32 n] w fun e w' => e = .returned (.int .i64 1) ∧ w = w' := by
  go_enter Try.func75, Try.ntmps75
  go_wp2_with (go_at_call 71; (with_reducible refine (isNone_nil _).mono ?_); rintro e1 w1 ⟨rfl, rfl⟩)
  go_ret
  exact ⟨rfl, rfl⟩
set_option maxHeartbeats 4000000 in
theorem refusal_nil (m : E) (hm : Ok m) (w : World) : Calls Try.prog 59 #[.pointer none, .agg (cells m).toArray] w fun e w' => e = .returned (.int .i64 1) ∧ Below w.heap.size w w' := by
  obtain ⟨mb, B, hmb, hB, hb0, hr0⟩ := msg_box w m
  have HB := Lib.hid hB; have HMB := Lib.hid hmb; have B0 := Lib.hid hb0
  clear hB hmb hb0 hr0
  go_enter Try.func59, Try.ntmps59
  go_wp2_with (go_at_call 71; (with_reducible refine (isNone_nil _).mono ?_); rintro e1 w1 ⟨rfl, rfl⟩)
  rw [← HB.out]
  go_ret
  exact ⟨rfl, B0.out⟩
theorem isNone_empty (w : World) {z : Nat} (hz : w.heap[z]? = some (.cells #[.pointer none, .map none] 92 (0, 0))) : Calls Try.prog 71 #[.pointer (some ⟨z, 0, none⟩)] w fun e w' => e = .returned (.bool true) ∧ w = w' := by
  have c0 : w.cell? ⟨z, 0, none⟩ = some (.pointer none) := by rw [cell_of_row _ _ _ _ _ _ hz]; rfl
  clear hz
  go_enter Try.func71, Try.ntmps71
  go_wp2
  go_ret
  exact ⟨rfl, rfl⟩
set_option maxHeartbeats 4000000 in
theorem refusal_empty (m : E) (hm : Ok m) (w : World) {z : Nat} (hz : w.heap[z]? = some (.cells #[.pointer none, .map none] 92 (0, 0))) : Calls Try.prog 59 #[.pointer (some ⟨z, 0, none⟩), .agg (cells m).toArray] w fun e w' => e = .returned (.int .i64 1) ∧ Below w.heap.size w w' := by
  obtain ⟨mb, B, hmb, hB, hb0, hr0⟩ := msg_box w m
  have HZ := Lib.hid ((hb0.block _ (Array.getElem?_eq_some_iff.1 hz).1).trans hz)
  have HB := Lib.hid hB; have HMB := Lib.hid hmb; have B0 := Lib.hid hb0
  clear hB hmb hb0 hr0 hz
  go_enter Try.func59, Try.ntmps59
  go_wp2_with (go_at_call 71; rw [← HB.out]; (with_reducible refine (isNone_empty _ HZ.out).mono ?_); rintro e1 w1 ⟨rfl, rfl⟩)
  go_ret
  exact ⟨rfl, B0.out⟩
theorem set_below {w W : World} (h : Below w.heap.size w W) (cs : Array Value) : Below w.heap.size w (W.setRow w.heap.size cs) := below_setRow' h (Nat.le_refl _) _
section
variable {p : Nat} {d : Dt} {N : Nat} {H : Ho}
theorem isNone_any (w : World) (h : Hd w p d N H) : Calls Try.prog 71 #[.pointer (some ⟨p, 0, none⟩)] w fun e w' => e = .returned (.bool false) ∧ w = w' := by
  have c0 := h.c0
  clear h
  go_enter Try.func71, Try.ntmps71
  go_wp2
  go_ret
  exact ⟨rfl, rfl⟩
theorem Lines_any (w : World) (h : Hd w p d N H) : Calls Try.prog 31 #[.pointer (some ⟨p, 0, none⟩)] w fun e w' => e = .returned (.int .i64 ((H.bs.length / 16 : Nat) : Int)) ∧ w = w' := by
  have c0 := h.c0
  have HH := Lib.hid h
  have hbd := h.im.bd
  have hl := hbd.2.1
  have e9 : (((H.bs.length / 16 : Nat) : Int)) = (H.bs.length : Int) / 16 := by omega
  rw [e9]
  have KS := Lib.hid (size_any d.mp d.g H.bs.length w (by omega) h.im.cell)
  clear h hbd e9
  go_enter Try.func31, Try.ntmps31
  go_wp2_with (first
    | (go_at_call 71; (with_reducible refine (isNone_any _ HH.out).mono ?_); rintro e1 w1 ⟨rfl, rfl⟩)
    | (go_at_call 72; (with_reducible refine KS.out.mono ?_); rintro e1 w1 ⟨rfl, rfl⟩))
  go_ret
  first
    | exact ⟨rfl, rfl⟩
    | exact ⟨by congr 2; omega, rfl⟩
theorem New_nil (w : World) : Calls Try.prog 37 #[.pointer none] w fun e w' => e = .returned (.tuple #[.pointer none, .int .i64 1]) ∧ Below w.heap.size w w' := by
  go_enter Try.func37, Try.ntmps37
  go_wp2_with (go_at_call 74; (with_reducible refine (copy_nil _).mono ?_); rintro e1 w1 ⟨rfl, hb⟩)
  go_ret2
  exact ⟨rfl, hb⟩
set_option maxHeartbeats 4000000 in
theorem New_any (w : World) {q r : Nat} {bs : List Int} (hi : Img w q r bs) : Calls Try.prog 37 #[.pointer (some ⟨q, 0, none⟩)] w fun e w' => ∃ p d, e = .returned (.tuple #[.pointer (some ⟨p, 0, none⟩), .int .i64 0]) ∧ Hd w' p d 0 ⟨bs, fun _ => fresh⟩ ∧ (∀ k, hown p d k → w.heap.size ≤ k) ∧ Below w.heap.size w w' := by
  have HI := Lib.hid hi
  have hmm : ∀ w : World, (Instr.makeMap 90 none).run Try.prog w = .ok (.map (some w.heap.size)) (w.alloc (.map #[] 0)) := fun w => by first | rfl | kernel_rfl | simp [Instr.makeMap]
  clear hi
  go_enter Try.func37, Try.ntmps37
  go_wp2_with (go_at_call 74; (with_reducible refine (copy_any _ _ _ _ HI.out).mono ?_); rintro e1 w1 ⟨mp, g, rfl, him, hmp, hg, hb⟩; have IM := Lib.hid him; have HMP := Lib.hid hmp; have HG := Lib.hid hg; have B1 := Lib.hid hb; clear him hmp hg hb)
  go_ret2
  have b2 : Below w1.heap.size w1 (w1.alloc (.map #[] 0)) := (Below.refl _ _).alloc (Nat.le_refl _) _
  have hs2 : (w1.alloc (.map #[] 0)).heap.size = w1.heap.size + 1 := by simp
  obtain ⟨w2, hw2⟩ : ∃ w2, w2 = w1.alloc (.map #[] 0) := ⟨_, rfl⟩
  have hma := MapE.new w1
  rw [← hw2] at b2 hs2 hma ⊢
  have b3 : Below w2.heap.size w2 (w2.alloc (.cells #[.pointer (some ⟨mp, 0, none⟩), .map (some w1.heap.size)] 92)) := (Below.refl _ _).alloc (Nat.le_refl _) _
  have b23 := b2.trans (b3.mono b2.size)
  have hd : Hd (w2.alloc (.cells #[.pointer (some ⟨mp, 0, none⟩), .map (some w1.heap.size)] 92)) w2.heap.size ⟨mp, w1.heap.size, g, fun _ => none, fun _ _ => False, fun _ => none, fun _ => 0⟩ 0 ⟨bs, fun _ => fresh⟩ :=
    ⟨heap_alloc_new _ _, IM.out.old b23, hma.at_ (b3.block _ (by omega)), fun i e h => (by cases h), fun i e h => (by cases h), fun i _ => rfl, fun i j e h => (by cases h), fun i k h => (by cases h), fun i j k _ h => (by cases h), fun i k h => (by cases h), fun i => iv_fresh, fun i => Nat.le_refl _⟩
  refine ⟨w2.heap.size, _, by rw [hs2]; rfl, hd, ?_, B1.out.trans (b23.mono B1.out.size)⟩
  have hs := B1.out.size
  have hmp2 := HMP.out; have hg2 := HG.out
  rintro k (rfl | rfl | rfl | rfl | ⟨i, h⟩ | ⟨i, h⟩)
  · omega
  · exact hmp2
  · show w.heap.size ≤ w1.heap.size; omega
  · exact hg2
  · cases h
  · cases h
set_option maxHeartbeats 4000000 in
theorem reach_any (w : World) (h : Hd w p d N H) {n : Nat} (hn : n ≤ 4294967295) : Calls Try.prog 75 #[.pointer (some ⟨p, 0, none⟩), .int .u32 (n : Int)] w fun e w' => e = .returned (.int .i64 (if n * 16 < H.bs.length then 0 else 4)) ∧ Below w.heap.size w w' := by
  have c0 := h.c0
  have HH := Lib.hid h
  have hbd := h.im.bd
  have HN := Lib.hid hn
  have HBD := Lib.hid hbd
  clear h hbd hn
  by_cases hlt : n * 16 < H.bs.length
  · rw [if_pos hlt]
    have KL := Lib.hid (line_goes d.mp d.g H.bs n w HH.out.im hlt)
    have SZ := Lib.hid (show (Im.vals (Im.win H.bs (n * 16) 16)).toArray.size = 16 by rw [List.size_toArray, len_vals, Im.length_win (by have := HBD.out; omega)])
    clear hlt
    go_enter Try.func75, Try.ntmps75
    go_wp2_with (first
      | (go_at_call 71; (with_reducible refine (isNone_any _ HH.out).mono ?_); rintro e1 w1 ⟨rfl, rfl⟩)
      | (go_at_call 93; (with_reducible refine KL.out.mono ?_); rintro e1 w1 ⟨rfl, hb⟩; have B1 := Lib.hid hb; clear hb)
      | (refine wpList_store_row rfl 25 (.tmp 5) (.tmp 16) rfl w1.heap.size (Im.vals (Im.win H.bs (n * 16) 16)).toArray rfl rfl 25 #[.int .u8 0, .int .u8 0, .int .u8 0, .int .u8 0, .int .u8 0, .int .u8 0, .int .u8 0, .int .u8 0, .int .u8 0, .int .u8 0, .int .u8 0, .int .u8 0, .int .u8 0, .int .u8 0, .int .u8 0, .int .u8 0] (heap_alloc_new w1 _) (by rw [SZ.out]; exact size45) (by rw [SZ.out]; rfl) (one_vals _) ?_))
    go_ret
    exact ⟨rfl, B1.out.trans (set_below ((Below.refl _ _).alloc (Nat.le_refl _) _) _ |>.mono B1.out.size)⟩
  · rw [if_neg hlt]
    have KL := Lib.hid (line_refused (.pointer (some ⟨d.mp, 0, none⟩)) n (n * 16) 4 w HN.out rfl (fun F w1 hb => reach_range d.mp d.g H.bs.length (n * 16) 16 128 F (by have := HN.out; omega) (.inr (.inr (.inr ⟨rfl, rfl⟩))) (by omega) (by omega) w1 ⟨HBD.out.1, HBD.out.2.1⟩ (HH.out.im.old hb).cell))
    clear hlt
    go_enter Try.func75, Try.ntmps75
    go_wp2_with (first
      | (go_at_call 71; (with_reducible refine (isNone_any _ HH.out).mono ?_); rintro e1 w1 ⟨rfl, rfl⟩)
      | (go_at_call 93; (with_reducible refine KL.out.mono ?_); rintro e1 w1 ⟨rfl, hb⟩; have B1 := Lib.hid hb; clear hb)
      | (refine wpList_store_row rfl 25 (.tmp 5) (.tmp 16) rfl w1.heap.size (Im.vals zs16).toArray rfl rfl 25 #[.int .u8 0, .int .u8 0, .int .u8 0, .int .u8 0, .int .u8 0, .int .u8 0, .int .u8 0, .int .u8 0, .int .u8 0, .int .u8 0, .int .u8 0, .int .u8 0, .int .u8 0, .int .u8 0, .int .u8 0, .int .u8 0] (heap_alloc_new w1 _) (by kernel_rfl) rfl (one_vals _) ?_))
    go_ret
    exact ⟨rfl, B1.out.trans (set_below ((Below.refl _ _).alloc (Nat.le_refl _) _) _ |>.mono B1.out.size)⟩
end
end
end Hm
end Go.Proofs.Ytfajkgbpeapcbaa
end
