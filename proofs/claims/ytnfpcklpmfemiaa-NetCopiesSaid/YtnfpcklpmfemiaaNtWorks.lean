/-
  The contract of the laws' works.
-/
import Derived.Test.YtnfpcklpmfemiaaNtOpen
import Derived.Test.YtnfpcklpmfemiaaNtSend
namespace Go.Proofs.Ytnfpcklpmfemiaa
open Go.RowKit
set_option linter.unusedVariables false
set_option linter.unusedSimpArgs false
namespace Nt
def ma : E := ⟨1, 0, 4, 3, E0.b⟩
def mb : E := ⟨2, 1, 4, 3, E0.b⟩
theorem ma_ok : Ok ma := ⟨by unfold Ev.i64B ma; decide, by unfold Ev.i64B ma; decide, by unfold Ev.i64B ma; decide, by unfold Ev.u32B ma; decide, rfl⟩
theorem mb_ok : Ok mb := ⟨by unfold Ev.i64B mb; decide, by unfold Ev.i64B mb; decide, by unfold Ev.i64B mb; decide, by unfold Ev.u32B mb; decide, rfl⟩
/-- a net of one's own, in a world that is as it was but for what is new -/
structure St (w W : World) (F : Nat → Prop) (p most : Nat) (l : List E) : Prop where
  net : Net W F p most l
  bel : Below w.heap.size w W
  lo : ∀ k, F k → w.heap.size ≤ k
theorem St.kp {w W W' : World} {F p most l} (h : St w W F p most l) (hb : Below W.heap.size W W') : St w W' F p most l := ⟨h.net.kp hb, h.bel.trans (hb.mono h.bel.size), h.lo⟩
theorem St.turn {w W W' : World} {F p most l l'} (h : St w W F p most l) (ht : Turns F W W' p most l') : ∃ F', St w W' F' p most l' ∧ Fr F W W' ∧ ∀ k, F' k → F k ∨ W.heap.size ≤ k := by
  obtain ⟨F', h1, h2, h3⟩ := ht
  refine ⟨F', ⟨h1, Fr.below h.bel h2 h.lo (Nat.le_refl _), fun k hk => ?_⟩, h2, h3⟩
  rcases h3 k hk with h4 | h4
  · exact h.lo k h4
  · have := h.bel.size; omega
/-- and two messages in blocks of their own -/
structure St2 (w W : World) (F : Nat → Prop) (p most : Nat) (l : List E) (ab bb : Nat) : Prop where
  st : St w W F p most l
  a : W.heap[ab]? = some (.cells (cells ma).toArray 57 (0, 0))
  b : W.heap[bb]? = some (.cells (cells mb).toArray 57 (0, 0))
  na : ¬ F ab
  nb : ¬ F bb
theorem St2.turn {w W W' : World} {F p most l l' ab bb} (h : St2 w W F p most l ab bb) (ht : Turns F W W' p most l') : ∃ F', St2 w W' F' p most l' ab bb := by
  obtain ⟨F', s, hf, hk⟩ := h.st.turn ht
  have l1 := (Array.getElem?_eq_some_iff.1 h.a).1
  have l2 := (Array.getElem?_eq_some_iff.1 h.b).1
  refine ⟨F', s, (hf.block ab l1 h.na).trans h.a, (hf.block bb l2 h.nb).trans h.b, fun hh => ?_, fun hh => ?_⟩
  · rcases hk ab hh with h1 | h1
    · exact h.na h1
    · omega
  · rcases hk bb hh with h1 | h1
    · exact h.nb h1
    · omega
set_option maxRecDepth 100000 in
theorem works_send (x : E) (hx : Ok x) {w W : World} {F : Nat → Prop} {p ab bb : Nat} {l l' : List E} {r : Int} (h : St2 w W F p 2 l ab bb) (hr : sendE 2 l x = r) (hl : sendL 2 l x = l') :
    Calls Try.prog 31 #[.pointer (some ⟨p, 0, none⟩), .agg (cells x).toArray] W fun e w' => e = .returned (.int .i64 r) ∧ ∃ F', St2 w w' F' p 2 l' ab bb := by
  have h1 := send_any x hx W h.st.net
  rw [hr, hl] at h1
  refine h1.mono ?_
  rintro e w' ⟨he, ht⟩
  exact ⟨he, h.turn ht⟩
theorem St2.kp {w W W' : World} {F : Nat → Prop} {p most ab bb : Nat} {l : List E} (h : St2 w W F p most l ab bb) (hb : Below W.heap.size W W') : St2 w W' F p most l ab bb :=
  ⟨h.st.kp hb, (hb.block _ (Array.getElem?_eq_some_iff.1 h.a).1).trans h.a, (hb.block _ (Array.getElem?_eq_some_iff.1 h.b).1).trans h.b, h.na, h.nb⟩
theorem works_del {w W : World} {F : Nat → Prop} {p ab bb : Nat} (h : St2 w W F p 2 [ma, mb] ab bb) :
    Calls Try.prog 30 #[.pointer (some ⟨p, 0, none⟩), .int .i64 (-1)] W fun e w' => e = .returned (.tuple #[.agg (cells mb).toArray, .bool true]) ∧ ∃ F', St2 w w' F' p 2 [ma] ab bb := by
  have h1 := deliver_any (-1) (by unfold Ev.i64B; decide) W h.st.net
  rw [show delO [ma, mb] (-1) = some mb from by kernel_rfl, show delL [ma, mb] (-1) = [ma] from by kernel_rfl] at h1
  refine h1.mono ?_
  rintro e w' ⟨he, ht⟩
  exact ⟨he, h.turn ht⟩
set_option maxRecDepth 100000 in
set_option maxHeartbeats 8000000 in
theorem works_any (w : World) : Calls Try.prog 28 #[] w fun e w' => e = .returned (.bool true) ∧ Below w.heap.size w w' := by
  have HN := Lib.hid (new_yes 2 (by decide) (by decide) w)
  have HQ := Lib.hid (fun W : World => eql_msg W mb_ok mb_ok)
  go_enter Try.func28, Try.ntmps28
  go_wp2_with (first
    | (go_at_call 29; refine HN.out.mono ?_; rintro e W1 ⟨p, rfl, hb1, F1, hn1, hf1⟩
       have S1 := Lib.hid (⟨hn1, hb1, hf1⟩ : St w W1 F1 p 2 [])
       have HLT := Lib.hid hn1.lt
       clear hb1 hn1 hf1)
    | ((with_reducible show wpList _ _ _ (Oper.mk none (Op.store 57 _ _) _ _ _ _ :: _) _ _); refine wpList_store_own rfl 57 (.tmp 3) (.tmp 14) rfl W1.heap.size #[.int .i64 1, .int .i64 0, .int .i64 4, .int .u32 3, .int .u8 0, .int .u8 0, .int .u8 0, .int .u8 0, .int .u8 0, .int .u8 0, .int .u8 0, .int .u8 0, .int .u8 0, .int .u8 0, .int .u8 0, .int .u8 0, .int .u8 0, .int .u8 0, .int .u8 0, .int .u8 0] rfl rfl 57 #[.int .i64 0, .int .i64 0, .int .i64 0, .int .u32 0, .int .u8 0, .int .u8 0, .int .u8 0, .int .u8 0, .int .u8 0, .int .u8 0, .int .u8 0, .int .u8 0, .int .u8 0, .int .u8 0, .int .u8 0, .int .u8 0, .int .u8 0, .int .u8 0, .int .u8 0, .int .u8 0] (heap_alloc_new W1 _) (by kernel_rfl) rfl (by kernel_rfl) ?_
       intro W2 HW2
       have B2 := Lib.hid (show Below W1.heap.size W1 W2 from ((Below.refl W1.heap.size W1).alloc (Nat.le_refl _) _).trans HW2.below)
       have A2 := Lib.hid (show W2.heap[W1.heap.size]? = some (.cells (cells ma).toArray 57 (0, 0)) from HW2.row)
       clear HW2)
    | ((with_reducible show wpList _ _ _ (Oper.mk none (Op.store 57 _ _) _ _ _ _ :: _) _ _); refine wpList_store_own rfl 57 (.tmp 4) (.tmp 15) rfl W2.heap.size #[.int .i64 2, .int .i64 1, .int .i64 4, .int .u32 3, .int .u8 0, .int .u8 0, .int .u8 0, .int .u8 0, .int .u8 0, .int .u8 0, .int .u8 0, .int .u8 0, .int .u8 0, .int .u8 0, .int .u8 0, .int .u8 0, .int .u8 0, .int .u8 0, .int .u8 0, .int .u8 0] rfl rfl 57 #[.int .i64 0, .int .i64 0, .int .i64 0, .int .u32 0, .int .u8 0, .int .u8 0, .int .u8 0, .int .u8 0, .int .u8 0, .int .u8 0, .int .u8 0, .int .u8 0, .int .u8 0, .int .u8 0, .int .u8 0, .int .u8 0, .int .u8 0, .int .u8 0, .int .u8 0, .int .u8 0] (heap_alloc_new W2 _) (by kernel_rfl) rfl (by kernel_rfl) ?_
       intro W3 HW3
       have B3 := Lib.hid (show Below W2.heap.size W2 W3 from ((Below.refl W2.heap.size W2).alloc (Nat.le_refl _) _).trans HW3.below)
       have A3 := Lib.hid (show W3.heap[W2.heap.size]? = some (.cells (cells mb).toArray 57 (0, 0)) from HW3.row)
       clear HW3
       refine Stop.out ?_))
  refine ⟨?_⟩
  obtain ⟨ab, hab⟩ : ∃ ab, ab = W1.heap.size := ⟨_, rfl⟩
  obtain ⟨bb, hbb⟩ : ∃ bb, bb = W2.heap.size := ⟨_, rfl⟩
  have T3 := Lib.hid (show St2 w W3 F1 p 2 [] ab bb from by
    have hs := B2.out.size
    have hl := (Array.getElem?_eq_some_iff.1 A2.out).1
    refine ⟨(S1.out.kp B2.out).kp B3.out, ?_, ?_, fun h => by have := HLT.out _ h; omega, fun h => by have := HLT.out _ h; omega⟩
    · rw [hab]; exact (B3.out.block _ hl).trans A2.out
    · rw [hbb]; exact A3.out)
  rw [← hab, ← hbb]
  clear hab hbb A2 A3 B2 B3 S1 HLT HN
  go_wp2_with (first
    | ((with_reducible show wpList _ _ _ (Oper.mk (some 17) _ _ _ _ _ :: _) _ _); refine wpList_load_row rfl 57 (.tmp 3) rfl ab rfl 57 _ (0, 0) _ T3.out.a Try.underlying57 rfl (by kernel_rfl) ?_)
    | (go_at_call 31; (with_reducible refine (works_send ma ma_ok (r := 0) (l' := [ma]) T3.out (by kernel_rfl) (by kernel_rfl)).mono ?_); rintro e W4 ⟨rfl, F4, t4⟩
       have T4 := Lib.hid t4
       clear t4)
    | ((with_reducible show wpList _ _ _ (Oper.mk (some 20) _ _ _ _ _ :: _) _ _); refine wpList_load_row rfl 57 (.tmp 4) rfl bb rfl 57 _ (0, 0) _ T4.out.b Try.underlying57 rfl (by kernel_rfl) ?_)
    | (go_at_call 31; (with_reducible refine (works_send mb mb_ok (r := 0) (l' := [ma, mb]) T4.out (by kernel_rfl) (by kernel_rfl)).mono ?_); rintro e W5 ⟨rfl, F5, t5⟩
       have T5 := Lib.hid t5
       clear t5)
    | ((with_reducible show wpList _ _ _ (Oper.mk (some 23) _ _ _ _ _ :: _) _ _); refine wpList_load_row rfl 57 (.tmp 3) rfl ab rfl 57 _ (0, 0) _ T5.out.a Try.underlying57 rfl (by kernel_rfl) ?_)
    | (go_at_call 31; (with_reducible refine (works_send ma ma_ok (r := 210) (l' := [ma, mb]) T5.out (by kernel_rfl) (by kernel_rfl)).mono ?_); rintro e W6 ⟨rfl, F6, t6⟩
       have T6 := Lib.hid t6
       clear t6)
    | (go_at_call 30; (with_reducible refine (works_del T6.out).mono ?_); rintro e W7 ⟨rfl, F7, t7⟩
       have T7 := Lib.hid t7
       clear t7)
    | ((with_reducible show wpList _ _ _ (Oper.mk none (Op.store 57 _ _) _ _ _ _ :: _) _ _); refine wpList_store_own rfl 57 (.tmp 8) (.tmp 28) rfl W7.heap.size (cells mb).toArray rfl rfl 57 #[.int .i64 0, .int .i64 0, .int .i64 0, .int .u32 0, .int .u8 0, .int .u8 0, .int .u8 0, .int .u8 0, .int .u8 0, .int .u8 0, .int .u8 0, .int .u8 0, .int .u8 0, .int .u8 0, .int .u8 0, .int .u8 0, .int .u8 0, .int .u8 0, .int .u8 0, .int .u8 0] (heap_alloc_new W7 _) (by kernel_rfl) rfl (cells_all mb) ?_
       intro W8 HW8
       have B8 := Lib.hid (show Below W7.heap.size W7 W8 from ((Below.refl W7.heap.size W7).alloc (Nat.le_refl _) _).trans HW8.below)
       have R8 := Lib.hid (show W8.heap[W7.heap.size]? = some (.cells (cells mb).toArray 57 (0, 0)) from HW8.row)
       clear HW8
       refine Stop.out ?_))
  refine ⟨?_⟩
  have T8 := Lib.hid (T7.out.kp B8.out)
  have KL := Lib.hid (len_any W8 T8.out.st.net)
  obtain ⟨cb, hcb⟩ : ∃ cb, cb = W7.heap.size := ⟨_, rfl⟩
  rw [← hcb] at R8 ⊢
  clear hcb
  go_wp2_with (first
    | (go_at_call 25; (with_reducible refine (num_any _ _).mono ?_); rintro e W9 ⟨rfl, hw⟩; subst hw)
    | ((with_reducible show wpList _ _ _ (Oper.mk (some 45) _ _ _ _ _ :: _) _ _); refine Ev.load_row_g 57 (.tmp 8) rfl rfl cb rfl 57 _ (0, 0) _ R8.out Try.underlying57 rfl (by kernel_rfl) ?_)
    | ((with_reducible show wpList _ _ _ (Oper.mk (some 46) _ _ _ _ _ :: _) _ _); refine Ev.load_row_g 57 (.tmp 4) rfl rfl bb rfl 57 _ (0, 0) _ T8.out.b Try.underlying57 rfl (by kernel_rfl) ?_)
    | ((with_reducible show wpList _ _ _ (Oper.mk (some 47) _ _ _ _ _ :: _) _ _); refine wpList_val_g rfl (eql_op (.tmp 45) (.tmp 46) rfl mb_ok mb_ok rfl rfl true (eqM_self mb_ok) W8) ?_)
    | (go_at_call 32; (with_reducible refine KL.out.mono ?_); rintro e W9 ⟨rfl, hw⟩; subst hw))
  go_ret
  exact ⟨rfl, T8.out.st.bel⟩
end Nt
end Go.Proofs.Ytnfpcklpmfemiaa
