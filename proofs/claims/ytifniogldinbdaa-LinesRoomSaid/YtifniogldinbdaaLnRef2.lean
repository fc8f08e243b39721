/-
  The document's own answers: Drop, Same, All.
-/
import Derived.Test.YtifniogldinbdaaLnRef
import Derived.Laws.AppendOwnNone
namespace Go.Proofs.Ytifniogldinbdaa
open Go.RowKit
set_option linter.unusedVariables false
set_option linter.unusedSimpArgs false
namespace Ln
def dropL (l : List E) (n : Int) : List E := l.filter fun e => e.n != n
theorem dropL_yes {l : List E} {n : Int} {k : Nat} {e : E} (h : l[k]? = some e) (he : e.n ≠ n) : dropL (l.take (k + 1)) n = dropL (l.take k) n ++ [e] := by
  unfold dropL; rw [List.take_add_one, h, List.filter_append]; simp [he]
theorem dropL_no {l : List E} {n : Int} {k : Nat} {e : E} (h : l[k]? = some e) (he : e.n = n) : dropL (l.take (k + 1)) n = dropL (l.take k) n := by
  unfold dropL; rw [List.take_add_one, h, List.filter_append]; simp [he]
theorem dropL_len (l : List E) (n : Int) : (dropL l n).length ≤ l.length := List.length_filter_le _ _
/-- the document's lines that a function has told: the list in blocks of its own -/
def RTold (w w' : World) (s ways : Nat) (v : Value) (l : List E) : Prop := ∃ a c, v = .agg #[.int .i64 (s : Int), .int .i64 (ways : Int), .slice a l.length c] ∧ w'.ownsRow w.heap.size 30 18 (.slice a l.length c) l.length (flat l)
def sameLs : List E → List E → Bool
  | [], [] => true
  | a :: x, b :: y => eqL a b && sameLs x y
  | _, _ => false
theorem sameLs_iff {x y : List E} (hx : ∀ e ∈ x, Ok e) (hy : ∀ e ∈ y, Ok e) : sameLs x y = true ↔ x = y := by
  induction x generalizing y with
  | nil => cases y <;> simp [sameLs]
  | cons a x ih =>
    cases y with
    | nil => simp [sameLs]
    | cons b y =>
      simp only [sameLs, Bool.and_eq_true, List.cons.injEq]
      rw [eqL_iff (hx a List.mem_cons_self) (hy b List.mem_cons_self), ih (fun e he => hx e (List.mem_cons_of_mem _ he)) (fun e he => hy e (List.mem_cons_of_mem _ he))]
theorem sameLs_step {x y : List E} {k : Nat} {a b : E} (h1 : x[k]? = some a) (h2 : y[k]? = some b) : sameLs (x.drop k) (y.drop k) = (eqL a b && sameLs (x.drop (k + 1)) (y.drop (k + 1))) := by
  obtain ⟨p1, q1⟩ := List.getElem?_eq_some_iff.1 h1
  obtain ⟨p2, q2⟩ := List.getElem?_eq_some_iff.1 h2
  rw [List.drop_eq_getElem_cons p1, List.drop_eq_getElem_cons p2, q1, q2]; rfl
theorem sameLs_len {x y : List E} (h : x.length ≠ y.length) : sameLs x y = false := by
  induction x generalizing y with
  | nil => cases y <;> simp_all [sameLs]
  | cons a x ih => cases y with
    | nil => rfl
    | cons b y => simp only [sameLs]; rw [ih (by simpa using h)]; simp
end Ln
set_option maxRecDepth 100000 in
set_option maxHeartbeats 4000000 in
theorem rdrop_any (s ways : Nat) (a : Option Addr) (c : Nat) (l : List Ln.E) (n : Int) (w : World) (h : Ln.RIn w s ways a c l) :
    Calls Try.prog 27 #[.agg #[.int .i64 (s : Int), .int .i64 (ways : Int), .slice a l.length c], .int .u32 n] w fun e w' => ∃ v, e = .returned v ∧ Ln.RTold w w' s ways v (Ln.dropL l n) ∧ Below w.heap.size w w' := by
  have hlen := h.len
  obtain ⟨b, hb⟩ : ∃ b, b = w.heap.size := ⟨_, rfl⟩
  obtain ⟨B1, hB1⟩ : ∃ B1, B1 = w.alloc (.cells #[.int .i64 (s : Int), .int .i64 (ways : Int), .slice a l.length c] 46) := ⟨_, rfl⟩
  obtain ⟨B, hB⟩ : ∃ B, B = B1.alloc (.cells #[.int .i64 0, .int .i64 0, .slice none 0 0] 46) := ⟨_, rfl⟩
  have hs1 : B1.heap.size = b + 1 := by rw [hB1, hb]; simp
  have RB := Lib.hid (show Ln.RBox w B b s ways a c l from (show Ln.RBox w B1 b s ways a c l by rw [hB1, hb]; exact Ln.rbox h).kp (by rw [hB]; exact (Below.refl _ _).alloc (Nat.le_refl _) _))
  have RZ := Lib.hid (show B.heap[b + 1]? = some (.cells #[.int .i64 0, .int .i64 0, .slice none 0 0] 46 (0, 0)) by rw [hB, ← hs1]; exact heap_alloc_new _ _)
  have HBB := Lib.hid (show (w.alloc (.cells #[.int .i64 (s : Int), .int .i64 (ways : Int), .slice a l.length c] 46)).alloc (.cells #[.int .i64 0, .int .i64 0, .slice none 0 0] 46) = B by rw [hB, hB1])
  have Hb := Lib.hid hb
  obtain ⟨i0, hi, hz0, hz1, hz2⟩ := Ln.info_line
  have HI := Lib.hid hi; have HZ0 := Lib.hid hz0; have HZ1 := Lib.hid hz1; have HZ2 := Lib.hid hz2
  clear h hb hB hB1 hs1 hi hz0 hz1 hz2
  go_enter Try.func27, Try.ntmps27
  go_wp2_with fail
  rw [HBB.out, ← Hb.out]
  go_loopw [5, 6] (fun v i wr => ∃ k : Nat, k ≤ l.length ∧ i = .int .i64 (k : Int) ∧ Ln.Acc w wr v (Ln.dropL (l.take k) n) ∧ Ln.RBox w wr b s ways a c l ∧ wr.heap[b + 1]? = some (.cells #[.int .i64 0, .int .i64 0, .slice none 0 0] 46 (0, 0))) (fun _ i _ => l.length - (intOf i).toNat)
  case atStart => exact ⟨0, Nat.zero_le _, rfl, Ln.Acc.nil w B, RB.out, RZ.out⟩
  case round =>
    obtain ⟨k, hk, rfl, ⟨oa, oc, rfl, ho⟩, hrb, hrz⟩ := hrel
    have RR := Lib.hid hrb; have HO := Lib.hid ho; have RZ2 := Lib.hid hrz
    have c2 := hrb.c2
    have hol : (Ln.dropL (l.take k) n).length ≤ 500 := by have := Ln.dropL_len (l.take k) n; rw [List.length_take] at this; omega
    clear hrb ho hrz
    by_cases hlt : k < l.length
    · obtain ⟨m, hm⟩ : ∃ m, l[k]? = some m := ⟨_, List.getElem?_eq_getElem hlt⟩
      have HM := Lib.hid hm
      have HOK := Lib.hid (RR.out.rin.ls.ok_ hm)
      obtain ⟨ga, o, ea, hc⟩ := RR.out.rinB.ls.at_ hm
      have HC := Lib.hid hc
      have hki : (k : Int) < (l.length : Int) := by omega
      have cc := hc 0 _ (Ln.cell0 m)
      rw [Nat.add_zero] at cc
      clear hm hc
      subst ea
      by_cases he : m.n = n
      · have HT := Lib.hid (Ln.dropL_no HM.out he)
        go_wp2_with fail
        go_roundw
        case rel => exact ⟨k + 1, by omega, by go_num, ⟨oa, oc, by rw [HT.out], by rw [HT.out]; exact HO.out⟩, RR.out, RZ2.out⟩
        case measure => simp [intOf]; omega
      · have HT := Lib.hid (Ln.dropL_yes HM.out he)
        go_wp2_with (first
          | ((with_reducible show wpList _ _ _ (Oper.mk (some 27) _ _ _ _ _ :: _) _ _); refine wpList_load_at rfl 30 (.tmp 26) rfl ga (o + k * 18) rfl (Ln.cells m) _ HC.out Try.underlying30 rfl (by rw [HOK.out.len]; exact Ln.size_line) ?_)
          | ((with_reducible show wpList _ _ _ (Oper.mk (some 28) _ _ _ _ _ :: _) _ _); refine Ln.wpList_buildLine rfl m HOK.out (.tmp 27) rfl rfl ?_)
          | ((with_reducible show wpList _ _ _ (Oper.mk (some 29) _ _ _ _ _ :: _) _ _); refine wpList_append_own (wr.alloc (.cells (Ln.cells m).toArray 30)) rfl (.tmp 22) (.tmp 28) 38 rfl w.heap.size 30 i0 (Ln.EV Ln.E0) 18 32 Try.underlying38 HI.out HZ0.out HZ1.out HZ2.out rfl (by decide) _ _ _ rfl (HO.out.alloc _) ⟨wr.heap.size, 0, none⟩ 1 1 (Ln.cells m) rfl (by rw [HOK.out.len]) (fun j u hu => World.news_of_block (heap_alloc_new wr _) j u hu) (Ln.cells_one _) (by unfold maxLen; omega) (by omega) (by have := RR.out.bel.size; simp only [World.size_alloc]; omega) ?_
             intro v' w3 hown hgrow _
             have RN := Lib.hid (RR.out.grown hgrow (Ln.own_ne HO.out RR.out.row (by decide)) (fun j hj => (HO.out.lt j hj).1))
             have RZ3 := Lib.hid (show w3.heap[b + 1]? = some (.cells #[.int .i64 0, .int .i64 0, .slice none 0 0] 46 (0, 0)) from (hgrow.block (b + 1) (by have := (Array.getElem?_eq_some_iff.1 RZ2.out).1; simp; omega) (fun e => Ln.own_ne HO.out RZ2.out (by decide) e.symm)).trans (((Below.refl wr.heap.size wr).alloc (Nat.le_refl _) _).block _ (Array.getElem?_eq_some_iff.1 RZ2.out).1 |>.trans RZ2.out))
             rw [← Ln.flat_one m, ← Ln.flat_app, ← HT.out, show (Ln.dropL (l.take k) n).length + 1 = (Ln.dropL (l.take (k + 1)) n).length by rw [HT.out]; simp] at hown
             obtain ⟨a', c', rfl⟩ := Ln.own_form hown
             have HOW := Lib.hid hown
             clear hown hgrow))
        go_roundw
        case rel => exact ⟨k + 1, by omega, by go_num, ⟨a', c', rfl, HOW.out⟩, RN.out, RZ3.out⟩
        case measure => simp [intOf]; omega
    · have hki : ¬ (k : Int) < (l.length : Int) := by omega
      have hke : k = l.length := by omega
      subst hke
      have HTL := Lib.hid (show Ln.dropL (l.take l.length) n = Ln.dropL l n by rw [List.take_length])
      have ho := HO.out
      rw [HTL.out] at ho
      have HO2 := Lib.hid ho
      obtain ⟨W2, hW2⟩ : ∃ W2, W2 = wr.setCell ⟨b, 2, none⟩ (.slice oa (Ln.dropL l n).length oc) := ⟨_, rfl⟩
      have HW2 := Lib.hid hW2
      have hG := Ln.grown_cell wr b 2 (.slice oa (Ln.dropL l n).length oc)
      rw [← hW2] at hG
      have hbl := Ln.own_ne HO2.out RR.out.row (by decide)
      have R2 := Lib.hid (show W2.heap[b]? = some (.cells #[.int .i64 (s : Int), .int .i64 (ways : Int), .slice oa (Ln.dropL l n).length oc] 46 (0, 0)) by rw [hW2, Ln.set_row _ RR.out.row]; rfl)
      have Z2 := Lib.hid (show W2.heap[b + 1]? = some (.cells #[.int .i64 0, .int .i64 0, .slice none 0 0] 46 (0, 0)) from (hG.block _ (Array.getElem?_eq_some_iff.1 RZ2.out).1 (by simp)).trans RZ2.out)
      have B2 := Lib.hid (show Below w.heap.size w W2 from RR.out.bel.grown hG RR.out.bel.size (fun j hj => by cases hj; rw [Hb.out]; exact Nat.le_refl _))
      have O2 := Lib.hid (Ln.row_kept HO2.out (fun j hj => hG.block j (HO2.out.lt j hj).2 (fun e => by cases e; exact hbl hj)))
      have c4 := Ln.free_row (i := 2) RR.out.row
      clear hW2 hG hbl ho
      go_wp2_with (first
        | ((with_reducible show wpList _ _ _ (Oper.mk (some 32) _ _ _ _ _ :: _) _ _); rw [← HW2.out]; refine wpList_load_row rfl 46 (.tmp 2) rfl b rfl 46 _ (0, 0) _ R2.out Try.underlying46 rfl (by kernel_rfl) ?_)
        | ((with_reducible show wpList _ _ _ (Oper.mk none (Op.store 46 _ _) _ _ _ _ :: _) _ _); refine wpList_store_own rfl 46 (.tmp 4) (.tmp 32) rfl (b + 1) #[.int .i64 (s : Int), .int .i64 (ways : Int), .slice oa (Ln.dropL l n).length oc] rfl rfl 46 _ Z2.out (by kernel_rfl) rfl (by kernel_rfl) ?_
           intro W3 HW3
           have R3 := Lib.hid HW3.row
           have B3 := Lib.hid (show Below w.heap.size w W3 from B2.out.trans (HW3.below.mono (by rw [Hb.out]; omega)))
           have O3 := Lib.hid (Ln.row_kept O2.out (fun j hj => HW3.block j (fun e => by subst e; exact Ln.own_ne O2.out Z2.out (by decide) hj)))
           clear HW3))
      refine bodyPost_ret (results_cell_row (fn := Try.f27) rfl _ _ (b + 1) 46 _ (0, 0) _ rfl R3.out Try.underlying46 rfl (by kernel_rfl)) rfl ?_
      exact ⟨_, rfl, ⟨oa, oc, rfl, O3.out⟩, B3.out⟩
end Go.Proofs.Ytifniogldinbdaa
