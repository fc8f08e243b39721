/-
  The document's own answer: Put.
-/
import Derived.Test.YtifniogldinbdaaLnRef3
import Derived.Test.YtifniogldinbdaaOgD
namespace Go.Proofs.Ytifniogldinbdaa
open Go.RowKit
set_option linter.unusedVariables false
set_option linter.unusedSimpArgs false
namespace Ln
def putRE (s ways : Nat) (l : List E) (e : E) : Int :=
  if held e.s then (if 0 ≤ ix l e.n 0 then 0 else if ways ≤ (ofL l s (e.n.toNat % s)).length then 200 else 0) else 2
def putRL (s ways : Nat) (l : List E) (e : E) : List E :=
  if held e.s then (if 0 ≤ ix l e.n 0 then l.set (ix l e.n 0).toNat e else if ways ≤ (ofL l s (e.n.toNat % s)).length then l else l ++ [e]) else l
/-- three boxes: the document's lines, a line, what is told -/
structure PB (w B : World) (b : Nat) (s ways : Nat) (a : Option Addr) (c : Nat) (l : List E) (e : E) : Prop where
  rb : RBox w B b s ways a c l
  bw : b = w.heap.size
  line : B.heap[b + 1]? = some (.cells (cells e).toArray 30 (0, 0))
  zero : B.heap[b + 2]? = some (.cells #[.int .i64 0, .int .i64 0, .slice none 0 0] 46 (0, 0))
theorem PB.kp {w B B' : World} {b s ways a c l e} (h : PB w B b s ways a c l e) (hb : Below B.heap.size B B') : PB w B' b s ways a c l e :=
  ⟨h.rb.kp hb, h.bw, (hb.block _ (Array.getElem?_eq_some_iff.1 h.line).1).trans h.line, (hb.block _ (Array.getElem?_eq_some_iff.1 h.zero).1).trans h.zero⟩
theorem PB.grown {w B B' : World} {b s ways a c l e} (h : PB w B b s ways a c l e) {row : Option Nat} (hg : B.grownBy B' row) (h1 : ∀ k, row = some k → b + 2 < k) : PB w B' b s ways a c l e :=
  ⟨h.rb.grown0 hg (fun e => by have := h1 _ e; omega) (fun k hk => by have := h1 k hk; rw [← h.bw]; omega), h.bw, (hg.block _ (Array.getElem?_eq_some_iff.1 h.line).1 (fun e => by have := h1 _ e.symm; omega)).trans h.line, (hg.block _ (Array.getElem?_eq_some_iff.1 h.zero).1 (fun e => by have := h1 _ e.symm; omega)).trans h.zero⟩
theorem PB.lt {w B : World} {b s ways a c l e} (h : PB w B b s ways a c l e) : b + 2 < B.heap.size := (Array.getElem?_eq_some_iff.1 h.zero).1
theorem grown_set1 {w W : World} {g : Nat} {t : TypeId} {cs : Array Value} (h : Ev.Set1 w W g t cs) : w.grownBy W (some g) :=
  ⟨(show W.os = w.os from h.below.os), h.below.tape, h.below.output, by rw [h.size]; exact Nat.le_refl _, fun k _ hk => h.block k (fun e => hk (by rw [e]))⟩
/-- the document's lines with another list, told -/
structure PFin (w W : World) (b s ways : Nat) (a : Option Addr) (c : Nat) (l : List E) : Prop where
  bel : Below w.heap.size w W
  row : W.heap[b]? = some (.cells #[.int .i64 (s : Int), .int .i64 (ways : Int), .slice a l.length c] 46 (0, 0))
  zero : W.heap[b + 2]? = some (.cells #[.int .i64 0, .int .i64 0, .slice none 0 0] 46 (0, 0))
  own : W.ownsRow w.heap.size 30 18 (.slice a l.length c) l.length (flat l)
theorem PB.fin {w W : World} {b s ways a c l e} (h : PB w W b s ways a c l e) {a' : Option Addr} {c' : Nat} {l' : List E} (ho : W.ownsRow w.heap.size 30 18 (.slice a' l'.length c') l'.length (flat l')) :
    PFin w (W.setCell ⟨b, 2, none⟩ (.slice a' l'.length c')) b s ways a' c' l' := by
  have hG := grown_cell W b 2 (.slice a' l'.length c')
  have hbl := own_ne ho h.rb.row (by decide)
  refine ⟨h.rb.bel.grown hG h.rb.bel.size (fun j hj => by cases hj; rw [h.bw]; exact Nat.le_refl _), by rw [set_row _ h.rb.row]; rfl, (hG.block _ (Array.getElem?_eq_some_iff.1 h.zero).1 (by simp)).trans h.zero, row_kept ho (fun j hj => hG.block j (ho.lt j hj).2 (fun e => by cases e; exact hbl hj))⟩
theorem pb {w : World} {s ways a c l} (h : RIn w s ways a c l) (e : E) :
    PB w (((w.alloc (.cells #[.int .i64 (s : Int), .int .i64 (ways : Int), .slice a l.length c] 46)).alloc (.cells (cells e).toArray 30)).alloc (.cells #[.int .i64 0, .int .i64 0, .slice none 0 0] 46)) w.heap.size s ways a c l e := by
  obtain ⟨B1, hB1⟩ : ∃ B1, B1 = w.alloc (.cells #[.int .i64 (s : Int), .int .i64 (ways : Int), .slice a l.length c] 46) := ⟨_, rfl⟩
  obtain ⟨B2, hB2⟩ : ∃ B2, B2 = B1.alloc (.cells (cells e).toArray 30) := ⟨_, rfl⟩
  have s1 : B1.heap.size = w.heap.size + 1 := by rw [hB1]; simp
  have s2 : B2.heap.size = w.heap.size + 2 := by rw [hB2]; simp; omega
  have h1 : RBox w B1 w.heap.size s ways a c l := by rw [hB1]; exact rbox h
  have h2 : RBox w B2 w.heap.size s ways a c l := h1.kp (by rw [hB2]; exact (Below.refl _ _).alloc (Nat.le_refl _) _)
  rw [← hB1, ← hB2]
  refine ⟨h2.kp ((Below.refl _ _).alloc (Nat.le_refl _) _), rfl, ?_, ?_⟩
  · refine (((Below.refl B2.heap.size B2).alloc (Nat.le_refl _) _).block _ (by omega)).trans ?_
    rw [hB2, ← s1]; exact heap_alloc_new _ _
  · rw [← s2]; exact heap_alloc_new _ _
/-- a list is copied behind an empty one of one's own -/
theorem wpList_copy {ops : Array Oper} {rest : List Oper} {o : Oper} {act : Act} {W : World} {Q : Exit → Act → World → Prop} (hgd : o.guard = none) (sl x : Operand) (ho : o.op = .call { callee := .builtin .append, args := #[sl, x], argTypes := #[38, 38] })
    (base g : Nat) (hbg : base ≤ g) (hg : W.heap[g]? = some (.cells #[] 30 (0, 0))) (hs : act.eval sl = .slice (some ⟨g, 0, none⟩) 0 0) {a : Option Addr} {c : Nat} {l : List E} (hl : LsIn W a c l) (hlen : l.length ≤ 1000) (hn : a = none → c = 0) (hx : act.eval x = .slice a l.length c)
    (h : ∀ a' c' W', W'.ownsRow base 30 18 (.slice a' l.length c') l.length (flat l) → W.grownBy W' (some g) → (∀ k, (Value.slice a' l.length c').ownBlock = some k → g ≤ k) → wpList Try.prog ops Q rest (act.put o.dst (.slice a' l.length c')) W') : wpList Try.prog ops Q (o :: rest) act W := by
  obtain ⟨i0, hi, hz0, hz1, hz2⟩ := info_line
  have hlt := (Array.getElem?_eq_some_iff.1 hg).1
  have hown : ∀ B, B ≤ g → W.ownsRow B 30 18 (.slice (some ⟨g, 0, none⟩) 0 0) 0 [] := fun B hB => ⟨by simp, .inr ⟨g, 0, #[], rfl, hB, hg, Nat.le_refl _, by unfold maxLen; omega, rfl, by simp⟩⟩
  cases a with
  | none =>
    have hn0 : l = [] := by
      cases l with
      | nil => rfl
      | cons x l => obtain ⟨g, o, e, _⟩ := hl.rows (by simp); cases e
    subst hn0
    obtain rfl := hn rfl
    exact wpList_append_own_none hgd sl x 38 ho base 30 i0 18 Try.underlying38 hi _ _ _ hs (hown base hbg) hx (h (some ⟨g, 0, none⟩) 0 W (hown base hbg) ⟨rfl, rfl, rfl, Nat.le_refl _, fun _ _ _ => rfl⟩ (fun k hk => by cases hk; exact Nat.le_refl _))
  | some ad =>
    refine wpList_append_own W hgd sl x 38 ho g 30 i0 (EV E0) 18 32 Try.underlying38 hi hz0 hz1 hz2 rfl (by decide) _ 0 [] hs (hown g (Nat.le_refl _)) ad l.length c (flat l) hx (by rw [flat_len hl.ok]) hl.news (flat_one' l) (by unfold maxLen; omega) (by omega) (by omega) ?_
    intro v' w3 h1 h2 _
    rw [Nat.zero_add, List.nil_append] at h1
    obtain ⟨a', c', rfl⟩ := own_form h1
    exact h a' c' w3 (own_mono h1 hbg) h2 (fun k hk => (h1.lt k hk).1)
/-- a line of one's own row is another one -/
theorem own_set {W : World} {base k : Nat} {a : Option Addr} {c : Nat} {l : List E} (h : W.ownsRow base 30 18 (.slice a l.length c) l.length (flat l)) (hokr : ∀ x ∈ l, Ok x) (hk : k < l.length) {e : E} (hok : Ok e) :
    ∃ (g : Nat) (cur : Array Value), a = some ⟨g, 0, none⟩ ∧ W.heap[g]? = some (.cells cur 30 (0, 0)) ∧ k * 18 + (cells e).length ≤ cur.size ∧
      Ev.Set1 W (W.setRow g (cur.toList.take (k * 18) ++ cells e ++ cur.toList.drop (k * 18 + (cells e).length)).toArray) g 30 (cur.toList.take (k * 18) ++ cells e ++ cur.toList.drop (k * 18 + (cells e).length)).toArray ∧
      (W.setRow g (cur.toList.take (k * 18) ++ cells e ++ cur.toList.drop (k * 18 + (cells e).length)).toArray).ownsRow base 30 18 (.slice a l.length c) l.length (flat (l.set k e)) := by
  rcases h.2 with ⟨e1, hn⟩ | ⟨g, cap, cur, e1, hb0, hb, hnc, hcm, hcs, ht⟩
  · omega
  · injection e1 with e1 _ e3
    have hel := hok.len
    have HS := Ev.set1 (cs := (cur.toList.take (k * 18) ++ cells e ++ cur.toList.drop (k * 18 + (cells e).length)).toArray) hb (by simp [hel]; omega)
    refine ⟨g, cur, e1, hb, by rw [hel, hcs]; omega, HS, ?_, .inr ⟨g, cap, _, by rw [e1, e3], hb0, HS.row, hnc, hcm, by simp [hel]; omega, ?_⟩⟩
    · rw [flat_len (fun x hx => by rcases List.mem_or_eq_of_mem_set hx with h | h; exact hokr x h; rw [h]; exact hok), List.length_set]
    · have hflat : flat (l.set k e) = (flat l).take (k * 18) ++ cells e ++ (flat l).drop (k * 18 + 18) := by
        have h1 : ∀ x ∈ l.take k, Ok x := fun x hx => hokr x (List.mem_of_mem_take hx)
        have h2 := flat_len h1
        have h3 : l = l.take k ++ (l[k] :: l.drop (k + 1)) := by rw [← List.drop_eq_getElem_cons hk, List.take_append_drop]
        have h4 : l.set k e = l.take k ++ (e :: l.drop (k + 1)) := by rw [List.set_eq_take_append_cons_drop, if_pos hk]
        have h5 := (hokr l[k] (List.getElem_mem hk)).len
        have h6 : (flat (l.take k)).length = k * 18 := by rw [h2, List.length_take]; omega
        have hc : ∀ (x : E) (l : List E), flat (x :: l) = cells x ++ flat l := fun x l => by unfold flat; simp
        rw [h4, flat_app, hc, List.append_assoc]
        conv => rhs; rw [h3]
        rw [flat_app, hc]
        rw [List.take_left' h6]
        rw [show k * 18 + 18 = (flat (l.take k) ++ cells l[k]).length by rw [List.length_append, h6, h5]]
        rw [← List.append_assoc (flat (l.take k)) (cells l[k]), List.drop_left]
      show List.take (l.length * 18) _ = flat (l.set k e)
      have hA : (cur.toList.take (k * 18)).length = k * 18 := by rw [List.length_take, Array.length_toList]; omega
      rw [hflat, ← ht, hel, take3 (by rw [hA, hel]; omega), hA, hel, List.take_take, Nat.min_eq_left (by omega : k * 18 ≤ l.length * 18), List.drop_take]
/-- what Put tells -/
def PTold (w w' : World) (s ways : Nat) (a : Option Addr) (c : Nat) (l : List E) (e : E) (r : Ending) : Prop :=
  ∃ a' c', r = .returned (.tuple #[.agg #[.int .i64 (s : Int), .int .i64 (ways : Int), .slice a' (putRL s ways l e).length c'], .int .i64 (putRE s ways l e)]) ∧
    ((a' = a ∧ c' = c ∧ putRL s ways l e = l) ∨ w'.ownsRow w.heap.size 30 18 (.slice a' (putRL s ways l e).length c') (putRL s ways l e).length (flat (putRL s ways l e)))
end Ln
def LEFT (w : World) : World := w
set_option maxRecDepth 100000 in
set_option maxHeartbeats 4000000 in
theorem rput_bad (s ways : Nat) (a : Option Addr) (c : Nat) (l : List Ln.E) (e : Ln.E) (hok : Ln.Ok e) (hh : Ln.held e.s = false) (w : World) (h : Ln.RIn w s ways a c l) :
    Calls Try.prog 28 #[.agg #[.int .i64 (s : Int), .int .i64 (ways : Int), .slice a l.length c], .agg (Ln.cells e).toArray] w fun x w' => Ln.PTold w w' s ways a c l e x ∧ Below w.heap.size w w' := by
  obtain ⟨b, hb⟩ : ∃ b, b = w.heap.size := ⟨_, rfl⟩
  obtain ⟨B, hB⟩ : ∃ B, B = ((w.alloc (.cells #[.int .i64 (s : Int), .int .i64 (ways : Int), .slice a l.length c] 46)).alloc (.cells (Ln.cells e).toArray 30)).alloc (.cells #[.int .i64 0, .int .i64 0, .slice none 0 0] 46) := ⟨_, rfl⟩
  have P0 := Lib.hid (show Ln.PB w B b s ways a c l e by rw [hB, hb]; exact Ln.pb h e)
  have HB := Lib.hid hB; have Hb := Lib.hid hb
  have e1 : B.cell? ⟨b + 1, 1, none⟩ = some (.int .i64 e.s) := by rw [cell_of_row _ _ _ _ _ _ P0.out.line]; rfl
  have hns : ¬ (1 ≤ e.s ∧ e.s ≤ 3) := fun hc => by rw [(Ln.held_iff e.s).2 hc] at hh; cases hh
  have HE := Lib.hid (show Ln.putRE s ways l e = 2 by unfold Ln.putRE; rw [hh]; rfl)
  have HL := Lib.hid (show Ln.putRL s ways l e = l by unfold Ln.putRL; rw [hh]; rfl)
  clear h hb hB hh
  by_cases h1 : e.s < 1
  · go_enter Try.func28, Try.ntmps28
    go_wp2_with (first
      | ((with_reducible show wpList _ _ _ (Oper.mk (some 8) _ _ _ _ _ :: _) _ _); rw [← HB.out, ← Hb.out])
      | ((with_reducible show wpList _ _ _ (Oper.mk (some 16) _ _ _ _ _ :: _) _ _); refine wpList_load_row rfl 46 (.tmp 2) rfl b rfl 46 _ (0, 0) _ P0.out.rb.row Try.underlying46 rfl (by kernel_rfl) ?_)
      | ((with_reducible show wpList _ _ _ (Oper.mk none (Op.store 46 _ _) _ _ _ _ :: _) _ _); refine wpList_store_own rfl 46 (.tmp 4) (.tmp 16) rfl (b + 2) #[.int .i64 (s : Int), .int .i64 (ways : Int), .slice a l.length c] rfl rfl 46 _ P0.out.zero (by kernel_rfl) rfl (by kernel_rfl) ?_
         intro W3 HW3
         have R3 := Lib.hid HW3.row
         have B3 := Lib.hid (show Below w.heap.size w W3 from P0.out.rb.bel.trans (HW3.below.mono (by rw [Hb.out]; omega)))
         clear HW3))
    refine bodyPost_ret (Ln.res2 (fn := Try.f28) rfl _ _ (b + 2) 46 _ (0, 0) _ rfl R3.out Try.underlying46 rfl (by kernel_rfl)) rfl ⟨⟨a, c, ?_, .inl ⟨rfl, rfl, HL.out⟩⟩, B3.out⟩
    rw [HE.out, HL.out]; rfl
  · have h3 : 3 < e.s := by omega
    go_enter Try.func28, Try.ntmps28
    go_wp2_with (first
      | ((with_reducible show wpList _ _ _ (Oper.mk (some 8) _ _ _ _ _ :: _) _ _); rw [← HB.out, ← Hb.out])
      | ((with_reducible show wpList _ _ _ (Oper.mk (some 16) _ _ _ _ _ :: _) _ _); refine wpList_load_row rfl 46 (.tmp 2) rfl b rfl 46 _ (0, 0) _ P0.out.rb.row Try.underlying46 rfl (by kernel_rfl) ?_)
      | ((with_reducible show wpList _ _ _ (Oper.mk none (Op.store 46 _ _) _ _ _ _ :: _) _ _); refine wpList_store_own rfl 46 (.tmp 4) (.tmp 16) rfl (b + 2) #[.int .i64 (s : Int), .int .i64 (ways : Int), .slice a l.length c] rfl rfl 46 _ P0.out.zero (by kernel_rfl) rfl (by kernel_rfl) ?_
         intro W3 HW3
         have R3 := Lib.hid HW3.row
         have B3 := Lib.hid (show Below w.heap.size w W3 from P0.out.rb.bel.trans (HW3.below.mono (by rw [Hb.out]; omega)))
         clear HW3))
    refine bodyPost_ret (Ln.res2 (fn := Try.f28) rfl _ _ (b + 2) 46 _ (0, 0) _ rfl R3.out Try.underlying46 rfl (by kernel_rfl)) rfl ⟨⟨a, c, ?_, .inl ⟨rfl, rfl, HL.out⟩⟩, B3.out⟩
    rw [HE.out, HL.out]; rfl
set_option maxRecDepth 100000 in
set_option maxHeartbeats 4000000 in
theorem rput_good (s ways : Nat) (a : Option Addr) (c : Nat) (l : List Ln.E) (e : Ln.E) (hok : Ln.Ok e) (hh : Ln.held e.s = true) (w : World) (h : Ln.RIn w s ways a c l) :
    Calls Try.prog 28 #[.agg #[.int .i64 (s : Int), .int .i64 (ways : Int), .slice a l.length c], .agg (Ln.cells e).toArray] w fun x w' => Ln.PTold w w' s ways a c l e x ∧ Below w.heap.size w w' := by
  have hlen := h.len
  have hs0 := h.s0; have hs1 := h.s1; have hw0 := h.w0; have hw1 := h.w1
  obtain ⟨b, hb⟩ : ∃ b, b = w.heap.size := ⟨_, rfl⟩
  obtain ⟨B, hB⟩ : ∃ B, B = ((w.alloc (.cells #[.int .i64 (s : Int), .int .i64 (ways : Int), .slice a l.length c] 46)).alloc (.cells (Ln.cells e).toArray 30)).alloc (.cells #[.int .i64 0, .int .i64 0, .slice none 0 0] 46) := ⟨_, rfl⟩
  have P0 := Lib.hid (show Ln.PB w B b s ways a c l e by rw [hB, hb]; exact Ln.pb h e)
  have HB := Lib.hid hB; have Hb := Lib.hid hb
  have e9 : B.cell? ⟨b + 1, 1, none⟩ = some (.int .i64 e.s) := by rw [cell_of_row _ _ _ _ _ _ P0.out.line]; rfl
  have e8 : B.cell? ⟨b + 1, 0, none⟩ = some (.int .u32 e.n) := by rw [cell_of_row _ _ _ _ _ _ P0.out.line]; rfl
  obtain ⟨h1, h3⟩ := (Ln.held_iff e.s).1 hh
  have hn1 : ¬ e.s < 1 := by omega
  have hn3 : ¬ 3 < e.s := by omega
  have KF := Lib.hid (fun W hW => rfind_any s ways a c l e.n hok.n W hW)
  obtain ⟨i, hi⟩ : ∃ i, e.n.toNat % s = i := ⟨_, rfl⟩
  have hil : i < 64 := by rw [← hi]; have := Nat.mod_lt e.n.toNat hs0; omega
  have KS := Lib.hid (fun W hW => hi ▸ rset_any s ways a c l e.n hok.n W hW)
  have KO := Lib.hid (fun W hW => rof_any s ways a c l i hil W hW)
  have HI := Lib.hid hi; have HH := Lib.hid hh; have HOK := Lib.hid hok
  have hol := Ln.ofL_len l s i
  clear h hb hB hh hi hok
  by_cases h0 : 0 ≤ Ln.ix l e.n 0
  · obtain ⟨k, x0, q1, q2, _, _⟩ := Ln.fd_at h0
    have hkl := (List.getElem?_eq_some_iff.1 q2).1
    have hki : (k : Int) < (l.length : Int) := by omega
    have HE := Lib.hid (show Ln.putRE s ways l e = 0 by unfold Ln.putRE; rw [HH.out, if_pos rfl, if_pos h0])
    have HL := Lib.hid (show Ln.putRL s ways l e = l.set k e by unfold Ln.putRL; rw [HH.out, if_pos rfl, if_pos h0, q1, Int.toNat_natCast])
    have KF2 := Lib.hid (fun W hW => q1 ▸ KF.out W hW)
    clear h0 q1 q2 KF
    go_enter Try.func28, Try.ntmps28
    go_wp2_with (first
      | ((with_reducible show wpList _ _ _ (Oper.mk (some 8) _ _ _ _ _ :: _) _ _); rw [← HB.out, ← Hb.out])
      | ((with_reducible show wpList _ _ _ (Oper.mk (some 17) _ _ _ _ _ :: _) _ _); refine wpList_load_row rfl 46 (.tmp 2) rfl b rfl 46 _ (0, 0) _ P0.out.rb.row Try.underlying46 rfl (by kernel_rfl) ?_)
      | (go_at_call 25; (with_reducible refine (KF2.out B P0.out.rb.rinB).mono ?_); rintro e' W2 ⟨rfl, hb2⟩
         have P2 := Lib.hid (P0.out.kp hb2)
         clear hb2))
    have RB := Lib.hid P2.out.rb
    have e0 : W2.cell? ⟨b + 1, 0, none⟩ = some (.int .u32 e.n) := by rw [cell_of_row _ _ _ _ _ _ P2.out.line]; rfl
    have e1 := P2.out.rb.c1
    refine Og.region3 (by kernel_rfl) (fun t => ([(21, 0), (22, 1), (23, 2), (24, 3), (25, 4), (26, 5), (27, 6), (28, 7), (29, 8), (30, 9), (31, 10), (32, 11), (33, 12), (34, 13)] : List (Nat × Nat)).lookup t) [.is (.int .i64 (k : Int)), .is (.bool false), .is (.bool false), .is (undef), .is (undef), .is (undef), .is (undef), .is (undef), .is (undef), .is (undef), .is (undef), .is (undef), .is (undef), .is (.bool false)] [true, true, true, false, false, false, false, false, false, false, false, false, false, true] (by kernel_rfl) ?_ ?_
    · refine ⟨?_, ?_, ?_, ?_, ?_, ?_, ?_, ?_, ?_, ?_, ?_, ?_, ?_, ?_, trivial⟩
      · refine ⟨rfl, fun ρ w1 hr hd => ?_⟩
        obtain ⟨d0, _⟩ := hd
        have d0 : ρ (.tmp 6) = .int .i64 (k : Int) := d0
        refine (if_pos (by rfl)).mpr ?_
        refine Og.gives_is (.int .i64 (k : Int)) ?_ (And.intro (Below.refl _ _) rfl)
        go_simp
      · refine ⟨rfl, fun ρ w1 hr hd => ?_⟩
        obtain ⟨d0, d1, _⟩ := hd
        have d0 : ρ (.tmp 21) = .int .i64 (k : Int) := d0
        have d1 : ρ (.const (.int .i64 0)) = (.int .i64 0) := d1
        refine (if_pos (by rfl)).mpr ?_
        refine Og.gives_is (.bool false) ?_ (And.intro (Below.refl _ _) rfl)
        simp only [execOp, d0]; go_simp; try simp; try omega
      · refine ⟨rfl, fun ρ w1 hr hd => ?_⟩
        obtain ⟨d0, _⟩ := hd
        have d0 : ρ (.tmp 22) = .bool false := d0
        refine (if_pos (by rfl)).mpr ?_
        refine Og.gives_is (.bool false) ?_ (And.intro (Below.refl _ _) rfl)
        go_simp
      · refine ⟨fun v w hv => by (have hv' : v = .bool false := hv); subst hv'; exact (if_neg (by exact Bool.false_ne_true)).mpr (fun h => by cases h), fun ρ w1 hr hd => ?_⟩
        exact (if_neg (by exact Bool.false_ne_true)).mpr (rfl : undef = undef)
      · refine ⟨fun v w hv => by (have hv' : v = .bool false := hv); subst hv'; exact (if_neg (by exact Bool.false_ne_true)).mpr (fun h => by cases h), fun ρ w1 hr hd => ?_⟩
        exact (if_neg (by exact Bool.false_ne_true)).mpr (rfl : undef = undef)
      · refine ⟨fun v w hv => by (have hv' : v = .bool false := hv); subst hv'; exact (if_neg (by exact Bool.false_ne_true)).mpr (fun h => by cases h), fun ρ w1 hr hd => ?_⟩
        exact (if_neg (by exact Bool.false_ne_true)).mpr (rfl : undef = undef)
      · refine ⟨fun v w hv => by (have hv' : v = .bool false := hv); subst hv'; exact (if_neg (by exact Bool.false_ne_true)).mpr (fun h => by cases h), fun ρ w1 hr hd => ?_⟩
        exact (if_neg (by exact Bool.false_ne_true)).mpr (rfl : undef = undef)
      · refine ⟨fun v w hv => by (have hv' : v = .bool false := hv); subst hv'; exact (if_neg (by exact Bool.false_ne_true)).mpr (fun h => by cases h), fun ρ w1 hr hd => ?_⟩
        exact (if_neg (by exact Bool.false_ne_true)).mpr (rfl : undef = undef)
      · refine ⟨fun v w hv => by (have hv' : v = .bool false := hv); subst hv'; exact (if_neg (by exact Bool.false_ne_true)).mpr (fun h => by cases h), fun ρ w1 hr hd => ?_⟩
        exact (if_neg (by exact Bool.false_ne_true)).mpr (rfl : undef = undef)
      · refine ⟨fun v w hv => by (have hv' : v = .bool false := hv); subst hv'; exact (if_neg (by exact Bool.false_ne_true)).mpr (fun h => by cases h), fun ρ w1 hr hd => ?_⟩
        exact (if_neg (by exact Bool.false_ne_true)).mpr (rfl : undef = undef)
      · refine ⟨fun v w hv => by (have hv' : v = .bool false := hv); subst hv'; exact (if_neg (by exact Bool.false_ne_true)).mpr (fun h => by cases h), fun ρ w1 hr hd => ?_⟩
        exact (if_neg (by exact Bool.false_ne_true)).mpr (rfl : undef = undef)
      · refine ⟨fun v w hv => by (have hv' : v = .bool false := hv); subst hv'; exact (if_neg (by exact Bool.false_ne_true)).mpr (fun h => by cases h), fun ρ w1 hr hd => ?_⟩
        exact (if_neg (by exact Bool.false_ne_true)).mpr (rfl : undef = undef)
      · refine ⟨fun v w hv => by (have hv' : v = .bool false := hv); subst hv'; exact (if_neg (by exact Bool.false_ne_true)).mpr (fun h => by cases h), fun ρ w1 hr hd => ?_⟩
        exact (if_neg (by exact Bool.false_ne_true)).mpr (rfl : undef = undef)
      · refine ⟨rfl, fun ρ w1 hr hd => ?_⟩
        obtain ⟨d0, d1, d2, _⟩ := hd
        have d0 : ρ (.tmp 23) = .bool false := d0
        have d1 : ρ (.tmp 33) = undef := d1
        have d2 : ρ (.const (Value.bool false)) = (Value.bool false) := d2
        refine (if_pos (by rfl)).mpr ?_
        refine Og.gives_is (.bool false) ?_ (And.intro (Below.refl _ _) rfl)
        go_simp
    · intro vs w1 hbz hall
      have e0 : vs 0 = .int .i64 (k : Int) := hall 0 _ 21 rfl rfl
      have e1 : vs 1 = .bool false := hall 1 _ 22 rfl rfl
      have e2 : vs 2 = .bool false := hall 2 _ 23 rfl rfl
      have e3 : vs 3 = undef := hall 3 _ 24 rfl rfl
      have e4 : vs 4 = undef := hall 4 _ 25 rfl rfl
      have e5 : vs 5 = undef := hall 5 _ 26 rfl rfl
      have e6 : vs 6 = undef := hall 6 _ 27 rfl rfl
      have e7 : vs 7 = undef := hall 7 _ 28 rfl rfl
      have e8 : vs 8 = undef := hall 8 _ 29 rfl rfl
      have e9 : vs 9 = undef := hall 9 _ 30 rfl rfl
      have e10 : vs 10 = undef := hall 10 _ 31 rfl rfl
      have e11 : vs 11 = undef := hall 11 _ 32 rfl rfl
      have e12 : vs 12 = undef := hall 12 _ 33 rfl rfl
      have e13 : vs 13 = .bool false := hall 13 _ 34 rfl rfl
      have HBZ := Lib.hid hbz
      simp only [Og.putAll, Act.put, List.setIfInBounds_toArray, List.set_cons_zero, List.set_cons_succ, Nat.zero_add, Nat.reduceAdd, e0, e1, e2, e3, e4, e5, e6, e7, e8, e9, e10, e11, e12, e13]
      clear hall hbz
      have P3 := Lib.hid (P2.out.kp HBZ.out)
      obtain ⟨gb, hgb⟩ : ∃ gb, gb = w1.heap.size := ⟨_, rfl⟩
      obtain ⟨W5, hW5⟩ : ∃ W5, W5 = w1.alloc (.cells #[] 30) := ⟨_, rfl⟩
      have P5 := Lib.hid (show Ln.PB w W5 b s ways a c l e by rw [hW5]; exact P3.out.kp ((Below.refl _ _).alloc (Nat.le_refl _) _))
      have G5 := Lib.hid (show W5.heap[gb]? = some (.cells #[] 30 (0, 0)) by rw [hW5, hgb]; exact heap_alloc_new _ _)
      have hgb2 : b + 2 < gb := by rw [hgb]; exact P3.out.lt
      have HW5 := Lib.hid hW5; have HGB := Lib.hid hgb
      have c3 := P5.out.rb.c2
      clear hgb hW5 e0 e1 e8 e9
      go_wp2_with (first
        | ((with_reducible show wpList _ _ _ (Oper.mk (some 37) _ _ _ _ _ :: _) _ _); rw [← HW5.out, ← HGB.out])
        | ((with_reducible show wpList _ _ _ (Oper.mk (some 39) _ _ _ _ _ :: _) _ _); refine Ln.Stop.out ?_))
      refine ⟨?_⟩
      refine Ln.wpList_copy rfl (.tmp 36) (.tmp 38) rfl w.heap.size gb (by rw [← Hb.out]; omega) G5.out rfl P5.out.rb.rinB.ls (by omega) P5.out.rb.rin.nil rfl ?_
      intro a7 c7 W6 ho6 hg6 hl6
      have P6 := Lib.hid (P5.out.grown hg6 (fun k hk => by cases hk; exact hgb2))
      have O6 := Lib.hid ho6; have L6 := Lib.hid hl6
      clear ho6 hg6 hl6 c3
      obtain ⟨g7, cur, ea7, hb7, hfit7, hS7, ho7⟩ := Ln.own_set O6.out P6.out.rb.rin.ls.ok hkl HOK.out
      subst ea7
      obtain ⟨W7, hW7⟩ : ∃ W7, W7 = W6.setRow g7 (cur.toList.take (k * 18) ++ Ln.cells e ++ cur.toList.drop (k * 18 + (Ln.cells e).length)).toArray := ⟨_, rfl⟩
      rw [← hW7] at hS7 ho7
      have P7 := Lib.hid (P6.out.grown (Ln.grown_set1 hS7) (fun j hj => by cases hj; have := L6.out g7 rfl; omega))
      have HB7 := Lib.hid hb7; have HF7 := Lib.hid hfit7; have HW7 := Lib.hid hW7
      have O7 := Lib.hid (show W7.ownsRow w.heap.size 30 18 (.slice (some ⟨g7, 0, none⟩) (l.set k e).length c7) (l.set k e).length (Ln.flat (l.set k e)) by rw [List.length_set]; exact ho7)
      have HE2 := HE; have HL2 := HL
      clear hW7 hS7 ho7 hb7 hfit7
      go_wp2_with (first
        | ((with_reducible show wpList _ _ _ (Oper.mk (some 44) _ _ _ _ _ :: _) _ _); refine wpList_load_row rfl 30 (.tmp 3) rfl (b + 1) rfl 30 (Ln.cells e).toArray (0, 0) _ P6.out.line Try.underlying30 rfl (by rw [HOK.out.size]; exact Ln.size_line) ?_)
        | ((with_reducible show wpList _ _ _ (Oper.mk none (Op.store 30 _ _) _ _ _ _ :: _) _ _); refine wpList_store_at rfl 30 (.tmp 45) (.tmp 44) rfl g7 (k * 18) (Ln.cells e) rfl rfl 30 cur HB7.out (by rw [HOK.out.len]; exact Ln.size_line) HF7.out (Ln.cells_one e) ?_; rw [← HW7.out])
        | ((with_reducible show wpList _ _ _ (Oper.mk (some 51) _ _ _ _ _ :: _) _ _); refine Ln.Stop.out ?_))
      refine ⟨?_⟩
      have c5 := P7.out.rb.c2
      have c6 := Ln.free_row (i := 2) P7.out.rb.row
      obtain ⟨W8, hW8⟩ : ∃ W8, W8 = W7.setCell ⟨b, 2, none⟩ (.slice (some ⟨g7, 0, none⟩) l.length c7) := ⟨_, rfl⟩
      have F8 := Lib.hid (show Ln.PFin w W8 b s ways (some ⟨g7, 0, none⟩) c7 (l.set k e) by rw [hW8, show l.length = (l.set k e).length by rw [List.length_set]]; exact P7.out.fin O7.out)
      have HW8 := Lib.hid hW8
      clear hW8
      go_wp2_with (first
        | ((with_reducible show wpList _ _ _ (Oper.mk (some 52) _ _ _ _ _ :: _) _ _); rw [← HW8.out]; refine wpList_load_row rfl 46 (.tmp 2) rfl b rfl 46 _ (0, 0) _ F8.out.row Try.underlying46 rfl (by kernel_rfl) ?_)
        | ((with_reducible show wpList _ _ _ (Oper.mk none (Op.store 46 _ _) _ _ _ _ :: _) _ _); refine wpList_store_own rfl 46 (.tmp 4) (.tmp 52) rfl (b + 2) #[.int .i64 (s : Int), .int .i64 (ways : Int), .slice (some ⟨g7, 0, none⟩) (l.set k e).length c7] rfl rfl 46 _ F8.out.zero (by kernel_rfl) rfl (by kernel_rfl) ?_
           intro W9 HW9
           have R9 := Lib.hid HW9.row
           have B9 := Lib.hid (show Below w.heap.size w W9 from F8.out.bel.trans (HW9.below.mono (by rw [Hb.out]; omega)))
           have O9 := Lib.hid (Ln.row_kept F8.out.own (fun j hj => HW9.block j (fun e => by subst e; exact Ln.own_ne F8.out.own F8.out.zero (by decide) hj)))
           clear HW9))
      refine bodyPost_ret (Ln.res2 (fn := Try.f28) rfl _ _ (b + 2) 46 _ (0, 0) _ rfl R9.out Try.underlying46 rfl (by kernel_rfl)) rfl ⟨⟨(some ⟨g7, 0, none⟩), c7, ?_, .inr ?_⟩, B9.out⟩
      · rw [HE2.out, HL2.out]; rfl
      · rw [HL2.out]; exact O9.out
  · have HE := Lib.hid (show ∀ (hf : ways ≤ (Ln.ofL l s i).length), Ln.putRE s ways l e = 200 from fun hf => by unfold Ln.putRE; rw [HH.out, if_pos rfl, if_neg h0, HI.out, if_pos hf])
    have hix := (Ln.ix_none (by omega : Ln.ix l e.n 0 < 0)).1
    have KF2 := Lib.hid (fun W hW => hix ▸ KF.out W hW)
    have H0 := Lib.hid h0
    clear h0 KF hix
    go_enter Try.func28, Try.ntmps28
    go_wp2_with (first
      | ((with_reducible show wpList _ _ _ (Oper.mk (some 8) _ _ _ _ _ :: _) _ _); rw [← HB.out, ← Hb.out])
      | ((with_reducible show wpList _ _ _ (Oper.mk (some 17) _ _ _ _ _ :: _) _ _); refine wpList_load_row rfl 46 (.tmp 2) rfl b rfl 46 _ (0, 0) _ P0.out.rb.row Try.underlying46 rfl (by kernel_rfl) ?_)
      | (go_at_call 25; (with_reducible refine (KF2.out B P0.out.rb.rinB).mono ?_); rintro e' W2 ⟨rfl, hb2⟩
         have P2 := Lib.hid (P0.out.kp hb2)
         clear hb2))
    have RB := Lib.hid P2.out.rb
    have e0 : W2.cell? ⟨b + 1, 0, none⟩ = some (.int .u32 e.n) := by rw [cell_of_row _ _ _ _ _ _ P2.out.line]; rfl
    have e1 := P2.out.rb.c1
    by_cases hfull : ways ≤ (Ln.ofL l s i).length
    · have HFU := Lib.hid hfull
      have HFB := Lib.hid (show (ways : Int) ≤ ((Ln.ofL l s i).length : Int) by omega)
      refine Og.region3 (by kernel_rfl) (fun t => ([(21, 0), (22, 1), (23, 2), (24, 3), (25, 4), (26, 5), (27, 6), (28, 7), (29, 8), (30, 9), (31, 10), (32, 11), (33, 12), (34, 13)] : List (Nat × Nat)).lookup t) [.is (.int .i64 (-1)), .is (.bool true), .is (.bool true), .is (.agg #[.int .i64 (s : Int), .int .i64 (ways : Int), .slice a l.length c]), .is (.agg #[.int .i64 (s : Int), .int .i64 (ways : Int), .slice a l.length c]), .is (.pointer (some ⟨b + 1, 0, none⟩)), .is (.int .u32 e.n), .is (.int .i64 (i : Int)), .says (fun v w => ∃ a' c', v = .slice a' (Ln.ofL l s i).length c'), .is (.int .i64 ((Ln.ofL l s i).length : Int)), .is (.pointer (some ⟨b, 1, none⟩)), .is (.int .i64 (ways : Int)), .is (.bool true), .is (.bool true)] [true, true, true, true, true, true, true, true, true, true, true, true, true, true] (by kernel_rfl) ?_ ?_
      · refine ⟨?_, ?_, ?_, ?_, ?_, ?_, ?_, ?_, ?_, ?_, ?_, ?_, ?_, ?_, trivial⟩
        · refine ⟨rfl, fun ρ w1 hr hd => ?_⟩
          obtain ⟨d0, _⟩ := hd
          have d0 : ρ (.tmp 6) = .int .i64 (-1) := d0
          refine (if_pos (by rfl)).mpr ?_
          refine Og.gives_is (.int .i64 (-1)) ?_ (And.intro (Below.refl _ _) rfl)
          go_simp
        · refine ⟨rfl, fun ρ w1 hr hd => ?_⟩
          obtain ⟨d0, d1, _⟩ := hd
          have d0 : ρ (.tmp 21) = .int .i64 (-1) := d0
          have d1 : ρ (.const (.int .i64 0)) = (.int .i64 0) := d1
          refine (if_pos (by rfl)).mpr ?_
          refine Og.gives_is (.bool true) ?_ (And.intro (Below.refl _ _) rfl)
          simp only [execOp, d0]; go_simp; try simp; try omega
        · refine ⟨rfl, fun ρ w1 hr hd => ?_⟩
          obtain ⟨d0, _⟩ := hd
          have d0 : ρ (.tmp 22) = .bool true := d0
          refine (if_pos (by rfl)).mpr ?_
          refine Og.gives_is (.bool true) ?_ (And.intro (Below.refl _ _) rfl)
          go_simp
        · refine ⟨fun v w hv => by (have hv' : v = .bool true := hv); subst hv'; exact (if_pos rfl).mpr rfl, fun ρ w1 hr hd => ?_⟩
          obtain ⟨d0, _⟩ := hd
          have d0 : ρ (.tmp 2) = .pointer (some ⟨b, 0, none⟩) := d0
          refine (if_pos (by rfl)).mpr ?_
          refine Og.gives_is (.agg #[.int .i64 (s : Int), .int .i64 (ways : Int), .slice a l.length c]) ?_ (And.intro (Below.refl _ _) rfl)
          exact Og.load_run 46 (.tmp 2) rfl ⟨b, 0, none⟩ d0 (run_loadVar_row w1 b 46 46 _ (0, 0) _ ((hr.block b (Array.getElem?_eq_some_iff.1 RB.out.row).1).trans RB.out.row) Try.underlying46 rfl (by kernel_rfl))
        · refine ⟨fun v w hv => by (have hv' : v = .bool true := hv); subst hv'; exact (if_pos rfl).mpr rfl, fun ρ w1 hr hd => ?_⟩
          obtain ⟨d0, _⟩ := hd
          have d0 : ρ (.tmp 2) = .pointer (some ⟨b, 0, none⟩) := d0
          refine (if_pos (by rfl)).mpr ?_
          refine Og.gives_is (.agg #[.int .i64 (s : Int), .int .i64 (ways : Int), .slice a l.length c]) ?_ (And.intro (Below.refl _ _) rfl)
          exact Og.load_run 46 (.tmp 2) rfl ⟨b, 0, none⟩ d0 (run_loadVar_row w1 b 46 46 _ (0, 0) _ ((hr.block b (Array.getElem?_eq_some_iff.1 RB.out.row).1).trans RB.out.row) Try.underlying46 rfl (by kernel_rfl))
        · refine ⟨fun v w hv => by (have hv' : v = .bool true := hv); subst hv'; exact (if_pos rfl).mpr rfl, fun ρ w1 hr hd => ?_⟩
          obtain ⟨d0, _⟩ := hd
          have d0 : ρ (.tmp 3) = .pointer (some ⟨b + 1, 0, none⟩) := d0
          refine (if_pos (by rfl)).mpr ?_
          refine Og.gives_is (.pointer (some ⟨b + 1, 0, none⟩)) ?_ (And.intro (Below.refl _ _) rfl)
          go_simp
        · refine ⟨fun v w hv => by (have hv' : v = .bool true := hv); subst hv'; exact (if_pos rfl).mpr rfl, fun ρ w1 hr hd => ?_⟩
          obtain ⟨d0, _⟩ := hd
          have d0 : ρ (.tmp 26) = .pointer (some ⟨b + 1, 0, none⟩) := d0
          refine (if_pos (by rfl)).mpr ?_
          have hc : w1.cell? ⟨b + 1, 0, none⟩ = some (.int .u32 e.n) := Ev.kp_below hr _ _ e0
          refine Og.gives_is (.int .u32 e.n) ?_ (And.intro (Below.refl _ _) rfl)
          go_simp
        · refine ⟨fun v w hv => by (have hv' : v = .bool true := hv); subst hv'; exact (if_pos rfl).mpr rfl, fun ρ w1 hr hd => ?_⟩
          obtain ⟨d0, d1, d2, _⟩ := hd
          have d0 : ρ (.func 42) = .func (.func 42) #[] #[] := d0
          have d1 : ρ (.tmp 25) = .agg #[.int .i64 (s : Int), .int .i64 (ways : Int), .slice a l.length c] := d1
          have d2 : ρ (.tmp 27) = .int .u32 e.n := d2
          refine (if_pos (by rfl)).mpr ?_
          refine Og.gives_call 42 #[.agg #[.int .i64 (s : Int), .int .i64 (ways : Int), .slice a l.length c], .int .u32 e.n] ?_ ?_
          · go_simp
          · refine (KS.out w1 (RB.out.rinB.kp (Ev.kp_below hr))).mono ?_
            rintro e' w3 ⟨rfl, hb⟩
            exact ⟨_, rfl, hb, rfl⟩
        · refine ⟨fun v w hv => by (have hv' : v = .bool true := hv); subst hv'; exact (if_pos rfl).mpr rfl, fun ρ w1 hr hd => ?_⟩
          obtain ⟨d0, d1, d2, _⟩ := hd
          have d0 : ρ (.func 41) = .func (.func 41) #[] #[] := d0
          have d1 : ρ (.tmp 24) = .agg #[.int .i64 (s : Int), .int .i64 (ways : Int), .slice a l.length c] := d1
          have d2 : ρ (.tmp 28) = .int .i64 (i : Int) := d2
          refine (if_pos (by rfl)).mpr ?_
          refine Og.gives_call 41 #[.agg #[.int .i64 (s : Int), .int .i64 (ways : Int), .slice a l.length c], .int .i64 (i : Int)] ?_ ?_
          · go_simp
          · refine (KO.out w1 (RB.out.rinB.kp (Ev.kp_below hr))).mono ?_
            rintro e' w3 ⟨a', c', rfl, _, hb⟩
            exact ⟨_, rfl, hb, w3, Below.refl _ _, a', c', rfl⟩
        · refine ⟨fun v w hv => by (have hv' : v = .bool true := hv); subst hv'; exact (if_pos rfl).mpr rfl, fun ρ w1 hr hd => ?_⟩
          obtain ⟨d0, _⟩ := hd
          have d0 : ∃ w1', Below w1'.heap.size w1' w1 ∧ (fun v w => ∃ a' c', v = .slice a' (Ln.ofL l s i).length c') (ρ (.tmp 29)) w1' := d0
          obtain ⟨v0, hv0⟩ : ∃ v, ρ (.tmp 29) = v := ⟨_, rfl⟩
          rw [hv0] at d0
          refine (if_pos (by rfl)).mpr ?_
          obtain ⟨_, _, a', c', hv⟩ := d0
          subst hv
          refine Og.gives_is (.int .i64 ((Ln.ofL l s i).length : Int)) ?_ (And.intro (Below.refl _ _) rfl)
          go_simp
        · refine ⟨fun v w hv => by (have hv' : v = .bool true := hv); subst hv'; exact (if_pos rfl).mpr rfl, fun ρ w1 hr hd => ?_⟩
          obtain ⟨d0, _⟩ := hd
          have d0 : ρ (.tmp 2) = .pointer (some ⟨b, 0, none⟩) := d0
          refine (if_pos (by rfl)).mpr ?_
          refine Og.gives_is (.pointer (some ⟨b, 1, none⟩)) ?_ (And.intro (Below.refl _ _) rfl)
          go_simp
        · refine ⟨fun v w hv => by (have hv' : v = .bool true := hv); subst hv'; exact (if_pos rfl).mpr rfl, fun ρ w1 hr hd => ?_⟩
          obtain ⟨d0, _⟩ := hd
          have d0 : ρ (.tmp 31) = .pointer (some ⟨b, 1, none⟩) := d0
          refine (if_pos (by rfl)).mpr ?_
          have hc : w1.cell? ⟨b, 1, none⟩ = some (.int .i64 (ways : Int)) := Ev.kp_below hr _ _ e1
          refine Og.gives_is (.int .i64 (ways : Int)) ?_ (And.intro (Below.refl _ _) rfl)
          go_simp
        · refine ⟨fun v w hv => by (have hv' : v = .bool true := hv); subst hv'; exact (if_pos rfl).mpr rfl, fun ρ w1 hr hd => ?_⟩
          obtain ⟨d0, d1, _⟩ := hd
          have d0 : ρ (.tmp 30) = .int .i64 ((Ln.ofL l s i).length : Int) := d0
          have d1 : ρ (.tmp 32) = .int .i64 (ways : Int) := d1
          refine (if_pos (by rfl)).mpr ?_
          refine Og.gives_is (.bool true) ?_ (And.intro (Below.refl _ _) rfl)
          simp only [execOp, d0, d1]; go_simp; try simp [HFB.out]
        · refine ⟨rfl, fun ρ w1 hr hd => ?_⟩
          obtain ⟨d0, d1, d2, _⟩ := hd
          have d0 : ρ (.tmp 23) = .bool true := d0
          have d1 : ρ (.tmp 33) = .bool true := d1
          have d2 : ρ (.const (Value.bool false)) = (Value.bool false) := d2
          refine (if_pos (by rfl)).mpr ?_
          refine Og.gives_is (.bool true) ?_ (And.intro (Below.refl _ _) rfl)
          go_simp
      · intro vs w1 hbz hall
        have e0 : vs 0 = .int .i64 (-1) := hall 0 _ 21 rfl rfl
        have e1 : vs 1 = .bool true := hall 1 _ 22 rfl rfl
        have e2 : vs 2 = .bool true := hall 2 _ 23 rfl rfl
        have e3 : vs 3 = .agg #[.int .i64 (s : Int), .int .i64 (ways : Int), .slice a l.length c] := hall 3 _ 24 rfl rfl
        have e4 : vs 4 = .agg #[.int .i64 (s : Int), .int .i64 (ways : Int), .slice a l.length c] := hall 4 _ 25 rfl rfl
        have e5 : vs 5 = .pointer (some ⟨b + 1, 0, none⟩) := hall 5 _ 26 rfl rfl
        have e6 : vs 6 = .int .u32 e.n := hall 6 _ 27 rfl rfl
        have e7 : vs 7 = .int .i64 (i : Int) := hall 7 _ 28 rfl rfl
        have h8 : ∃ w1', Below w1'.heap.size w1' w1 ∧ (fun v w => ∃ a' c', v = .slice a' (Ln.ofL l s i).length c') (vs 8) w1' := hall 8 _ 29 rfl rfl
        obtain ⟨wz8, hz8, p8⟩ := h8
        have e9 : vs 9 = .int .i64 ((Ln.ofL l s i).length : Int) := hall 9 _ 30 rfl rfl
        have e10 : vs 10 = .pointer (some ⟨b, 1, none⟩) := hall 10 _ 31 rfl rfl
        have e11 : vs 11 = .int .i64 (ways : Int) := hall 11 _ 32 rfl rfl
        have e12 : vs 12 = .bool true := hall 12 _ 33 rfl rfl
        have e13 : vs 13 = .bool true := hall 13 _ 34 rfl rfl
        have HBZ := Lib.hid hbz
        simp only [Og.putAll, Act.put, List.setIfInBounds_toArray, List.set_cons_zero, List.set_cons_succ, Nat.zero_add, Nat.reduceAdd, e0, e1, e2, e3, e4, e5, e6, e7, e9, e10, e11, e12, e13]
        clear hall hbz
        have P3 := Lib.hid (P2.out.kp HBZ.out)
        have HE2 := Lib.hid (HE.out HFU.out)
        have HL2 := Lib.hid (show Ln.putRL s ways l e = l by unfold Ln.putRL; rw [HH.out, if_pos rfl, if_neg (by have := H0.out; omega), HI.out, if_pos HFU.out])
        clear e0 e1 e8 e9
        go_wp2_with (first
          | ((with_reducible show wpList _ _ _ (Oper.mk (some 35) _ _ _ _ _ :: _) _ _); refine wpList_load_row rfl 46 (.tmp 2) rfl b rfl 46 _ (0, 0) _ P3.out.rb.row Try.underlying46 rfl (by kernel_rfl) ?_)
          | ((with_reducible show wpList _ _ _ (Oper.mk none (Op.store 46 _ _) _ _ _ _ :: _) _ _); refine wpList_store_own rfl 46 (.tmp 4) (.tmp 35) rfl (b + 2) #[.int .i64 (s : Int), .int .i64 (ways : Int), .slice a l.length c] rfl rfl 46 _ P3.out.zero (by kernel_rfl) rfl (by kernel_rfl) ?_
             intro W9 HW9
             have R9 := Lib.hid HW9.row
             have B9 := Lib.hid (show Below w.heap.size w W9 from P3.out.rb.bel.trans (HW9.below.mono (by rw [Hb.out]; omega)))
             clear HW9))
        refine bodyPost_ret (Ln.res2 (fn := Try.f28) rfl _ _ (b + 2) 46 _ (0, 0) _ rfl R9.out Try.underlying46 rfl (by kernel_rfl)) rfl ⟨⟨a, c, ?_, .inl ⟨rfl, rfl, HL2.out⟩⟩, B9.out⟩
        rw [HE2.out, HL2.out]; rfl
    · have HFU := Lib.hid hfull
      have HFB := Lib.hid (show ¬ (ways : Int) ≤ ((Ln.ofL l s i).length : Int) by omega)
      refine Og.region3 (by kernel_rfl) (fun t => ([(21, 0), (22, 1), (23, 2), (24, 3), (25, 4), (26, 5), (27, 6), (28, 7), (29, 8), (30, 9), (31, 10), (32, 11), (33, 12), (34, 13)] : List (Nat × Nat)).lookup t) [.is (.int .i64 (-1)), .is (.bool true), .is (.bool true), .is (.agg #[.int .i64 (s : Int), .int .i64 (ways : Int), .slice a l.length c]), .is (.agg #[.int .i64 (s : Int), .int .i64 (ways : Int), .slice a l.length c]), .is (.pointer (some ⟨b + 1, 0, none⟩)), .is (.int .u32 e.n), .is (.int .i64 (i : Int)), .says (fun v w => ∃ a' c', v = .slice a' (Ln.ofL l s i).length c'), .is (.int .i64 ((Ln.ofL l s i).length : Int)), .is (.pointer (some ⟨b, 1, none⟩)), .is (.int .i64 (ways : Int)), .is (.bool false), .is (.bool false)] [true, true, true, true, true, true, true, true, true, true, true, true, true, true] (by kernel_rfl) ?_ ?_
      · refine ⟨?_, ?_, ?_, ?_, ?_, ?_, ?_, ?_, ?_, ?_, ?_, ?_, ?_, ?_, trivial⟩
        · refine ⟨rfl, fun ρ w1 hr hd => ?_⟩
          obtain ⟨d0, _⟩ := hd
          have d0 : ρ (.tmp 6) = .int .i64 (-1) := d0
          refine (if_pos (by rfl)).mpr ?_
          refine Og.gives_is (.int .i64 (-1)) ?_ (And.intro (Below.refl _ _) rfl)
          go_simp
        · refine ⟨rfl, fun ρ w1 hr hd => ?_⟩
          obtain ⟨d0, d1, _⟩ := hd
          have d0 : ρ (.tmp 21) = .int .i64 (-1) := d0
          have d1 : ρ (.const (.int .i64 0)) = (.int .i64 0) := d1
          refine (if_pos (by rfl)).mpr ?_
          refine Og.gives_is (.bool true) ?_ (And.intro (Below.refl _ _) rfl)
          simp only [execOp, d0]; go_simp; try simp; try omega
        · refine ⟨rfl, fun ρ w1 hr hd => ?_⟩
          obtain ⟨d0, _⟩ := hd
          have d0 : ρ (.tmp 22) = .bool true := d0
          refine (if_pos (by rfl)).mpr ?_
          refine Og.gives_is (.bool true) ?_ (And.intro (Below.refl _ _) rfl)
          go_simp
        · refine ⟨fun v w hv => by (have hv' : v = .bool true := hv); subst hv'; exact (if_pos rfl).mpr rfl, fun ρ w1 hr hd => ?_⟩
          obtain ⟨d0, _⟩ := hd
          have d0 : ρ (.tmp 2) = .pointer (some ⟨b, 0, none⟩) := d0
          refine (if_pos (by rfl)).mpr ?_
          refine Og.gives_is (.agg #[.int .i64 (s : Int), .int .i64 (ways : Int), .slice a l.length c]) ?_ (And.intro (Below.refl _ _) rfl)
          exact Og.load_run 46 (.tmp 2) rfl ⟨b, 0, none⟩ d0 (run_loadVar_row w1 b 46 46 _ (0, 0) _ ((hr.block b (Array.getElem?_eq_some_iff.1 RB.out.row).1).trans RB.out.row) Try.underlying46 rfl (by kernel_rfl))
        · refine ⟨fun v w hv => by (have hv' : v = .bool true := hv); subst hv'; exact (if_pos rfl).mpr rfl, fun ρ w1 hr hd => ?_⟩
          obtain ⟨d0, _⟩ := hd
          have d0 : ρ (.tmp 2) = .pointer (some ⟨b, 0, none⟩) := d0
          refine (if_pos (by rfl)).mpr ?_
          refine Og.gives_is (.agg #[.int .i64 (s : Int), .int .i64 (ways : Int), .slice a l.length c]) ?_ (And.intro (Below.refl _ _) rfl)
          exact Og.load_run 46 (.tmp 2) rfl ⟨b, 0, none⟩ d0 (run_loadVar_row w1 b 46 46 _ (0, 0) _ ((hr.block b (Array.getElem?_eq_some_iff.1 RB.out.row).1).trans RB.out.row) Try.underlying46 rfl (by kernel_rfl))
        · refine ⟨fun v w hv => by (have hv' : v = .bool true := hv); subst hv'; exact (if_pos rfl).mpr rfl, fun ρ w1 hr hd => ?_⟩
          obtain ⟨d0, _⟩ := hd
          have d0 : ρ (.tmp 3) = .pointer (some ⟨b + 1, 0, none⟩) := d0
          refine (if_pos (by rfl)).mpr ?_
          refine Og.gives_is (.pointer (some ⟨b + 1, 0, none⟩)) ?_ (And.intro (Below.refl _ _) rfl)
          go_simp
        · refine ⟨fun v w hv => by (have hv' : v = .bool true := hv); subst hv'; exact (if_pos rfl).mpr rfl, fun ρ w1 hr hd => ?_⟩
          obtain ⟨d0, _⟩ := hd
          have d0 : ρ (.tmp 26) = .pointer (some ⟨b + 1, 0, none⟩) := d0
          refine (if_pos (by rfl)).mpr ?_
          have hc : w1.cell? ⟨b + 1, 0, none⟩ = some (.int .u32 e.n) := Ev.kp_below hr _ _ e0
          refine Og.gives_is (.int .u32 e.n) ?_ (And.intro (Below.refl _ _) rfl)
          go_simp
        · refine ⟨fun v w hv => by (have hv' : v = .bool true := hv); subst hv'; exact (if_pos rfl).mpr rfl, fun ρ w1 hr hd => ?_⟩
          obtain ⟨d0, d1, d2, _⟩ := hd
          have d0 : ρ (.func 42) = .func (.func 42) #[] #[] := d0
          have d1 : ρ (.tmp 25) = .agg #[.int .i64 (s : Int), .int .i64 (ways : Int), .slice a l.length c] := d1
          have d2 : ρ (.tmp 27) = .int .u32 e.n := d2
          refine (if_pos (by rfl)).mpr ?_
          refine Og.gives_call 42 #[.agg #[.int .i64 (s : Int), .int .i64 (ways : Int), .slice a l.length c], .int .u32 e.n] ?_ ?_
          · go_simp
          · refine (KS.out w1 (RB.out.rinB.kp (Ev.kp_below hr))).mono ?_
            rintro e' w3 ⟨rfl, hb⟩
            exact ⟨_, rfl, hb, rfl⟩
        · refine ⟨fun v w hv => by (have hv' : v = .bool true := hv); subst hv'; exact (if_pos rfl).mpr rfl, fun ρ w1 hr hd => ?_⟩
          obtain ⟨d0, d1, d2, _⟩ := hd
          have d0 : ρ (.func 41) = .func (.func 41) #[] #[] := d0
          have d1 : ρ (.tmp 24) = .agg #[.int .i64 (s : Int), .int .i64 (ways : Int), .slice a l.length c] := d1
          have d2 : ρ (.tmp 28) = .int .i64 (i : Int) := d2
          refine (if_pos (by rfl)).mpr ?_
          refine Og.gives_call 41 #[.agg #[.int .i64 (s : Int), .int .i64 (ways : Int), .slice a l.length c], .int .i64 (i : Int)] ?_ ?_
          · go_simp
          · refine (KO.out w1 (RB.out.rinB.kp (Ev.kp_below hr))).mono ?_
            rintro e' w3 ⟨a', c', rfl, _, hb⟩
            exact ⟨_, rfl, hb, w3, Below.refl _ _, a', c', rfl⟩
        · refine ⟨fun v w hv => by (have hv' : v = .bool true := hv); subst hv'; exact (if_pos rfl).mpr rfl, fun ρ w1 hr hd => ?_⟩
          obtain ⟨d0, _⟩ := hd
          have d0 : ∃ w1', Below w1'.heap.size w1' w1 ∧ (fun v w => ∃ a' c', v = .slice a' (Ln.ofL l s i).length c') (ρ (.tmp 29)) w1' := d0
          obtain ⟨v0, hv0⟩ : ∃ v, ρ (.tmp 29) = v := ⟨_, rfl⟩
          rw [hv0] at d0
          refine (if_pos (by rfl)).mpr ?_
          obtain ⟨_, _, a', c', hv⟩ := d0
          subst hv
          refine Og.gives_is (.int .i64 ((Ln.ofL l s i).length : Int)) ?_ (And.intro (Below.refl _ _) rfl)
          go_simp
        · refine ⟨fun v w hv => by (have hv' : v = .bool true := hv); subst hv'; exact (if_pos rfl).mpr rfl, fun ρ w1 hr hd => ?_⟩
          obtain ⟨d0, _⟩ := hd
          have d0 : ρ (.tmp 2) = .pointer (some ⟨b, 0, none⟩) := d0
          refine (if_pos (by rfl)).mpr ?_
          refine Og.gives_is (.pointer (some ⟨b, 1, none⟩)) ?_ (And.intro (Below.refl _ _) rfl)
          go_simp
        · refine ⟨fun v w hv => by (have hv' : v = .bool true := hv); subst hv'; exact (if_pos rfl).mpr rfl, fun ρ w1 hr hd => ?_⟩
          obtain ⟨d0, _⟩ := hd
          have d0 : ρ (.tmp 31) = .pointer (some ⟨b, 1, none⟩) := d0
          refine (if_pos (by rfl)).mpr ?_
          have hc : w1.cell? ⟨b, 1, none⟩ = some (.int .i64 (ways : Int)) := Ev.kp_below hr _ _ e1
          refine Og.gives_is (.int .i64 (ways : Int)) ?_ (And.intro (Below.refl _ _) rfl)
          go_simp
        · refine ⟨fun v w hv => by (have hv' : v = .bool true := hv); subst hv'; exact (if_pos rfl).mpr rfl, fun ρ w1 hr hd => ?_⟩
          obtain ⟨d0, d1, _⟩ := hd
          have d0 : ρ (.tmp 30) = .int .i64 ((Ln.ofL l s i).length : Int) := d0
          have d1 : ρ (.tmp 32) = .int .i64 (ways : Int) := d1
          refine (if_pos (by rfl)).mpr ?_
          refine Og.gives_is (.bool false) ?_ (And.intro (Below.refl _ _) rfl)
          simp only [execOp, d0, d1]; go_simp; try simp [HFB.out]
        · refine ⟨rfl, fun ρ w1 hr hd => ?_⟩
          obtain ⟨d0, d1, d2, _⟩ := hd
          have d0 : ρ (.tmp 23) = .bool true := d0
          have d1 : ρ (.tmp 33) = .bool false := d1
          have d2 : ρ (.const (Value.bool false)) = (Value.bool false) := d2
          refine (if_pos (by rfl)).mpr ?_
          refine Og.gives_is (.bool false) ?_ (And.intro (Below.refl _ _) rfl)
          go_simp
      · intro vs w1 hbz hall
        have e0 : vs 0 = .int .i64 (-1) := hall 0 _ 21 rfl rfl
        have e1 : vs 1 = .bool true := hall 1 _ 22 rfl rfl
        have e2 : vs 2 = .bool true := hall 2 _ 23 rfl rfl
        have e3 : vs 3 = .agg #[.int .i64 (s : Int), .int .i64 (ways : Int), .slice a l.length c] := hall 3 _ 24 rfl rfl
        have e4 : vs 4 = .agg #[.int .i64 (s : Int), .int .i64 (ways : Int), .slice a l.length c] := hall 4 _ 25 rfl rfl
        have e5 : vs 5 = .pointer (some ⟨b + 1, 0, none⟩) := hall 5 _ 26 rfl rfl
        have e6 : vs 6 = .int .u32 e.n := hall 6 _ 27 rfl rfl
        have e7 : vs 7 = .int .i64 (i : Int) := hall 7 _ 28 rfl rfl
        have h8 : ∃ w1', Below w1'.heap.size w1' w1 ∧ (fun v w => ∃ a' c', v = .slice a' (Ln.ofL l s i).length c') (vs 8) w1' := hall 8 _ 29 rfl rfl
        obtain ⟨wz8, hz8, p8⟩ := h8
        have e9 : vs 9 = .int .i64 ((Ln.ofL l s i).length : Int) := hall 9 _ 30 rfl rfl
        have e10 : vs 10 = .pointer (some ⟨b, 1, none⟩) := hall 10 _ 31 rfl rfl
        have e11 : vs 11 = .int .i64 (ways : Int) := hall 11 _ 32 rfl rfl
        have e12 : vs 12 = .bool false := hall 12 _ 33 rfl rfl
        have e13 : vs 13 = .bool false := hall 13 _ 34 rfl rfl
        have HBZ := Lib.hid hbz
        simp only [Og.putAll, Act.put, List.setIfInBounds_toArray, List.set_cons_zero, List.set_cons_succ, Nat.zero_add, Nat.reduceAdd, e0, e1, e2, e3, e4, e5, e6, e7, e9, e10, e11, e12, e13]
        clear hall hbz
        have P3 := Lib.hid (P2.out.kp HBZ.out)
        obtain ⟨gb, hgb⟩ : ∃ gb, gb = w1.heap.size := ⟨_, rfl⟩
        obtain ⟨W5, hW5⟩ : ∃ W5, W5 = w1.alloc (.cells #[] 30) := ⟨_, rfl⟩
        have P5 := Lib.hid (show Ln.PB w W5 b s ways a c l e by rw [hW5]; exact P3.out.kp ((Below.refl _ _).alloc (Nat.le_refl _) _))
        have G5 := Lib.hid (show W5.heap[gb]? = some (.cells #[] 30 (0, 0)) by rw [hW5, hgb]; exact heap_alloc_new _ _)
        have hgb2 : b + 2 < gb := by rw [hgb]; exact P3.out.lt
        have HW5 := Lib.hid hW5; have HGB := Lib.hid hgb
        have c3 := P5.out.rb.c2
        clear hgb hW5 e0 e1 e8 e9
        go_wp2_with (first
          | ((with_reducible show wpList _ _ _ (Oper.mk (some 37) _ _ _ _ _ :: _) _ _); rw [← HW5.out, ← HGB.out])
          | ((with_reducible show wpList _ _ _ (Oper.mk (some 39) _ _ _ _ _ :: _) _ _); refine Ln.Stop.out ?_))
        refine ⟨?_⟩
        refine Ln.wpList_copy rfl (.tmp 36) (.tmp 38) rfl w.heap.size gb (by rw [← Hb.out]; omega) G5.out rfl P5.out.rb.rinB.ls (by omega) P5.out.rb.rin.nil rfl ?_
        intro a7 c7 W6 ho6 hg6 hl6
        have P6 := Lib.hid (P5.out.grown hg6 (fun k hk => by cases hk; exact hgb2))
        have O6 := Lib.hid ho6; have L6 := Lib.hid hl6
        clear ho6 hg6 hl6 c3
        obtain ⟨i0, hi0, hz0, hz1, hz2⟩ := Ln.info_line
        have HI0 := Lib.hid hi0; have HZ0 := Lib.hid hz0; have HZ1 := Lib.hid hz1; have HZ2 := Lib.hid hz2
        clear hi0 hz0 hz1 hz2
        have HE2 := Lib.hid (show Ln.putRE s ways l e = 0 by unfold Ln.putRE; rw [HH.out, if_pos rfl, if_neg (by have := H0.out; omega), HI.out, if_neg HFU.out])
        have HL2 := Lib.hid (show Ln.putRL s ways l e = l ++ [e] by unfold Ln.putRL; rw [HH.out, if_pos rfl, if_neg (by have := H0.out; omega), HI.out, if_neg HFU.out])
        go_wp2_with (first
          | ((with_reducible show wpList _ _ _ (Oper.mk (some 47) _ _ _ _ _ :: _) _ _); refine wpList_load_row rfl 30 (.tmp 3) rfl (b + 1) rfl 30 (Ln.cells e).toArray (0, 0) _ P6.out.line Try.underlying30 rfl (by rw [HOK.out.size]; exact Ln.size_line) ?_)
          | ((with_reducible show wpList _ _ _ (Oper.mk (some 48) _ _ _ _ _ :: _) _ _); refine Ln.wpList_buildLine rfl e HOK.out (.tmp 47) rfl rfl ?_)
          | ((with_reducible show wpList _ _ _ (Oper.mk (some 49) _ _ _ _ _ :: _) _ _); refine wpList_append_own (W6.alloc (.cells (Ln.cells e).toArray 30)) rfl (.tmp 46) (.tmp 48) 38 rfl w.heap.size 30 i0 (Ln.EV Ln.E0) 18 32 Try.underlying38 HI0.out HZ0.out HZ1.out HZ2.out rfl (by decide) _ _ _ rfl (O6.out.alloc _) ⟨W6.heap.size, 0, none⟩ 1 1 (Ln.cells e) rfl (by rw [HOK.out.len]) (fun j u hu => World.news_of_block (heap_alloc_new W6 _) j u hu) (Ln.cells_one _) (by unfold maxLen; omega) (by omega) (by have := P6.out.rb.bel.size; simp only [World.size_alloc]; omega) ?_
             intro v' W7 hown hgrow _
             have P7 := Lib.hid ((P6.out.kp ((Below.refl _ _).alloc (Nat.le_refl _) _)).grown hgrow (fun j hj => by have := L6.out j hj; omega))
             rw [← Ln.flat_one e, ← Ln.flat_app, show l.length + 1 = (l ++ [e]).length by simp] at hown
             obtain ⟨a9, c9, rfl⟩ := Ln.own_form hown
             have O7 := Lib.hid hown
             rw [show (l ++ [e]).length = l.length + 1 by simp]
             clear hown hgrow)
          | ((with_reducible show wpList _ _ _ (Oper.mk (some 51) _ _ _ _ _ :: _) _ _); refine Ln.Stop.out ?_))
        refine ⟨?_⟩
        have c5 := P7.out.rb.c2
        have c6 := Ln.free_row (i := 2) P7.out.rb.row
        obtain ⟨W8, hW8⟩ : ∃ W8, W8 = W7.setCell ⟨b, 2, none⟩ (.slice a9 (l.length + 1) c9) := ⟨_, rfl⟩
        have F8 := Lib.hid (show Ln.PFin w W8 b s ways a9 c9 (l ++ [e]) by rw [hW8, show l.length + 1 = (l ++ [e]).length by simp]; exact P7.out.fin O7.out)
        have HW8 := Lib.hid hW8
        clear hW8
        go_wp2_with (first
          | ((with_reducible show wpList _ _ _ (Oper.mk (some 52) _ _ _ _ _ :: _) _ _); rw [← HW8.out]; refine wpList_load_row rfl 46 (.tmp 2) rfl b rfl 46 _ (0, 0) _ F8.out.row Try.underlying46 rfl (by kernel_rfl) ?_)
          | ((with_reducible show wpList _ _ _ (Oper.mk none (Op.store 46 _ _) _ _ _ _ :: _) _ _); refine wpList_store_own rfl 46 (.tmp 4) (.tmp 52) rfl (b + 2) #[.int .i64 (s : Int), .int .i64 (ways : Int), .slice a9 (l ++ [e]).length c9] rfl (by simp only [List.length_append, List.length_cons, List.length_nil]; rfl) 46 _ F8.out.zero (by kernel_rfl) rfl (by kernel_rfl) ?_
             intro W9 HW9
             have R9 := Lib.hid HW9.row
             have B9 := Lib.hid (show Below w.heap.size w W9 from F8.out.bel.trans (HW9.below.mono (by rw [Hb.out]; omega)))
             have O9 := Lib.hid (Ln.row_kept F8.out.own (fun j hj => HW9.block j (fun e => by subst e; exact Ln.own_ne F8.out.own F8.out.zero (by decide) hj)))
             clear HW9))
        refine bodyPost_ret (Ln.res2 (fn := Try.f28) rfl _ _ (b + 2) 46 _ (0, 0) _ rfl R9.out Try.underlying46 rfl (by kernel_rfl)) rfl ⟨⟨a9, c9, ?_, .inr ?_⟩, B9.out⟩
        · rw [HE2.out, HL2.out]; rfl
        · rw [HL2.out]; exact O9.out
end Go.Proofs.Ytifniogldinbdaa
