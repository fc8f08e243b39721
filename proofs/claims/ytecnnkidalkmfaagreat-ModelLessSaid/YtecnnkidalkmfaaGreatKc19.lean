import Derived.Test.YtecnnkidalkmfaaGreatKc18
import Derived.Test.YtecnnkidalkmfaaGreatKc01
import Derived.Deep.QuietTactic
import Derived.BigQuiet
import Derived.IntWalk
import Derived.BigGuardPart
import Derived.Laws.Rows
set_option linter.unusedVariables false
set_option linter.unusedSimpArgs false

section
namespace Go.Proofs.YtecnnkidalkmfaaGreat
open Go.RowKit
attribute [local go_sem] Oper.semAt_some
namespace Or
open Ev
def R (x : X) (i a b : Nat) : Bool := match i with
  | 1 => r1 x a b
  | 2 => r2 x a b
  | 3 => r3 x a b
  | 4 => r4 x a b
  | 5 => r5 x a b
  | 6 => r6 x a b
  | 7 => r7 x a b
  | 8 => r8 x a b
  | 9 => r9 x a b
  | 10 => r10 x a b
  | 11 => r11 x a b
  | 12 => r12 x a b
  | 13 => r13 x a b
  | _ => false
def holdTo (x : X) (a b n : Nat) : List Nat := (List.range n).filter fun i => decide (1 ≤ i) && R x i a b
def hold (x : X) (a b : Nat) : List Nat := if kept x a b = true then holdTo x a b 14 else []
theorem holdTo_succ (x : X) (a b n : Nat) : holdTo x a b (n + 1) = if (decide (1 ≤ n) && R x n a b) = true then holdTo x a b n ++ [n] else holdTo x a b n := by
  unfold holdTo; rw [List.range_succ, List.filter_append]
  have e : ([n].filter fun i => decide (1 ≤ i) && R x i a b) = if (decide (1 ≤ n) && R x n a b) = true then [n] else [] := by rw [List.filter_cons]; rfl
  rw [e]
  split
  · rfl
  · simp
theorem holdTo_get {x : X} {a b i : Nat} (h : (decide (1 ≤ i) && R x i a b) = true) : ∀ n, i < n → (holdTo x a b n)[(holdTo x a b i).length]? = some i ∧ (holdTo x a b i).length < (holdTo x a b n).length
  | 0, hn => absurd hn (Nat.not_lt_zero _)
  | n + 1, hn => by
    rw [holdTo_succ]
    by_cases e : i = n
    · subst e
      rw [if_pos h]
      refine ⟨?_, by simp⟩
      rw [List.getElem?_append_right (Nat.le_refl _)]; simp
    · have ih := holdTo_get h n (by omega)
      split
      · refine ⟨?_, by rw [List.length_append]; omega⟩
        rw [List.getElem?_append_left ih.2]; exact ih.1
      · exact ih
end Or
theorem rule_fn (x : Ev.X) (q a b : Nat) (ha : a < x.ev.length) (hb : b < x.ev.length) (hfl : x.fr.l.length = x.ev.length) : ∀ (i : Nat), 1 ≤ i → i ≤ 13 →
    ∃ F : FuncId, (∀ w, (Instr.index 135 (.agg Or.rulesA) (.int .i64 (i : Int))).run Tryz.prog w = .ok (.func (.func F) #[] #[]) w) ∧ (∀ args w, (callFunc F args).run Tryz.prog w = .ok (.enter F args) w) ∧
      ∀ W, Or.As W q x → Calls Tryz.prog F #[.pointer (some ⟨q, 0, none⟩), .int .i64 (a : Int), .int .i64 (b : Int)] W fun r w' => r = .returned (.bool (Or.R x i a b)) ∧ Below W.heap.size W w'
  | 1, _, _ => ⟨124, fun w => by as_aux_lemma => kernel_rfl, enters_of Tryz.func124 (by kernel_rfl) rfl, fun W h => r1_any x q a b ha hb W h⟩
  | 2, _, _ => ⟨125, fun w => by as_aux_lemma => kernel_rfl, enters_of Tryz.func125 (by kernel_rfl) rfl, fun W h => r2_any x q a b ha hb hfl W h⟩
  | 3, _, _ => ⟨126, fun w => by as_aux_lemma => kernel_rfl, enters_of Tryz.func126 (by kernel_rfl) rfl, fun W h => r3_any x q a b ha hb hfl W h⟩
  | 4, _, _ => ⟨127, fun w => by as_aux_lemma => kernel_rfl, enters_of Tryz.func127 (by kernel_rfl) rfl, fun W h => r4_any x q a b ha hb W h⟩
  | 5, _, _ => ⟨128, fun w => by as_aux_lemma => kernel_rfl, enters_of Tryz.func128 (by kernel_rfl) rfl, fun W h => r5_any x q a b ha hb W h⟩
  | 6, _, _ => ⟨129, fun w => by as_aux_lemma => kernel_rfl, enters_of Tryz.func129 (by kernel_rfl) rfl, fun W h => r6_any x q a b ha hb W h⟩
  | 7, _, _ => ⟨130, fun w => by as_aux_lemma => kernel_rfl, enters_of Tryz.func130 (by kernel_rfl) rfl, fun W h => r7_any x q a b ha hb W h⟩
  | 8, _, _ => ⟨131, fun w => by as_aux_lemma => kernel_rfl, enters_of Tryz.func131 (by kernel_rfl) rfl, fun W h => r8_any x q a b ha hb W h⟩
  | 9, _, _ => ⟨132, fun w => by as_aux_lemma => kernel_rfl, enters_of Tryz.func132 (by kernel_rfl) rfl, fun W h => r9_any x q a b ha hb W h⟩
  | 10, _, _ => ⟨133, fun w => by as_aux_lemma => kernel_rfl, enters_of Tryz.func133 (by kernel_rfl) rfl, fun W h => r10_any x q a b ha hb W h⟩
  | 11, _, _ => ⟨134, fun w => by as_aux_lemma => kernel_rfl, enters_of Tryz.func134 (by kernel_rfl) rfl, fun W h => r11_any x q a b ha hb W h⟩
  | 12, _, _ => ⟨135, fun w => by as_aux_lemma => kernel_rfl, enters_of Tryz.func135 (by kernel_rfl) rfl, fun W h => r12_any x q a b ha hb hfl W h⟩
  | 13, _, _ => ⟨136, fun w => by as_aux_lemma => kernel_rfl, enters_of Tryz.func136 (by kernel_rfl) rfl, fun W h => r13_any x q a b ha hb W h⟩
  | i + 14, _, h => absurd h (by omega)
theorem index_nil (w : World) : (Instr.index 135 (.agg Or.rulesA) (.int .i64 0)).run Tryz.prog w = .ok .nilFunc w := by kernel_rfl
theorem rules_is (w : World) : Calls Tryz.prog 107 #[] w fun r w' => r = .returned (.agg Or.rulesA) ∧ Below w.heap.size w w' := rules_any w
set_option maxRecDepth 100000 in
set_option maxHeartbeats 4000000 in
theorem holds_any (x : Ev.X) (q i a b : Nat) (ha : a < x.ev.length) (hb : b < x.ev.length) (hfl : x.fr.l.length = x.ev.length) (h1 : 1 ≤ i) (h2 : i ≤ 13) (w : World) (hq : Or.As w q x) :
    Calls Tryz.prog 122 #[.pointer (some ⟨q, 0, none⟩), .int .i64 (i : Int), .int .i64 (a : Int), .int .i64 (b : Int)] w fun r w' => r = .returned (.bool (Or.kept x a b && Or.R x i a b)) ∧ Below w.heap.size w w' := by
  obtain ⟨F, hi, he, hF⟩ := rule_fn x q a b ha hb hfl i h1 h2
  have HQ := Lib.hid hq; have HFF := Lib.hid hF; have HI := Lib.hid hi; have HEN := Lib.hid he
  obtain ⟨k, hk⟩ : ∃ k, Or.kept x a b = k := ⟨_, rfl⟩
  have HK := Lib.hid hk
  rw [hk]
  clear hq hF hi he hk hfl
  go_enter Tryz.func122, Tryz.ntmps122
  go_wp2_with fail
  refine (kept_is HK.out ha hb _ HQ.out).mono ?_
  rintro r W1 ⟨rfl, hb1⟩
  have B1 := Lib.hid hb1; clear hb1
  cases k
  · go_wp2_with fail
    go_ret
    exact ⟨rfl, B1.out⟩
  go_wp2_with fail
  refine (rules_is _).mono ?_
  rintro r W2 ⟨rfl, hb2⟩
  have B2 := Lib.hid (B1.out.trans (hb2.mono B1.out.size)); clear hb2
  have hi := HI.out; have he := HEN.out
  go_wp2_with fail
  clear hi he
  refine (HFF.out _ (HQ.out.kp B2.out)).mono ?_
  rintro r W3 ⟨rfl, hb3⟩
  have B3 := Lib.hid (B2.out.trans (hb3.mono B2.out.size)); clear hb3
  go_wp2_with fail
  go_ret
  exact ⟨rfl, B3.out⟩
theorem holds_is {x : Ev.X} {i a b : Nat} {v : Bool} (h : (Or.kept x a b && Or.R x i a b) = v) (q : Nat) (ha : a < x.ev.length) (hb : b < x.ev.length) (hfl : x.fr.l.length = x.ev.length) (h1 : 1 ≤ i) (h2 : i ≤ 13) (w : World) (hq : Or.As w q x) :
    Calls Tryz.prog 122 #[.pointer (some ⟨q, 0, none⟩), .int .i64 (i : Int), .int .i64 (a : Int), .int .i64 (b : Int)] w fun r w' => r = .returned (.bool v) ∧ Below w.heap.size w w' := h ▸ holds_any x q i a b ha hb hfl h1 h2 w hq
structure Or.Hin (x : Ev.X) (q a b c0 c1 c2 : Nat) (W : World) : Prop where
  as_ : Or.As W q x
  k0 : Or.Box W c0 112 (.pointer (some ⟨q, 0, none⟩))
  k1 : Or.Box W c1 3 (.int .i64 (a : Int))
  k2 : Or.Box W c2 3 (.int .i64 (b : Int))
set_option maxRecDepth 100000 in
set_option maxHeartbeats 8000000 in
theorem holding_iter (m : Nat) (hm : 1 ≤ m) (x : Ev.X) (q a b c0 c1 c2 : Nat) (ha : a < x.ev.length) (hb : b < x.ev.length) (hfl : x.fr.l.length = x.ev.length) :
    Og.IterL Fence.wide m Tryz.prog 105 #[.pointer (some ⟨c0, 0, none⟩), .pointer (some ⟨c1, 0, none⟩), .pointer (some ⟨c2, 0, none⟩)] (Or.Hin x q a b c0 c1 c2) (fun k : Nat => #[.int .i64 (k : Int)]) (Or.hold x a b) := by
  intro l J Jx W hst hR hY h0
  have HST := Lib.hid hst; have HR := Lib.hid hR; have HY := Lib.hid hY; have H0 := Lib.hid h0
  have k0 := (hR _ _ h0).k0.cell; have k1 := (hR _ _ h0).k1.cell; have k2 := (hR _ _ h0).k2.cell
  obtain ⟨k, hk⟩ : ∃ k, Or.kept x a b = k := ⟨_, rfl⟩
  have HK := Lib.hid hk
  have HFL := Lib.hid hfl
  clear hst hR hY h0 hk hfl
  refine callsIn_of_wp Tryz.func105 rfl trivial ?_ rfl
  simp only [Tryz.ntmps105, List.size_toArray, List.length_cons, List.length_nil, Nat.reduceAdd, Nat.reduceSub, Array.replicate_succ, Array.replicate_zero, List.push_toArray, List.append_toArray, List.nil_append, List.cons_append]
  gi_wp2_with fail
  refine ⟨trivial, (callsIn_wide.2 (kept_is HK.out ha hb _ (HR.out _ _ H0.out).as_)).mono ?_⟩
  rintro r W1 ⟨rfl, hb1⟩
  have H1 := Lib.hid (HST.out _ _ _ H0.out hb1)
  clear hb1 k0 k1 k2
  cases k
  · have HH := Lib.hid (show Or.hold x a b = [] by unfold Or.hold; rw [HK.out]; rfl)
    gi_wp2_with fail
    refine bodyPost_ret (results_none rfl _ _ _) rfl ?_
    exact ⟨⟨_, rfl⟩, .inl (by rw [HH.out]; exact H1.out)⟩
  have HH := Lib.hid (show Or.hold x a b = Or.holdTo x a b 14 by unfold Or.hold; rw [HK.out]; rfl)
  gi_wp2_with fail
  refine ⟨trivial, (callsIn_wide.2 (rules_is _)).mono ?_⟩
  rintro r W2 ⟨rfl, hb2⟩
  have H2 := Lib.hid (HST.out _ _ _ H1.out hb2)
  clear hb2
  gi_wp2_with fail
  gi_loopw [5, 6, 13] (fun _ _ n wr => ∃ i : Nat, i ≤ 14 ∧ n = .int .i64 (i : Int) ∧ J (Or.holdTo x a b i).length wr) (fun _ _ n _ => 14 - (intOf n).toNat)
  case atStart => exact ⟨0, by omega, rfl, H2.out⟩
  case round =>
    obtain ⟨i, hi, rfl, hj⟩ := hrel
    have HJ := Lib.hid hj
    have k0 := (HR.out _ _ hj).k0.cell; have k1 := (HR.out _ _ hj).k1.cell; have k2 := (HR.out _ _ hj).k2.cell
    clear hj
    by_cases hlt : i < 14
    · have hlti : (i : Int) < 14 := by omega
      by_cases h0 : i = 0
      · subst h0
        have hx := index_nil
        have HS := Lib.hid (show Or.holdTo x a b (0 + 1) = Or.holdTo x a b 0 by rw [Or.holdTo_succ]; rfl)
        gi_wp2_with fail
        repeat (refine ⟨fun f h => (by cases h), ?_⟩; gi_wp2_with fail)
        go_roundw
        case rel => exact ⟨0 + 1, by omega, by go_num, by rw [HS.out]; exact HJ.out⟩
        case measure => simp [intOf]
      have hge : (1 : Int) ≤ (i : Int) := by omega
      obtain ⟨F, hx, he, hF⟩ := rule_fn x q a b ha hb HFL.out i (by omega) (by omega)
      have HFF := Lib.hid hF
      obtain ⟨v, hv⟩ : ∃ v, Or.R x i a b = v := ⟨_, rfl⟩
      have HV := Lib.hid hv
      have HP := Lib.hid (show (decide (1 ≤ i) && Or.R x i a b) = v by rw [hv, decide_eq_true (by omega : 1 ≤ i)]; rfl)
      clear hF hv
      gi_wp2_with fail
      refine ⟨trivial, (callsIn_wide.2 (HFF.out _ (HR.out _ _ HJ.out).as_)).mono ?_⟩
      rintro r W3 ⟨rfl, hb3⟩
      have H3 := Lib.hid (HST.out _ _ _ HJ.out hb3)
      rw [HV.out]
      clear hb3 k0 k1 k2 hx he
      cases v
      · have HS := Lib.hid (show Or.holdTo x a b (i + 1) = Or.holdTo x a b i by rw [Or.holdTo_succ, HP.out]; rfl)
        gi_wp2_with fail
        repeat (refine ⟨fun f h => (by cases h), ?_⟩; gi_wp2_with fail)
        go_roundw
        case rel => exact ⟨i + 1, by omega, by go_num, by rw [HS.out]; exact H3.out⟩
        case measure => simp [intOf]; omega
      have HS := Lib.hid (show (Or.holdTo x a b (i + 1)).length = (Or.holdTo x a b i).length + 1 by rw [Or.holdTo_succ, HP.out]; simp)
      have HG := Lib.hid (show (Or.hold x a b)[(Or.holdTo x a b i).length]? = some i by rw [HH.out]; exact (Or.holdTo_get HP.out 14 hlt).1)
      obtain ⟨fn, tmps, assign, body, hy, hRd⟩ := HY.out _ _ W3 HG.out H3.out
      have hy : Sem.run Tryz.prog (Instr.yield l #[.int .i64 (i : Int)]) W3 = Result.ok (Next.round l fn tmps assign body) W3 := hy
      gi_wp2_with fail
      refine hRd.mono ?_
      rintro e W4 (⟨rfl, hJ3⟩ | ⟨rfl, hJx3⟩)
      · have HJ3 := Lib.hid hJ3; clear hJ3 hy hRd
        gi_wp2_with fail
        go_roundw
        case rel => exact ⟨i + 1, by omega, by go_num, by rw [HS.out]; exact HJ3.out⟩
        case measure => simp [intOf]; omega
      · have HJ3 := Lib.hid hJx3; clear hJx3 hy hRd
        gi_wp2_with fail
        refine bodyPost_ret (results_none rfl _ _ _) rfl ?_
        exact ⟨⟨_, rfl⟩, .inr HJ3.out⟩
    · have hlti : ¬ (i : Int) < 14 := by omega
      have HI := Lib.hid (show i = 14 by omega)
      clear hlt k0 k1 k2
      gi_wp2_with fail
      refine bodyPost_end (results_none rfl _ _ _) rfl ?_
      exact ⟨⟨_, rfl⟩, .inl (by rw [HH.out, ← HI.out]; exact HJ.out)⟩
end Go.Proofs.YtecnnkidalkmfaaGreat
end

section
namespace Go.Proofs.YtecnnkidalkmfaaGreat
open Go.RowKit
theorem below_drewN {B : Nat} {a w : World} (h : Below B a w) (n : Nat) : Below B a (w.drewN n) := ⟨h.os, h.tape, h.output, h.size, h.block⟩
end Go.Proofs.YtecnnkidalkmfaaGreat
end

section
namespace Go.Proofs.YtecnnkidalkmfaaGreat
open Go.RowKit
set_option maxHeartbeats 1000000
theorem rstores_any (x : Ev.R) (w : World) : Calls Tryz.prog 32 #[Ev.evV x] w fun e w' => e = .returned (.bool (Ev.stores x.k)) ∧ Below w.heap.size w w' := by
  unfold Ev.evV Ev.cells
  by_cases h2 : x.k = 2
  · have e : Ev.stores x.k = true := by rw [h2]; rfl
    have t2 : (x.k == 2) = true := by simp [h2]
    rw [e]; clear e h2
    go_enter Tryz.func32, Tryz.ntmps32
    go_wp2
    go_ret
    exact ⟨rfl, (Below.refl _ _).alloc (Nat.le_refl _) _⟩
  have n2 : (x.k == 2) = false := by simpa using h2
  by_cases h3 : x.k = 3
  · have e : Ev.stores x.k = true := by rw [h3]; rfl
    have t2 : (x.k == 3) = true := by simp [h3]
    rw [e]; clear e h2 h3
    go_enter Tryz.func32, Tryz.ntmps32
    go_wp2
    go_ret
    exact ⟨rfl, (Below.refl _ _).alloc (Nat.le_refl _) _⟩
  have n3 : (x.k == 3) = false := by simpa using h3
  by_cases h5 : x.k = 5
  · have e : Ev.stores x.k = true := by rw [h5]; rfl
    have t2 : (x.k == 5) = true := by simp [h5]
    rw [e]; clear e h2 h3 h5
    go_enter Tryz.func32, Tryz.ntmps32
    go_wp2
    go_ret
    exact ⟨rfl, (Below.refl _ _).alloc (Nat.le_refl _) _⟩
  have n5 : (x.k == 5) = false := by simpa using h5
  have e : Ev.stores x.k = false := by unfold Ev.stores; simp [n2, n3, n5]
  rw [e]; clear e h2 h3 h5
  go_enter Tryz.func32, Tryz.ntmps32
  go_wp2
  go_ret
  exact ⟨rfl, (Below.refl _ _).alloc (Nat.le_refl _) _⟩
theorem rloads_any (x : Ev.R) (w : World) : Calls Tryz.prog 31 #[Ev.evV x] w fun e w' => e = .returned (.bool (Ev.loads x.k)) ∧ Below w.heap.size w w' := by
  unfold Ev.evV Ev.cells
  by_cases h2 : x.k = 1
  · have e : Ev.loads x.k = true := by rw [h2]; rfl
    have t2 : (x.k == 1) = true := by simp [h2]
    rw [e]; clear e h2
    go_enter Tryz.func31, Tryz.ntmps31
    go_wp2
    go_ret
    exact ⟨rfl, (Below.refl _ _).alloc (Nat.le_refl _) _⟩
  have n2 : (x.k == 1) = false := by simpa using h2
  by_cases h3 : x.k = 3
  · have e : Ev.loads x.k = true := by rw [h3]; rfl
    have t2 : (x.k == 3) = true := by simp [h3]
    rw [e]; clear e h2 h3
    go_enter Tryz.func31, Tryz.ntmps31
    go_wp2
    go_ret
    exact ⟨rfl, (Below.refl _ _).alloc (Nat.le_refl _) _⟩
  have n3 : (x.k == 3) = false := by simpa using h3
  have e : Ev.loads x.k = false := by unfold Ev.loads; simp [n2, n3]
  rw [e]; clear e h2 h3
  go_enter Tryz.func31, Tryz.ntmps31
  go_wp2
  go_ret
  exact ⟨rfl, (Below.refl _ _).alloc (Nat.le_refl _) _⟩
namespace Ev
end Ev
end Go.Proofs.YtecnnkidalkmfaaGreat
end

section
namespace Go.Proofs.YtecnnkidalkmfaaGreat
open Go.RowKit
theorem rstores_is {x : Ev.R} {b : Bool} (h : Ev.stores x.k = b) (w : World) : Calls Tryz.prog 32 #[.agg (Ev.cells x).toArray] w fun e w' => e = .returned (.bool b) ∧ Below w.heap.size w w' := h ▸ rstores_any x w
theorem rloads_is {x : Ev.R} {b : Bool} (h : Ev.loads x.k = b) (w : World) : Calls Tryz.prog 31 #[.agg (Ev.cells x).toArray] w fun e w' => e = .returned (.bool b) ∧ Below w.heap.size w w' := h ▸ rloads_any x w
end Go.Proofs.YtecnnkidalkmfaaGreat
end
