import Derived.Test.YtfajkgbpeapcbaaNa37
set_option linter.unusedVariables false
set_option linter.unusedSimpArgs false

section
namespace Go.Proofs.Ytfajkgbpeapcbaa
open Go.RowKit
namespace Hm
open Nt
set_option maxRecDepth 100000
section
variable {p : Nat} {d : Dt} {N : Nat} {H : Ho}
theorem wpList_app {ops : Array Oper} {rest : List Oper} {o : Oper} {a : Act} {w w' : World} {Q : Exit → Act → World → Prop} (hgd : o.guard = none) (s x : Operand) {v sl v' : Value} (ho : o.op = .call { callee := .builtin .append, args := #[s, x], argTypes := #[56, 56] }) (hs : a.eval s = v) (hx : a.eval x = sl)
    (hr : (Builtin.append_ #[56, 56] o.type #[v, sl]).run Try.prog w = .ok v' w') (hk : wpList Try.prog ops Q rest (a.put o.dst v') w') : wpList Try.prog ops Q (o :: rest) a w :=
  wpList_plain hgd fun K' hK' => Og.run_to (Og.append_to s x 56 ho hs hx hr) (hK' _ _ hk)
set_option maxHeartbeats 4000000 in
theorem clone_msgs (w : World) {a : Option Addr} {c : Nat} {l : List E} (h : LsIn w a c l) (hl : l.length ≤ 4000) : Calls Try.prog 92 #[.slice a l.length c] w fun r w' => ∃ a' c', r = .returned (.slice a' l.length c') ∧ Nt.Own w' (fun k => w.heap.size ≤ k) a' c' l ∧ Below w.heap.size w w' := by
  have hq : ∀ (w : World) (a : Option Addr) (n c n' c' : Nat), (binOp .eql 56 (.slice a n c) (.slice none n' c')).run Try.prog w = .ok (.bool a.isNone) w := fun w a n c n' c' => Lib.run_eql_slice_nil w _ _ a n c n' c' Try.underlying56
  cases a with
  | none =>
    have e : l = [] := by
      cases l with
      | nil => rfl
      | cons x l => obtain ⟨g, o, e, _⟩ := h.at_ (k := 0) (e := x) rfl; cases e
    subst e
    clear h
    go_enter Try.func92, Try.ntmps92
    go_wp2
    go_ret
    exact ⟨none, 0, rfl, .inl ⟨rfl, rfl⟩, Below.refl _ _⟩
  | some ad =>
    obtain ⟨W1, hW1⟩ : ∃ W1, W1 = w.alloc (.cells #[] 67) := ⟨_, rfl⟩
    have hb1 : Below w.heap.size w W1 := by rw [hW1]; exact (Below.refl _ _).alloc (Nat.le_refl _) _
    obtain ⟨a', c', W2, hr, ho, hf⟩ := append_any (w := W1) (F := fun _ => False) (a := some ⟨w.heap.size, 0, none⟩) (c := 0) (l := []) (.inl ⟨rfl, rfl⟩) (fun e he => by cases he) (h.kp (Ev.kp_below hb1)) (by simpa using Nat.le_trans hl (by decide))
    have B2 := Lib.hid (hb1.trans ((fr_below hf).mono hb1.size))
    have HR := Lib.hid hr
    have HO := Lib.hid (ho.mono (G := fun k => w.heap.size ≤ k) (fun k hk => by
      rcases hk with hk | hk
      · exact hk.elim
      · rw [hk]; exact hb1.size))
    have HW1 := Lib.hid hW1
    clear h hr ho hf hb1 hW1
    go_enter Try.func92, Try.ntmps92
    go_wp2_with (first
      | ((with_reducible show wpList _ _ _ (Oper.mk (some 7) _ _ _ _ _ :: _) _ _); rw [← HW1.out]; refine wpList_app rfl (.tmp 5) (.tmp 6) rfl rfl rfl HR.out ?_))
    go_ret
    refine ⟨a', c', ?_, ?_, B2.out⟩
    · first | rfl | (simp only [List.nil_append]; rfl)
    · exact HO.out
set_option maxHeartbeats 4000000 in
theorem copied_any (w : World) {e : Nat} {x : En} {qa : Option Addr} {qc : Nat} (he : w.heap[e]? = some (.cells (ecells x qa qc) 84 (0, 0))) (hl : LsIn w qa qc x.q) (hn : x.q.length ≤ 4000) :
    Calls Try.prog 73 #[.pointer (some ⟨e, 0, none⟩)] w fun r w' => ∃ e' qa' qc', r = .returned (.pointer (some ⟨e', 0, none⟩)) ∧ w.heap.size ≤ e' ∧ w'.heap[e']? = some (.cells (ecells x qa' qc') 84 (0, 0)) ∧ Nt.Own w' (fun k => w.heap.size < k) qa' qc' x.q ∧ Below w.heap.size w w' := by
  obtain ⟨o, s, b, a, k, wt, td, q⟩ := x
  have HE := Lib.hid he; have HL := Lib.hid hl; have HN := Lib.hid hn
  clear he hl hn
  go_enter Try.func73, Try.ntmps73
  go_wp2_with (first
    | ((with_reducible show wpList _ _ _ (Oper.mk (some 6) _ _ _ _ _ :: _) _ _); refine wpList_load_row rfl 84 (.tmp 5) rfl e rfl 84 _ (0, 0) _ HE.out Try.underlying84 rfl (by kernel_rfl) ?_)
    | ((with_reducible show wpList _ _ _ (Oper.mk none (Op.store 84 _ _) _ _ _ _ :: _) _ _); refine wpList_put rfl 84 (.tmp 3) (.tmp 6) rfl w.heap.size 0 (.agg (ecells ⟨o, s, b, a, k, wt, td, q⟩ qa qc)) rfl rfl 84 #[.int .i64 0, .bool false, .bool false, .bool false, .bool false, .bool false, .int .i64 0, .int .i64 0, .int .i64 0, .bool false, .slice none 0 0] (heap_alloc_new w _) (by kernel_rfl) (Nat.le_of_ble_eq_true rfl) (ent_one _ _ _) (ecells ⟨o, s, b, a, k, wt, td, q⟩ qa qc) rfl ?_; refine Stop.out ?_))
  refine ⟨?_⟩
  obtain ⟨V, hV⟩ : ∃ V, V = (w.alloc (.cells #[.int .i64 0, .bool false, .bool false, .bool false, .bool false, .bool false, .int .i64 0, .int .i64 0, .int .i64 0, .bool false, .slice none 0 0] 84)).setRow w.heap.size (ecells ⟨o, s, b, a, k, wt, td, q⟩ qa qc) := ⟨_, rfl⟩
  obtain ⟨e', he'⟩ : ∃ e', e' = w.heap.size := ⟨_, rfl⟩
  have BV := Lib.hid (show Below w.heap.size w V by rw [hV]; exact set_below ((Below.refl _ _).alloc (Nat.le_refl _) _) _)
  have RV := Lib.hid (show V.heap[e']? = some (.cells (ecells ⟨o, s, b, a, k, wt, td, q⟩ qa qc) 84 (0, 0)) by rw [hV, he']; exact setRow_heap _ _ _ _ _ _ (heap_alloc_new w _))
  have SV := Lib.hid (show V.heap.size = e' + 1 by rw [hV, he']; simp)
  rw [← hV, ← he']
  have HE' := Lib.hid he'
  clear hV he'
  have EV := Lib.hid ((BV.out.block _ (Array.getElem?_eq_some_iff.1 HE.out).1).trans HE.out)
  have c10 : V.cell? ⟨e, 10, none⟩ = some (.slice qa q.length qc) := by rw [cell_of_row _ _ _ _ _ _ EV.out]; rfl
  have KC := Lib.hid (clone_msgs V (HL.out.kp (Ev.kp_below BV.out)) HN.out)
  go_wp2_with (first
    | (go_at_call 92; (with_reducible refine KC.out.mono ?_); rintro r W2 ⟨qa', qc', rfl, ho, hb⟩; have HO := Lib.hid ho; have B2 := Lib.hid hb; have R2 := Lib.hid ((hb.block _ (Array.getElem?_eq_some_iff.1 RV.out).1).trans RV.out); clear ho hb)
    | ((with_reducible show wpList _ _ _ (Oper.mk none (Op.store 56 _ _) _ _ _ _ :: _) _ _); refine wpList_put rfl 56 (.tmp 12) (.tmp 11) rfl e' 10 (.slice qa' q.length qc') rfl rfl 84 _ R2.out (by kernel_rfl) (Nat.le_of_ble_eq_true rfl) (one_slice _ _ _) (ecells ⟨o, s, b, a, k, wt, td, q⟩ qa' qc') rfl ?_))
  go_ret
  have hs := SV.out; have he := HE'.out
  refine ⟨e', qa', qc', rfl, by omega, setRow_heap _ _ _ _ _ _ R2.out, ?_, row_below (BV.out.trans (B2.out.mono BV.out.size)) (by omega) _⟩
  have ho2 := HO.out.kept (w' := W2.setRow e' (ecells ⟨o, s, b, a, k, wt, td, q⟩ qa' qc')) (fun k hk _ => setRow_other _ _ _ _ (by omega))
  exact ho2.mono fun k hk => by omega
theorem ent_stands {w w' : World} {n e : Nat} (h : Hd w p d N H) (hb : Below w.heap.size w w') (he : EntAt w w' d n e) : ∃ qa qc, w'.heap[e]? = some (.cells (ecells (H.ent n) qa qc) 84 (0, 0)) ∧ OwnQ w' (d.Qs n) qa qc (H.ent n).q := by
  rcases he with he | ⟨he, _, hr⟩
  · exact ⟨_, _, (h.kp hb).eb n e he, (h.kp hb).qo n e he⟩
  · rw [h.no n he]
    exact ⟨none, 0, hr, .inl ⟨rfl, rfl⟩⟩
def zeroE : En := ⟨0, nobody, false, 0, 0, 0, false, []⟩
theorem res_entry {tmps : Array Value} {w : World} {rb : Nat} {x : En} {qa : Option Addr} {qc : Nat} {r : Value} (h4 : tmps.getD 4 undef = .pointer (some ⟨rb, 0, none⟩)) (h5 : tmps.getD 5 undef = r)
    (hr : w.heap[rb]? = some (.cells (ecells x qa qc) 84 (0, 0))) : (results Try.f35 tmps).run Try.prog w = .ok (.tuple #[.agg (ecells x qa qc), r]) w := by
  rw [← h5]
  rw [results_cell_tmp (fn := Try.f35) rfl, h4]
  simp only [asAddr, Sem.run_pure, Result.andThen_ok]
  rw [run_loadVar_row w rb 84 84 _ (0, 0) _ hr Try.underlying84 rfl (by kernel_rfl)]
  rfl
set_option maxHeartbeats 4000000 in
theorem Entry_nil (w : World) (n : Int) : Calls Try.prog 35 #[.pointer none, .int .u32 n] w fun r w' => r = .returned (.tuple #[.agg (ecells zeroE none 0), .int .i64 1]) ∧ Below w.heap.size w w' := by
  obtain ⟨B, hB⟩ : ∃ B, B = w.alloc (.cells #[.int .i64 0, .bool false, .bool false, .bool false, .bool false, .bool false, .int .i64 0, .int .i64 0, .int .i64 0, .bool false, .slice none 0 0] 84) := ⟨_, rfl⟩
  obtain ⟨rb, hrb⟩ : ∃ rb, rb = w.heap.size := ⟨_, rfl⟩
  have B0 := Lib.hid (show Below w.heap.size w B by rw [hB]; exact (Below.refl _ _).alloc (Nat.le_refl _) _)
  have R0 := Lib.hid (show B.heap[rb]? = some (.cells #[.int .i64 0, .bool false, .bool false, .bool false, .bool false, .bool false, .int .i64 0, .int .i64 0, .int .i64 0, .bool false, .slice none 0 0] 84 (0, 0)) by rw [hB, hrb]; exact heap_alloc_new _ _)
  have HB := Lib.hid hB; have HRB := Lib.hid hrb
  have KR := Lib.hid (reach_nilh n B)
  clear hB hrb
  go_enter Try.func35, Try.ntmps35
  go_wp2_with (first
    | (go_at_call 75; rw [← HB.out, ← HRB.out]; (with_reducible refine KR.out.mono ?_); rintro e1 w1 ⟨rfl, hb⟩; have B1 := Lib.hid (show Below B.heap.size B w1 from hb ▸ Below.refl _ _); have R1 := Lib.hid ((B1.out.block _ (Array.getElem?_eq_some_iff.1 R0.out).1).trans R0.out); clear hb)
    | ((with_reducible show wpList _ _ _ (Oper.mk none (Op.store 84 _ _) _ _ _ _ :: _) _ _); refine wpList_put rfl 84 (.tmp 4) (.tmp 12) rfl rb 0 (.agg (ecells zeroE none 0)) rfl rfl 84 _ R1.out (by kernel_rfl) (Nat.le_of_ble_eq_true rfl) (ent_one _ _ _) (ecells zeroE none 0) rfl ?_))
  refine bodyPost_ret (res_entry rfl rfl (setRow_heap _ _ _ _ _ _ R1.out)) rfl ⟨rfl, row_below (B0.out.trans (B1.out.mono B0.out.size)) (by rw [HRB.out]; exact Nat.le_refl _) _⟩
set_option maxHeartbeats 4000000 in
theorem Entry_bad (w : World) {n : Nat} (h : Hd w p d N H) (hn : n ≤ 4294967295) (hlt : ¬ n * 16 < H.bs.length) : Calls Try.prog 35 #[.pointer (some ⟨p, 0, none⟩), .int .u32 (n : Int)] w fun r w' => r = .returned (.tuple #[.agg (ecells zeroE none 0), .int .i64 4]) ∧ Below w.heap.size w w' := by
  obtain ⟨B, hB⟩ : ∃ B, B = w.alloc (.cells #[.int .i64 0, .bool false, .bool false, .bool false, .bool false, .bool false, .int .i64 0, .int .i64 0, .int .i64 0, .bool false, .slice none 0 0] 84) := ⟨_, rfl⟩
  obtain ⟨rb, hrb⟩ : ∃ rb, rb = w.heap.size := ⟨_, rfl⟩
  have B0 := Lib.hid (show Below w.heap.size w B by rw [hB]; exact (Below.refl _ _).alloc (Nat.le_refl _) _)
  have R0 := Lib.hid (show B.heap[rb]? = some (.cells #[.int .i64 0, .bool false, .bool false, .bool false, .bool false, .bool false, .int .i64 0, .int .i64 0, .int .i64 0, .bool false, .slice none 0 0] 84 (0, 0)) by rw [hB, hrb]; exact heap_alloc_new _ _)
  have HB := Lib.hid hB; have HRB := Lib.hid hrb
  have KR := Lib.hid (reach_any B (h.kp B0.out) hn)
  rw [if_neg hlt] at KR
  clear hB hrb h hn hlt
  go_enter Try.func35, Try.ntmps35
  go_wp2_with (first
    | (go_at_call 75; rw [← HB.out, ← HRB.out]; (with_reducible refine KR.out.mono ?_); rintro e1 w1 ⟨rfl, hb⟩; have B1 := Lib.hid hb; have R1 := Lib.hid ((B1.out.block _ (Array.getElem?_eq_some_iff.1 R0.out).1).trans R0.out); clear hb)
    | ((with_reducible show wpList _ _ _ (Oper.mk none (Op.store 84 _ _) _ _ _ _ :: _) _ _); refine wpList_put rfl 84 (.tmp 4) (.tmp 12) rfl rb 0 (.agg (ecells zeroE none 0)) rfl rfl 84 _ R1.out (by kernel_rfl) (Nat.le_of_ble_eq_true rfl) (ent_one _ _ _) (ecells zeroE none 0) rfl ?_))
  refine bodyPost_ret (res_entry rfl rfl (setRow_heap _ _ _ _ _ _ R1.out)) rfl ⟨rfl, row_below (B0.out.trans (B1.out.mono B0.out.size)) (by rw [HRB.out]; exact Nat.le_refl _) _⟩
set_option maxHeartbeats 4000000 in
theorem Entry_ok (w : World) {n : Nat} (h : Hd w p d N H) (hn : n ≤ 4294967295) (hlt : n * 16 < H.bs.length) (hN : N ≤ 700) : Calls Try.prog 35 #[.pointer (some ⟨p, 0, none⟩), .int .u32 (n : Int)] w fun r w' => ∃ qa qc, r = .returned (.tuple #[.agg (ecells (H.ent n) qa qc), .int .i64 0]) ∧ Nt.Own w' (fun k => w.heap.size < k) qa qc (H.ent n).q ∧ Below w.heap.size w w' := by
  obtain ⟨B, hB⟩ : ∃ B, B = w.alloc (.cells #[.int .i64 0, .bool false, .bool false, .bool false, .bool false, .bool false, .int .i64 0, .int .i64 0, .int .i64 0, .bool false, .slice none 0 0] 84) := ⟨_, rfl⟩
  obtain ⟨rb, hrb⟩ : ∃ rb, rb = w.heap.size := ⟨_, rfl⟩
  have B0 := Lib.hid (show Below w.heap.size w B by rw [hB]; exact (Below.refl _ _).alloc (Nat.le_refl _) _)
  have R0 := Lib.hid (show B.heap[rb]? = some (.cells #[.int .i64 0, .bool false, .bool false, .bool false, .bool false, .bool false, .int .i64 0, .int .i64 0, .int .i64 0, .bool false, .slice none 0 0] 84 (0, 0)) by rw [hB, hrb]; exact heap_alloc_new _ _)
  have HB := Lib.hid hB; have HRB := Lib.hid hrb
  have SB := Lib.hid (show B.heap.size = w.heap.size + 1 by rw [hB]; simp)
  have KR := Lib.hid (reach_any B (h.kp B0.out) hn)
  rw [if_pos hlt] at KR
  have H0 := Lib.hid (h.kp B0.out)
  have HNU := Lib.hid hn
  have HQL := Lib.hid (show (H.ent n).q.length ≤ 4000 by have := h.len n; omega)
  have HRQ := Lib.hid (show ∀ x ∈ (H.ent n).q, Ok x from fun x hx => ((h.iv n).q x hx).ok)
  clear hB hrb h hn hlt hN
  go_enter Try.func35, Try.ntmps35
  go_wp2_with (first
    | (go_at_call 75; rw [← HB.out, ← HRB.out]; (with_reducible refine KR.out.mono ?_); rintro e1 w1 ⟨rfl, hb⟩; have B1 := Lib.hid hb; have R1 := Lib.hid ((B1.out.block _ (Array.getElem?_eq_some_iff.1 R0.out).1).trans R0.out); have H1 := Lib.hid (H0.out.kp hb); clear hb)
    | (go_at_call 60; (with_reducible refine (entry_any w1 H1.out HNU.out).mono ?_); rintro e1 w2 ⟨e0, rfl, he, hb⟩; have B2 := Lib.hid hb; have R2 := Lib.hid ((B2.out.block _ (Array.getElem?_eq_some_iff.1 R1.out).1).trans R1.out); have HE := Lib.hid (ent_stands H1.out hb he); clear he hb)
    | (go_at_call 73; obtain ⟨qa0, qc0, he, hq⟩ := HE.out; (with_reducible refine (copied_any w2 he (hq.ls HRQ.out) HQL.out).mono ?_); rintro e1 w3 ⟨e3, qa, qc, rfl, hle, he3, ho3, hb⟩; have B3 := Lib.hid hb; have R3 := Lib.hid ((B3.out.block _ (Array.getElem?_eq_some_iff.1 R2.out).1).trans R2.out); have E3 := Lib.hid he3; have O3 := Lib.hid ho3; have L3 := Lib.hid hle; clear he hq hle he3 ho3 hb)
    | ((with_reducible show wpList _ _ _ (Oper.mk (some 19) _ _ _ _ _ :: _) _ _); refine wpList_load_row rfl 84 (.tmp 18) rfl e3 rfl 84 _ (0, 0) _ E3.out Try.underlying84 rfl (by kernel_rfl) ?_)
    | ((with_reducible show wpList _ _ _ (Oper.mk none (Op.store 84 _ _) _ _ _ _ :: _) _ _); refine wpList_put rfl 84 (.tmp 4) (.tmp 19) rfl rb 0 (.agg (ecells (H.ent n) qa qc)) rfl rfl 84 _ R3.out (by kernel_rfl) (Nat.le_of_ble_eq_true rfl) (ent_one _ _ _) (ecells (H.ent n) qa qc) rfl ?_))
  have h12 := Nat.le_trans B1.out.size B2.out.size
  have hsb := SB.out; have hrb := HRB.out
  have hall := ((B0.out.trans (B1.out.mono B0.out.size)).trans (B2.out.mono (Nat.le_trans B0.out.size B1.out.size))).trans (B3.out.mono (Nat.le_trans B0.out.size h12))
  refine bodyPost_ret (res_entry rfl rfl (setRow_heap _ _ _ _ _ _ R3.out)) rfl ⟨qa, qc, rfl, ?_, row_below hall (by omega) _⟩
  have ho2 := O3.out.kept (w' := w3.setRow rb (ecells (H.ent n) qa qc)) (fun k hk _ => setRow_other _ _ _ _ (by omega))
  exact ho2.mono fun k hk => by omega
end
end Hm
end Go.Proofs.Ytfajkgbpeapcbaa
end
