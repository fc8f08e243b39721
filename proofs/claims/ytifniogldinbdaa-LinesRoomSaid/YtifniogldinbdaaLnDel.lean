/-
  slices.Delete of one line, in a row of one's own.
-/
import Derived.Test.YtifniogldinbdaaLnPut
namespace Go.Proofs.Ytifniogldinbdaa
open Go.RowKit
set_option linter.unusedVariables false
set_option linter.unusedSimpArgs false
namespace Ln
theorem run_clearLine (w : World) (b o c : Nat) (cur : Array Value) (hb : w.heap[b]? = some (.cells cur 30 (0, 0))) (ho : o + 18 ≤ cur.size) (ty : TypeId) :
    (Builtin.clear_ #[38] ty #[.slice (some ⟨b, o, none⟩) 1 c]).run Try.prog w = .ok (.tuple #[]) (w.setRow b (cur.toList.take o ++ cells E0 ++ cur.toList.drop (o + 18)).toArray) := by
  have hst := run_storeCells_at Try.prog b o 30 (cells E0) 0 cur w hb (by rw [E0_ok.len]; omega) (cells_one E0)
  have hz : (Builtin.zeroCells (cells E0).toArray 1).toList = cells E0 := by kernel_rfl
  have hv : ∀ w, (zeroValue 30).run Try.prog w = .ok (EV E0) w := Try.zeroValue30
  rw [E0_ok.len] at hst
  simp only [Nat.add_zero] at hst
  unfold EV at hv
  simp [Builtin.clear_, run_underlying Try.underlying38, hv, Value.cells, hz, hst]
end Ln
set_option maxRecDepth 100000 in
set_option maxHeartbeats 4000000 in
theorem del_any (l : List Ln.E) (hl : ∀ e ∈ l, Ln.Ok e) (b cap k k1 : Nat) (hk1 : k1 = k + 1) (hk : k < l.length) (cur : Array Value) (w : World) (hb : w.heap[b]? = some (.cells cur 30 (0, 0))) (hcs : cur.size = cap * 18) (hnc : l.length ≤ cap) (h8 : l.length ≤ 8) (hcm : cap ≤ maxLen)
    (ht : cur.toList.take (l.length * 18) = Ln.flat l) :
    Calls Try.prog 37 #[.slice (some ⟨b, 0, none⟩) l.length cap, .int .i64 (k : Int), .int .i64 (k1 : Int)] w fun e w' => e = .returned (.slice (some ⟨b, 0, none⟩) (l.length - 1) cap) ∧
      w.grownBy w' (some b) ∧ ∃ cur', w'.heap[b]? = some (.cells cur' 30 (0, 0)) ∧ cur'.size = cap * 18 ∧ cur'.toList.take ((l.length - 1) * 18) = Ln.flat (l.eraseIdx k) := by
  obtain ⟨i0, hi, hz0, hz1, hz2⟩ := Ln.info_line
  have HI := Lib.hid hi; have HZ0 := Lib.hid hz0; have HZ1 := Lib.hid hz1
  clear hi hz0 hz1 hz2
  have hki : (k : Int) < (l.length : Int) := by omega
  have hkc : k1 ≤ cap := by omega
  have hkl : k1 ≤ l.length := by omega
  have hkk : k ≤ k1 := by omega
  have hkl2 : k ≤ l.length := by omega
  have hkc2 : k ≤ cap := by omega
  have hne : ¬ ((k : Int) = (k1 : Int)) := by omega
  have bne : ((k : Int) == (k1 : Int)) = false := by simpa using hne
  go_enter Try.func37, Try.ntmps37
  obtain ⟨news, hnews⟩ : ∃ news, news = Ln.flat (l.drop k1) := ⟨_, rfl⟩
  have hdl : ∀ e ∈ l.drop k1, Ln.Ok e := fun e he => hl e (List.mem_of_mem_drop he)
  have hnl : news.length = (l.length - k1) * 18 := by rw [hnews, Ln.flat_len hdl, List.length_drop]
  have hat : ∀ t u, news[t]? = some u → w.cell? ⟨b, k1 * 18 + t, none⟩ = some u := by
    intro t u hu
    have htl := (List.getElem?_eq_some_iff.1 hu).1
    rw [cell_of_row _ _ _ _ _ _ hb]
    have hsp : Ln.flat l = Ln.flat (l.take k1) ++ news := by rw [hnews, ← Ln.flat_app, List.take_append_drop]
    have hlt : (Ln.flat (l.take k1)).length = k1 * 18 := by rw [Ln.flat_len (fun e he => hl e (List.mem_of_mem_take he)), List.length_take]; congr 1; omega
    have h1 : (Ln.flat l)[k1 * 18 + t]? = some u := by rw [hsp, List.getElem?_append_right (by omega), hlt, show k1 * 18 + t - k1 * 18 = t by omega]; exact hu
    rw [← ht, List.getElem?_take] at h1
    split at h1
    · simpa using h1
    · cases h1
  obtain ⟨A, hA, hsrc⟩ : ∃ A : Addr, (if cap = k1 then some (⟨b, 0, none⟩ : Addr) else some ⟨b, k1 * 18, none⟩) = some A ∧ Hid (∀ t u, news[t]? = some u → w.cell? (A.add t) = some u) := by
    by_cases h : cap = k1
    · refine ⟨⟨b, 0, none⟩, by simp [h], Lib.hid fun t u hu => ?_⟩
      have h0 : news.length = 0 := by rw [hnl]; omega
      rw [List.length_eq_zero_iff.1 h0] at hu
      simp at hu
    · refine ⟨⟨b, k1 * 18, none⟩, by simp [h], Lib.hid fun t u hu => ?_⟩
      rw [Addr.add_lit]; exact hat t u hu
  have s2 : ∀ u ∈ news, u.oneCell' = true := by
    intro u hu
    rw [hnews] at hu
    unfold Ln.flat at hu
    obtain ⟨c, hc, huc⟩ := List.mem_flatten.1 hu
    obtain ⟨e, _, rfl⟩ := List.mem_map.1 hc
    exact Ln.cells_one e u huc
  have HL := Lib.hid hl; have HB := Lib.hid hb; have HT := Lib.hid ht; have HN := Lib.hid hnews; have HNL := Lib.hid hnl; have S2 := Lib.hid s2; have HCS := Lib.hid hcs
  have HK1 := Lib.hid hk1
  have hki1 : (k1 : Int) ≤ (l.length : Int) := by omega
  clear hl hb ht hnews hnl s2 hat hdl hcs hk1
  go_wp2_with fail
  obtain ⟨wq, hwq⟩ : ∃ wq, wq = { w with drawn := w.drawn + 1 } := ⟨_, rfl⟩
  have BQ := Lib.hid (show Below w.heap.size w wq by rw [hwq]; exact ⟨rfl, rfl, rfl, Nat.le_refl _, fun _ _ => rfl⟩)
  have HWQ := Lib.hid hwq
  clear hwq
  have HFA := Lib.hid (show (fun _ => True) wq from trivial)
  refine Og.region_S (S := Og.SF 0 (fun _ => True)) (by kernel_rfl) ?_
  rw [← HWQ.out]
  refine Og.s_take 0 { dst := some 20, op := Go.Op.move (Go.Operand.tmp 0), type := 38, pos := "slices.go:232", after := #[], guard := none } (.slice (some ⟨b, 0, none⟩) l.length cap) _ (by kernel_rfl) (by kernel_rfl) (by kernel_rfl) (by kernel_rfl) (by kernel_rfl) (fun _ _ _ h => h) (fun _ => HFA.out) (fun x' hx => ?_) (by simp only [Act.put, List.setIfInBounds_toArray, List.set_cons_zero, List.set_cons_succ]; rfl) ?_
  · go_simp; try (with_reducible rfl)
  refine Og.s_take 1 { dst := some 21, op := Go.Op.move (Go.Operand.tmp 1), type := 3, pos := "slices.go:232", after := #[], guard := none } (.int .i64 (k : Int)) _ (by kernel_rfl) (by kernel_rfl) (by kernel_rfl) (by kernel_rfl) (by kernel_rfl) (fun _ _ _ h => h) (fun _ => HFA.out) (fun x' hx => ?_) (by simp only [Act.put, List.setIfInBounds_toArray, List.set_cons_zero, List.set_cons_succ]; rfl) ?_
  · go_simp; try (with_reducible rfl)
  refine Og.s_take 2 { dst := some 22, op := Go.Op.slice 38 (Go.Operand.tmp 20) none (some (Go.Operand.tmp 21)) none, type := 38, pos := "slices.go:232", after := #[{ on := 0, ground := Go.Ground.data }, { on := 1, ground := Go.Ground.data }], guard := none } (.slice (some ⟨b, 0, none⟩) k cap) _ (by kernel_rfl) (by kernel_rfl) (by kernel_rfl) (by kernel_rfl) (by kernel_rfl) (fun _ _ _ h => h) (fun _ => HFA.out) (fun x' hx => ?_) (by simp only [Act.put, List.setIfInBounds_toArray, List.set_cons_zero, List.set_cons_succ]; rfl) ?_
  · go_simp; try (with_reducible rfl)
  refine Og.s_take 3 { dst := some 23, op := Go.Op.move (Go.Operand.tmp 0), type := 38, pos := "slices.go:232", after := #[], guard := none } (.slice (some ⟨b, 0, none⟩) l.length cap) _ (by kernel_rfl) (by kernel_rfl) (by kernel_rfl) (by kernel_rfl) (by kernel_rfl) (fun _ _ _ h => h) (fun _ => HFA.out) (fun x' hx => ?_) (by simp only [Act.put, List.setIfInBounds_toArray, List.set_cons_zero, List.set_cons_succ]; rfl) ?_
  · go_simp; try (with_reducible rfl)
  refine Og.s_take 4 { dst := some 24, op := Go.Op.move (Go.Operand.tmp 2), type := 3, pos := "slices.go:232", after := #[], guard := none } (.int .i64 (k1 : Int)) _ (by kernel_rfl) (by kernel_rfl) (by kernel_rfl) (by kernel_rfl) (by kernel_rfl) (fun _ _ _ h => h) (fun _ => HFA.out) (fun x' hx => ?_) (by simp only [Act.put, List.setIfInBounds_toArray, List.set_cons_zero, List.set_cons_succ]; rfl) ?_
  · go_simp; try (with_reducible rfl)
  refine Og.s_take 5 { dst := some 25, op := Go.Op.slice 38 (Go.Operand.tmp 23) (some (Go.Operand.tmp 24)) none none, type := 38, pos := "slices.go:232", after := #[{ on := 3, ground := Go.Ground.data }, { on := 4, ground := Go.Ground.data }], guard := none } (.slice (some A) (l.length - k1) (cap - k1)) _ (by kernel_rfl) (by kernel_rfl) (by kernel_rfl) (by kernel_rfl) (by kernel_rfl) (fun _ _ _ h => h) (fun _ => HFA.out) (fun x' hx => ?_) (by simp only [Act.put, List.setIfInBounds_toArray, List.set_cons_zero, List.set_cons_succ]; rfl) ?_
  · go_simp; try (with_reducible rfl)
  refine Og.s_one 6 { dst := some 26, op := Go.Op.call { callee := Go.Callee.builtin Go.Builtin.append, args := #[Go.Operand.tmp 22, Go.Operand.tmp 25], argTypes := #[38, 38] }, type := 38, pos := "slices.go:232", after := #[{ on := 2, ground := Go.Ground.data }, { on := 5, ground := Go.Ground.data }], guard := none } (by kernel_rfl) (by kernel_rfl) (by kernel_rfl) ?_
  have hrn := run_append_room (P := Try.prog) wq 38 38 30 i0 Try.underlying38 HI.out b k cap cur ((BQ.out.block b (Array.getElem?_eq_some_iff.1 HB.out).1).trans HB.out) A (l.length - k1) (cap - k1) news (by rw [HNL.out, HZ1.out]) (fun t u hu => Ev.kp_below BQ.out _ _ (hsrc.out t u hu)) S2.out (by omega) (by rw [HZ1.out, HNL.out, HCS.out]; have := HK1.out; omega)
  rw [HZ1.out] at hrn
  refine Og.run_to (Og.append_to (.tmp 22) (.tmp 25) 38 rfl rfl rfl hrn) ⟨Og.keep_sf (fun _ => trivial), ?_⟩
  obtain ⟨w9, hw9⟩ : ∃ w9, w9 = wq.setRow b (cur.toList.take (k * 18) ++ news ++ cur.toList.drop (k * 18 + news.length)).toArray := ⟨_, rfl⟩
  rw [← hw9]
  have HW9 := Lib.hid hw9
  clear hw9 hrn
  refine Og.s_take 7 { dst := some 0, op := Go.Op.assign (Go.Operand.tmp 26), type := 38, pos := "slices.go:232", after := #[{ on := 6, ground := Go.Ground.data }, { on := 6, ground := Go.Ground.chain }, { on := 0, ground := Go.Ground.phase }, { on := 1, ground := Go.Ground.phase }, { on := 2, ground := Go.Ground.phase }, { on := 3, ground := Go.Ground.phase }, { on := 4, ground := Go.Ground.phase }, { on := 5, ground := Go.Ground.phase }, { on := 6, ground := Go.Ground.phase }], guard := none } (.slice (some ⟨b, 0, none⟩) (k + (l.length - k1)) cap) _ (by kernel_rfl) (by kernel_rfl) (by kernel_rfl) (by kernel_rfl) (by kernel_rfl) (fun _ _ _ h => h) (fun _ => trivial) (fun x' hx => ?_) (by simp only [Act.put, List.setIfInBounds_toArray, List.set_cons_zero, List.set_cons_succ]; rfl) ?_
  · go_simp; try (with_reducible rfl)
  refine Og.s_done (by kernel_rfl) ?_ _
  try simp only [Act.put, List.setIfInBounds_toArray, List.set_cons_zero, List.set_cons_succ]
  have BL := Lib.hid ((BQ.out.block b (Array.getElem?_eq_some_iff.1 HB.out).1).trans HB.out)
  obtain ⟨cu, hcu⟩ : ∃ cu, cu = (cur.toList.take (k * 18) ++ news ++ cur.toList.drop (k * 18 + news.length)).toArray := ⟨_, rfl⟩
  have hcul : cu.size = cap * 18 := by rw [hcu]; simp; have := HNL.out; have := HCS.out; have := HK1.out; omega
  have hS := Ev.set1 (w := wq) (cs := cu) BL.out (by rw [hcul]; exact HCS.out)
  rw [hcu, ← HW9.out, ← hcu] at hS
  obtain ⟨m, hm⟩ : ∃ m, m = l.length - 1 := ⟨_, rfl⟩
  have hml : m + 1 = l.length := by omega
  have hkm : k + (l.length - k1) = m := by have := HK1.out; omega
  rw [hkm]
  have hlm : l.length - m = 1 := by omega
  have hcm1 : ¬ cap = m := by omega
  have hcm2 : m ≤ cap := by omega
  have hcm3 : m ≤ l.length := by omega
  have hmi : (m : Int) ≤ (l.length : Int) := by omega
  have hcl := Ln.run_clearLine w9 b (m * 18) (cap - m) cu hS.row (by rw [hcul]; omega)
  obtain ⟨cv, hcv⟩ : ∃ cv, cv = (cu.toList.take (m * 18) ++ Ln.cells Ln.E0 ++ cu.toList.drop (m * 18 + 18)).toArray := ⟨_, rfl⟩
  have hz : cu.size = cv.size := by rw [hcv]; simp [Ln.E0_ok.len]; omega
  have hS2 := Ev.set1 (cs := cv) hS.row hz
  rw [← hcv] at hcl
  obtain ⟨w10, hw10⟩ : ∃ w10, w10 = w9.setRow b cv := ⟨_, rfl⟩
  rw [← hw10] at hcl hS2
  have HS2 := Lib.hid hS2; have HCV := Lib.hid hcv; have HZ := Lib.hid hz
  clear hS2 hcv hw10 hz
  have HS := Lib.hid hS; have HCU := Lib.hid hcu; have HM := Lib.hid hm; have HCL := Lib.hid hcul; have HML := Lib.hid hml
  clear hS hcu hm hkm hml hcul
  go_wp2
  go_ret
  have hA1 : (cur.toList.take (k * 18)).length = k * 18 := by rw [List.length_take, Array.length_toList]; have := HCS.out; omega
  refine ⟨?_, ?_, ?_⟩
  · rw [HM.out]; rfl
  · refine ⟨HS2.out.below.os.trans (HS.out.below.os.trans BQ.out.os), HS2.out.below.tape.trans (HS.out.below.tape.trans BQ.out.tape), HS2.out.below.output.trans (HS.out.below.output.trans BQ.out.output), ?_, fun j hj hne => ?_⟩
    · have := HS2.out.size; have := HS.out.size; have := BQ.out.size
      omega
    · have hjb : j ≠ b := fun e => hne (by rw [e])
      exact (HS2.out.block j hjb).trans ((HS.out.block j hjb).trans (BQ.out.block j hj))
  · refine ⟨_, HS2.out.row, by rw [← HZ.out]; exact HCL.out, ?_⟩
    rw [← HM.out, HCV.out]
    show List.take (m * 18) (cu.toList.take (m * 18) ++ Ln.cells Ln.E0 ++ cu.toList.drop (m * 18 + 18)) = _
    have hB1 : (cu.toList.take (m * 18)).length = m * 18 := by rw [List.length_take, Array.length_toList]; have := HCL.out; omega
    rw [List.append_assoc, List.take_left' hB1, HCU.out]
    show List.take (m * 18) (cur.toList.take (k * 18) ++ news ++ cur.toList.drop (k * 18 + news.length)) = _
    have hAN : (cur.toList.take (k * 18) ++ news).length = m * 18 := by rw [List.length_append, hA1, HNL.out]; have := HK1.out; have := HML.out; omega
    rw [List.take_left' hAN, HN.out, HK1.out, List.eraseIdx_eq_take_drop_succ, Ln.flat_app]
    congr 1
    have h6 : (Ln.flat (l.take k)).length = k * 18 := by rw [Ln.flat_len (fun e he => HL.out e (List.mem_of_mem_take he)), List.length_take]; congr 1; omega
    have h7 : Ln.flat l = Ln.flat (l.take k) ++ Ln.flat (l.drop k) := by rw [← Ln.flat_app, List.take_append_drop]
    have h8 : cur.toList.take (k * 18) = (cur.toList.take (l.length * 18)).take (k * 18) := by rw [List.take_take]; congr 1; omega
    rw [h8, HT.out, h7, List.take_left' h6]
end Go.Proofs.Ytifniogldinbdaa
