/-
  The document's Deliver.
-/
import Derived.Test.YtnfpcklpmfemiaaNtRSend
namespace Go.Proofs.Ytnfpcklpmfemiaa
open Go.RowKit
set_option linter.unusedVariables false
set_option linter.unusedSimpArgs false
namespace Nt
theorem optV_eq (o : Option E) : optV o = .tuple #[EV (o.getD E0), .bool o.isSome] := by cases o <;> rfl
theorem res3c {P : Program} {fn : Func} {p q u : Tmp} {t1 t2 : TypeId} (h : fn.results = #[.cell p t1, .cell q t2, .tmp u]) (tmps : Array Value) (w : World) (g1 g2 : Nat) (q1 q2 : TypeId) (cs1 cs2 : Array Value) (f1 f2 : Nat × Nat) (d1 d2 : TypeDesc)
    (hp : tmps.getD p undef = .pointer (some ⟨g1, 0, none⟩)) (hq : tmps.getD q undef = .pointer (some ⟨g2, 0, none⟩)) (hg : w.heap[g1]? = some (.cells cs1 q1 f1)) (hg2 : w.heap[g2]? = some (.cells cs2 q2 f2))
    (hu : P.underlying t1 = some d1) (hd : (match d1 with | .struct _ | .array _ _ => true | _ => false) = true) (hi : (P.info? t1).map (·.size) = some cs1.size)
    (hu2 : P.underlying t2 = some d2) (hd2 : (match d2 with | .struct _ | .array _ _ => true | _ => false) = true) (hi2 : (P.info? t2).map (·.size) = some cs2.size) :
    (results fn tmps).run P w = .ok (.tuple #[.agg cs1, .agg cs2, tmps.getD u undef]) w := by
  have h1 : (results fn tmps).run P w = ((asAddr (tmps.getD p undef)).run P w).andThen fun a w₁ => ((loadVar t1 a).run P w₁).andThen fun v w₂ => ((asAddr (tmps.getD q undef)).run P w₂).andThen fun b w₃ => ((loadVar t2 b).run P w₃).andThen fun v2 w₄ => .ok (.tuple #[v, v2, tmps.getD u undef]) w₄ := by
    simp only [results, h]
    simp [Sem.run_bind, Result.andThen]
    try rfl
  rw [h1, hp, hq]
  simp only [asAddr, Sem.run_pure, Result.andThen_ok]
  rw [run_loadVar_row w g1 q1 t1 cs1 f1 d1 hg hu hd hi]
  simp only [Result.andThen_ok]
  rw [run_loadVar_row w g2 q2 t2 cs2 f2 d2 hg2 hu2 hd2 hi2]
  rfl
theorem tmod_neg {p n : Int} (hn : 0 < n) (h : p.tmod n < 0) : p.tmod n + n = p % n := by
  have h1 := Int.emod_nonneg p (by omega : n ≠ 0)
  have e : p.tmod n = if 0 ≤ p ∨ n ∣ p then p % n else p % n - n := by rw [Int.tmod_eq_emod]; split <;> omega
  rw [e] at h ⊢
  split at h <;> split <;> omega
theorem tmod_pos {p n : Int} (hn : 0 < n) (h : ¬ p.tmod n < 0) : p.tmod n = p % n := by
  have h2 := Int.emod_lt_of_pos p hn
  have e : p.tmod n = if 0 ≤ p ∨ n ∣ p then p % n else p % n - n := by rw [Int.tmod_eq_emod]; split <;> omega
  rw [e] at h ⊢
  split at h
  · rename_i h3; rw [if_pos h3]
  · omega
set_option maxRecDepth 100000 in
set_option maxHeartbeats 8000000 in
theorem rdel_any (most : Nat) (a : Option Addr) (c : Nat) (l : List E) (pick : Int) (hp : Ev.i64B pick) (w : World) (h : LsIn w a c l) (hl : l.length ≤ 1024) :
    Calls Try.prog 39 #[.agg #[.int .i64 (most : Int), .slice a l.length c], .int .i64 pick] w fun r w' => ∃ a' c', r = .returned (.tuple #[.agg #[.int .i64 (most : Int), .slice a' (delL l pick).length c'], EV ((delO l pick).getD E0), .bool (delO l pick).isSome]) ∧ Below w.heap.size w w' ∧ RT w w' a c l a' c' (delL l pick) := by
  obtain ⟨nb, hnb⟩ : ∃ nb, nb = w.heap.size := ⟨_, rfl⟩
  obtain ⟨rb, hrb⟩ : ∃ rb, rb = w.heap.size + 1 := ⟨_, rfl⟩
  obtain ⟨zb, hzb⟩ : ∃ zb, zb = w.heap.size + 1 + 1 := ⟨_, rfl⟩
  obtain ⟨B, hB⟩ : ∃ B, B = ((w.alloc (.cells #[.int .i64 (most : Int), .slice a l.length c] 76)).alloc (.cells #[.int .i64 0, .slice none 0 0] 76)).alloc (.cells #[.int .i64 0, .int .i64 0, .int .i64 0, .int .u32 0, .int .u8 0, .int .u8 0, .int .u8 0, .int .u8 0, .int .u8 0, .int .u8 0, .int .u8 0, .int .u8 0, .int .u8 0, .int .u8 0, .int .u8 0, .int .u8 0, .int .u8 0, .int .u8 0, .int .u8 0, .int .u8 0] 57) := ⟨_, rfl⟩
  have HB := Lib.hid hB; have HNB := Lib.hid hnb; have HRB := Lib.hid hrb; have HZB := Lib.hid hzb
  have B0 := Lib.hid (show Below w.heap.size w B by rw [hB]; exact (((Below.refl w.heap.size w).alloc (Nat.le_refl _) _).alloc (by simp) _).alloc (by simp only [World.size_alloc]; omega) _)
  have N0 := Lib.hid (show B.heap[nb]? = some (.cells #[.int .i64 (most : Int), .slice a l.length c] 76 (0, 0)) by
    rw [hB, hnb]; exact (Below.heap_alloc _ _ _ (by simp only [World.size_alloc]; omega)).trans ((Below.heap_alloc _ _ _ (by simp)).trans (heap_alloc_new _ _)))
  have R0 := Lib.hid (show B.heap[rb]? = some (.cells #[.int .i64 0, .slice none 0 0] 76 (0, 0)) by
    have := heap_alloc_new (w.alloc (.cells #[.int .i64 (most : Int), .slice a l.length c] 76)) (.cells #[.int .i64 0, .slice none 0 0] 76)
    rw [World.size_alloc] at this
    rw [hB, hrb]; exact (Below.heap_alloc _ _ _ (by simp)).trans this)
  have Z0 := Lib.hid (show B.heap[zb]? = some (.cells #[.int .i64 0, .int .i64 0, .int .i64 0, .int .u32 0, .int .u8 0, .int .u8 0, .int .u8 0, .int .u8 0, .int .u8 0, .int .u8 0, .int .u8 0, .int .u8 0, .int .u8 0, .int .u8 0, .int .u8 0, .int .u8 0, .int .u8 0, .int .u8 0, .int .u8 0, .int .u8 0] 57 (0, 0)) by
    have := heap_alloc_new ((w.alloc (.cells #[.int .i64 (most : Int), .slice a l.length c] 76)).alloc (.cells #[.int .i64 0, .slice none 0 0] 76)) (.cells #[.int .i64 0, .int .i64 0, .int .i64 0, .int .u32 0, .int .u8 0, .int .u8 0, .int .u8 0, .int .u8 0, .int .u8 0, .int .u8 0, .int .u8 0, .int .u8 0, .int .u8 0, .int .u8 0, .int .u8 0, .int .u8 0, .int .u8 0, .int .u8 0, .int .u8 0, .int .u8 0] 57)
    rw [World.size_alloc, World.size_alloc] at this
    rw [hB, hzb]; exact this)
  have L0 := Lib.hid (h.kp (Ev.kp_below B0.out))
  have c1 : B.cell? ⟨nb, 1, none⟩ = some (.slice a l.length c) := by rw [cell_of_row _ _ _ _ _ _ N0.out]; rfl
  clear hB hnb hrb hzb h
  by_cases hl0 : l = []
  · have hz : (l.length : Int) = 0 := by rw [hl0]; rfl
    have HDO := Lib.hid (show delO l pick = none from by rw [hl0]; rfl)
    have HDL := Lib.hid (show delL l pick = l from by rw [hl0]; rfl)
    clear hl0
    go_enter Try.func39, Try.ntmps39
    go_wp2_with (first
      | ((with_reducible show wpList _ _ _ (Oper.mk (some 9) _ _ _ _ _ :: _) _ _); rw [← HB.out, ← HZB.out, ← HRB.out, ← HNB.out])
      | ((with_reducible show wpList _ _ _ (Oper.mk (some 13) _ _ _ _ _ :: _) _ _); refine wpList_load_row rfl 76 (.tmp 2) rfl nb rfl 76 _ (0, 0) _ N0.out Try.underlying76 rfl (by kernel_rfl) ?_)
      | ((with_reducible show wpList _ _ _ (Oper.mk none (Op.store 76 _ _) _ _ _ _ :: _) _ _); refine wpList_store_own rfl 76 (.tmp 4) (.tmp 13) rfl rb #[.int .i64 (most : Int), .slice a l.length c] rfl rfl 76 _ R0.out (by kernel_rfl) rfl (by kernel_rfl) ?_
         intro W2 HW2
         have S2 := Lib.hid HW2
         have Z2 := Lib.hid ((HW2.block zb (by have := HRB.out; have := HZB.out; omega)).trans Z0.out)
         clear HW2)
      | ((with_reducible show wpList _ _ _ (Oper.mk none (Op.store 57 _ _) _ _ _ _ :: _) _ _); refine wpList_store_own rfl 57 (.tmp 5) (.tmp 14) rfl zb (cells E0).toArray rfl rfl 57 _ Z2.out (by kernel_rfl) rfl (cells_all E0) ?_
         intro W3 HW3
         have S3 := Lib.hid HW3
         have R3 := Lib.hid ((HW3.block rb (by have := HRB.out; have := HZB.out; omega)).trans S2.out.row)
         clear HW3))
    refine bodyPost_ret (res3c (fn := Try.f39) rfl _ _ rb zb 76 57 _ _ (0, 0) (0, 0) _ _ rfl rfl R3.out S3.out.row Try.underlying76 rfl (by kernel_rfl) Try.underlying57 rfl (by kernel_rfl)) rfl ?_
    rw [HDO.out, HDL.out]
    exact ⟨a, c, rfl, (B0.out.trans (S2.out.below.mono (by have := HRB.out; omega))).trans (S3.out.below.mono (by have := HZB.out; omega)), .inl ⟨rfl, rfl, rfl⟩⟩
  · have hpos : 0 < l.length := List.length_pos_iff.2 hl0
    obtain ⟨hk1, hk2⟩ := dix_lt hl0 pick
    obtain ⟨k, hk⟩ : ∃ k, dix l pick = k := ⟨_, rfl⟩
    rw [hk] at hk1 hk2
    obtain ⟨e, he⟩ : ∃ e, l[k]? = some e := ⟨_, List.getElem?_eq_getElem hk1⟩
    have HOK := Lib.hid (L0.out.ok_ he)
    have HDO := Lib.hid (show delO l pick = some e from by unfold delO; rw [hk, he])
    have HDL := Lib.hid (delL_at hk)
    obtain ⟨g, o, ea, hc⟩ := L0.out.at_ he
    subst ea
    have HC := Lib.hid hc
    have hne : ¬ ((l.length : Int) = 0) := by omega
    have hn1 : ¬ ((l.length : Int) = -1) := by omega
    have hki : (k : Int) < (l.length : Int) := by omega
    have hb1 : -(l.length : Int) < pick.tmod (l.length : Int) := by have := Int.lt_tmod_of_pos pick (by omega : 0 < (l.length : Int)); omega
    have hb2 : pick.tmod (l.length : Int) < (l.length : Int) := Int.tmod_lt_of_pos pick (by omega)
    have hcc : l.length ≤ c := L0.out.le
    unfold Ev.i64B at hp
    by_cases hneg : pick.tmod (l.length : Int) < 0
    · have hkt : pick.tmod (l.length : Int) + (l.length : Int) = (k : Int) := by rw [tmod_neg (by omega) hneg, hk2]
      clear hc he hk hk2 hl0
      go_enter Try.func39, Try.ntmps39
      go_wp2_with (first
        | ((with_reducible show wpList _ _ _ (Oper.mk (some 9) _ _ _ _ _ :: _) _ _); rw [← HB.out, ← HZB.out, ← HRB.out, ← HNB.out])
        | ((with_reducible show wpList _ _ _ (Oper.mk (some 31) _ _ _ _ _ :: _) _ _); refine wpList_load_at rfl 57 (.tmp 30) rfl g (o + k * 20) rfl (cells e) _ HC.out Try.underlying57 rfl (by rw [HOK.out.len]; exact size_msg) ?_)
        | ((with_reducible show wpList _ _ _ (Oper.mk none (Op.store 57 _ _) _ _ _ _ :: _) _ _); refine wpList_store_own rfl 57 (.tmp 8) (.tmp 31) rfl B.heap.size (cells e).toArray rfl rfl 57 #[.int .i64 0, .int .i64 0, .int .i64 0, .int .u32 0, .int .u8 0, .int .u8 0, .int .u8 0, .int .u8 0, .int .u8 0, .int .u8 0, .int .u8 0, .int .u8 0, .int .u8 0, .int .u8 0, .int .u8 0, .int .u8 0, .int .u8 0, .int .u8 0, .int .u8 0, .int .u8 0] (heap_alloc_new B _) (by rw [HOK.out.size]; exact size_msg) (by rw [HOK.out.size]; rfl) (cells_all e) ?_
           intro V HV
           have BV := Lib.hid (show Below B.heap.size B V from ((Below.refl B.heap.size B).alloc (Nat.le_refl _) _).trans HV.below)
           have EV0 := Lib.hid HV.row
           clear HV
           refine Stop.out ?_))
      refine ⟨?_⟩
      obtain ⟨eb, heb⟩ : ∃ eb, eb = B.heap.size := ⟨_, rfl⟩
      have HEB := Lib.hid heb
      rw [← heb] at EV0 ⊢
      have NV := Lib.hid ((BV.out.block _ (Array.getElem?_eq_some_iff.1 N0.out).1).trans N0.out)
      have RV := Lib.hid ((BV.out.block _ (Array.getElem?_eq_some_iff.1 R0.out).1).trans R0.out)
      have ZV := Lib.hid ((BV.out.block _ (Array.getElem?_eq_some_iff.1 Z0.out).1).trans Z0.out)
      have LV := Lib.hid (L0.out.kp (Ev.kp_below BV.out))
      clear c1 heb
      go_wp2_with fail
      obtain ⟨wq, hwq⟩ : ∃ wq, wq = { V with drawn := V.drawn + 1 } := ⟨_, rfl⟩
      have BQ := Lib.hid (show Below V.heap.size V wq by rw [hwq]; exact ⟨rfl, rfl, rfl, Nat.le_refl _, fun _ _ => rfl⟩)
      have HWQ := Lib.hid hwq
      clear hwq
      have LQ := Lib.hid (LV.out.kp (Ev.kp_below BQ.out))
      have hq := Lib.hid BQ.out.size
      have HFA := Lib.hid (show (fun x : World => x.cell? ⟨nb, 1, none⟩ = some (.slice (some ⟨g, o, none⟩) l.length c)) wq from by show wq.cell? ⟨nb, 1, none⟩ = _; rw [cell_of_row _ _ _ _ _ _ ((BQ.out.block _ (Array.getElem?_eq_some_iff.1 NV.out).1).trans NV.out)]; rfl)
      refine Og.region_S (S := Og.SF 8 (fun x : World => x.cell? ⟨nb, 1, none⟩ = some (.slice (some ⟨g, o, none⟩) l.length c))) (by kernel_rfl) ?_
      rw [← HWQ.out]
      refine Og.s_take 1 { dst := some 33, op := Go.Op.fieldAddr 76 (Go.Operand.tmp 2) 1, type := 0, pos := "ref.go:63", after := #[], guard := none } (.pointer (some ⟨nb, 1, none⟩)) _ (by kernel_rfl) (by kernel_rfl) (by kernel_rfl) (by kernel_rfl) (by kernel_rfl) (fun _ _ _ h => h) (fun _ => HFA.out) (fun x' hx => ?_) (by simp only [Act.put, List.setIfInBounds_toArray, List.set_cons_zero, List.set_cons_succ]; rfl) ?_
      · go_simp; try (with_reducible rfl)
      refine Og.s_take 2 { dst := some 34, op := Go.Op.load 68 (Go.Operand.tmp 33), type := 68, pos := "ref.go:63", after := #[{ on := 1, ground := Go.Ground.data }], guard := none } (.slice (some ⟨g, o, none⟩) l.length c) _ (by kernel_rfl) (by kernel_rfl) (by kernel_rfl) (by kernel_rfl) (by kernel_rfl) (fun _ _ _ h => h) (fun _ => HFA.out) (fun x' hx => ?_) (by simp only [Act.put, List.setIfInBounds_toArray, List.set_cons_zero, List.set_cons_succ]; rfl) ?_
      · have hx1 := hx (by decide); go_simp; try (with_reducible rfl)
      refine Og.s_take 3 { dst := some 35, op := Go.Op.move (Go.Operand.tmp 7), type := 3, pos := "ref.go:63", after := #[], guard := none } (.int .i64 (k : Int)) _ (by kernel_rfl) (by kernel_rfl) (by kernel_rfl) (by kernel_rfl) (by kernel_rfl) (fun _ _ _ h => h) (fun _ => HFA.out) (fun x' hx => ?_) (by simp only [Act.put, List.setIfInBounds_toArray, List.set_cons_zero, List.set_cons_succ]; rfl) ?_
      · go_simp; try (with_reducible rfl)
      refine Og.s_take 4 { dst := some 36, op := Go.Op.slice 68 (Go.Operand.tmp 34) none (some (Go.Operand.tmp 35)) none, type := 68, pos := "ref.go:63", after := #[{ on := 2, ground := Go.Ground.data }, { on := 3, ground := Go.Ground.data }], guard := none } (.slice (some ⟨g, o, none⟩) (l.take k).length c) _ (by kernel_rfl) (by kernel_rfl) (by kernel_rfl) (by kernel_rfl) (by kernel_rfl) (fun _ _ _ h => h) (fun _ => HFA.out) (fun x' hx => ?_) (by simp only [Act.put, List.setIfInBounds_toArray, List.set_cons_zero, List.set_cons_succ]; rfl) ?_
      · exact upto_to (.tmp 34) (.tmp 35) rfl (Nat.le_of_lt hk1) hcc rfl rfl
      refine Og.s_take 6 { dst := some 38, op := Go.Op.fieldAddr 76 (Go.Operand.tmp 2) 1, type := 0, pos := "ref.go:63", after := #[], guard := none } (.pointer (some ⟨nb, 1, none⟩)) _ (by kernel_rfl) (by kernel_rfl) (by kernel_rfl) (by kernel_rfl) (by kernel_rfl) (fun _ _ _ h => h) (fun _ => HFA.out) (fun x' hx => ?_) (by simp only [Act.put, List.setIfInBounds_toArray, List.set_cons_zero, List.set_cons_succ]; rfl) ?_
      · go_simp; try (with_reducible rfl)
      refine Og.s_take 7 { dst := some 39, op := Go.Op.load 68 (Go.Operand.tmp 38), type := 68, pos := "ref.go:63", after := #[{ on := 6, ground := Go.Ground.data }], guard := none } (.slice (some ⟨g, o, none⟩) l.length c) _ (by kernel_rfl) (by kernel_rfl) (by kernel_rfl) (by kernel_rfl) (by kernel_rfl) (fun _ _ _ h => h) (fun _ => HFA.out) (fun x' hx => ?_) (by simp only [Act.put, List.setIfInBounds_toArray, List.set_cons_zero, List.set_cons_succ]; rfl) ?_
      · have hx1 := hx (by decide); go_simp; try (with_reducible rfl)
      refine Og.s_take 8 { dst := some 40, op := Go.Op.move (Go.Operand.tmp 7), type := 3, pos := "ref.go:63", after := #[], guard := none } (.int .i64 (k : Int)) _ (by kernel_rfl) (by kernel_rfl) (by kernel_rfl) (by kernel_rfl) (by kernel_rfl) (fun _ _ _ h => h) (fun _ => HFA.out) (fun x' hx => ?_) (by simp only [Act.put, List.setIfInBounds_toArray, List.set_cons_zero, List.set_cons_succ]; rfl) ?_
      · go_simp; try (with_reducible rfl)
      refine Og.s_take 9 { dst := some 41, op := Go.Op.binOp Go.BinOp.add 3 (Go.Operand.tmp 40) (Go.Operand.const (Go.Value.int Go.IntKind.i64 1)) 3, type := 3, pos := "ref.go:63", after := #[{ on := 8, ground := Go.Ground.data }], guard := none } (.int .i64 ((k : Int) + 1)) _ (by kernel_rfl) (by kernel_rfl) (by kernel_rfl) (by kernel_rfl) (by kernel_rfl) (fun _ _ _ h => h) (fun _ => HFA.out) (fun x' hx => ?_) (by simp only [Act.put, List.setIfInBounds_toArray, List.set_cons_zero, List.set_cons_succ]; rfl) ?_
      · go_simp; rw [IntKind.wrap_i64]; omega
      refine Og.s_take 10 { dst := some 42, op := Go.Op.slice 68 (Go.Operand.tmp 39) (some (Go.Operand.tmp 41)) none none, type := 68, pos := "ref.go:63", after := #[{ on := 7, ground := Go.Ground.data }, { on := 9, ground := Go.Ground.data }], guard := none } (.slice (srcA (some ⟨g, o, none⟩) (k + 1) c) (l.drop (k + 1)).length (c - (k + 1))) _ (by kernel_rfl) (by kernel_rfl) (by kernel_rfl) (by kernel_rfl) (by kernel_rfl) (fun _ _ _ h => h) (fun _ => HFA.out) (fun x' hx => ?_) (by simp only [Act.put, List.setIfInBounds_toArray, List.set_cons_zero, List.set_cons_succ]; rfl) ?_
      · exact from_to (.tmp 39) (.tmp 41) rfl (k := k + 1) hk1 rfl rfl
      refine Og.s_one 0 { dst := some 32, op := Go.Op.buildSlice 68 0 #[], type := 68, pos := "ref.go:63", after := #[], guard := none } (by kernel_rfl) (by kernel_rfl) (by kernel_rfl) ?_
      refine Og.run_to (v := .slice (some ⟨wq.heap.size, 0, none⟩) 0 0) (w' := wq.alloc (.cells #[] 57)) (build0_to rfl) ?_
      obtain ⟨n1, hn1⟩ : ∃ n1, n1 = wq.heap.size := ⟨_, rfl⟩
      obtain ⟨W3, hW3⟩ : ∃ W3, W3 = wq.alloc (.cells #[] 57) := ⟨_, rfl⟩
      have BA := Lib.hid (show Below wq.heap.size wq W3 by rw [hW3]; exact (Below.refl wq.heap.size wq).alloc (Nat.le_refl _) _)
      rw [← hW3, ← hn1]
      clear hW3 hn1
      refine ⟨Og.keep_sf (fun h => Ev.kp_below BA.out _ _ h), ?_⟩
      have L3 := Lib.hid (LQ.out.kp (Ev.kp_below BA.out))
      have htk : (l.take k).length = k := by rw [List.length_take]; omega
      obtain ⟨a1, c1, W4, hr1, ho1, hf1⟩ := append_any (w := W3) (F := fun _ => False) (a := some ⟨n1, 0, none⟩) (c := 0) (l := []) (.inl ⟨rfl, rfl⟩) (fun _ h => nomatch h) (L3.out.take k) (by simp only [List.length_nil]; omega)
      simp only [List.nil_append, List.length_nil] at hr1 ho1
      have BB := Lib.hid (fr_below hf1)
      have OB := Lib.hid (show Own W4 (fun k => V.heap.size ≤ k) a1 c1 (l.take k) from ho1.mono (fun j hj => by
        rcases hj with hj | hj
        · exact hj.elim
        · have := BA.out.size; have := hq.out; omega))
      have HR1 := Lib.hid hr1
      clear hr1 ho1 hf1
      refine Og.s_one 5 { dst := some 37, op := Go.Op.call { callee := Go.Callee.builtin Go.Builtin.append, args := #[Go.Operand.tmp 32, Go.Operand.tmp 36], argTypes := #[68, 68] }, type := 68, pos := "ref.go:63", after := #[{ on := 0, ground := Go.Ground.data }, { on := 4, ground := Go.Ground.data }], guard := none } (by kernel_rfl) (by kernel_rfl) (by kernel_rfl) ?_
      refine Og.run_to (v := .slice a1 (l.take k).length c1) (w' := W4) (Og.append_to (.tmp 32) (.tmp 36) 68 rfl rfl rfl HR1.out) ⟨Og.keep_sf (fun h => Ev.kp_below BB.out _ _ h), ?_⟩
      have hb4 : Below V.heap.size V W4 := BQ.out.trans ((BA.out.mono hq.out).trans (BB.out.mono (by have := BA.out.size; have := hq.out; omega)))
      obtain ⟨a2, c2, W5, hr2, ho2, hf2⟩ := append_any OB.out (fun x hx => LV.out.ok x (List.mem_of_mem_take hx)) ((L3.out.kp (Ev.kp_below BB.out)).drop (k := k + 1) hk1) (by rw [List.length_drop]; omega)
      have B5 := Lib.hid (hb4.trans (fr_belowN hf2 (by have := hb4.size; omega)))
      obtain ⟨t1, t2, t3, t4, t5⟩ := tail_store B5.out NV.out (ho2.mono (fun j hj => by
        rcases hj with hj | hj
        · exact hj
        · have := hb4.size; omega))
      have HR2 := Lib.hid hr2; have T1 := Lib.hid t1; have T2 := Lib.hid t2; have T4 := Lib.hid t4
      obtain ⟨W6, hW6⟩ : ∃ W6, W6 = W5.setCell ⟨nb, 1, none⟩ (.slice a2 (l.take k ++ l.drop (k + 1)).length c2) := ⟨_, rfl⟩
      rw [← hW6] at t3 t4 t5
      have hlz : zb < V.heap.size := (Array.getElem?_eq_some_iff.1 ZV.out).1
      have hlr : rb < V.heap.size := (Array.getElem?_eq_some_iff.1 RV.out).1
      have hle : eb < V.heap.size := (Array.getElem?_eq_some_iff.1 EV0.out).1
      have hbb : w.heap.size + 1 + 1 + 1 ≤ B.heap.size := by have := (Array.getElem?_eq_some_iff.1 Z0.out).1; have := HZB.out; omega
      have N6 := Lib.hid t3; have O6 := Lib.hid t4; have HW6 := Lib.hid hW6
      have R6 := Lib.hid ((t5.block rb hlr (by have := HRB.out; have := HNB.out; omega)).trans RV.out)
      have Z6 := Lib.hid ((t5.block zb hlz (by have := HZB.out; have := HNB.out; omega)).trans ZV.out)
      have E6 := Lib.hid ((t5.block eb hle (by have := HEB.out; have := HNB.out; omega)).trans EV0.out)
      have BX := Lib.hid (show Below w.heap.size w W6 from Fr.below (B0.out.trans (BV.out.mono B0.out.size)) t5 (fun j hj => by have := HNB.out; omega) (Nat.le_refl _))
      clear hr2 ho2 hf2 t1 t2 t3 t4 t5 hb4 hW6
      refine Og.s_one 11 { dst := some 43, op := Go.Op.call { callee := Go.Callee.builtin Go.Builtin.append, args := #[Go.Operand.tmp 37, Go.Operand.tmp 42], argTypes := #[68, 68] }, type := 68, pos := "ref.go:63", after := #[{ on := 5, ground := Go.Ground.data }, { on := 10, ground := Go.Ground.data }, { on := 5, ground := Go.Ground.chain }], guard := none } (by kernel_rfl) (by kernel_rfl) (by kernel_rfl) ?_
      refine Og.run_to (v := .slice a2 (l.take k ++ l.drop (k + 1)).length c2) (w' := W5) (Og.append_to (.tmp 37) (.tmp 42) 68 rfl rfl rfl HR2.out) ⟨Og.keep_sf (fun h => T1.out), ?_⟩
      refine Og.s_take 12 { dst := some 44, op := Go.Op.fieldAddr 76 (Go.Operand.tmp 2) 1, type := 0, pos := "ref.go:63", after := #[{ on := 0, ground := Go.Ground.phase }, { on := 1, ground := Go.Ground.phase }, { on := 2, ground := Go.Ground.phase }, { on := 3, ground := Go.Ground.phase }, { on := 4, ground := Go.Ground.phase }, { on := 5, ground := Go.Ground.phase }, { on := 6, ground := Go.Ground.phase }, { on := 7, ground := Go.Ground.phase }, { on := 8, ground := Go.Ground.phase }, { on := 9, ground := Go.Ground.phase }, { on := 10, ground := Go.Ground.phase }, { on := 11, ground := Go.Ground.phase }], guard := none } (.pointer (some ⟨nb, 1, none⟩)) _ (by kernel_rfl) (by kernel_rfl) (by kernel_rfl) (by kernel_rfl) (by kernel_rfl) (fun _ _ _ h => h) (fun h => absurd h (by decide)) (fun x' hx => ?_) (by simp only [Act.put, List.setIfInBounds_toArray, List.set_cons_zero, List.set_cons_succ]; rfl) ?_
      · go_simp; try (with_reducible rfl)
      refine Og.s_one 13 { dst := none, op := Go.Op.store 68 (Go.Operand.tmp 44) (Go.Operand.tmp 43), type := 0, pos := "ref.go:63", after := #[{ on := 12, ground := Go.Ground.data }, { on := 11, ground := Go.Ground.data }, { on := 11, ground := Go.Ground.chain }, { on := 0, ground := Go.Ground.phase }, { on := 1, ground := Go.Ground.phase }, { on := 2, ground := Go.Ground.phase }, { on := 3, ground := Go.Ground.phase }, { on := 4, ground := Go.Ground.phase }, { on := 5, ground := Go.Ground.phase }, { on := 6, ground := Go.Ground.phase }, { on := 7, ground := Go.Ground.phase }, { on := 8, ground := Go.Ground.phase }, { on := 9, ground := Go.Ground.phase }, { on := 10, ground := Go.Ground.phase }, { on := 11, ground := Go.Ground.phase }], guard := none } (by kernel_rfl) (by kernel_rfl) (by kernel_rfl) ?_
      refine Og.skip_to (w' := W6) (by rw [HW6.out]; exact Og.store_to 68 (.tmp 44) (.tmp 43) rfl rfl rfl (by kernel_rfl) T1.out T2.out) ⟨Og.keep_last (o := { dst := none, op := Go.Op.store 68 (Go.Operand.tmp 44) (Go.Operand.tmp 43), type := 0, pos := "ref.go:63", after := #[{ on := 12, ground := Go.Ground.data }, { on := 11, ground := Go.Ground.data }, { on := 11, ground := Go.Ground.chain }, { on := 0, ground := Go.Ground.phase }, { on := 1, ground := Go.Ground.phase }, { on := 2, ground := Go.Ground.phase }, { on := 3, ground := Go.Ground.phase }, { on := 4, ground := Go.Ground.phase }, { on := 5, ground := Go.Ground.phase }, { on := 6, ground := Go.Ground.phase }, { on := 7, ground := Go.Ground.phase }, { on := 8, ground := Go.Ground.phase }, { on := 9, ground := Go.Ground.phase }, { on := 10, ground := Go.Ground.phase }, { on := 11, ground := Go.Ground.phase }], guard := none }) (by kernel_rfl) (by kernel_rfl), ?_⟩
      refine Og.s_done (by kernel_rfl) ?_ _
      try simp only [Act.put, List.setIfInBounds_toArray, List.set_cons_zero, List.set_cons_succ]
      go_wp2_with fail
      obtain ⟨wz, hwz⟩ : ∃ wz, wz = { W6 with drawn := W6.drawn + 1 } := ⟨_, rfl⟩
      have BZ := Lib.hid (show Below W6.heap.size W6 wz by rw [hwz]; exact ⟨rfl, rfl, rfl, Nat.le_refl _, fun _ _ => rfl⟩)
      have HWZ := Lib.hid hwz
      clear hwz
      have RQ := Lib.hid ((BZ.out.block _ (Array.getElem?_eq_some_iff.1 R6.out).1).trans R6.out)
      have ZQ := Lib.hid ((BZ.out.block _ (Array.getElem?_eq_some_iff.1 Z6.out).1).trans Z6.out)
      have OQ := Lib.hid (O6.out.kp BZ.out)
      have BY := Lib.hid (BX.out.trans (BZ.out.mono BX.out.size))
      have HFZ := Lib.hid (show (fun x : World => x.heap[nb]? = some (.cells #[.int .i64 (most : Int), .slice a2 (l.take k ++ l.drop (k + 1)).length c2] 76 (0, 0)) ∧ x.heap[eb]? = some (.cells (cells e).toArray 57 (0, 0))) wz from ⟨(BZ.out.block _ (Array.getElem?_eq_some_iff.1 N6.out).1).trans N6.out, (BZ.out.block _ (Array.getElem?_eq_some_iff.1 E6.out).1).trans E6.out⟩)
      refine Og.region_S (S := Og.SF 2 (fun x : World => x.heap[nb]? = some (.cells #[.int .i64 (most : Int), .slice a2 (l.take k ++ l.drop (k + 1)).length c2] 76 (0, 0)) ∧ x.heap[eb]? = some (.cells (cells e).toArray 57 (0, 0)))) (by kernel_rfl) ?_
      rw [← HWZ.out]
      refine Og.s_take 0 { dst := some 45, op := Go.Op.load 76 (Go.Operand.tmp 2), type := 76, pos := "ref.go:64", after := #[], guard := none } (.agg #[.int .i64 (most : Int), .slice a2 (l.take k ++ l.drop (k + 1)).length c2]) _ (by kernel_rfl) (by kernel_rfl) (by kernel_rfl) (by kernel_rfl) (by kernel_rfl) (fun _ _ _ h => h) (fun _ => HFZ.out) (fun x' hx => ?_) (by simp only [Act.put, List.setIfInBounds_toArray, List.set_cons_zero, List.set_cons_succ]; rfl) ?_
      · exact Og.load_run 76 (.tmp 2) rfl ⟨nb, 0, none⟩ rfl (run_loadVar_row x' nb 76 76 _ (0, 0) _ (hx (by decide)).1 Try.underlying76 rfl (by kernel_rfl))
      refine Og.s_take 1 { dst := some 46, op := Go.Op.load 57 (Go.Operand.tmp 8), type := 57, pos := "ref.go:64", after := #[{ on := 2, ground := Go.Ground.gcOnly Go.Departure.lateStores }], guard := none } (.agg (cells e).toArray) _ (by kernel_rfl) (by kernel_rfl) (by kernel_rfl) (by kernel_rfl) (by kernel_rfl) (fun _ _ _ h => h) (fun _ => HFZ.out) (fun x' hx => ?_) (by simp only [Act.put, List.setIfInBounds_toArray, List.set_cons_zero, List.set_cons_succ]; rfl) ?_
      · exact Og.load_run 57 (.tmp 8) rfl ⟨eb, 0, none⟩ rfl (run_loadVar_row x' eb 57 57 _ (0, 0) _ (hx (by decide)).2 Try.underlying57 rfl (by rw [HOK.out.size]; exact size_msg))
      refine Og.s_one 2 { dst := none, op := Go.Op.store 76 (Go.Operand.tmp 4) (Go.Operand.tmp 45), type := 0, pos := "ref.go:64", after := #[{ on := 0, ground := Go.Ground.data }, { on := 0, ground := Go.Ground.phase }, { on := 1, ground := Go.Ground.textOnly Go.Departure.lateStores }], guard := none } (by kernel_rfl) (by kernel_rfl) (by kernel_rfl) ?_
      have hs7 := Ev.set1 (cs := #[.int .i64 (most : Int), .slice a2 (l.take k ++ l.drop (k + 1)).length c2]) RQ.out rfl
      refine Og.skip_to (w' := wz.setRow rb #[.int .i64 (most : Int), .slice a2 (l.take k ++ l.drop (k + 1)).length c2]) ?_ ⟨Og.keep_sf (fun h => ⟨(hs7.block nb (by have := HNB.out; have := HRB.out; omega)).trans h.1, (hs7.block eb (by have := HEB.out; have := HRB.out; omega)).trans h.2⟩), ?_⟩
      · exact Og.row_to 76 (.tmp 4) (.tmp 45) rfl rb #[.int .i64 (most : Int), .slice a2 (l.take k ++ l.drop (k + 1)).length c2] rfl rfl 76 _ RQ.out (by kernel_rfl) rfl (by kernel_rfl)
      obtain ⟨W7, hW7⟩ : ∃ W7, W7 = wz.setRow rb #[.int .i64 (most : Int), .slice a2 (l.take k ++ l.drop (k + 1)).length c2] := ⟨_, rfl⟩
      rw [← hW7] at hs7 ⊢
      have Z7 := Lib.hid ((hs7.block zb (by have := HZB.out; have := HRB.out; omega)).trans ZQ.out)
      have S7 := Lib.hid hs7
      clear hW7 hs7
      refine Og.s_one 3 { dst := none, op := Go.Op.store 57 (Go.Operand.tmp 5) (Go.Operand.tmp 46), type := 0, pos := "ref.go:64", after := #[{ on := 1, ground := Go.Ground.data }, { on := 2, ground := Go.Ground.chain }, { on := 0, ground := Go.Ground.phase }, { on := 1, ground := Go.Ground.phase }, { on := 2, ground := Go.Ground.phase }], guard := none } (by kernel_rfl) (by kernel_rfl) (by kernel_rfl) ?_
      refine Og.skip_to (w' := W7.setRow zb (cells e).toArray) ?_ ⟨Og.keep_last (o := { dst := none, op := Go.Op.store 57 (Go.Operand.tmp 5) (Go.Operand.tmp 46), type := 0, pos := "ref.go:64", after := #[{ on := 1, ground := Go.Ground.data }, { on := 2, ground := Go.Ground.chain }, { on := 0, ground := Go.Ground.phase }, { on := 1, ground := Go.Ground.phase }, { on := 2, ground := Go.Ground.phase }], guard := none }) (by kernel_rfl) (by kernel_rfl), ?_⟩
      · exact Og.row_to 57 (.tmp 5) (.tmp 46) rfl zb (cells e).toArray rfl rfl 57 _ Z7.out (by rw [HOK.out.size]; exact size_msg) (by rw [HOK.out.size]; rfl) (cells_all e)
      obtain ⟨W8, hW8⟩ : ∃ W8, W8 = W7.setRow zb (cells e).toArray := ⟨_, rfl⟩
      have hs8 := Ev.set1 (cs := (cells e).toArray) Z7.out (by rw [HOK.out.size]; rfl)
      rw [← hW8] at hs8 ⊢
      have R8 := Lib.hid ((hs8.block rb (by have := HZB.out; have := HRB.out; omega)).trans S7.out.row)
      have S8 := Lib.hid hs8
      clear hW8 hs8
      refine Og.s_take 4 { dst := some 6, op := Go.Op.assign (Go.Operand.const (Go.Value.bool true)), type := 4, pos := "ref.go:64", after := #[{ on := 3, ground := Go.Ground.chain }, { on := 0, ground := Go.Ground.phase }, { on := 1, ground := Go.Ground.phase }, { on := 2, ground := Go.Ground.phase }, { on := 3, ground := Go.Ground.phase }], guard := none } (.bool true) _ (by kernel_rfl) (by kernel_rfl) (by kernel_rfl) (by kernel_rfl) (by kernel_rfl) (fun _ _ _ h => h) (fun h => absurd h (by decide)) (fun x' hx => ?_) (by simp only [Act.put, List.setIfInBounds_toArray, List.set_cons_zero, List.set_cons_succ]; rfl) ?_
      · go_simp; try (with_reducible rfl)
      refine Og.s_done (by kernel_rfl) ?_ _
      try simp only [Act.put, List.setIfInBounds_toArray, List.set_cons_zero, List.set_cons_succ]
      go_wp2_with fail
      refine bodyPost_ret (res3c (fn := Try.f39) rfl _ _ rb zb 76 57 _ _ (0, 0) (0, 0) _ _ rfl rfl R8.out S8.out.row Try.underlying76 rfl (by kernel_rfl) Try.underlying57 rfl (by rw [HOK.out.size]; exact size_msg)) rfl ?_
      rw [HDO.out, HDL.out]
      have hVB := BV.out.size
      exact ⟨a2, c2, rfl, (BY.out.trans (S7.out.below.mono (by have := HRB.out; omega))).trans (S8.out.below.mono (by have := HZB.out; omega)), .inr ((((OQ.out.kept (fun j hj _ => S7.out.block j (by omega))).kept (fun j hj _ => S8.out.block j (by omega)))).mono (fun j hj => by omega))⟩
    · have hkt : pick.tmod (l.length : Int) = (k : Int) := by rw [tmod_pos (by omega) hneg, hk2]
      clear hc he hk hk2 hl0
      go_enter Try.func39, Try.ntmps39
      go_wp2_with (first
        | ((with_reducible show wpList _ _ _ (Oper.mk (some 9) _ _ _ _ _ :: _) _ _); rw [← HB.out, ← HZB.out, ← HRB.out, ← HNB.out])
        | ((with_reducible show wpList _ _ _ (Oper.mk (some 31) _ _ _ _ _ :: _) _ _); refine wpList_load_at rfl 57 (.tmp 30) rfl g (o + k * 20) rfl (cells e) _ HC.out Try.underlying57 rfl (by rw [HOK.out.len]; exact size_msg) ?_)
        | ((with_reducible show wpList _ _ _ (Oper.mk none (Op.store 57 _ _) _ _ _ _ :: _) _ _); refine wpList_store_own rfl 57 (.tmp 8) (.tmp 31) rfl B.heap.size (cells e).toArray rfl rfl 57 #[.int .i64 0, .int .i64 0, .int .i64 0, .int .u32 0, .int .u8 0, .int .u8 0, .int .u8 0, .int .u8 0, .int .u8 0, .int .u8 0, .int .u8 0, .int .u8 0, .int .u8 0, .int .u8 0, .int .u8 0, .int .u8 0, .int .u8 0, .int .u8 0, .int .u8 0, .int .u8 0] (heap_alloc_new B _) (by rw [HOK.out.size]; exact size_msg) (by rw [HOK.out.size]; rfl) (cells_all e) ?_
           intro V HV
           have BV := Lib.hid (show Below B.heap.size B V from ((Below.refl B.heap.size B).alloc (Nat.le_refl _) _).trans HV.below)
           have EV0 := Lib.hid HV.row
           clear HV
           refine Stop.out ?_))
      refine ⟨?_⟩
      obtain ⟨eb, heb⟩ : ∃ eb, eb = B.heap.size := ⟨_, rfl⟩
      have HEB := Lib.hid heb
      rw [← heb] at EV0 ⊢
      have NV := Lib.hid ((BV.out.block _ (Array.getElem?_eq_some_iff.1 N0.out).1).trans N0.out)
      have RV := Lib.hid ((BV.out.block _ (Array.getElem?_eq_some_iff.1 R0.out).1).trans R0.out)
      have ZV := Lib.hid ((BV.out.block _ (Array.getElem?_eq_some_iff.1 Z0.out).1).trans Z0.out)
      have LV := Lib.hid (L0.out.kp (Ev.kp_below BV.out))
      clear c1 heb
      go_wp2_with fail
      obtain ⟨wq, hwq⟩ : ∃ wq, wq = { V with drawn := V.drawn + 1 } := ⟨_, rfl⟩
      have BQ := Lib.hid (show Below V.heap.size V wq by rw [hwq]; exact ⟨rfl, rfl, rfl, Nat.le_refl _, fun _ _ => rfl⟩)
      have HWQ := Lib.hid hwq
      clear hwq
      have LQ := Lib.hid (LV.out.kp (Ev.kp_below BQ.out))
      have hq := Lib.hid BQ.out.size
      have HFA := Lib.hid (show (fun x : World => x.cell? ⟨nb, 1, none⟩ = some (.slice (some ⟨g, o, none⟩) l.length c)) wq from by show wq.cell? ⟨nb, 1, none⟩ = _; rw [cell_of_row _ _ _ _ _ _ ((BQ.out.block _ (Array.getElem?_eq_some_iff.1 NV.out).1).trans NV.out)]; rfl)
      refine Og.region_S (S := Og.SF 8 (fun x : World => x.cell? ⟨nb, 1, none⟩ = some (.slice (some ⟨g, o, none⟩) l.length c))) (by kernel_rfl) ?_
      rw [← HWQ.out]
      refine Og.s_take 1 { dst := some 33, op := Go.Op.fieldAddr 76 (Go.Operand.tmp 2) 1, type := 0, pos := "ref.go:63", after := #[], guard := none } (.pointer (some ⟨nb, 1, none⟩)) _ (by kernel_rfl) (by kernel_rfl) (by kernel_rfl) (by kernel_rfl) (by kernel_rfl) (fun _ _ _ h => h) (fun _ => HFA.out) (fun x' hx => ?_) (by simp only [Act.put, List.setIfInBounds_toArray, List.set_cons_zero, List.set_cons_succ]; rfl) ?_
      · go_simp; try (with_reducible rfl)
      refine Og.s_take 2 { dst := some 34, op := Go.Op.load 68 (Go.Operand.tmp 33), type := 68, pos := "ref.go:63", after := #[{ on := 1, ground := Go.Ground.data }], guard := none } (.slice (some ⟨g, o, none⟩) l.length c) _ (by kernel_rfl) (by kernel_rfl) (by kernel_rfl) (by kernel_rfl) (by kernel_rfl) (fun _ _ _ h => h) (fun _ => HFA.out) (fun x' hx => ?_) (by simp only [Act.put, List.setIfInBounds_toArray, List.set_cons_zero, List.set_cons_succ]; rfl) ?_
      · have hx1 := hx (by decide); go_simp; try (with_reducible rfl)
      refine Og.s_take 3 { dst := some 35, op := Go.Op.move (Go.Operand.tmp 7), type := 3, pos := "ref.go:63", after := #[], guard := none } (.int .i64 (k : Int)) _ (by kernel_rfl) (by kernel_rfl) (by kernel_rfl) (by kernel_rfl) (by kernel_rfl) (fun _ _ _ h => h) (fun _ => HFA.out) (fun x' hx => ?_) (by simp only [Act.put, List.setIfInBounds_toArray, List.set_cons_zero, List.set_cons_succ]; rfl) ?_
      · go_simp; try (with_reducible rfl)
      refine Og.s_take 4 { dst := some 36, op := Go.Op.slice 68 (Go.Operand.tmp 34) none (some (Go.Operand.tmp 35)) none, type := 68, pos := "ref.go:63", after := #[{ on := 2, ground := Go.Ground.data }, { on := 3, ground := Go.Ground.data }], guard := none } (.slice (some ⟨g, o, none⟩) (l.take k).length c) _ (by kernel_rfl) (by kernel_rfl) (by kernel_rfl) (by kernel_rfl) (by kernel_rfl) (fun _ _ _ h => h) (fun _ => HFA.out) (fun x' hx => ?_) (by simp only [Act.put, List.setIfInBounds_toArray, List.set_cons_zero, List.set_cons_succ]; rfl) ?_
      · exact upto_to (.tmp 34) (.tmp 35) rfl (Nat.le_of_lt hk1) hcc rfl rfl
      refine Og.s_take 6 { dst := some 38, op := Go.Op.fieldAddr 76 (Go.Operand.tmp 2) 1, type := 0, pos := "ref.go:63", after := #[], guard := none } (.pointer (some ⟨nb, 1, none⟩)) _ (by kernel_rfl) (by kernel_rfl) (by kernel_rfl) (by kernel_rfl) (by kernel_rfl) (fun _ _ _ h => h) (fun _ => HFA.out) (fun x' hx => ?_) (by simp only [Act.put, List.setIfInBounds_toArray, List.set_cons_zero, List.set_cons_succ]; rfl) ?_
      · go_simp; try (with_reducible rfl)
      refine Og.s_take 7 { dst := some 39, op := Go.Op.load 68 (Go.Operand.tmp 38), type := 68, pos := "ref.go:63", after := #[{ on := 6, ground := Go.Ground.data }], guard := none } (.slice (some ⟨g, o, none⟩) l.length c) _ (by kernel_rfl) (by kernel_rfl) (by kernel_rfl) (by kernel_rfl) (by kernel_rfl) (fun _ _ _ h => h) (fun _ => HFA.out) (fun x' hx => ?_) (by simp only [Act.put, List.setIfInBounds_toArray, List.set_cons_zero, List.set_cons_succ]; rfl) ?_
      · have hx1 := hx (by decide); go_simp; try (with_reducible rfl)
      refine Og.s_take 8 { dst := some 40, op := Go.Op.move (Go.Operand.tmp 7), type := 3, pos := "ref.go:63", after := #[], guard := none } (.int .i64 (k : Int)) _ (by kernel_rfl) (by kernel_rfl) (by kernel_rfl) (by kernel_rfl) (by kernel_rfl) (fun _ _ _ h => h) (fun _ => HFA.out) (fun x' hx => ?_) (by simp only [Act.put, List.setIfInBounds_toArray, List.set_cons_zero, List.set_cons_succ]; rfl) ?_
      · go_simp; try (with_reducible rfl)
      refine Og.s_take 9 { dst := some 41, op := Go.Op.binOp Go.BinOp.add 3 (Go.Operand.tmp 40) (Go.Operand.const (Go.Value.int Go.IntKind.i64 1)) 3, type := 3, pos := "ref.go:63", after := #[{ on := 8, ground := Go.Ground.data }], guard := none } (.int .i64 ((k : Int) + 1)) _ (by kernel_rfl) (by kernel_rfl) (by kernel_rfl) (by kernel_rfl) (by kernel_rfl) (fun _ _ _ h => h) (fun _ => HFA.out) (fun x' hx => ?_) (by simp only [Act.put, List.setIfInBounds_toArray, List.set_cons_zero, List.set_cons_succ]; rfl) ?_
      · go_simp; rw [IntKind.wrap_i64]; omega
      refine Og.s_take 10 { dst := some 42, op := Go.Op.slice 68 (Go.Operand.tmp 39) (some (Go.Operand.tmp 41)) none none, type := 68, pos := "ref.go:63", after := #[{ on := 7, ground := Go.Ground.data }, { on := 9, ground := Go.Ground.data }], guard := none } (.slice (srcA (some ⟨g, o, none⟩) (k + 1) c) (l.drop (k + 1)).length (c - (k + 1))) _ (by kernel_rfl) (by kernel_rfl) (by kernel_rfl) (by kernel_rfl) (by kernel_rfl) (fun _ _ _ h => h) (fun _ => HFA.out) (fun x' hx => ?_) (by simp only [Act.put, List.setIfInBounds_toArray, List.set_cons_zero, List.set_cons_succ]; rfl) ?_
      · exact from_to (.tmp 39) (.tmp 41) rfl (k := k + 1) hk1 rfl rfl
      refine Og.s_one 0 { dst := some 32, op := Go.Op.buildSlice 68 0 #[], type := 68, pos := "ref.go:63", after := #[], guard := none } (by kernel_rfl) (by kernel_rfl) (by kernel_rfl) ?_
      refine Og.run_to (v := .slice (some ⟨wq.heap.size, 0, none⟩) 0 0) (w' := wq.alloc (.cells #[] 57)) (build0_to rfl) ?_
      obtain ⟨n1, hn1⟩ : ∃ n1, n1 = wq.heap.size := ⟨_, rfl⟩
      obtain ⟨W3, hW3⟩ : ∃ W3, W3 = wq.alloc (.cells #[] 57) := ⟨_, rfl⟩
      have BA := Lib.hid (show Below wq.heap.size wq W3 by rw [hW3]; exact (Below.refl wq.heap.size wq).alloc (Nat.le_refl _) _)
      rw [← hW3, ← hn1]
      clear hW3 hn1
      refine ⟨Og.keep_sf (fun h => Ev.kp_below BA.out _ _ h), ?_⟩
      have L3 := Lib.hid (LQ.out.kp (Ev.kp_below BA.out))
      have htk : (l.take k).length = k := by rw [List.length_take]; omega
      obtain ⟨a1, c1, W4, hr1, ho1, hf1⟩ := append_any (w := W3) (F := fun _ => False) (a := some ⟨n1, 0, none⟩) (c := 0) (l := []) (.inl ⟨rfl, rfl⟩) (fun _ h => nomatch h) (L3.out.take k) (by simp only [List.length_nil]; omega)
      simp only [List.nil_append, List.length_nil] at hr1 ho1
      have BB := Lib.hid (fr_below hf1)
      have OB := Lib.hid (show Own W4 (fun k => V.heap.size ≤ k) a1 c1 (l.take k) from ho1.mono (fun j hj => by
        rcases hj with hj | hj
        · exact hj.elim
        · have := BA.out.size; have := hq.out; omega))
      have HR1 := Lib.hid hr1
      clear hr1 ho1 hf1
      refine Og.s_one 5 { dst := some 37, op := Go.Op.call { callee := Go.Callee.builtin Go.Builtin.append, args := #[Go.Operand.tmp 32, Go.Operand.tmp 36], argTypes := #[68, 68] }, type := 68, pos := "ref.go:63", after := #[{ on := 0, ground := Go.Ground.data }, { on := 4, ground := Go.Ground.data }], guard := none } (by kernel_rfl) (by kernel_rfl) (by kernel_rfl) ?_
      refine Og.run_to (v := .slice a1 (l.take k).length c1) (w' := W4) (Og.append_to (.tmp 32) (.tmp 36) 68 rfl rfl rfl HR1.out) ⟨Og.keep_sf (fun h => Ev.kp_below BB.out _ _ h), ?_⟩
      have hb4 : Below V.heap.size V W4 := BQ.out.trans ((BA.out.mono hq.out).trans (BB.out.mono (by have := BA.out.size; have := hq.out; omega)))
      obtain ⟨a2, c2, W5, hr2, ho2, hf2⟩ := append_any OB.out (fun x hx => LV.out.ok x (List.mem_of_mem_take hx)) ((L3.out.kp (Ev.kp_below BB.out)).drop (k := k + 1) hk1) (by rw [List.length_drop]; omega)
      have B5 := Lib.hid (hb4.trans (fr_belowN hf2 (by have := hb4.size; omega)))
      obtain ⟨t1, t2, t3, t4, t5⟩ := tail_store B5.out NV.out (ho2.mono (fun j hj => by
        rcases hj with hj | hj
        · exact hj
        · have := hb4.size; omega))
      have HR2 := Lib.hid hr2; have T1 := Lib.hid t1; have T2 := Lib.hid t2; have T4 := Lib.hid t4
      obtain ⟨W6, hW6⟩ : ∃ W6, W6 = W5.setCell ⟨nb, 1, none⟩ (.slice a2 (l.take k ++ l.drop (k + 1)).length c2) := ⟨_, rfl⟩
      rw [← hW6] at t3 t4 t5
      have hlz : zb < V.heap.size := (Array.getElem?_eq_some_iff.1 ZV.out).1
      have hlr : rb < V.heap.size := (Array.getElem?_eq_some_iff.1 RV.out).1
      have hle : eb < V.heap.size := (Array.getElem?_eq_some_iff.1 EV0.out).1
      have hbb : w.heap.size + 1 + 1 + 1 ≤ B.heap.size := by have := (Array.getElem?_eq_some_iff.1 Z0.out).1; have := HZB.out; omega
      have N6 := Lib.hid t3; have O6 := Lib.hid t4; have HW6 := Lib.hid hW6
      have R6 := Lib.hid ((t5.block rb hlr (by have := HRB.out; have := HNB.out; omega)).trans RV.out)
      have Z6 := Lib.hid ((t5.block zb hlz (by have := HZB.out; have := HNB.out; omega)).trans ZV.out)
      have E6 := Lib.hid ((t5.block eb hle (by have := HEB.out; have := HNB.out; omega)).trans EV0.out)
      have BX := Lib.hid (show Below w.heap.size w W6 from Fr.below (B0.out.trans (BV.out.mono B0.out.size)) t5 (fun j hj => by have := HNB.out; omega) (Nat.le_refl _))
      clear hr2 ho2 hf2 t1 t2 t3 t4 t5 hb4 hW6
      refine Og.s_one 11 { dst := some 43, op := Go.Op.call { callee := Go.Callee.builtin Go.Builtin.append, args := #[Go.Operand.tmp 37, Go.Operand.tmp 42], argTypes := #[68, 68] }, type := 68, pos := "ref.go:63", after := #[{ on := 5, ground := Go.Ground.data }, { on := 10, ground := Go.Ground.data }, { on := 5, ground := Go.Ground.chain }], guard := none } (by kernel_rfl) (by kernel_rfl) (by kernel_rfl) ?_
      refine Og.run_to (v := .slice a2 (l.take k ++ l.drop (k + 1)).length c2) (w' := W5) (Og.append_to (.tmp 37) (.tmp 42) 68 rfl rfl rfl HR2.out) ⟨Og.keep_sf (fun h => T1.out), ?_⟩
      refine Og.s_take 12 { dst := some 44, op := Go.Op.fieldAddr 76 (Go.Operand.tmp 2) 1, type := 0, pos := "ref.go:63", after := #[{ on := 0, ground := Go.Ground.phase }, { on := 1, ground := Go.Ground.phase }, { on := 2, ground := Go.Ground.phase }, { on := 3, ground := Go.Ground.phase }, { on := 4, ground := Go.Ground.phase }, { on := 5, ground := Go.Ground.phase }, { on := 6, ground := Go.Ground.phase }, { on := 7, ground := Go.Ground.phase }, { on := 8, ground := Go.Ground.phase }, { on := 9, ground := Go.Ground.phase }, { on := 10, ground := Go.Ground.phase }, { on := 11, ground := Go.Ground.phase }], guard := none } (.pointer (some ⟨nb, 1, none⟩)) _ (by kernel_rfl) (by kernel_rfl) (by kernel_rfl) (by kernel_rfl) (by kernel_rfl) (fun _ _ _ h => h) (fun h => absurd h (by decide)) (fun x' hx => ?_) (by simp only [Act.put, List.setIfInBounds_toArray, List.set_cons_zero, List.set_cons_succ]; rfl) ?_
      · go_simp; try (with_reducible rfl)
      refine Og.s_one 13 { dst := none, op := Go.Op.store 68 (Go.Operand.tmp 44) (Go.Operand.tmp 43), type := 0, pos := "ref.go:63", after := #[{ on := 12, ground := Go.Ground.data }, { on := 11, ground := Go.Ground.data }, { on := 11, ground := Go.Ground.chain }, { on := 0, ground := Go.Ground.phase }, { on := 1, ground := Go.Ground.phase }, { on := 2, ground := Go.Ground.phase }, { on := 3, ground := Go.Ground.phase }, { on := 4, ground := Go.Ground.phase }, { on := 5, ground := Go.Ground.phase }, { on := 6, ground := Go.Ground.phase }, { on := 7, ground := Go.Ground.phase }, { on := 8, ground := Go.Ground.phase }, { on := 9, ground := Go.Ground.phase }, { on := 10, ground := Go.Ground.phase }, { on := 11, ground := Go.Ground.phase }], guard := none } (by kernel_rfl) (by kernel_rfl) (by kernel_rfl) ?_
      refine Og.skip_to (w' := W6) (by rw [HW6.out]; exact Og.store_to 68 (.tmp 44) (.tmp 43) rfl rfl rfl (by kernel_rfl) T1.out T2.out) ⟨Og.keep_last (o := { dst := none, op := Go.Op.store 68 (Go.Operand.tmp 44) (Go.Operand.tmp 43), type := 0, pos := "ref.go:63", after := #[{ on := 12, ground := Go.Ground.data }, { on := 11, ground := Go.Ground.data }, { on := 11, ground := Go.Ground.chain }, { on := 0, ground := Go.Ground.phase }, { on := 1, ground := Go.Ground.phase }, { on := 2, ground := Go.Ground.phase }, { on := 3, ground := Go.Ground.phase }, { on := 4, ground := Go.Ground.phase }, { on := 5, ground := Go.Ground.phase }, { on := 6, ground := Go.Ground.phase }, { on := 7, ground := Go.Ground.phase }, { on := 8, ground := Go.Ground.phase }, { on := 9, ground := Go.Ground.phase }, { on := 10, ground := Go.Ground.phase }, { on := 11, ground := Go.Ground.phase }], guard := none }) (by kernel_rfl) (by kernel_rfl), ?_⟩
      refine Og.s_done (by kernel_rfl) ?_ _
      try simp only [Act.put, List.setIfInBounds_toArray, List.set_cons_zero, List.set_cons_succ]
      go_wp2_with fail
      obtain ⟨wz, hwz⟩ : ∃ wz, wz = { W6 with drawn := W6.drawn + 1 } := ⟨_, rfl⟩
      have BZ := Lib.hid (show Below W6.heap.size W6 wz by rw [hwz]; exact ⟨rfl, rfl, rfl, Nat.le_refl _, fun _ _ => rfl⟩)
      have HWZ := Lib.hid hwz
      clear hwz
      have RQ := Lib.hid ((BZ.out.block _ (Array.getElem?_eq_some_iff.1 R6.out).1).trans R6.out)
      have ZQ := Lib.hid ((BZ.out.block _ (Array.getElem?_eq_some_iff.1 Z6.out).1).trans Z6.out)
      have OQ := Lib.hid (O6.out.kp BZ.out)
      have BY := Lib.hid (BX.out.trans (BZ.out.mono BX.out.size))
      have HFZ := Lib.hid (show (fun x : World => x.heap[nb]? = some (.cells #[.int .i64 (most : Int), .slice a2 (l.take k ++ l.drop (k + 1)).length c2] 76 (0, 0)) ∧ x.heap[eb]? = some (.cells (cells e).toArray 57 (0, 0))) wz from ⟨(BZ.out.block _ (Array.getElem?_eq_some_iff.1 N6.out).1).trans N6.out, (BZ.out.block _ (Array.getElem?_eq_some_iff.1 E6.out).1).trans E6.out⟩)
      refine Og.region_S (S := Og.SF 2 (fun x : World => x.heap[nb]? = some (.cells #[.int .i64 (most : Int), .slice a2 (l.take k ++ l.drop (k + 1)).length c2] 76 (0, 0)) ∧ x.heap[eb]? = some (.cells (cells e).toArray 57 (0, 0)))) (by kernel_rfl) ?_
      rw [← HWZ.out]
      refine Og.s_take 0 { dst := some 45, op := Go.Op.load 76 (Go.Operand.tmp 2), type := 76, pos := "ref.go:64", after := #[], guard := none } (.agg #[.int .i64 (most : Int), .slice a2 (l.take k ++ l.drop (k + 1)).length c2]) _ (by kernel_rfl) (by kernel_rfl) (by kernel_rfl) (by kernel_rfl) (by kernel_rfl) (fun _ _ _ h => h) (fun _ => HFZ.out) (fun x' hx => ?_) (by simp only [Act.put, List.setIfInBounds_toArray, List.set_cons_zero, List.set_cons_succ]; rfl) ?_
      · exact Og.load_run 76 (.tmp 2) rfl ⟨nb, 0, none⟩ rfl (run_loadVar_row x' nb 76 76 _ (0, 0) _ (hx (by decide)).1 Try.underlying76 rfl (by kernel_rfl))
      refine Og.s_take 1 { dst := some 46, op := Go.Op.load 57 (Go.Operand.tmp 8), type := 57, pos := "ref.go:64", after := #[{ on := 2, ground := Go.Ground.gcOnly Go.Departure.lateStores }], guard := none } (.agg (cells e).toArray) _ (by kernel_rfl) (by kernel_rfl) (by kernel_rfl) (by kernel_rfl) (by kernel_rfl) (fun _ _ _ h => h) (fun _ => HFZ.out) (fun x' hx => ?_) (by simp only [Act.put, List.setIfInBounds_toArray, List.set_cons_zero, List.set_cons_succ]; rfl) ?_
      · exact Og.load_run 57 (.tmp 8) rfl ⟨eb, 0, none⟩ rfl (run_loadVar_row x' eb 57 57 _ (0, 0) _ (hx (by decide)).2 Try.underlying57 rfl (by rw [HOK.out.size]; exact size_msg))
      refine Og.s_one 2 { dst := none, op := Go.Op.store 76 (Go.Operand.tmp 4) (Go.Operand.tmp 45), type := 0, pos := "ref.go:64", after := #[{ on := 0, ground := Go.Ground.data }, { on := 0, ground := Go.Ground.phase }, { on := 1, ground := Go.Ground.textOnly Go.Departure.lateStores }], guard := none } (by kernel_rfl) (by kernel_rfl) (by kernel_rfl) ?_
      have hs7 := Ev.set1 (cs := #[.int .i64 (most : Int), .slice a2 (l.take k ++ l.drop (k + 1)).length c2]) RQ.out rfl
      refine Og.skip_to (w' := wz.setRow rb #[.int .i64 (most : Int), .slice a2 (l.take k ++ l.drop (k + 1)).length c2]) ?_ ⟨Og.keep_sf (fun h => ⟨(hs7.block nb (by have := HNB.out; have := HRB.out; omega)).trans h.1, (hs7.block eb (by have := HEB.out; have := HRB.out; omega)).trans h.2⟩), ?_⟩
      · exact Og.row_to 76 (.tmp 4) (.tmp 45) rfl rb #[.int .i64 (most : Int), .slice a2 (l.take k ++ l.drop (k + 1)).length c2] rfl rfl 76 _ RQ.out (by kernel_rfl) rfl (by kernel_rfl)
      obtain ⟨W7, hW7⟩ : ∃ W7, W7 = wz.setRow rb #[.int .i64 (most : Int), .slice a2 (l.take k ++ l.drop (k + 1)).length c2] := ⟨_, rfl⟩
      rw [← hW7] at hs7 ⊢
      have Z7 := Lib.hid ((hs7.block zb (by have := HZB.out; have := HRB.out; omega)).trans ZQ.out)
      have S7 := Lib.hid hs7
      clear hW7 hs7
      refine Og.s_one 3 { dst := none, op := Go.Op.store 57 (Go.Operand.tmp 5) (Go.Operand.tmp 46), type := 0, pos := "ref.go:64", after := #[{ on := 1, ground := Go.Ground.data }, { on := 2, ground := Go.Ground.chain }, { on := 0, ground := Go.Ground.phase }, { on := 1, ground := Go.Ground.phase }, { on := 2, ground := Go.Ground.phase }], guard := none } (by kernel_rfl) (by kernel_rfl) (by kernel_rfl) ?_
      refine Og.skip_to (w' := W7.setRow zb (cells e).toArray) ?_ ⟨Og.keep_last (o := { dst := none, op := Go.Op.store 57 (Go.Operand.tmp 5) (Go.Operand.tmp 46), type := 0, pos := "ref.go:64", after := #[{ on := 1, ground := Go.Ground.data }, { on := 2, ground := Go.Ground.chain }, { on := 0, ground := Go.Ground.phase }, { on := 1, ground := Go.Ground.phase }, { on := 2, ground := Go.Ground.phase }], guard := none }) (by kernel_rfl) (by kernel_rfl), ?_⟩
      · exact Og.row_to 57 (.tmp 5) (.tmp 46) rfl zb (cells e).toArray rfl rfl 57 _ Z7.out (by rw [HOK.out.size]; exact size_msg) (by rw [HOK.out.size]; rfl) (cells_all e)
      obtain ⟨W8, hW8⟩ : ∃ W8, W8 = W7.setRow zb (cells e).toArray := ⟨_, rfl⟩
      have hs8 := Ev.set1 (cs := (cells e).toArray) Z7.out (by rw [HOK.out.size]; rfl)
      rw [← hW8] at hs8 ⊢
      have R8 := Lib.hid ((hs8.block rb (by have := HZB.out; have := HRB.out; omega)).trans S7.out.row)
      have S8 := Lib.hid hs8
      clear hW8 hs8
      refine Og.s_take 4 { dst := some 6, op := Go.Op.assign (Go.Operand.const (Go.Value.bool true)), type := 4, pos := "ref.go:64", after := #[{ on := 3, ground := Go.Ground.chain }, { on := 0, ground := Go.Ground.phase }, { on := 1, ground := Go.Ground.phase }, { on := 2, ground := Go.Ground.phase }, { on := 3, ground := Go.Ground.phase }], guard := none } (.bool true) _ (by kernel_rfl) (by kernel_rfl) (by kernel_rfl) (by kernel_rfl) (by kernel_rfl) (fun _ _ _ h => h) (fun h => absurd h (by decide)) (fun x' hx => ?_) (by simp only [Act.put, List.setIfInBounds_toArray, List.set_cons_zero, List.set_cons_succ]; rfl) ?_
      · go_simp; try (with_reducible rfl)
      refine Og.s_done (by kernel_rfl) ?_ _
      try simp only [Act.put, List.setIfInBounds_toArray, List.set_cons_zero, List.set_cons_succ]
      go_wp2_with fail
      refine bodyPost_ret (res3c (fn := Try.f39) rfl _ _ rb zb 76 57 _ _ (0, 0) (0, 0) _ _ rfl rfl R8.out S8.out.row Try.underlying76 rfl (by kernel_rfl) Try.underlying57 rfl (by rw [HOK.out.size]; exact size_msg)) rfl ?_
      rw [HDO.out, HDL.out]
      have hVB := BV.out.size
      exact ⟨a2, c2, rfl, (BY.out.trans (S7.out.below.mono (by have := HRB.out; omega))).trans (S8.out.below.mono (by have := HZB.out; omega)), .inr ((((OQ.out.kept (fun j hj _ => S7.out.block j (by omega))).kept (fun j hj _ => S8.out.block j (by omega)))).mono (fun j hj => by omega))⟩
end Nt
end Go.Proofs.Ytnfpcklpmfemiaa
