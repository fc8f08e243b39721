/-
  HomeNil: for every input the statement's function returns true, with no condition; each argument reads behind the call as before. By contracts of the program's functions.
-/
import Derived.Test.YtfajkgbpeapcbaaNa39
set_option linter.unusedVariables false
set_option linter.unusedSimpArgs false

section
namespace Go.Proofs.Ytfajkgbpeapcbaa.homeNil
open Go.ChangeShapes Go.WideShapes Go.ChangeAt Go.RowKit
open Nt Hm
set_option maxRecDepth 100000
theorem img16 : Im.okB 16 = true := by decide +kernel
def H16 : Ho := ⟨List.replicate 16 0, fun _ => fresh⟩
set_option maxHeartbeats 16000000 in
theorem nil_zero (w : World) (x0 : E) (b0 : Ok x0) :
    Calls Try.prog 8 #[.agg (cells x0).toArray, .int .u32 0] w fun e w' => e = .returned (.bool true) ∧ Below w.heap.size w w' := by
  obtain ⟨mb, hmb⟩ : ∃ mb, mb = w.heap.size := ⟨_, rfl⟩
  obtain ⟨zb, hzb⟩ : ∃ zb, zb = w.heap.size + 1 := ⟨_, rfl⟩
  obtain ⟨B, hB⟩ : ∃ B, B = w.alloc (.cells (cells x0).toArray 67) := ⟨_, rfl⟩
  obtain ⟨Z, hZ⟩ : ∃ Z, Z = B.alloc (.cells #[.pointer none, .map none] 92) := ⟨_, rfl⟩
  have hbs : B.heap.size = w.heap.size + 1 := by rw [hB]; simp
  have bb : Below w.heap.size w B := by rw [hB]; exact (Below.refl _ _).alloc (Nat.le_refl _) _
  have bz : Below B.heap.size B Z := by rw [hZ]; exact (Below.refl _ _).alloc (Nat.le_refl _) _
  have r0 : B.heap[mb]? = some (.cells (cells x0).toArray 67 (0, 0)) := by rw [hB, hmb]; exact heap_alloc_new _ _
  have R0 := Lib.hid ((bz.block _ (Array.getElem?_eq_some_iff.1 r0).1).trans r0)
  have Z0 := Lib.hid (show Z.heap[zb]? = some (.cells #[.pointer none, .map none] 92 (0, 0)) by rw [hZ, hzb, ← hbs]; exact heap_alloc_new _ _)
  have B0 := Lib.hid (bb.trans (bz.mono bb.size))
  have HZ := Lib.hid (show Z = (w.alloc (.cells (cells x0).toArray 67)).alloc (.cells #[.pointer none, .map none] 92) by rw [hZ, hB])
  have HMB := Lib.hid hmb; have HZB := Lib.hid hzb; have HOK := Lib.hid b0
  clear hmb hzb hB hZ hbs bb bz r0 b0
  go_enter Try.func8, Try.ntmps8
  go_wp2_with (first
    | ((with_reducible show wpList _ _ _ (Oper.mk (some 25) _ _ _ _ _ :: _) _ _); rw [← HZ.out, ← HZB.out, ← HMB.out]; refine wpList_load_row rfl 67 (.tmp 2) rfl mb rfl 67 _ (0, 0) _ R0.out Try.underlying67 rfl (by rw [HOK.out.size]; exact size_msg) ?_)
    | (go_at_call 26; (with_reducible refine (Take_nil Z x0 HOK.out).mono ?_); rintro e1 w1 ⟨rfl, hb⟩; have B1 := Lib.hid hb; have R1 := Lib.hid ((hb.block _ (Array.getElem?_eq_some_iff.1 R0.out).1).trans R0.out); have Z1 := Lib.hid ((hb.block _ (Array.getElem?_eq_some_iff.1 Z0.out).1).trans Z0.out); clear hb)
    | ((with_reducible show wpList _ _ _ (Oper.mk (some 31) _ _ _ _ _ :: _) _ _); refine wpList_load_row rfl 67 (.tmp 2) rfl mb rfl 67 _ (0, 0) _ R1.out Try.underlying67 rfl (by rw [HOK.out.size]; exact size_msg) ?_)
    | (go_at_call 26; (with_reducible refine (Take_empty w1 x0 HOK.out Z1.out).mono ?_); rintro e1 w2 ⟨rfl, hb⟩; have B2 := Lib.hid hb; clear hb)
    | (go_at_call 35; (with_reducible refine (Entry_nil w2 0).mono ?_); rintro e1 w3 ⟨rfl, hb⟩; have B3 := Lib.hid hb; clear hb)
    | ((with_reducible show wpList _ _ _ (Oper.mk none (Op.store 84 _ _) _ _ _ _ :: _) _ _); refine wpList_put rfl 84 (.tmp 11) (.tmp 39) rfl w3.heap.size 0 (.agg (ecells (zeroE) none 0)) rfl rfl 84 #[.int .i64 0, .bool false, .bool false, .bool false, .bool false, .bool false, .int .i64 0, .int .i64 0, .int .i64 0, .bool false, .slice none 0 0] (heap_alloc_new w3 _) (by kernel_rfl) (Nat.le_of_ble_eq_true rfl) (ent_one _ _ _) (ecells (zeroE) none 0) rfl ?_; refine Hm.Stop.out ?_))
  refine ⟨?_⟩
  obtain ⟨W4, hW4⟩ : ∃ W4, W4 = (w3.alloc (.cells #[.int .i64 0, .bool false, .bool false, .bool false, .bool false, .bool false, .int .i64 0, .int .i64 0, .int .i64 0, .bool false, .slice none 0 0] 84)).setRow w3.heap.size (ecells zeroE none 0) := ⟨_, rfl⟩
  have BB := Lib.hid (show Below w.heap.size w w3 from ((B0.out.trans (B1.out.mono B0.out.size)).trans (B2.out.mono (Nat.le_trans B0.out.size B1.out.size))).trans (B3.out.mono (Nat.le_trans B0.out.size (Nat.le_trans B1.out.size B2.out.size))))
  have B4 := Lib.hid (show Below w.heap.size w W4 by rw [hW4]; exact BB.out.trans ((set_below ((Below.refl _ _).alloc (Nat.le_refl _) _) _).mono BB.out.size))
  obtain ⟨eb, heb⟩ : ∃ eb, eb = w3.heap.size := ⟨_, rfl⟩
  rw [← hW4, ← heb]
  clear hW4 heb
  go_wp2_with (first
    | (go_at_call 37; (with_reducible refine (New_nil W4).mono ?_); rintro e1 w5 ⟨rfl, hb⟩; have B5 := Lib.hid hb; clear hb)
    | (go_at_call 38; (refine (new_yes 16 img16 w5).mono ?_); rintro e1 w6 ⟨q, r, rfl, him, h1, h2, hb⟩; have B6 := Lib.hid hb; have IM := Lib.hid him; clear hb him h1 h2)
    | (go_at_call 37; (with_reducible refine (New_any w6 IM.out).mono ?_); rintro e2 w7 ⟨p, d, rfl, hd, ho, hb⟩; have B7 := Lib.hid hb; have HD := Lib.hid (show Hd w7 p d 0 H16 from hd); clear hb hd ho; refine Hm.Stop.out ?_))
  refine ⟨?_⟩
  have B57 := Lib.hid (show Below w.heap.size w w7 from ((B4.out.trans (B5.out.mono B4.out.size)).trans (B6.out.mono (Nat.le_trans B4.out.size B5.out.size))).trans (B7.out.mono (Nat.le_trans B4.out.size (Nat.le_trans B5.out.size B6.out.size))))
  have KE := Lib.hid (Entry_ok (n := 0) w7 HD.out (by decide) (by decide) (by decide))
  have KE2 := Lib.hid (show Calls Try.prog 35 #[.pointer (some ⟨p, 0, none⟩), .int .u32 0] w7 _ from KE.out)
  go_wp2_with (first
    | (go_at_call 35; (with_reducible refine KE2.out.mono ?_); rintro e1 w8 ⟨qa, qc, rfl, ho, hb⟩; have B8 := Lib.hid hb; clear hb ho)
    | ((with_reducible show wpList _ _ _ (Oper.mk none (Op.store 84 _ _) _ _ _ _ :: _) _ _); refine wpList_put rfl 84 (.tmp 19) (.tmp 58) rfl w8.heap.size 0 (.agg (ecells (H16.ent 0) qa qc)) rfl rfl 84 #[.int .i64 0, .bool false, .bool false, .bool false, .bool false, .bool false, .int .i64 0, .int .i64 0, .int .i64 0, .bool false, .slice none 0 0] (heap_alloc_new w8 _) (by kernel_rfl) (Nat.le_of_ble_eq_true rfl) (ent_one _ _ _) (ecells (H16.ent 0) qa qc) rfl ?_; refine Hm.Stop.out ?_))
  refine ⟨?_⟩
  obtain ⟨W9, hW9⟩ : ∃ W9, W9 = (w8.alloc (.cells #[.int .i64 0, .bool false, .bool false, .bool false, .bool false, .bool false, .int .i64 0, .int .i64 0, .int .i64 0, .bool false, .slice none 0 0] 84)).setRow w8.heap.size (ecells (H16.ent 0) qa qc) := ⟨_, rfl⟩
  have BA := Lib.hid (show Below w.heap.size w w8 from B57.out.trans (B8.out.mono B57.out.size))
  have B9 := Lib.hid (show Below w.heap.size w W9 by rw [hW9]; exact BA.out.trans ((set_below ((Below.refl _ _).alloc (Nat.le_refl _) _) _).mono BA.out.size))
  obtain ⟨fb, hfb⟩ : ∃ fb, fb = w8.heap.size := ⟨_, rfl⟩
  rw [← hW9, ← hfb]
  clear hW9 hfb
  go_wp2_with (first
    | (go_at_call 39; (with_reducible refine (Memory_nil _).mono ?_); rintro e1 w9 ⟨rfl, rfl⟩)
    | (go_at_call 31; (with_reducible refine (Lines_nil _).mono ?_); rintro e1 w9 ⟨rfl, rfl⟩)
    | (go_at_call 33; (with_reducible refine (Idle_nil _).mono ?_); rintro e1 w9 ⟨rfl, rfl⟩)
    | (go_at_call 34; (with_reducible refine (Copy_nil _).mono ?_); rintro e1 w9 ⟨rfl, rfl⟩)
    | (go_at_call 25; (with_reducible refine (known_any _).mono ?_); rintro e1 w10 ⟨rfl, hb⟩; have B10 := Lib.hid hb; clear hb))
  go_ret
  exact ⟨rfl, B9.out.trans (B10.out.mono B9.out.size)⟩
set_option maxHeartbeats 16000000 in
theorem nil_more (w : World) (x0 : E) (b0 : Ok x0) (n : Nat) (hn : n ≤ 4294967295) (hp : 0 < n) :
    Calls Try.prog 8 #[.agg (cells x0).toArray, .int .u32 (n : Int)] w fun e w' => e = .returned (.bool true) ∧ Below w.heap.size w w' := by
  have HNU := Lib.hid hn; have HP := Lib.hid hp
  have hpi : (0 : Int) < (n : Int) := by omega
  clear hn hp
  obtain ⟨mb, hmb⟩ : ∃ mb, mb = w.heap.size := ⟨_, rfl⟩
  obtain ⟨zb, hzb⟩ : ∃ zb, zb = w.heap.size + 1 := ⟨_, rfl⟩
  obtain ⟨B, hB⟩ : ∃ B, B = w.alloc (.cells (cells x0).toArray 67) := ⟨_, rfl⟩
  obtain ⟨Z, hZ⟩ : ∃ Z, Z = B.alloc (.cells #[.pointer none, .map none] 92) := ⟨_, rfl⟩
  have hbs : B.heap.size = w.heap.size + 1 := by rw [hB]; simp
  have bb : Below w.heap.size w B := by rw [hB]; exact (Below.refl _ _).alloc (Nat.le_refl _) _
  have bz : Below B.heap.size B Z := by rw [hZ]; exact (Below.refl _ _).alloc (Nat.le_refl _) _
  have r0 : B.heap[mb]? = some (.cells (cells x0).toArray 67 (0, 0)) := by rw [hB, hmb]; exact heap_alloc_new _ _
  have R0 := Lib.hid ((bz.block _ (Array.getElem?_eq_some_iff.1 r0).1).trans r0)
  have Z0 := Lib.hid (show Z.heap[zb]? = some (.cells #[.pointer none, .map none] 92 (0, 0)) by rw [hZ, hzb, ← hbs]; exact heap_alloc_new _ _)
  have B0 := Lib.hid (bb.trans (bz.mono bb.size))
  have HZ := Lib.hid (show Z = (w.alloc (.cells (cells x0).toArray 67)).alloc (.cells #[.pointer none, .map none] 92) by rw [hZ, hB])
  have HMB := Lib.hid hmb; have HZB := Lib.hid hzb; have HOK := Lib.hid b0
  clear hmb hzb hB hZ hbs bb bz r0 b0
  go_enter Try.func8, Try.ntmps8
  go_wp2_with (first
    | ((with_reducible show wpList _ _ _ (Oper.mk (some 25) _ _ _ _ _ :: _) _ _); rw [← HZ.out, ← HZB.out, ← HMB.out]; refine wpList_load_row rfl 67 (.tmp 2) rfl mb rfl 67 _ (0, 0) _ R0.out Try.underlying67 rfl (by rw [HOK.out.size]; exact size_msg) ?_)
    | (go_at_call 26; (with_reducible refine (Take_nil Z x0 HOK.out).mono ?_); rintro e1 w1 ⟨rfl, hb⟩; have B1 := Lib.hid hb; have R1 := Lib.hid ((hb.block _ (Array.getElem?_eq_some_iff.1 R0.out).1).trans R0.out); have Z1 := Lib.hid ((hb.block _ (Array.getElem?_eq_some_iff.1 Z0.out).1).trans Z0.out); clear hb)
    | ((with_reducible show wpList _ _ _ (Oper.mk (some 31) _ _ _ _ _ :: _) _ _); refine wpList_load_row rfl 67 (.tmp 2) rfl mb rfl 67 _ (0, 0) _ R1.out Try.underlying67 rfl (by rw [HOK.out.size]; exact size_msg) ?_)
    | (go_at_call 26; (with_reducible refine (Take_empty w1 x0 HOK.out Z1.out).mono ?_); rintro e1 w2 ⟨rfl, hb⟩; have B2 := Lib.hid hb; clear hb)
    | (go_at_call 35; (with_reducible refine (Entry_nil w2 (n : Int)).mono ?_); rintro e1 w3 ⟨rfl, hb⟩; have B3 := Lib.hid hb; clear hb)
    | ((with_reducible show wpList _ _ _ (Oper.mk none (Op.store 84 _ _) _ _ _ _ :: _) _ _); refine wpList_put rfl 84 (.tmp 11) (.tmp 39) rfl w3.heap.size 0 (.agg (ecells (zeroE) none 0)) rfl rfl 84 #[.int .i64 0, .bool false, .bool false, .bool false, .bool false, .bool false, .int .i64 0, .int .i64 0, .int .i64 0, .bool false, .slice none 0 0] (heap_alloc_new w3 _) (by kernel_rfl) (Nat.le_of_ble_eq_true rfl) (ent_one _ _ _) (ecells (zeroE) none 0) rfl ?_; refine Hm.Stop.out ?_))
  refine ⟨?_⟩
  obtain ⟨W4, hW4⟩ : ∃ W4, W4 = (w3.alloc (.cells #[.int .i64 0, .bool false, .bool false, .bool false, .bool false, .bool false, .int .i64 0, .int .i64 0, .int .i64 0, .bool false, .slice none 0 0] 84)).setRow w3.heap.size (ecells zeroE none 0) := ⟨_, rfl⟩
  have BB := Lib.hid (show Below w.heap.size w w3 from ((B0.out.trans (B1.out.mono B0.out.size)).trans (B2.out.mono (Nat.le_trans B0.out.size B1.out.size))).trans (B3.out.mono (Nat.le_trans B0.out.size (Nat.le_trans B1.out.size B2.out.size))))
  have B4 := Lib.hid (show Below w.heap.size w W4 by rw [hW4]; exact BB.out.trans ((set_below ((Below.refl _ _).alloc (Nat.le_refl _) _) _).mono BB.out.size))
  obtain ⟨eb, heb⟩ : ∃ eb, eb = w3.heap.size := ⟨_, rfl⟩
  rw [← hW4, ← heb]
  clear hW4 heb
  go_wp2_with (first
    | (go_at_call 37; (with_reducible refine (New_nil W4).mono ?_); rintro e1 w5 ⟨rfl, hb⟩; have B5 := Lib.hid hb; clear hb)
    | (go_at_call 38; (refine (new_yes 16 img16 w5).mono ?_); rintro e1 w6 ⟨q, r, rfl, him, h1, h2, hb⟩; have B6 := Lib.hid hb; have IM := Lib.hid him; clear hb him h1 h2)
    | (go_at_call 37; (with_reducible refine (New_any w6 IM.out).mono ?_); rintro e2 w7 ⟨p, d, rfl, hd, ho, hb⟩; have B7 := Lib.hid hb; have HD := Lib.hid (show Hd w7 p d 0 H16 from hd); clear hb hd ho; refine Hm.Stop.out ?_))
  refine ⟨?_⟩
  have B57 := Lib.hid (show Below w.heap.size w w7 from ((B4.out.trans (B5.out.mono B4.out.size)).trans (B6.out.mono (Nat.le_trans B4.out.size B5.out.size))).trans (B7.out.mono (Nat.le_trans B4.out.size (Nat.le_trans B5.out.size B6.out.size))))
  have KE := Lib.hid (Entry_bad (n := n) w7 HD.out HNU.out (by have := HP.out; show ¬ n * 16 < 16; omega))
  go_wp2_with (first
    | (go_at_call 35; (with_reducible refine KE.out.mono ?_); rintro e1 w8 ⟨rfl, hb⟩; have B8 := Lib.hid hb; clear hb)
    | ((with_reducible show wpList _ _ _ (Oper.mk none (Op.store 84 _ _) _ _ _ _ :: _) _ _); refine wpList_put rfl 84 (.tmp 19) (.tmp 58) rfl w8.heap.size 0 (.agg (ecells (zeroE) none 0)) rfl rfl 84 #[.int .i64 0, .bool false, .bool false, .bool false, .bool false, .bool false, .int .i64 0, .int .i64 0, .int .i64 0, .bool false, .slice none 0 0] (heap_alloc_new w8 _) (by kernel_rfl) (Nat.le_of_ble_eq_true rfl) (ent_one _ _ _) (ecells (zeroE) none 0) rfl ?_; refine Hm.Stop.out ?_))
  refine ⟨?_⟩
  obtain ⟨W9, hW9⟩ : ∃ W9, W9 = (w8.alloc (.cells #[.int .i64 0, .bool false, .bool false, .bool false, .bool false, .bool false, .int .i64 0, .int .i64 0, .int .i64 0, .bool false, .slice none 0 0] 84)).setRow w8.heap.size (ecells (zeroE) none 0) := ⟨_, rfl⟩
  have BA := Lib.hid (show Below w.heap.size w w8 from B57.out.trans (B8.out.mono B57.out.size))
  have B9 := Lib.hid (show Below w.heap.size w W9 by rw [hW9]; exact BA.out.trans ((set_below ((Below.refl _ _).alloc (Nat.le_refl _) _) _).mono BA.out.size))
  obtain ⟨fb, hfb⟩ : ∃ fb, fb = w8.heap.size := ⟨_, rfl⟩
  rw [← hW9, ← hfb]
  clear hW9 hfb
  go_wp2_with (first
    | (go_at_call 39; (with_reducible refine (Memory_nil _).mono ?_); rintro e1 w9 ⟨rfl, rfl⟩)
    | (go_at_call 31; (with_reducible refine (Lines_nil _).mono ?_); rintro e1 w9 ⟨rfl, rfl⟩)
    | (go_at_call 33; (with_reducible refine (Idle_nil _).mono ?_); rintro e1 w9 ⟨rfl, rfl⟩)
    | (go_at_call 34; (with_reducible refine (Copy_nil _).mono ?_); rintro e1 w9 ⟨rfl, rfl⟩)
    | (go_at_call 25; (with_reducible refine (known_any _).mono ?_); rintro e1 w10 ⟨rfl, hb⟩; have B10 := Lib.hid hb; clear hb))
  go_ret
  exact ⟨rfl, B9.out.trans (B10.out.mono B9.out.size)⟩
set_option maxRecDepth 100000 in
set_option maxHeartbeats 400000 in
theorem walk (w : World) (x0 : Nt.E) (b0 : Nt.Ok x0) (a1 : Int) (w1 : (Lit.int .u32 a1).wf = true) :
    Calls Try.prog 8 #[Nt.EV x0, .int .u32 a1] w fun e w' => e = .returned (.bool true) ∧ Below w.heap.size w w' := by
  obtain ⟨n, hn⟩ : ∃ n : Nat, a1 = (n : Int) := ⟨a1.toNat, by have := u32_of_wf w1; unfold Ev.u32B at this; omega⟩
  subst hn
  have hnu : n ≤ 4294967295 := by have := u32_of_wf w1; unfold Ev.u32B at this; omega
  by_cases h : 0 < n
  · exact nil_more w x0 b0 n hnu h
  · obtain rfl : n = 0 := by omega
    exact nil_zero w x0 b0
set_option maxRecDepth 100000 in
theorem lifted (os : Os) (started : os.Started) (H : Type) (enc : TypeId × Value → H) :
    ReturnsInHanded {} Try.checked os 8 .any (Rows.homeNilSpec.pre6 enc Try.prog Try.f8 Rows.homeNilRow.domain false) (Rows.homeNilSpec.post enc Try.prog Try.f8 false true false false) := by
  refine returnsInHanded_of_change (C := Try.checked) own started (by kernel_rfl) Try.func8
    (ChangeSpec.witness6 (enc := enc) (C := Try.checked) false ⟨#[], #[.agg #[.int .i64 0, .int .i64 0, .int .i64 0, .int .u32 0, .int .u8 0, .int .u8 0, .int .u8 0, .int .u8 0, .int .u8 0, .int .u8 0, .int .u8 0, .int .u8 0, .int .u8 0, .int .u8 0, .int .u8 0, .int .u8 0, .int .u8 0, .int .u8 0, .int .u8 0, .int .u8 0], .int .u32 0], []⟩ 8 (by kernel_rfl) (by kernel_rfl) (by kernel_rfl) (by kernel_rfl)) ?_
  intro W base args ds gs before hval0 hW hcnd _
  have hval : ∀ (j : Nat) t v, Try.f8.params[j]? = some t → args[j]? = some v → Value.okWide Try.prog W .any base t v := hval0
  have hW' := hW
  obtain ⟨p, q, hA0, hV, rfl, hfz, hnd⟩ := hW
  have hA : DataW.TrodAll enc Try.prog W 0 (fun _ => true) true Try.f8.params.toList args.toList ds p := hA0
  rw [Try.params8] at hA hval
  obtain ⟨v0, vs0, d0, ds0, p0, q0, hargs, rfl, rfl, h0, r0⟩ := trodAll_cons hA
  obtain ⟨v1, vs1, d1, ds1, p1, q1, rfl, rfl, rfl, h1, r1⟩ := trodAll_cons r0
  obtain ⟨rfl, rfl, rfl⟩ := trodAll_nil r1
  obtain rfl : args = #[v0, v1] := by cases args; simp_all
  obtain ⟨rfl, rfl⟩ := trodVars_none hV
  clear hA0 hval0
  simp only [List.append_nil] at hW'
  have hlt : ∀ x ∈ p0 ++ (p1), x.block < W.heap.size := fun x hx => by simpa using hW'.lt x (by simpa using hx)
  obtain ⟨x0, rfl, b0⟩ := open_msg (hval 0 67 v0 rfl rfl) h0
  have h1k := h1
  obtain ⟨a1, rfl, rfl, rfl, w1⟩ := open_int Try.underlying23 (hval 1 23 v1 rfl rfl) h1
  refine (walk W x0 b0 a1 w1).mono fun e W' ⟨he, hb⟩ => ?_
  subst he
  have harg0 : DataW.Trod enc Try.prog W' 0 (fun b => decide (b < W.heap.size)) true 67 _ _ _ := Below.trod laidOut (by kernel_rfl) (of_decide_eq_true (by kernel_rfl)) h0 hb (fun x hx => hlt x (by simp [hx]))
  have harg1 : DataW.Trod enc Try.prog W' 0 (fun b => decide (b < W.heap.size)) true 23 _ _ _ := Below.trod laidOut (by kernel_rfl) (of_decide_eq_true (by kernel_rfl)) h1k hb (fun x hx => by cases hx)
  exact ⟨_, rfl, _, _, _, [], _, [], hW', trodAll_mk1 (shut_bool Try.underlying4 _), (trodAll_cons_mk harg0 (trodAll_cons_mk harg1 trodAll_mk0)), rfl, hb.frame _, fun h => by cases h⟩
theorem over : Rows.homeNilRow.holds Try.pinned (OpenSpec.ofChange Rows.homeNilSpec) :=
  OpenClaim.holds_of_wide 8 Try.f8 rfl rfl rfl rfl rfl rfl rfl ⟨rfl, rfl, rfl, rfl, rfl⟩ rfl rfl rfl rfl rfl (by kernel_rfl) Try.func8 (by kernel_rfl)
    (of_decide_eq_true (by kernel_rfl)) (by unfold Func.isWrapper; first | (rw [if_pos (by decide +kernel)]; kernel_rfl) | (rw [if_neg (by decide +kernel)]; exact ⟨rfl, rfl⟩))
    (fun os started H enc _ => lifted os started H enc)
theorem proved : Rows.HomeNilSaid :=
  over
end Go.Proofs.Ytfajkgbpeapcbaa.homeNil
end
