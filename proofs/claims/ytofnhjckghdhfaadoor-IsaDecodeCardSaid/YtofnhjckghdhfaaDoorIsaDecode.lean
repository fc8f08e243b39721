/-
  IsaDecode: for every input the statement's function returns true, with no condition; each argument reads behind the call as before. By contracts of the program's and the document's functions. The card ties the listed variables of the library to the program's text.
-/
import Derived.Test.YtofnhjckghdhfaaDoorIsOpen
namespace Go.Proofs.YtofnhjckghdhfaaDoor.isaDecode
open Go.ChangeShapes Go.WideShapes Go.ChangeAt Go.RowKit
set_option linter.unusedVariables false

/-! THE WALK: the Go text returns true; of memory nothing that stood there has turned. -/
set_option maxRecDepth 100000 in
set_option maxHeartbeats 400000 in
theorem walk (w : World) (a0 : Int) (w0 : (Lit.int .u32 a0).wf = true) :
    Calls Tryd.prog 3 #[.int .u32 a0] w fun e w' => e = .returned (.bool true) ∧ Below w.heap.size w w' := by
  have hx := wf_u32 w0
  by_cases hex : ∃ op : Nat, (1 ≤ op ∧ op ≤ 59) ∧ Is.hit (Is.fm op) a0 op
  · obtain ⟨op, ho, hh⟩ := hex
    have HO := Lib.hid ho; have HH := Lib.hid hh; have HX := Lib.hid hx; clear ho hh hx
    go_enter Tryd.func3, Tryd.ntmps3
    go_wp2_with fail
    refine (dec_is a0 HX.out op HO.out HH.out _).mono ?_
    rintro e w1 ⟨rfl, hb1⟩
    unfold inst
    have HB1 := Lib.hid hb1; clear hb1
    go_wp2_with fail
    refine (rdec_is a0 HX.out op HO.out HH.out _).mono ?_
    rintro e w2 ⟨rfl, hb2⟩
    unfold inst
    have hc0 : w2.cell? ⟨w1.heap.size, 0, none⟩ = some (.int .i64 (op : Int)) := (hb2.cell (p := ⟨w1.heap.size, 0, none⟩) (by simp)).trans (by go_simp)
    have hc1 : w2.cell? ⟨w1.heap.size, 1, none⟩ = some (.int .i64 (Is.rdO (Is.fm op) a0)) := (hb2.cell (p := ⟨w1.heap.size, 1, none⟩) (by simp)).trans (by go_simp)
    have hc2 : w2.cell? ⟨w1.heap.size, 2, none⟩ = some (.int .i64 (Is.rs1O (Is.fm op) a0)) := (hb2.cell (p := ⟨w1.heap.size, 2, none⟩) (by simp)).trans (by go_simp)
    have hc3 : w2.cell? ⟨w1.heap.size, 3, none⟩ = some (.int .i64 (Is.rs2O (Is.fm op) a0)) := (hb2.cell (p := ⟨w1.heap.size, 3, none⟩) (by simp)).trans (by go_simp)
    have hc4 : w2.cell? ⟨w1.heap.size, 4, none⟩ = some (.int .u32 (Is.immO (Is.fm op) a0)) := (hb2.cell (p := ⟨w1.heap.size, 4, none⟩) (by simp)).trans (by go_simp)
    have hc5 : w2.cell? ⟨w1.heap.size, 5, none⟩ = some (.bool (Is.aqO (Is.fm op) a0)) := (hb2.cell (p := ⟨w1.heap.size, 5, none⟩) (by simp)).trans (by go_simp)
    have hc6 : w2.cell? ⟨w1.heap.size, 6, none⟩ = some (.bool (Is.rlO (Is.fm op) a0)) := (hb2.cell (p := ⟨w1.heap.size, 6, none⟩) (by simp)).trans (by go_simp)
    have hz1 : w1.heap.size < w2.heap.size := by have := hb2.size; simp at this; omega
    have HB2 := Lib.hid ((HB1.out.alloc HB1.out.size _).trans (hb2.mono (by have := HB1.out.size; simp; omega))); clear hb2
    go_wp2_with fail
    have HEN := Lib.hid (fun w => enc_yes op HO.out (Is.rdO_bd (Is.fm op) a0) (Is.rs1O_bd (Is.fm op) a0) (Is.rs2O_bd (Is.fm op) a0) (Is.immO_wd (Is.fm op) HX.out) (Is.may_take (Is.fm op) (Is.fm_in op HO.out) HX.out) w)
    have HWO := Lib.hid (Is.word_of_hit HO.out HX.out HH.out)
    refine (HEN.out _).mono ?_
    rintro e w3 ⟨rfl, hb3⟩
    rw [HWO.out]
    have HB3 := Lib.hid ((HB2.out.alloc HB2.out.size _).trans (hb3.mono (by have := HB2.out.size; simp; omega))); clear hb3
    go_wp2_with fail
    refine (known_any _).mono ?_
    rintro e w4 ⟨rfl, hb4⟩
    have HB4 := Lib.hid (HB3.out.trans (hb4.mono HB3.out.size)); clear hb4
    go_wp2_with fail
    go_ret
    exact ⟨rfl, HB4.out⟩
  · have hn : ∀ op : Nat, 1 ≤ op ∧ op ≤ 59 → ¬ Is.hit (Is.fm op) a0 op := fun op h1 h2 => hex ⟨op, h1, h2⟩
    have HN := Lib.hid hn; have HX := Lib.hid hx; clear hn hx hex
    go_enter Tryd.func3, Tryd.ntmps3
    go_wp2_with fail
    refine (dec_none a0 HX.out HN.out _).mono ?_
    rintro e w1 ⟨rfl, hb1⟩
    unfold inst
    have HB1 := Lib.hid hb1; clear hb1
    go_wp2_with fail
    refine (rdec_none a0 HX.out HN.out _).mono ?_
    rintro e w2 ⟨rfl, hb2⟩
    unfold inst
    have hc0 : w2.cell? ⟨w1.heap.size, 0, none⟩ = some (.int .i64 0) := (hb2.cell (p := ⟨w1.heap.size, 0, none⟩) (by simp)).trans (by go_simp)
    have hc1 : w2.cell? ⟨w1.heap.size, 1, none⟩ = some (.int .i64 0) := (hb2.cell (p := ⟨w1.heap.size, 1, none⟩) (by simp)).trans (by go_simp)
    have hc2 : w2.cell? ⟨w1.heap.size, 2, none⟩ = some (.int .i64 0) := (hb2.cell (p := ⟨w1.heap.size, 2, none⟩) (by simp)).trans (by go_simp)
    have hc3 : w2.cell? ⟨w1.heap.size, 3, none⟩ = some (.int .i64 0) := (hb2.cell (p := ⟨w1.heap.size, 3, none⟩) (by simp)).trans (by go_simp)
    have hc4 : w2.cell? ⟨w1.heap.size, 4, none⟩ = some (.int .u32 0) := (hb2.cell (p := ⟨w1.heap.size, 4, none⟩) (by simp)).trans (by go_simp)
    have hc5 : w2.cell? ⟨w1.heap.size, 5, none⟩ = some (.bool false) := (hb2.cell (p := ⟨w1.heap.size, 5, none⟩) (by simp)).trans (by go_simp)
    have hc6 : w2.cell? ⟨w1.heap.size, 6, none⟩ = some (.bool false) := (hb2.cell (p := ⟨w1.heap.size, 6, none⟩) (by simp)).trans (by go_simp)
    have hz1 : w1.heap.size < w2.heap.size := by have := hb2.size; simp at this; omega
    have HB2 := Lib.hid ((HB1.out.alloc HB1.out.size _).trans (hb2.mono (by have := HB1.out.size; simp; omega))); clear hb2
    go_wp2_with fail
    refine (enc_bad 0 0 0 0 0 false false (by omega) (by omega) _).mono ?_
    rintro e w3 ⟨rfl, hb3⟩
    have HB3 := Lib.hid ((HB2.out.alloc HB2.out.size _).trans (hb3.mono (by have := HB2.out.size; simp; omega))); clear hb3
    go_wp2_with fail
    refine (known_any _).mono ?_
    rintro e w4 ⟨rfl, hb4⟩
    have HB4 := Lib.hid (HB3.out.trans (hb4.mono HB3.out.size)); clear hb4
    go_wp2_with fail
    go_ret
    exact ⟨rfl, HB4.out⟩

/-! THE ROW -/
set_option maxRecDepth 100000 in
theorem contract (H : Type) (enc : TypeId × Value → H) (W : World) (base : Nat) (args : Array Value) (ds gs : List (DataW H)) (before : List MemPlace)
    (hval0 : ∀ (j : Nat) t v, Tryd.f3.params[j]? = some t → args[j]? = some v → Value.okWide Tryd.prog W .any base t v)
    (hW : DataW.Whole enc Tryd.prog Tryd.f3.params.toList Rows.isaDecodeSpec.vars false W args.toList ds gs before) (hL : laidMet Tryd.prog Rows.isaDecodeRow.laid W) :
    Calls Tryd.prog 3 args W fun e W' => ∃ v, e = .returned v ∧ Rows.isaDecodeSpec.post enc Tryd.prog Tryd.f3 false true false false W args v W' := by
  have hval : ∀ (j : Nat) t v, Tryd.f3.params[j]? = some t → args[j]? = some v → Value.okWide Tryd.prog W .any base t v := hval0
  have hW' := hW
  obtain ⟨p, q, hA0, hV, rfl, hfz, hnd⟩ := hW
  have hA : DataW.TrodAll enc Tryd.prog W 0 (fun _ => true) true Tryd.f3.params.toList args.toList ds p := hA0
  rw [Tryd.params3] at hA hval
  obtain ⟨v0, vs0, d0, ds0, p0, q0, hargs, rfl, rfl, h0, r0⟩ := trodAll_cons hA
  obtain ⟨rfl, rfl, rfl⟩ := trodAll_nil r0
  obtain rfl : args = #[v0] := by cases args; simp_all
  obtain ⟨rfl, rfl⟩ := trodVars_none hV
  clear hA0 hval0
  simp only [List.append_nil] at hW'
  have hlt : ∀ x ∈ p0, x.block < W.heap.size := fun x hx => by simpa using hW'.lt x (by simpa using hx)
  have h0k := h0
  obtain ⟨a0, rfl, rfl, rfl, w0⟩ := open_int Tryd.underlying22 (hval 0 22 v0 rfl rfl) h0
  refine (walk W a0 w0).mono fun e W' ⟨he, hb⟩ => ?_
  subst he
  have harg0 : DataW.Trod enc Tryd.prog W' 0 (fun b => decide (b < W.heap.size)) true 22 _ _ _ := Below.trod laidOut (by kernel_rfl) (of_decide_eq_true (by kernel_rfl)) h0k hb (fun x hx => by cases hx)
  exact ⟨_, rfl, _, _, _, [], _, [], hW', trodAll_mk1 (shut_bool Tryd.underlying4 _), (trodAll_cons_mk harg0 trodAll_mk0), rfl, hb.frame _, fun h => by cases h⟩
theorem laid_met (os : Os) : laidMet Tryd.prog Rows.isaDecodeRow.laid ((laidWorld os).forCall (fun _ _ => 0) ⟨#[], #[.int .u32 0], []⟩).memory :=
  laidMet_of_run' 8 (by kernel_rfl) (by kernel_rfl)
theorem reads (os : Os) {H : Type} (enc : TypeId × Value → H) : ∃ places, DataW.whole enc Tryd.prog ((laidWorld os).forCall (fun _ _ => 0) ⟨#[], #[.int .u32 0], []⟩).memory Tryd.f3.params.toList Rows.isaDecodeSpec.vars false (#[.int .u32 0] : Array Value).toList 8 = some ([.lit (.int .u32 0)], [], places) :=
  ⟨[], by kernel_rfl⟩
set_option maxRecDepth 100000 in
theorem lifted (os : Os) (started : os.Started) (H : Type) (enc : TypeId × Value → H) (F : Stop.Interp) :
    ReturnsInHanded {} Tryd.checked os 3 .any ((OpenSpec.ofChange Rows.isaDecodeSpec).preRow enc Tryd.prog Tryd.f3 Rows.isaDecodeRow.domain false Rows.isaDecodeRow.laid) (((OpenSpec.ofChange Rows.isaDecodeSpec).at F).post enc Tryd.prog Tryd.f3 false true false false) := by
  obtain ⟨places, hx⟩ := reads os enc
  refine returnsInHanded_of_row (C := Tryd.checked) (s := OpenSpec.ofChange Rows.isaDecodeSpec) own started (by kernel_rfl) Tryd.func3
    (witness_row_at (enc := enc) (C := Tryd.checked) false (laidWorld os) #[.int .u32 0] rfl (by kernel_rfl) (by kernel_rfl) (by kernel_rfl)
      (OpenSpec.preRow_of_cond 8 hx (by kernel_rfl) (fun k hk => by cases hk) (by kernel_rfl) (laid_met os))) ?_
  intro W base args ds gs before hval hW _ _ _ hL _ _
  exact contract H enc W base args ds gs before hval hW hL
theorem said : Rows.IsaDecodeSaid :=
  OpenClaim.holds_of_cond 3 Tryd.f3 rfl rfl rfl rfl rfl rfl rfl ⟨rfl, rfl, rfl, rfl, rfl⟩ rfl rfl rfl rfl rfl (by kernel_rfl) Tryd.func3 (by kernel_rfl)
    (of_decide_eq_true (by kernel_rfl)) (by unfold Func.isWrapper; first | (rw [if_pos (by decide +kernel)]; kernel_rfl) | (rw [if_neg (by decide +kernel)]; exact ⟨rfl, rfl⟩))
    (fun os started H enc _ F => by rw [OpenClaim.pre_eq_preRow]; exact lifted os started H enc F)
/-- no parameter wants a stand-in; the program's own looks are off: what the card asks -/
theorem plain (f : FuncId) (fn : Func) (hf : Tryd.pinned.checked.prog.funcNamed "quadrille/quadrillelaw03.IsaDecode" = some f) (hfn : Tryd.pinned.checked.prog.funcs[f]? = some fn) :
    false = Tryd.pinned.checked.prog.looks [] ∧ ∀ (j : Nat) t, fn.params[j]? = some t → Tryd.pinned.checked.prog.wantsStandIn t = false := by
  obtain rfl : f = 3 := Option.some.inj ((show Tryd.prog.funcNamed "quadrille/quadrillelaw03.IsaDecode" = some 3 by kernel_rfl).symm.trans hf) |>.symm
  obtain rfl : fn = Tryd.f3 := (Option.some.inj (Tryd.func3.symm.trans hfn)).symm
  refine ⟨by kernel_rfl, fun j t ht => ?_⟩
  rw [Tryd.params3] at ht
  obtain rfl : t = 22 := by simpa using Array.mem_of_getElem? ht
  exact (show Tryd.prog.wantsStandIn 22 = false by kernel_rfl)
/-- THE STATEMENT: the card -/
theorem proved : Rows.IsaDecodeCardSaid :=
  Claim7.holds_tied_plain_at .later [] _ _ _ _ said (fun _ h => by cases h) (by kernel_rfl) (fun _ h => by cases h) isaDecode_row_tie rfl ⟨rfl, rfl⟩ (by kernel_rfl) rfl plain (by kernel_rfl)
end Go.Proofs.YtofnhjckghdhfaaDoor.isaDecode
