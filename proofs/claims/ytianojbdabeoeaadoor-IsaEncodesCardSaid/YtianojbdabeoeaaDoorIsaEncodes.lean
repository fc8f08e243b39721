/-
  IsaEncodes: for every input the statement's function returns true, with no condition; each argument reads behind the call as before. By contracts of the program's and the document's functions. The card ties the listed variables of the library to the program's text.
-/
import Derived.Test.YtianojbdabeoeaaDoorIsInsts
namespace Go.Proofs.YtianojbdabeoeaaDoor.isaEncodes
open Go.ChangeShapes Go.WideShapes Go.ChangeAt Go.RowKit
set_option linter.unusedVariables false

/-! THE WALK: the Go text returns true; of memory nothing that stood there has turned. -/
set_option maxRecDepth 100000 in
set_option maxHeartbeats 8000000 in
theorem walk (w : World) (a0 : Option Addr) (n0 c0 : Nat) (x0 : List Is.IV) (l0 : x0.length = n0) (m0 : n0 ≤ 9223372036854775807) (b0 : InstsIn w a0 x0) :
    Calls Tryd.prog 3 #[.slice a0 n0 c0] w fun e w' => e = .returned (.bool true) ∧ Below w.heap.size w w' := by
  have HB := Lib.hid b0; clear b0
  have HLn := Lib.hid l0; clear l0
  by_cases hlong : 60 < n0
  · go_enter Tryd.func3, Tryd.ntmps3
    go_wp2_with fail
    refine (known_any _).mono ?_
    rintro e w3 ⟨rfl, hb3⟩
    have HB3 := Lib.hid hb3; clear hb3
    go_wp2_with fail
    go_ret
    exact ⟨rfl, HB3.out⟩
  · have hle : n0 ≤ 60 := by omega
    clear hlong
    go_enter Tryd.func3, Tryd.ntmps3
    go_wp2_with fail
    go_loopw [3, 4, 5, 6] (fun i _ _ _ wr => ∃ k : Nat, k ≤ n0 ∧ i = .int .i64 (k : Int) ∧ Below w.heap.size w wr) (fun i _ _ _ _ => n0 - (intOf i).toNat)
    case atStart => exact ⟨0, Nat.zero_le _, rfl, Below.refl _ _⟩
    case round =>
      obtain ⟨k, hk, rfl, hbr⟩ := hrel
      have HBR := Lib.hid hbr; clear hbr
      by_cases hlt : k < n0
      · obtain ⟨g, o, ha, hcs⟩ := HB.out.1 (by rw [HLn.out]; omega)
        subst ha
        have hkl : k < x0.length := by rw [HLn.out]; exact hlt
        obtain ⟨v, hv⟩ : ∃ v, x0[k]? = some v := ⟨_, List.getElem?_eq_getElem hkl⟩
        have hok := HB.out.2 v (List.mem_of_getElem? hv)
        have hc0 := hcs k v hv
        obtain ⟨o1, d1, e1, f1, i1, q1, r1⟩ := v
        have hgl := World.block_lt_of_cell? w ⟨g, o + k * 7 + 0, none⟩ (hc0 0 _ rfl)
        have HC := Lib.hid (fun (W : World) (hb : Below w.heap.size w W) i c (hc : (Is.icells ⟨o1, d1, e1, f1, i1, q1, r1⟩)[i]? = some c) => (hb.cell (p := ⟨g, o + k * 7 + i, none⟩) hgl).trans (hc0 i c hc))
        have hki : (k : Int) < (n0 : Int) := by omega
        obtain ⟨wo, wd, we, wf, wi⟩ := hok
        unfold I64 at wo wd we wf
        clear hcs hkl hv hc0 hgl
        by_cases ho : 1 ≤ o1 ∧ o1 ≤ 59
        · obtain ⟨op, rfl⟩ : ∃ op : Nat, o1 = op := ⟨o1.toNat, by omega⟩
          have hop : 1 ≤ op ∧ op ≤ 59 := by omega
          by_cases hm : Is.mayP (Is.fm op) d1 e1 f1 i1 q1 r1
          · have HEN := Lib.hid (fun w => enc_yes op hop wd we wf wi hm w)
            have HMA := Lib.hid (fun w => rmay_yes op hop d1 e1 f1 i1 q1 r1 wi hm w)
            have HRE := Lib.hid (fun w => renc_yes op hop d1 e1 f1 i1 q1 r1 wi hm w)
            clear hm wd we wf wi wo ho hop
            as_aux_lemma =>
              go_wp2_with (refine wpList_load_atW 30 (.tmp 20) rfl (by kernel_rfl) g (o + k * 7) rfl (Is.icells ⟨(op : Int), d1, e1, f1, i1, q1, r1⟩) _ (HC.out wr HBR.out) Tryd.underlying30 rfl (by kernel_rfl) ?_)
              refine (HEN.out _).mono ?_
              rintro e w1 ⟨rfl, hb1⟩
              have HB1 := Lib.hid (HBR.out.trans (hb1.mono HBR.out.size)); clear hb1 HEN
              go_wp2_with (refine wpList_load_atW 30 (.tmp 27) rfl (by kernel_rfl) g (o + k * 7) rfl (Is.icells ⟨(op : Int), d1, e1, f1, i1, q1, r1⟩) _ (HC.out w1 HB1.out) Tryd.underlying30 rfl (by kernel_rfl) ?_)
              refine (HMA.out _).mono ?_
              rintro e w2 ⟨rfl, hb2⟩
              have HB2 := Lib.hid (HB1.out.trans (hb2.mono HB1.out.size)); clear hb2 HMA
              go_wp2_with (show wpList _ _ _ (Oper.mk (some 41) _ _ _ _ _ :: _) _ _; refine wpList_load_atW 30 (.tmp 40) rfl (by kernel_rfl) g (o + k * 7) rfl (Is.icells ⟨(op : Int), d1, e1, f1, i1, q1, r1⟩) _ (HC.out w2 HB2.out) Tryd.underlying30 rfl (by kernel_rfl) ?_)
              refine (HRE.out _).mono ?_
              rintro e w3 ⟨rfl, hb3⟩
              have HB3 := Lib.hid (HB2.out.trans (hb3.mono HB2.out.size)); clear hb3 HRE
              go_wp2_with fail
              go_roundw
              case rel => exact ⟨k + 1, by omega, by go_num, HB3.out⟩
              case measure => simp [intOf]; omega
          · have HEN := Lib.hid (fun w => enc_no op hop wd we wf wi hm w)
            have HMA := Lib.hid (fun w => rmay_no op hop d1 e1 f1 i1 q1 r1 wi hm w)
            clear hm wd we wf wi wo ho hop
            as_aux_lemma =>
              go_wp2_with (refine wpList_load_atW 30 (.tmp 20) rfl (by kernel_rfl) g (o + k * 7) rfl (Is.icells ⟨(op : Int), d1, e1, f1, i1, q1, r1⟩) _ (HC.out wr HBR.out) Tryd.underlying30 rfl (by kernel_rfl) ?_)
              refine (HEN.out _).mono ?_
              rintro e w1 ⟨rfl, hb1⟩
              have HB1 := Lib.hid (HBR.out.trans (hb1.mono HBR.out.size)); clear hb1 HEN
              go_wp2_with (refine wpList_load_atW 30 (.tmp 27) rfl (by kernel_rfl) g (o + k * 7) rfl (Is.icells ⟨(op : Int), d1, e1, f1, i1, q1, r1⟩) _ (HC.out w1 HB1.out) Tryd.underlying30 rfl (by kernel_rfl) ?_)
              refine (HMA.out _).mono ?_
              rintro e w2 ⟨rfl, hb2⟩
              have HB2 := Lib.hid (HB1.out.trans (hb2.mono HB1.out.size)); clear hb2 HMA
              go_wp2_with fail
              go_roundw
              case rel => exact ⟨k + 1, by omega, by go_num, HB2.out⟩
              case measure => simp [intOf]; omega
        · have hn : o1 < 1 ∨ 59 < o1 := by omega
          have HEN := Lib.hid (fun w => enc_bad o1 d1 e1 f1 i1 q1 r1 hn wo w)
          have HMA := Lib.hid (fun w => rmay_bad o1 hn d1 e1 f1 i1 q1 r1 w)
          clear hn wd we wf wi wo ho
          as_aux_lemma =>
            go_wp2_with (refine wpList_load_atW 30 (.tmp 20) rfl (by kernel_rfl) g (o + k * 7) rfl (Is.icells ⟨o1, d1, e1, f1, i1, q1, r1⟩) _ (HC.out wr HBR.out) Tryd.underlying30 rfl (by kernel_rfl) ?_)
            refine (HEN.out _).mono ?_
            rintro e w1 ⟨rfl, hb1⟩
            have HB1 := Lib.hid (HBR.out.trans (hb1.mono HBR.out.size)); clear hb1 HEN
            go_wp2_with (refine wpList_load_atW 30 (.tmp 27) rfl (by kernel_rfl) g (o + k * 7) rfl (Is.icells ⟨o1, d1, e1, f1, i1, q1, r1⟩) _ (HC.out w1 HB1.out) Tryd.underlying30 rfl (by kernel_rfl) ?_)
            refine (HMA.out _).mono ?_
            rintro e w2 ⟨rfl, hb2⟩
            have HB2 := Lib.hid (HB1.out.trans (hb2.mono HB1.out.size)); clear hb2 HMA
            go_wp2_with fail
            go_roundw
            case rel => exact ⟨k + 1, by omega, by go_num, HB2.out⟩
            case measure => simp [intOf]; omega
      · obtain rfl : k = n0 := by omega
        go_wp2_with fail
        refine (known_any _).mono ?_
        rintro e w3 ⟨rfl, hb3⟩
        have HB3 := Lib.hid (HBR.out.trans (hb3.mono HBR.out.size)); clear hb3
        go_wp2_with fail
        go_ret
        exact ⟨rfl, HB3.out⟩

/-! THE ROW -/
set_option maxRecDepth 100000 in
theorem contract (H : Type) (enc : TypeId × Value → H) (W : World) (base : Nat) (args : Array Value) (ds gs : List (DataW H)) (before : List MemPlace)
    (hval0 : ∀ (j : Nat) t v, Tryd.f3.params[j]? = some t → args[j]? = some v → Value.okWide Tryd.prog W .any base t v)
    (hW : DataW.Whole enc Tryd.prog Tryd.f3.params.toList Rows.isaEncodesSpec.vars false W args.toList ds gs before) (hL : laidMet Tryd.prog Rows.isaEncodesRow.laid W) :
    Calls Tryd.prog 3 args W fun e W' => ∃ v, e = .returned v ∧ Rows.isaEncodesSpec.post enc Tryd.prog Tryd.f3 false true false false W args v W' := by
  have hval : ∀ (j : Nat) t v, Tryd.f3.params[j]? = some t → args[j]? = some v → Value.okWide Tryd.prog W .any base t v := hval0
  have hW' := hW
  obtain ⟨p, q, hA0, hV, rfl, hfz, hnd⟩ := hW
  have hA : DataW.TrodAll enc Tryd.prog W 0 (fun _ => true) true Tryd.f3.params.toList args.toList ds p := hA0
  rw [Tryd.params3] at hA hval
  obtain ⟨v0, vs0, d0, ds0, p0, q0, hargs, rfl, rfl, h0, r0⟩ := trodAll_cons hA
  obtain ⟨rfl, rfl, rfl⟩ := trodAll_nil r0
  obtain rfl : args = #[v0] := by cases args; simp_all
  obtain ⟨rfl, rfl⟩ := trodVars_none hV
  clear hA0 hval0
  simp only [List.append_nil] at hW'
  have hlt : ∀ x ∈ p0, x.block < W.heap.size := fun x hx => by simpa using hW'.lt x (by simpa using hx)
  obtain ⟨a0, n0, c0, rfl⟩ := okWide_slice Tryd.underlying22 (hval 0 22 v0 rfl rfl)
  obtain ⟨x0, l0, m0, b0⟩ := open_insts h0
  refine (walk W a0 n0 c0 x0 l0 m0 b0).mono fun e W' ⟨he, hb⟩ => ?_
  subst he
  have harg0 : DataW.Trod enc Tryd.prog W' 0 (fun b => decide (b < W.heap.size)) true 22 _ _ _ := Below.trod laidOut (by kernel_rfl) (of_decide_eq_true (by kernel_rfl)) h0 hb (fun x hx => hlt x (by simp [hx]))
  exact ⟨_, rfl, _, _, _, [], _, [], hW', trodAll_mk1 (shut_bool Tryd.underlying4 _), (trodAll_cons_mk harg0 trodAll_mk0), rfl, hb.frame _, fun h => by cases h⟩
theorem laid_met (os : Os) : laidMet Tryd.prog Rows.isaEncodesRow.laid ((laidWorld os).forCall (fun _ _ => 0) ⟨#[], #[.slice none 0 0], []⟩).memory :=
  laidMet_of_run' 8 (by kernel_rfl) (by kernel_rfl)
theorem reads (os : Os) {H : Type} (enc : TypeId × Value → H) : ∃ places, DataW.whole enc Tryd.prog ((laidWorld os).forCall (fun _ _ => 0) ⟨#[], #[.slice none 0 0], []⟩).memory Tryd.f3.params.toList Rows.isaEncodesSpec.vars false (#[.slice none 0 0] : Array Value).toList 8 = some ([.nil], [], places) :=
  ⟨[], by kernel_rfl⟩
set_option maxRecDepth 100000 in
theorem lifted (os : Os) (started : os.Started) (H : Type) (enc : TypeId × Value → H) (F : Stop.Interp) :
    ReturnsInHanded {} Tryd.checked os 3 .any ((OpenSpec.ofChange Rows.isaEncodesSpec).preRow enc Tryd.prog Tryd.f3 Rows.isaEncodesRow.domain false Rows.isaEncodesRow.laid) (((OpenSpec.ofChange Rows.isaEncodesSpec).at F).post enc Tryd.prog Tryd.f3 false true false false) := by
  obtain ⟨places, hx⟩ := reads os enc
  refine returnsInHanded_of_row (C := Tryd.checked) (s := OpenSpec.ofChange Rows.isaEncodesSpec) own started (by kernel_rfl) Tryd.func3
    (witness_row_at (enc := enc) (C := Tryd.checked) false (laidWorld os) #[.slice none 0 0] rfl (by kernel_rfl) (by kernel_rfl) (by kernel_rfl)
      (OpenSpec.preRow_of_cond 8 hx (by kernel_rfl) (fun k hk => by cases hk) (by kernel_rfl) (laid_met os))) ?_
  intro W base args ds gs before hval hW _ _ _ hL _ _
  exact contract H enc W base args ds gs before hval hW hL
theorem said : Rows.IsaEncodesSaid :=
  OpenClaim.holds_of_cond 3 Tryd.f3 rfl rfl rfl rfl rfl rfl rfl ⟨rfl, rfl, rfl, rfl, rfl⟩ rfl rfl rfl rfl rfl (by kernel_rfl) Tryd.func3 (by kernel_rfl)
    (of_decide_eq_true (by kernel_rfl)) (by unfold Func.isWrapper; first | (rw [if_pos (by decide +kernel)]; kernel_rfl) | (rw [if_neg (by decide +kernel)]; exact ⟨rfl, rfl⟩))
    (fun os started H enc _ F => by rw [OpenClaim.pre_eq_preRow]; exact lifted os started H enc F)
/-- no parameter wants a stand-in; the program's own looks are off: what the card asks -/
theorem plain (f : FuncId) (fn : Func) (hf : Tryd.pinned.checked.prog.funcNamed "quadrille/quadrillelaw03.IsaEncodes" = some f) (hfn : Tryd.pinned.checked.prog.funcs[f]? = some fn) :
    false = Tryd.pinned.checked.prog.looks [] ∧ ∀ (j : Nat) t, fn.params[j]? = some t → Tryd.pinned.checked.prog.wantsStandIn t = false := by
  obtain rfl : f = 3 := Option.some.inj ((show Tryd.prog.funcNamed "quadrille/quadrillelaw03.IsaEncodes" = some 3 by kernel_rfl).symm.trans hf) |>.symm
  obtain rfl : fn = Tryd.f3 := (Option.some.inj (Tryd.func3.symm.trans hfn)).symm
  refine ⟨by kernel_rfl, fun j t ht => ?_⟩
  rw [Tryd.params3] at ht
  obtain rfl : t = 22 := by simpa using Array.mem_of_getElem? ht
  exact (show Tryd.prog.wantsStandIn 22 = false by kernel_rfl)
/-- THE STATEMENT: the card -/
theorem proved : Rows.IsaEncodesCardSaid :=
  Claim7.holds_tied_plain_at .later [] _ _ _ _ said (fun _ h => by cases h) (by kernel_rfl) (fun _ h => by cases h) isaEncodes_row_tie rfl ⟨rfl, rfl⟩ (by kernel_rfl) rfl plain (by kernel_rfl)
end Go.Proofs.YtianojbdabeoeaaDoor.isaEncodes
