/-
  AloneFetch: for every input the statement's function returns true, with no condition; each argument reads behind the call as before. By contracts of the program's and the document's functions. The card ties the listed variables of the library to the program's text.
-/
import Derived.Test.YtianojbdabeoeaaGreatDoorAlDM
namespace Go.Proofs.YtianojbdabeoeaaGreatDoor.aloneFetch
open Go.ChangeShapes Go.WideShapes Go.ChangeAt Go.RowKit
set_option linter.unusedVariables false

/-! THE WALK: the Go text returns true; of memory nothing that stood there has turned. -/
set_option maxRecDepth 100000 in
set_option maxHeartbeats 1000000 in
theorem walk (w : World) (a0 : Option Addr) (n0 c0 : Nat) (x0 : List Int) (l0 : x0.length = n0) (m0 : n0 ≤ 9223372036854775807) (b0 : WordsIn w a0 x0) (a1 : Int) (w1 : (Lit.int .u32 a1).wf = true) :
    Calls Tryz.prog 8 #[.slice a0 n0 c0, .int .u32 a1] w fun e w' => e = .returned (.bool true) ∧ Below w.heap.size w w' := by
  have HC := Lib.hid b0; have HL := Lib.hid l0; clear b0 l0
  have hp := wf_u32 w1
  by_cases hlong : 200 < n0
  · go_enter Tryz.func8, Tryz.ntmps8
    go_wp2_with (first
      | (go_at_call 18; refine (vast_any _ _ _ _ _).mono ?_; rw [decide_eq_true hlong]; rintro e w2 ⟨rfl, rfl⟩)
      | (go_at_call 19; refine (known5_any _).mono ?_; rintro e w3 ⟨rfl, hb⟩))
    go_ret
    exact ⟨rfl, hb⟩
  have hv : (decide (200 < n0) || decide ((300 : Int) < 0)) = false := by rw [decide_eq_false hlong]; rfl
  have HV := Lib.hid hv; clear hv
  unfold Ar.Wd at hp
  obtain ⟨k, hk⟩ : ∃ k : Nat, a1 / 4 = k := ⟨(a1 / 4).toNat, by omega⟩
  have hkt : a1.tdiv 4 = (k : Int) := by rw [Int.tdiv_eq_ediv_of_nonneg hp.1]; exact hk
  have hm : (k : Int) % 4294967296 = k := by omega
  have hm2 : k % 4294967296 = k := by omega
  have hmt : a1.tmod 4 = a1 % 4 := Int.tmod_eq_emod_of_nonneg hp.1
  have HF := Lib.hid (fetch_any a0 n0 c0 x0 HL.out m0 a1 hp w HC.out)
  by_cases h4 : a1 % 4 = 0
  · rw [h4] at hmt
    by_cases hkn : k < n0
    · obtain ⟨g, o, rfl, hcs⟩ := HC.out.1 (by rw [HL.out]; omega)
      have hx := hcs k (by rw [HL.out]; exact hkn)
      have ht : Al.there x0 a1 = true := by unfold Al.there; rw [HL.out]; simp [h4]; omega
      have hw : Al.word x0 a1 = x0.getD k 0 := by unfold Al.word; rw [if_pos ht, hk]; rfl
      rw [ht, hw] at HF
      have hki : ¬ (k : Int) ≥ (n0 : Int) := by omega
      have hki2 : (k : Int) < (n0 : Int) := by omega
      clear ht hw h4 hcs hp hk
      go_enter Tryz.func8, Tryz.ntmps8
      go_wp2_with (first
        | (go_at_call 18; refine (vast_any _ _ _ _ _).mono ?_; rw [HV.out]; rintro e w2 ⟨rfl, rfl⟩)
        | (go_at_call 29; refine HF.out.mono ?_; rintro e w2 ⟨rfl, rfl⟩)
        | (go_at_call 19; refine (known5_any _).mono ?_; rintro e w3 ⟨rfl, hb⟩))
      go_ret
      exact ⟨rfl, hb⟩
    · have ht : Al.there x0 a1 = false := by unfold Al.there; rw [HL.out]; simp [h4]; omega
      have hw : Al.word x0 a1 = 0 := by unfold Al.word; rw [ht]; rfl
      rw [ht, hw] at HF
      have hki : (k : Int) ≥ (n0 : Int) := by omega
      clear ht hw h4 hp hk
      go_enter Tryz.func8, Tryz.ntmps8
      go_wp2_with (first
        | (go_at_call 18; refine (vast_any _ _ _ _ _).mono ?_; rw [HV.out]; rintro e w2 ⟨rfl, rfl⟩)
        | (go_at_call 29; refine HF.out.mono ?_; rintro e w2 ⟨rfl, rfl⟩)
        | (go_at_call 19; refine (known5_any _).mono ?_; rintro e w3 ⟨rfl, hb⟩))
      go_ret
      exact ⟨rfl, hb⟩
  · have ht : Al.there x0 a1 = false := by unfold Al.there; simp [h4]
    have hw : Al.word x0 a1 = 0 := by unfold Al.word; rw [ht]; rfl
    rw [ht, hw] at HF
    have hd : (a1.tmod 4 != 0) = true := by rw [hmt]; simpa using h4
    clear ht hw h4 hp hk hmt
    go_enter Tryz.func8, Tryz.ntmps8
    go_wp2_with (first
      | (go_at_call 18; refine (vast_any _ _ _ _ _).mono ?_; rw [HV.out]; rintro e w2 ⟨rfl, rfl⟩)
      | (go_at_call 29; refine HF.out.mono ?_; rintro e w2 ⟨rfl, rfl⟩)
      | (go_at_call 19; refine (known5_any _).mono ?_; rintro e w3 ⟨rfl, hb⟩))
    go_ret
    exact ⟨rfl, hb⟩

/-! THE ROW -/
set_option maxRecDepth 100000 in
theorem contract (H : Type) (enc : TypeId × Value → H) (W : World) (base : Nat) (args : Array Value) (ds gs : List (DataW H)) (before : List MemPlace)
    (hval0 : ∀ (j : Nat) t v, Tryz.f8.params[j]? = some t → args[j]? = some v → Value.okWide Tryz.prog W .any base t v)
    (hW : DataW.Whole enc Tryz.prog Tryz.f8.params.toList Rows.aloneFetchSpec.vars false W args.toList ds gs before) (hL : laidMet Tryz.prog Rows.aloneFetchRow.laid W) :
    Calls Tryz.prog 8 args W fun e W' => ∃ v, e = .returned v ∧ Rows.aloneFetchSpec.post enc Tryz.prog Tryz.f8 false true false false W args v W' := by
  have hval : ∀ (j : Nat) t v, Tryz.f8.params[j]? = some t → args[j]? = some v → Value.okWide Tryz.prog W .any base t v := hval0
  have hW' := hW
  obtain ⟨p, q, hA0, hV, rfl, hfz, hnd⟩ := hW
  have hA : DataW.TrodAll enc Tryz.prog W 0 (fun _ => true) true Tryz.f8.params.toList args.toList ds p := hA0
  rw [Tryz.params8] at hA hval
  obtain ⟨v0, vs0, d0, ds0, p0, q0, hargs, rfl, rfl, h0, r0⟩ := trodAll_cons hA
  obtain ⟨v1, vs1, d1, ds1, p1, q1, rfl, rfl, rfl, h1, r1⟩ := trodAll_cons r0
  obtain ⟨rfl, rfl, rfl⟩ := trodAll_nil r1
  obtain rfl : args = #[v0, v1] := by cases args; simp_all
  obtain ⟨rfl, rfl⟩ := trodVars_none hV
  clear hA0 hval0
  simp only [List.append_nil] at hW'
  have hlt : ∀ x ∈ p0 ++ (p1), x.block < W.heap.size := fun x hx => by simpa using hW'.lt x (by simpa using hx)
  obtain ⟨a0, n0, c0, rfl⟩ := okWide_slice Tryz.underlying48 (hval 0 48 v0 rfl rfl)
  obtain ⟨x0, l0, m0, b0⟩ := open_words h0
  have h1k := h1
  obtain ⟨a1, rfl, rfl, rfl, w1⟩ := open_int Tryz.underlying22 (hval 1 22 v1 rfl rfl) h1
  refine (walk W a0 n0 c0 x0 l0 m0 b0 a1 w1).mono fun e W' ⟨he, hb⟩ => ?_
  subst he
  have harg0 : DataW.Trod enc Tryz.prog W' 0 (fun b => decide (b < W.heap.size)) true 48 _ _ _ := Below.trod laidOut (by kernel_rfl) (of_decide_eq_true (by kernel_rfl)) h0 hb (fun x hx => hlt x (by simp [hx]))
  have harg1 : DataW.Trod enc Tryz.prog W' 0 (fun b => decide (b < W.heap.size)) true 22 _ _ _ := Below.trod laidOut (by kernel_rfl) (of_decide_eq_true (by kernel_rfl)) h1k hb (fun x hx => by cases hx)
  exact ⟨_, rfl, _, _, _, [], _, [], hW', trodAll_mk1 (shut_bool Tryz.underlying4 _), (trodAll_cons_mk harg0 (trodAll_cons_mk harg1 trodAll_mk0)), rfl, hb.frame _, fun h => by cases h⟩
theorem laid_met (os : Os) : laidMet Tryz.prog Rows.aloneFetchRow.laid ((laidWorld os).forCall (fun _ _ => 0) ⟨#[], #[.slice none 0 0, .int .u32 0], []⟩).memory :=
  laidMet_of_run' 8 (by kernel_rfl) (by kernel_rfl)
theorem reads (os : Os) {H : Type} (enc : TypeId × Value → H) : ∃ places, DataW.whole enc Tryz.prog ((laidWorld os).forCall (fun _ _ => 0) ⟨#[], #[.slice none 0 0, .int .u32 0], []⟩).memory Tryz.f8.params.toList Rows.aloneFetchSpec.vars false (#[.slice none 0 0, .int .u32 0] : Array Value).toList 8 = some ([.nil, .lit (.int .u32 0)], [], places) :=
  ⟨[], by kernel_rfl⟩
set_option maxRecDepth 100000 in
theorem lifted (os : Os) (started : os.Started) (H : Type) (enc : TypeId × Value → H) (F : Stop.Interp) :
    ReturnsInHanded {} Tryz.checked os 8 .any ((OpenSpec.ofChange Rows.aloneFetchSpec).preRow enc Tryz.prog Tryz.f8 Rows.aloneFetchRow.domain false Rows.aloneFetchRow.laid) (((OpenSpec.ofChange Rows.aloneFetchSpec).at F).post enc Tryz.prog Tryz.f8 false true false false) := by
  obtain ⟨places, hx⟩ := reads os enc
  refine returnsInHanded_of_row (C := Tryz.checked) (s := OpenSpec.ofChange Rows.aloneFetchSpec) own started (by kernel_rfl) Tryz.func8
    (witness_row_at (enc := enc) (C := Tryz.checked) false (laidWorld os) #[.slice none 0 0, .int .u32 0] rfl (by kernel_rfl) (by kernel_rfl) (by kernel_rfl)
      (OpenSpec.preRow_of_cond 8 hx (by kernel_rfl) (fun k hk => by cases hk) (by kernel_rfl) (laid_met os))) ?_
  intro W base args ds gs before hval hW _ _ _ hL _ _
  exact contract H enc W base args ds gs before hval hW hL
theorem said : Rows.AloneFetchSaid :=
  OpenClaim.holds_of_cond 8 Tryz.f8 rfl rfl rfl rfl rfl rfl rfl ⟨rfl, rfl, rfl, rfl, rfl⟩ rfl rfl rfl rfl rfl (by kernel_rfl) Tryz.func8 (by kernel_rfl)
    (of_decide_eq_true (by kernel_rfl)) (by unfold Func.isWrapper; first | (rw [if_pos (by decide +kernel)]; kernel_rfl) | (rw [if_neg (by decide +kernel)]; exact ⟨rfl, rfl⟩))
    (fun os started H enc _ F => by rw [OpenClaim.pre_eq_preRow]; exact lifted os started H enc F)
/-- no parameter wants a stand-in; the program's own looks: what the card asks -/
theorem plain (f : FuncId) (fn : Func) (hf : Tryz.pinned.checked.prog.funcNamed "quadrille/quadrillelaw05.AloneFetch" = some f) (hfn : Tryz.pinned.checked.prog.funcs[f]? = some fn) :
    true = Tryz.pinned.checked.prog.looks [] ∧ ∀ (j : Nat) t, fn.params[j]? = some t → Tryz.pinned.checked.prog.wantsStandIn t = false := by
  obtain rfl : f = 8 := Option.some.inj ((show Tryz.prog.funcNamed "quadrille/quadrillelaw05.AloneFetch" = some 8 by kernel_rfl).symm.trans hf) |>.symm
  obtain rfl : fn = Tryz.f8 := (Option.some.inj (Tryz.func8.symm.trans hfn)).symm
  refine ⟨by kernel_rfl, fun j t ht => ?_⟩
  rw [Tryz.params8] at ht
  have hm : t = 48 ∨ t = 22 := by simpa using Array.mem_of_getElem? ht
  rcases hm with rfl | rfl
  · exact (show Tryz.prog.wantsStandIn 48 = false by kernel_rfl)
  · exact (show Tryz.prog.wantsStandIn 22 = false by kernel_rfl)
/-- THE STATEMENT: the card -/
theorem proved : Rows.AloneFetchCardSaid :=
  Claim7.holds_tied_plain_at .later [] _ _ _ _ said (fun _ h => by cases h) (by kernel_rfl) (fun _ h => by cases h) aloneFetch_row_tie rfl ⟨rfl, rfl⟩ (by kernel_rfl) rfl plain (by kernel_rfl)
end Go.Proofs.YtianojbdabeoeaaGreatDoor.aloneFetch
