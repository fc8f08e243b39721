/-
  IsaMany: for every input the statement's function returns true, with no condition; each argument reads behind the call as before. By contracts of the program's and the document's functions. The card ties the listed variables of the library to the program's text.
-/
import Derived.Test.YtofnhjckghdhfaaDoorIsOpen
namespace Go.Proofs.YtofnhjckghdhfaaDoor.isaMany
open Go.ChangeShapes Go.WideShapes Go.ChangeAt Go.RowKit
set_option linter.unusedVariables false

/-! THE WALK: the Go text returns true; of memory nothing that stood there has turned. -/
set_option maxRecDepth 100000 in
set_option maxHeartbeats 400000 in
theorem walk (w : World) (a0 : Option Addr) (n0 c0 : Nat) (x0 : List Int) (l0 : x0.length = n0) (m0 : n0 ≤ 9223372036854775807) (b0 : WordsIn w a0 x0) :
    Calls Tryd.prog 4 #[.slice a0 n0 c0] w fun e w' => e = .returned (.bool true) ∧ Below w.heap.size w w' := by
  have HB := Lib.hid b0; clear b0
  have HLn := Lib.hid l0; clear l0
  by_cases hlong : 60 < n0
  · go_enter Tryd.func4, Tryd.ntmps4
    go_wp2_with fail
    refine (known_any _).mono ?_
    rintro e w3 ⟨rfl, hb3⟩
    have HB3 := Lib.hid hb3; clear hb3
    go_wp2_with fail
    go_ret
    exact ⟨rfl, HB3.out⟩
  · have hle : n0 ≤ 60 := by omega
    clear hlong
    go_enter Tryd.func4, Tryd.ntmps4
    go_wp2_with fail
    go_loopw [3] (fun i wr => ∃ k : Nat, k ≤ n0 ∧ i = .int .i64 (k : Int) ∧ Below w.heap.size w wr) (fun i _ => n0 - (intOf i).toNat)
    case atStart => exact ⟨0, Nat.zero_le _, rfl, Below.refl _ _⟩
    case round =>
      obtain ⟨k, hk, rfl, hbr⟩ := hrel
      have HBR := Lib.hid hbr; clear hbr
      by_cases hlt : k < n0
      · obtain ⟨g, o, ha, hcs⟩ := HB.out.1 (by rw [HLn.out]; omega)
        subst ha
        obtain ⟨x, hxe⟩ : ∃ x, x = x0.getD k 0 := ⟨_, rfl⟩
        have hkl : k < x0.length := by rw [HLn.out]; exact hlt
        have hx : Is.Wd x := HB.out.2 x (by rw [hxe, show x0.getD k 0 = x0[k] by simp [List.getD_eq_getElem?_getD, List.getElem?_eq_getElem hkl]]; exact List.getElem_mem hkl)
        have hc0 := hcs k hkl
        rw [← hxe] at hc0
        have hgl := World.block_lt_of_cell? w ⟨g, o + k, none⟩ hc0
        have hcell : wr.cell? ⟨g, o + k, none⟩ = some (.int .u32 x) := (HBR.out.cell (p := ⟨g, o + k, none⟩) hgl).trans hc0
        have HX := Lib.hid hx
        have HGL := Lib.hid (show g < wr.heap.size from Nat.lt_of_lt_of_le hgl HBR.out.size)
        clear hxe hkl hx hc0 hgl hcs
        by_cases hex : ∃ op : Nat, (1 ≤ op ∧ op ≤ 59) ∧ Is.hit (Is.fm op) x op
        · obtain ⟨op, ho, hh⟩ := hex
          have HO := Lib.hid ho; have HH := Lib.hid hh; clear ho hh
          go_wp2_with fail
          refine (dec_is x HX.out op HO.out HH.out _).mono ?_
          rintro e w1 ⟨rfl, hb1⟩
          unfold inst
          have hl1 : w1.cell? ⟨g, o + k, none⟩ = some (.int .u32 x) := (hb1.cell (p := ⟨g, o + k, none⟩) HGL.out).trans hcell
          have hg1 : g < w1.heap.size := Nat.lt_of_lt_of_le HGL.out hb1.size
          have HB1 := Lib.hid hb1; clear hb1
          go_wp2_with fail
          refine (rdec_is x HX.out op HO.out HH.out _).mono ?_
          rintro e w2 ⟨rfl, hb2⟩
          unfold inst
          have hc0 : w2.cell? ⟨w1.heap.size, 0, none⟩ = some (.int .i64 (op : Int)) := (hb2.cell (p := ⟨w1.heap.size, 0, none⟩) (by simp)).trans (by go_simp)
          have hc1 : w2.cell? ⟨w1.heap.size, 1, none⟩ = some (.int .i64 (Is.rdO (Is.fm op) x)) := (hb2.cell (p := ⟨w1.heap.size, 1, none⟩) (by simp)).trans (by go_simp)
          have hc2 : w2.cell? ⟨w1.heap.size, 2, none⟩ = some (.int .i64 (Is.rs1O (Is.fm op) x)) := (hb2.cell (p := ⟨w1.heap.size, 2, none⟩) (by simp)).trans (by go_simp)
          have hc3 : w2.cell? ⟨w1.heap.size, 3, none⟩ = some (.int .i64 (Is.rs2O (Is.fm op) x)) := (hb2.cell (p := ⟨w1.heap.size, 3, none⟩) (by simp)).trans (by go_simp)
          have hc4 : w2.cell? ⟨w1.heap.size, 4, none⟩ = some (.int .u32 (Is.immO (Is.fm op) x)) := (hb2.cell (p := ⟨w1.heap.size, 4, none⟩) (by simp)).trans (by go_simp)
          have hc5 : w2.cell? ⟨w1.heap.size, 5, none⟩ = some (.bool (Is.aqO (Is.fm op) x)) := (hb2.cell (p := ⟨w1.heap.size, 5, none⟩) (by simp)).trans (by go_simp)
          have hc6 : w2.cell? ⟨w1.heap.size, 6, none⟩ = some (.bool (Is.rlO (Is.fm op) x)) := (hb2.cell (p := ⟨w1.heap.size, 6, none⟩) (by simp)).trans (by go_simp)
          have hz1 : w1.heap.size < w2.heap.size := by have := hb2.size; simp at this; omega
          have HB2 := Lib.hid ((HB1.out.alloc HB1.out.size _).trans (hb2.mono (by have := HB1.out.size; simp; omega))); clear hb2
          go_wp2_with fail
          go_roundw
          case rel => exact ⟨k + 1, by omega, by go_num, HBR.out.trans ((HB2.out.alloc HB2.out.size _).mono HBR.out.size)⟩
          case measure => simp [intOf]; omega
        · have hn : ∀ op : Nat, 1 ≤ op ∧ op ≤ 59 → ¬ Is.hit (Is.fm op) x op := fun op h1 h2 => hex ⟨op, h1, h2⟩
          have HN := Lib.hid hn; clear hn hex
          go_wp2_with fail
          refine (dec_none x HX.out HN.out _).mono ?_
          rintro e w1 ⟨rfl, hb1⟩
          unfold inst
          have hl1 : w1.cell? ⟨g, o + k, none⟩ = some (.int .u32 x) := (hb1.cell (p := ⟨g, o + k, none⟩) HGL.out).trans hcell
          have hg1 : g < w1.heap.size := Nat.lt_of_lt_of_le HGL.out hb1.size
          have HB1 := Lib.hid hb1; clear hb1
          go_wp2_with fail
          refine (rdec_none x HX.out HN.out _).mono ?_
          rintro e w2 ⟨rfl, hb2⟩
          unfold inst
          have hc0 : w2.cell? ⟨w1.heap.size, 0, none⟩ = some (.int .i64 0) := (hb2.cell (p := ⟨w1.heap.size, 0, none⟩) (by simp)).trans (by go_simp)
          have hc1 : w2.cell? ⟨w1.heap.size, 1, none⟩ = some (.int .i64 0) := (hb2.cell (p := ⟨w1.heap.size, 1, none⟩) (by simp)).trans (by go_simp)
          have hc2 : w2.cell? ⟨w1.heap.size, 2, none⟩ = some (.int .i64 0) := (hb2.cell (p := ⟨w1.heap.size, 2, none⟩) (by simp)).trans (by go_simp)
          have hc3 : w2.cell? ⟨w1.heap.size, 3, none⟩ = some (.int .i64 0) := (hb2.cell (p := ⟨w1.heap.size, 3, none⟩) (by simp)).trans (by go_simp)
          have hc4 : w2.cell? ⟨w1.heap.size, 4, none⟩ = some (.int .u32 0) := (hb2.cell (p := ⟨w1.heap.size, 4, none⟩) (by simp)).trans (by go_simp)
          have hc5 : w2.cell? ⟨w1.heap.size, 5, none⟩ = some (.bool false) := (hb2.cell (p := ⟨w1.heap.size, 5, none⟩) (by simp)).trans (by go_simp)
          have hc6 : w2.cell? ⟨w1.heap.size, 6, none⟩ = some (.bool false) := (hb2.cell (p := ⟨w1.heap.size, 6, none⟩) (by simp)).trans (by go_simp)
          have hz1 : w1.heap.size < w2.heap.size := by have := hb2.size; simp at this; omega
          have HB2 := Lib.hid ((HB1.out.alloc HB1.out.size _).trans (hb2.mono (by have := HB1.out.size; simp; omega))); clear hb2
          go_wp2_with fail
          go_roundw
          case rel => exact ⟨k + 1, by omega, by go_num, HBR.out.trans ((HB2.out.alloc HB2.out.size _).mono HBR.out.size)⟩
          case measure => simp [intOf]; omega
      · obtain rfl : k = n0 := by omega
        go_wp2_with fail
        refine (known_any _).mono ?_
        rintro e w3 ⟨rfl, hb3⟩
        have HB3 := Lib.hid (HBR.out.trans (hb3.mono HBR.out.size)); clear hb3
        go_wp2_with fail
        go_ret
        exact ⟨rfl, HB3.out⟩

/-! THE ROW -/
set_option maxRecDepth 100000 in
theorem contract (H : Type) (enc : TypeId × Value → H) (W : World) (base : Nat) (args : Array Value) (ds gs : List (DataW H)) (before : List MemPlace)
    (hval0 : ∀ (j : Nat) t v, Tryd.f4.params[j]? = some t → args[j]? = some v → Value.okWide Tryd.prog W .any base t v)
    (hW : DataW.Whole enc Tryd.prog Tryd.f4.params.toList Rows.isaManySpec.vars false W args.toList ds gs before) (hL : laidMet Tryd.prog Rows.isaManyRow.laid W) :
    Calls Tryd.prog 4 args W fun e W' => ∃ v, e = .returned v ∧ Rows.isaManySpec.post enc Tryd.prog Tryd.f4 false true false false W args v W' := by
  have hval : ∀ (j : Nat) t v, Tryd.f4.params[j]? = some t → args[j]? = some v → Value.okWide Tryd.prog W .any base t v := hval0
  have hW' := hW
  obtain ⟨p, q, hA0, hV, rfl, hfz, hnd⟩ := hW
  have hA : DataW.TrodAll enc Tryd.prog W 0 (fun _ => true) true Tryd.f4.params.toList args.toList ds p := hA0
  rw [Tryd.params4] at hA hval
  obtain ⟨v0, vs0, d0, ds0, p0, q0, hargs, rfl, rfl, h0, r0⟩ := trodAll_cons hA
  obtain ⟨rfl, rfl, rfl⟩ := trodAll_nil r0
  obtain rfl : args = #[v0] := by cases args; simp_all
  obtain ⟨rfl, rfl⟩ := trodVars_none hV
  clear hA0 hval0
  simp only [List.append_nil] at hW'
  have hlt : ∀ x ∈ p0, x.block < W.heap.size := fun x hx => by simpa using hW'.lt x (by simpa using hx)
  obtain ⟨a0, n0, c0, rfl⟩ := okWide_slice Tryd.underlying33 (hval 0 33 v0 rfl rfl)
  obtain ⟨x0, l0, m0, b0⟩ := open_words h0
  refine (walk W a0 n0 c0 x0 l0 m0 b0).mono fun e W' ⟨he, hb⟩ => ?_
  subst he
  have harg0 : DataW.Trod enc Tryd.prog W' 0 (fun b => decide (b < W.heap.size)) true 33 _ _ _ := Below.trod laidOut (by kernel_rfl) (of_decide_eq_true (by kernel_rfl)) h0 hb (fun x hx => hlt x (by simp [hx]))
  exact ⟨_, rfl, _, _, _, [], _, [], hW', trodAll_mk1 (shut_bool Tryd.underlying4 _), (trodAll_cons_mk harg0 trodAll_mk0), rfl, hb.frame _, fun h => by cases h⟩
theorem laid_met (os : Os) : laidMet Tryd.prog Rows.isaManyRow.laid ((laidWorld os).forCall (fun _ _ => 0) ⟨#[], #[.slice none 0 0], []⟩).memory :=
  laidMet_of_run' 8 (by kernel_rfl) (by kernel_rfl)
theorem reads (os : Os) {H : Type} (enc : TypeId × Value → H) : ∃ places, DataW.whole enc Tryd.prog ((laidWorld os).forCall (fun _ _ => 0) ⟨#[], #[.slice none 0 0], []⟩).memory Tryd.f4.params.toList Rows.isaManySpec.vars false (#[.slice none 0 0] : Array Value).toList 8 = some ([.nil], [], places) :=
  ⟨[], by kernel_rfl⟩
set_option maxRecDepth 100000 in
theorem lifted (os : Os) (started : os.Started) (H : Type) (enc : TypeId × Value → H) (F : Stop.Interp) :
    ReturnsInHanded {} Tryd.checked os 4 .any ((OpenSpec.ofChange Rows.isaManySpec).preRow enc Tryd.prog Tryd.f4 Rows.isaManyRow.domain false Rows.isaManyRow.laid) (((OpenSpec.ofChange Rows.isaManySpec).at F).post enc Tryd.prog Tryd.f4 false true false false) := by
  obtain ⟨places, hx⟩ := reads os enc
  refine returnsInHanded_of_row (C := Tryd.checked) (s := OpenSpec.ofChange Rows.isaManySpec) own started (by kernel_rfl) Tryd.func4
    (witness_row_at (enc := enc) (C := Tryd.checked) false (laidWorld os) #[.slice none 0 0] rfl (by kernel_rfl) (by kernel_rfl) (by kernel_rfl)
      (OpenSpec.preRow_of_cond 8 hx (by kernel_rfl) (fun k hk => by cases hk) (by kernel_rfl) (laid_met os))) ?_
  intro W base args ds gs before hval hW _ _ _ hL _ _
  exact contract H enc W base args ds gs before hval hW hL
theorem said : Rows.IsaManySaid :=
  OpenClaim.holds_of_cond 4 Tryd.f4 rfl rfl rfl rfl rfl rfl rfl ⟨rfl, rfl, rfl, rfl, rfl⟩ rfl rfl rfl rfl rfl (by kernel_rfl) Tryd.func4 (by kernel_rfl)
    (of_decide_eq_true (by kernel_rfl)) (by unfold Func.isWrapper; first | (rw [if_pos (by decide +kernel)]; kernel_rfl) | (rw [if_neg (by decide +kernel)]; exact ⟨rfl, rfl⟩))
    (fun os started H enc _ F => by rw [OpenClaim.pre_eq_preRow]; exact lifted os started H enc F)
/-- no parameter wants a stand-in; the program's own looks are off: what the card asks -/
theorem plain (f : FuncId) (fn : Func) (hf : Tryd.pinned.checked.prog.funcNamed "quadrille/quadrillelaw03.IsaMany" = some f) (hfn : Tryd.pinned.checked.prog.funcs[f]? = some fn) :
    false = Tryd.pinned.checked.prog.looks [] ∧ ∀ (j : Nat) t, fn.params[j]? = some t → Tryd.pinned.checked.prog.wantsStandIn t = false := by
  obtain rfl : f = 4 := Option.some.inj ((show Tryd.prog.funcNamed "quadrille/quadrillelaw03.IsaMany" = some 4 by kernel_rfl).symm.trans hf) |>.symm
  obtain rfl : fn = Tryd.f4 := (Option.some.inj (Tryd.func4.symm.trans hfn)).symm
  refine ⟨by kernel_rfl, fun j t ht => ?_⟩
  rw [Tryd.params4] at ht
  obtain rfl : t = 33 := by simpa using Array.mem_of_getElem? ht
  exact (show Tryd.prog.wantsStandIn 33 = false by kernel_rfl)
/-- THE STATEMENT: the card -/
theorem proved : Rows.IsaManyCardSaid :=
  Claim7.holds_tied_plain_at .later [] _ _ _ _ said (fun _ h => by cases h) (by kernel_rfl) (fun _ h => by cases h) isaMany_row_tie rfl ⟨rfl, rfl⟩ (by kernel_rfl) rfl plain (by kernel_rfl)
end Go.Proofs.YtofnhjckghdhfaaDoor.isaMany
