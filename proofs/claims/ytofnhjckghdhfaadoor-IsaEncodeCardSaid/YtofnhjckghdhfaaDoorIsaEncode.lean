/-
  IsaEncode: for every input the statement's function returns true, with no condition; each argument reads behind the call as before. By contracts of the program's and the document's functions. The card ties the listed variables of the library to the program's text.
-/
import Derived.Test.YtofnhjckghdhfaaDoorIsOpen2
namespace Go.Proofs.YtofnhjckghdhfaaDoor.isaEncode
open Go.ChangeShapes Go.WideShapes Go.ChangeAt Go.RowKit
set_option linter.unusedVariables false

/-! THE WALK: the Go text returns true; of memory nothing that stood there has turned. -/
set_option maxRecDepth 100000 in
set_option maxHeartbeats 4000000 in
theorem walk (w : World) (o0 d0 e0 f0 i0 : Int) (q0 r0 : Bool) (w0 : InstOk o0 d0 e0 f0 i0) :
    Calls Tryd.prog 5 #[inst o0 d0 e0 f0 i0 q0 r0] w fun e w' => e = .returned (.bool true) ∧ Below w.heap.size w w' := by
  obtain ⟨wo, wd, we, wf, wi⟩ := w0
  unfold I64 at wo wd we wf
  by_cases ho : 1 ≤ o0 ∧ o0 ≤ 59
  · obtain ⟨op, rfl⟩ : ∃ op : Nat, o0 = op := ⟨o0.toNat, by omega⟩
    have hop : 1 ≤ op ∧ op ≤ 59 := by omega
    have HO := Lib.hid hop; have HX := Lib.hid wi
    by_cases hm : Is.mayP (Is.fm op) d0 e0 f0 i0 q0 r0
    · have HEN := Lib.hid (fun w => enc_yes op hop wd we wf wi hm w)
      have HMA := Lib.hid (fun w => rmay_yes op hop d0 e0 f0 i0 q0 r0 wi hm w)
      have HRE := Lib.hid (fun w => renc_yes op hop d0 e0 f0 i0 q0 r0 wi hm w)
      have hgood := (Is.good_iff op hop wi).2 hm
      have hword := (Is.enc_or op hop wi (rd := d0) (rs1 := e0) (rs2 := f0) (aq := q0) (rl := r0)).2
      have HDE := Lib.hid (fun w => dec_is _ hword op hop (Is.hit_of_good hop wi hgood) w)
      obtain ⟨g1, g2, g3, g4, g5, g6⟩ := hgood
      rw [g1, g2, g3, g4, g5, g6] at HDE
      clear hm wd we wf wi wo ho hop g1 g2 g3 g4 g5 g6 hword
      unfold inst
      go_enter Tryd.func5, Tryd.ntmps5
      go_wp2_with fail
      refine (HEN.out _).mono ?_
      rintro e w1 ⟨rfl, hb1⟩
      have hz1 : w.heap.size < w1.heap.size := by have := hb1.size; simp at this; omega
      have ha0 : w1.cell? ⟨w.heap.size, 0, none⟩ = some (.int .i64 (op : Int)) := (hb1.cell (p := ⟨w.heap.size, 0, none⟩) (by simp)).trans (by go_simp)
      have ha1 : w1.cell? ⟨w.heap.size, 1, none⟩ = some (.int .i64 d0) := (hb1.cell (p := ⟨w.heap.size, 1, none⟩) (by simp)).trans (by go_simp)
      have ha2 : w1.cell? ⟨w.heap.size, 2, none⟩ = some (.int .i64 e0) := (hb1.cell (p := ⟨w.heap.size, 2, none⟩) (by simp)).trans (by go_simp)
      have ha3 : w1.cell? ⟨w.heap.size, 3, none⟩ = some (.int .i64 f0) := (hb1.cell (p := ⟨w.heap.size, 3, none⟩) (by simp)).trans (by go_simp)
      have ha4 : w1.cell? ⟨w.heap.size, 4, none⟩ = some (.int .u32 i0) := (hb1.cell (p := ⟨w.heap.size, 4, none⟩) (by simp)).trans (by go_simp)
      have ha5 : w1.cell? ⟨w.heap.size, 5, none⟩ = some (.bool q0) := (hb1.cell (p := ⟨w.heap.size, 5, none⟩) (by simp)).trans (by go_simp)
      have ha6 : w1.cell? ⟨w.heap.size, 6, none⟩ = some (.bool r0) := (hb1.cell (p := ⟨w.heap.size, 6, none⟩) (by simp)).trans (by go_simp)
      have HB1 := Lib.hid (((Below.refl w.heap.size w).alloc (Nat.le_refl _) _).trans (hb1.mono (by simp))); clear hb1
      go_wp2_with fail
      refine (HMA.out _).mono ?_
      rintro e w2 ⟨rfl, hb2⟩
      have hz2 : w.heap.size < w2.heap.size := by have := hb2.size; omega
      have hc0 : w2.cell? ⟨w.heap.size, 0, none⟩ = some (.int .i64 (op : Int)) := (hb2.cell (p := ⟨w.heap.size, 0, none⟩) hz1).trans ha0
      have hc1 : w2.cell? ⟨w.heap.size, 1, none⟩ = some (.int .i64 d0) := (hb2.cell (p := ⟨w.heap.size, 1, none⟩) hz1).trans ha1
      have hc2 : w2.cell? ⟨w.heap.size, 2, none⟩ = some (.int .i64 e0) := (hb2.cell (p := ⟨w.heap.size, 2, none⟩) hz1).trans ha2
      have hc3 : w2.cell? ⟨w.heap.size, 3, none⟩ = some (.int .i64 f0) := (hb2.cell (p := ⟨w.heap.size, 3, none⟩) hz1).trans ha3
      have hc4 : w2.cell? ⟨w.heap.size, 4, none⟩ = some (.int .u32 i0) := (hb2.cell (p := ⟨w.heap.size, 4, none⟩) hz1).trans ha4
      have hc5 : w2.cell? ⟨w.heap.size, 5, none⟩ = some (.bool q0) := (hb2.cell (p := ⟨w.heap.size, 5, none⟩) hz1).trans ha5
      have hc6 : w2.cell? ⟨w.heap.size, 6, none⟩ = some (.bool r0) := (hb2.cell (p := ⟨w.heap.size, 6, none⟩) hz1).trans ha6
      have HB2 := Lib.hid (HB1.out.trans (hb2.mono (by omega))); clear hb2 ha0 ha1 ha2 ha3 ha4 ha5 ha6 hz1
      go_wp2_with fail
      refine (HDE.out _).mono ?_
      rintro e w3 ⟨rfl, hb3⟩
      unfold inst
      have hz3 : w.heap.size < w3.heap.size := by have := hb3.size; omega
      have ha0 : w3.cell? ⟨w.heap.size, 0, none⟩ = some (.int .i64 (op : Int)) := (hb3.cell (p := ⟨w.heap.size, 0, none⟩) hz2).trans hc0
      have ha1 : w3.cell? ⟨w.heap.size, 1, none⟩ = some (.int .i64 d0) := (hb3.cell (p := ⟨w.heap.size, 1, none⟩) hz2).trans hc1
      have ha2 : w3.cell? ⟨w.heap.size, 2, none⟩ = some (.int .i64 e0) := (hb3.cell (p := ⟨w.heap.size, 2, none⟩) hz2).trans hc2
      have ha3 : w3.cell? ⟨w.heap.size, 3, none⟩ = some (.int .i64 f0) := (hb3.cell (p := ⟨w.heap.size, 3, none⟩) hz2).trans hc3
      have ha4 : w3.cell? ⟨w.heap.size, 4, none⟩ = some (.int .u32 i0) := (hb3.cell (p := ⟨w.heap.size, 4, none⟩) hz2).trans hc4
      have ha5 : w3.cell? ⟨w.heap.size, 5, none⟩ = some (.bool q0) := (hb3.cell (p := ⟨w.heap.size, 5, none⟩) hz2).trans hc5
      have ha6 : w3.cell? ⟨w.heap.size, 6, none⟩ = some (.bool r0) := (hb3.cell (p := ⟨w.heap.size, 6, none⟩) hz2).trans hc6
      have HB3 := Lib.hid (HB2.out.trans (hb3.mono (by omega))); clear hb3 hc0 hc1 hc2 hc3 hc4 hc5 hc6
      go_wp2_with fail
      refine (HRE.out _).mono ?_
      rintro e w4 ⟨rfl, hb4⟩
      have hb4' : Below w3.heap.size w3 w4 := ((Below.refl w3.heap.size w3).alloc (Nat.le_refl _) _).trans (hb4.mono (by simp))
      have hx0 : w4.cell? ⟨w3.heap.size, 0, none⟩ = some (.int .i64 (op : Int)) := (hb4.cell (p := ⟨w3.heap.size, 0, none⟩) (by simp)).trans (by go_simp)
      have hi0 : w4.cell? ⟨w.heap.size, 0, none⟩ = some (.int .i64 (op : Int)) := (hb4'.cell (p := ⟨w.heap.size, 0, none⟩) hz3).trans ha0
      have hx1 : w4.cell? ⟨w3.heap.size, 1, none⟩ = some (.int .i64 d0) := (hb4.cell (p := ⟨w3.heap.size, 1, none⟩) (by simp)).trans (by go_simp)
      have hi1 : w4.cell? ⟨w.heap.size, 1, none⟩ = some (.int .i64 d0) := (hb4'.cell (p := ⟨w.heap.size, 1, none⟩) hz3).trans ha1
      have hx2 : w4.cell? ⟨w3.heap.size, 2, none⟩ = some (.int .i64 e0) := (hb4.cell (p := ⟨w3.heap.size, 2, none⟩) (by simp)).trans (by go_simp)
      have hi2 : w4.cell? ⟨w.heap.size, 2, none⟩ = some (.int .i64 e0) := (hb4'.cell (p := ⟨w.heap.size, 2, none⟩) hz3).trans ha2
      have hx3 : w4.cell? ⟨w3.heap.size, 3, none⟩ = some (.int .i64 f0) := (hb4.cell (p := ⟨w3.heap.size, 3, none⟩) (by simp)).trans (by go_simp)
      have hi3 : w4.cell? ⟨w.heap.size, 3, none⟩ = some (.int .i64 f0) := (hb4'.cell (p := ⟨w.heap.size, 3, none⟩) hz3).trans ha3
      have hx4 : w4.cell? ⟨w3.heap.size, 4, none⟩ = some (.int .u32 i0) := (hb4.cell (p := ⟨w3.heap.size, 4, none⟩) (by simp)).trans (by go_simp)
      have hi4 : w4.cell? ⟨w.heap.size, 4, none⟩ = some (.int .u32 i0) := (hb4'.cell (p := ⟨w.heap.size, 4, none⟩) hz3).trans ha4
      have hx5 : w4.cell? ⟨w3.heap.size, 5, none⟩ = some (.bool q0) := (hb4.cell (p := ⟨w3.heap.size, 5, none⟩) (by simp)).trans (by go_simp)
      have hi5 : w4.cell? ⟨w.heap.size, 5, none⟩ = some (.bool q0) := (hb4'.cell (p := ⟨w.heap.size, 5, none⟩) hz3).trans ha5
      have hx6 : w4.cell? ⟨w3.heap.size, 6, none⟩ = some (.bool r0) := (hb4.cell (p := ⟨w3.heap.size, 6, none⟩) (by simp)).trans (by go_simp)
      have hi6 : w4.cell? ⟨w.heap.size, 6, none⟩ = some (.bool r0) := (hb4'.cell (p := ⟨w.heap.size, 6, none⟩) hz3).trans ha6
      have hz4 : w3.heap.size < w4.heap.size := by have := hb4.size; simp at this; omega
      have HB4 := Lib.hid (HB3.out.trans (hb4'.mono (by omega))); clear hb4 hb4' ha0 ha1 ha2 ha3 ha4 ha5 ha6
      go_wp2_with fail
      refine (known_any _).mono ?_
      rintro e w5 ⟨rfl, hb5⟩
      have HB5 := Lib.hid (HB4.out.trans (hb5.mono (by omega))); clear hb5
      go_wp2_with fail
      go_ret
      exact ⟨rfl, HB5.out⟩
    · have HEN := Lib.hid (fun w => enc_no op hop wd we wf wi hm w)
      have HMA := Lib.hid (fun w => rmay_no op hop d0 e0 f0 i0 q0 r0 wi hm w)
      clear hm wd we wf wi wo ho hop
      unfold inst
      go_enter Tryd.func5, Tryd.ntmps5
      go_wp2_with fail
      refine (HEN.out _).mono ?_
      rintro e w1 ⟨rfl, hb1⟩
      have hz1 : w.heap.size < w1.heap.size := by have := hb1.size; simp at this; omega
      have ha0 : w1.cell? ⟨w.heap.size, 0, none⟩ = some (.int .i64 (op : Int)) := (hb1.cell (p := ⟨w.heap.size, 0, none⟩) (by simp)).trans (by go_simp)
      have ha1 : w1.cell? ⟨w.heap.size, 1, none⟩ = some (.int .i64 d0) := (hb1.cell (p := ⟨w.heap.size, 1, none⟩) (by simp)).trans (by go_simp)
      have ha2 : w1.cell? ⟨w.heap.size, 2, none⟩ = some (.int .i64 e0) := (hb1.cell (p := ⟨w.heap.size, 2, none⟩) (by simp)).trans (by go_simp)
      have ha3 : w1.cell? ⟨w.heap.size, 3, none⟩ = some (.int .i64 f0) := (hb1.cell (p := ⟨w.heap.size, 3, none⟩) (by simp)).trans (by go_simp)
      have ha4 : w1.cell? ⟨w.heap.size, 4, none⟩ = some (.int .u32 i0) := (hb1.cell (p := ⟨w.heap.size, 4, none⟩) (by simp)).trans (by go_simp)
      have ha5 : w1.cell? ⟨w.heap.size, 5, none⟩ = some (.bool q0) := (hb1.cell (p := ⟨w.heap.size, 5, none⟩) (by simp)).trans (by go_simp)
      have ha6 : w1.cell? ⟨w.heap.size, 6, none⟩ = some (.bool r0) := (hb1.cell (p := ⟨w.heap.size, 6, none⟩) (by simp)).trans (by go_simp)
      have HB1 := Lib.hid (((Below.refl w.heap.size w).alloc (Nat.le_refl _) _).trans (hb1.mono (by simp))); clear hb1
      go_wp2_with fail
      refine (HMA.out _).mono ?_
      rintro e w2 ⟨rfl, hb2⟩
      have hz2 : w.heap.size < w2.heap.size := by have := hb2.size; omega
      have hc0 : w2.cell? ⟨w.heap.size, 0, none⟩ = some (.int .i64 (op : Int)) := (hb2.cell (p := ⟨w.heap.size, 0, none⟩) hz1).trans ha0
      have hc1 : w2.cell? ⟨w.heap.size, 1, none⟩ = some (.int .i64 d0) := (hb2.cell (p := ⟨w.heap.size, 1, none⟩) hz1).trans ha1
      have hc2 : w2.cell? ⟨w.heap.size, 2, none⟩ = some (.int .i64 e0) := (hb2.cell (p := ⟨w.heap.size, 2, none⟩) hz1).trans ha2
      have hc3 : w2.cell? ⟨w.heap.size, 3, none⟩ = some (.int .i64 f0) := (hb2.cell (p := ⟨w.heap.size, 3, none⟩) hz1).trans ha3
      have hc4 : w2.cell? ⟨w.heap.size, 4, none⟩ = some (.int .u32 i0) := (hb2.cell (p := ⟨w.heap.size, 4, none⟩) hz1).trans ha4
      have hc5 : w2.cell? ⟨w.heap.size, 5, none⟩ = some (.bool q0) := (hb2.cell (p := ⟨w.heap.size, 5, none⟩) hz1).trans ha5
      have hc6 : w2.cell? ⟨w.heap.size, 6, none⟩ = some (.bool r0) := (hb2.cell (p := ⟨w.heap.size, 6, none⟩) hz1).trans ha6
      have HB2 := Lib.hid (HB1.out.trans (hb2.mono (by omega))); clear hb2 ha0 ha1 ha2 ha3 ha4 ha5 ha6 hz1
      go_wp2_with fail
      refine (known_any _).mono ?_
      rintro e w3 ⟨rfl, hb3⟩
      have HB3 := Lib.hid (HB2.out.trans (hb3.mono (by omega))); clear hb3
      go_wp2_with fail
      go_ret
      exact ⟨rfl, HB3.out⟩
  · have hn : o0 < 1 ∨ 59 < o0 := by omega
    have HEN := Lib.hid (fun w => enc_bad o0 d0 e0 f0 i0 q0 r0 hn wo w)
    have HMA := Lib.hid (fun w => rmay_bad o0 hn d0 e0 f0 i0 q0 r0 w)
    clear hn wd we wf wi wo ho
    unfold inst
    go_enter Tryd.func5, Tryd.ntmps5
    go_wp2_with fail
    refine (HEN.out _).mono ?_
    rintro e w1 ⟨rfl, hb1⟩
    have hz1 : w.heap.size < w1.heap.size := by have := hb1.size; simp at this; omega
    have ha0 : w1.cell? ⟨w.heap.size, 0, none⟩ = some (.int .i64 o0) := (hb1.cell (p := ⟨w.heap.size, 0, none⟩) (by simp)).trans (by go_simp)
    have ha1 : w1.cell? ⟨w.heap.size, 1, none⟩ = some (.int .i64 d0) := (hb1.cell (p := ⟨w.heap.size, 1, none⟩) (by simp)).trans (by go_simp)
    have ha2 : w1.cell? ⟨w.heap.size, 2, none⟩ = some (.int .i64 e0) := (hb1.cell (p := ⟨w.heap.size, 2, none⟩) (by simp)).trans (by go_simp)
    have ha3 : w1.cell? ⟨w.heap.size, 3, none⟩ = some (.int .i64 f0) := (hb1.cell (p := ⟨w.heap.size, 3, none⟩) (by simp)).trans (by go_simp)
    have ha4 : w1.cell? ⟨w.heap.size, 4, none⟩ = some (.int .u32 i0) := (hb1.cell (p := ⟨w.heap.size, 4, none⟩) (by simp)).trans (by go_simp)
    have ha5 : w1.cell? ⟨w.heap.size, 5, none⟩ = some (.bool q0) := (hb1.cell (p := ⟨w.heap.size, 5, none⟩) (by simp)).trans (by go_simp)
    have ha6 : w1.cell? ⟨w.heap.size, 6, none⟩ = some (.bool r0) := (hb1.cell (p := ⟨w.heap.size, 6, none⟩) (by simp)).trans (by go_simp)
    have HB1 := Lib.hid (((Below.refl w.heap.size w).alloc (Nat.le_refl _) _).trans (hb1.mono (by simp))); clear hb1
    go_wp2_with fail
    refine (HMA.out _).mono ?_
    rintro e w2 ⟨rfl, hb2⟩
    have hz2 : w.heap.size < w2.heap.size := by have := hb2.size; omega
    have hc0 : w2.cell? ⟨w.heap.size, 0, none⟩ = some (.int .i64 o0) := (hb2.cell (p := ⟨w.heap.size, 0, none⟩) hz1).trans ha0
    have hc1 : w2.cell? ⟨w.heap.size, 1, none⟩ = some (.int .i64 d0) := (hb2.cell (p := ⟨w.heap.size, 1, none⟩) hz1).trans ha1
    have hc2 : w2.cell? ⟨w.heap.size, 2, none⟩ = some (.int .i64 e0) := (hb2.cell (p := ⟨w.heap.size, 2, none⟩) hz1).trans ha2
    have hc3 : w2.cell? ⟨w.heap.size, 3, none⟩ = some (.int .i64 f0) := (hb2.cell (p := ⟨w.heap.size, 3, none⟩) hz1).trans ha3
    have hc4 : w2.cell? ⟨w.heap.size, 4, none⟩ = some (.int .u32 i0) := (hb2.cell (p := ⟨w.heap.size, 4, none⟩) hz1).trans ha4
    have hc5 : w2.cell? ⟨w.heap.size, 5, none⟩ = some (.bool q0) := (hb2.cell (p := ⟨w.heap.size, 5, none⟩) hz1).trans ha5
    have hc6 : w2.cell? ⟨w.heap.size, 6, none⟩ = some (.bool r0) := (hb2.cell (p := ⟨w.heap.size, 6, none⟩) hz1).trans ha6
    have HB2 := Lib.hid (HB1.out.trans (hb2.mono (by omega))); clear hb2 ha0 ha1 ha2 ha3 ha4 ha5 ha6 hz1
    go_wp2_with fail
    refine (known_any _).mono ?_
    rintro e w3 ⟨rfl, hb3⟩
    have HB3 := Lib.hid (HB2.out.trans (hb3.mono (by omega))); clear hb3
    go_wp2_with fail
    go_ret
    exact ⟨rfl, HB3.out⟩

/-! THE ROW -/
set_option maxRecDepth 100000 in
theorem contract (H : Type) (enc : TypeId × Value → H) (W : World) (base : Nat) (args : Array Value) (ds gs : List (DataW H)) (before : List MemPlace)
    (hval0 : ∀ (j : Nat) t v, Tryd.f5.params[j]? = some t → args[j]? = some v → Value.okWide Tryd.prog W .any base t v)
    (hW : DataW.Whole enc Tryd.prog Tryd.f5.params.toList Rows.isaEncodeSpec.vars false W args.toList ds gs before) (hL : laidMet Tryd.prog Rows.isaEncodeRow.laid W) :
    Calls Tryd.prog 5 args W fun e W' => ∃ v, e = .returned v ∧ Rows.isaEncodeSpec.post enc Tryd.prog Tryd.f5 false true false false W args v W' := by
  have hval : ∀ (j : Nat) t v, Tryd.f5.params[j]? = some t → args[j]? = some v → Value.okWide Tryd.prog W .any base t v := hval0
  have hW' := hW
  obtain ⟨p, q, hA0, hV, rfl, hfz, hnd⟩ := hW
  have hA : DataW.TrodAll enc Tryd.prog W 0 (fun _ => true) true Tryd.f5.params.toList args.toList ds p := hA0
  rw [Tryd.params5] at hA hval
  obtain ⟨v0, vs0, d0, ds0, p0, q0, hargs, rfl, rfl, h0, r0⟩ := trodAll_cons hA
  obtain ⟨rfl, rfl, rfl⟩ := trodAll_nil r0
  obtain rfl : args = #[v0] := by cases args; simp_all
  obtain ⟨rfl, rfl⟩ := trodVars_none hV
  clear hA0 hval0
  simp only [List.append_nil] at hW'
  have hlt : ∀ x ∈ p0, x.block < W.heap.size := fun x hx => by simpa using hW'.lt x (by simpa using hx)
  obtain ⟨o0, dd0, e0, f0, i0, qq0, rr0, rfl, w0⟩ := open_inst (hval 0 25 v0 rfl rfl) h0
  refine (walk W o0 dd0 e0 f0 i0 qq0 rr0 w0).mono fun e W' ⟨he, hb⟩ => ?_
  subst he
  have harg0 : DataW.Trod enc Tryd.prog W' 0 (fun b => decide (b < W.heap.size)) true 25 _ _ _ := Below.trod laidOut (by kernel_rfl) (of_decide_eq_true (by kernel_rfl)) h0 hb (fun x hx => hlt x (by simp [hx]))
  exact ⟨_, rfl, _, _, _, [], _, [], hW', trodAll_mk1 (shut_bool Tryd.underlying4 _), (trodAll_cons_mk harg0 trodAll_mk0), rfl, hb.frame _, fun h => by cases h⟩
theorem laid_met (os : Os) : laidMet Tryd.prog Rows.isaEncodeRow.laid ((laidWorld os).forCall (fun _ _ => 0) ⟨#[], #[.agg #[.int .i64 0, .int .i64 0, .int .i64 0, .int .i64 0, .int .u32 0, .bool false, .bool false]], []⟩).memory :=
  laidMet_of_run' 8 (by kernel_rfl) (by kernel_rfl)
theorem reads (os : Os) {H : Type} (enc : TypeId × Value → H) : ∃ places, DataW.whole enc Tryd.prog ((laidWorld os).forCall (fun _ _ => 0) ⟨#[], #[.agg #[.int .i64 0, .int .i64 0, .int .i64 0, .int .i64 0, .int .u32 0, .bool false, .bool false]], []⟩).memory Tryd.f5.params.toList Rows.isaEncodeSpec.vars false (#[.agg #[.int .i64 0, .int .i64 0, .int .i64 0, .int .i64 0, .int .u32 0, .bool false, .bool false]] : Array Value).toList 8 = some ([.agg [.lit (.int .i64 0), .lit (.int .i64 0), .lit (.int .i64 0), .lit (.int .i64 0), .lit (.int .u32 0), .lit (.bool false), .lit (.bool false)]], [], places) :=
  ⟨[], by kernel_rfl⟩
set_option maxRecDepth 100000 in
theorem lifted (os : Os) (started : os.Started) (H : Type) (enc : TypeId × Value → H) (F : Stop.Interp) :
    ReturnsInHanded {} Tryd.checked os 5 .any ((OpenSpec.ofChange Rows.isaEncodeSpec).preRow enc Tryd.prog Tryd.f5 Rows.isaEncodeRow.domain false Rows.isaEncodeRow.laid) (((OpenSpec.ofChange Rows.isaEncodeSpec).at F).post enc Tryd.prog Tryd.f5 false true false false) := by
  obtain ⟨places, hx⟩ := reads os enc
  refine returnsInHanded_of_row (C := Tryd.checked) (s := OpenSpec.ofChange Rows.isaEncodeSpec) own started (by kernel_rfl) Tryd.func5
    (witness_row_at (enc := enc) (C := Tryd.checked) false (laidWorld os) #[.agg #[.int .i64 0, .int .i64 0, .int .i64 0, .int .i64 0, .int .u32 0, .bool false, .bool false]] rfl (by kernel_rfl) (by kernel_rfl) (by kernel_rfl)
      (OpenSpec.preRow_of_cond 8 hx (by kernel_rfl) (fun k hk => by cases hk) (by kernel_rfl) (laid_met os))) ?_
  intro W base args ds gs before hval hW _ _ _ hL _ _
  exact contract H enc W base args ds gs before hval hW hL
theorem said : Rows.IsaEncodeSaid :=
  OpenClaim.holds_of_cond 5 Tryd.f5 rfl rfl rfl rfl rfl rfl rfl ⟨rfl, rfl, rfl, rfl, rfl⟩ rfl rfl rfl rfl rfl (by kernel_rfl) Tryd.func5 (by kernel_rfl)
    (of_decide_eq_true (by kernel_rfl)) (by unfold Func.isWrapper; first | (rw [if_pos (by decide +kernel)]; kernel_rfl) | (rw [if_neg (by decide +kernel)]; exact ⟨rfl, rfl⟩))
    (fun os started H enc _ F => by rw [OpenClaim.pre_eq_preRow]; exact lifted os started H enc F)
/-- no parameter wants a stand-in; the program's own looks are off: what the card asks -/
theorem plain (f : FuncId) (fn : Func) (hf : Tryd.pinned.checked.prog.funcNamed "quadrille/quadrillelaw03.IsaEncode" = some f) (hfn : Tryd.pinned.checked.prog.funcs[f]? = some fn) :
    false = Tryd.pinned.checked.prog.looks [] ∧ ∀ (j : Nat) t, fn.params[j]? = some t → Tryd.pinned.checked.prog.wantsStandIn t = false := by
  obtain rfl : f = 5 := Option.some.inj ((show Tryd.prog.funcNamed "quadrille/quadrillelaw03.IsaEncode" = some 5 by kernel_rfl).symm.trans hf) |>.symm
  obtain rfl : fn = Tryd.f5 := (Option.some.inj (Tryd.func5.symm.trans hfn)).symm
  refine ⟨by kernel_rfl, fun j t ht => ?_⟩
  rw [Tryd.params5] at ht
  obtain rfl : t = 25 := by simpa using Array.mem_of_getElem? ht
  exact (show Tryd.prog.wantsStandIn 25 = false by kernel_rfl)
/-- THE STATEMENT: the card -/
theorem proved : Rows.IsaEncodeCardSaid :=
  Claim7.holds_tied_plain_at .later [] _ _ _ _ said (fun _ h => by cases h) (by kernel_rfl) (fun _ h => by cases h) isaEncode_row_tie rfl ⟨rfl, rfl⟩ (by kernel_rfl) rfl plain (by kernel_rfl)
end Go.Proofs.YtofnhjckghdhfaaDoor.isaEncode
