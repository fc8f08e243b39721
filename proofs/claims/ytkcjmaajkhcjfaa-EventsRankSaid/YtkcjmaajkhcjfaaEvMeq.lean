/-
  The contracts of maps.Equal over sets, and of begunWhereUsed.
-/
import Derived.Test.YtkcjmaajkhcjfaaEvOrd
import Derived.Maps.RangeWalk
namespace Go.Proofs.Ytkcjmaajkhcjfaa
open Go.RowKit Go.Maps Go.WideElems
set_option linter.unusedVariables false
set_option linter.unusedSimpArgs false
namespace Ev
/-- are all of one set in the other one? -/
def SubS (D1 D2 : DataW Unit) : Prop := ∀ x, u32B x → Maps.has D1 (.int .u32 x) = true → Maps.has D2 (.int .u32 x) = true
def EqPost (w : World) (D1 D2 : DataW Unit) (e : Ending) (w' : World) : Prop := ∃ r, e = .returned (.bool r) ∧ (r = true ↔ Maps.size D1 = Maps.size D2 ∧ SubS D1 D2) ∧ Below w.heap.size w w'
theorem EqPost.mk {w : World} {D1 D2 : DataW Unit} {e : Ending} {w' : World} (r : Bool) (h1 : e = .returned (.bool r)) (h2 : r = true ↔ Maps.size D1 = Maps.size D2 ∧ SubS D1 D2) (h3 : Below w.heap.size w w') : EqPost w D1 D2 e w' := ⟨r, h1, h2, h3⟩
theorem u32_of_wf {x : Int} (h : (Lit.int .u32 x).wf = true) : u32B x := by
  have h1 : IntKind.u32.min = 0 := by decide
  have h2 : IntKind.u32.max = 4294967295 := by decide
  simp only [Lit.wf, h1, h2, Bool.and_eq_true, decide_eq_true_eq] at h
  unfold u32B; omega
theorem sameKey_u32 (x y : Int) : (Lit.int .u32 x).sameKey (.int .u32 y) = decide (x = y) := by
  by_cases h : x = y
  · subst h
    rw [WideAt.sameKey_self (iskey_int _ _)]; simp
  · rw [Maps.sameKey_ne (by intro e; injection e with _ e; exact h e)]; simp [h]
theorem has_of_left {w : World} {P : Program} {k : TypeId} {R : Value → Option (DataW Unit × List MemPlace)} {b r n : Nat} {D : DataW Unit} {left : Lit → Bool} {cnt : Nat} (h : w.ranges P k R b r n D left cnt) {kl : Lit} (hkl : WideAt.IsKeyLit kl) (hl : left kl = true) : Maps.has D kl = true := by
  obtain ⟨es, clock, since, seen, c0, hb, F, hs, hD, hr, hbn, hc, hle, hex, _⟩ := h
  obtain ⟨x, hx, hk⟩ := hex kl hl
  rw [hD, Maps.has_eq, List.any_eq_true]
  refine ⟨rg P k R x, mem_sorted.2 (List.mem_map.2 ⟨x, hx, rfl⟩), ?_⟩
  rw [hk]; exact WideAt.sameKey_self hkl
end Ev
set_option maxRecDepth 100000 in
set_option maxHeartbeats 1000000 in
theorem mapsEq_any (b1 b2 n1 n2 : Nat) (D1 D2 : DataW Unit) (hmx : n1 ≤ 9223372036854775807 ∧ n2 ≤ 9223372036854775807) (w : World) (hown1 : w.ownsMap Try.prog 42 unitElem b1 n1 D1) (hown2 : w.ownsMap Try.prog 42 unitElem b2 n2 D2) :
    Calls Try.prog 74 #[.map (some b1), .map (some b2)] w (Ev.EqPost w D1 D2) := by
  have H1 := Lib.hid hown1; have H2 := Lib.hid hown2
  have hs1 := hown1.size_le; have hs2 := hown2.size_le
  clear hown1 hown2
  obtain ⟨s1, hs1e⟩ : ∃ s, Maps.size D1 = s := ⟨_, rfl⟩
  obtain ⟨s2, hs2e⟩ : ∃ s, Maps.size D2 = s := ⟨_, rfl⟩
  have HS1 := Lib.hid hs1e; have HS2 := Lib.hid hs2e
  rw [hs1e] at hs1; rw [hs2e] at hs2
  clear hs1e hs2e
  by_cases hne : s1 = s2
  · have hq : ((s1 : Int) != (s2 : Int)) = false := by simp [hne]
    have HNE := Lib.hid hne; clear hne
    go_enter Try.func74, Try.ntmps74
    go_wp2_with (first
      | (show wpList _ _ _ (Oper.mk (some 10) _ _ _ _ _ :: _) _ _; refine wpList_len_own _ rfl _ 88 rfl 42 89 Try.underlying88 unitElem b1 n1 D1 rfl H1.out ?_; rw [HS1.out])
      | (show wpList _ _ _ (Oper.mk (some 12) _ _ _ _ _ :: _) _ _; refine wpList_len_own _ rfl _ 88 rfl 42 89 Try.underlying88 unitElem b2 n2 D2 rfl H2.out ?_; rw [HS2.out])
      | (show wpList _ _ _ (Oper.mk (some 15) _ _ _ _ _ :: _) _ _; refine wpList_range_own _ rfl _ 88 rfl 42 89 law_u32 Try.underlying88 unitElem b1 n1 D1 rfl H1.out ?_; intro w1 hrg hg1 hsz1; have HRG := Lib.hid hrg; have HG1 := Lib.hid hg1; clear hrg hg1 hsz1))
    go_frame
    go_loopw [5, 8] (fun _ _ wr => ∃ (left : Lit → Bool) (cnt : Nat), wr.ranges Try.prog 42 unitElem b1 w.heap.size n1 D1 left cnt ∧ (∀ x, Ev.u32B x → Maps.has D1 (.int .u32 x) = true → left (.int .u32 x) = false → Maps.has D2 (.int .u32 x) = true) ∧ wr.ownsMap Try.prog 42 unitElem b2 n2 D2 ∧ Below w.heap.size w wr) (fun _ _ wr => wr.rangeLeft b1 w.heap.size)
    case atStart => exact ⟨_, _, HRG.out, (fun x _ h1 h2 => (by rw [h1] at h2; cases h2)), H2.out.kept HG1.out (by simp), (Below.refl w.heap.size w).grown HG1.out (Nat.le_refl _) (fun k hk => by cases hk)⟩
    case round =>
      obtain ⟨left, cnt, hrg, hdone, ho2, hbr⟩ := hrel
      have HR := Lib.hid hrg; have HD := Lib.hid hdone; have HO2 := Lib.hid ho2; have HBR := Lib.hid hbr
      clear hrg hdone ho2 hbr
      go_wp2_with (at_next; refine wpList_next_ranges _ rfl _ rfl 42 law_u32 unitElem (Value.int .u32) (fun _ : Unit => Value.agg #[]) (fun key kl hkey => by obtain ⟨x, rfl, _⟩ := Maps.keyOf_int_inv Try.underlying42 hkey; exact ⟨x, rfl⟩) (fun v y hv => ⟨(), (unitElem_inv hv).1⟩) b1 w.heap.size n1 D1 left cnt rfl HR.out ?_ ?_)
      · intro _ hl0
        have HL0 := Lib.hid hl0; clear hl0
        go_wp2
        go_ret
        refine Ev.EqPost.mk true rfl ?_ HBR.out
        exact ⟨fun _ => ⟨by rw [HS1.out, HS2.out, HNE.out], fun x hx h => HD.out x hx h (HL0.out _)⟩, fun _ => rfl⟩
      · intro x _ kl y w1 cnt1 hkey hlk hv hat hrg1 hlt hg1 hs1' hen
        obtain ⟨x', ex, rfl, hwx⟩ := Maps.keyOf_int_inv Try.underlying42 hkey
        cases ex
        have hbr1 := HBR.out.grown hg1 HBR.out.size (fun k hk => by cases hk; exact Nat.le_refl _)
        have hne2 : b2 ≠ w.heap.size := by have := H2.out.lt; omega
        have ho2 := HO2.out.kept hg1 (by intro e; injection e with e; exact hne2 e)
        have HRG1 := Lib.hid hrg1; have HBR1 := Lib.hid hbr1; have HWX := Lib.hid hwx; have HHO := Lib.hid (ho2.alloc (.cells #[] 89)); have HLK := Lib.hid hlk; have HAT := Lib.hid hat; have HLT := Lib.hid hlt
        have HH1 := Lib.hid (Ev.has_of_left HR.out (Ev.iskey_int _ _) hlk)
        clear hrg1 hbr1 hg1 hs1' ho2 hkey hlk hv hat hlt hne2
        obtain ⟨h2, hh2⟩ : ∃ h, Maps.has D2 (.int .u32 x) = h := ⟨_, rfl⟩
        have HH2 := Lib.hid hh2; clear hh2
        cases h2
        · go_wp2_with (at_lookup; refine wpList_lookup_own_unit _ rfl _ _ 88 rfl 42 89 law_u32 Try.underlying88 (zero_unit _) b2 n2 D2 rfl HHO.out _ _ rfl (keyOf_int_mk (P := Try.prog) Try.underlying42 HWX.out) ?_; rw [HH2.out])
          go_ret
          refine Ev.EqPost.mk false rfl ?_ ?_
          · exact ⟨fun h => (by cases h), fun h => (by have := h.2 x (Ev.u32_of_wf HWX.out) HH1.out; rw [HH2.out] at this; cases this)⟩
          · exact (HBR1.out.alloc HBR1.out.size _).alloc (by simp only [World.size_alloc]; have := HBR1.out.size; omega) _
        · go_wp2_with (at_lookup; refine wpList_lookup_own_unit _ rfl _ _ 88 rfl 42 89 law_u32 Try.underlying88 (zero_unit _) b2 n2 D2 rfl HHO.out _ _ rfl (keyOf_int_mk (P := Try.prog) Try.underlying42 HWX.out) ?_; rw [HH2.out])
          refine ⟨⟨_, cnt1, (HRG1.out.alloc _).alloc _, fun y hy h1 h2 => ?_, HHO.out.alloc _, (HBR1.out.alloc HBR1.out.size _).alloc (by simp only [World.size_alloc]; have := HBR1.out.size; omega) _⟩, ?_⟩
          · rw [Bool.and_eq_false_iff] at h2
            rcases h2 with h2 | h2
            · exact HD.out y hy h1 h2
            · rw [Ev.sameKey_u32] at h2
              have hyx : y = x := by simpa using h2
              subst hyx; exact HH2.out
          · rw [((HRG1.out.alloc _).alloc _).left_eq, HR.out.left_eq]; exact HLT.out
  · have hq : ((s1 : Int) != (s2 : Int)) = true := by simp; omega
    have HNE := Lib.hid hne; clear hne
    go_enter Try.func74, Try.ntmps74
    go_wp2_with (first
      | (show wpList _ _ _ (Oper.mk (some 10) _ _ _ _ _ :: _) _ _; refine wpList_len_own _ rfl _ 88 rfl 42 89 Try.underlying88 unitElem b1 n1 D1 rfl H1.out ?_; rw [HS1.out])
      | (show wpList _ _ _ (Oper.mk (some 12) _ _ _ _ _ :: _) _ _; refine wpList_len_own _ rfl _ 88 rfl 42 89 Try.underlying88 unitElem b2 n2 D2 rfl H2.out ?_; rw [HS2.out]))
    go_ret
    refine Ev.EqPost.mk false rfl ?_ (Below.refl _ _)
    exact ⟨fun h => (by cases h), fun h => absurd (by rw [← HS1.out, ← HS2.out]; exact h.1) HNE.out⟩
end Go.Proofs.Ytkcjmaajkhcjfaa
