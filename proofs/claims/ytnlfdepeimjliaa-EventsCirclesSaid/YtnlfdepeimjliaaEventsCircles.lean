/-
  EventsCircles: for every input the statement's function returns true, with no condition; each argument reads behind the call as before. By contracts of the program's and the document's functions.
-/
import Derived.Test.YtnlfdepeimjliaaEvOpen
namespace Go.Proofs.Ytnlfdepeimjliaa.eventsCircles
open Go.ChangeShapes Go.WideShapes Go.ChangeAt Go.RowKit
set_option linter.unusedVariables false
set_option linter.unusedSimpArgs false
set_option linter.unusedSimpArgs false

theorem keep_any (a : Option Addr) (n c : Nat) (w : World) : Calls Try.prog 28 #[.slice a n c, .bool true] w fun e w' => e = .returned (.slice a n c) ∧ w = w' := by
  go_enter Try.func28, Try.ntmps28
  go_wp2
  go_ret
  exact ⟨rfl, rfl⟩
def okK (n : Int) (ps : List (Int × Int)) (k : Nat) : Bool := decide (0 ≤ n) && decide (n ≤ 64) && (ps.take k).all fun p => Ev.inB p.1 n && Ev.inB p.2 n
theorem okK_pos {n : Int} {ps : List (Int × Int)} {k : Nat} (h : okK n ps k = true) : 0 ≤ n ∧ n ≤ 64 := by
  unfold okK at h
  simp only [Bool.and_eq_true, decide_eq_true_eq] at h
  exact h.1
/-! THE WALK: the Go text returns true; of memory nothing that stood there has turned. -/
set_option maxRecDepth 100000 in
set_option maxHeartbeats 4000000 in
theorem walk (w : World) (a0 : Int) (w0 : (Lit.int .i64 a0).wf = true) (a1 : Option Addr) (n1 c1 : Nat) (x1 : List (Int × Int)) (l1 : x1.length = n1) (b1 : Ev.PsIn w a1 c1 x1) :
    Calls Try.prog 7 #[.int .i64 a0, .slice a1 n1 c1] w fun e w' => e = .returned (.bool true) ∧ Below w.heap.size w w' := by
  have HB := Lib.hid b1
  have hle := b1.le; have hmax := b1.max
  have hi64 := i64_of_wf w0
  have HI := Lib.hid hi64
  subst l1
  clear b1 w0
  by_cases hlong : 120 < x1.length
  · have hi : (120 : Int) < (x1.length : Int) := by omega
    clear hlong
    go_enter Try.func7, Try.ntmps7
    go_wp2_with fail
    refine (known_any _).mono ?_
    rintro e w3 ⟨rfl, hb⟩
    have HB3 := Lib.hid hb; clear hb
    go_wp2_with fail
    go_ret
    exact ⟨rfl, HB3.out⟩
  have hi : ¬ (120 : Int) < (x1.length : Int) := by omega
  have start : ∀ b, (decide (0 ≤ a0) && decide (a0 ≤ 64)) = b → okK a0 x1 0 = b := fun b h => by unfold okK; rw [h]; simp
  have START := Lib.hid start; clear start
  obtain ⟨ok0, hok0⟩ : ∃ b, (decide (0 ≤ a0) && decide (a0 ≤ 64)) = b := ⟨_, rfl⟩
  have HOK0 := Lib.hid (START.out _ hok0)
  have main : Calls Try.prog 7 #[.int .i64 a0, .slice a1 x1.length c1] w fun e w' => e = .returned (.bool true) ∧ Below w.heap.size w w' := by
    by_cases h0 : 0 ≤ a0
    · by_cases h1 : a0 ≤ 64
      · have e : ok0 = true := by rw [← hok0]; simp [h0, h1]
        subst e
        clear hok0
        go_enter Try.func7, Try.ntmps7
        go_wp2
        go_loopw [5, 6] (fun ok i wr => ∃ k : Nat, k ≤ x1.length ∧ i = .int .i64 (k : Int) ∧ ok = .bool (okK a0 x1 k) ∧ wr = w) (fun _ i _ => x1.length - (intOf i).toNat)
        case atStart => exact ⟨0, Nat.zero_le _, rfl, by rw [HOK0.out], by first | rfl | trivial⟩
        case round =>
          obtain ⟨k, hk, rfl, rfl, rfl⟩ := hrel
          by_cases hlt : k < x1.length
          · have hki : (k : Int) < (x1.length : Int) := by omega
            obtain ⟨p, hp⟩ : ∃ p, x1[k]? = some p := ⟨_, List.getElem?_eq_getElem hlt⟩
            have htk : x1.take (k + 1) = x1.take k ++ [p] := by rw [List.take_add_one, hp]; rfl
            obtain ⟨g, o, ea, hcx⟩ := HB.out.at_ hp
            have c0 := hcx 0 _ rfl
            have c1' := hcx 1 _ rfl
            rw [Nat.add_zero] at c0
            have hst : okK a0 x1 (k + 1) = (okK a0 x1 k && (Ev.inB p.1 a0 && Ev.inB p.2 a0)) := by unfold okK; rw [htk, List.all_append]; simp [Bool.and_assoc]
            obtain ⟨ok, hok⟩ : ∃ b, okK a0 x1 k = b := ⟨_, rfl⟩
            have HOK := Lib.hid hok
            rw [hok] at hst ⊢
            have HST := Lib.hid hst
            clear hp htk hcx hst hok
            rw [ea]; clear ea
            cases ok
            · go_wp2
              go_roundw
              case rel => exact ⟨k + 1, by omega, by go_num, by rw [HST.out]; rfl, by first | rfl | trivial⟩
              case measure => simp [intOf]; omega
            · have hpos := okK_pos HOK.out
              first | (exfalso; omega) | skip
              all_goals
                have HIN := Lib.hid (show ∀ n m : Int, Ev.inB n m = (decide (0 ≤ n) && decide (n < m)) from fun _ _ => rfl)
                by_cases t0 : 0 ≤ p.1
                · by_cases t1 : p.1 < a0
                  · by_cases t2 : 0 ≤ p.2
                    · by_cases t3 : p.2 < a0
                      · have HR := Lib.hid (show okK a0 x1 (k + 1) = true by rw [HST.out, HIN.out, HIN.out]; simp [t0, t1, t2, t3])
                        go_wp2
                        go_roundw
                        case rel => exact ⟨k + 1, by omega, by go_num, by rw [HR.out], by first | rfl | trivial⟩
                        case measure => simp [intOf]; omega
                      · have HR := Lib.hid (show okK a0 x1 (k + 1) = false by rw [HST.out, HIN.out, HIN.out]; simp [t3])
                        go_wp2
                        go_roundw
                        case rel => exact ⟨k + 1, by omega, by go_num, by rw [HR.out], by first | rfl | trivial⟩
                        case measure => simp [intOf]; omega
                    · have HR := Lib.hid (show okK a0 x1 (k + 1) = false by rw [HST.out, HIN.out, HIN.out]; simp [t2])
                      go_wp2
                      go_roundw
                      case rel => exact ⟨k + 1, by omega, by go_num, by rw [HR.out], by first | rfl | trivial⟩
                      case measure => simp [intOf]; omega
                  · have HR := Lib.hid (show okK a0 x1 (k + 1) = false by rw [HST.out, HIN.out, HIN.out]; simp [t1])
                    go_wp2
                    go_roundw
                    case rel => exact ⟨k + 1, by omega, by go_num, by rw [HR.out], by first | rfl | trivial⟩
                    case measure => simp [intOf]; omega
                · have HR := Lib.hid (show okK a0 x1 (k + 1) = false by rw [HST.out, HIN.out, HIN.out]; simp [t0])
                  go_wp2
                  go_roundw
                  case rel => exact ⟨k + 1, by omega, by go_num, by rw [HR.out], by first | rfl | trivial⟩
                  case measure => simp [intOf]; omega
          · have hki : ¬ (k : Int) < (x1.length : Int) := by omega
            have hke : k = x1.length := by omega
            have hfin : okK a0 x1 k = Ev.inRB a0 x1 := by unfold okK Ev.inRB; rw [hke, List.take_length]
            obtain ⟨ok, hok⟩ : ∃ b, okK a0 x1 k = b := ⟨_, rfl⟩
            rw [hok] at hfin ⊢
            have HFIN := Lib.hid hfin
            clear hok hfin hke
            go_wp2_with fail
            refine (acyclic_any a0 HI.out a1 c1 x1 (by omega) _ HB.out).mono ?_
            rintro e w2 ⟨ba, rfl, hra, hba⟩
            have HRA := Lib.hid hra; have HBA := Lib.hid hba
            clear hra hba
            cases ok
            · have hf : ba = false := by
                rcases HRA.out with ⟨h, _⟩ | ⟨h, _⟩ | ⟨_, h, _⟩
                · exact h
                · exact h
                · exfalso; have := Ev.inRB_iff.2 h; rw [← HFIN.out] at this; cases this
              subst hf
              go_wp2_with fail
              refine (known_any _).mono ?_
              rintro e w3 ⟨rfl, hb3⟩
              have HB3 := Lib.hid (HBA.out.trans (hb3.mono HBA.out.size)); clear hb3
              go_wp2_with fail
              go_ret
              exact ⟨rfl, HB3.out⟩
            · have hinr : Ev.InR a0 x1 := Ev.inRB_iff.1 HFIN.out.symm
              first
                | (exfalso; have e1 := hinr.1; have e2 := hinr.2.1; omega)
                | (obtain ⟨nn, hnn⟩ : ∃ nn : Nat, a0 = nn := ⟨a0.toNat, by have := hinr.1; omega⟩
                   subst hnn
                   have HINR := Lib.hid hinr
                   have hn64 := hinr.2.1
                   clear hinr
                   go_wp2_with (first
                     | (go_at_call 28; refine (keep_any _ _ _ _).mono ?_; rintro e w' ⟨rfl, rfl⟩))
                   refine (circle_any nn a1 c1 x1 HINR.out w2 (HB.out.kp (Ev.kp_below HBA.out))).mono ?_
                   rintro e w3 ⟨bc, rfl, hrc, hbc⟩
                   have hres : bc = !ba := Ev.circ_ok HINR.out HRA.out hrc
                   have HBC := Lib.hid (HBA.out.trans (hbc.mono HBA.out.size))
                   subst hres
                   clear hrc hbc
                   cases ba
                   all_goals
                     go_wp2_with fail
                     refine (known_any _).mono ?_
                     rintro e w4 ⟨rfl, hb4⟩
                     have HB4 := Lib.hid (HBC.out.trans (hb4.mono HBC.out.size)); clear hb4
                     go_wp2_with fail
                     go_ret
                     exact ⟨rfl, HB4.out⟩)
      · have e : ok0 = false := by rw [← hok0]; simp [h1]
        subst e
        clear hok0
        go_enter Try.func7, Try.ntmps7
        go_wp2
        go_loopw [5, 6] (fun ok i wr => ∃ k : Nat, k ≤ x1.length ∧ i = .int .i64 (k : Int) ∧ ok = .bool (okK a0 x1 k) ∧ wr = w) (fun _ i _ => x1.length - (intOf i).toNat)
        case atStart => exact ⟨0, Nat.zero_le _, rfl, by rw [HOK0.out], by first | rfl | trivial⟩
        case round =>
          obtain ⟨k, hk, rfl, rfl, rfl⟩ := hrel
          by_cases hlt : k < x1.length
          · have hki : (k : Int) < (x1.length : Int) := by omega
            obtain ⟨p, hp⟩ : ∃ p, x1[k]? = some p := ⟨_, List.getElem?_eq_getElem hlt⟩
            have htk : x1.take (k + 1) = x1.take k ++ [p] := by rw [List.take_add_one, hp]; rfl
            obtain ⟨g, o, ea, hcx⟩ := HB.out.at_ hp
            have c0 := hcx 0 _ rfl
            have c1' := hcx 1 _ rfl
            rw [Nat.add_zero] at c0
            have hst : okK a0 x1 (k + 1) = (okK a0 x1 k && (Ev.inB p.1 a0 && Ev.inB p.2 a0)) := by unfold okK; rw [htk, List.all_append]; simp [Bool.and_assoc]
            obtain ⟨ok, hok⟩ : ∃ b, okK a0 x1 k = b := ⟨_, rfl⟩
            have HOK := Lib.hid hok
            rw [hok] at hst ⊢
            have HST := Lib.hid hst
            clear hp htk hcx hst hok
            rw [ea]; clear ea
            cases ok
            · go_wp2
              go_roundw
              case rel => exact ⟨k + 1, by omega, by go_num, by rw [HST.out]; rfl, by first | rfl | trivial⟩
              case measure => simp [intOf]; omega
            · have hpos := okK_pos HOK.out
              first | (exfalso; omega) | skip
              all_goals
                have HIN := Lib.hid (show ∀ n m : Int, Ev.inB n m = (decide (0 ≤ n) && decide (n < m)) from fun _ _ => rfl)
                by_cases t0 : 0 ≤ p.1
                · by_cases t1 : p.1 < a0
                  · by_cases t2 : 0 ≤ p.2
                    · by_cases t3 : p.2 < a0
                      · have HR := Lib.hid (show okK a0 x1 (k + 1) = true by rw [HST.out, HIN.out, HIN.out]; simp [t0, t1, t2, t3])
                        go_wp2
                        go_roundw
                        case rel => exact ⟨k + 1, by omega, by go_num, by rw [HR.out], by first | rfl | trivial⟩
                        case measure => simp [intOf]; omega
                      · have HR := Lib.hid (show okK a0 x1 (k + 1) = false by rw [HST.out, HIN.out, HIN.out]; simp [t3])
                        go_wp2
                        go_roundw
                        case rel => exact ⟨k + 1, by omega, by go_num, by rw [HR.out], by first | rfl | trivial⟩
                        case measure => simp [intOf]; omega
                    · have HR := Lib.hid (show okK a0 x1 (k + 1) = false by rw [HST.out, HIN.out, HIN.out]; simp [t2])
                      go_wp2
                      go_roundw
                      case rel => exact ⟨k + 1, by omega, by go_num, by rw [HR.out], by first | rfl | trivial⟩
                      case measure => simp [intOf]; omega
                  · have HR := Lib.hid (show okK a0 x1 (k + 1) = false by rw [HST.out, HIN.out, HIN.out]; simp [t1])
                    go_wp2
                    go_roundw
                    case rel => exact ⟨k + 1, by omega, by go_num, by rw [HR.out], by first | rfl | trivial⟩
                    case measure => simp [intOf]; omega
                · have HR := Lib.hid (show okK a0 x1 (k + 1) = false by rw [HST.out, HIN.out, HIN.out]; simp [t0])
                  go_wp2
                  go_roundw
                  case rel => exact ⟨k + 1, by omega, by go_num, by rw [HR.out], by first | rfl | trivial⟩
                  case measure => simp [intOf]; omega
          · have hki : ¬ (k : Int) < (x1.length : Int) := by omega
            have hke : k = x1.length := by omega
            have hfin : okK a0 x1 k = Ev.inRB a0 x1 := by unfold okK Ev.inRB; rw [hke, List.take_length]
            obtain ⟨ok, hok⟩ : ∃ b, okK a0 x1 k = b := ⟨_, rfl⟩
            rw [hok] at hfin ⊢
            have HFIN := Lib.hid hfin
            clear hok hfin hke
            go_wp2_with fail
            refine (acyclic_any a0 HI.out a1 c1 x1 (by omega) _ HB.out).mono ?_
            rintro e w2 ⟨ba, rfl, hra, hba⟩
            have HRA := Lib.hid hra; have HBA := Lib.hid hba
            clear hra hba
            cases ok
            · have hf : ba = false := by
                rcases HRA.out with ⟨h, _⟩ | ⟨h, _⟩ | ⟨_, h, _⟩
                · exact h
                · exact h
                · exfalso; have := Ev.inRB_iff.2 h; rw [← HFIN.out] at this; cases this
              subst hf
              go_wp2_with fail
              refine (known_any _).mono ?_
              rintro e w3 ⟨rfl, hb3⟩
              have HB3 := Lib.hid (HBA.out.trans (hb3.mono HBA.out.size)); clear hb3
              go_wp2_with fail
              go_ret
              exact ⟨rfl, HB3.out⟩
            · have hinr : Ev.InR a0 x1 := Ev.inRB_iff.1 HFIN.out.symm
              first
                | (exfalso; have e1 := hinr.1; have e2 := hinr.2.1; omega)
                | (obtain ⟨nn, hnn⟩ : ∃ nn : Nat, a0 = nn := ⟨a0.toNat, by have := hinr.1; omega⟩
                   subst hnn
                   have HINR := Lib.hid hinr
                   have hn64 := hinr.2.1
                   clear hinr
                   go_wp2_with (first
                     | (go_at_call 28; refine (keep_any _ _ _ _).mono ?_; rintro e w' ⟨rfl, rfl⟩))
                   refine (circle_any nn a1 c1 x1 HINR.out w2 (HB.out.kp (Ev.kp_below HBA.out))).mono ?_
                   rintro e w3 ⟨bc, rfl, hrc, hbc⟩
                   have hres : bc = !ba := Ev.circ_ok HINR.out HRA.out hrc
                   have HBC := Lib.hid (HBA.out.trans (hbc.mono HBA.out.size))
                   subst hres
                   clear hrc hbc
                   cases ba
                   all_goals
                     go_wp2_with fail
                     refine (known_any _).mono ?_
                     rintro e w4 ⟨rfl, hb4⟩
                     have HB4 := Lib.hid (HBC.out.trans (hb4.mono HBC.out.size)); clear hb4
                     go_wp2_with fail
                     go_ret
                     exact ⟨rfl, HB4.out⟩)
    · have e : ok0 = false := by rw [← hok0]; simp [h0]
      subst e
      clear hok0
      have skip0 : True := trivial
      go_enter Try.func7, Try.ntmps7
      go_wp2
      go_loopw [5, 6] (fun ok i wr => ∃ k : Nat, k ≤ x1.length ∧ i = .int .i64 (k : Int) ∧ ok = .bool (okK a0 x1 k) ∧ wr = w) (fun _ i _ => x1.length - (intOf i).toNat)
      case atStart => exact ⟨0, Nat.zero_le _, rfl, by rw [HOK0.out], by first | rfl | trivial⟩
      case round =>
        obtain ⟨k, hk, rfl, rfl, rfl⟩ := hrel
        by_cases hlt : k < x1.length
        · have hki : (k : Int) < (x1.length : Int) := by omega
          obtain ⟨p, hp⟩ : ∃ p, x1[k]? = some p := ⟨_, List.getElem?_eq_getElem hlt⟩
          have htk : x1.take (k + 1) = x1.take k ++ [p] := by rw [List.take_add_one, hp]; rfl
          obtain ⟨g, o, ea, hcx⟩ := HB.out.at_ hp
          have c0 := hcx 0 _ rfl
          have c1' := hcx 1 _ rfl
          rw [Nat.add_zero] at c0
          have hst : okK a0 x1 (k + 1) = (okK a0 x1 k && (Ev.inB p.1 a0 && Ev.inB p.2 a0)) := by unfold okK; rw [htk, List.all_append]; simp [Bool.and_assoc]
          obtain ⟨ok, hok⟩ : ∃ b, okK a0 x1 k = b := ⟨_, rfl⟩
          have HOK := Lib.hid hok
          rw [hok] at hst ⊢
          have HST := Lib.hid hst
          clear hp htk hcx hst hok
          rw [ea]; clear ea
          cases ok
          · go_wp2
            go_roundw
            case rel => exact ⟨k + 1, by omega, by go_num, by rw [HST.out]; rfl, by first | rfl | trivial⟩
            case measure => simp [intOf]; omega
          · have hpos := okK_pos HOK.out
            first | (exfalso; omega) | skip
            all_goals
              have HIN := Lib.hid (show ∀ n m : Int, Ev.inB n m = (decide (0 ≤ n) && decide (n < m)) from fun _ _ => rfl)
              by_cases t0 : 0 ≤ p.1
              · by_cases t1 : p.1 < a0
                · by_cases t2 : 0 ≤ p.2
                  · by_cases t3 : p.2 < a0
                    · have HR := Lib.hid (show okK a0 x1 (k + 1) = true by rw [HST.out, HIN.out, HIN.out]; simp [t0, t1, t2, t3])
                      go_wp2
                      go_roundw
                      case rel => exact ⟨k + 1, by omega, by go_num, by rw [HR.out], by first | rfl | trivial⟩
                      case measure => simp [intOf]; omega
                    · have HR := Lib.hid (show okK a0 x1 (k + 1) = false by rw [HST.out, HIN.out, HIN.out]; simp [t3])
                      go_wp2
                      go_roundw
                      case rel => exact ⟨k + 1, by omega, by go_num, by rw [HR.out], by first | rfl | trivial⟩
                      case measure => simp [intOf]; omega
                  · have HR := Lib.hid (show okK a0 x1 (k + 1) = false by rw [HST.out, HIN.out, HIN.out]; simp [t2])
                    go_wp2
                    go_roundw
                    case rel => exact ⟨k + 1, by omega, by go_num, by rw [HR.out], by first | rfl | trivial⟩
                    case measure => simp [intOf]; omega
                · have HR := Lib.hid (show okK a0 x1 (k + 1) = false by rw [HST.out, HIN.out, HIN.out]; simp [t1])
                  go_wp2
                  go_roundw
                  case rel => exact ⟨k + 1, by omega, by go_num, by rw [HR.out], by first | rfl | trivial⟩
                  case measure => simp [intOf]; omega
              · have HR := Lib.hid (show okK a0 x1 (k + 1) = false by rw [HST.out, HIN.out, HIN.out]; simp [t0])
                go_wp2
                go_roundw
                case rel => exact ⟨k + 1, by omega, by go_num, by rw [HR.out], by first | rfl | trivial⟩
                case measure => simp [intOf]; omega
        · have hki : ¬ (k : Int) < (x1.length : Int) := by omega
          have hke : k = x1.length := by omega
          have hfin : okK a0 x1 k = Ev.inRB a0 x1 := by unfold okK Ev.inRB; rw [hke, List.take_length]
          obtain ⟨ok, hok⟩ : ∃ b, okK a0 x1 k = b := ⟨_, rfl⟩
          rw [hok] at hfin ⊢
          have HFIN := Lib.hid hfin
          clear hok hfin hke
          go_wp2_with fail
          refine (acyclic_any a0 HI.out a1 c1 x1 (by omega) _ HB.out).mono ?_
          rintro e w2 ⟨ba, rfl, hra, hba⟩
          have HRA := Lib.hid hra; have HBA := Lib.hid hba
          clear hra hba
          cases ok
          · have hf : ba = false := by
              rcases HRA.out with ⟨h, _⟩ | ⟨h, _⟩ | ⟨_, h, _⟩
              · exact h
              · exact h
              · exfalso; have := Ev.inRB_iff.2 h; rw [← HFIN.out] at this; cases this
            subst hf
            go_wp2_with fail
            refine (known_any _).mono ?_
            rintro e w3 ⟨rfl, hb3⟩
            have HB3 := Lib.hid (HBA.out.trans (hb3.mono HBA.out.size)); clear hb3
            go_wp2_with fail
            go_ret
            exact ⟨rfl, HB3.out⟩
          · have hinr : Ev.InR a0 x1 := Ev.inRB_iff.1 HFIN.out.symm
            first
              | (exfalso; have e1 := hinr.1; have e2 := hinr.2.1; omega)
              | (obtain ⟨nn, hnn⟩ : ∃ nn : Nat, a0 = nn := ⟨a0.toNat, by have := hinr.1; omega⟩
                 subst hnn
                 have HINR := Lib.hid hinr
                 have hn64 := hinr.2.1
                 clear hinr
                 go_wp2_with (first
                   | (go_at_call 28; refine (keep_any _ _ _ _).mono ?_; rintro e w' ⟨rfl, rfl⟩))
                 refine (circle_any nn a1 c1 x1 HINR.out w2 (HB.out.kp (Ev.kp_below HBA.out))).mono ?_
                 rintro e w3 ⟨bc, rfl, hrc, hbc⟩
                 have hres : bc = !ba := Ev.circ_ok HINR.out HRA.out hrc
                 have HBC := Lib.hid (HBA.out.trans (hbc.mono HBA.out.size))
                 subst hres
                 clear hrc hbc
                 cases ba
                 all_goals
                   go_wp2_with fail
                   refine (known_any _).mono ?_
                   rintro e w4 ⟨rfl, hb4⟩
                   have HB4 := Lib.hid (HBC.out.trans (hb4.mono HBC.out.size)); clear hb4
                   go_wp2_with fail
                   go_ret
                   exact ⟨rfl, HB4.out⟩)
  exact main

/-! THE ROW -/
set_option maxRecDepth 100000 in
theorem lifted (os : Os) (started : os.Started) (H : Type) (enc : TypeId × Value → H) :
    ReturnsInHanded {} Try.checked os 7 .any (Rows.eventsCirclesSpec.pre6 enc Try.prog Try.f7 Rows.eventsCirclesRow.domain false) (Rows.eventsCirclesSpec.post enc Try.prog Try.f7 false true false false) := by
  refine returnsInHanded_of_change (C := Try.checked) own started (by kernel_rfl) Try.func7
    (ChangeSpec.witness6 (enc := enc) (C := Try.checked) false ⟨#[], #[.int .i64 0, .slice none 0 0], []⟩ 8 (by kernel_rfl) (by kernel_rfl) (by kernel_rfl) (by kernel_rfl)) ?_
  intro W base args ds gs before hval0 hW hcnd _
  have hval : ∀ (j : Nat) t v, Try.f7.params[j]? = some t → args[j]? = some v → Value.okWide Try.prog W .any base t v := hval0
  have hW' := hW
  obtain ⟨p, q, hA0, hV, rfl, hfz, hnd⟩ := hW
  have hA : DataW.TrodAll enc Try.prog W 0 (fun _ => true) true Try.f7.params.toList args.toList ds p := hA0
  rw [Try.params7] at hA hval
  obtain ⟨v0, vs0, d0, ds0, p0, q0, hargs, rfl, rfl, h0, r0⟩ := trodAll_cons hA
  obtain ⟨v1, vs1, d1, ds1, p1, q1, rfl, rfl, rfl, h1, r1⟩ := trodAll_cons r0
  obtain ⟨rfl, rfl, rfl⟩ := trodAll_nil r1
  obtain rfl : args = #[v0, v1] := by cases args; simp_all
  obtain ⟨rfl, rfl⟩ := trodVars_none hV
  clear hA0 hval0
  simp only [List.append_nil] at hW'
  have hlt : ∀ x ∈ p0 ++ (p1), x.block < W.heap.size := fun x hx => by simpa using hW'.lt x (by simpa using hx)
  have h0k := h0
  obtain ⟨a0, rfl, rfl, rfl, w0⟩ := open_int Try.underlying3 (hval 0 3 v0 rfl rfl) h0
  obtain ⟨a1, n1, c1, rfl⟩ := okWide_slice Try.underlying32 (hval 1 32 v1 rfl rfl)
  obtain ⟨x1, l1, b1⟩ := open_pairs h1
  refine (walk W a0 w0 a1 n1 c1 x1 l1 b1).mono fun e W' ⟨he, hb⟩ => ?_
  subst he
  have harg0 : DataW.Trod enc Try.prog W' 0 (fun b => decide (b < W.heap.size)) true 3 _ _ _ := Below.trod laidOut (by kernel_rfl) (of_decide_eq_true (by kernel_rfl)) h0k hb (fun x hx => by cases hx)
  have harg1 : DataW.Trod enc Try.prog W' 0 (fun b => decide (b < W.heap.size)) true 32 _ _ _ := Below.trod laidOut (by kernel_rfl) (of_decide_eq_true (by kernel_rfl)) h1 hb (fun x hx => hlt x (by simp [hx]))
  exact ⟨_, rfl, _, _, _, [], _, [], hW', trodAll_mk1 (shut_bool Try.underlying4 _), (trodAll_cons_mk harg0 (trodAll_cons_mk harg1 trodAll_mk0)), rfl, hb.frame _, fun h => by cases h⟩

theorem over : Rows.eventsCirclesRow.holds Try.pinned (OpenSpec.ofChange Rows.eventsCirclesSpec) :=
  OpenClaim.holds_of_wide 7 Try.f7 rfl rfl rfl rfl rfl rfl rfl ⟨rfl, rfl, rfl, rfl, rfl⟩ rfl rfl rfl rfl rfl (by kernel_rfl) Try.func7 (by kernel_rfl)
    (of_decide_eq_true (by kernel_rfl)) (by unfold Func.isWrapper; first | (rw [if_pos (by decide +kernel)]; kernel_rfl) | (rw [if_neg (by decide +kernel)]; exact ⟨rfl, rfl⟩))
    (fun os started H enc _ => lifted os started H enc)

/-- THE STATEMENT -/
theorem proved : Rows.EventsCirclesSaid :=
  over
end Go.Proofs.Ytnlfdepeimjliaa.eventsCircles
