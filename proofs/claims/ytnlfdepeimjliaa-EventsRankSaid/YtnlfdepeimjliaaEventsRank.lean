/-
  EventsRank: for every input the statement's function returns true, with no condition; each argument reads behind the call as before. By contracts of the program's and the document's functions.
-/
import Derived.Test.YtnlfdepeimjliaaEvOpen
import Derived.Deep.QuietTactic
import Derived.BigQuiet
import Derived.Test.YtnlfdepeimjliaaEvEq
namespace Go.Proofs.Ytnlfdepeimjliaa.eventsRank
open Go.ChangeShapes Go.WideShapes Go.ChangeAt Go.RowKit
set_option linter.unusedVariables false
set_option linter.unusedSimpArgs false

theorem Og.s_two {P : Program} {ops : Array Oper} {Q : Exit → Act → World → Prop} {S : Nat → World → Prop} {fuel : Nat} {listed : Array Bool} {a : Act} {w : World} (i k : Nat) (o q : Oper) (hi : ops[i]? = some o) (hg : o.guard = none) (hk : ops[k]? = some q) (hgk : q.guard = none) (hr : Region.ready .any ops listed = [i, k])
    (h1 : o.wp P a w (fun a' w' => Og.Keep .any ops S i w w' ∧ Og.wpAnyS P .any ops Q S fuel (listed.setIfInBounds i true) a' w') Q)
    (h2 : q.wp P a w (fun a' w' => Og.Keep .any ops S k w w' ∧ Og.wpAnyS P .any ops Q S fuel (listed.setIfInBounds k true) a' w') Q) : Og.wpAnyS P .any ops Q S (fuel + 1) listed a w :=
  ⟨fun h0 => absurd (hr ▸ h0) (by simp), fun j hj => by
    rw [hr] at hj
    unfold wpOp
    rcases (by simpa using hj : j = i ∨ j = k) with rfl | rfl
    · rw [hi]
      have hw : Region.wanted o (yielded ops a.tmps) = true := by unfold Region.wanted; rw [hg]
      simp only [hw, if_true]
      exact .inl h1
    · rw [hk]
      have hw : Region.wanted q (yielded ops a.tmps) = true := by unfold Region.wanted; rw [hgk]
      simp only [hw, if_true]
      exact .inl h2⟩
/-- the readings stand as long as what stood stands -/
def Sb (wq : World) (_ : Nat) (x : World) : Prop := Below wq.heap.size wq x
theorem keep_b {ops : Array Oper} {wq : World} {j : Nat} {w w' : World} (h : Below wq.heap.size wq w → Below wq.heap.size wq w') : Og.Keep .any ops (Sb wq) j w w' := fun _ _ _ _ _ hS => h hS
theorem pz_one (p : Int × Int) : ∀ u ∈ Ev.pz p, u.oneCell' = true := by
  intro u hu; simp [Ev.pz] at hu; rcases hu with rfl | rfl <;> rfl
theorem pz_all (U : List (Int × Int)) : ∀ u ∈ U.flatMap Ev.pz, u.oneCell' = true := by
  intro u hu
  obtain ⟨p, _, hp⟩ := List.mem_flatMap.1 hu
  exact pz_one p u hp
theorem pz_flat (U : List (Int × Int)) : U.flatMap Ev.pz = (U.map Ev.pz).flatten := by rw [List.flatMap_def]
theorem pz_len (U : List (Int × Int)) : (U.flatMap Ev.pz).length = U.length * 2 := by
  induction U with
  | nil => rfl
  | cons p r ih => rw [List.flatMap_cons, List.length_append, ih]; simp [Ev.pz]; omega
theorem ps_of_row {w : World} {base : Nat} {e : TypeId} {v : Value} {U : List (Int × Int)} (h : w.ownsRow base e 2 v U.length (U.flatMap Ev.pz)) (hok : ∀ p ∈ U, Ev.i64B p.1 ∧ Ev.i64B p.2) : ∃ a c, v = .slice a U.length c ∧ Ev.PsIn w a c U ∧ (0 < U.length → ∃ g, a = some ⟨g, 0, none⟩ ∧ base ≤ g ∧ g < w.heap.size) := by
  rcases h.2 with ⟨rfl, hn⟩ | ⟨g, cap, cur, rfl, hb, hh, hnc, hcm, _, ht⟩
  · refine ⟨none, 0, by rw [hn], ⟨fun hp => ?_, hok, by omega, by omega⟩, fun hp => by omega⟩
    simp at hp; omega
  · refine ⟨some ⟨g, 0, none⟩, cap, rfl, ⟨fun _ => ⟨g, 0, rfl, fun j v hv i c hi => ?_⟩, hok, hnc, by unfold maxLen at hcm; exact hcm⟩, fun _ => ⟨g, rfl, hb, (Array.getElem?_eq_some_iff.1 hh).1⟩⟩
    have h1 := Ev.flat_rows (n := 2) (xs := U.map Ev.pz) (fun v hv => by
      obtain ⟨e, _, rfl⟩ := List.mem_map.1 hv
      rfl) j v i c hv hi
    rw [← pz_flat, ← ht, List.getElem?_take] at h1
    split at h1
    · rw [cell_of_row w g _ cur e (0, 0) hh]
      simpa using h1
    · cases h1
theorem news_of_row {w : World} {base g n c : Nat} {e : TypeId} {U : List (Int × Int)} (h : w.ownsRow base e 2 (.slice (some ⟨g, 0, none⟩) n c) U.length (U.flatMap Ev.pz)) : ∀ j u, (U.flatMap Ev.pz)[j]? = some u → w.cell? (Addr.add ⟨g, 0, none⟩ j) = some u := by
  rcases h.2 with ⟨h0, hn⟩ | ⟨g', cap, cur, h0, hb, hh, hnc, hcm, _, ht⟩
  · cases h0
  · intro j u hj
    cases h0
    rw [← ht, List.getElem?_take] at hj
    split at hj
    · rw [Go.WideShapes.add_plain]
      rw [cell_of_row w g _ cur e (0, 0) hh]
      simpa using hj
    · cases hj
theorem row_V {w : World} {b : Nat} {e : TypeId} {v : Value} {U : List (Int × Int)} {p : Int × Int} (h : w.ownsRow b e 2 v (0 + U.length + 1) ([] ++ U.flatMap Ev.pz ++ Ev.pz p)) : w.ownsRow b e 2 v (U ++ [p]).length ((U ++ [p]).flatMap Ev.pz) := by
  have e1 : (U ++ [p]).length = 0 + U.length + 1 := by simp
  have e2 : (U ++ [p]).flatMap Ev.pz = [] ++ U.flatMap Ev.pz ++ Ev.pz p := by rw [List.flatMap_append]; simp [List.flatMap_cons]
  rw [e1, e2]; exact h
theorem rowV_in {w : World} {b : Nat} {e : TypeId} {v : Value} {U V : List (Int × Int)} {p : Int × Int} (hV : V = U ++ [p]) (hok : ∀ p ∈ V, Ev.i64B p.1 ∧ Ev.i64B p.2) (h : w.ownsRow b e 2 v (0 + U.length + 1) ([] ++ U.flatMap Ev.pz ++ Ev.pz p)) : ∃ A c, v = .slice A V.length c ∧ Ev.PsIn w A c V := by
  subst hV
  obtain ⟨A, c, h1, h2, _⟩ := ps_of_row (row_V h) hok
  exact ⟨A, c, h1, h2⟩
theorem weak_row {w : World} {b b' : Nat} {e : TypeId} {size n : Nat} {v : Value} {xs : List Value} (h : w.ownsRow b e size v n xs) (hb : b' ≤ b) : w.ownsRow b' e size v n xs := by
  refine ⟨h.1, ?_⟩
  rcases h.2 with h2 | ⟨g, cap, cur, h0, h1, h3⟩
  · exact .inl h2
  · exact .inr ⟨g, cap, cur, h0, Nat.le_trans hb h1, h3⟩
def rk (x0 : List Int) (x : Int) : Int := x0.getD x.toNat 0
def good (x0 : List Int) (p : Int × Int) : Bool := Ev.inB p.1 x0.length && Ev.inB p.2 x0.length && decide (rk x0 p.1 < rk x0 p.2)
theorem info_pair2 : ∃ i, Try.prog.info? 39 = some i ∧ i.zero = some (.agg #[.int .i64 0, .int .i64 0]) ∧ i.size = 2 ∧ i.bytes = 16 := ⟨_, rfl, by kernel_rfl, by kernel_rfl, by kernel_rfl⟩
theorem good_inR {x0 : List Int} (h : x0.length ≤ 30) {U : List (Int × Int)} (hg : ∀ p ∈ U, good x0 p = true) : Ev.InR x0.length U := Ev.inRB_iff.1 (by
  unfold Ev.inRB
  simp only [Bool.and_eq_true, decide_eq_true_eq, List.all_eq_true]
  refine ⟨⟨by omega, by omega⟩, fun p hp => ?_⟩
  have := hg p hp
  unfold good at this
  simp only [Bool.and_eq_true] at this
  exact this.1)
theorem good_acy {x0 : List Int} {U : List (Int × Int)} (hg : ∀ p ∈ U, good x0 p = true) : ¬ Ev.Cyc U := Ev.rank_acyclic (rk x0) fun p hp => by
  have := hg p hp
  unfold good at this
  simp only [Bool.and_eq_true, decide_eq_true_eq] at this
  exact this.2
/-! THE WALK: the Go text returns true; of memory nothing that stood there has turned. -/
set_option maxRecDepth 100000 in
set_option maxHeartbeats 16000000 in
theorem walk (w : World) (a0 : Option Addr) (n0 c0 : Nat) (x0 : List Int) (l0 : x0.length = n0) (b0 : Ev.IntsIn w ⟨a0, c0, x0⟩) (a1 : Option Addr) (n1 c1 : Nat) (x1 : List (Int × Int)) (l1 : x1.length = n1) (b1 : Ev.PsIn w a1 c1 x1) :
    Calls Try.prog 8 #[.slice a0 n0 c0, .slice a1 n1 c1] w fun e w' => e = .returned (.bool true) ∧ Below w.heap.size w w' := by
  have HB := Lib.hid b1; have HB0 := Lib.hid b0
  have hle := b1.le; have hmax := b1.max; have hle0 := b0.2.1; have hmax0 := b0.2.2.1
  subst l1; subst l0
  clear b1 b0
  by_cases hr30 : 30 < x0.length
  · have hi : (30 : Int) < (x0.length : Int) := by omega
    clear hr30
    go_enter Try.func8, Try.ntmps8
    go_wp2_with fail
    refine (known_any _).mono ?_
    rintro e w3 ⟨rfl, hb⟩
    have HB3 := Lib.hid hb; clear hb
    go_wp2_with fail
    go_ret
    exact ⟨rfl, HB3.out⟩
  have hi0 : ¬ (30 : Int) < (x0.length : Int) := by omega
  by_cases hlong : 120 < x1.length
  · have hi : (120 : Int) < (x1.length : Int) := by omega
    clear hlong
    go_enter Try.func8, Try.ntmps8
    go_wp2_with fail
    refine (known_any _).mono ?_
    rintro e w3 ⟨rfl, hb⟩
    have HB3 := Lib.hid hb; clear hb
    go_wp2_with fail
    go_ret
    exact ⟨rfl, HB3.out⟩
  have hi : ¬ (120 : Int) < (x1.length : Int) := by omega
  obtain ⟨i0, hii, hz0, hz1, hz2⟩ := info_pair2
  have HI := Lib.hid hii; have HZ0 := Lib.hid hz0; have HZ1 := Lib.hid hz1; have HZ2 := Lib.hid hz2
  clear hii hz0 hz1 hz2
  go_enter Try.func8, Try.ntmps8
  go_wp2
  go_loopw [6, 7, 8, 9] (fun v i _ _ wr => ∃ k : Nat, k ≤ x1.length ∧ i = .int .i64 (k : Int) ∧ wr.ownsRow w.heap.size 39 2 v ((x1.take k).filter (good x0)).length (((x1.take k).filter (good x0)).flatMap Ev.pz) ∧ Below w.heap.size w wr) (fun _ i _ _ _ => x1.length - (intOf i).toNat)
  case atStart => exact ⟨0, Nat.zero_le _, rfl, World.ownsRow_nil _ _ _ _, Below.refl _ _⟩
  case round =>
    obtain ⟨k, hk, rfl, hrow, hbr⟩ := hrel
    have HROW := Lib.hid hrow; have HBR := Lib.hid hbr
    clear hrow hbr
    by_cases hlt : k < x1.length
    · have hki : (k : Int) < (x1.length : Int) := by omega
      obtain ⟨p, hp⟩ : ∃ p, x1[k]? = some p := ⟨_, List.getElem?_eq_getElem hlt⟩
      have htk : x1.take (k + 1) = x1.take k ++ [p] := by rw [List.take_add_one, hp]; rfl
      obtain ⟨g, o, ea, hcx⟩ := (HB.out.kp (Ev.kp_below HBR.out)).at_ hp
      have c0 := hcx 0 _ rfl
      have c1' := hcx 1 _ rfl
      rw [Nat.add_zero] at c0
      have HTK := Lib.hid htk; have HCX := Lib.hid hcx
      clear hp htk hcx
      rw [ea]; clear ea
      have HIN := Lib.hid (show ∀ n m : Int, Ev.inB n m = (decide (0 ≤ n) && decide (n < m)) from fun _ _ => rfl)
      by_cases t0 : p.1 < 0
      · have HG := Lib.hid (show good x0 p = false by unfold good rk; rw [HIN.out]; simp [show ¬ 0 ≤ p.1 by omega])
        have d0 : decide ((0 : Int) ≤ p.1) = false := decide_eq_false (by omega)
        go_wp2
        go_quiet ((fail))
        go_wp2
        go_quiet ((fail))
        go_wp2
        go_roundw
        case rel => exact ⟨k + 1, by omega, by go_num, by rw [HTK.out, List.filter_append, show [p].filter (good x0) = [] by simp [List.filter_cons, HG.out], List.append_nil]; exact Ev.row_below' HROW.out (below_drewN (Below.refl _ _) _), below_drewN HBR.out _⟩
        case measure => simp [intOf]; omega

      have t0 : 0 ≤ p.1 := by omega
      by_cases t1 : (x0.length : Int) ≤ p.1
      · have HG := Lib.hid (show good x0 p = false by unfold good rk; rw [HIN.out]; simp [show ¬ p.1 < (x0.length : Int) by omega])
        have d0 : decide ((0 : Int) ≤ p.1) = true := decide_eq_true t0; have d1 : decide (p.1 < (x0.length : Int)) = false := decide_eq_false (by omega)
        go_wp2
        go_quiet ((fail))
        go_wp2
        go_quiet ((fail))
        go_wp2
        go_roundw
        case rel => exact ⟨k + 1, by omega, by go_num, by rw [HTK.out, List.filter_append, show [p].filter (good x0) = [] by simp [List.filter_cons, HG.out], List.append_nil]; exact Ev.row_below' HROW.out (below_drewN (Below.refl _ _) _), below_drewN HBR.out _⟩
        case measure => simp [intOf]; omega

      have t1 : p.1 < (x0.length : Int) := by omega
      by_cases t2 : p.2 < 0
      · have HG := Lib.hid (show good x0 p = false by unfold good rk; rw [HIN.out, HIN.out]; simp [show ¬ 0 ≤ p.2 by omega])
        have d0 : decide ((0 : Int) ≤ p.1) = true := decide_eq_true t0; have d1 : decide (p.1 < (x0.length : Int)) = true := decide_eq_true t1; have d2 : decide ((0 : Int) ≤ p.2) = false := decide_eq_false (by omega)
        go_wp2
        go_quiet ((fail))
        go_wp2
        go_quiet ((fail))
        go_wp2
        go_roundw
        case rel => exact ⟨k + 1, by omega, by go_num, by rw [HTK.out, List.filter_append, show [p].filter (good x0) = [] by simp [List.filter_cons, HG.out], List.append_nil]; exact Ev.row_below' HROW.out (below_drewN (Below.refl _ _) _), below_drewN HBR.out _⟩
        case measure => simp [intOf]; omega

      have t2 : 0 ≤ p.2 := by omega
      by_cases t3 : (x0.length : Int) ≤ p.2
      · have HG := Lib.hid (show good x0 p = false by unfold good rk; rw [HIN.out, HIN.out]; simp [show ¬ p.2 < (x0.length : Int) by omega])
        have d0 : decide ((0 : Int) ≤ p.1) = true := decide_eq_true t0; have d1 : decide (p.1 < (x0.length : Int)) = true := decide_eq_true t1; have d2 : decide ((0 : Int) ≤ p.2) = true := decide_eq_true t2; have d3 : decide (p.2 < (x0.length : Int)) = false := decide_eq_false (by omega)
        go_wp2
        go_quiet ((fail))
        go_wp2
        go_quiet ((fail))
        go_wp2
        go_roundw
        case rel => exact ⟨k + 1, by omega, by go_num, by rw [HTK.out, List.filter_append, show [p].filter (good x0) = [] by simp [List.filter_cons, HG.out], List.append_nil]; exact Ev.row_below' HROW.out (below_drewN (Below.refl _ _) _), below_drewN HBR.out _⟩
        case measure => simp [intOf]; omega

      have t3 : p.2 < (x0.length : Int) := by omega
      have gd : good x0 p = (decide (rk x0 p.1 < rk x0 p.2)) := by unfold good; rw [HIN.out, HIN.out, decide_eq_true t0, decide_eq_true t1, decide_eq_true t2, decide_eq_true t3]; rfl
      obtain ⟨an, ean⟩ : ∃ an : Nat, p.1 = (an : Int) := ⟨p.1.toNat, by omega⟩
      obtain ⟨bn, ebn⟩ : ∃ bn : Nat, p.2 = (bn : Int) := ⟨p.2.toNat, by omega⟩
      have han : an < x0.length := by omega
      have hbn : bn < x0.length := by omega
      obtain ⟨ra, hra⟩ : ∃ r, x0[an]? = some r := ⟨_, List.getElem?_eq_getElem han⟩
      obtain ⟨rb, hrb⟩ : ∃ r, x0[bn]? = some r := ⟨_, List.getElem?_eq_getElem hbn⟩
      obtain ⟨g0, o0, e0, hc0⟩ := (HB0.out.kp (Ev.kp_below HBR.out)).1 (by show 0 < x0.length; omega)
      have ca := hc0 an ra hra
      have cb := hc0 bn rb hrb
      dsimp only at e0
      have gd : good x0 p = decide (ra < rb) := by rw [gd]; unfold rk; rw [ean, ebn]; simp only [Int.toNat_natCast, List.getD_eq_getElem?_getD, hra, hrb, Option.getD_some]
      have d0 : decide ((0 : Int) ≤ (an : Int)) = true := decide_eq_true (by omega)
      have d1 : decide ((an : Int) < (x0.length : Int)) = true := decide_eq_true (by omega)
      have d2 : decide ((0 : Int) ≤ (bn : Int)) = true := decide_eq_true (by omega)
      have d3 : decide ((bn : Int) < (x0.length : Int)) = true := decide_eq_true (by omega)
      have hai : (an : Int) < (x0.length : Int) := by omega
      have hbi : (bn : Int) < (x0.length : Int) := by omega
      rw [ean] at c0
      rw [ebn] at c1'
      have HGD := Lib.hid gd; have HEA := Lib.hid ean; have HEB := Lib.hid ebn
      clear gd ean ebn t0 t1 t2 t3 hra hrb hc0
      rw [e0]; clear e0
      by_cases hr : ra < rb
      · have d4 : decide (ra < rb) = true := decide_eq_true hr
        have HG := Lib.hid (show good x0 p = true by rw [HGD.out, d4])
        have hfl : ((x1.take k).filter (good x0)).length ≤ 120 := Nat.le_trans (List.length_filter_le _ _) (by rw [List.length_take]; omega)
        clear hr
        go_wp2
        go_quiet ((fail))
        go_wp2
        go_quiet ((fail))
        go_wp2_with first
          | (show wpList _ _ _ (Oper.mk (some 69) _ _ _ _ _ :: _) _ _; refine wpList_load_at rfl 39 (.tmp 68) rfl g (o + k * 2) (by kernel_rfl) [.int .i64 p.1, .int .i64 p.2] _ (fun i v h => HCX.out i v h) Try.underlying39 rfl (by kernel_rfl) ?_)
          | (show wpList _ _ _ (Oper.mk (some 71) _ _ _ _ _ :: _) _ _; refine wpList_append_own _ rfl (.tmp 65) (.tmp 70) 32 rfl w.heap.size 39 i0 (.agg #[.int .i64 0, .int .i64 0]) 2 16 Try.underlying32 HI.out HZ0.out HZ1.out HZ2.out rfl (by decide) _ _ _ rfl ((Ev.row_below' HROW.out (below_drewN (Below.refl _ _) _)).alloc _) ⟨wr.heap.size, 0, none⟩ 1 1 (Ev.pz p) rfl rfl (fun j u hu => World.news_of_block (heap_alloc_new _ _) j u hu) (pz_one p) (by unfold maxLen; omega) (by omega) (by have := HBR.out.size; show w.heap.size ≤ (World.alloc _ _).heap.size; simp only [World.size_alloc]; show w.heap.size ≤ wr.heap.size + 1; omega) ?_
             intro v' w5 hown hgrow _
             have HOWN := Lib.hid hown; have HGR := Lib.hid hgrow; clear hown hgrow)
        have HB5 := Lib.hid (Below.grown ((below_drewN HBR.out _).alloc (by have := HBR.out.size; show w.heap.size ≤ wr.heap.size; omega) _) HGR.out (by have := HBR.out.size; show w.heap.size ≤ (World.alloc _ _).heap.size; simp only [World.size_alloc]; show w.heap.size ≤ wr.heap.size + 1; omega) (fun k hk => Ev.own_ge HROW.out hk))
        go_roundw
        case rel =>
          refine ⟨k + 1, by omega, by go_num, ?_, HB5.out⟩
          have := HOWN.out
          rw [HTK.out, List.filter_append, show [p].filter (good x0) = [p] by simp [List.filter_cons, HG.out], List.length_append, List.flatMap_append]
          simpa using this
        case measure => simp [intOf]; omega
      have d4 : decide (ra < rb) = false := decide_eq_false hr
      have HG := Lib.hid (show good x0 p = false by rw [HGD.out, d4])
      clear hr
      go_wp2
      go_quiet ((fail))
      go_wp2
      go_quiet ((fail))
      go_wp2
      go_roundw
      case rel => exact ⟨k + 1, by omega, by go_num, by rw [HTK.out, List.filter_append, show [p].filter (good x0) = [] by simp [List.filter_cons, HG.out], List.append_nil]; exact Ev.row_below' HROW.out (below_drewN (Below.refl _ _) _), below_drewN HBR.out _⟩
      case measure => simp [intOf]; omega
    · have hkn : k = x1.length := by omega
      have hki : ¬ (k : Int) < (x1.length : Int) := by omega
      subst hkn
      obtain ⟨U, hU⟩ : ∃ U, U = x1.filter (good x0) := ⟨_, rfl⟩
      have hrow := HROW.out
      rw [List.take_length, ← hU] at hrow
      have hgood : ∀ p ∈ U, good x0 p = true := fun p hp => by rw [hU] at hp; exact (List.mem_filter.1 hp).2
      have hUl : U.length ≤ 120 := by rw [hU]; exact Nat.le_trans (List.length_filter_le _ _) (by omega)
      have hUok : ∀ p ∈ U, Ev.i64B p.1 ∧ Ev.i64B p.2 := fun p hp => by rw [hU] at hp; exact HB.out.ok p (List.mem_filter.1 hp).1
      obtain ⟨A, cU, hv, hps, hpos⟩ := ps_of_row hrow hUok
      have HPS := Lib.hid hps; have HPOS := Lib.hid hpos; have HROWU := Lib.hid hrow
      have HGOOD := Lib.hid hgood
      subst hv
      clear hrow hps hpos hgood hUok hU
      have hU9 : U.length ≤ 1000000 := by omega
      have hn64 : Ev.i64B (x0.length : Int) := by unfold Ev.i64B; omega
      go_wp2_with fail
      refine (acyclic_any _ hn64 A cU U hU9 _ HPS.out).mono ?_
      rintro e w3 ⟨b, rfl, hR, hb⟩
      have hb1 : b = true := by
        rcases hR with ⟨_, h⟩ | ⟨_, _, h⟩ | ⟨h, _⟩
        · exact absurd (good_inR (by omega) HGOOD.out) h
        · exact absurd h (good_acy HGOOD.out)
        · exact h
      subst hb1
      have HB3 := Lib.hid hb; clear hb hR
      by_cases hz : U.length = 0
      · have hq : ((U.length : Int) == 0) = true := by simp [hz]
        clear hz
        go_wp2_with fail
        refine (known_any _).mono ?_
        rintro e w4 ⟨rfl, hb⟩
        have HB4 := Lib.hid hb; clear hb
        go_wp2_with fail
        go_ret
        exact ⟨rfl, HBR.out.trans ((HB3.out.trans (HB4.out.mono HB3.out.size)).mono HBR.out.size)⟩
      have hq : ((U.length : Int) == 0) = false := by rw [beq_eq_false_iff_ne]; omega
      go_wp2_with fail
      obtain ⟨P0, hP0⟩ : ∃ q, U[0]? = some q := ⟨_, List.getElem?_eq_getElem (by omega)⟩
      obtain ⟨g, hA, hgb, hgs⟩ := HPOS.out (by omega)
      subst hA
      have hmem : P0 ∈ U := List.mem_of_getElem? hP0
      obtain ⟨V, hV⟩ : ∃ V, V = U ++ [(P0.2, P0.1)] := ⟨_, rfl⟩
      have HV := Lib.hid hV
      have HCYC := Lib.hid (show Ev.Cyc V from ⟨P0.1, .more (b := P0.2) (by rw [hV]; exact List.mem_append_left _ hmem) (.one (by rw [hV]; exact List.mem_append_right _ (by simp)))⟩)
      have HVOK := Lib.hid (show ∀ p ∈ V, Ev.i64B p.1 ∧ Ev.i64B p.2 by
        intro p hp
        rw [hV] at hp
        rcases List.mem_append.1 hp with h | h
        · exact HPS.out.ok p h
        · simp at h; subst h; exact ⟨(HPS.out.ok _ hmem).2, (HPS.out.ok _ hmem).1⟩)
      have hV9 : V.length ≤ 1000000 := by rw [hV]; simp; omega
      obtain ⟨wq, hwq⟩ : ∃ wq, wq = { w3 with drawn := w3.drawn + 1 } := ⟨_, rfl⟩
      have hbq : Below w3.heap.size w3 wq := by rw [hwq]; exact ⟨rfl, rfl, rfl, Nat.le_refl _, fun _ _ => rfl⟩
      have hbq2 : Below wr.heap.size wr wq := HB3.out.trans (hbq.mono HB3.out.size)
      have HBW := Lib.hid (HBR.out.trans (hbq2.mono HBR.out.size))
      have HWQ := Lib.hid hwq
      have HCELL := Lib.hid (show ∀ x, Below wq.heap.size wq x → x.cell? ⟨g, 0, none⟩ = some (.int .i64 P0.1) ∧ x.cell? ⟨g, 1, none⟩ = some (.int .i64 P0.2) from fun x hx => by
        obtain ⟨g', o', e, hc⟩ := ((HPS.out.kp (Ev.kp_below hbq2)).kp (Ev.kp_below hx)).at_ hP0
        cases e
        exact ⟨hc 0 _ rfl, hc 1 _ rfl⟩)
      have HNEWS := Lib.hid (fun (x : World) (hx : Below wq.heap.size wq x) => news_of_row (Ev.row_below' (Ev.row_below' HROWU.out hbq2) hx))
      have HS0 := Lib.hid (show Below wq.heap.size wq wq from Below.refl _ _)
      have hup : 0 < U.length := by omega
      clear hwq hbq hbq2 hV hP0 hmem hz
      refine Og.region_S (S := Sb wq) (by kernel_rfl) ?_
      rw [← HWQ.out]
      refine Og.s_take 0 _ (.slice (some ⟨g, 0, none⟩) U.length cU) _ rfl rfl (by kernel_rfl) (by kernel_rfl) (by kernel_rfl) (fun _ _ _ h => h) HS0.out (fun x hx => ?_) (by simp only [Act.put, List.setIfInBounds_toArray, List.set_cons_zero, List.set_cons_succ]; rfl) ?_
      · go_simp; try (with_reducible rfl)
      refine Og.s_take 2 _ (.slice (some ⟨g, 0, none⟩) U.length cU) _ rfl rfl (by kernel_rfl) (by kernel_rfl) (by kernel_rfl) (fun _ _ _ h => h) HS0.out (fun x hx => ?_) (by simp only [Act.put, List.setIfInBounds_toArray, List.set_cons_zero, List.set_cons_succ]; rfl) ?_
      · go_simp; try (with_reducible rfl)
      refine Og.s_take 3 _ (.pointer (some ⟨g, 0, none⟩)) _ rfl rfl (by kernel_rfl) (by kernel_rfl) (by kernel_rfl) (fun _ _ _ h => h) HS0.out (fun x hx => ?_) (by simp only [Act.put, List.setIfInBounds_toArray, List.set_cons_zero, List.set_cons_succ]; rfl) ?_
      · go_simp; try (with_reducible rfl)
      refine Og.s_take 4 _ (.pointer (some ⟨g, 1, none⟩)) _ rfl rfl (by kernel_rfl) (by kernel_rfl) (by kernel_rfl) (fun _ _ _ h => h) HS0.out (fun x hx => ?_) (by simp only [Act.put, List.setIfInBounds_toArray, List.set_cons_zero, List.set_cons_succ]; rfl) ?_
      · go_simp; try (with_reducible rfl)
      refine Og.s_take 5 _ (.int .i64 P0.2) _ rfl rfl (by kernel_rfl) (by kernel_rfl) (by kernel_rfl) (fun _ _ _ h => h) HS0.out (fun x hx => ?_) (by simp only [Act.put, List.setIfInBounds_toArray, List.set_cons_zero, List.set_cons_succ]; rfl) ?_
      · have hx0 := (HCELL.out x hx).1; have hx1 := (HCELL.out x hx).2; go_simp; try (with_reducible rfl)
      refine Og.s_take 6 _ (.slice (some ⟨g, 0, none⟩) U.length cU) _ rfl rfl (by kernel_rfl) (by kernel_rfl) (by kernel_rfl) (fun _ _ _ h => h) HS0.out (fun x hx => ?_) (by simp only [Act.put, List.setIfInBounds_toArray, List.set_cons_zero, List.set_cons_succ]; rfl) ?_
      · go_simp; try (with_reducible rfl)
      refine Og.s_take 7 _ (.pointer (some ⟨g, 0, none⟩)) _ rfl rfl (by kernel_rfl) (by kernel_rfl) (by kernel_rfl) (fun _ _ _ h => h) HS0.out (fun x hx => ?_) (by simp only [Act.put, List.setIfInBounds_toArray, List.set_cons_zero, List.set_cons_succ]; rfl) ?_
      · go_simp; try (with_reducible rfl)
      refine Og.s_take 8 _ (.pointer (some ⟨g, 0, none⟩)) _ rfl rfl (by kernel_rfl) (by kernel_rfl) (by kernel_rfl) (fun _ _ _ h => h) HS0.out (fun x hx => ?_) (by simp only [Act.put, List.setIfInBounds_toArray, List.set_cons_zero, List.set_cons_succ]; rfl) ?_
      · go_simp; try (with_reducible rfl)
      refine Og.s_take 9 _ (.int .i64 P0.1) _ rfl rfl (by kernel_rfl) (by kernel_rfl) (by kernel_rfl) (fun _ _ _ h => h) HS0.out (fun x hx => ?_) (by simp only [Act.put, List.setIfInBounds_toArray, List.set_cons_zero, List.set_cons_succ]; rfl) ?_
      · have hx0 := (HCELL.out x hx).1; have hx1 := (HCELL.out x hx).2; go_simp; try (with_reducible rfl)
      refine Og.s_take 10 _ (.agg #[.int .i64 P0.2, .int .i64 P0.1]) _ rfl rfl (by kernel_rfl) (by kernel_rfl) (by kernel_rfl) (fun _ _ _ h => h) HS0.out (fun x hx => ?_) (by simp only [Act.put, List.setIfInBounds_toArray, List.set_cons_zero, List.set_cons_succ]; rfl) ?_
      · go_simp; try (with_reducible rfl)
      refine Og.s_two 1 11 _ _ rfl rfl rfl rfl (by kernel_rfl) ?_ ?_
      · obtain ⟨v1, w4, hrun4, hown4, hgrow4, _, _⟩ := run_append_own_at (P := Try.prog) wq wq.heap.size 32 32 39 i0 (.agg #[.int .i64 0, .int .i64 0]) 2 16 Try.underlying32 HI.out HZ0.out HZ1.out HZ2.out rfl (by decide) (.slice none 0 0) 0 [] (World.ownsRow_nil _ _ _ _) ⟨g, 0, none⟩ U.length cU (U.flatMap Ev.pz) (pz_len U) (HNEWS.out wq HS0.out) (pz_all U) (by unfold maxLen; omega) (by omega) (Nat.le_refl _)
        have HB4 := Lib.hid (Below.grown (Below.refl wq.heap.size wq) hgrow4 (Nat.le_refl _) (fun k hk => by simp [Value.ownBlock] at hk))
        have HR4 := Lib.hid hrun4; have HO4 := Lib.hid hown4
        clear hrun4 hown4 hgrow4
        refine Og.wp_run (v := v1) (w' := w4) (Og.append_run (.const (.slice none 0 0)) (.tmp 80) 32 (by kernel_rfl) (by kernel_rfl) (by kernel_rfl) HR4.out) ⟨keep_b (fun _ => HB4.out), ?_⟩
        refine Og.s_one 11 _ rfl rfl (by kernel_rfl) ?_
        refine Og.wp_run (v := .slice (some ⟨w4.heap.size, 0, none⟩) 1 1) (w' := w4.alloc (.cells #[.int .i64 P0.2, .int .i64 P0.1] 39)) (by go_simp; try (with_reducible rfl)) ⟨keep_b (fun h => h.alloc h.size _), ?_⟩
        obtain ⟨v2, w5, hrun5, hown5, hgrow5, _, _⟩ := run_append_own_at (P := Try.prog) (w4.alloc (.cells #[.int .i64 P0.2, .int .i64 P0.1] 39)) wq.heap.size 32 32 39 i0 (.agg #[.int .i64 0, .int .i64 0]) 2 16 Try.underlying32 HI.out HZ0.out HZ1.out HZ2.out rfl (by decide) v1 (0 + U.length) ([] ++ U.flatMap Ev.pz) (HO4.out.alloc _) ⟨w4.heap.size, 0, none⟩ 1 1 (Ev.pz (P0.2, P0.1)) rfl (World.news_of_block (cs := #[.int .i64 P0.2, .int .i64 P0.1]) (heap_alloc_new w4 _)) (pz_one _) (by unfold maxLen; omega) (by omega) (by simp only [World.size_alloc]; have := HB4.out.size; omega)
        have HB5 := Lib.hid (Below.grown (HB4.out.alloc HB4.out.size (.cells #[.int .i64 P0.2, .int .i64 P0.1] 39)) hgrow5 (by simp only [World.size_alloc]; have := HB4.out.size; omega) (fun k hk => Ev.own_ge HO4.out hk))
        have HR5 := Lib.hid hrun5; have HO5 := Lib.hid hown5
        clear hrun5 hown5 hgrow5
        obtain ⟨A2, c2, hv2, hps2⟩ := rowV_in HV.out HVOK.out HO5.out
        subst hv2
        have HPS2 := Lib.hid hps2
        clear hps2
        refine Og.s_one 12 _ rfl rfl (by kernel_rfl) ?_
        refine Og.wp_run (v := .slice A2 V.length c2) (w' := w5) (Og.append_run (.tmp 81) (.tmp 91) 32 (by kernel_rfl) (by kernel_rfl) (by kernel_rfl) HR5.out) ⟨keep_b (fun _ => HB5.out), ?_⟩
        refine Og.s_one 13 _ rfl rfl (by kernel_rfl) ?_
        refine Og.wp_run (v := .slice A2 V.length c2) (w' := w5) (by go_simp; try (with_reducible rfl)) ⟨keep_b (fun h => h), ?_⟩
        refine Og.s_done (by kernel_rfl) ?_ _
        simp only [Act.put, List.setIfInBounds_toArray, List.set_cons_zero, List.set_cons_succ]
        go_wp2_with fail
        refine (acyclic_any _ hn64 A2 c2 V hV9 _ HPS2.out).mono ?_
        rintro e w6 ⟨b, rfl, hR, hb⟩
        have hbf : b = false := by
          rcases hR with ⟨h, _⟩ | ⟨h, _⟩ | ⟨_, hin, l, ht, hl⟩
          · exact h
          · exact h
          · exact absurd HCYC.out (Ev.topo_acyclic hin ht hl)
        subst hbf
        have HB6 := Lib.hid (HB5.out.trans (hb.mono HB5.out.size)); clear hb hR
        go_wp2_with fail
        refine (known_any _).mono ?_
        rintro e w7 ⟨rfl, hb⟩
        have HB7 := Lib.hid (HB6.out.trans (hb.mono HB6.out.size)); clear hb
        go_wp2_with fail
        go_ret
        exact ⟨rfl, HBW.out.trans (HB7.out.mono HBW.out.size)⟩
      · refine Og.wp_run (v := .slice (some ⟨wq.heap.size, 0, none⟩) 1 1) (w' := wq.alloc (.cells #[.int .i64 P0.2, .int .i64 P0.1] 39)) (by go_simp; try (with_reducible rfl)) ⟨keep_b (fun h => h.alloc h.size _), ?_⟩
        have HBA := Lib.hid ((Below.refl wq.heap.size wq).alloc (Nat.le_refl _) (.cells #[.int .i64 P0.2, .int .i64 P0.1] 39))
        obtain ⟨v1, w4, hrun4, hown4, hgrow4, _, _⟩ := run_append_own_at (P := Try.prog) (wq.alloc (.cells #[.int .i64 P0.2, .int .i64 P0.1] 39)) (wq.alloc (.cells #[.int .i64 P0.2, .int .i64 P0.1] 39)).heap.size 32 32 39 i0 (.agg #[.int .i64 0, .int .i64 0]) 2 16 Try.underlying32 HI.out HZ0.out HZ1.out HZ2.out rfl (by decide) (.slice none 0 0) 0 [] (World.ownsRow_nil _ _ _ _) ⟨g, 0, none⟩ U.length cU (U.flatMap Ev.pz) (pz_len U) (HNEWS.out _ HBA.out) (pz_all U) (by unfold maxLen; omega) (by omega) (Nat.le_refl _)
        have HBB := Lib.hid (Below.grown (Below.refl _ _) hgrow4 (Nat.le_refl _) (fun k hk => by simp [Value.ownBlock] at hk))
        have HB4 := Lib.hid (HBA.out.trans (HBB.out.mono HBA.out.size))
        have HR4 := Lib.hid hrun4; have HO4 := Lib.hid hown4
        clear hrun4 hown4 hgrow4
        refine Og.s_one 1 _ rfl rfl (by kernel_rfl) ?_
        refine Og.wp_run (v := v1) (w' := w4) (Og.append_run (.const (.slice none 0 0)) (.tmp 80) 32 (by kernel_rfl) (by kernel_rfl) (by kernel_rfl) HR4.out) ⟨keep_b (fun _ => HB4.out), ?_⟩
        obtain ⟨v2, w5, hrun5, hown5, hgrow5, _, _⟩ := run_append_own_at (P := Try.prog) w4 (wq.alloc (.cells #[.int .i64 P0.2, .int .i64 P0.1] 39)).heap.size 32 32 39 i0 (.agg #[.int .i64 0, .int .i64 0]) 2 16 Try.underlying32 HI.out HZ0.out HZ1.out HZ2.out rfl (by decide) v1 (0 + U.length) ([] ++ U.flatMap Ev.pz) HO4.out ⟨wq.heap.size, 0, none⟩ 1 1 (Ev.pz (P0.2, P0.1)) rfl (World.news_of_block (cs := #[.int .i64 P0.2, .int .i64 P0.1]) ((HBB.out.block wq.heap.size (by simp only [World.size_alloc]; omega)).trans (heap_alloc_new wq _))) (pz_one _) (by unfold maxLen; omega) (by omega) HBB.out.size
        have HB5 := Lib.hid (Below.grown HB4.out hgrow5 HB4.out.size (fun k hk => Nat.le_trans HBA.out.size (Ev.own_ge HO4.out hk)))
        have HR5 := Lib.hid hrun5
        have HO5 := Lib.hid (weak_row hown5 HBA.out.size)
        clear hrun5 hown5 hgrow5
        obtain ⟨A2, c2, hv2, hps2⟩ := rowV_in HV.out HVOK.out HO5.out
        subst hv2
        have HPS2 := Lib.hid hps2
        clear hps2
        refine Og.s_one 12 _ rfl rfl (by kernel_rfl) ?_
        refine Og.wp_run (v := .slice A2 V.length c2) (w' := w5) (Og.append_run (.tmp 81) (.tmp 91) 32 (by kernel_rfl) (by kernel_rfl) (by kernel_rfl) HR5.out) ⟨keep_b (fun _ => HB5.out), ?_⟩
        refine Og.s_one 13 _ rfl rfl (by kernel_rfl) ?_
        refine Og.wp_run (v := .slice A2 V.length c2) (w' := w5) (by go_simp; try (with_reducible rfl)) ⟨keep_b (fun h => h), ?_⟩
        refine Og.s_done (by kernel_rfl) ?_ _
        simp only [Act.put, List.setIfInBounds_toArray, List.set_cons_zero, List.set_cons_succ]
        go_wp2_with fail
        refine (acyclic_any _ hn64 A2 c2 V hV9 _ HPS2.out).mono ?_
        rintro e w6 ⟨b, rfl, hR, hb⟩
        have hbf : b = false := by
          rcases hR with ⟨h, _⟩ | ⟨h, _⟩ | ⟨_, hin, l, ht, hl⟩
          · exact h
          · exact h
          · exact absurd HCYC.out (Ev.topo_acyclic hin ht hl)
        subst hbf
        have HB6 := Lib.hid (HB5.out.trans (hb.mono HB5.out.size)); clear hb hR
        go_wp2_with fail
        refine (known_any _).mono ?_
        rintro e w7 ⟨rfl, hb⟩
        have HB7 := Lib.hid (HB6.out.trans (hb.mono HB6.out.size)); clear hb
        go_wp2_with fail
        go_ret
        exact ⟨rfl, HBW.out.trans (HB7.out.mono HBW.out.size)⟩

/-! THE ROW -/
set_option maxRecDepth 100000 in
theorem lifted (os : Os) (started : os.Started) (H : Type) (enc : TypeId × Value → H) :
    ReturnsInHanded {} Try.checked os 8 .any (Rows.eventsRankSpec.pre6 enc Try.prog Try.f8 Rows.eventsRankRow.domain false) (Rows.eventsRankSpec.post enc Try.prog Try.f8 false true false false) := by
  refine returnsInHanded_of_change (C := Try.checked) own started (by kernel_rfl) Try.func8
    (ChangeSpec.witness6 (enc := enc) (C := Try.checked) false ⟨#[], #[.slice none 0 0, .slice none 0 0], []⟩ 8 (by kernel_rfl) (by kernel_rfl) (by kernel_rfl) (by kernel_rfl)) ?_
  intro W base args ds gs before hval0 hW hcnd _
  have hval : ∀ (j : Nat) t v, Try.f8.params[j]? = some t → args[j]? = some v → Value.okWide Try.prog W .any base t v := hval0
  have hW' := hW
  obtain ⟨p, q, hA0, hV, rfl, hfz, hnd⟩ := hW
  have hA : DataW.TrodAll enc Try.prog W 0 (fun _ => true) true Try.f8.params.toList args.toList ds p := hA0
  rw [Try.params8] at hA hval
  obtain ⟨v0, vs0, d0, ds0, p0, q0, hargs, rfl, rfl, h0, r0⟩ := trodAll_cons hA
  obtain ⟨v1, vs1, d1, ds1, p1, q1, rfl, rfl, rfl, h1, r1⟩ := trodAll_cons r0
  obtain ⟨rfl, rfl, rfl⟩ := trodAll_nil r1
  obtain rfl : args = #[v0, v1] := by cases args; simp_all
  obtain ⟨rfl, rfl⟩ := trodVars_none hV
  clear hA0 hval0
  simp only [List.append_nil] at hW'
  have hlt : ∀ x ∈ p0 ++ (p1), x.block < W.heap.size := fun x hx => by simpa using hW'.lt x (by simpa using hx)
  obtain ⟨a0, n0, c0, rfl⟩ := okWide_slice Try.underlying23 (hval 0 23 v0 rfl rfl)
  obtain ⟨x0, l0, b0⟩ := open_numbers h0
  obtain ⟨a1, n1, c1, rfl⟩ := okWide_slice Try.underlying32 (hval 1 32 v1 rfl rfl)
  obtain ⟨x1, l1, b1⟩ := open_pairs h1
  refine (walk W a0 n0 c0 x0 l0 b0 a1 n1 c1 x1 l1 b1).mono fun e W' ⟨he, hb⟩ => ?_
  subst he
  have harg0 : DataW.Trod enc Try.prog W' 0 (fun b => decide (b < W.heap.size)) true 23 _ _ _ := Below.trod laidOut (by kernel_rfl) (of_decide_eq_true (by kernel_rfl)) h0 hb (fun x hx => hlt x (by simp [hx]))
  have harg1 : DataW.Trod enc Try.prog W' 0 (fun b => decide (b < W.heap.size)) true 32 _ _ _ := Below.trod laidOut (by kernel_rfl) (of_decide_eq_true (by kernel_rfl)) h1 hb (fun x hx => hlt x (by simp [hx]))
  exact ⟨_, rfl, _, _, _, [], _, [], hW', trodAll_mk1 (shut_bool Try.underlying4 _), (trodAll_cons_mk harg0 (trodAll_cons_mk harg1 trodAll_mk0)), rfl, hb.frame _, fun h => by cases h⟩

theorem over : Rows.eventsRankRow.holds Try.pinned (OpenSpec.ofChange Rows.eventsRankSpec) :=
  OpenClaim.holds_of_wide 8 Try.f8 rfl rfl rfl rfl rfl rfl rfl ⟨rfl, rfl, rfl, rfl, rfl⟩ rfl rfl rfl rfl rfl (by kernel_rfl) Try.func8 (by kernel_rfl)
    (of_decide_eq_true (by kernel_rfl)) (by unfold Func.isWrapper; first | (rw [if_pos (by decide +kernel)]; kernel_rfl) | (rw [if_neg (by decide +kernel)]; exact ⟨rfl, rfl⟩))
    (fun os started H enc _ => lifted os started H enc)

/-- THE STATEMENT -/
theorem proved : Rows.EventsRankSaid :=
  over
end Go.Proofs.Ytnlfdepeimjliaa.eventsRank
