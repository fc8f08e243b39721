import Derived.Test.YtnjnpbabgefaeaaGreatKg16
import Derived.Laws.AppendOwn
import Derived.Deep.AppendLies
import Derived.Test.YtnjnpbabgefaeaaGreatKg17
import Derived.Maps.RangeWalk
import Derived.Maps.OwnSet
import Derived.Sort.MapsRangeIn
import Derived.DeepKeys4
set_option linter.unusedVariables false
set_option linter.unusedSimpArgs false

section
namespace Go.Proofs.YtnjnpbabgefaeaaGreat
open Go.RowKit
namespace Ev
def pv (p : Nat × Nat) : List Value := [.int .i64 (p.1 : Int), .int .i64 (p.2 : Int)]
def cutL (bond : Nat → Nat → Int) (a : Nat) : List Nat → List (Nat × Nat)
  | [] => []
  | b :: r => if bond a b = 2 then [] else if bond a b = 1 then (a, b) :: cutL bond a r else cutL bond a r
def told (bond : Nat → Nat → Int) (n a : Nat) : List (Nat × Nat) := (List.range a).flatMap fun i => cutL bond i (List.range n)
theorem told_succ (bond : Nat → Nat → Int) (n a : Nat) : told bond n (a + 1) = told bond n a ++ cutL bond a (List.range n) := by
  unfold told; rw [List.range_succ, List.flatMap_append]; simp
theorem cutL_len (bond : Nat → Nat → Int) (a : Nat) : ∀ l, (cutL bond a l).length ≤ l.length
  | [] => by simp [cutL]
  | b :: r => by
    have := cutL_len bond a r
    unfold cutL
    split
    · simp
    · split <;> simp <;> omega
theorem told_len (bond : Nat → Nat → Int) (n : Nat) : ∀ a, (told bond n a).length ≤ a * n
  | 0 => by simp [told]
  | a + 1 => by
    have h1 := told_len bond n a
    have h2 := cutL_len bond a (List.range n)
    rw [told_succ, List.length_append, Nat.succ_mul]
    simp at h2; omega
theorem drop_range {n b : Nat} (h : b < n) : (List.range n).drop b = b :: (List.range n).drop (b + 1) := by
  rw [List.drop_eq_getElem_cons (by simpa using h)]; simp
structure PairsIn (w : World) (a : Option Addr) (c : Nat) (ps : List (Nat × Nat)) : Prop where
  rows : RowsIn w a 2 (ps.map pv)
  le : ps.length ≤ c
  max : c ≤ 9223372036854775807
def Enters (F : FuncId) : Prop := ∀ args w, (callFunc F args).run Tryz.prog w = .ok (.enter F args) w
def Makes (w : World) (x : X) (F : FuncId) (bond : Nat → Nat → Int) : Prop :=
  ∀ W, XIn W x → Calls Tryz.prog F #[exV x] W fun e w' => ∃ (G : FuncId) (caps : Array Value), e = .returned (.func (.func G) #[] caps) ∧ Enters G ∧ Below W.heap.size W w' ∧
    ∀ W2, Below w'.heap.size w' W2 → ∀ a b, a < x.ev.length → b < x.ev.length → Calls Tryz.prog G (#[.int .i64 (a : Int), .int .i64 (b : Int)] ++ caps) W2 fun e w'' => e = .returned (.int .i64 (bond a b)) ∧ Below W2.heap.size W2 w''
theorem pv_one (p : Nat × Nat) : ∀ u ∈ pv p, u.oneCell' = true := by
  intro u hu; simp [pv] at hu; rcases hu with rfl | rfl <;> rfl
theorem row_below {w w' : World} {base : Nat} {e : TypeId} {size n : Nat} {v : Value} {xs : List Value} (h : w.ownsRow base e size v n xs) (hb : Below w.heap.size w w') : w'.ownsRow base e size v n xs :=
  h.kept (World.grownBy.but_of hb) (by by_cases h : v.ownBlock = none; exact .inl h; exact .inr h)
theorem pv_flat (ps : List (Nat × Nat)) : ∀ (j : Nat) (p : Nat × Nat) (i : Nat) (c : Value), ps[j]? = some p → (pv p)[i]? = some c → (ps.flatMap pv)[j * 2 + i]? = some c := by
  induction ps with
  | nil => intro j p i c h; simp at h
  | cons q r ih =>
    intro j p i c hj hi
    have hil : i < 2 := by have := (List.getElem?_eq_some_iff.1 hi).1; simpa [pv] using this
    cases j with
    | zero =>
      cases Option.some.inj hj
      rw [List.flatMap_cons, List.getElem?_append_left (by simp [pv]; omega)]
      simpa using hi
    | succ j =>
      have h2 := ih j p i c (by simpa using hj) hi
      rw [List.flatMap_cons, List.getElem?_append_right (by simp [pv]; omega)]
      have e : (j + 1) * 2 + i - (pv q).length = j * 2 + i := by simp [pv]; omega
      rw [e]; exact h2
theorem own_ge {w : World} {base : Nat} {e : TypeId} {size n : Nat} {v : Value} {xs : List Value} (h : w.ownsRow base e size v n xs) {k : Nat} (hk : v.ownBlock = some k) : base ≤ k := by
  rcases h.2 with ⟨rfl, _⟩ | ⟨g, cap, cur, rfl, hb, _⟩
  · cases hk
  · have : g = k := by simpa [Value.ownBlock] using hk
    omega
theorem pairs_of_row {w : World} {base : Nat} {e : TypeId} {v : Value} {ps : List (Nat × Nat)} (h : w.ownsRow base e 2 v ps.length (ps.flatMap pv)) : ∃ a c, v = .slice a ps.length c ∧ PairsIn w a c ps := by
  rcases h.2 with ⟨rfl, hn⟩ | ⟨g, cap, cur, rfl, _, hh, hnc, hcm, _, ht⟩
  · refine ⟨none, 0, by rw [hn], ⟨fun hp => ?_, by omega, by omega⟩⟩
    simp at hp; omega
  · refine ⟨some ⟨g, 0, none⟩, cap, rfl, ⟨fun _ => ⟨g, 0, rfl, fun j v hv i c hi => ?_⟩, hnc, by unfold maxLen at hcm; exact hcm⟩⟩
    rw [List.getElem?_map] at hv
    cases hj : ps[j]? with
    | none => rw [hj] at hv; cases hv
    | some p =>
      rw [hj] at hv
      have hvp : pv p = v := by simpa using hv
      subst hvp
      have h1 := pv_flat ps j p i c hj hi
      rw [← ht, List.getElem?_take] at h1
      split at h1
      · rw [cell_of_row w g _ cur e (0, 0) hh]
        simpa using h1
      · cases h1
end Ev
set_option maxRecDepth 100000 in
theorem info_pair : ∃ i, Tryz.prog.info? 72 = some i ∧ i.zero = some (.agg #[.int .i64 0, .int .i64 0]) ∧ i.size = 2 ∧ i.bytes = 16 := ⟨_, rfl, by kernel_rfl, by kernel_rfl, by kernel_rfl⟩
theorem check_is {x : Ev.X} {v : Int} (h : Ev.check x = v) (w : World) (hin : Ev.XIn w x) : Calls Tryz.prog 47 #[.agg (Ev.xcells x).toArray] w fun e w' => e = .returned (.int .i64 v) ∧ Below w.heap.size w w' := h ▸ check_any x w hin
set_option maxRecDepth 100000 in
set_option maxHeartbeats 8000000 in
theorem pairs_yes (x : Ev.X) (F : FuncId) (bond : Nat → Nat → Int) (w : World) (hin : Ev.XIn w x) (hc : Ev.check x = 0) (hcf : Ev.Enters F) (hF : Ev.Makes w x F bond) :
    Calls Tryz.prog 83 #[Ev.exV x, .func (.func F) #[] #[]] w fun e w' => ∃ a c, e = .returned (.slice a (Ev.told bond x.ev.length x.ev.length).length c) ∧ Ev.PairsIn w' a c (Ev.told bond x.ev.length x.ev.length) ∧ Below w.heap.size w w' := by
  have HIN := Lib.hid hin; have HV := Lib.hid hc; have HF := Lib.hid hF
  have hn64 : x.ev.length ≤ 64 := by
    apply Classical.byContradiction; intro h; unfold Ev.check at hc; rw [if_pos (by omega)] at hc; cases hc
  have hle := hin.ev.le; have hmax := hin.ev.max
  have HCF := Lib.hid hcf
  clear hin hc hF hcf
  have R0 := Lib.hid (heap_alloc_new w (.cells (Ev.xcells x).toArray 26))
  have B0 := Lib.hid ((Below.refl w.heap.size w).alloc (Nat.le_refl _) (.cells (Ev.xcells x).toArray 26))
  obtain ⟨n, hn⟩ : ∃ n, n = x.ev.length := ⟨_, rfl⟩
  have HN := Lib.hid hn
  rw [← hn] at hn64 hle ⊢
  clear hn
  unfold Ev.exV Ev.xcells
  go_enter Tryz.func83, Tryz.ntmps83
  go_wp2
  try go_step3
  go_wp2_with (show wpList _ _ _ (Oper.mk (some 9) _ _ _ _ _ :: _) _ _; refine wpList_load_row rfl 26 (.tmp 2) rfl w.heap.size (by kernel_rfl) 26 (Ev.xcells x).toArray (0, 0) _ R0.out Tryz.underlying26 rfl (by kernel_rfl) ?_)
  refine (check_is HV.out _ (HIN.out.kp (Ev.kp_below B0.out))).mono ?_
  rintro e W1 ⟨rfl, hb⟩
  have R1 := Lib.hid ((hb.block w.heap.size (by simp only [World.size_alloc]; omega)).trans R0.out)
  have B1 := Lib.hid (B0.out.trans (hb.mono (by simp only [World.size_alloc]; omega))); clear hb
  have hcf := HCF.out
  unfold Ev.Enters at hcf
  go_wp2_with (show wpList _ _ _ (Oper.mk (some 13) _ _ _ _ _ :: _) _ _; refine wpList_load_row rfl 26 (.tmp 2) rfl w.heap.size (by kernel_rfl) 26 (Ev.xcells x).toArray (0, 0) _ R1.out Tryz.underlying26 rfl (by kernel_rfl) ?_)
  clear hcf
  refine (HF.out W1 (HIN.out.kp (Ev.kp_below B1.out))).mono ?_
  rintro e W2 ⟨G, caps, rfl, hge, hb, hG⟩
  have HGE := Lib.hid hge; clear hge
  have R2 := Lib.hid ((hb.block w.heap.size (Array.getElem?_eq_some_iff.1 R1.out).1).trans R1.out)
  have B2 := Lib.hid (B1.out.trans (hb.mono B1.out.size)); have HG := Lib.hid hG; clear hb hG
  have c0 : ∀ W, Below W2.heap.size W2 W → W.cell? ⟨w.heap.size, 0, none⟩ = some (.slice x.ae (n : Nat) x.ce) := fun W h => by
    rw [cell_of_row _ _ _ _ _ _ ((h.block w.heap.size (Array.getElem?_eq_some_iff.1 R2.out).1).trans R2.out), HN.out]; rfl
  have C0 := Lib.hid c0
  have c00 := c0 W2 (Below.refl _ _)
  clear c0
  obtain ⟨i0, hi, hz0, hz1, hz2⟩ := info_pair
  have HI := Lib.hid hi; have HZ0 := Lib.hid hz0; have HZ1 := Lib.hid hz1; have HZ2 := Lib.hid hz2; clear hi hz0 hz1 hz2
  go_wp2
  go_step3
  go_wp2
  clear c00
  go_loopw [6, 7, 8, 18] (fun v _ _ i wr => ∃ a : Nat, a ≤ n ∧ i = .int .i64 (a : Int) ∧ wr.ownsRow W2.heap.size 72 2 v (Ev.told bond n a).length ((Ev.told bond n a).flatMap Ev.pv) ∧ Below W2.heap.size W2 wr) (fun _ _ _ i _ => n - (intOf i).toNat)
  case atStart => exact ⟨0, Nat.zero_le _, rfl, World.ownsRow_nil _ _ _ _, Below.refl _ _⟩
  case round =>
    obtain ⟨a, ha, rfl, hrow, hbr⟩ := hrel
    have HROW := Lib.hid hrow; have HBR := Lib.hid hbr
    have c0 := C0.out _ hbr
    clear hrow hbr
    by_cases hlt : a < n
    · have hai : (a : Int) < (n : Int) := by omega
      go_wp2
      clear c0
      go_loopw [6, 8, 24] (fun v _ j w3 => ∃ (b : Nat) (ps : List (Nat × Nat)), b ≤ n ∧ j = .int .i64 (b : Int) ∧ ps.length ≤ b ∧ Ev.cutL bond a (List.range n) = ps ++ Ev.cutL bond a ((List.range n).drop b) ∧ w3.ownsRow W2.heap.size 72 2 v (Ev.told bond n a ++ ps).length ((Ev.told bond n a ++ ps).flatMap Ev.pv) ∧ Below W2.heap.size W2 w3) (fun _ _ j _ => n - (intOf j).toNat)
      case atStart => exact ⟨0, [], Nat.zero_le _, rfl, Nat.le_refl _, by simp, by simpa using HROW.out, HBR.out⟩
      case round =>
        obtain ⟨b, ps, hb, rfl, hpl, hcut, hrow3, hb3⟩ := hrel
        have HR3 := Lib.hid hrow3; have HB3 := Lib.hid hb3; have HCUT := Lib.hid hcut
        clear hrow3 hb3 hcut
        by_cases hbl : b < n
        · have hbi : (b : Int) < (n : Int) := by omega
          have hd := Ev.drop_range hbl
          have HD := Lib.hid hd; clear hd
          have hge := HGE.out
          unfold Ev.Enters at hge
          go_wp2_with fail
          clear hge
          refine (HG.out _ HB3.out a b (by rw [← HN.out]; exact hlt) (by rw [← HN.out]; exact hbl)).mono ?_
          rintro e W4 ⟨rfl, hb4⟩
          have HB4 := Lib.hid (HB3.out.trans (hb4.mono HB3.out.size))
          have HR4 := Lib.hid (Ev.row_below HR3.out hb4)
          clear hb4
          obtain ⟨t, ht⟩ : ∃ t, bond a b = t := ⟨_, rfl⟩
          have HT := Lib.hid ht
          rw [ht]; clear ht
          by_cases h1 : t = 1
          · subst h1
            have HCUT2 := Lib.hid (show Ev.cutL bond a (List.range n) = (ps ++ [(a, b)]) ++ Ev.cutL bond a ((List.range n).drop (b + 1)) by
              rw [HCUT.out, HD.out, List.append_assoc]; congr 1; simp only [Ev.cutL]; rw [HT.out]; simp)
            have htl := Ev.told_len bond n a
            have hmul : a * n ≤ 64 * 64 := Nat.mul_le_mul (by omega) hn64
            have hlen : (Ev.told bond n a ++ ps).length ≤ 4160 := by rw [List.length_append]; omega
            clear htl hmul
            go_wp2_with (show wpList _ _ _ (Oper.mk (some 38) _ _ _ _ _ :: _) _ _; refine wpList_append_own _ rfl (.tmp 33) (.tmp 37) 37 rfl W2.heap.size 72 i0 (.agg #[.int .i64 0, .int .i64 0]) 2 16 Tryz.underlying37 HI.out HZ0.out HZ1.out HZ2.out rfl (by decide) _ _ _ rfl (HR4.out.alloc _) ⟨W4.heap.size, 0, none⟩ 1 1 (Ev.pv (a, b)) rfl rfl (fun j u hu => World.news_of_block (heap_alloc_new W4 _) j u hu) (Ev.pv_one _) (by unfold maxLen; omega) (by omega) (by have := HB4.out.size; simp only [World.size_alloc]; omega) ?_
                         intro v' w5 hown hgrow _
                         have HOWN := Lib.hid hown; have HGR := Lib.hid hgrow; clear hown hgrow)
            have HB5 := Lib.hid (Below.grown (HB4.out.alloc HB4.out.size _) HGR.out (by have := HB4.out.size; simp only [World.size_alloc]; omega) (fun k hk => Ev.own_ge HR4.out hk))
            go_roundw
            case rel =>
              refine ⟨b + 1, ps ++ [(a, b)], by omega, by go_num, by simp; omega, HCUT2.out, ?_, HB5.out⟩
              have := HOWN.out
              rw [← List.append_assoc, List.length_append, List.flatMap_append]
              simpa using this
            case measure => simp [intOf]; omega
          by_cases h2 : t = 2
          · subst h2
            have HTOLD := Lib.hid (show Ev.told bond n (a + 1) = Ev.told bond n a ++ ps by
              rw [Ev.told_succ, HCUT.out, HD.out]; simp only [Ev.cutL]; rw [HT.out]; simp)
            have q1 : ((2 : Int) == 1) = false := by decide
            go_wp2_with fail
            go_roundw
            case rel => exact ⟨a + 1, by omega, by go_num, by rw [HTOLD.out]; exact HR4.out, HB4.out⟩
            case measure => simp [intOf]; omega
          have q1 : (t == 1) = false := by simpa using h1
          have q2 : (t == 2) = false := by simpa using h2
          have HCUT2 := Lib.hid (show Ev.cutL bond a (List.range n) = ps ++ Ev.cutL bond a ((List.range n).drop (b + 1)) by
            rw [HCUT.out, HD.out]; congr 1; simp only [Ev.cutL]; rw [HT.out, if_neg h2, if_neg h1])
          clear h1 h2
          go_wp2_with fail
          go_roundw
          case rel => exact ⟨b + 1, ps, by omega, by go_num, by omega, HCUT2.out, HR4.out, HB4.out⟩
          case measure => simp [intOf]; omega
        · have hbn : b = n := by omega
          have HTOLD := Lib.hid (show Ev.told bond n (a + 1) = Ev.told bond n a ++ ps by
            rw [Ev.told_succ, HCUT.out, hbn, List.drop_eq_nil_of_le (by simp)]; simp [Ev.cutL])
          have hbi : ¬ (b : Int) < (n : Int) := by omega
          clear hbn
          go_wp2_with fail
          go_roundw
          case rel => exact ⟨a + 1, by omega, by go_num, by rw [HTOLD.out]; exact HR3.out, HB3.out⟩
          case measure => simp [intOf]; omega
    · have han : a = n := by omega
      have hai : ¬ (a : Int) < (n : Int) := by omega
      have hrow := HROW.out
      rw [han] at hrow
      obtain ⟨A, c, hv, hp⟩ := Ev.pairs_of_row hrow
      have HP := Lib.hid hp
      subst hv
      clear hrow hp han c0
      go_wp2
      try rw [Exit.noGoto_ret]
      go_ret
      exact ⟨A, c, rfl, HP.out, B2.out.trans (HBR.out.mono B2.out.size)⟩
end Go.Proofs.YtnjnpbabgefaeaaGreat
end

section
namespace Go.Proofs.YtnjnpbabgefaeaaGreat
open Go.RowKit
namespace Ev
structure Addrs (xs : List R) (l : List Int) : Prop where
  up : l.Pairwise (· < ·)
  mem : ∀ y, y ∈ l ↔ ∃ e ∈ xs, e.k ≠ 4 ∧ e.a = y
def rAt (xs : List R) (l : List Int) (i : Nat) : Bool :=
  bare (nth xs i) && (nth xs i).a % 4 == 0 && depsOk xs i && ((nth xs i).k == 5) == decide (i < l.length) && (!((nth xs i).k == 5) || (nth xs i).a == l.getD i 0) && ((nth xs i).k == 5 || (decide (0 ≤ (nth xs i).h) && decide ((nth xs i).h ≤ 3) && (!(decide (l.length < i)) || !(decide ((nth xs i).h < (nth xs ((i : Int) - 1)).h)))))
theorem ext1 : ∀ (b0 b1 b2 b3 b4 b5 b6 b7 b8 b9 b10 : Bool), (bits .andNot .i64 ((([(1, b0), (2, b1), (4, b2), (8, b3), (16, b4), (32, b5), (64, b6), (128, b7), (256, b8), (512, b9), (1024, b10)] : List (Nat × Bool)).foldl (fun m y => m ||| bit y.2 y.1) 0 : Nat) : Int) 1437 != 0) = (b1 || b5 || b6 || b9) := by decide +kernel
theorem ext2 : ∀ (b0 b1 b2 b3 b4 b5 b6 b7 b8 b9 b10 : Bool), (bits .andNot .i64 ((([(1, b0), (2, b1), (4, b2), (8, b3), (16, b4), (32, b5), (64, b6), (128, b7), (256, b8), (512, b9), (1024, b10)] : List (Nat × Bool)).foldl (fun m y => m ||| bit y.2 y.1) 0 : Nat) : Int) 1947 != 0) = (b2 || b5 || b6) := by decide +kernel
theorem ext3 : ∀ (b0 b1 b2 b3 b4 b5 b6 b7 b8 b9 b10 : Bool), (bits .andNot .i64 ((([(1, b0), (2, b1), (4, b2), (8, b3), (16, b4), (32, b5), (64, b6), (128, b7), (256, b8), (512, b9), (1024, b10)] : List (Nat × Bool)).foldl (fun m y => m ||| bit y.2 y.1) 0 : Nat) : Int) 1823 != 0) = (b5 || b6 || b7) := by decide +kernel
theorem ext4 : ∀ (b0 b1 b2 b3 b4 b5 b6 b7 b8 b9 b10 : Bool), (bits .andNot .i64 ((([(1, b0), (2, b1), (4, b2), (8, b3), (16, b4), (32, b5), (64, b6), (128, b7), (256, b8), (512, b9), (1024, b10)] : List (Nat × Bool)).foldl (fun m y => m ||| bit y.2 y.1) 0 : Nat) : Int) 1120 != 0) = (b0 || b1 || b2 || b3 || b4 || b7 || b8 || b9) := by decide +kernel
theorem ext5 : ∀ (b0 b1 b2 b3 b4 b5 b6 b7 b8 b9 b10 : Bool), (bits .andNot .i64 ((([(1, b0), (2, b1), (4, b2), (8, b3), (16, b4), (32, b5), (64, b6), (128, b7), (256, b8), (512, b9), (1024, b10)] : List (Nat × Bool)).foldl (fun m y => m ||| bit y.2 y.1) 0 : Nat) : Int) 3 != 0) = (b2 || b3 || b4 || b5 || b6 || b7 || b8 || b9 || b10) := by decide +kernel
theorem len_bne (l : List Int) : ((l.length : Int) != 0) = !l.isEmpty := by cases l <;> simp <;> omega
theorem extra1 {x : R} (h : x.k = 1) : extra x = ((x.v != 0) || (x.p != 0) || (x.s != 0) || !x.d2.l.isEmpty) := by
  unfold extra filled fl; rw [h]; rw [show parts 1 = 1437 from rfl, ext1, len_bne]
theorem extra2 {x : R} (h : x.k = 2) : extra x = ((x.r != 0) || (x.p != 0) || (x.s != 0)) := by
  unfold extra filled fl; rw [h]; rw [show parts 2 = 1947 from rfl, ext2]
theorem extra3 {x : R} (h : x.k = 3) : extra x = ((x.p != 0) || (x.s != 0) || x.z) := by
  unfold extra filled fl; rw [h]; rw [show parts 3 = 1823 from rfl, ext3]
theorem extra4 {x : R} (h : x.k = 4) : extra x = ((x.a != 0) || (x.v != 0) || (x.r != 0) || x.q || x.l || x.z || !x.d1.l.isEmpty || !x.d2.l.isEmpty) := by
  unfold extra filled fl; rw [h]; rw [show parts 4 = 1120 from rfl, ext4, len_bne, len_bne]
theorem extra5 {x : R} (h : x.k = 5) : extra x = ((x.r != 0) || x.q || x.l || (x.p != 0) || (x.s != 0) || x.z || !x.d1.l.isEmpty || !x.d2.l.isEmpty || !x.d3.l.isEmpty) := by
  unfold extra filled fl; rw [h]; rw [show parts 5 = 3 from rfl, ext5, len_bne, len_bne, len_bne]
theorem parts_no {k : Int} (h1 : k ≠ 1) (h2 : k ≠ 2) (h3 : k ≠ 3) (h4 : k ≠ 4) (h5 : k ≠ 5) : parts k = 0 := by unfold parts; rw [if_neg h1, if_neg h2, if_neg h3, if_neg h4, if_neg h5]
theorem parts_bare (x : R) : partsOk x = (bare x && (x.k == 5 || inB x.h 4) && x.a % 4 == 0) := by
  by_cases h1 : x.k = 1
  · unfold partsOk bare bareK hartOk; rw [extra1 h1]; simp only [h1, bne, stores, loads]
    generalize (x.v == 0) = bv; generalize (x.r == 0) = br; generalize (x.a == 0) = ba; generalize (x.p == 0) = bp; generalize (x.s == 0) = bs
    generalize x.d1.l.isEmpty = e1; generalize x.d2.l.isEmpty = e2; generalize x.d3.l.isEmpty = e3; generalize (x.a % 4 == 0) = bm; generalize (x.h == -1) = bh
    generalize inB x.h 4 = ih; generalize inB x.p 4 = ip; generalize inB x.s 4 = js; generalize x.q = xq; generalize x.l = xl; generalize x.z = xz
    clear h1
    revert bv br ba bp bs e1 e2 e3 bm bh ih ip js xq xl xz
    decide +kernel
  by_cases h2 : x.k = 2
  · unfold partsOk bare bareK hartOk; rw [extra2 h2]; simp only [h2, bne, stores, loads]
    generalize (x.v == 0) = bv; generalize (x.r == 0) = br; generalize (x.a == 0) = ba; generalize (x.p == 0) = bp; generalize (x.s == 0) = bs
    generalize x.d1.l.isEmpty = e1; generalize x.d2.l.isEmpty = e2; generalize x.d3.l.isEmpty = e3; generalize (x.a % 4 == 0) = bm; generalize (x.h == -1) = bh
    generalize inB x.h 4 = ih; generalize inB x.p 4 = ip; generalize inB x.s 4 = js; generalize x.q = xq; generalize x.l = xl; generalize x.z = xz
    clear h1 h2
    revert bv br ba bp bs e1 e2 e3 bm bh ih ip js xq xl xz
    decide +kernel
  by_cases h3 : x.k = 3
  · unfold partsOk bare bareK hartOk; rw [extra3 h3]; simp only [h3, bne, stores, loads]
    generalize (x.v == 0) = bv; generalize (x.r == 0) = br; generalize (x.a == 0) = ba; generalize (x.p == 0) = bp; generalize (x.s == 0) = bs
    generalize x.d1.l.isEmpty = e1; generalize x.d2.l.isEmpty = e2; generalize x.d3.l.isEmpty = e3; generalize (x.a % 4 == 0) = bm; generalize (x.h == -1) = bh
    generalize inB x.h 4 = ih; generalize inB x.p 4 = ip; generalize inB x.s 4 = js; generalize x.q = xq; generalize x.l = xl; generalize x.z = xz
    clear h1 h2 h3
    revert bv br ba bp bs e1 e2 e3 bm bh ih ip js xq xl xz
    decide +kernel
  by_cases h4 : x.k = 4
  · unfold partsOk bare bareK hartOk; rw [extra4 h4]; simp only [h4, bne, stores, loads]
    generalize (x.v == 0) = bv; generalize (x.r == 0) = br; generalize (x.a == 0) = ba; generalize (x.p == 0) = bp; generalize (x.s == 0) = bs
    generalize x.d1.l.isEmpty = e1; generalize x.d2.l.isEmpty = e2; generalize x.d3.l.isEmpty = e3; generalize (x.a % 4 == 0) = bm; generalize (x.h == -1) = bh
    generalize inB x.h 4 = ih; generalize inB x.p 4 = ip; generalize inB x.s 4 = js; generalize x.q = xq; generalize x.l = xl; generalize x.z = xz
    clear h1 h2 h3 h4
    revert bv br ba bp bs e1 e2 e3 bm bh ih ip js xq xl xz
    decide +kernel
  by_cases h5 : x.k = 5
  · unfold partsOk bare bareK hartOk; rw [extra5 h5]; simp only [h5, bne, stores, loads]
    generalize (x.v == 0) = bv; generalize (x.r == 0) = br; generalize (x.a == 0) = ba; generalize (x.p == 0) = bp; generalize (x.s == 0) = bs
    generalize x.d1.l.isEmpty = e1; generalize x.d2.l.isEmpty = e2; generalize x.d3.l.isEmpty = e3; generalize (x.a % 4 == 0) = bm; generalize (x.h == -1) = bh
    generalize inB x.h 4 = ih; generalize inB x.p 4 = ip; generalize inB x.s 4 = js; generalize x.q = xq; generalize x.l = xl; generalize x.z = xz
    clear h1 h2 h3 h4 h5
    revert bv br ba bp bs e1 e2 e3 bm bh ih ip js xq xl xz
    decide +kernel
  have hb : bare x = false := by
    unfold bare
    have : ¬ (1 ≤ x.k ∧ x.k ≤ 5) := by omega
    by_cases h : 1 ≤ x.k
    · rw [show decide (x.k ≤ 5) = false from decide_eq_false (by omega)]; simp
    · rw [show decide (1 ≤ x.k) = false from decide_eq_false h]; simp
  rw [hb]
  unfold partsOk; rw [parts_no h1 h2 h3 h4 h5]; simp
end Ev
end Go.Proofs.YtnjnpbabgefaeaaGreat
end

section
namespace Go.Proofs.YtnjnpbabgefaeaaGreat
open Go.RowKit Go.Maps Go.WideElems
namespace Md
def pkV (p : Nat × Nat) : Value := .agg #[.int .i64 (p.1 : Int), .int .i64 (p.2 : Int)]
def plit (p : Nat × Nat) : Lit := .string (keyBytes [.int .i64 (p.1 : Int), .int .i64 (p.2 : Int)])
set_option maxRecDepth 100000 in
theorem tiled_pair : Tryz.prog.tiled 2 72 = true := by kernel_rfl
set_option maxRecDepth 100000 in
theorem wide_pair : (match Tryz.prog.underlying 72 with | some (.array _ _) | some (.struct _) => true | _ => false) = true := by rw [Tryz.underlying72]
set_option maxRecDepth 100000 in
theorem law_pair : Keyed Tryz.prog 72 := Keyed.of_law (deep_law (m := 2) (by omega) (by kernel_rfl) tiled_pair wide_pair)
theorem cells_pair : Tryz.prog.cellsOf 72 = 2 := by kernel_rfl
theorem cells_int1 : Tryz.prog.cellsOf 3 = 1 := by kernel_rfl
set_option maxRecDepth 100000 in
theorem key_pair : Tryz.prog.keyType 72 = true := by kernel_rfl
set_option maxRecDepth 100000 in
theorem size_pair : ∃ n, Tryz.prog.types.size + 1 = n + 2 := ⟨_, rfl⟩
def i64ok (a : Int) : Bool := (Lit.int .i64 a).wf
theorem i64ok_of {a : Nat} (h : a < 64) : i64ok (a : Int) = true := wf_of_i64 ⟨by omega, by omega⟩
theorem lits_pair (a b : Int) : Tryz.prog.keyLits (Tryz.prog.types.size + 1) 72 [.int .i64 a, .int .i64 b] = if i64ok a = true ∧ i64ok b = true then some [.int .i64 a, .int .i64 b] else none := by
  obtain ⟨n, hn⟩ := size_pair
  rw [hn]
  unfold Program.keyLits
  rw [Tryz.underlying72]
  by_cases ha : (Lit.int .i64 a).wf = true <;> by_cases hb : (Lit.int .i64 b).wf = true <;> simp [Program.keyLits, cells_pair, cells_int1, Tryz.underlying3, i64ok, ha, hb]
theorem keyOf_pair (a b : Int) (ha : i64ok a = true) (hb : i64ok b = true) : keyOf Tryz.prog 72 (.agg #[.int .i64 a, .int .i64 b]) = some (.string (keyBytes [.int .i64 a, .int .i64 b])) := by
  unfold keyOf
  rw [Tryz.underlying72]
  simp only [key_pair, Bool.true_and]
  rw [show (Value.agg #[.int .i64 a, .int .i64 b]).formed Tryz.prog 72 = true by simp [Value.formed, Tryz.underlying72, cells_pair]]
  have h := lits_pair a b
  rw [if_pos ⟨ha, hb⟩] at h
  generalize Tryz.prog.types.size + 1 = m at h ⊢
  simp [Value.cells, h]
theorem key_mk {p : Nat × Nat} (h : p.1 < 64 ∧ p.2 < 64) : keyOf Tryz.prog 72 (pkV p) = some (plit p) := keyOf_pair _ _ (i64ok_of h.1) (i64ok_of h.2)
theorem plit_inj {p q : Nat × Nat} (hp : p.1 < 64 ∧ p.2 < 64) (hq : q.1 < 64 ∧ q.2 < 64) (h : plit p = plit q) : p = q := by
  have e := law_pair.inj (key_mk hp) (h ▸ key_mk hq)
  simp [pkV] at e
  exact Prod.ext (by omega) (by omega)
set_option maxRecDepth 100000 in
theorem lits_int {n : Nat} {c : Value} {l : List Lit} (h : Tryz.prog.keyLits (n + 1) 3 [c] = some l) : ∃ a, c = .int .i64 a := by
  unfold Program.keyLits at h
  rw [Tryz.underlying3] at h
  cases c <;> simp at h
  obtain ⟨⟨rfl, _⟩, _⟩ := h
  exact ⟨_, rfl⟩
set_option maxRecDepth 100000 in
theorem key_inv {v : Value} {l : Lit} (h : keyOf Tryz.prog 72 v = some l) : ∃ x : Int × Int, v = .agg #[.int .i64 x.1, .int .i64 x.2] := by
  unfold keyOf at h
  rw [Tryz.underlying72] at h
  simp only [key_pair, Bool.true_and] at h
  obtain ⟨n, hn⟩ := size_pair
  rw [hn] at h
  clear hn
  split at h
  · rename_i hf
    cases v with
    | agg cs =>
      simp [Value.formed, Tryz.underlying72, cells_pair] at hf
      obtain ⟨l0, hl0, _⟩ := Option.map_eq_some_iff.1 h
      obtain ⟨c0, c1, rfl⟩ : ∃ c0 c1, cs = #[c0, c1] := by
        obtain ⟨l⟩ := cs
        match l, hf with
        | [c0, c1], _ => exact ⟨c0, c1, rfl⟩
      unfold Program.keyLits at hl0
      rw [Tryz.underlying72] at hl0
      simp [Value.cells, cells_pair, cells_int1, List.mapM_cons] at hl0
      obtain ⟨l1, k1, k2⟩ := Option.bind_eq_some_iff.1 hl0
      obtain ⟨l2, k3, _⟩ := Option.map_eq_some_iff.1 k2
      obtain ⟨l3, k4, _⟩ := Option.bind_eq_some_iff.1 k3
      obtain ⟨l4, k5, _⟩ := Option.bind_eq_some_iff.1 k4
      obtain ⟨a, rfl⟩ := lits_int k1
      obtain ⟨b, rfl⟩ := lits_int k5
      exact ⟨(a, b), rfl⟩
    | _ => simp [Value.formed, Tryz.underlying72] at hf
  · cases h
theorem iskey_plit (p : Nat × Nat) : WideAt.IsKeyLit (plit p) := by first | trivial | exact rfl | simp [WideAt.IsKeyLit, plit]
structure PSet (w : World) (b n : Nat) (S : List (Nat × Nat)) : Prop where
  ex : ∃ D : DataW Unit, w.ownsMap Tryz.prog 72 unitElem b n D ∧ (∀ p : Nat × Nat, p.1 < 64 ∧ p.2 < 64 → Maps.has D (plit p) = decide (p ∈ S)) ∧ ∀ l, Maps.has D l = true → ∃ p ∈ S, l = plit p
  lt : ∀ p ∈ S, p.1 < 64 ∧ p.2 < 64
theorem PSet.kept {w w' : World} {b n : Nat} {S : List (Nat × Nat)} {row : Option Nat} (h : PSet w b n S) (hg : w.grownBy w' row) (hne : some b ≠ row) : PSet w' b n S := by
  obtain ⟨D, ho, hD⟩ := h.ex
  exact ⟨⟨D, ho.kept hg hne, hD⟩, h.lt⟩
theorem PSet.kp {w w' : World} {b n : Nat} {S : List (Nat × Nat)} (h : PSet w b n S) (hb : Below w.heap.size w w') : PSet w' b n S := h.kept (row := none) (World.grownBy.but_of hb) (by simp)
theorem PSet.new (w : World) : PSet (w.alloc (.map #[] 0)) w.heap.size 0 [] :=
  ⟨⟨.map [], World.ownsMap_made _ _ _ _, fun p _ => by simp [Maps.has], fun l h => by simp [Maps.has] at h⟩, fun p h => by cases h⟩
theorem put_ok {D : DataW Unit} {S : List (Nat × Nat)} (hm : IsMap D) (h : (∀ p : Nat × Nat, p.1 < 64 ∧ p.2 < 64 → Maps.has D (plit p) = decide (p ∈ S)) ∧ ∀ l, Maps.has D l = true → ∃ p ∈ S, l = plit p) {q : Nat × Nat} (hq : q.1 < 64 ∧ q.2 < 64) :
    (∀ p : Nat × Nat, p.1 < 64 ∧ p.2 < 64 → Maps.has (D.put (plit q) (.agg [])) (plit p) = decide (p ∈ S ++ [q])) ∧ ∀ l, Maps.has (D.put (plit q) (.agg [])) l = true → ∃ p ∈ S ++ [q], l = plit p := by
  constructor
  · intro p hp
    by_cases e : p = q
    · subst e; rw [Maps.has_put_same hm (iskey_plit _)]; simp
    · rw [Maps.has_put_other (fun he => e (plit_inj hp hq he)), h.1 p hp]; simp [e]
  · intro l hl
    by_cases e : l = plit q
    · exact ⟨q, by simp, e⟩
    · rw [Maps.has_put_other e] at hl
      obtain ⟨p, hp, rfl⟩ := h.2 l hl
      exact ⟨p, by simp [hp], rfl⟩
structure Met (S : List (Nat × Nat)) (left : Lit → Bool) (ss : List (Nat × Nat)) : Prop where
  nd : ss.Nodup
  sub : ∀ p ∈ ss, p ∈ S
  iff : ∀ p ∈ S, (left (plit p) = false ↔ p ∈ ss)
theorem Met.start {D : DataW Unit} {S : List (Nat × Nat)} (h : ∀ p : Nat × Nat, p.1 < 64 ∧ p.2 < 64 → Maps.has D (plit p) = decide (p ∈ S)) (hlt : ∀ p ∈ S, p.1 < 64 ∧ p.2 < 64) : Met S (Maps.has D) [] :=
  ⟨List.nodup_nil, fun p hp => (by cases hp), fun p hp => by rw [h p (hlt p hp)]; simp [hp]⟩
theorem Met.step {S : List (Nat × Nat)} {left : Lit → Bool} {ss : List (Nat × Nat)} (h : Met S left ss) (hlt : ∀ p ∈ S, p.1 < 64 ∧ p.2 < 64) {q : Nat × Nat} (hq : q ∈ S) (hl : left (plit q) = true) : q ∉ ss ∧ Met S (fun z => left z && !z.sameKey (plit q)) (ss ++ [q]) := by
  have hnew : q ∉ ss := fun hm => by have := (h.iff q hq).2 hm; rw [hl] at this; cases this
  refine ⟨hnew, List.nodup_append.2 ⟨h.nd, by simp, fun a ha b hb => by simp at hb; subst hb; exact fun e => hnew (e ▸ ha)⟩, fun p hp => ?_, fun p hp => ?_⟩
  · rcases List.mem_append.1 hp with h1 | h1
    · exact h.sub p h1
    · simp at h1; subst h1; exact hq
  · by_cases e : p = q
    · subst e
      have := WideAt.sameKey_self (iskey_plit p)
      simp [this]
    · have hk : (plit p).sameKey (plit q) = false := by
        cases hs : (plit p).sameKey (plit q)
        · rfl
        · exact absurd (plit_inj (hlt p hp) (hlt q hq) (WideAt.sameKey_eq hs)) e
      simp [hk, e, h.iff p hp]
theorem Met.all {S : List (Nat × Nat)} {left : Lit → Bool} {ss : List (Nat × Nat)} (h : Met S left ss) (hl : ∀ l, left l = false) : ∀ p, p ∈ ss ↔ p ∈ S := fun p => ⟨h.sub p, fun hp => (h.iff p hp).1 (hl _)⟩
end Md
end Go.Proofs.YtnjnpbabgefaeaaGreat
end
