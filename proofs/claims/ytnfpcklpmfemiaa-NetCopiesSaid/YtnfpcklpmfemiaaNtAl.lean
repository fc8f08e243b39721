/-
  A net, what was sent on it and what came of it, side by side; how often a message stands in a list.
-/
import Derived.Test.YtnfpcklpmfemiaaNtLaw
namespace Go.Proofs.Ytnfpcklpmfemiaa
open Go.RowKit
set_option linter.unusedVariables false
set_option linter.unusedSimpArgs false
namespace Nt
structure Al (w W : World) (F G H : Nat → Prop) (p : Nat) (cur : List E) (a7 : Option Addr) (c7 : Nat) (S : List E) (a8 : Option Addr) (c8 : Nat) (C : List E) : Prop where
  net : Net W F p 1024 cur
  bel : Below w.heap.size w W
  s : Own W G a7 c7 S
  c : Own W H a8 c8 C
  lo : ∀ k, F k ∨ G k ∨ H k → w.heap.size ≤ k
  hi : ∀ k, G k ∨ H k → k < W.heap.size
  fg : ∀ k, F k → ¬ G k
  fh : ∀ k, F k → ¬ H k
  gh : ∀ k, G k → ¬ H k
  sok : ∀ e ∈ S, Ok e
  cok : ∀ e ∈ C, Ok e
section
variable {w W W' : World} {F G H : Nat → Prop} {p : Nat} {cur : List E} {a7 : Option Addr} {c7 : Nat} {S : List E} {a8 : Option Addr} {c8 : Nat} {C : List E}
theorem Al.kp (h : Al w W F G H p cur a7 c7 S a8 c8 C) (hb : Below W.heap.size W W') : Al w W' F G H p cur a7 c7 S a8 c8 C :=
  ⟨h.net.kp hb, h.bel.trans (hb.mono h.bel.size), h.s.kp hb, h.c.kp hb, h.lo, fun k hk => Nat.lt_of_lt_of_le (h.hi k hk) hb.size, h.fg, h.fh, h.gh, h.sok, h.cok⟩
theorem Al.turn (h : Al w W F G H p cur a7 c7 S a8 c8 C) {cur' : List E} (ht : Turns F W W' p 1024 cur') : ∃ F', Al w W' F' G H p cur' a7 c7 S a8 c8 C ∧ Fr F W W' := by
  obtain ⟨F', h1, h2, h3⟩ := ht
  have hs := h2.size
  refine ⟨F', ⟨h1, Fr.below h.bel h2 (fun k hk => h.lo k (.inl hk)) (Nat.le_refl _), h.s.kept (fun k hk hkl => h2.block k hkl (fun hF => h.fg k hF hk)), h.c.kept (fun k hk hkl => h2.block k hkl (fun hF => h.fh k hF hk)), ?_, fun k hk => Nat.lt_of_lt_of_le (h.hi k hk) hs, ?_, ?_, h.gh, h.sok, h.cok⟩, h2⟩
  · rintro k (hk | hk)
    · rcases h3 k hk with h4 | h4
      · exact h.lo k (.inl h4)
      · have := h.bel.size; omega
    · exact h.lo k (.inr hk)
  · intro k hk hg
    rcases h3 k hk with h4 | h4
    · exact h.fg k h4 hg
    · have := h.hi k (.inl hg); omega
  · intro k hk hg
    rcases h3 k hk with h4 | h4
    · exact h.fh k h4 hg
    · have := h.hi k (.inr hg); omega
theorem Al.addS (h : Al w W F G H p cur a7 c7 S a8 c8 C) {W1 W2 : World} (hb : Below W.heap.size W W1) {a' : Option Addr} {c' : Nat} {S' : List E} (ho : Own W2 (fun k => G k ∨ k = W1.heap.size) a' c' S') (hf : Fr G W1 W2) (hok : ∀ e ∈ S', Ok e) :
    ∃ G', Al w W2 F G' H p cur a' c' S' a8 c8 C := by
  have h1 := h.kp hb
  have hlt := h1.net.lt
  refine ⟨fun k => (G k ∨ k = W1.heap.size) ∧ k < W2.heap.size, ⟨h1.net.kept hf.size (fun k hk => hf.block k (hlt k hk) (h1.fg k hk)), Fr.below h1.bel hf (fun k hk => h.lo k (.inr (.inl hk))) (Nat.le_refl _), ho.lt, h1.c.kept (fun k hk hkl => hf.block k hkl (fun hg => h1.gh k hg hk)), ?_, ?_, ?_, h1.fh, ?_, hok, h.cok⟩⟩
  · rintro k (hk | ⟨hk | hk, _⟩ | hk)
    · exact h.lo k (.inl hk)
    · exact h.lo k (.inr (.inl hk))
    · have := h1.bel.size; omega
    · exact h.lo k (.inr (.inr hk))
  · rintro k (hk | hk)
    · exact hk.2
    · exact Nat.lt_of_lt_of_le (h1.hi k (.inr hk)) hf.size
  · rintro k hk ⟨hg | hg, _⟩
    · exact h.fg k hk hg
    · have := hlt k hk; omega
  · rintro k ⟨hg | hg, _⟩ hh
    · exact h.gh k hg hh
    · have := h1.hi k (.inr hh); omega
theorem Al.addC (h : Al w W F G H p cur a7 c7 S a8 c8 C) {W1 W2 : World} (hb : Below W.heap.size W W1) {a' : Option Addr} {c' : Nat} {C' : List E} (ho : Own W2 (fun k => H k ∨ k = W1.heap.size) a' c' C') (hf : Fr H W1 W2) (hok : ∀ e ∈ C', Ok e) :
    ∃ H', Al w W2 F G H' p cur a7 c7 S a' c' C' := by
  have h1 := h.kp hb
  have hlt := h1.net.lt
  refine ⟨fun k => (H k ∨ k = W1.heap.size) ∧ k < W2.heap.size, ⟨h1.net.kept hf.size (fun k hk => hf.block k (hlt k hk) (h1.fh k hk)), Fr.below h1.bel hf (fun k hk => h.lo k (.inr (.inr hk))) (Nat.le_refl _), h1.s.kept (fun k hk hkl => hf.block k hkl (fun hg => h1.gh k hk hg)), ho.lt, ?_, ?_, h1.fg, ?_, ?_, h.sok, hok⟩⟩
  · rintro k (hk | hk | ⟨hk | hk, _⟩)
    · exact h.lo k (.inl hk)
    · exact h.lo k (.inr (.inl hk))
    · exact h.lo k (.inr (.inr hk))
    · have := h1.bel.size; omega
  · rintro k (hk | hk)
    · exact Nat.lt_of_lt_of_le (h1.hi k (.inl hk)) hf.size
    · exact hk.2
  · rintro k hk ⟨hg | hg, _⟩
    · exact h.fh k hk hg
    · have := hlt k hk; omega
  · rintro k hg ⟨hh | hh, _⟩
    · exact h.gh k hg hh
    · have := h1.hi k (.inl hg); omega
end
/-- one message more behind a list -/
theorem add_one {W : World} {G : Nat → Prop} {a : Option Addr} {c : Nat} {S : List E} (ho : Own W G a c S) (hok : ∀ e ∈ S, Ok e) {e : E} (he : Ok e) (hl : S.length ≤ 2000) :
    ∃ W1 a' c' W2, W1 = W.alloc (.cells (cells e).toArray 57) ∧ (Builtin.append_ #[68, 68] 68 #[.slice a S.length c, .slice (some ⟨W.heap.size, 0, none⟩) 1 1]).run Try.prog W1 = .ok (.slice a' (S ++ [e]).length c') W2 ∧
      Below W.heap.size W W1 ∧ Own W2 (fun k => G k ∨ k = W1.heap.size) a' c' (S ++ [e]) ∧ Fr G W1 W2 ∧ ∀ x ∈ S ++ [e], Ok x := by
  have hb : Below W.heap.size W (W.alloc (.cells (cells e).toArray 57)) := (Below.refl _ _).alloc (Nat.le_refl _) _
  obtain ⟨a', c', W2, hr, ho2, hf⟩ := append_any (ho.kp hb) hok (ls_one he (heap_alloc_new W _)) (by simp only [List.length_singleton]; omega)
  refine ⟨_, a', c', W2, rfl, hr, hb, ho2, hf, fun x hx => ?_⟩
  rcases List.mem_append.1 hx with hx | hx
  · exact hok x hx
  · obtain rfl : x = e := by simpa using hx
    exact he
/-- what is delivered, where there is something -/
theorem del_some {l : List E} (h : l ≠ []) (pick : Int) : ∃ k m, k < l.length ∧ l[k]? = some m ∧ delO l pick = some m ∧ delL l pick = l.take k ++ l.drop (k + 1) ∧ (delL l pick).length + 1 = l.length ∧ (m :: delL l pick).Perm l := by
  obtain ⟨h1, _⟩ := dix_lt h pick
  have h2 := List.getElem?_eq_getElem h1
  have h3 := delL_at (l := l) (pick := pick) rfl
  refine ⟨dix l pick, l[dix l pick], h1, h2, h2, h3, ?_, ?_⟩
  · rw [h3, List.length_append, List.length_take, List.length_drop]; omega
  · rw [h3]
    have h4 : l = l.take (dix l pick) ++ (l[dix l pick] :: l.drop (dix l pick + 1)) := by rw [← List.drop_eq_getElem_cons h1, List.take_append_drop]
    conv => rhs; rw [h4]
    exact List.perm_middle.symm
/-- the place where two lists part is at or behind the one that is left out -/
theorem part_at {was now : List E} {k r : Nat} {m : E} (hk : k < was.length) (hm : was[k]? = some m) (hn : now = was.take k ++ was.drop (k + 1)) (hr : r ≤ now.length) (he : ∀ j, j < r → now[j]? = was[j]?) (hx : r = now.length ∨ now[r]? ≠ was[r]?) :
    was[r]? = some m ∧ now.drop r = was.drop (r + 1) := by
  have hl : now.length + 1 = was.length := by rw [hn, List.length_append, List.length_take, List.length_drop]; omega
  have lo : ∀ j, j < k → now[j]? = was[j]? := fun j hj => by
    rw [hn, List.getElem?_append_left (by rw [List.length_take]; omega), List.getElem?_take, if_pos hj]
  have up : ∀ j, k ≤ j → now[j]? = was[j + 1]? := fun j hj => by
    rw [hn, List.getElem?_append_right (by rw [List.length_take]; omega), List.length_take, Nat.min_eq_left (by omega), List.getElem?_drop]
    congr 1; omega
  have hkr : k ≤ r := by
    rcases Nat.lt_or_ge r k with h | h
    · rcases hx with hx | hx
      · omega
      · exact absurd (lo r h) hx
    · exact h
  have all : ∀ d, k + d ≤ r → was[k + d]? = some m := by
    intro d
    induction d with
    | zero => intro _; exact hm
    | succ d ih =>
      intro hd
      rw [show k + (d + 1) = (k + d) + 1 by omega, ← up (k + d) (by omega), he (k + d) (by omega)]
      exact ih (by omega)
  refine ⟨by have := all (r - k) (by omega); rwa [show k + (r - k) = r by omega] at this, ?_⟩
  apply List.ext_getElem?
  intro j
  rw [List.getElem?_drop, List.getElem?_drop, up (r + j) (by omega)]
  congr 1; omega
/-- how often a message stands in a list -/
def cnt (l : List E) (m : E) : Nat := l.countP fun x => eqM x m
theorem cnt_succ {l : List E} {k : Nat} {x m : E} (h : l[k]? = some x) : cnt (l.take (k + 1)) m = cnt (l.take k) m + (if eqM x m then 1 else 0) := by
  unfold cnt
  rw [List.take_add_one, h, List.countP_append]
  show _ + List.countP _ [x] = _
  rw [List.countP_singleton]
theorem cnt_le (l : List E) (m : E) : cnt l m ≤ l.length := List.countP_le_length
set_option maxRecDepth 100000 in
set_option maxHeartbeats 4000000 in
theorem counted_any (a : Option Addr) (c : Nat) (l : List E) (hl : l.length ≤ 2000) (m : E) (hm : Ok m) (w : World) (h : LsIn w a c l) :
    Calls Try.prog 42 #[.slice a l.length c, .agg (cells m).toArray] w fun e w' => e = .returned (.int .i64 (cnt l m : Int)) ∧ Below w.heap.size w w' := by
  obtain ⟨mb, hmb⟩ : ∃ mb, mb = w.heap.size := ⟨_, rfl⟩
  obtain ⟨B, hB⟩ : ∃ B, B = w.alloc (.cells (cells m).toArray 57) := ⟨_, rfl⟩
  have HB := Lib.hid hB; have HMB := Lib.hid hmb
  have B0 := Lib.hid (show Below w.heap.size w B by rw [hB]; exact (Below.refl w.heap.size w).alloc (Nat.le_refl _) _)
  have R0 := Lib.hid (show B.heap[mb]? = some (.cells (cells m).toArray 57 (0, 0)) by rw [hB, hmb]; exact heap_alloc_new _ _)
  have HOK := Lib.hid hm
  have HIN := Lib.hid (h.kp (Ev.kp_below B0.out))
  clear hB hmb hm h
  go_enter Try.func42, Try.ntmps42
  go_wp2_with fail
  rw [← HB.out, ← HMB.out]
  go_loopw [5, 6] (fun n i wr => ∃ k : Nat, k ≤ l.length ∧ i = .int .i64 (k : Int) ∧ n = .int .i64 (cnt (l.take k) m : Int) ∧ Below B.heap.size B wr) (fun _ i _ => l.length - (intOf i).toNat)
  case atStart => exact ⟨0, Nat.zero_le _, rfl, rfl, Below.refl _ _⟩
  case round =>
    obtain ⟨k, hk, rfl, rfl, hbr⟩ := hrel
    have BR := Lib.hid hbr
    have hcl : cnt (l.take k) m ≤ 2000 := Nat.le_trans (cnt_le _ _) (by rw [List.length_take]; omega)
    clear hbr
    by_cases hlt : k < l.length
    · obtain ⟨x, hx⟩ : ∃ x, l[k]? = some x := ⟨_, List.getElem?_eq_getElem hlt⟩
      have O1 := Lib.hid (HIN.out.ok_ hx)
      have HCN := Lib.hid (cnt_succ (m := m) hx)
      obtain ⟨g, o, ea, hc⟩ := (HIN.out.kp (Ev.kp_below BR.out)).at_ hx
      have HC := Lib.hid hc
      have RR := Lib.hid ((BR.out.block _ (Array.getElem?_eq_some_iff.1 R0.out).1).trans R0.out)
      have hki : (k : Int) < (l.length : Int) := by omega
      rw [ea]
      clear hx hc ea
      obtain ⟨v, hv⟩ : ∃ v, eqM x m = v := ⟨_, rfl⟩
      have HV := Lib.hid hv
      clear hv
      go_wp2_with fail
      refine Og.region3 (by kernel_rfl) (fun t => ([(13, 0), (14, 1), (15, 2), (16, 3), (17, 4), (18, 5)] : List (Nat × Nat)).lookup t) [.is (.slice (some ⟨g, o, none⟩) l.length c), .is (.int .i64 (k : Int)), .is (.pointer (some ⟨g, o + k * 20, none⟩)), .is (.agg (cells x).toArray), .is (.agg (cells m).toArray), .is (.bool v)] [true, true, true, true, true, true] (by kernel_rfl) ?_ ?_
      · refine ⟨?_, ?_, ?_, ?_, ?_, ?_, trivial⟩
        · refine ⟨rfl, fun ρ w1 hr hd => ?_⟩
          obtain ⟨d0, _⟩ := hd
          have d0 : ρ (.tmp 0) = .slice (some ⟨g, o, none⟩) l.length c := d0
          refine (if_pos (by rfl)).mpr ?_
          refine Og.gives_is (.slice (some ⟨g, o, none⟩) l.length c) ?_ (And.intro (Below.refl _ _) rfl)
          go_simp
        · refine ⟨rfl, fun ρ w1 hr hd => ?_⟩
          obtain ⟨d0, _⟩ := hd
          have d0 : ρ (.tmp 6) = .int .i64 (k : Int) := d0
          refine (if_pos (by rfl)).mpr ?_
          refine Og.gives_is (.int .i64 (k : Int)) ?_ (And.intro (Below.refl _ _) rfl)
          go_simp
        · refine ⟨rfl, fun ρ w1 hr hd => ?_⟩
          obtain ⟨d0, d1, _⟩ := hd
          have d0 : ρ (.tmp 13) = .slice (some ⟨g, o, none⟩) l.length c := d0
          have d1 : ρ (.tmp 14) = .int .i64 (k : Int) := d1
          refine (if_pos (by rfl)).mpr ?_
          refine Og.gives_is (.pointer (some ⟨g, o + k * 20, none⟩)) ?_ (And.intro (Below.refl _ _) rfl)
          go_simp
        · refine ⟨rfl, fun ρ w1 hr hd => ?_⟩
          obtain ⟨d0, _⟩ := hd
          have d0 : ρ (.tmp 15) = .pointer (some ⟨g, o + k * 20, none⟩) := d0
          refine (if_pos (by rfl)).mpr ?_
          refine Og.gives_is (.agg (cells x).toArray) ?_ (And.intro (Below.refl _ _) rfl)
          exact Og.load_run 57 (.tmp 15) rfl ⟨g, o + k * 20, none⟩ d0 (run_loadVar_at w1 g (o + k * 20) 57 (cells x) _ (fun i c hi => Ev.kp_below hr _ _ (HC.out i c hi)) Try.underlying57 rfl (by rw [O1.out.len]; exact size_msg))
        · refine ⟨rfl, fun ρ w1 hr hd => ?_⟩
          obtain ⟨d0, _⟩ := hd
          have d0 : ρ (.tmp 3) = .pointer (some ⟨mb, 0, none⟩) := d0
          refine (if_pos (by rfl)).mpr ?_
          refine Og.gives_is (.agg (cells m).toArray) ?_ (And.intro (Below.refl _ _) rfl)
          exact Og.load_run 57 (.tmp 3) rfl ⟨mb, 0, none⟩ d0 (run_loadVar_row w1 mb 57 57 _ (0, 0) _ ((hr.block mb (Array.getElem?_eq_some_iff.1 RR.out).1).trans RR.out) Try.underlying57 rfl (by rw [HOK.out.size]; exact size_msg))
        · refine ⟨rfl, fun ρ w1 hr hd => ?_⟩
          obtain ⟨d0, d1, _⟩ := hd
          have d0 : ρ (.tmp 16) = .agg (cells x).toArray := d0
          have d1 : ρ (.tmp 17) = .agg (cells m).toArray := d1
          refine (if_pos (by rfl)).mpr ?_
          refine Og.gives_is (.bool v) ?_ (And.intro (Below.refl _ _) rfl)
          exact eql_op (a := x) (b := m) (.tmp 16) (.tmp 17) rfl O1.out HOK.out d0 d1 v HV.out w1
      · intro vs w1 hbz hall
        have e0 : vs 0 = .slice (some ⟨g, o, none⟩) l.length c := hall 0 _ 13 rfl rfl
        have e1 : vs 1 = .int .i64 (k : Int) := hall 1 _ 14 rfl rfl
        have e2 : vs 2 = .pointer (some ⟨g, o + k * 20, none⟩) := hall 2 _ 15 rfl rfl
        have e3 : vs 3 = .agg (cells x).toArray := hall 3 _ 16 rfl rfl
        have e4 : vs 4 = .agg (cells m).toArray := hall 4 _ 17 rfl rfl
        have e5 : vs 5 = .bool v := hall 5 _ 18 rfl rfl
        have HBZ := Lib.hid hbz
        simp only [Og.putAll, Act.put, List.setIfInBounds_toArray, List.set_cons_zero, List.set_cons_succ, Nat.zero_add, Nat.reduceAdd, e0, e1, e2, e3, e4, e5]
        clear hall hbz
        cases v
        · have HE := Lib.hid (show cnt (l.take (k + 1)) m = cnt (l.take k) m from by rw [HCN.out, HV.out]; rfl)
          go_wp2_with fail
          go_roundw
          case rel => exact ⟨k + 1, by omega, by go_num, by rw [HE.out], BR.out.trans (HBZ.out.mono BR.out.size)⟩
          case measure => simp [intOf]; omega
        · have HE := Lib.hid (show cnt (l.take (k + 1)) m = cnt (l.take k) m + 1 from by rw [HCN.out, HV.out]; rfl)
          go_wp2_with fail
          go_roundw
          case rel => exact ⟨k + 1, by omega, by go_num, by rw [HE.out]; go_num, BR.out.trans (HBZ.out.mono BR.out.size)⟩
          case measure => simp [intOf]; omega
    · have hki : ¬ (k : Int) < (l.length : Int) := by omega
      have HTL := Lib.hid (show cnt (l.take k) m = cnt l m by rw [List.take_of_length_le (by omega)])
      go_wp2_with fail
      go_ret
      exact ⟨by rw [← HTL.out]; rfl, B0.out.trans (BR.out.mono B0.out.size)⟩
end Nt
end Go.Proofs.Ytnfpcklpmfemiaa
