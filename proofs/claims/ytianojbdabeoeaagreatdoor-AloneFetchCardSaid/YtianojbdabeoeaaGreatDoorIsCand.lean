/-
  The forms that a word may have, one by one: the program's candidates: what it hands to each round.
-/
import Derived.Test.YtianojbdabeoeaaGreatDoorIsEnc
import Derived.Test.YtianojbdabeoeaaGreatDoorOgIn
import Derived.RangeFuncNested
import Derived.RangeFuncBound
import Derived.RangeFuncCalls
import Derived.RangeFuncLeaves
import Derived.Shelf.Abstract
import Derived.Shelf.RegionOpen
import Derived.OwnWalkIn
import Derived.TacticsInMore
import Derived.LoopNIn
import Derived.LoopIn
namespace Go.Proofs.YtianojbdabeoeaaGreatDoor
open Go.RowKit Go.Maps Go.Shelf
set_option linter.unusedVariables false
set_option linter.unusedSimpArgs false
attribute [local go_sem] Oper.semAt_some

namespace Is
/-- what the rows have come to: the last form that was told, and all forms told -/
def stL (o : Int) : Nat → Nat × List Nat
  | 0 => (0, [])
  | k + 1 => if fm k = (stL o k).1 ∨ wd k % 128 ≠ o then stL o k else (fm k, (stL o k).2 ++ [fm k])
theorem stL_len (o : Int) : ∀ k, (stL o k).2.length ≤ k
  | 0 => Nat.le_refl _
  | k + 1 => by
    have ih := stL_len o k
    unfold stL
    split
    · omega
    · simp; omega
theorem stL_skip {o : Int} {k : Nat} (h : fm k = (stL o k).1 ∨ wd k % 128 ≠ o) : stL o (k + 1) = stL o k := by rw [stL, if_pos h]
theorem stL_tell {o : Int} {k : Nat} (h1 : ¬ fm k = (stL o k).1) (h2 : wd k % 128 = o) : stL o (k + 1) = (fm k, (stL o k).2 ++ [fm k]) := by rw [stL, if_neg (by intro h; rcases h with h | h <;> contradiction)]
/-- a form's number -/
abbrev K13 := { k : Nat // 1 ≤ k ∧ k ≤ 13 }
theorem fm_ok : ∀ k, k < 60 → k = 0 ∨ (1 ≤ fm k ∧ fm k ≤ 13) := by decide +kernel
theorem wd_ok : ∀ k, k < 60 → 0 ≤ wd k ∧ wd k ≤ 4294967295 := by decide +kernel
theorem stL_small (o : Int) : ∀ k, k ≤ 60 → (stL o k).1 ≤ 13
  | 0, _ => Nat.zero_le _
  | k + 1, h => by
    have ih := stL_small o k (by omega)
    unfold stL
    split
    · exact ih
    · rcases fm_ok k (by omega) with rfl | h2
      · exact Nat.zero_le _
      · exact h2.2
end Is
/-- what a round keeps: maps and walks over them, and the cell of the word -/
def KpC (c : Nat) (W W' : World) : Prop := KeepsWalks W W' ∧ W'.cell? ⟨c, 0, none⟩ = W.cell? ⟨c, 0, none⟩
theorem grownBy_of_below {W W' : World} (h : Below W.heap.size W W') : W.grownBy W' none := ⟨h.os, h.tape, h.output, h.size, fun k hk _ => h.block k hk⟩
theorem abides_below {β : Type} {B : Nat} {J : β → World → Prop} (h : AbidesFrom B J) {s : β} {W W' : World} (hs : J s W) (hb : Below W.heap.size W W') : J s W' :=
  h s W W' none hs (grownBy_of_below hb) (fun r e => by cases e)
theorem own_walks {P : Program} {k : TypeId} {R : Value → Option (DataW Value × List MemPlace)} {b n : Nat} {D : DataW Value} {w w' : World} (h : w.ownsMap P k R b n D) (hb : KeepsWalks w w') : w'.ownsMap P k R b n D := by
  obtain ⟨es, clock, h1, h2⟩ := h
  exact ⟨es, clock, hb.same b _ h1 rfl, h2⟩

set_option maxRecDepth 100000 in
set_option maxHeartbeats 8000000 in
theorem cand_stops (n : Nat) (hn : 1 ≤ n) (x : Int) (hx : Is.Wd x) (c : Nat) (w : World) (hcw : w.cell? ⟨c, 0, none⟩ = some (.int .u32 x)) (hclt : c < w.heap.size) :
    SeqStopsK Fence.wide n Tryz.prog 198 #[.pointer (some ⟨c, 0, none⟩)] (fun k : Is.K13 => #[.int .i64 (k.1 : Int), fo k.1]) (KpC c)
      (fun xs => xs.map (·.1) = (Is.stL (x % 128) 60).2) (fun pre => ∃ k, k ≤ 60 ∧ pre.map (·.1) = (Is.stL (x % 128) k).2) 60 w := by
  intro l J Jx W hW hJ hJx hY h0
  have HX := Lib.hid hx; clear hx
  have HJ := Lib.hid hJ; clear hJ
  have HY := Lib.hid hY; clear hY
  have hcW := (hW.cell (p := ⟨c, 0, none⟩) hclt).trans hcw
  refine callsIn_of_wp Tryz.func198 rfl trivial ?_ rfl
  simp only [Tryz.ntmps198, List.size_toArray, List.length_cons, List.length_nil, Nat.reduceAdd, Nat.reduceSub, Array.replicate_succ, Array.replicate_zero, List.push_toArray, List.append_toArray, List.nil_append, List.cons_append]
  gi_wp2_with fail
  refine ⟨trivial, (callsIn_wide.2 (forms_any _)).mono ?_⟩
  rintro e w1 ⟨r, rfl, hown, hb⟩
  have HO := Lib.hid hown; have HB := Lib.hid hb; clear hown hb
  gi_wp2_with fail
  refine ⟨trivial, (callsIn_wide.2 (table_any _)).mono ?_⟩
  rintro e w2 ⟨rfl, hb2⟩
  have hown2 := own_old HO.out hb2
  have hcl : c < W.heap.size := by have := hW.size; omega
  have hc2 := (hb2.cell (p := ⟨c, 0, none⟩) (by have := HB.out.size; simp; omega)).trans ((HB.out.cell (p := ⟨c, 0, none⟩) hcl).trans hcW)
  have hj2 : J [] w2 := abides_below HJ.out (abides_below HJ.out h0 HB.out) hb2
  have HO2 := Lib.hid hown2; have HC2 := Lib.hid hc2; have HJ2 := Lib.hid hj2
  clear hown2 hc2 hj2 hb2 HO HB hcW h0 hcw
  gi_wp2_with fail
  gi_loopw [4, 9] (fun ll i wr => ∃ (k : Nat) (pre : List Is.K13), k ≤ 60 ∧ i = .int .i64 (k : Int) ∧ ll = .int .i64 ((Is.stL (x % 128) k).1 : Int) ∧ pre.map (·.1) = (Is.stL (x % 128) k).2 ∧ J pre wr ∧ wr.ownsMap Tryz.prog 164 asHeld r 13 FD ∧ wr.cell? ⟨c, 0, none⟩ = some (.int .u32 x))
    (fun _ i _ => 60 - (intOf i).toNat)
  case atStart => exact ⟨0, [], by omega, rfl, rfl, rfl, HJ2.out, HO2.out, HC2.out⟩
  case round =>
    obtain ⟨k, pre, hk, rfl, rfl, hpre, hJs, hown, hc⟩ := hrel
    clear HO2 HC2 HJ2
    by_cases hlt : k < 60
    · have hi : ∀ w : World, (Instr.index 173 (.agg TB) (.int .i64 (k : Int))).run Tryz.prog w = .ok (.agg #[.string ⟨(Is.nm k).toArray⟩, .int .i64 (Is.fm k : Int), .int .u32 (Is.wd k)]) w := fun w => index_row k hlt w
      have HP := Lib.hid hpre; have HJS := Lib.hid hJs; have HOW := Lib.hid hown; have HC := Lib.hid hc; clear hpre hJs hown hc
      have hkp : wr.heap.size < (wr.alloc (Obj.cells #[.string ⟨(Is.nm k).toArray⟩, .int .i64 (Is.fm k : Int), .int .u32 (Is.wd k)] 172)).heap.size := by simp
      by_cases hq : Is.fm k = (Is.stL (x % 128) k).1
      · have hq2 : (Is.fm k : Int) = ((Is.stL (x % 128) k).1 : Int) := by rw [hq]
        have HQ := Lib.hid hq; have HQ2 := Lib.hid hq2; clear hq hq2
        gi_wp2_with fail
        refine wpIn_wide.2 ?_
        refine Og.region3 (by kernel_rfl) (fun t => if 12 ≤ t ∧ t ≤ 23 then some (t - 12) else none) [.is (.pointer (some ⟨wr.heap.size, 1, none⟩)), .is (.int .i64 (Is.fm k : Int)), .is (.int .i64 ((Is.stL (x % 128) k).1 : Int)), .is (.bool true), .is (.bool true), .is (undef), .is (undef), .is (undef), .is (undef), .is (undef), .is (undef), .is (.bool true)] [true, true, true, true, true, false, false, false, false, false, false, true] (by kernel_rfl) ?_ ?_
        · refine ⟨?_, ?_, ?_, ?_, ?_, ?_, ?_, ?_, ?_, ?_, ?_, ?_, trivial⟩
          · refine ⟨rfl, fun ρ w1 hr hd => ?_⟩
            obtain ⟨d0, _⟩ := hd
            have d0 : ρ (.tmp 6) = .pointer (some ⟨wr.heap.size, 0, none⟩) := d0
            refine (if_pos (by rfl)).mpr ?_
            refine Og.gives_is (.pointer (some ⟨wr.heap.size, 1, none⟩)) ?_ (And.intro (Below.refl _ _) rfl)
            go_simp
          · refine ⟨rfl, fun ρ w1 hr hd => ?_⟩
            obtain ⟨d0, _⟩ := hd
            have d0 : ρ (.tmp 12) = .pointer (some ⟨wr.heap.size, 1, none⟩) := d0
            have hc : w1.cell? ⟨wr.heap.size, 1, none⟩ = some (.int .i64 (Is.fm k : Int)) := (hr.cell (p := ⟨wr.heap.size, 1, none⟩) hkp).trans (by go_simp)
            refine (if_pos (by rfl)).mpr ?_
            refine Og.gives_is (.int .i64 (Is.fm k : Int)) ?_ (And.intro (Below.refl _ _) rfl)
            go_simp
          · refine ⟨rfl, fun ρ w1 hr hd => ?_⟩
            obtain ⟨d0, _⟩ := hd
            have d0 : ρ (.tmp 4) = .int .i64 ((Is.stL (x % 128) k).1 : Int) := d0
            refine (if_pos (by rfl)).mpr ?_
            refine Og.gives_is (.int .i64 ((Is.stL (x % 128) k).1 : Int)) ?_ (And.intro (Below.refl _ _) rfl)
            go_simp
          · refine ⟨rfl, fun ρ w1 hr hd => ?_⟩
            obtain ⟨d0, d1, _⟩ := hd
            have d0 : ρ (.tmp 13) = .int .i64 (Is.fm k : Int) := d0
            have d1 : ρ (.tmp 14) = .int .i64 ((Is.stL (x % 128) k).1 : Int) := d1
            refine (if_pos (by rfl)).mpr ?_
            refine Og.gives_is (.bool true) ?_ (And.intro (Below.refl _ _) rfl)
            simp only [execOp, d0, d1]; go_simp; simp [HQ2.out]
          · refine ⟨rfl, fun ρ w1 hr hd => ?_⟩
            obtain ⟨d0, _⟩ := hd
            have d0 : ρ (.tmp 15) = .bool true := d0
            refine (if_pos (by rfl)).mpr ?_
            refine Og.gives_is (.bool true) ?_ (And.intro (Below.refl _ _) rfl)
            go_simp
          · refine ⟨fun v w hv => by (have hv' : v = .bool true := hv); subst hv'; exact (if_neg (by exact Bool.false_ne_true)).mpr (fun h => by cases h), fun ρ w1 hr hd => ?_⟩
            exact (if_neg (by exact Bool.false_ne_true)).mpr (rfl : undef = undef)
          · refine ⟨fun v w hv => by (have hv' : v = .bool true := hv); subst hv'; exact (if_neg (by exact Bool.false_ne_true)).mpr (fun h => by cases h), fun ρ w1 hr hd => ?_⟩
            exact (if_neg (by exact Bool.false_ne_true)).mpr (rfl : undef = undef)
          · refine ⟨fun v w hv => by (have hv' : v = .bool true := hv); subst hv'; exact (if_neg (by exact Bool.false_ne_true)).mpr (fun h => by cases h), fun ρ w1 hr hd => ?_⟩
            exact (if_neg (by exact Bool.false_ne_true)).mpr (rfl : undef = undef)
          · refine ⟨fun v w hv => by (have hv' : v = .bool true := hv); subst hv'; exact (if_neg (by exact Bool.false_ne_true)).mpr (fun h => by cases h), fun ρ w1 hr hd => ?_⟩
            exact (if_neg (by exact Bool.false_ne_true)).mpr (rfl : undef = undef)
          · refine ⟨fun v w hv => by (have hv' : v = .bool true := hv); subst hv'; exact (if_neg (by exact Bool.false_ne_true)).mpr (fun h => by cases h), fun ρ w1 hr hd => ?_⟩
            exact (if_neg (by exact Bool.false_ne_true)).mpr (rfl : undef = undef)
          · refine ⟨fun v w hv => by (have hv' : v = .bool true := hv); subst hv'; exact (if_neg (by exact Bool.false_ne_true)).mpr (fun h => by cases h), fun ρ w1 hr hd => ?_⟩
            exact (if_neg (by exact Bool.false_ne_true)).mpr (rfl : undef = undef)
          · refine ⟨rfl, fun ρ w1 hr hd => ?_⟩
            obtain ⟨d0, d1, d2, _⟩ := hd
            have d0 : ρ (.tmp 16) = .bool true := d0
            have d1 : ρ (.const (.bool true)) = .bool true := d1
            have d2 : ρ (.tmp 22) = undef := d2
            refine (if_pos (by rfl)).mpr ?_
            refine Og.gives_is (.bool true) ?_ (And.intro (Below.refl _ _) rfl)
            go_simp
        · intro vs we hbz hall
          have v0 : vs 0 = .pointer (some ⟨wr.heap.size, 1, none⟩) := hall 0 _ 12 rfl rfl
          have v1 : vs 1 = .int .i64 (Is.fm k : Int) := hall 1 _ 13 rfl rfl
          have v2 : vs 2 = .int .i64 ((Is.stL (x % 128) k).1 : Int) := hall 2 _ 14 rfl rfl
          have v3 : vs 3 = .bool true := hall 3 _ 15 rfl rfl
          have v4 : vs 4 = .bool true := hall 4 _ 16 rfl rfl
          have v5 : vs 5 = undef := hall 5 _ 17 rfl rfl
          have v6 : vs 6 = undef := hall 6 _ 18 rfl rfl
          have v7 : vs 7 = undef := hall 7 _ 19 rfl rfl
          have v8 : vs 8 = undef := hall 8 _ 20 rfl rfl
          have v9 : vs 9 = undef := hall 9 _ 21 rfl rfl
          have v10 : vs 10 = undef := hall 10 _ 22 rfl rfl
          have v11 : vs 11 = .bool true := hall 11 _ 23 rfl rfl
          simp only [Og.putAll, Act.put, List.setIfInBounds_toArray, List.set_cons_zero, List.set_cons_succ, Nat.zero_add, Nat.reduceAdd, v0, v1, v2, v3, v4, v5, v6, v7, v8, v9, v10, v11]
          clear v0 v1 v2 v3 v4 v5 v6 v7 v8 v9 v10 v11 hall
          have hbw : Below wr.heap.size wr we := ((Below.refl wr.heap.size wr).alloc (Nat.le_refl _) _).trans (hbz.mono (by simp))
          have HBW := Lib.hid hbw; clear hbw hbz
          gi_wp2_with fail
          go_roundw
          case rel => exact ⟨k + 1, pre, by omega, by go_num, by rw [Is.stL_skip (.inl HQ.out)], by rw [Is.stL_skip (.inl HQ.out)]; exact HP.out, abides_below HJ.out HJS.out HBW.out, own_old HOW.out HBW.out, (HBW.out.cell (p := ⟨c, 0, none⟩) (World.block_lt_of_cell? wr ⟨c, 0, none⟩ HC.out)).trans HC.out⟩
          case measure => simp [intOf]; omega
      · have hq2 : ¬ (Is.fm k : Int) = ((Is.stL (x % 128) k).1 : Int) := by omega
        have HQ := Lib.hid hq; have HQ2 := Lib.hid hq2; clear hq hq2
        by_cases ho : Is.wd k % 128 = x % 128
        · have HOP := Lib.hid ho; clear ho
          gi_wp2_with fail
          refine wpIn_wide.2 ?_
          refine Og.region3 (by kernel_rfl) (fun t => if 12 ≤ t ∧ t ≤ 23 then some (t - 12) else none) [.is (.pointer (some ⟨wr.heap.size, 1, none⟩)), .is (.int .i64 (Is.fm k : Int)), .is (.int .i64 ((Is.stL (x % 128) k).1 : Int)), .is (.bool false), .is (.bool false), .is (.pointer (some ⟨wr.heap.size, 2, none⟩)), .is (.int .u32 (Is.wd k)), .is (.int .u32 (Is.wd k % 128)), .is (.int .u32 x), .is (.int .u32 (x % 128)), .is (.bool false), .is (.bool false)] [true, true, true, true, true, true, true, true, true, true, true, true] (by kernel_rfl) ?_ ?_
          · refine ⟨?_, ?_, ?_, ?_, ?_, ?_, ?_, ?_, ?_, ?_, ?_, ?_, trivial⟩
            · refine ⟨rfl, fun ρ w1 hr hd => ?_⟩
              obtain ⟨d0, _⟩ := hd
              have d0 : ρ (.tmp 6) = .pointer (some ⟨wr.heap.size, 0, none⟩) := d0
              refine (if_pos (by rfl)).mpr ?_
              refine Og.gives_is (.pointer (some ⟨wr.heap.size, 1, none⟩)) ?_ (And.intro (Below.refl _ _) rfl)
              go_simp
            · refine ⟨rfl, fun ρ w1 hr hd => ?_⟩
              obtain ⟨d0, _⟩ := hd
              have d0 : ρ (.tmp 12) = .pointer (some ⟨wr.heap.size, 1, none⟩) := d0
              have hc : w1.cell? ⟨wr.heap.size, 1, none⟩ = some (.int .i64 (Is.fm k : Int)) := (hr.cell (p := ⟨wr.heap.size, 1, none⟩) hkp).trans (by go_simp)
              refine (if_pos (by rfl)).mpr ?_
              refine Og.gives_is (.int .i64 (Is.fm k : Int)) ?_ (And.intro (Below.refl _ _) rfl)
              go_simp
            · refine ⟨rfl, fun ρ w1 hr hd => ?_⟩
              obtain ⟨d0, _⟩ := hd
              have d0 : ρ (.tmp 4) = .int .i64 ((Is.stL (x % 128) k).1 : Int) := d0
              refine (if_pos (by rfl)).mpr ?_
              refine Og.gives_is (.int .i64 ((Is.stL (x % 128) k).1 : Int)) ?_ (And.intro (Below.refl _ _) rfl)
              go_simp
            · refine ⟨rfl, fun ρ w1 hr hd => ?_⟩
              obtain ⟨d0, d1, _⟩ := hd
              have d0 : ρ (.tmp 13) = .int .i64 (Is.fm k : Int) := d0
              have d1 : ρ (.tmp 14) = .int .i64 ((Is.stL (x % 128) k).1 : Int) := d1
              refine (if_pos (by rfl)).mpr ?_
              refine Og.gives_is (.bool false) ?_ (And.intro (Below.refl _ _) rfl)
              simp only [execOp, d0, d1]; go_simp; simp [HQ2.out]
            · refine ⟨rfl, fun ρ w1 hr hd => ?_⟩
              obtain ⟨d0, _⟩ := hd
              have d0 : ρ (.tmp 15) = .bool false := d0
              refine (if_pos (by rfl)).mpr ?_
              refine Og.gives_is (.bool false) ?_ (And.intro (Below.refl _ _) rfl)
              go_simp
            · refine ⟨fun v w hv => by (have hv' : v = .bool false := hv); subst hv'; exact (if_pos (by rfl)).mpr rfl, fun ρ w1 hr hd => ?_⟩
              obtain ⟨d0, _⟩ := hd
              have d0 : ρ (.tmp 6) = .pointer (some ⟨wr.heap.size, 0, none⟩) := d0
              refine (if_pos (by rfl)).mpr ?_
              refine Og.gives_is (.pointer (some ⟨wr.heap.size, 2, none⟩)) ?_ (And.intro (Below.refl _ _) rfl)
              go_simp
            · refine ⟨fun v w hv => by (have hv' : v = .bool false := hv); subst hv'; exact (if_pos (by rfl)).mpr rfl, fun ρ w1 hr hd => ?_⟩
              obtain ⟨d0, _⟩ := hd
              have d0 : ρ (.tmp 17) = .pointer (some ⟨wr.heap.size, 2, none⟩) := d0
              have hc : w1.cell? ⟨wr.heap.size, 2, none⟩ = some (.int .u32 (Is.wd k)) := (hr.cell (p := ⟨wr.heap.size, 2, none⟩) hkp).trans (by go_simp)
              refine (if_pos (by rfl)).mpr ?_
              refine Og.gives_is (.int .u32 (Is.wd k)) ?_ (And.intro (Below.refl _ _) rfl)
              go_simp
            · refine ⟨fun v w hv => by (have hv' : v = .bool false := hv); subst hv'; exact (if_pos (by rfl)).mpr rfl, fun ρ w1 hr hd => ?_⟩
              obtain ⟨d0, d1, _⟩ := hd
              have d0 : ρ (.func 200) = .func (.func 200) #[] #[] := d0
              have d1 : ρ (.tmp 18) = .int .u32 (Is.wd k) := d1
              refine (if_pos (by rfl)).mpr ?_
              refine Og.gives_call 200 #[.int .u32 (Is.wd k)] ?_ ?_
              · go_simp
              · refine (opcodeOf_any (Is.wd k) w1 (Is.wd_ok k hlt)).mono ?_
                rintro e w3 ⟨rfl, rfl⟩
                exact ⟨_, rfl, (Below.refl _ _).alloc (Nat.le_refl _) _, rfl⟩
            · refine ⟨fun v w hv => by (have hv' : v = .bool false := hv); subst hv'; exact (if_pos (by rfl)).mpr rfl, fun ρ w1 hr hd => ?_⟩
              obtain ⟨d0, _⟩ := hd
              have d0 : ρ (.tmp 1) = .pointer (some ⟨c, 0, none⟩) := d0
              have hc : w1.cell? ⟨c, 0, none⟩ = some (.int .u32 x) := (hr.cell (p := ⟨c, 0, none⟩) (by have := World.block_lt_of_cell? wr ⟨c, 0, none⟩ HC.out; simp at this ⊢; omega)).trans ((Below.cell ((Below.refl wr.heap.size wr).alloc (Nat.le_refl _) _) (p := ⟨c, 0, none⟩) (World.block_lt_of_cell? wr ⟨c, 0, none⟩ HC.out)).trans HC.out)
              refine (if_pos (by rfl)).mpr ?_
              refine Og.gives_is (.int .u32 x) ?_ (And.intro (Below.refl _ _) rfl)
              go_simp
            · refine ⟨fun v w hv => by (have hv' : v = .bool false := hv); subst hv'; exact (if_pos (by rfl)).mpr rfl, fun ρ w1 hr hd => ?_⟩
              obtain ⟨d0, d1, _⟩ := hd
              have d0 : ρ (.func 200) = .func (.func 200) #[] #[] := d0
              have d1 : ρ (.tmp 20) = .int .u32 x := d1
              refine (if_pos (by rfl)).mpr ?_
              refine Og.gives_call 200 #[.int .u32 x] ?_ ?_
              · go_simp
              · refine (opcodeOf_any (x) w1 HX.out).mono ?_
                rintro e w3 ⟨rfl, rfl⟩
                exact ⟨_, rfl, (Below.refl _ _).alloc (Nat.le_refl _) _, rfl⟩
            · refine ⟨fun v w hv => by (have hv' : v = .bool false := hv); subst hv'; exact (if_pos (by rfl)).mpr rfl, fun ρ w1 hr hd => ?_⟩
              obtain ⟨d0, d1, _⟩ := hd
              have d0 : ρ (.tmp 19) = .int .u32 (Is.wd k % 128) := d0
              have d1 : ρ (.tmp 21) = .int .u32 (x % 128) := d1
              refine (if_pos (by rfl)).mpr ?_
              refine Og.gives_is (.bool false) ?_ (And.intro (Below.refl _ _) rfl)
              simp only [execOp, d0, d1]; go_simp; simp [HOP.out]
            · refine ⟨rfl, fun ρ w1 hr hd => ?_⟩
              obtain ⟨d0, d1, d2, _⟩ := hd
              have d0 : ρ (.tmp 16) = .bool false := d0
              have d1 : ρ (.const (.bool true)) = .bool true := d1
              have d2 : ρ (.tmp 22) = .bool false := d2
              refine (if_pos (by rfl)).mpr ?_
              refine Og.gives_is (.bool false) ?_ (And.intro (Below.refl _ _) rfl)
              go_simp
          · intro vs we hbz hall
            have v0 : vs 0 = .pointer (some ⟨wr.heap.size, 1, none⟩) := hall 0 _ 12 rfl rfl
            have v1 : vs 1 = .int .i64 (Is.fm k : Int) := hall 1 _ 13 rfl rfl
            have v2 : vs 2 = .int .i64 ((Is.stL (x % 128) k).1 : Int) := hall 2 _ 14 rfl rfl
            have v3 : vs 3 = .bool false := hall 3 _ 15 rfl rfl
            have v4 : vs 4 = .bool false := hall 4 _ 16 rfl rfl
            have v5 : vs 5 = .pointer (some ⟨wr.heap.size, 2, none⟩) := hall 5 _ 17 rfl rfl
            have v6 : vs 6 = .int .u32 (Is.wd k) := hall 6 _ 18 rfl rfl
            have v7 : vs 7 = .int .u32 (Is.wd k % 128) := hall 7 _ 19 rfl rfl
            have v8 : vs 8 = .int .u32 x := hall 8 _ 20 rfl rfl
            have v9 : vs 9 = .int .u32 (x % 128) := hall 9 _ 21 rfl rfl
            have v10 : vs 10 = .bool false := hall 10 _ 22 rfl rfl
            have v11 : vs 11 = .bool false := hall 11 _ 23 rfl rfl
            simp only [Og.putAll, Act.put, List.setIfInBounds_toArray, List.set_cons_zero, List.set_cons_succ, Nat.zero_add, Nat.reduceAdd, v0, v1, v2, v3, v4, v5, v6, v7, v8, v9, v10, v11]
            clear v0 v1 v2 v3 v4 v5 v6 v7 v8 v9 v10 v11 hall
            have hbw : Below wr.heap.size wr we := ((Below.refl wr.heap.size wr).alloc (Nat.le_refl _) _).trans (hbz.mono (by simp))
            have hrow1 : we.cell? ⟨wr.heap.size, 1, none⟩ = some (.int .i64 (Is.fm k : Int)) := (hbz.cell (p := ⟨wr.heap.size, 1, none⟩) hkp).trans (by go_simp)
            have HBW := Lib.hid hbw; clear hbw hbz
            have hfk : 1 ≤ Is.fm k ∧ Is.fm k ≤ 13 := by
              rcases Is.fm_ok k hlt with h0 | h0
              · subst h0; exact absurd rfl HQ.out
              · exact h0
            have HFK := Lib.hid hfk; clear hfk
            have howe := own_old HOW.out HBW.out
            have hlk := form_look (Is.fm k) HFK.out howe
            have hje := abides_below HJ.out HJS.out HBW.out
            have hle : pre.length < 60 := by
              have e1 := congrArg List.length HP.out
              rw [List.length_map] at e1
              have e2 := Is.stL_len (x % 128) k
              omega
            have hce := (HBW.out.cell (p := ⟨c, 0, none⟩) (World.block_lt_of_cell? wr ⟨c, 0, none⟩ HC.out)).trans HC.out
            obtain ⟨fn, tmps, assign, body, hy, hR⟩ := HY.out pre ⟨Is.fm k, HFK.out⟩ we hje hle
            dsimp only at hy
            have HOE := Lib.hid howe; have HCE := Lib.hid hce; clear howe hje hle hce
            gi_wp2_with fail
            refine hR.mono ?_
            rintro e W3 (⟨rfl, hJ3, hk3⟩ | ⟨rfl, hJx3⟩)
            · have HJ3 := Lib.hid hJ3; have HK3 := Lib.hid hk3; clear hJ3 hk3 hy hR hlk
              gi_wp2_with fail
              go_roundw
              case rel => exact ⟨k + 1, pre ++ [⟨Is.fm k, HFK.out⟩], by omega, by go_num, by rw [Is.stL_tell HQ.out HOP.out], by rw [Is.stL_tell HQ.out HOP.out, List.map_append, HP.out]; rfl, HJ3.out, own_walks HOE.out HK3.out.1, HK3.out.2.trans HCE.out⟩
              case measure => simp [intOf]; omega
            · have HJ3 := Lib.hid hJx3; clear hJx3 hy hR hlk
              gi_wp2_with fail
              refine bodyPost_ret (results_none rfl _ _ _) rfl ?_
              exact ⟨⟨_, rfl⟩, .inr ⟨pre ++ [⟨Is.fm k, HFK.out⟩], ⟨k + 1, by omega, by rw [Is.stL_tell HQ.out HOP.out, List.map_append, HP.out]; rfl⟩, HJ3.out⟩⟩
        · have HOP := Lib.hid ho; clear ho
          gi_wp2_with fail
          refine wpIn_wide.2 ?_
          refine Og.region3 (by kernel_rfl) (fun t => if 12 ≤ t ∧ t ≤ 23 then some (t - 12) else none) [.is (.pointer (some ⟨wr.heap.size, 1, none⟩)), .is (.int .i64 (Is.fm k : Int)), .is (.int .i64 ((Is.stL (x % 128) k).1 : Int)), .is (.bool false), .is (.bool false), .is (.pointer (some ⟨wr.heap.size, 2, none⟩)), .is (.int .u32 (Is.wd k)), .is (.int .u32 (Is.wd k % 128)), .is (.int .u32 x), .is (.int .u32 (x % 128)), .is (.bool true), .is (.bool true)] [true, true, true, true, true, true, true, true, true, true, true, true] (by kernel_rfl) ?_ ?_
          · refine ⟨?_, ?_, ?_, ?_, ?_, ?_, ?_, ?_, ?_, ?_, ?_, ?_, trivial⟩
            · refine ⟨rfl, fun ρ w1 hr hd => ?_⟩
              obtain ⟨d0, _⟩ := hd
              have d0 : ρ (.tmp 6) = .pointer (some ⟨wr.heap.size, 0, none⟩) := d0
              refine (if_pos (by rfl)).mpr ?_
              refine Og.gives_is (.pointer (some ⟨wr.heap.size, 1, none⟩)) ?_ (And.intro (Below.refl _ _) rfl)
              go_simp
            · refine ⟨rfl, fun ρ w1 hr hd => ?_⟩
              obtain ⟨d0, _⟩ := hd
              have d0 : ρ (.tmp 12) = .pointer (some ⟨wr.heap.size, 1, none⟩) := d0
              have hc : w1.cell? ⟨wr.heap.size, 1, none⟩ = some (.int .i64 (Is.fm k : Int)) := (hr.cell (p := ⟨wr.heap.size, 1, none⟩) hkp).trans (by go_simp)
              refine (if_pos (by rfl)).mpr ?_
              refine Og.gives_is (.int .i64 (Is.fm k : Int)) ?_ (And.intro (Below.refl _ _) rfl)
              go_simp
            · refine ⟨rfl, fun ρ w1 hr hd => ?_⟩
              obtain ⟨d0, _⟩ := hd
              have d0 : ρ (.tmp 4) = .int .i64 ((Is.stL (x % 128) k).1 : Int) := d0
              refine (if_pos (by rfl)).mpr ?_
              refine Og.gives_is (.int .i64 ((Is.stL (x % 128) k).1 : Int)) ?_ (And.intro (Below.refl _ _) rfl)
              go_simp
            · refine ⟨rfl, fun ρ w1 hr hd => ?_⟩
              obtain ⟨d0, d1, _⟩ := hd
              have d0 : ρ (.tmp 13) = .int .i64 (Is.fm k : Int) := d0
              have d1 : ρ (.tmp 14) = .int .i64 ((Is.stL (x % 128) k).1 : Int) := d1
              refine (if_pos (by rfl)).mpr ?_
              refine Og.gives_is (.bool false) ?_ (And.intro (Below.refl _ _) rfl)
              simp only [execOp, d0, d1]; go_simp; simp [HQ2.out]
            · refine ⟨rfl, fun ρ w1 hr hd => ?_⟩
              obtain ⟨d0, _⟩ := hd
              have d0 : ρ (.tmp 15) = .bool false := d0
              refine (if_pos (by rfl)).mpr ?_
              refine Og.gives_is (.bool false) ?_ (And.intro (Below.refl _ _) rfl)
              go_simp
            · refine ⟨fun v w hv => by (have hv' : v = .bool false := hv); subst hv'; exact (if_pos (by rfl)).mpr rfl, fun ρ w1 hr hd => ?_⟩
              obtain ⟨d0, _⟩ := hd
              have d0 : ρ (.tmp 6) = .pointer (some ⟨wr.heap.size, 0, none⟩) := d0
              refine (if_pos (by rfl)).mpr ?_
              refine Og.gives_is (.pointer (some ⟨wr.heap.size, 2, none⟩)) ?_ (And.intro (Below.refl _ _) rfl)
              go_simp
            · refine ⟨fun v w hv => by (have hv' : v = .bool false := hv); subst hv'; exact (if_pos (by rfl)).mpr rfl, fun ρ w1 hr hd => ?_⟩
              obtain ⟨d0, _⟩ := hd
              have d0 : ρ (.tmp 17) = .pointer (some ⟨wr.heap.size, 2, none⟩) := d0
              have hc : w1.cell? ⟨wr.heap.size, 2, none⟩ = some (.int .u32 (Is.wd k)) := (hr.cell (p := ⟨wr.heap.size, 2, none⟩) hkp).trans (by go_simp)
              refine (if_pos (by rfl)).mpr ?_
              refine Og.gives_is (.int .u32 (Is.wd k)) ?_ (And.intro (Below.refl _ _) rfl)
              go_simp
            · refine ⟨fun v w hv => by (have hv' : v = .bool false := hv); subst hv'; exact (if_pos (by rfl)).mpr rfl, fun ρ w1 hr hd => ?_⟩
              obtain ⟨d0, d1, _⟩ := hd
              have d0 : ρ (.func 200) = .func (.func 200) #[] #[] := d0
              have d1 : ρ (.tmp 18) = .int .u32 (Is.wd k) := d1
              refine (if_pos (by rfl)).mpr ?_
              refine Og.gives_call 200 #[.int .u32 (Is.wd k)] ?_ ?_
              · go_simp
              · refine (opcodeOf_any (Is.wd k) w1 (Is.wd_ok k hlt)).mono ?_
                rintro e w3 ⟨rfl, rfl⟩
                exact ⟨_, rfl, (Below.refl _ _).alloc (Nat.le_refl _) _, rfl⟩
            · refine ⟨fun v w hv => by (have hv' : v = .bool false := hv); subst hv'; exact (if_pos (by rfl)).mpr rfl, fun ρ w1 hr hd => ?_⟩
              obtain ⟨d0, _⟩ := hd
              have d0 : ρ (.tmp 1) = .pointer (some ⟨c, 0, none⟩) := d0
              have hc : w1.cell? ⟨c, 0, none⟩ = some (.int .u32 x) := (hr.cell (p := ⟨c, 0, none⟩) (by have := World.block_lt_of_cell? wr ⟨c, 0, none⟩ HC.out; simp at this ⊢; omega)).trans ((Below.cell ((Below.refl wr.heap.size wr).alloc (Nat.le_refl _) _) (p := ⟨c, 0, none⟩) (World.block_lt_of_cell? wr ⟨c, 0, none⟩ HC.out)).trans HC.out)
              refine (if_pos (by rfl)).mpr ?_
              refine Og.gives_is (.int .u32 x) ?_ (And.intro (Below.refl _ _) rfl)
              go_simp
            · refine ⟨fun v w hv => by (have hv' : v = .bool false := hv); subst hv'; exact (if_pos (by rfl)).mpr rfl, fun ρ w1 hr hd => ?_⟩
              obtain ⟨d0, d1, _⟩ := hd
              have d0 : ρ (.func 200) = .func (.func 200) #[] #[] := d0
              have d1 : ρ (.tmp 20) = .int .u32 x := d1
              refine (if_pos (by rfl)).mpr ?_
              refine Og.gives_call 200 #[.int .u32 x] ?_ ?_
              · go_simp
              · refine (opcodeOf_any (x) w1 HX.out).mono ?_
                rintro e w3 ⟨rfl, rfl⟩
                exact ⟨_, rfl, (Below.refl _ _).alloc (Nat.le_refl _) _, rfl⟩
            · refine ⟨fun v w hv => by (have hv' : v = .bool false := hv); subst hv'; exact (if_pos (by rfl)).mpr rfl, fun ρ w1 hr hd => ?_⟩
              obtain ⟨d0, d1, _⟩ := hd
              have d0 : ρ (.tmp 19) = .int .u32 (Is.wd k % 128) := d0
              have d1 : ρ (.tmp 21) = .int .u32 (x % 128) := d1
              refine (if_pos (by rfl)).mpr ?_
              refine Og.gives_is (.bool true) ?_ (And.intro (Below.refl _ _) rfl)
              simp only [execOp, d0, d1]; go_simp; simp [HOP.out]
            · refine ⟨rfl, fun ρ w1 hr hd => ?_⟩
              obtain ⟨d0, d1, d2, _⟩ := hd
              have d0 : ρ (.tmp 16) = .bool false := d0
              have d1 : ρ (.const (.bool true)) = .bool true := d1
              have d2 : ρ (.tmp 22) = .bool true := d2
              refine (if_pos (by rfl)).mpr ?_
              refine Og.gives_is (.bool true) ?_ (And.intro (Below.refl _ _) rfl)
              go_simp
          · intro vs we hbz hall
            have v0 : vs 0 = .pointer (some ⟨wr.heap.size, 1, none⟩) := hall 0 _ 12 rfl rfl
            have v1 : vs 1 = .int .i64 (Is.fm k : Int) := hall 1 _ 13 rfl rfl
            have v2 : vs 2 = .int .i64 ((Is.stL (x % 128) k).1 : Int) := hall 2 _ 14 rfl rfl
            have v3 : vs 3 = .bool false := hall 3 _ 15 rfl rfl
            have v4 : vs 4 = .bool false := hall 4 _ 16 rfl rfl
            have v5 : vs 5 = .pointer (some ⟨wr.heap.size, 2, none⟩) := hall 5 _ 17 rfl rfl
            have v6 : vs 6 = .int .u32 (Is.wd k) := hall 6 _ 18 rfl rfl
            have v7 : vs 7 = .int .u32 (Is.wd k % 128) := hall 7 _ 19 rfl rfl
            have v8 : vs 8 = .int .u32 x := hall 8 _ 20 rfl rfl
            have v9 : vs 9 = .int .u32 (x % 128) := hall 9 _ 21 rfl rfl
            have v10 : vs 10 = .bool true := hall 10 _ 22 rfl rfl
            have v11 : vs 11 = .bool true := hall 11 _ 23 rfl rfl
            simp only [Og.putAll, Act.put, List.setIfInBounds_toArray, List.set_cons_zero, List.set_cons_succ, Nat.zero_add, Nat.reduceAdd, v0, v1, v2, v3, v4, v5, v6, v7, v8, v9, v10, v11]
            clear v0 v1 v2 v3 v4 v5 v6 v7 v8 v9 v10 v11 hall
            have hbw : Below wr.heap.size wr we := ((Below.refl wr.heap.size wr).alloc (Nat.le_refl _) _).trans (hbz.mono (by simp))
            have HBW := Lib.hid hbw; clear hbw hbz
            gi_wp2_with fail
            go_roundw
            case rel => exact ⟨k + 1, pre, by omega, by go_num, by rw [Is.stL_skip (.inr HOP.out)], by rw [Is.stL_skip (.inr HOP.out)]; exact HP.out, abides_below HJ.out HJS.out HBW.out, own_old HOW.out HBW.out, (HBW.out.cell (p := ⟨c, 0, none⟩) (World.block_lt_of_cell? wr ⟨c, 0, none⟩ HC.out)).trans HC.out⟩
            case measure => simp [intOf]; omega
    · obtain rfl : k = 60 := by omega
      gi_wp2_with fail
      go_end0
      exact ⟨⟨_, rfl⟩, .inl ⟨pre, hpre, hJs⟩⟩
end Go.Proofs.YtianojbdabeoeaaGreatDoor
