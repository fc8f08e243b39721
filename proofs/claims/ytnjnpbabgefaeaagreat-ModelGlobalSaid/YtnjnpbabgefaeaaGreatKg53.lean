import Derived.Test.YtnjnpbabgefaeaaGreatKg52
set_option linter.unusedVariables false
set_option linter.unusedSimpArgs false

section
namespace Go.Proofs.YtnjnpbabgefaeaaGreat
open Go.RowKit
namespace Md
open Ev
def lenV : Value → Nat
  | .slice _ n _ => n
  | _ => 0
def GlR (x : X) (w : World) (e : Ending) (w' : World) : Prop := Below w.heap.size w w' ∧
  ((globalO x = none ∧ e = .returned (.tuple #[.slice none 0 0, .bool false])) ∨ ∃ l a c, globalO x = some l ∧ l.length ≤ 64 ∧ e = .returned (.tuple #[.slice a l.length c, .bool true]) ∧ IntsIn w' ⟨a, c, cI l⟩)
theorem GlR.no {x : X} {w w' : World} {e : Ending} (hb : Below w.heap.size w w') (h : globalO x = none) (he : e = .returned (.tuple #[.slice none 0 0, .bool false])) : GlR x w e w' := ⟨hb, .inl ⟨h, he⟩⟩
theorem GlR.yes {x : X} {w w' : World} {e : Ending} (hb : Below w.heap.size w w') (l : List Nat) (a : Option Addr) (c : Nat) (h : globalO x = some l) (hl : l.length ≤ 64) (he : e = .returned (.tuple #[.slice a l.length c, .bool true])) (hi : IntsIn w' ⟨a, c, cI l⟩) : GlR x w e w' := ⟨hb, .inr ⟨l, a, c, h, hl, he, hi⟩⟩
theorem goG_some {x : X} {k n : Nat} {out : List Nat} (h : nextL x out = some n) : goG x (k + 1) out = goG x k (out ++ [n]) := by
  show (match nextL x out with | none => none | some n => goG x k (out ++ [n])) = _
  rw [h]
theorem goG_none {x : X} {k : Nat} {out : List Nat} (h : nextL x out = none) : goG x (k + 1) out = none := by
  show (match nextL x out with | none => none | some n => goG x k (out ++ [n])) = _
  rw [h]
theorem free_any {x : X} {out : List Nat} {m : Nat} {S : List (Nat × Nat)} (hS : ∀ p, p ∈ S ↔ p ∈ pl (isG6 x) x.ev.length x.ev.length) (hm : m < x.ev.length) : freeL x out m = !((leftL x out).any fun o => decide ((o, m) ∈ S)) := by
  unfold freeL
  rw [Bool.eq_iff_iff]
  simp only [List.all_eq_true, Bool.not_eq_true', List.any_eq_false, decide_eq_true_eq]
  constructor
  · intro h o ho hin
    have h1 := h o ho
    have h2 := (mem_pl.1 ((hS _).1 hin)).2.2
    rw [h2] at h1; cases h1
  · intro h o ho
    cases hg : isG6 x o m
    · rfl
    · exact absurd ((hS _).2 (mem_pl.2 ⟨(left_mem.1 ho).1.1, hm, hg⟩)) (h o ho)
theorem more_no {x : X} {out : List Nat} {k m : Nat} (h : ∀ j n : Nat, j < k → (leftL x out)[j]? = some n → freeL x out n = false) (hm : (leftL x out)[k]? = some m) (hf : freeL x out m = false) : ∀ j n : Nat, j < k + 1 → (leftL x out)[j]? = some n → freeL x out n = false := by
  intro j n hj hn
  rcases Nat.lt_or_eq_of_le (Nat.le_of_lt_succ hj) with h1 | h1
  · exact h j n h1 hn
  · subst h1
    rw [hm] at hn
    obtain rfl := Option.some.inj hn
    exact hf
end Md
set_option maxRecDepth 100000 in
set_option maxHeartbeats 8000000 in
theorem firstOrder_any (x : Ev.X) (q : Nat) (hc : Ev.check x = 0) (w : World) (hj : Md.JIn w q x) :
    Calls Tryz.prog 46 #[.pointer (some ⟨q, 0, none⟩)] w (Md.GlR x w) := by
  have HN := Lib.hid (show x.ev.length ≤ 64 from (Ev.check_order hc).2.2)
  have HPL := Lib.hid (show (Md.placedL x).length ≤ 64 from Nat.le_trans (Md.placed_len x) HN.out)
  have HP1 := Lib.hid (arrowsInOrder_any x q hc w hj)
  have HJ := Lib.hid hj
  obtain ⟨i0, hi, hz0, hz1, hz2⟩ := info_int
  have HI := Lib.hid hi; have HZ0 := Lib.hid hz0; have HZ1 := Lib.hid hz1; have HZ2 := Lib.hid hz2
  clear hj hc hi hz0 hz1 hz2
  go_enter Tryz.func46, Tryz.ntmps46
  go_wp2_with fail
  go_step3
  go_wp2_with fail
  refine HP1.out.mono ?_
  rintro e W1 ⟨b, n, S, rfl, hps, hsl, hmem, hb⟩
  obtain ⟨cl, hcl⟩ : ∃ cl, cl = W1.heap.size := ⟨_, rfl⟩
  obtain ⟨U, hU⟩ : ∃ U, U = W1.alloc (.cells #[.map (some b)] 77) := ⟨_, rfl⟩
  have hbU : Below W1.heap.size W1 U := by rw [hU]; exact (Below.refl _ _).alloc (Nat.le_refl _) _
  have hr : U.heap[cl]? = some (.cells #[.map (some b)] 77 (0, 0)) := by rw [hU, hcl]; exact heap_alloc_new _ _
  have HRL := Lib.hid (show U.cell? ⟨cl, 0, none⟩ = some (.map (some b)) by rw [cell_of_row _ _ _ _ _ _ hr]; rfl)
  have HPS := Lib.hid (hps.kp hbU)
  have HMEM := Lib.hid hmem
  have BU := Lib.hid (hb.trans (hbU.mono hb.size))
  have HJU := Lib.hid ((HJ.out.kp hb).kp hbU)
  have HU := Lib.hid hU; have HCL := Lib.hid hcl
  clear hps hsl hmem hb hbU hr hU hcl
  go_wp2_with ((with_reducible show wpList _ _ _ (Oper.mk (some 13) _ _ _ _ _ :: _) _ _); rw [← HU.out, ← HCL.out])
  refine (placed_any x q U HJU.out HN.out).mono ?_
  rintro e W2 ⟨a, c, rfl, hrow, hb2⟩
  have HROW2 := Lib.hid hrow; have B2 := Lib.hid hb2
  clear hrow hb2
  go_wp2_with fail
  go_step3
  go_wp2_with fail
  go_loopw [5, 6, 7, 9] (fun v t _ _ wr => ∃ out : List Nat, v = .slice a (Md.leftL x out).length c ∧ Md.IntRow wr U.heap.size v (Md.leftL x out) ∧ Md.IntRow wr U.heap.size t out ∧ Md.Apt t v ∧ Below U.heap.size U wr ∧ Md.globalO x = Md.goG x (Md.leftL x out).length out ∧ (∀ m ∈ out, m < 64) ∧ out.length + (Md.leftL x out).length ≤ 64) (fun v _ _ _ _ => Md.lenV v)
  case atStart =>
    refine ⟨[], by rw [Md.left_nil], by rw [Md.left_nil]; exact HROW2.out, World.ownsRow_nil _ _ _ _, .inl rfl, B2.out, by rw [Md.left_nil]; rfl, (fun m hm => by cases hm), by rw [Md.left_nil]; simpa using HPL.out⟩
  case round =>
    obtain ⟨out, rfl, hrow, hout, hapt, hbr, hgl, hlt, htot⟩ := hrel
    obtain ⟨wo, rfl⟩ : ∃ wo : World, wo = wr := ⟨_, rfl⟩
    obtain ⟨tv, rfl⟩ : ∃ tv : Value, tv = u6 := ⟨_, rfl⟩
    obtain ⟨L, hL⟩ : ∃ L, Md.leftL x out = L := ⟨_, rfl⟩
    rw [hL] at hrow hapt hgl htot ⊢
    have HL := Lib.hid hL; have HROW := Lib.hid hrow; have HOUT := Lib.hid hout; have HAPT := Lib.hid hapt; have HBR := Lib.hid hbr; have HGL := Lib.hid hgl; have HLT := Lib.hid hlt; have HTOT := Lib.hid htot
    have HLX := Lib.hid (show ∀ m ∈ L, m < x.ev.length by rw [← hL]; exact fun m hm => (Md.left_mem.1 hm).1.1)
    clear hL hrow hout hapt hbr hgl hlt
    have hL64 : L.length ≤ 64 := by omega
    by_cases hpos : 0 < L.length
    · obtain ⟨g, rfl, hg1, hg2⟩ := Md.row_addr HROW.out hpos
      have hposi : (0 : Int) < (L.length : Int) := by omega
      have HINT := Lib.hid (Md.IntRow.ints HROW.out (fun q hq => by have := HLX.out q hq; have := HN.out; omega))
      have HG1 := Lib.hid hg1; have HG2 := Lib.hid hg2
      clear hg1 hg2 htot
      go_wp2_with fail
      go_loopw [5, 6, 7, 9, 19] (fun v t _ _ i wr => v = .slice (some ⟨g, 0, none⟩) L.length c ∧ t = tv ∧ ∃ k : Nat, k ≤ L.length ∧ i = .int .i64 (k : Int) ∧ Below wo.heap.size wo wr ∧ (∀ j n : Nat, j < k → (Md.leftL x out)[j]? = some n → Md.freeL x out n = false)) (fun _ _ _ _ i _ => L.length - (intOf i).toNat)
      case atStart => exact ⟨rfl, rfl, 0, Nat.zero_le _, rfl, Below.refl _ _, fun j n hj => absurd hj (Nat.not_lt_zero _)⟩
      case round =>
        obtain ⟨rfl, rfl, k, hk, rfl, hbw, hno⟩ := hrel
        have HBW := Lib.hid hbw; have HNO := Lib.hid hno
        clear hbw hno
        by_cases hkl : k < L.length
        · obtain ⟨m, hm⟩ : ∃ m, L[k]? = some m := ⟨_, List.getElem?_eq_getElem hkl⟩
          have hci : (Md.cI L)[k]? = some (m : Int) := by unfold Md.cI; rw [List.getElem?_map, hm]; rfl
          obtain ⟨g', o', ea, hcm⟩ := (HINT.out.kp (Ev.kp_below HBW.out)).at_ hci
          have hki : (k : Int) < (L.length : Int) := by omega
          have hea : g = g' ∧ 0 = o' := by
            injection ea with e1
            injection e1 with e1 e2
            exact ⟨e1, e2⟩
          obtain ⟨rfl, rfl⟩ := hea
          clear ea
          have hck : wr.cell? ⟨g, k, none⟩ = some (.int .i64 (m : Int)) := by simpa using hcm
          have hmx := HLX.out m (List.mem_of_getElem? hm)
          have HMX := Lib.hid hmx
          have HM := Lib.hid (show (Md.leftL x out)[k]? = some m by rw [HL.out]; exact hm)
          obtain ⟨V, hV⟩ : ∃ V, V = wr.alloc (.cells #[.int .i64 (m : Int)] 3) := ⟨_, rfl⟩
          obtain ⟨cn, hcn⟩ : ∃ cn, cn = wr.heap.size := ⟨_, rfl⟩
          have hbV : Below wr.heap.size wr V := by rw [hV]; exact (Below.refl _ _).alloc (Nat.le_refl _) _
          have hrn : V.heap[cn]? = some (.cells #[.int .i64 (m : Int)] 3 (0, 0)) := by rw [hV, hcn]; exact heap_alloc_new _ _
          have HCN := Lib.hid (show V.cell? ⟨cn, 0, none⟩ = some (.int .i64 (m : Int)) by rw [cell_of_row _ _ _ _ _ _ hrn]; rfl)
          have BV := Lib.hid (HBW.out.trans (hbV.mono HBW.out.size))
          have HV := Lib.hid hV; have HCNE := Lib.hid hcn
          clear hci hcm hmx hm hV hcn hbV hrn
          go_wp2_with fail
          rw [← HV.out, ← HCNE.out]
          obtain ⟨bq, hbq⟩ : ∃ bq, (L.any fun o => decide ((o, m) ∈ S)) = bq := ⟨_, rfl⟩
          have HBQ := Lib.hid hbq
          have HPV := Lib.hid (HPS.out.kp (HBR.out.trans (BV.out.mono HBR.out.size)))
          have HRLV := Lib.hid (Ev.kp_below (HBR.out.trans (BV.out.mono HBR.out.size)) _ _ HRL.out)
          have KC := cfunc_any (some ⟨g, 0, none⟩) c L 68 #[.pointer (some ⟨cl, 0, none⟩), .pointer (some ⟨cn, 0, none⟩)] (fun o => decide ((o, m) ∈ S)) V (HINT.out.kp (Ev.kp_below BV.out)) (by have := HTOT.out; omega) (enters_of Tryz.func68 (by kernel_rfl) rfl)
            (fun W hW o ho => gleads_any b n S cl cn m o (by have := HLX.out o ho; have := HN.out; omega) (by have := HMX.out; have := HN.out; omega) W (HPV.out.kp hW) (Ev.kp_below hW _ _ HRLV.out) (Ev.kp_below hW _ _ HCN.out))
          rw [hbq] at KC
          refine KC.mono ?_
          clear KC hbq
          rintro e W3 ⟨rfl, hb3⟩
          have HCN3 := Lib.hid (Ev.kp_below hb3 _ _ HCN.out)
          have B3 := Lib.hid (BV.out.trans (hb3.mono BV.out.size))
          have HFR := Lib.hid (show Md.freeL x out m = !bq by rw [Md.free_any HMEM.out HMX.out, HL.out, HBQ.out])
          clear hb3
          cases bq
          case true =>
            have HNO2 := Lib.hid (Md.more_no HNO.out HM.out (by rw [HFR.out]; rfl))
            go_wp2_with fail
            go_roundw
            case rel => exact ⟨rfl, rfl, k + 1, by omega, by go_num, B3.out, HNO2.out⟩
            case measure => simp [intOf]; omega
          case false =>
            have HNX := Lib.hid (Md.next_at HM.out HNO.out (by rw [HFR.out]; rfl))
            have cn3 := HCN3.out
            have HOUT3 := Lib.hid (show Md.IntRow W3 U.heap.size u6 out from Ev.row_below HOUT.out B3.out)
            have HROW3 := Lib.hid (show Md.IntRow W3 U.heap.size (.slice (some ⟨g, 0, none⟩) L.length c) L from Ev.row_below HROW.out B3.out)
            have BU3 := Lib.hid (HBR.out.trans (B3.out.mono HBR.out.size))
            go_wp2_with ((with_reducible show wpList _ _ _ (Oper.mk (some 32) _ _ _ _ _ :: _) _ _); refine wpList_append_own_at _ rfl (.tmp 29) (.tmp 31) 23 rfl U.heap.size 3 i0 (.int .i64 0) 1 8 Tryz.underlying23 HI.out HZ0.out HZ1.out HZ2.out rfl (by decide) u6 _ _ rfl (HOUT3.out.alloc _) ⟨W3.heap.size, 0, none⟩ 1 1 [.int .i64 (m : Int)] rfl rfl (fun j u hu => World.news_of_block (heap_alloc_new W3 _) j u hu) (Md.one_int m) (by have := HTOT.out; unfold maxLen; omega) (by have := HTOT.out; omega) (by have := BU3.out.size; simp only [World.size_alloc]; omega) ?_
                         intro v4 W4 hown hgrow _ hat
                         have HO4 := Lib.hid (Md.fl_row hown); have HG4 := Lib.hid hgrow; have HA4 := Lib.hid hat; have B4 := Lib.hid (Below.grown (BU3.out.alloc BU3.out.size _) hgrow (by have := BU3.out.size; simp only [World.size_alloc]; omega) (fun k hk => Ev.own_ge HOUT3.out hk)); clear hown hgrow hat)
            have HR4 := Lib.hid (show Md.IntRow W4 U.heap.size (.slice (some ⟨g, 0, none⟩) L.length c) L from World.ownsRow.kept (HROW3.out.alloc _) HG4.out (Md.apt_symm HAPT.out))
            have HAP4 := Lib.hid (show Md.Apt v4 (.slice (some ⟨g, 0, none⟩) L.length c) from Md.apt_app HAPT.out HA4.out (HROW3.out.alloc _))
            refine (del_any L k g c U.heap.size W4 HR4.out hkl).mono ?_
            rintro e W5 ⟨rfl, hrow5, hg5, hge⟩
            have HLN := Lib.hid (show Md.leftL x (out ++ [m]) = L.take k ++ L.drop (k + 1) by rw [Md.left_next HM.out, HL.out])
            have HLE := Lib.hid (show L.length = (L.take k ++ L.drop (k + 1)).length + 1 by rw [← HLN.out, ← Md.left_next_len HM.out, HL.out])
            have HR5 := Lib.hid hrow5
            have HO5 := Lib.hid (show Md.IntRow W5 U.heap.size v4 (out ++ [m]) from World.ownsRow.kept HO4.out hg5 HAP4.out)
            have B5 := Lib.hid (Below.grown B4.out hg5 (by have := B4.out.size; omega) (fun k hk => by cases hk; exact hge))
            clear hrow5 hg5 hge cn3
            have HR6 := Lib.hid (show Md.IntRow W5 U.heap.size (.slice (some ⟨g, 0, none⟩) (Md.leftL x (out ++ [m])).length c) (Md.leftL x (out ++ [m])) by rw [HLN.out]; exact HR5.out)
            have HKL := Lib.hid (show k + (L.length - (k + 1)) = (Md.leftL x (out ++ [m])).length by have h1 := HLE.out; rw [← HLN.out] at h1; omega)
            have HGE := Lib.hid (show Md.globalO x = Md.goG x (Md.leftL x (out ++ [m])).length (out ++ [m]) by rw [HGL.out, HLE.out, ← HLN.out]; exact Md.goG_some HNX.out)
            have HTE := Lib.hid (show (out ++ [m]).length + (Md.leftL x (out ++ [m])).length ≤ 64 by have h1 := HLE.out; rw [← HLN.out] at h1; have := HTOT.out; rw [List.length_append]; simp; omega)
            have HLE2 := Lib.hid (show (Md.leftL x (out ++ [m])).length < L.length by have h1 := HLE.out; rw [← HLN.out] at h1; omega)
            have HLT2 := Lib.hid (Md.mem_snoc HLT.out (show m < 64 by have := HMX.out; have := HN.out; omega))
            go_wp2_with fail
            rw [HKL.out]
            exact ⟨⟨out ++ [m], rfl, HR6.out, HO5.out, HAP4.out, B5.out, HGE.out, HLT2.out, HTE.out⟩, HLE2.out⟩
        · have hke : k = L.length := by omega
          have hki : ¬ (k : Int) < (L.length : Int) := by omega
          have HNN := Lib.hid (show Md.globalO x = none by
            obtain ⟨j, hj⟩ : ∃ j, L.length = j + 1 := ⟨L.length - 1, by omega⟩
            rw [HGL.out, hj]
            exact Md.goG_none (Md.next_none fun j n hn => HNO.out j n (by rw [hke, ← HL.out]; exact (List.getElem?_eq_some_iff.1 hn).1) hn))
          have BE := Lib.hid (BU.out.trans ((HBR.out.trans (HBW.out.mono HBR.out.size)).mono BU.out.size))
          go_wp2_with fail
          go_ret2
          exact Md.GlR.no BE.out HNN.out rfl
    · have hl0 : L.length = 0 := by omega
      have hposi : ¬ (0 : Int) < (L.length : Int) := by omega
      have HE := Lib.hid (show Md.globalO x = some out by rw [HGL.out, hl0]; rfl)
      obtain ⟨at', ct', ht⟩ := Md.IntRow.form HOUT.out
      have hout := HOUT.out
      rw [ht] at hout
      have HIO := Lib.hid (Md.IntRow.ints hout (fun q hq => by have := HLT.out q hq; omega))
      have BE := Lib.hid (BU.out.trans (HBR.out.mono BU.out.size))
      subst ht
      clear hout
      go_wp2_with fail
      go_ret2
      exact Md.GlR.yes BE.out out at' ct' HE.out (by omega) rfl HIO.out
def Md.GloR (x : Ev.X) (w : World) (e : Ending) (w' : World) : Prop := (Ev.check x ≠ 0 ∧ e = .returned (.tuple #[.slice none 0 0, .bool false]) ∧ Below w.heap.size w w') ∨ (Ev.check x = 0 ∧ Md.GlR x w e w')
theorem Md.GloR.no {x : Ev.X} {w w' : World} {e : Ending} (hb : Below w.heap.size w w') (h : Ev.check x ≠ 0) (he : e = .returned (.tuple #[.slice none 0 0, .bool false])) : Md.GloR x w e w' := .inl ⟨h, he, hb⟩
theorem Md.GloR.none {x : Ev.X} {w w' : World} {e : Ending} (hc : Ev.check x = 0) (hb : Below w.heap.size w w') (h : Md.globalO x = .none) (he : e = .returned (.tuple #[.slice .none 0 0, .bool false])) : Md.GloR x w e w' := .inr ⟨hc, hb, .inl ⟨h, he⟩⟩
theorem Md.GloR.some {x : Ev.X} {w w' : World} {e : Ending} (hc : Ev.check x = 0) (hb : Below w.heap.size w w') (l : List Nat) (a : Option Addr) (c : Nat) (h : Md.globalO x = .some l) (hl : l.length ≤ 64) (he : e = .returned (.tuple #[.slice a l.length c, .bool true])) (hi : Ev.IntsIn w' ⟨a, c, Md.cI l⟩) : Md.GloR x w e w' := .inr ⟨hc, hb, .inr ⟨l, a, c, h, hl, he, hi⟩⟩
set_option maxRecDepth 100000 in
set_option maxHeartbeats 4000000 in
theorem global_any (x : Ev.X) (w : World) (hin : Ev.XIn w x) : Calls Tryz.prog 24 #[.agg (Ev.xcells x).toArray] w (Md.GloR x w) := by
  have HIN := Lib.hid hin; clear hin
  have R0 := Lib.hid (heap_alloc_new w (.cells (Ev.xcells x).toArray 26))
  have B0 := Lib.hid ((Below.refl w.heap.size w).alloc (Nat.le_refl _) (.cells (Ev.xcells x).toArray 26))
  have HB := Lib.hid (bring_any x _ (HIN.out.kp (Ev.kp_below B0.out)))
  go_enter Tryz.func24, Tryz.ntmps24
  go_wp2_with ((with_reducible show wpList _ _ _ (Oper.mk (some 7) _ _ _ _ _ :: _) _ _); refine wpList_load_row rfl 26 (.tmp 1) rfl w.heap.size (by kernel_rfl) 26 (Ev.xcells x).toArray (0, 0) _ R0.out Tryz.underlying26 rfl (by kernel_rfl) ?_)
  refine HB.out.mono ?_
  rintro e W1 ⟨hb, hr⟩
  have B1 := Lib.hid (B0.out.trans (hb.mono (by simp only [World.size_alloc]; omega))); clear hb HB
  rcases hr with ⟨hc, rfl⟩ | ⟨hc, q, rfl, hj⟩
  · obtain ⟨v, hv⟩ : ∃ v, Ev.check x = v := ⟨_, rfl⟩
    have HV := Lib.hid hv; have HC := Lib.hid hc
    rw [hv] at hc ⊢
    have tv : (v != 0) = true := by simpa using hc
    clear hv hc
    go_wp2
    go_ret2
    exact Md.GloR.no B1.out HC.out rfl
  · have HC := Lib.hid hc; have HJ := Lib.hid hj
    have HA := Lib.hid (firstOrder_any x q hc W1 hj)
    clear hc hj
    go_wp2_with fail
    refine HA.out.mono ?_
    rintro e W2 ⟨hb, (⟨hn, rfl⟩ | ⟨l, a, c, hs, hl, rfl, hi⟩)⟩
    · have B2 := Lib.hid (B1.out.trans (hb.mono B1.out.size)); have HN := Lib.hid hn
      clear hb hn HA
      go_wp2_with fail
      go_ret2
      exact Md.GloR.none HC.out B2.out HN.out rfl
    · have B2 := Lib.hid (B1.out.trans (hb.mono B1.out.size)); have HS := Lib.hid hs; have HL := Lib.hid hl; have HI := Lib.hid hi
      clear hb hs hl hi HA
      go_wp2_with fail
      go_ret2
      exact Md.GloR.some HC.out B2.out l a c HS.out HL.out rfl HI.out
end Go.Proofs.YtnjnpbabgefaeaaGreat
end
