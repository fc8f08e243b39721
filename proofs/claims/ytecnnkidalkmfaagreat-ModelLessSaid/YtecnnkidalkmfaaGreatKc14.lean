import Derived.Test.YtecnnkidalkmfaaGreatKc13
import Derived.Test.YtecnnkidalkmfaaGreatKc01
import Derived.WalkKit
set_option linter.unusedVariables false
set_option linter.unusedSimpArgs false

section
namespace Go.Proofs.YtecnnkidalkmfaaGreat
open Go.RowKit
attribute [local go_sem] or_store_func
attribute [local go_sem] Oper.semAt_some
namespace Or
theorem Box.putObj {w : World} {p D : Nat} {t : TypeId} {v : Value} (h : Box w p t v) (o : Obj) (hD : p < D) : Box (w.putObj D o) p t v := (World.putObj_heap_other (by omega)).trans h
theorem Box.setCell {w : World} {p r : Nat} {t : TypeId} {v u : Value} (h : Box w p t v) (hp : p ≠ r) : Box (w.setCell ⟨r, 0, none⟩ u) p t v := (heap_setCell_other w ⟨r, 0, none⟩ p u hp).trans h
theorem Box.set_ {w : World} {p : Nat} {t : TypeId} {v u : Value} (h : Box w p t v) : Box (w.setCell ⟨p, 0, none⟩ u) p t u := heap_setCell_same w p 0 _ _ u h
theorem Box.frozen {w : World} {p : Nat} {t : TypeId} {v : Value} (h : Box w p t v) : w.frozen? ⟨p, 0, none⟩ = false := frozen_of_row _ _ _ _ _ h
theorem Box.lt {w : World} {p : Nat} {t : TypeId} {v : Value} (h : Box w p t v) : p < w.heap.size := (Array.getElem?_eq_some_iff.1 h).1
theorem below_putObj {B D : Nat} {a w : World} {o : Obj} (h : Below B a w) (hD : B ≤ D) : Below B a (w.putObj D o) :=
  ⟨h.os, h.tape, h.output, Nat.le_trans h.size (by simp), fun k hk => (World.putObj_heap_other (by omega)).trans (h.block k hk)⟩
def Such (w : World) (n : Nat → Prop) (G : FuncId) (caps : Array Value) (p : Nat → Bool) : Prop :=
  ∀ m, n m → ∀ W, Below w.heap.size w W → Calls Tryz.prog G (#[.int .i64 (m : Int)] ++ caps) W fun r w' => r = .returned (.bool (p m)) ∧ Below W.heap.size W w'
structure Mid (w : World) (G : FuncId) (caps : Array Value) (a b : Nat) (q : Bool) (W : World) : Prop where
  bel : Below w.heap.size w W
  fn : Box W w.heap.size 102 (.func (.func G) #[] caps)
  there : Box W (w.heap.size + 1) 4 (.bool q)
  ba : Box W (w.heap.size + 2) 3 (.int .i64 (a : Int))
  bb : Box W (w.heap.size + 3) 3 (.int .i64 (b : Int))
theorem Mid.kp {w : World} {G : FuncId} {caps : Array Value} {a b : Nat} {q : Bool} {W W' : World} (h : Mid w G caps a b q W) (hb : Below W.heap.size W W') : Mid w G caps a b q W' :=
  ⟨h.bel.trans (hb.mono h.bel.size), h.fn.kp hb, h.there.kp hb, h.ba.kp hb, h.bb.kp hb⟩
theorem Mid.putObj {w : World} {G : FuncId} {caps : Array Value} {a b : Nat} {q : Bool} {W : World} {l : Nat} (h : Mid w G caps a b q W) (o : Obj) (hl : w.heap.size + 4 ≤ l) : Mid w G caps a b q (W.putObj l o) :=
  ⟨below_putObj h.bel (by omega), h.fn.putObj o (by omega), h.there.putObj o (by omega), h.ba.putObj o (by omega), h.bb.putObj o (by omega)⟩
theorem Mid.set_ {w : World} {G : FuncId} {caps : Array Value} {a b : Nat} {q : Bool} {W : World} (h : Mid w G caps a b q W) (q' : Bool) : Mid w G caps a b q' (W.setCell ⟨w.heap.size + 1, 0, none⟩ (.bool q')) :=
  ⟨h.bel.setCell (p := ⟨w.heap.size + 1, 0, none⟩) (by show w.heap.size ≤ w.heap.size + 1; omega) _, h.fn.setCell (by omega), h.there.set_, h.ba.setCell (by omega), h.bb.setCell (by omega)⟩
end Or
set_option maxRecDepth 100000 in
set_option maxHeartbeats 8000000 in
theorem some_any (q a b : Nat) (ha : a < 9223372036854775807) (hb : b ≤ 9223372036854775807) (G : FuncId) (caps : Array Value) (p : Nat → Bool) (w : World) (hE : ∀ args w, (callFunc G args).run Tryz.prog w = .ok (.enter G args) w) (hS : Or.Such w (fun m => a < m ∧ m < b) G caps p) :
    Calls Tryz.prog 151 #[.pointer (some ⟨q, 0, none⟩), .int .i64 (a : Int), .int .i64 (b : Int), .func (.func G) #[] caps] w fun r w' => r = .returned (.bool ((Or.ms a b).any p)) ∧ Below w.heap.size w w' := by
  have HS := Lib.hid hS
  have HEN := Lib.hid hE
  obtain ⟨W0, hW0⟩ : ∃ W0, (((w.alloc (.cells #[.func (.func G) #[] caps] 102)).alloc (.cells #[.bool false] 4)).alloc (.cells #[.int .i64 (a : Int)] 3)).alloc (.cells #[.int .i64 (b : Int)] 3) = W0 := ⟨_, rfl⟩
  have hsz : W0.heap.size = w.heap.size + 4 := by rw [← hW0]; simp
  have hM : Or.Mid w G caps a b false W0 := by
    have s1 := World.size_alloc w (.cells #[.func (.func G) #[] caps] 102)
    have s2 := World.size_alloc (w.alloc (.cells #[.func (.func G) #[] caps] 102)) (.cells #[.bool false] 4)
    have s3 := World.size_alloc ((w.alloc (.cells #[.func (.func G) #[] caps] 102)).alloc (.cells #[.bool false] 4)) (.cells #[.int .i64 (a : Int)] 3)
    have al : ∀ (x : World) (o : Obj), Below x.heap.size x (x.alloc o) := fun x o => (Below.refl _ _).alloc (Nat.le_refl _) _
    refine ⟨by rw [← hW0]; exact ((((Below.refl _ w).alloc (Nat.le_refl _) _).alloc (by simp) _).alloc (by simp; omega) _).alloc (by simp; omega) _, ?_, ?_, ?_, ?_⟩
    · rw [← hW0]; exact (((Or.box_new _ _ _).kp (al _ _)).kp (al _ _)).kp (al _ _)
    · rw [← hW0]; have := ((Or.box_new (w.alloc (.cells #[.func (.func G) #[] caps] 102)) 4 (.bool false)).kp (al _ (.cells #[.int .i64 (a : Int)] 3))).kp (al _ (.cells #[.int .i64 (b : Int)] 3)); rwa [s1] at this
    · rw [← hW0]; have := (Or.box_new ((w.alloc (.cells #[.func (.func G) #[] caps] 102)).alloc (.cells #[.bool false] 4)) 3 (.int .i64 (a : Int))).kp (al _ (.cells #[.int .i64 (b : Int)] 3)); rwa [s2, s1] at this
    · rw [← hW0]; have := Or.box_new (((w.alloc (.cells #[.func (.func G) #[] caps] 102)).alloc (.cells #[.bool false] 4)).alloc (.cells #[.int .i64 (a : Int)] 3)) 3 (.int .i64 (b : Int)); rwa [s3, s2, s1] at this
  have HM := Lib.hid hM; have HSZ := Lib.hid hsz; have HW0 := Lib.hid hW0
  clear hM hsz hW0 hS hE
  refine (callsIn_wide (n := 5)).1 ?_
  refine callsIn_of_wp_marks Tryz.func151 rfl trivial ?_ rfl
  simp only [Tryz.ntmps151, List.size_toArray, List.length_cons, List.length_nil, Nat.reduceAdd, Nat.reduceSub, Array.replicate_succ, Array.replicate_zero, List.push_toArray, List.append_toArray, List.nil_append, List.cons_append]
  refine wpIn_wide.2 ?_
  go_wp2_with fail
  go_step3
  go_wp2_with fail
  go_step3
  go_wp2_with (go_at_call 166; refine (between_any _ _ _ _).mono ?_; rintro e w1 ⟨rfl, rfl⟩)
  rw [HW0.out]
  simp only [Nat.add_assoc, Nat.reduceAdd]
  clear HW0
  refine (wpIn_wide (n := 5)).1 ?_
  refine Og.wpIn_rangeFunc_list (α := Nat) rfl (by decide) (gf := 169) (lb := #[.pointer (some ⟨w.heap.size + 2, 0, none⟩), .pointer (some ⟨w.heap.size + 3, 0, none⟩)]) rfl trivial (enters_of Tryz.func169 (by kernel_rfl) rfl)
    (between_iter 4 (by decide) (w.heap.size + 2) (w.heap.size + 3) a b ha hb) (fun _ => rfl)
    (fun k W => Or.Mid w G caps a b false W ∧ ∀ j, j < k → p (a + 1 + j) = false) (fun c W => c = .exit 0 ∧ Or.Mid w G caps a b true W ∧ (Or.ms a b).any p = true)
    (fun k A A' h hb => ⟨h.1.kp hb, h.2⟩) (fun k A l o o' h hl ho hc => ⟨h.1.putObj o' (by have := HSZ.out; omega), h.2⟩) (fun c A l o o' h hl ho hc => ⟨h.1, h.2.1.putObj o' (by have := HSZ.out; omega), h.2.2⟩)
    (fun k A h => ⟨h.1.ba, h.1.bb⟩) ⟨HM.out, fun j hj => absurd hj (Nat.not_lt_zero j)⟩
    (fun m => { tmps := #[.pointer (some ⟨q, 0, none⟩), .int .i64 (a : Int), .int .i64 (b : Int), .func (.func G) #[] caps, undef, undef, undef, .pointer (some ⟨w.heap.size, 0, none⟩), .bool false, .pointer (some ⟨w.heap.size + 1, 0, none⟩), .int .i64 (m : Int), .pointer (some ⟨q, 0, none⟩), .int .i64 (a : Int), .int .i64 (b : Int), .func (.func 169) #[] #[.pointer (some ⟨w.heap.size + 2, 0, none⟩), .pointer (some ⟨w.heap.size + 3, 0, none⟩)], .int .i64 (m : Int), undef, undef, undef, undef, undef], defers := [] })
    ?assign ?body ?done ?stop
  case assign =>
    rintro l m W K hK
    have HK := Lib.hid hK; clear hK
    gi_wp2_with fail
    exact HK.out
  case body =>
    rintro l k m W hm ⟨hM, hno⟩
    obtain ⟨hmk, hmb⟩ := Or.ms_at hm
    have HMM := Lib.hid hM; have HNO := Lib.hid hno; have HMK := Lib.hid hmk
    have HIN := Lib.hid (show a < m ∧ m < b by omega)
    have HMEM := Lib.hid (List.mem_of_getElem? hm)
    have c1 := hM.fn.cell
    obtain ⟨v, hv⟩ : ∃ v, p m = v := ⟨_, rfl⟩
    have HV := Lib.hid hv
    have he := HEN.out
    clear hm hM hno hmk hmb hv
    gi_wp2_with fail
    refine ⟨trivial, (CallsIn.inRound l (callsIn_wide.2 (HS.out m HIN.out W HMM.out.bel))).mono ?_⟩
    rw [HV.out]
    rintro e wa ⟨rfl, hba⟩
    have MA := Lib.hid (HMM.out.kp hba)
    have hc := MA.out.there.cell
    have hf := MA.out.there.frozen
    have KA := Lib.hid ((Og.keeps_below hba).trans (KeepsOthers.setCell wa ⟨w.heap.size + 1, 0, none⟩ (.bool v)))
    have MS := Lib.hid (MA.out.set_ v)
    have hs := MS.out.there.cell
    clear hba c1 he
    cases v
    · gi_wp2_with fail
      refine ⟨KA.out, MS.out, fun j hj => ?_⟩
      rcases Nat.lt_succ_iff_lt_or_eq.1 hj with h | h
      · exact HNO.out j h
      · rw [h, ← HMK.out]; exact HV.out
    · gi_wp2_with fail
      exact ⟨KA.out, rfl, MS.out, List.any_eq_true.2 ⟨m, HMEM.out, HV.out⟩⟩
  case done =>
    rintro D W hD ⟨hM, hno⟩ hK
    have c9 := hM.there.cell
    have HNO := Lib.hid hno; have HMM := Lib.hid hM; have HK := Lib.hid hK; have HDD := Lib.hid hD
    clear hno hM hK hD
    go_wp2_with fail
    rw [Exit.noGoto_ret]
    refine ⟨by simp, .inl ⟨_, _, rfl, run_takeDeferred HK.out, ?_⟩⟩
    have hg := HMM.out.putObj (l := D) (.deferred none) (by have := HDD.out; have := HSZ.out; omega)
    have HF : (Or.ms a b).any p = false := by
      rw [List.any_eq_false]
      intro m hm
      obtain ⟨k, hk⟩ := List.mem_iff_getElem?.1 hm
      obtain ⟨rfl, h⟩ := Or.ms_at hk
      rw [HNO.out k (by rw [Or.ms_len]; omega)]; simp
    exact ⟨_, results_tmp (fn := Tryz.f151) rfl _ _ _, ⟨by rw [HF]; rfl, hg.bel⟩⟩
  case stop =>
    rintro D c W hD ⟨rfl, hM, hany⟩ hK
    refine wpIn_wide.2 ?_
    have c9 := hM.there.cell
    have HANY := Lib.hid hany; have HMM := Lib.hid hM; have HK := Lib.hid hK; have HDD := Lib.hid hD
    clear hany hM hK hD
    go_wp2_with fail
    rw [Exit.noGoto_ret]
    refine ⟨by simp, .inl ⟨_, _, rfl, run_takeDeferred HK.out, ?_⟩⟩
    have hg := HMM.out.putObj (l := D) (.deferred none) (by have := HDD.out; have := HSZ.out; omega)
    exact ⟨_, results_tmp (fn := Tryz.f151) rfl _ _ _, ⟨by rw [HANY.out]; rfl, hg.bel⟩⟩
end Go.Proofs.YtecnnkidalkmfaaGreat
end

section
namespace Go.Proofs.YtecnnkidalkmfaaGreat
open Go.RowKit
namespace Ev
def atGo (n : Int) : Int → List Int → Int
  | _, [] => -1
  | i, v :: r => if v = n then i else atGo n (i + 1) r
def at_ (l : List Int) (n : Int) : Int := atGo n 0 l
theorem atGo_neg {n : Int} : ∀ {l : List Int} {i : Int}, n ∉ l → atGo n i l = -1
  | [], _, _ => rfl
  | v :: r, i, h => by
    unfold atGo
    rw [if_neg (fun e => h (by rw [e]; exact List.mem_cons_self))]
    exact atGo_neg fun hm => h (List.mem_cons_of_mem _ hm)
theorem atGo_pos {n : Int} : ∀ {l : List Int} {i : Int}, n ∈ l → i ≤ atGo n i l
  | v :: r, i, h => by
    unfold atGo
    by_cases e : v = n
    · rw [if_pos e]; exact Int.le_refl _
    · rw [if_neg e]
      have := atGo_pos (i := i + 1) (List.mem_of_ne_of_mem (Ne.symm e) h)
      omega
theorem at_neg (l : List Int) (n : Int) : at_ l n < 0 ↔ n ∉ l := by
  constructor
  · intro h hm
    have := atGo_pos (i := 0) hm
    unfold at_ at h; omega
  · intro h
    unfold at_; rw [atGo_neg h]; omega
end Ev
set_option maxRecDepth 100000 in
set_option maxHeartbeats 1000000 in
theorem rat_any (S : Ev.Sl) (n : Int) (w : World) (hS : Ev.IntsIn w S) :
    Calls Tryz.prog 33 #[.slice S.a S.l.length S.c, .int .i64 n] w fun e w' => e = .returned (.int .i64 (Ev.at_ S.l n)) ∧ w = w' := by
  have hsm := hS.2.2.1; have hsl := hS.2.1
  have HS := Lib.hid hS; clear hS
  go_enter Tryz.func33, Tryz.ntmps33
  go_wp2
  go_loopw [5] (fun i wr => ∃ k : Nat, k ≤ S.l.length ∧ i = .int .i64 (k : Int) ∧ Ev.at_ S.l n = Ev.atGo n k (S.l.drop k) ∧ wr = w) (fun i _ => S.l.length - (intOf i).toNat)
  case atStart => exact ⟨0, Nat.zero_le _, rfl, rfl, rfl⟩
  case round =>
    obtain ⟨k, hk, rfl, hgo, rfl⟩ := hrel
    have HGO := Lib.hid hgo; clear hgo
    by_cases hlt : k < S.l.length
    · obtain ⟨d, hd⟩ : ∃ d, S.l[k]? = some d := ⟨_, List.getElem?_eq_getElem hlt⟩
      have hdrop : S.l.drop k = d :: S.l.drop (k + 1) := by
        rw [List.drop_eq_getElem_cons hlt]; congr 1; rw [List.getElem?_eq_getElem hlt] at hd; exact Option.some.inj hd
      obtain ⟨g, o, e, c⟩ := HS.out.at_ hd
      have hki : (k : Int) < (S.l.length : Int) := by omega
      rw [e]
      by_cases hq : d = n
      · have HR := Lib.hid (show Ev.at_ S.l n = (k : Int) by rw [HGO.out, hdrop]; unfold Ev.atGo; rw [if_pos hq])
        have tq : (d == n) = true := by simpa using hq
        clear hd hdrop e hq
        go_wp2
        go_ret
        refine ⟨?_, rfl⟩
        rw [HR.out]; rfl
      · have HR := Lib.hid (show Ev.at_ S.l n = Ev.atGo n ((k + 1 : Nat) : Int) (S.l.drop (k + 1)) by rw [HGO.out, hdrop]; simp only [Ev.atGo]; rw [if_neg hq]; rfl)
        have tq : (d == n) = false := by simpa using hq
        clear hd hdrop e hq
        go_wp2
        try go_roundw
        first
        | exact ⟨⟨k + 1, by omega, by go_num, HR.out, by first | rfl | trivial⟩, by simp [intOf]; omega⟩
        | (case rel => exact ⟨k + 1, by omega, by go_num, HR.out, by first | rfl | trivial⟩
           case measure => simp [intOf]; omega)
    · have hki : ¬ (k : Int) < (S.l.length : Int) := by omega
      have HR := Lib.hid (show Ev.at_ S.l n = -1 by rw [HGO.out, List.drop_eq_nil_of_le (by omega)]; rfl)
      go_wp2
      go_ret
      refine ⟨?_, rfl⟩
      rw [HR.out]; rfl
end Go.Proofs.YtecnnkidalkmfaaGreat
end

section
namespace Go.Proofs.YtecnnkidalkmfaaGreat
open Go.RowKit
set_option maxRecDepth 100000 in
set_option maxHeartbeats 1000000 in
theorem index_any (S : Ev.Sl) (n : Int) (w : World) (hS : Ev.IntsIn w S) :
    Calls Tryz.prog 167 #[.slice S.a S.l.length S.c, .int .i64 n] w fun e w' => e = .returned (.int .i64 (Ev.at_ S.l n)) ∧ w = w' := by
  have hsm := hS.2.2.1; have hsl := hS.2.1
  have HS := Lib.hid hS; clear hS
  go_enter Tryz.func167, Tryz.ntmps167
  go_wp2
  go_loopw [5, 8] (fun _ i wr => ∃ k : Nat, k ≤ S.l.length ∧ i = .int .i64 (k : Int) ∧ Ev.at_ S.l n = Ev.atGo n k (S.l.drop k) ∧ wr = w) (fun _ i _ => S.l.length - (intOf i).toNat)
  case atStart => exact ⟨0, Nat.zero_le _, rfl, rfl, rfl⟩
  case round =>
    obtain ⟨k, hk, rfl, hgo, rfl⟩ := hrel
    have HGO := Lib.hid hgo; clear hgo
    by_cases hlt : k < S.l.length
    · obtain ⟨d, hd⟩ : ∃ d, S.l[k]? = some d := ⟨_, List.getElem?_eq_getElem hlt⟩
      have hdrop : S.l.drop k = d :: S.l.drop (k + 1) := by
        rw [List.drop_eq_getElem_cons hlt]; congr 1; rw [List.getElem?_eq_getElem hlt] at hd; exact Option.some.inj hd
      obtain ⟨g, o, e, c⟩ := HS.out.at_ hd
      have hki : (k : Int) < (S.l.length : Int) := by omega
      rw [e]
      by_cases hq : d = n
      · have HR := Lib.hid (show Ev.at_ S.l n = (k : Int) by rw [HGO.out, hdrop]; unfold Ev.atGo; rw [if_pos hq])
        have tq : (n == d) = true := by simpa using hq.symm
        clear hd hdrop e hq
        go_wp2
        go_ret
        refine ⟨?_, rfl⟩
        rw [HR.out]; rfl
      · have HR := Lib.hid (show Ev.at_ S.l n = Ev.atGo n ((k + 1 : Nat) : Int) (S.l.drop (k + 1)) by rw [HGO.out, hdrop]; simp only [Ev.atGo]; rw [if_neg hq]; rfl)
        have tq : (n == d) = false := by simpa using (fun h : n = d => hq h.symm)
        clear hd hdrop e hq
        go_wp2
        try go_roundw
        first
        | exact ⟨⟨k + 1, by omega, by go_num, HR.out, by first | rfl | trivial⟩, by simp [intOf]; omega⟩
        | (case rel => exact ⟨k + 1, by omega, by go_num, HR.out, by first | rfl | trivial⟩
           case measure => simp [intOf]; omega)
    · have hki : ¬ (k : Int) < (S.l.length : Int) := by omega
      have HR := Lib.hid (show Ev.at_ S.l n = -1 by rw [HGO.out, List.drop_eq_nil_of_le (by omega)]; rfl)
      go_wp2
      go_ret
      refine ⟨?_, rfl⟩
      rw [HR.out]; rfl
theorem index_is {S : Ev.Sl} {n p : Int} (h : Ev.at_ S.l n = p) (w : World) (hS : Ev.IntsIn w S) : Calls Tryz.prog 167 #[.slice S.a S.l.length S.c, .int .i64 n] w fun e w' => e = .returned (.int .i64 p) ∧ w = w' := h ▸ index_any S n w hS
def Or.has (l : List Int) (n : Int) : Bool := decide (0 ≤ Ev.at_ l n)
theorem contains_any (S : Ev.Sl) (n : Int) (w : World) (hS : Ev.IntsIn w S) :
    Calls Tryz.prog 158 #[.slice S.a S.l.length S.c, .int .i64 n] w fun e w' => e = .returned (.bool (Or.has S.l n)) ∧ w = w' := by
  have HS := Lib.hid hS; clear hS
  obtain ⟨p, hp⟩ : ∃ p, Ev.at_ S.l n = p := ⟨_, rfl⟩
  have HP := Lib.hid hp
  have HR := Lib.hid (show Or.has S.l n = decide (0 ≤ p) by unfold Or.has; rw [hp])
  clear hp
  go_enter Tryz.func158, Tryz.ntmps158
  go_wp2_with fail
  refine (index_is HP.out _ HS.out).mono ?_
  rintro e w1 ⟨rfl, rfl⟩
  go_wp2_with fail
  go_ret
  exact ⟨by rw [HR.out]; try rfl, rfl⟩
theorem contains_is {S : Ev.Sl} {n : Int} {p : Bool} (h : Or.has S.l n = p) (w : World) (hS : Ev.IntsIn w S) : Calls Tryz.prog 158 #[.slice S.a S.l.length S.c, .int .i64 n] w fun e w' => e = .returned (.bool p) ∧ w = w' := h ▸ contains_any S n w hS
end Go.Proofs.YtecnnkidalkmfaaGreat
end
