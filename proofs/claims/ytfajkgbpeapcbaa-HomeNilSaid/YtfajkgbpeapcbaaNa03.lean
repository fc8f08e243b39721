import Derived.Test.YtfajkgbpeapcbaaProg
import Derived.Test.YtfajkgbpeapcbaaNa02
import Derived.WalkKit
import Derived.WalkSpells
import Derived.WalkLawsBesides
import Derived.Handy
import Derived.Lib.Hide
import Derived.LoopTactic
import Derived.Laws.OwnMore
import Derived.Outline
import Derived.OrdersHeld
import Derived.RegionTactic
import Derived.Maps.OwnOps
set_option linter.unusedVariables false
set_option linter.unusedSimpArgs false

section
namespace Go.Proofs.Ytfajkgbpeapcbaa
open Go.RowKit
theorem im_ret_int {k : IntKind} {a b : Int} (h : a = b) : Ending.returned (.int k a) = .returned (.int k b) := by rw [h]
def Row (w : World) (g : Nat) (bs : List Int) : Prop := w.heap[g]? = some (.cells (Im.vals bs).toArray 5 (0, 0))
structure Img (w : World) (p g : Nat) (bs : List Int) : Prop where
  ptr : w.heap[p]? = some (.cells #[.slice (some ⟨g, 0, none⟩) bs.length bs.length] 156 (0, 0))
  row : Row w g bs
  ok : Im.okB bs.length = true
  byt : Im.Byt bs
theorem im_heap_lt {w : World} {g : Nat} {o : Obj} (h : w.heap[g]? = some o) : g < w.heap.size := (Array.getElem?_eq_some_iff.1 h).1
theorem Row.lt {w : World} {g : Nat} {bs : List Int} (h : Row w g bs) : g < w.heap.size := im_heap_lt h
theorem Row.cell {w : World} {g : Nat} {bs : List Int} (h : Row w g bs) {j : Nat} (hj : j < bs.length) : w.cell? ⟨g, j, none⟩ = some (.int .u8 (bs.getD j 0)) := by
  rw [cell_of_row w g j _ _ _ h]
  simp [Im.vals, hj, List.getD_eq_getElem?_getD]
theorem Row.free {w : World} {g : Nat} {bs : List Int} (h : Row w g bs) (j : Nat) : w.frozen? ⟨g, j, none⟩ = false := frozen_of_row w g j _ _ h
theorem Row.kept {w w' : World} {g : Nat} {bs : List Int} {row : Option Nat} (h : Row w g bs) (hg : w.grownBy w' row) (hne : some g ≠ row) : Row w' g bs :=
  (hg.block g h.lt hne).trans h
theorem Row.below {w w' : World} {g B : Nat} {bs : List Int} (h : Row w g bs) (hg : Below B w w') (hne : g < B) : Row w' g bs :=
  (hg.block g hne).trans h
theorem Row.old {w w' : World} {g : Nat} {bs : List Int} (h : Row w g bs) (hg : Below w.heap.size w w') : Row w' g bs := h.below hg h.lt
theorem Row.alloc {w : World} {g : Nat} {bs : List Int} (h : Row w g bs) (o : Obj) : Row (w.alloc o) g bs := (Below.heap_alloc w o g h.lt).trans h
theorem Row.set {w : World} {g : Nat} {bs : List Int} (h : Row w g bs) (j : Nat) (x : Int) : Row (w.setCell ⟨g, j, none⟩ (.int .u8 x)) g (bs.set j x) := by
  unfold Row
  rw [heap_setCell_same w g j _ _ _ h]
  simp [Im.vals, List.map_set]
theorem Img.old {w w' : World} {p g : Nat} {bs : List Int} (h : Img w p g bs) (hb : Below w.heap.size w w') : Img w' p g bs :=
  ⟨(hb.block p (im_heap_lt h.ptr)).trans h.ptr, h.row.old hb, h.ok, h.byt⟩
theorem Img.ne {w : World} {p g : Nat} {bs : List Int} (h : Img w p g bs) : p ≠ g := by
  rintro rfl
  have h1 := h.ptr; have h2 := h.row
  unfold Row at h2
  rw [h1] at h2
  simp at h2
theorem Img.wrote {w w' : World} {p g : Nat} {bs bs' : List Int} (h : Img w p g bs) (hg : w.grownBy w' (some g)) (hr : Row w' g bs') (hl : bs'.length = bs.length) (hb : Im.Byt bs') : Img w' p g bs' :=
  ⟨by rw [hg.block p (im_heap_lt h.ptr) (by have := h.ne; simp [this]), hl]; exact h.ptr, hr, by rw [hl]; exact h.ok, hb⟩
theorem Img.kept {w w' : World} {p g : Nat} {bs : List Int} {row : Option Nat} (h : Img w p g bs) (hg : w.grownBy w' row) (h1 : some p ≠ row) (h2 : some g ≠ row) : Img w' p g bs :=
  ⟨(hg.block p (im_heap_lt h.ptr) h1).trans h.ptr, h.row.kept hg h2, h.ok, h.byt⟩
theorem Img.cell {w : World} {p g : Nat} {bs : List Int} (h : Img w p g bs) : w.cell? ⟨p, 0, none⟩ = some (.slice (some ⟨g, 0, none⟩) bs.length bs.length) := by
  rw [cell_of_row w p 0 _ _ _ h.ptr]; rfl
theorem Img.bd {w : World} {p g : Nat} {bs : List Int} (h : Img w p g bs) : 16 ≤ bs.length ∧ bs.length ≤ 4096 ∧ bs.length % 16 = 0 := by
  have := Im.okB_bd h.ok; omega
theorem below_grown {w w' : World} (h : Below w.heap.size w w') (row : Option Nat) : w.grownBy w' row := ⟨h.os, h.tape, h.output, h.size, fun k hk _ => h.block k hk⟩
theorem grown_below {w w' : World} (h : w.grownBy w' none) : Below w.heap.size w w' := ⟨h.os, h.tape, h.output, h.size, fun k hk => h.block k hk (by simp)⟩
theorem grownBy_trans {a b c : World} {row : Option Nat} (h : a.grownBy b row) (k : b.grownBy c row) : a.grownBy c row :=
  ⟨k.os.trans h.os, k.tape.trans h.tape, k.output.trans h.output, Nat.le_trans h.size k.size, fun i hi hn => (k.block i (Nat.lt_of_lt_of_le hi h.size) hn).trans (h.block i hi hn)⟩
theorem own_any (p g n : Nat) (w : World) (hc : w.cell? ⟨p, 0, none⟩ = some (.slice (some ⟨g, 0, none⟩) n n)) :
    Calls Try.prog 91 #[.pointer (some ⟨p, 0, none⟩)] w fun e w' => e = .returned (.slice (some ⟨g, 0, none⟩) n n) ∧ w = w' := by
  go_enter Try.func91, Try.ntmps91
  go_wp2
  go_ret
  exact ⟨rfl, rfl⟩
theorem own_nil (w : World) :
    Calls Try.prog 91 #[.pointer none] w fun e w' => e = .returned (.slice none 0 0) ∧ w = w' := by
  go_enter Try.func91, Try.ntmps91
  go_wp2
  go_ret
  exact ⟨rfl, rfl⟩
theorem maybe_any (n : Int) (h : -9223372036854775808 ≤ n ∧ n ≤ 9223372036854775807) (w : World) :
    Calls Try.prog 94 #[.int .i64 n] w fun e w' => e = .returned (.bool (Im.okB n)) ∧ w = w' := by
  by_cases h1 : 16 ≤ n
  · by_cases h2 : n ≤ 4096
    · have e := Im.okB_and h1 h2
      rw [e]
      clear e
      go_enter Try.func94, Try.ntmps94
      go_wp2
      go_ret
      exact ⟨rfl, rfl⟩
    · rw [Im.okB_no (by omega)]
      go_enter Try.func94, Try.ntmps94
      go_wp2
      go_ret
      exact ⟨rfl, rfl⟩
  · rw [Im.okB_no (by omega)]
    go_enter Try.func94, Try.ntmps94
    go_wp2
    go_ret
    exact ⟨rfl, rfl⟩
theorem linestart_any (n k : Nat) (h1 : n ≤ 4294967295) (hk : k = n * 16) (w : World) :
    Calls Try.prog 102 #[.int .u32 n] w fun e w' => e = .returned (.int .u64 (k : Int)) ∧ w = w' := by
  have HK := Lib.hid (show (n : Int) * 16 = (k : Int) by omega)
  clear hk
  go_enter Try.func102, Try.ntmps102
  go_wp2
  go_ret
  exact ⟨im_ret_int HK.out, rfl⟩
end Go.Proofs.Ytfajkgbpeapcbaa
end

section
namespace Go.Proofs.Ytfajkgbpeapcbaa
open Go.RowKit
namespace Og
structure Two (w W : World) (g1 g2 : Nat) (t : TypeId) (c1 c2 : Array Value) : Prop where
  r1 : W.heap[g1]? = some (.cells c1 t (0, 0))
  r2 : W.heap[g2]? = some (.cells c2 t (0, 0))
  ge1 : w.heap.size ≤ g1
  ge2 : w.heap.size ≤ g2
  below : Below w.heap.size w W
theorem load_run {P : Program} {o : Oper} {ρ : Operand → Value} {w : World} {v : Value} (ty : TypeId) (x : Operand) (ho : o.op = .load ty x) (p : Addr) (hx : ρ x = .pointer (some p)) (hl : (loadVar ty p).run P w = .ok v w) : (execOp ρ o).run P w = .ok (.value v) w := by
  unfold execOp
  simp only [ho, hx, Instr.loadAt, Instr.sureAddr, Sem.run_bind, Sem.run_pure, Result.andThen_ok, hl]
end Og
end Go.Proofs.Ytfajkgbpeapcbaa
end

section
namespace Go.Proofs.Ytfajkgbpeapcbaa
namespace Og
open Go.RowKit
variable {P : Program}
end Og
end Go.Proofs.Ytfajkgbpeapcbaa
end

section
namespace Go.Proofs.Ytfajkgbpeapcbaa
open Go.RowKit Go.Maps
theorem im_wpList_insert_own {H : Type} {P : Program} (w : World) {ops : Array Oper} {rest : List Oper} {o : Oper} {a : Act} {Q : Exit → Act → World → Prop}
    (hg : o.guard = none) (m x v : Operand) (t : TypeId) (hop : o.op = Op.insert t m x v)
    (k e : TypeId) (K : Keyed P k) (ht : P.underlying t = some (.map k e)) (R : Value → Option (DataW H × List MemPlace)) (b n : Nat) (D : DataW H)
    (hm : a.eval m = .map (some b)) (hown : w.ownsMap P k R b n D) (hn : n < maxLen) (key val : Value) (kl : Lit) (hx : a.eval x = key) (hv : a.eval v = val) (hkey : keyOf P k key = some kl)
    (d : DataW H) (ps : List MemPlace) (hval : R val = some (d, ps))
    (hK : ∀ w', w'.ownsMap P k R b (n + 1) (D.put kl d) → w.grownBy w' (some b) → wpList P ops Q rest (a.put o.dst undef) w') :
    wpList P ops Q (o :: rest) a w := by
  refine wpList_plain hg fun K' hK' => ?_
  obtain ⟨w', hrun, r1, r2⟩ := hown.update K ht hn hkey hval
  unfold Oper.wp
  simp [execOp, hop, hm, hx, hv, hrun, Result.andThen]
  exact hK' _ _ (hK w' r1 r2)
end Go.Proofs.Ytfajkgbpeapcbaa
end

section
namespace Go.Proofs.Ytfajkgbpeapcbaa
open Go.RowKit
namespace Og
section
variable {P : Program} {ops : Array Oper} {Q : Exit → Act → World → Prop} {md : Region.Mode} {S : Nat → World → Prop}
def Keep (md : Region.Mode) (ops : Array Oper) (S : Nat → World → Prop) (j : Nat) (w w' : World) : Prop := ∀ oj, ops[j]? = some oj → ∀ i, i ≠ j → (∀ e ∈ oj.after, Region.binds md e = true → e.on ≠ i) → S i w → S i w'
def wpAnyS (P : Program) (md : Region.Mode) (ops : Array Oper) (Q : Exit → Act → World → Prop) (S : Nat → World → Prop) : Nat → Array Bool → Act → World → Prop
  | 0, listed, a, w => Region.ready md ops listed = [] ∧ Q .normal a w
  | fuel + 1, listed, a, w =>
    (Region.ready md ops listed = [] → Q .normal a w) ∧
    ∀ i ∈ Region.ready md ops listed, wpOp P ops Q i (fun a' w' => Keep md ops S i w w' ∧ wpAnyS P md ops Q S fuel (listed.setIfInBounds i true) a' w') a w
theorem wpAny_of_S : ∀ (fuel : Nat) (listed : Array Bool) (a : Act) (w : World), wpAnyS P md ops Q S fuel listed a w → wpAny P md ops Q fuel listed a w
  | 0, _, _, _, h => h
  | fuel + 1, _, _, _, h => ⟨h.1, fun i hi => wpOp_mono (fun a' w' h' => wpAny_of_S fuel _ a' w' h'.2) (h.2 i hi)⟩
theorem wpAnyS_first {i : Nat} {oi : Oper} {v : Value} (hi : ops[i]? = some oi) (hsel : ∀ (j : Nat) (o : Oper) cs b, ops[j]? = some o → o.op ≠ .select cs b)
    (hQ : ∀ c a w, Q (.panic c) (a.put oi.dst v) w → Q (.panic c) a w) :
    ∀ (fuel : Nat) (listed : Array Bool) (a : Act) (w : World),
      (∀ j oj, ops[j]? = some oj → j ≠ i → listed.getD j true = false → (∀ e ∈ oj.after, Region.binds md e = true → e.on ≠ i) → oi.apart ops oj = true) →
      i ∈ Region.ready md ops listed → YieldsIf P ops (S i) oi v a → S i w →
      wpAnyS P md ops Q S fuel (listed.setIfInBounds i true) (a.put oi.dst v) w → wpAnyS P md ops Q S (fuel + 1) listed a w := by
  intro fuel
  induction fuel with
  | zero =>
    intro listed a w _ hr hy hS H
    refine ⟨fun h => (by rw [h] at hr; cases hr), fun j hj => ?_⟩
    by_cases hji : j = i
    · subst hji; exact hy.wpOp hi hS ⟨fun _ _ _ _ _ h => h, H⟩
    · have := ready_mono hj hji
      rw [H.1] at this
      cases this
  | succ fuel ih =>
    intro listed a w hfree hr hy hS H
    refine ⟨fun h => (by rw [h] at hr; cases hr), fun j hj => ?_⟩
    by_cases hji : j = i
    · subst hji; exact hy.wpOp hi hS ⟨fun _ _ _ _ _ h => h, H⟩
    · have h1 := H.2 j (ready_mono hj hji)
      obtain ⟨hjun, oj, hoj, hall⟩ := mem_ready.1 hj
      have hnot : ∀ e ∈ oj.after, Region.binds md e = true → e.on ≠ i := fun e he hb heq => by
        have h1 := hall e he hb
        have h0 := (mem_ready.1 hr).1
        rw [heq] at h1
        rcases Nat.lt_or_ge i listed.size with h' | h'
        · simp [h'] at h0 h1; rw [h0] at h1; cases h1
        · simp [Array.getElem?_eq_none h'] at h1
      have h2 := wpOp_putIf hoj (hfree j oj hoj hji hjun hnot) (fun cs b => hsel i oi cs b hi) (fun cs b => hsel j oj cs b hoj) hQ hy h1
      have hfree' : ∀ k ok, ops[k]? = some ok → k ≠ i → (listed.setIfInBounds j true).getD k true = false →
          (∀ e ∈ ok.after, Region.binds md e = true → e.on ≠ i) → oi.apart ops ok = true := fun k ok hk hki hun hno => by
        refine hfree k ok hk hki ?_ hno
        by_cases hjk : j = k
        · subst hjk; exact hjun
        · rw [getD_set_ne true hjk] at hun; exact hun
      refine wpOp_mono (fun a' w' h3 => ?_) h2
      obtain ⟨hy', hKj, H'⟩ := h3
      have hSi : S i w' := hKj oj hoj i (Ne.symm hji) hnot hS
      rw [Array.setIfInBounds_comm _ _ (Ne.symm hji)] at H'
      exact ⟨hKj, ih (listed.setIfInBounds j true) a' w' hfree' (ready_mono hr (Ne.symm hji)) hy' hSi H'⟩
theorem s_take {fuel : Nat} {listed : Array Bool} {a : Act} {w : World} (i : Nat) (o : Oper) (v : Value) (a' : Act) (hi : ops[i]? = some o) (hg : o.guard = none)
    (hs : Region.noSelect ops = true) (hf : Region.free md ops listed i = true) (hr : (Region.ready md ops listed).contains i = true)
    (hQ : ∀ c a w, Q (.panic c) (a.put o.dst v) w → Q (.panic c) a w) (hS : S i w)
    (hrun : ∀ x, S i x → (execOp a.eval o).run P x = .ok (.value v) x) (ha : a.put o.dst v = a')
    (h : wpAnyS P md ops Q S fuel (listed.setIfInBounds i true) a' w) : wpAnyS P md ops Q S (fuel + 1) listed a w :=
  wpAnyS_first hi (Region.noSelect_spec hs) hQ fuel listed a w (Region.free_spec hi hf) (by simpa using hr) (Or.inl ⟨by unfold Region.wanted; rw [hg], hrun⟩) hS (by rw [ha]; exact h)
theorem s_one {fuel : Nat} {listed : Array Bool} {a : Act} {w : World} (i : Nat) (o : Oper) (hi : ops[i]? = some o) (hg : o.guard = none) (hr : Region.ready md ops listed = [i])
    (h : o.wp P a w (fun a' w' => Keep md ops S i w w' ∧ wpAnyS P md ops Q S fuel (listed.setIfInBounds i true) a' w') Q) : wpAnyS P md ops Q S (fuel + 1) listed a w :=
  ⟨fun h0 => absurd (hr ▸ h0) (by simp), fun j hj => by
    rw [hr] at hj
    obtain rfl : j = i := by simpa using hj
    unfold wpOp
    rw [hi]
    have hw : Region.wanted o (yielded ops a.tmps) = true := by unfold Region.wanted; rw [hg]
    simp only [hw, if_true]
    exact .inl h⟩
theorem s_done {listed : Array Bool} {a : Act} {w : World} (hr : Region.ready md ops listed = []) (h : Q .normal a w) : ∀ fuel, wpAnyS P md ops Q S fuel listed a w
  | 0 => ⟨hr, h⟩
  | _ + 1 => ⟨fun _ => h, by rw [hr]; simp⟩
theorem region_S {id : Nat} {a : Act} {w : World} (hm : P.follows .mixedOrders = true)
    (h : wpAnyS P .any ops Q S ops.size (Array.replicate ops.size false) a { w with drawn := w.drawn + 1 }) : (Code.region id ops true).wp P Q a w :=
  wp_region_any hm (wpAny_of_S _ _ _ _ h)
end
end Og
end Go.Proofs.Ytfajkgbpeapcbaa
end
