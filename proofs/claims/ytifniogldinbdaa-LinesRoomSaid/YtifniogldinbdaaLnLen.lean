/-
  The contract of Len.
-/
import Derived.Test.YtifniogldinbdaaLnIter
namespace Go.Proofs.Ytifniogldinbdaa
open Go.RowKit
set_option linter.unusedVariables false
set_option linter.unusedSimpArgs false
attribute [local go_sem] Oper.semAt_some
namespace Ln
/-- a counter in a box, the rest as it was -/
structure Cnt (w : World) (c : Nat) (k : Nat) (W : World) : Prop where
  bel : Below w.heap.size w W
  lo : w.heap.size ≤ c
  box : Box W c 3 (.int .i64 (k : Int))
theorem Cnt.kp {w : World} {c k : Nat} {A A' : World} (h : Cnt w c k A) (hb : Below A.heap.size A A') : Cnt w c k A' := ⟨h.bel.trans (hb.mono h.bel.size), h.lo, h.box.kp hb⟩
theorem Cnt.putObj {w : World} {c k : Nat} {A : World} (h : Cnt w c k A) {l : Nat} {o : Obj} (o' : Obj) (hl : w.heap.size ≤ l) (ho : A.heap[l]? = some o) (hc : o.isCells = false) : Cnt w c k (A.putObj l o') :=
  ⟨⟨h.bel.os, h.bel.tape, h.bel.output, by simpa using h.bel.size, fun j hj => (World.putObj_heap_other (by omega)).trans (h.bel.block j hj)⟩, h.lo, (World.putObj_heap_other (fun e => by
    have := h.box; unfold Box at this; rw [e, ho] at this; cases this; cases hc)).trans h.box⟩
theorem below_set {w A : World} (h : Below w.heap.size w A) {c : Nat} (hc : w.heap.size ≤ c) (i : Nat) (v : Value) : Below w.heap.size w (A.setCell ⟨c, i, none⟩ v) :=
  ⟨h.os, h.tape, h.output, Nat.le_trans h.size (KeepsWalks.setCell A _ v).size, fun j hj => (Below.heap_setCell _ _ _ j (fun e => by simp at e; omega)).trans (h.block j hj)⟩
theorem Cnt.up {w : World} {c k : Nat} {A : World} (h : Cnt w c k A) : Cnt w c (k + 1) (A.setCell ⟨c, 0, none⟩ (.int .i64 ((k : Int) + 1))) := by
  refine ⟨below_set h.bel h.lo 0 _, h.lo, ?_⟩
  unfold Box
  rw [set_row (i := 0) (.int .i64 ((k : Int) + 1)) h.box]
  rfl
theorem below_putObj {w A : World} (h : Below w.heap.size w A) {l : Nat} {o' : Obj} (hl : w.heap.size ≤ l) : Below w.heap.size w (A.putObj l o') :=
  ⟨h.os, h.tape, h.output, by simpa using h.size, fun j hj => (World.putObj_heap_other (by omega)).trans (h.block j hj)⟩
theorem Box.putObj {A : World} {c : Nat} {t : TypeId} {v : Value} (h : Box A c t v) {l : Nat} {o : Obj} (o' : Obj) (ho : A.heap[l]? = some o) (hc : o.isCells = false) : Box (A.putObj l o') c t v :=
  (World.putObj_heap_other (fun e => by
    unfold Box at h; rw [e, ho] at h; cases h; cases hc)).trans h
theorem Box.frozen {w : World} {p : Nat} {t : TypeId} {v : Value} (h : Box w p t v) : w.frozen? ⟨p, 0, none⟩ = false := free_row h
theorem Box.set {A : World} {c p i : Nat} {t : TypeId} {u v : Value} (h : Box A p t v) (hne : p ≠ c) : Box (A.setCell ⟨c, i, none⟩ u) p t v := (Below.heap_setCell _ _ _ p (fun e => hne e)).trans h
end Ln
set_option maxRecDepth 100000 in
set_option maxHeartbeats 4000000 in
theorem len_of (v : Option Addr) (R : World → Prop) (xs : List Ln.E) (hx : xs.length ≤ 4096) (w : World) (hR : ∀ q W, Below w.heap.size w W → Ln.Box W q 22 (.pointer v) → R W)
    (hit : ∀ q, Og.IterL Fence.wide 4 Try.prog 46 #[.pointer (some ⟨q, 0, none⟩)] (fun W => Ln.Box W q 22 (.pointer v) ∧ R W) (fun e : Ln.E => #[Ln.EV e]) xs) :
    Calls Try.prog 16 #[.pointer v] w fun e w' => e = .returned (.int .i64 (xs.length : Int)) ∧ Below w.heap.size w w' := by
  have HR := Lib.hid hR; have HIT := Lib.hid hit
  clear hR hit
  refine (callsIn_wide (n := 5)).1 ?_
  refine callsIn_of_wp_marks Try.func16 rfl trivial ?_ rfl
  simp only [Try.ntmps16, List.size_toArray, List.length_cons, List.length_nil, Nat.reduceAdd, Nat.reduceSub, Array.replicate_succ, Array.replicate_zero, List.push_toArray, List.append_toArray, List.nil_append, List.cons_append]
  refine wpIn_wide.2 ?_
  go_wp2_with (go_at_call 38; refine (standing_any _ _).mono ?_; rintro e w1 ⟨rfl, rfl⟩)
  obtain ⟨cb, hcb⟩ : ∃ cb, cb = w.heap.size := ⟨_, rfl⟩
  obtain ⟨q, hq⟩ : ∃ q, q = w.heap.size + 1 := ⟨_, rfl⟩
  obtain ⟨W0, hW0⟩ : ∃ W0, W0 = (w.alloc (Obj.cells #[Value.int IntKind.i64 0] 3)).alloc (Obj.cells #[.pointer v] 22) := ⟨_, rfl⟩
  have hC : Ln.Cnt w cb 0 W0 := ⟨by rw [hW0]; exact ((Below.refl w.heap.size w).alloc (Nat.le_refl _) _).alloc (by simp) _, by omega, by unfold Ln.Box; rw [hW0, hcb]; exact heap_alloc2_old w _ _⟩
  have hQ : Ln.Box W0 q 22 (.pointer v) := by unfold Ln.Box; rw [hW0, hq]; exact heap_alloc2_new w _ _
  rw [← hW0, ← hq, ← hcb]
  have hsz : W0.heap.size = w.heap.size + 2 := by rw [hW0]; simp
  have HC := Lib.hid hC; have HQ := Lib.hid hQ; have HSZ := Lib.hid hsz
  have hne : cb ≠ q := by omega
  clear hC hQ hsz hcb hq hW0
  refine (wpIn_wide (n := 5)).1 ?_
  refine Og.wpIn_rangeFunc_list (α := Ln.E) rfl (by decide) (gf := 46) (lb := #[.pointer (some ⟨q, 0, none⟩)]) rfl trivial (fun _ _ => rfl)
    (HIT.out q) (fun _ => rfl)
    (fun k W => Ln.Cnt w cb k W ∧ Ln.Box W q 22 (.pointer v)) (fun c W => False)
    (fun k A A' h hb => ⟨h.1.kp hb, h.2.kp hb⟩) (fun k A l o o' h hl ho hc => ⟨h.1.putObj o' (by have := HSZ.out; omega) ho hc, h.2.putObj o' ho hc⟩) (fun c A l o o' h hl ho hc => h)
    (fun k A h => ⟨h.2, HR.out q A h.1.bel h.2⟩) ⟨HC.out, HQ.out⟩
    (fun e => { tmps := #[.pointer v, undef, .int .i64 0, .pointer (some ⟨cb, 0, none⟩), .pointer v, .func (.func 46) #[] #[.pointer (some ⟨q, 0, none⟩)], Ln.EV e, undef, undef, undef], defers := [] })
    ?assign ?body ?done ?stop
  case assign =>
    rintro l m W K hK
    have HK := Lib.hid hK; clear hK
    gi_wp2_with fail
    refine Eq.mp ?_ HK.out
    kernel_rfl
  case body =>
    rintro l k e W hm hA
    have hkl := (List.getElem?_eq_some_iff.1 hm).1
    have c2 := hA.1.box.cell
    have c3 := hA.1.box.frozen
    have HA := Lib.hid hA
    clear hm hA
    gi_wp2_with fail
    exact ⟨KeepsOthers.setCell _ _ _, HA.out.1.up, HA.out.2.set (Ne.symm hne)⟩
  case done =>
    rintro D W hD hA hK
    have c2 := hA.1.box.cell
    have HB := Lib.hid hA.1.bel; have HK := Lib.hid hK; have HDD := Lib.hid hD
    clear hA hK hD
    go_wp2_with fail
    refine ⟨by simp, .inl ⟨_, _, rfl, run_takeDeferred HK.out, ?_⟩⟩
    exact ⟨_, results_tmp (fn := Try.f16) rfl _ _ _, ⟨rfl, Ln.below_putObj HB.out (by have := HDD.out; have := HSZ.out; omega)⟩⟩
  case stop =>
    rintro D c W hD h hK
    exact h.elim
theorem Og.IterL.imp {α : Type} {F : Fence} {n : Nat} {P : Program} {g : Nat} {lb : Array Value} {R R' : World → Prop} {enc : α → Array Value} {xs : List α} (h : Og.IterL F n P g lb R enc xs) (hr : ∀ W, R' W → R W) : Og.IterL F n P g lb R' enc xs :=
  fun l J Jx W h1 h2 h3 h4 => h l J Jx W h1 (fun k A hj => hr A (h2 k A hj)) h3 h4
theorem len_nil (w : World) : Calls Try.prog 16 #[.pointer none] w fun e w' => e = .returned (.int .i64 0) ∧ Below w.heap.size w w' :=
  len_of none (fun _ => True) [] (Nat.zero_le _) w (fun _ _ _ _ => trivial) (fun q => Og.IterL.imp (none_iter 4 (by decide) q) fun W h => h.1)
namespace Ln
theorem lsQ_len {w : World} {F p g ways S} (h : Cin w F p g ways S) : (lsQ S).length ≤ 512 := by
  have key : ∀ (S : List RW), (∀ r ∈ S, r.l.length ≤ 8) → (lsQ S).length ≤ S.length * 8 := by
    intro S
    induction S with
    | nil => intro _; exact Nat.le_refl _
    | cons r S ih =>
      intro h
      have h1 := h r (List.mem_cons_self ..)
      have h2 := ih (fun x hx => h x (List.mem_cons_of_mem _ hx))
      unfold lsQ at h2 ⊢
      simp only [List.map_cons, List.flatten_cons, List.length_append, List.length_cons]
      omega
  have := key S (fun r hr => Nat.le_trans (h.fits r hr) h.wlen)
  have := h.len
  omega
end Ln
theorem len_any (w : World) {F p ways Q} (h : Ln.Cache w F p ways Q) : Calls Try.prog 16 #[.pointer (some ⟨p, 0, none⟩)] w fun e w' => e = .returned (.int .i64 (Q.flatten.length : Int)) ∧ Below w.heap.size w w' := by
  obtain ⟨g, S, hc, rfl⟩ := h
  exact len_of (some ⟨p, 0, none⟩) (fun W => Ln.Cin W F p g ways S) (Ln.lsQ S) (by have := Ln.lsQ_len hc; omega) w (fun _ W hb _ => hc.kp hb) (fun q => standing_iter 4 (by decide) q F p g ways S)
end Go.Proofs.Ytifniogldinbdaa
