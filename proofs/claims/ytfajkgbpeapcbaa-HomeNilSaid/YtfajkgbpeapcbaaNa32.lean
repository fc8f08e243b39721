import Derived.Test.YtfajkgbpeapcbaaNa31
set_option linter.unusedVariables false
set_option linter.unusedSimpArgs false

section
namespace Go.Proofs.Ytfajkgbpeapcbaa
open Go.RowKit
namespace Hm
open Nt
set_option maxRecDepth 100000
open Go.Maps (Keyed int_keyed keyOf_int_mk IsMap)
open Classical in
noncomputable def entElem (v : Value) : Option (DataW Unit × List MemPlace) :=
  if v = .pointer none then some (.nil, []) else if h : ∃ e : Nat, v = .pointer (some ⟨e, 0, none⟩) then some (.lit (.int .i64 ((Classical.choose h : Nat) : Int)), []) else none
theorem entElem_mk (e : Nat) : entElem (.pointer (some ⟨e, 0, none⟩)) = some (.lit (.int .i64 (e : Int)), []) := by
  have h : ∃ g : Nat, (Value.pointer (some ⟨e, 0, none⟩)) = .pointer (some ⟨g, 0, none⟩) := ⟨e, rfl⟩
  unfold entElem
  rw [if_neg (fun e => by cases e), dif_pos h]
  have := Classical.choose_spec h
  injection this with this
  injection this with this
  injection this with this
  rw [← this]
theorem entElem_nil : entElem (.pointer none) = some (.nil, []) := if_pos rfl
theorem entElem_inv {e : Nat} {v : Value} {ps : List MemPlace} (h : entElem v = some (.lit (.int .i64 (e : Int)), ps)) : v = .pointer (some ⟨e, 0, none⟩) := by
  unfold entElem at h
  split at h
  · injection h with h; injection h with h _; cases h
  · split at h
    · rename_i q
      have h2 := Classical.choose_spec q
      injection h with h
      injection h with h _
      injection h with h
      injection h with _ h
      rw [Int.ofNat.inj h] at h2
      exact h2
    · cases h
theorem entElem_inv_nil {v : Value} {ps : List MemPlace} (h : entElem v = some (.nil, ps)) : v = .pointer none := by
  unfold entElem at h
  split at h
  · rename_i e; exact e
  · split at h
    · injection h with h; injection h with h _; cases h
    · cases h
theorem law_u32 : Keyed Try.prog 23 := int_keyed Try.underlying23
theorem zero_ent (w : World) : (zeroValue 122).run Try.prog w = .ok (.pointer none) w := by kernel_rfl
theorem wf_u32 {n : Nat} (h : n ≤ 4294967295) : (Lit.int .u32 (n : Int)).wf = true := by
  have h1 : IntKind.u32.min = 0 := by decide
  have h2 : IntKind.u32.max = 4294967295 := by decide
  simp only [Lit.wf, h1, h2, Bool.and_eq_true, decide_eq_true_eq]
  omega
theorem isKeyU (k : Int) : WideAt.IsKeyLit (.int .u32 k) := by first | trivial | exact rfl | simp [WideAt.IsKeyLit]
def upd {α : Type} (f : Nat → α) (n : Nat) (x : α) : Nat → α := fun i => if i = n then x else f i
theorem upd_same {α : Type} (f : Nat → α) (n : Nat) (x : α) : upd f n x n = x := if_pos rfl
theorem upd_other {α : Type} (f : Nat → α) {n i : Nat} (x : α) (h : i ≠ n) : upd f n x i = f i := if_neg h
def entD : Option Nat → DataW Unit
  | some e => .lit (.int .i64 (e : Int))
  | none => .nil
def MapE (w : World) (mb N : Nat) (ep : Nat → Option Nat) : Prop :=
  ∃ D : DataW Unit, w.ownsMap Try.prog 23 entElem mb N D ∧ ∀ i : Nat, i ≤ 4294967295 → Maps.has D (.int .u32 (i : Int)) = (ep i).isSome ∧ D.atKey (.int .u32 (i : Int)) .nil = entD (ep i)
theorem own_isMap {w : World} {P : Program} {k : TypeId} {R : Value → Option (DataW Unit × List MemPlace)} {b n : Nat} {D : DataW Unit} (h : w.ownsMap P k R b n D) : IsMap D := by
  obtain ⟨es, clock, _, _, _, hD⟩ := h
  exact ⟨_, hD⟩
theorem MapE.at_ {w w' : World} {mb N : Nat} {ep : Nat → Option Nat} (h : MapE w mb N ep) (e : w'.heap[mb]? = w.heap[mb]?) : MapE w' mb N ep := by
  obtain ⟨D, h1, h2⟩ := h
  exact ⟨D, own_at h1 e, h2⟩
theorem MapE.lt {w : World} {mb N : Nat} {ep : Nat → Option Nat} (h : MapE w mb N ep) : mb < w.heap.size := by
  obtain ⟨D, h1, h2⟩ := h
  exact h1.lt
theorem MapE.obj {w : World} {mb N : Nat} {ep : Nat → Option Nat} (h : MapE w mb N ep) : ∃ es clock, w.heap[mb]? = some (.map es clock) := by
  obtain ⟨D, ⟨es, clock, h1, _⟩, h2⟩ := h
  exact ⟨es, clock, h1⟩
theorem MapE.look {w : World} {mb N : Nat} {ep : Nat → Option Nat} (h : MapE w mb N ep) {n : Nat} (hn : n ≤ 4294967295) :
    (Instr.lookup 90 (.map (some mb)) (.int .u32 (n : Int)) true).run Try.prog w = .ok (.tuple #[.pointer ((ep n).map fun e => ⟨e, 0, none⟩), .bool (ep n).isSome]) w := by
  obtain ⟨D, h1, h2⟩ := h
  obtain ⟨v, ps, hr, hv⟩ := h1.look_ok law_u32 Try.underlying90 (zero_ent w) entElem_nil (keyOf_int_mk (P := Try.prog) Try.underlying23 (wf_u32 hn))
  rw [(h2 n hn).1] at hr
  rw [(h2 n hn).2] at hv
  have e : v = .pointer ((ep n).map fun e => ⟨e, 0, none⟩) := by
    cases he : ep n with
    | none => rw [he] at hv; exact entElem_inv_nil hv
    | some e => rw [he] at hv; exact entElem_inv hv
  rw [hr, e]
theorem MapE.put {w : World} {mb N : Nat} {ep : Nat → Option Nat} (h : MapE w mb N ep) {n e : Nat} (hn : n ≤ 4294967295) (hN : N < maxLen) {o : Oper} {ρ : Operand → Value} (x y z : Operand) (ho : o.op = .mapUpdate 90 x y z) (hx : ρ x = .map (some mb)) (hy : ρ y = .int .u32 (n : Int)) (hz : ρ z = .pointer (some ⟨e, 0, none⟩)) :
    ∃ w', (execOp ρ o).run Try.prog w = .ok .skip w' ∧ MapE w' mb (N + 1) (upd ep n (some e)) ∧ w.grownBy w' (some mb) := by
  obtain ⟨D, h1, h2⟩ := h
  obtain ⟨w', hrun, r1, r2⟩ := h1.update law_u32 Try.underlying90 hN (keyOf_int_mk (P := Try.prog) Try.underlying23 (wf_u32 hn)) (entElem_mk e)
  refine ⟨w', by simp [execOp, ho, hx, hy, hz, hrun, Result.andThen], ⟨_, r1, fun i hi => ?_⟩, r2⟩
  have hm := own_isMap h1
  by_cases hin : i = n
  · subst hin
    rw [Maps.has_put_same hm (isKeyU _), Maps.atKey_put_same hm (isKeyU _), upd_same]
    exact ⟨rfl, rfl⟩
  · have hne : Lit.int .u32 (i : Int) ≠ Lit.int .u32 (n : Int) := fun e => hin (by injection e with _ e; omega)
    rw [Maps.has_put_other hne, Maps.atKey_put_other hne, upd_other _ _ hin]
    exact h2 i hi
theorem MapE.new (w : World) : MapE (w.alloc (.map #[] 0)) w.heap.size 0 (fun _ => none) :=
  ⟨_, World.ownsMap_made (H := Unit) w Try.prog 23 entElem, fun i _ => ⟨rfl, rfl⟩⟩
def fresh : En := ⟨-1, nobody, false, 0, 0, 0, false, []⟩
structure Ho where
  bs : List Int
  ent : Nat → En
structure Dt where
  mp : Nat
  mb : Nat
  g : Nat
  ep : Nat → Option Nat
  Qs : Nat → Nat → Prop
  qa : Nat → Option Addr
  qc : Nat → Nat
structure Hd (w : World) (p : Nat) (d : Dt) (N : Nat) (H : Ho) : Prop where
  box : w.heap[p]? = some (.cells #[.pointer (some ⟨d.mp, 0, none⟩), .map (some d.mb)] 92 (0, 0))
  im : Img w d.mp d.g H.bs
  ma : MapE w d.mb N d.ep
  eb : ∀ i e, d.ep i = some e → w.heap[e]? = some (.cells (ecells (H.ent i) (d.qa i) (d.qc i)) 84 (0, 0))
  qo : ∀ i e, d.ep i = some e → OwnQ w (d.Qs i) (d.qa i) (d.qc i) (H.ent i).q
  no : ∀ i, d.ep i = none → H.ent i = fresh
  inj : ∀ i j e, d.ep i = some e → d.ep j = some e → i = j
  ql : ∀ i k, d.Qs i k → k < w.heap.size
  qd : ∀ i j k, i ≠ j → d.Qs i k → ¬ d.Qs j k
  qn : ∀ i k, d.Qs i k → k ≠ p ∧ k ≠ d.mp ∧ k ≠ d.mb ∧ k ≠ d.g ∧ ∀ j e, d.ep j = some e → k ≠ e
  iv : ∀ i, Iv (H.ent i)
  len : ∀ i, (H.ent i).q.length ≤ N
def hown (p : Nat) (d : Dt) (k : Nat) : Prop := k = p ∨ k = d.mp ∨ k = d.mb ∨ k = d.g ∨ (∃ i, d.ep i = some k) ∨ (∃ i, d.Qs i k)
section
variable {w w' : World} {p : Nat} {d : Dt} {N : Nat} {H : Ho}
theorem Hd.own_lt (h : Hd w p d N H) : ∀ k, hown p d k → k < w.heap.size := by
  rintro k (rfl | rfl | rfl | rfl | ⟨i, hi⟩ | ⟨i, hi⟩)
  · exact (Array.getElem?_eq_some_iff.1 h.box).1
  · exact (Array.getElem?_eq_some_iff.1 h.im.ptr).1
  · exact h.ma.lt
  · exact h.im.row.lt
  · exact (Array.getElem?_eq_some_iff.1 (h.eb i k hi)).1
  · exact h.ql i k hi
theorem Hd.kept (h : Hd w p d N H) (hs : w.heap.size ≤ w'.heap.size) (hb : ∀ k, hown p d k → w'.heap[k]? = w.heap[k]?) : Hd w' p d N H :=
  ⟨(hb p (.inl rfl)).trans h.box, ⟨(hb _ (.inr (.inl rfl))).trans h.im.ptr, (hb _ (.inr (.inr (.inr (.inl rfl))))).trans h.im.row, h.im.ok, h.im.byt⟩, h.ma.at_ (hb _ (.inr (.inr (.inl rfl)))),
    fun i e he => (hb e (.inr (.inr (.inr (.inr (.inl ⟨i, he⟩)))))).trans (h.eb i e he), fun i e he => (h.qo i e he).kept fun k hk _ => hb k (.inr (.inr (.inr (.inr (.inr ⟨i, hk⟩))))),
    h.no, h.inj, fun i k hk => Nat.lt_of_lt_of_le (h.ql i k hk) hs, h.qd, h.qn, h.iv, h.len⟩
theorem Hd.kp (h : Hd w p d N H) (hb : Below w.heap.size w w') : Hd w' p d N H := h.kept hb.size fun k hk => hb.block k (h.own_lt k hk)
theorem Hd.c0 (h : Hd w p d N H) : w.cell? ⟨p, 0, none⟩ = some (.pointer (some ⟨d.mp, 0, none⟩)) := by rw [cell_of_row _ _ _ _ _ _ h.box]; rfl
theorem Hd.c1 (h : Hd w p d N H) : w.cell? ⟨p, 1, none⟩ = some (.map (some d.mb)) := by rw [cell_of_row _ _ _ _ _ _ h.box]; rfl
end
theorem cells_map {w : World} {k : Nat} {cs : Array Value} {t : TypeId} {fr : Nat × Nat} {es clock} (h1 : w.heap[k]? = some (.cells cs t fr)) (h2 : w.heap[k]? = some (.map es clock)) : False := by
  rw [h1] at h2; injection h2 with h2; cases h2
theorem iv_fresh : Iv fresh := ⟨by show (-1 : Int) ≤ -1; omega, by show (-1 : Int) ≤ 3; omega, by show (0 : Int) ≤ 0; omega, by show (0 : Int) ≤ 3; omega, by show (0 : Int) ≤ 0; omega, by show (0 : Int) ≤ 10; omega, fun _ => rfl, by show Ev.i64B 0; unfold Ev.i64B; omega, fun x hx => by cases hx⟩
end Hm
end Go.Proofs.Ytfajkgbpeapcbaa
end
