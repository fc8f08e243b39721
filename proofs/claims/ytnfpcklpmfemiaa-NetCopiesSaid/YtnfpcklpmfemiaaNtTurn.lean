/-
  How a net turns.
-/
import Derived.Test.YtnfpcklpmfemiaaNtLow
import Derived.Test.YtnfpcklpmfemiaaNtBe
namespace Go.Proofs.Ytnfpcklpmfemiaa
open Go.RowKit
set_option linter.unusedVariables false
set_option linter.unusedSimpArgs false
namespace Nt
theorem Turns.before {F : Nat → Prop} {w w1 w2 : World} {p most l} (hb : Below w.heap.size w w1) (h : Turns F w1 w2 p most l) : Turns F w w2 p most l := by
  obtain ⟨F', hc, hf, hk⟩ := h
  exact ⟨F', hc, (Fr.of_below hb).trans hf (fun i hi => .inl hi), fun k hF => (hk k hF).imp id fun h => Nat.le_trans hb.size h⟩
theorem Turns.behind {F : Nat → Prop} {w w1 w2 : World} {p most l} (h : Turns F w w1 p most l) (hb : Below w1.heap.size w1 w2) : Turns F w w2 p most l := by
  obtain ⟨F', hc, hf, hk⟩ := h
  exact ⟨F', hc.kp hb, hf.trans (Fr.of_below (F := F) hb) (fun i hi => .inl hi), hk⟩
theorem Turns.same {F : Nat → Prop} {w w1 : World} {p most l} (hc : Net w F p most l) (hb : Below w.heap.size w w1) : Turns F w w1 p most l :=
  ⟨F, hc.kp hb, Fr.of_below hb, fun k h => .inl h⟩
theorem Nin.own_ne {w : World} {F p most a c l} (h : Nin w F p most a c l) : Own w (fun k => F k ∧ k ≠ p) a c l := by
  rcases h.own with h1 | ⟨g, cur, e, hf, hg, r⟩
  · exact .inl h1
  · refine .inr ⟨g, cur, e, ⟨hf, fun e => ?_⟩, hg, r⟩
    rw [e, h.box] at hg
    injection hg with hg
    injection hg with _ hg _
    exact absurd hg (by decide)
theorem Nin.put {w w1 w2 : World} {F : Nat → Prop} {p most : Nat} {a : Option Addr} {c : Nat} {l : List E} (h : Nin w F p most a c l) (hb : Below w.heap.size w w1) {a' : Option Addr} {c' : Nat} {l' : List E}
    (ho : Own w2 (fun k => (F k ∧ k ≠ p) ∨ k = w1.heap.size) a' c' l') (hf : Fr (fun k => F k ∧ k ≠ p) w1 w2) (hok : ∀ e ∈ l', Ok e) (hl : l'.length ≤ most) :
    w2.heap[p]? = some (.cells #[.int .i64 (most : Int), .slice a l.length c] 110 (0, 0)) ∧ Turns F w (w2.setCell ⟨p, 1, none⟩ (.slice a' l'.length c')) p most l' := by
  have hp : p < w.heap.size := h.lt p h.fp
  have hp1 : p < w1.heap.size := Nat.lt_of_lt_of_le hp hb.size
  have hbx : w2.heap[p]? = some (.cells #[.int .i64 (most : Int), .slice a l.length c] 110 (0, 0)) := (hf.block p hp1 (fun h => h.2 rfl)).trans ((hb.block p hp).trans h.box)
  have hs : (w2.setCell ⟨p, 1, none⟩ (.slice a' l'.length c')).heap.size = w2.heap.size  := by show (w2.heap.modify p _).size = _; exact Array.size_modify
  have hk : ∀ k, k ≠ p → (w2.setCell ⟨p, 1, none⟩ (.slice a' l'.length c')).heap[k]? = w2.heap[k]? := fun k hk => Below.heap_setCell _ _ _ k hk
  refine ⟨hbx, fun k => (F k ∨ k = w1.heap.size) ∧ k < w2.heap.size, ⟨a', c', ?_, ?_, ⟨.inl h.fp, Nat.lt_of_lt_of_le hp1 hf.size⟩, fun k hk => by rw [hs]; exact hk.2, hok, h.pos, h.max, hl⟩, ⟨?_, ?_, ?_, ?_, ?_⟩, fun k hk => ?_⟩
  · rw [set_row _ hbx]; rfl
  · rcases ho with h1 | ⟨g, cur, e, hg1, hg, r⟩
    · exact .inl h1
    · have hgl := (Array.getElem?_eq_some_iff.1 hg).1
      have hgp : g ≠ p := by
        rcases hg1 with h1 | h1
        · exact h1.2
        · omega
      exact .inr ⟨g, cur, e, ⟨hg1.imp (·.1) id, hgl⟩, (hk g hgp).trans hg, r⟩
  · exact hf.os.trans hb.os
  · exact hf.tape.trans hb.tape
  · exact hf.output.trans hb.output
  · rw [hs]; exact Nat.le_trans hb.size hf.size
  · intro k hkl hkf
    rw [hk k (fun e => hkf (e ▸ h.fp)), hf.block k (Nat.lt_of_lt_of_le hkl hb.size) (fun h => hkf h.1), hb.block k hkl]
  · rcases hk.1 with h1 | h1
    · exact .inl h1
    · exact .inr (by rw [h1]; exact hb.size)
set_option maxRecDepth 100000 in
theorem run_buildMsg (e : E) (hok : Ok e) (w : World) : (Instr.buildSlice 68 1 #[(0, EV e)]).run Try.prog w = .ok (.slice (some ⟨w.heap.size, 0, none⟩) 1 1) (w.alloc (.cells (cells e).toArray 57)) := by
  obtain ⟨k, f, t, n, b⟩ := e
  obtain ⟨b0, b1, b2, b3, b4, b5, b6, b7, b8, b9, b10, b11, b12, b13, b14, b15, rfl⟩ := sixteen hok.b
  kernel_rfl
theorem build_to {o : Oper} {ρ : Operand → Value} {w : World} {e : E} (hok : Ok e) (x : Operand) (ho : o.op = .buildSlice 68 1 #[(0, x)]) (hx : ρ x = EV e) : (execOp ρ o).run Try.prog w = .ok (.value (.slice (some ⟨w.heap.size, 0, none⟩) 1 1)) (w.alloc (.cells (cells e).toArray 57)) := by
  unfold execOp
  simp only [ho, Sem.run_bind, List.map_toArray, List.map_cons, List.map_nil, hx, run_buildMsg e hok w, Result.andThen_ok, Sem.run_pure]
/-- one message in a block of its own -/
theorem ls_one {w : World} {g : Nat} {e : E} (hok : Ok e) (h : w.heap[g]? = some (.cells (cells e).toArray 57 (0, 0))) : LsIn w (some ⟨g, 0, none⟩) 1 [e] := by
  refine ⟨fun _ => ⟨g, 0, rfl, fun j v hv i c hi => ?_⟩, fun x hx => by obtain rfl : x = e := by simpa using hx
                                                                        exact hok, Nat.le_refl _, by decide⟩
  cases j with
  | zero =>
    obtain rfl : cells e = v := by simpa using hv
    have := cells_at h hi
    simpa using this
  | succ j => simp at hv
/-- what Send tells, and what is on its way behind it -/
def sendE (most : Nat) (l : List E) (e : E) : Int := if may e then (if l.length = most then 210 else 0) else 2
def sendL (most : Nat) (l : List E) (e : E) : List E := if may e then (if l.length = most then l else l ++ [e]) else l
theorem send_nil (e : E) (hok : Ok e) (w : World) : Calls Try.prog 31 #[.pointer none, .agg (cells e).toArray] w fun r w' => r = .returned (.int .i64 1) ∧ Below w.heap.size w w' := by
  go_enter Try.func31, Try.ntmps31
  go_wp2_with (go_at_call 64; (with_reducible refine (isNone_nil _).mono ?_); rintro e W2 ⟨rfl, hw⟩; subst hw)
  go_ret
  exact ⟨rfl, (Below.refl w.heap.size w).alloc (Nat.le_refl _) _⟩
end Nt
end Go.Proofs.Ytnfpcklpmfemiaa
