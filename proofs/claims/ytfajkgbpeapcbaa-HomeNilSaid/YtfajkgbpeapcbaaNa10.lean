import Derived.Test.YtfajkgbpeapcbaaNa06
import Derived.Test.YtfajkgbpeapcbaaNa09
import Derived.Test.YtfajkgbpeapcbaaNa08
set_option linter.unusedVariables false
set_option linter.unusedSimpArgs false

section
namespace Go.Proofs.Ytfajkgbpeapcbaa
open Go.RowKit
namespace Nt
set_option maxRecDepth 100000 in
theorem run_buildMsg (e : E) (hok : Ok e) (w : World) : (Instr.buildSlice 56 1 #[(0, EV e)]).run Try.prog w = .ok (.slice (some ⟨w.heap.size, 0, none⟩) 1 1) (w.alloc (.cells (cells e).toArray 67)) := by
  obtain ⟨k, f, t, n, b⟩ := e
  obtain ⟨b0, b1, b2, b3, b4, b5, b6, b7, b8, b9, b10, b11, b12, b13, b14, b15, rfl⟩ := sixteen hok.b
  kernel_rfl
theorem build_to {o : Oper} {ρ : Operand → Value} {w : World} {e : E} (hok : Ok e) (x : Operand) (ho : o.op = .buildSlice 56 1 #[(0, x)]) (hx : ρ x = EV e) : (execOp ρ o).run Try.prog w = .ok (.value (.slice (some ⟨w.heap.size, 0, none⟩) 1 1)) (w.alloc (.cells (cells e).toArray 67)) := by
  unfold execOp
  simp only [ho, Sem.run_bind, List.map_toArray, List.map_cons, List.map_nil, hx, run_buildMsg e hok w, Result.andThen_ok, Sem.run_pure]
theorem ls_one {w : World} {g : Nat} {e : E} (hok : Ok e) (h : w.heap[g]? = some (.cells (cells e).toArray 67 (0, 0))) : LsIn w (some ⟨g, 0, none⟩) 1 [e] := by
  refine ⟨fun _ => ⟨g, 0, rfl, fun j v hv i c hi => ?_⟩, fun x hx => by obtain rfl : x = e := by simpa using hx
                                                                        exact hok, Nat.le_refl _, by decide⟩
  cases j with
  | zero =>
    obtain rfl : cells e = v := by simpa using hv
    have := cells_at h hi
    simpa using this
  | succ j => simp at hv
end Nt
end Go.Proofs.Ytfajkgbpeapcbaa
end

section
namespace Go.Proofs.Ytfajkgbpeapcbaa
open Go.RowKit
namespace Nt
def srcA (a : Option Addr) (k c : Nat) : Option Addr := if c = k then a else a.map (·.add (k * 20))
theorem LsIn.take {w : World} {a c} {l : List E} (h : LsIn w a c l) (k : Nat) : LsIn w a c (l.take k) := by
  refine ⟨fun hp => ?_, fun e he => h.ok e (List.mem_of_mem_take he), Nat.le_trans (by rw [List.length_take]; omega) h.le, h.max⟩
  obtain ⟨g, o, e, hc⟩ := h.rows (by simp at hp ⊢; omega)
  refine ⟨g, o, e, fun j v hv i c hi => hc j v ?_ i c hi⟩
  rw [List.getElem?_map, List.getElem?_take] at hv
  split at hv
  · rw [List.getElem?_map]; exact hv
  · cases hv
theorem LsIn.drop {w : World} {a c} {l : List E} (h : LsIn w a c l) {k : Nat} (hk : k ≤ l.length) : LsIn w (srcA a k c) (c - k) (l.drop k) := by
  refine ⟨fun hp => ?_, fun e he => h.ok e (List.mem_of_mem_drop he), by rw [List.length_drop]; have := h.le; omega, by have := h.max; omega⟩
  have hp1 : k < l.length := by simp at hp; omega
  obtain ⟨g, o, e, hc⟩ := h.rows (by simp; omega)
  have hne : ¬ c = k := by have := h.le; omega
  refine ⟨g, o + k * 20, by unfold srcA; rw [if_neg hne, e]; simp [Go.WideShapes.add_plain], fun j v hv i c hi => ?_⟩
  rw [List.getElem?_map, List.getElem?_drop] at hv
  have := hc (k + j) v (by rw [List.getElem?_map]; exact hv) i c hi
  rw [show o + k * 20 + j * 20 + i = o + (k + j) * 20 + i by omega]
  exact this
theorem size_elem (w : World) : (sizeOf (Try.prog.elem 56)).run Try.prog w = .ok 20 w := by kernel_rfl
theorem elem_msg : Try.prog.underlying 56 = some (.slice (Try.prog.elem 56)) := by kernel_rfl
theorem from_to {o : Oper} {ρ : Operand → Value} {w : World} (x y : Operand) (ho : o.op = .slice 56 x (some y) none none) {a : Option Addr} {c : Nat} {l : List E} {k : Nat} (hk : k ≤ l.length) (hx : ρ x = .slice a l.length c) (hy : ρ y = .int .i64 (k : Int)) :
    (execOp ρ o).run Try.prog w = .ok (.value (.slice (srcA a k c) (l.drop k).length (c - k))) w := by
  have h1 := run_slice_l (P := Try.prog) w 56 a l.length c elem_msg .i64 (k : Int) (by omega) (by omega)
  rw [size_elem] at h1
  have h2 : (Instr.sliceAt 56 (.slice a l.length c) (some (.int .i64 (k : Int))) none none).run Try.prog w = .ok (.slice (srcA a k c) (l.drop k).length (c - k)) w := by
    rw [run_sliceAt_slice w _ _ _ _ _ elem_msg, h1, List.length_drop]
    simp [sliced, srcA]
  unfold execOp
  simp only [ho, hx, Option.map, hy, Sem.run_bind, h2, Result.andThen_ok, Sem.run_pure]
theorem fr_below {w w' : World} (h : Fr (fun _ => False) w w') : Below w.heap.size w w' := ⟨h.os, h.tape, h.output, h.size, fun k hk => h.block k hk (fun h => h)⟩
end Nt
end Go.Proofs.Ytfajkgbpeapcbaa
end

section
namespace Go.Proofs.Ytfajkgbpeapcbaa
open Go.RowKit
namespace Hm
open Nt
set_option maxRecDepth 100000
structure En where
  o : Int
  s : Nat → Bool
  b : Bool
  a : Int
  k : Int
  wt : Int
  td : Bool
  q : List E
def ecells (e : En) (qa : Option Addr) (qc : Nat) : Array Value :=
  #[.int .i64 e.o, .bool (e.s 0), .bool (e.s 1), .bool (e.s 2), .bool (e.s 3), .bool e.b, .int .i64 e.a, .int .i64 e.k, .int .i64 e.wt, .bool e.td, .slice qa e.q.length qc]
structure Tg where
  n : Nat
  sent : List E
  e : En
  bs : List Int
def tcells (n : Nat) (sa : Option Addr) (sl sc ep mp : Nat) : Array Value := #[.int .u32 (n : Int), .slice sa sl sc, .pointer (some ⟨ep, 0, none⟩), .pointer (some ⟨mp, 0, none⟩)]
def OwnQ (w : World) (F : Nat → Prop) (a : Option Addr) (c : Nat) (l : List E) : Prop :=
  (l = [] ∧ c = 0) ∨ ∃ g o cur, a = some ⟨g, o * 20, none⟩ ∧ F g ∧ w.heap[g]? = some (.cells cur 67 (0, 0)) ∧ l.length ≤ c ∧ c ≤ maxLen ∧ (o + c) * 20 ≤ cur.size ∧ (cur.toList.drop (o * 20)).take (l.length * 20) = flat l
theorem OwnQ.nil (w : World) (F : Nat → Prop) (a : Option Addr) : OwnQ w F a 0 [] := .inl ⟨rfl, rfl⟩
theorem OwnQ.mono {w : World} {F G : Nat → Prop} {a c l} (h : OwnQ w F a c l) (hFG : ∀ k, F k → G k) : OwnQ w G a c l := by
  rcases h with h | ⟨g, o, cur, e, hf, r⟩
  · exact .inl h
  · exact .inr ⟨g, o, cur, e, hFG g hf, r⟩
theorem OwnQ.kept {w w' : World} {F : Nat → Prop} {a c l} (h : OwnQ w F a c l) (hb : ∀ k, F k → k < w.heap.size → w'.heap[k]? = w.heap[k]?) : OwnQ w' F a c l := by
  rcases h with h | ⟨g, o, cur, e, hf, hg, r⟩
  · exact .inl h
  · exact .inr ⟨g, o, cur, e, hf, (hb g hf (Array.getElem?_eq_some_iff.1 hg).1).trans hg, r⟩
theorem OwnQ.le {w : World} {F : Nat → Prop} {a c l} (h : OwnQ w F a c l) : l.length ≤ c ∧ c ≤ maxLen := by
  rcases h with ⟨rfl, rfl⟩ | ⟨g, o, cur, e, hf, hg, h1, h2, _⟩
  · exact ⟨Nat.le_refl _, by unfold maxLen; omega⟩
  · exact ⟨h1, h2⟩
theorem OwnQ.ls {w : World} {F : Nat → Prop} {a c l} (h : OwnQ w F a c l) (hok : ∀ e ∈ l, Ok e) : LsIn w a c l := by
  have hle := h.le
  rcases h with ⟨rfl, rfl⟩ | ⟨g, o, cur, rfl, hf, hg, h1, h2, h3, h4⟩
  · exact ⟨fun h => absurd h (by simp), hok, Nat.le_refl _, by decide⟩
  · refine ⟨fun _ => ⟨g, o * 20, rfl, fun j v hv i c hi => ?_⟩, hok, h1, by unfold maxLen at h2; omega⟩
    rw [List.getElem?_map] at hv
    obtain ⟨e, he, rfl⟩ := Option.map_eq_some_iff.1 hv
    rw [cell_of_row _ _ _ _ _ _ hg]
    have := take_at h4 (flat_at hok he hi)
    rw [List.getElem?_drop] at this
    rw [show o * 20 + j * 20 + i = o * 20 + (j * 20 + i) by omega]
    simpa using this
theorem OwnQ.pop {w : World} {F : Nat → Prop} {a c x l} (h : OwnQ w F a c (x :: l)) (hok : ∀ e ∈ x :: l, Ok e) : OwnQ w F (srcA a 1 c) (c - 1) l := by
  rcases h with ⟨h, _⟩ | ⟨g, o, cur, rfl, hf, hg, h1, h2, h3, h4⟩
  · cases h
  · rw [List.length_cons] at h1 h4
    by_cases hc : c = 1
    · have : l = [] := by cases l with | nil => rfl | cons y l => exfalso; simp only [List.length_cons] at h1; omega
      exact .inl ⟨this, by omega⟩
    · refine .inr ⟨g, o + 1, cur, by unfold srcA; rw [if_neg hc]; simp [Go.WideShapes.add_plain], hf, hg, by omega, by omega, by rw [show o + 1 + (c - 1) = o + c by omega]; exact h3, ?_⟩
      have h5 : flat (x :: l) = cells x ++ flat l := by unfold flat; simp
      have h6 := (hok x (List.mem_cons_self ..)).len
      have h7 := congrArg (List.drop 20) h4
      rw [h5, ← h6, List.drop_left, h6, List.drop_take, List.drop_drop, show o * 20 + 20 = (o + 1) * 20 by omega, show (l.length + 1) * 20 - 20 = l.length * 20 by omega] at h7
      exact h7
structure Tk (w : World) (tp ep mp g : Nat) (S Q : Nat → Prop) (sa : Option Addr) (sc : Nat) (qa : Option Addr) (qc : Nat) (T : Tg) : Prop where
  tb : w.heap[tp]? = some (.cells (tcells T.n sa T.sent.length sc ep mp) 125 (0, 0))
  eb : w.heap[ep]? = some (.cells (ecells T.e qa qc) 84 (0, 0))
  im : Img w mp g T.bs
  so : Nt.Own w S sa sc T.sent
  qo : OwnQ w Q qa qc T.e.q
  sl : ∀ k, S k → k < w.heap.size
  ql : ∀ k, Q k → k < w.heap.size
  dj : ∀ k, S k → ¬ Q k
  st : ∀ k, S k → k ≠ tp ∧ k ≠ ep ∧ k ≠ mp ∧ k ≠ g
  qt : ∀ k, Q k → k ≠ tp ∧ k ≠ ep ∧ k ≠ mp ∧ k ≠ g
  sok : ∀ x ∈ T.sent, Ok x
  qok : ∀ x ∈ T.e.q, Ok x
  qby : ∀ x ∈ T.e.q, Im.Byt x.b
  nl : T.n * 16 < T.bs.length
theorem Tk.ne {w tp ep mp g S Q sa sc qa qc T} (h : Tk w tp ep mp g S Q sa sc qa qc T) : tp ≠ ep ∧ tp ≠ mp ∧ tp ≠ g ∧ ep ≠ mp ∧ ep ≠ g := by
  have ib := h.im.ptr; have ir := h.im.row
  unfold Row at ir
  refine ⟨fun e => ?_, fun e => ?_, fun e => ?_, fun e => ?_, fun e => ?_⟩
  · have := h.tb; rw [e, h.eb] at this; injection this with this; injection this with _ this _; exact absurd this (by decide)
  · have := h.tb; rw [e, ib] at this; injection this with this; injection this with _ this _; exact absurd this (by decide)
  · have := h.tb; rw [e, ir] at this; injection this with this; injection this with _ this _; exact absurd this (by decide)
  · have := h.eb; rw [e, ib] at this; injection this with this; injection this with _ this _; exact absurd this (by decide)
  · have := h.eb; rw [e, ir] at this; injection this with this; injection this with _ this _; exact absurd this (by decide)
theorem Tk.lt {w tp ep mp g S Q sa sc qa qc T} (h : Tk w tp ep mp g S Q sa sc qa qc T) : tp < w.heap.size ∧ ep < w.heap.size ∧ mp < w.heap.size ∧ g < w.heap.size :=
  ⟨(Array.getElem?_eq_some_iff.1 h.tb).1, (Array.getElem?_eq_some_iff.1 h.eb).1, (Array.getElem?_eq_some_iff.1 h.im.ptr).1, h.im.row.lt⟩
section
variable {w : World} {tp ep mp g : Nat} {S Q : Nat → Prop} {sa : Option Addr} {sc : Nat} {qa : Option Addr} {qc : Nat} {T : Tg}
theorem Tk.t0 (h : Tk w tp ep mp g S Q sa sc qa qc T) : w.cell? ⟨tp, 0, none⟩ = some (.int .u32 (T.n : Int)) := by rw [cell_of_row _ _ _ _ _ _ h.tb]; rfl
theorem Tk.t1 (h : Tk w tp ep mp g S Q sa sc qa qc T) : w.cell? ⟨tp, 1, none⟩ = some (.slice sa T.sent.length sc) := by rw [cell_of_row _ _ _ _ _ _ h.tb]; rfl
theorem Tk.t2 (h : Tk w tp ep mp g S Q sa sc qa qc T) : w.cell? ⟨tp, 2, none⟩ = some (.pointer (some ⟨ep, 0, none⟩)) := by rw [cell_of_row _ _ _ _ _ _ h.tb]; rfl
theorem Tk.t3 (h : Tk w tp ep mp g S Q sa sc qa qc T) : w.cell? ⟨tp, 3, none⟩ = some (.pointer (some ⟨mp, 0, none⟩)) := by rw [cell_of_row _ _ _ _ _ _ h.tb]; rfl
theorem Tk.e0 (h : Tk w tp ep mp g S Q sa sc qa qc T) : w.cell? ⟨ep, 0, none⟩ = some (.int .i64 T.e.o) := by rw [cell_of_row _ _ _ _ _ _ h.eb]; rfl
theorem Tk.e5 (h : Tk w tp ep mp g S Q sa sc qa qc T) : w.cell? ⟨ep, 5, none⟩ = some (.bool T.e.b) := by rw [cell_of_row _ _ _ _ _ _ h.eb]; rfl
theorem Tk.e6 (h : Tk w tp ep mp g S Q sa sc qa qc T) : w.cell? ⟨ep, 6, none⟩ = some (.int .i64 T.e.a) := by rw [cell_of_row _ _ _ _ _ _ h.eb]; rfl
theorem Tk.e7 (h : Tk w tp ep mp g S Q sa sc qa qc T) : w.cell? ⟨ep, 7, none⟩ = some (.int .i64 T.e.k) := by rw [cell_of_row _ _ _ _ _ _ h.eb]; rfl
theorem Tk.e8 (h : Tk w tp ep mp g S Q sa sc qa qc T) : w.cell? ⟨ep, 8, none⟩ = some (.int .i64 T.e.wt) := by rw [cell_of_row _ _ _ _ _ _ h.eb]; rfl
theorem Tk.e9 (h : Tk w tp ep mp g S Q sa sc qa qc T) : w.cell? ⟨ep, 9, none⟩ = some (.bool T.e.td) := by rw [cell_of_row _ _ _ _ _ _ h.eb]; rfl
theorem Tk.e10 (h : Tk w tp ep mp g S Q sa sc qa qc T) : w.cell? ⟨ep, 10, none⟩ = some (.slice qa T.e.q.length qc) := by rw [cell_of_row _ _ _ _ _ _ h.eb]; rfl
theorem Tk.kp {w' : World} (h : Tk w tp ep mp g S Q sa sc qa qc T) (hb : Below w.heap.size w w') : Tk w' tp ep mp g S Q sa sc qa qc T :=
  ⟨(hb.block _ h.lt.1).trans h.tb, (hb.block _ h.lt.2.1).trans h.eb, h.im.old hb, h.so.kp hb, h.qo.kept fun k _ hk => hb.block k hk,
    fun k hk => Nat.lt_of_lt_of_le (h.sl k hk) hb.size, fun k hk => Nat.lt_of_lt_of_le (h.ql k hk) hb.size, h.dj, h.st, h.qt, h.sok, h.qok, h.qby, h.nl⟩
theorem Tk.entry {w' : World} (h : Tk w tp ep mp g S Q sa sc qa qc T) (e' : En) (hq : e'.q = T.e.q) (hs : w'.heap.size = w.heap.size) (hb : ∀ k, k ≠ ep → w'.heap[k]? = w.heap[k]?) (he : w'.heap[ep]? = some (.cells (ecells e' qa qc) 84 (0, 0))) :
    Tk w' tp ep mp g S Q sa sc qa qc { T with e := e' } := by
  have hn := h.ne
  refine ⟨(hb _ hn.1).trans h.tb, he, ?_, h.so.kept fun k hk _ => hb k (h.st k hk).2.1, ?_, fun k hk => by rw [hs]; exact h.sl k hk, fun k hk => by rw [hs]; exact h.ql k hk, h.dj, h.st, h.qt, h.sok, by show ∀ x ∈ e'.q, Ok x; rw [hq]; exact h.qok, by show ∀ x ∈ e'.q, Im.Byt x.b; rw [hq]; exact h.qby, h.nl⟩
  · exact ⟨(hb _ (Ne.symm hn.2.2.2.1)).trans h.im.ptr, (hb _ (Ne.symm hn.2.2.2.2)).trans h.im.row, h.im.ok, h.im.byt⟩
  · show OwnQ w' Q qa qc e'.q
    rw [hq]
    exact h.qo.kept fun k hk _ => hb k (h.qt k hk).2.1
theorem size_setCell (w : World) (p : Addr) (v : Value) : (w.setCell p v).heap.size = w.heap.size := by show (w.heap.modify _ _).size = _; exact Array.size_modify
theorem Tk.cell (h : Tk w tp ep mp g S Q sa sc qa qc T) (i : Nat) (v : Value) (e' : En) (hq : e'.q = T.e.q) (hc : (ecells T.e qa qc).setIfInBounds i v = ecells e' qa qc) :
    Tk (w.setCell ⟨ep, i, none⟩ v) tp ep mp g S Q sa sc qa qc { T with e := e' } :=
  h.entry e' hq (size_setCell _ _ _) (fun k hk => Below.heap_setCell _ _ _ k hk) (by rw [set_row v h.eb, hc])
end
end Hm
end Go.Proofs.Ytfajkgbpeapcbaa
end
