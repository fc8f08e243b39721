/-
  Going over the messages to a node: the contract of going, and of the function that it tells.
-/
import Derived.Test.YtnfpcklpmfemiaaNtDel
import Derived.Test.YtnfpcklpmfemiaaOgSc
import Derived.Test.YtnfpcklpmfemiaaOgM
namespace Go.Og
open Go Go.RowKit
theorem IterL.toS {α : Type} {F : Fence} {n : Nat} {P : Program} {g : Nat} {lb : Array Value} {R : World → Prop} {enc : α → Array Value} {xs : List α} (h : IterL F n P g lb R enc xs) :
    IterS F n P g lb R enc (fun (k : Nat) (x : α) (k' : Nat) => xs[k]? = some x ∧ k' = k + 1) 0 (fun k => k = xs.length) := by
  intro l J Jx W h1 h2 h3 h4 h5 h6 h0
  refine (h l J Jx W h1 h4 (fun k x W1 hx hj => ?_) h0).mono ?_
  · obtain ⟨fn, tm, asg, bd, hy, hr⟩ := h6 k x (k + 1) W1 ⟨hx, rfl⟩ hj
    exact ⟨fn, tm, asg, bd, hy, hr.mono fun e W' hh => hh.2.2⟩
  · rintro e W' ⟨hv, hj | hj⟩
    · exact ⟨hv, .inl ⟨_, rfl, hj⟩⟩
    · exact ⟨hv, .inr hj⟩
end Go.Og
namespace Go.Proofs.Ytnfpcklpmfemiaa
open Go.RowKit
set_option linter.unusedVariables false
set_option linter.unusedSimpArgs false
namespace Nt
section
variable {F : Fence} {n : Nat} {P : Program} {ops : Array Oper} {rest : List Oper} {o : Oper} {a : Act} {w : World} {Q : Exit → Act → World → Prop}
theorem wpListIn_load_row (hgd : o.guard = none) (ty : TypeId) (x : Operand) (ho : o.op = .load ty x)
    (g : Nat) (hx : a.eval x = .pointer (some ⟨g, 0, none⟩)) (t : TypeId) (cs : Array Value) (fr : Nat × Nat) (d : TypeDesc) (hg : w.heap[g]? = some (.cells cs t fr))
    (hu : P.underlying ty = some d) (hd : (match d with | .struct _ | .array _ _ => true | _ => false) = true) (hi : (P.info? ty).map (·.size) = some cs.size)
    (h : wpListIn F n P ops Q rest (a.put o.dst (.agg cs)) w) : wpListIn F n P ops Q (o :: rest) a w := by
  refine wpListIn_plain hgd fun K' hK' => ?_
  unfold Oper.wpIn
  refine ⟨by simp [Oper.about, ho], ?_⟩
  rw [Oper.semAt_plain F _ _ (by rw [ho]; intro c hc'; cases hc')]
  unfold execOp
  simp only [ho, hx, Instr.loadAt, Instr.sureAddr, Sem.run_bind, Sem.run_pure, Result.andThen_ok, run_loadVar_row w g t ty cs fr d hg hu hd hi]
  exact hK' _ _ h
theorem wpListIn_load_at (hgd : o.guard = none) (ty : TypeId) (x : Operand) (ho : o.op = .load ty x)
    (g off : Nat) (hx : a.eval x = .pointer (some ⟨g, off, none⟩)) (cs : List Value) (d : TypeDesc) (hc : ∀ i v, cs[i]? = some v → w.cell? ⟨g, off + i, none⟩ = some v)
    (hu : P.underlying ty = some d) (hd : (match d with | .struct _ | .array _ _ => true | _ => false) = true) (hi : (P.info? ty).map (·.size) = some cs.length)
    (h : wpListIn F n P ops Q rest (a.put o.dst (.agg cs.toArray)) w) : wpListIn F n P ops Q (o :: rest) a w := by
  refine wpListIn_plain hgd fun K' hK' => ?_
  unfold Oper.wpIn
  refine ⟨by simp [Oper.about, ho], ?_⟩
  rw [Oper.semAt_plain F _ _ (by rw [ho]; intro c hc'; cases hc')]
  unfold execOp
  simp only [ho, hx, Instr.loadAt, Instr.sureAddr, Sem.run_bind, Sem.run_pure, Result.andThen_ok, run_loadVar_at w g off ty cs d hc hu hd hi]
  exact hK' _ _ h
theorem wpListIn_store_row (hgd : o.guard = none) (ty : TypeId) (x y : Operand) (ho : o.op = .store ty x y)
    (g : Nat) (cells : Array Value) (hx : a.eval x = .pointer (some ⟨g, 0, none⟩)) (hy : a.eval y = .agg cells)
    (t : TypeId) (old : Array Value) (hg : w.heap[g]? = some (.cells old t (0, 0))) (hi : (P.info? ty).map (·.size) = some cells.size) (hold : old.size = cells.size) (h1 : cells.all (·.oneCell') = true)
    (h : wpListIn F n P ops Q rest (a.put o.dst undef) (w.setRow g cells)) : wpListIn F n P ops Q (o :: rest) a w := by
  refine wpListIn_plain hgd fun K' hK' => ?_
  unfold Oper.wpIn
  refine ⟨by simp [Oper.about, ho], ?_⟩
  rw [Oper.semAt_plain F _ _ (by rw [ho]; intro c hc'; cases hc')]
  unfold execOp
  simp only [ho, hx, hy, Instr.storeAt, Instr.sureAddr, Sem.run_bind, Sem.run_pure, Result.andThen_ok, run_storeVar_row w g t ty old cells hg hi hold h1]
  exact hK' _ _ h
theorem wpListIn_store_own (hgd : o.guard = none) (ty : TypeId) (x y : Operand) (ho : o.op = .store ty x y)
    (g : Nat) (cells : Array Value) (hx : a.eval x = .pointer (some ⟨g, 0, none⟩)) (hy : a.eval y = .agg cells)
    (t : TypeId) (old : Array Value) (hg : w.heap[g]? = some (.cells old t (0, 0))) (hi : (P.info? ty).map (·.size) = some cells.size) (hold : old.size = cells.size) (h1 : cells.all (·.oneCell') = true)
    (h : ∀ W, Ev.Set1 w W g t cells → wpListIn F n P ops Q rest (a.put o.dst undef) W) : wpListIn F n P ops Q (o :: rest) a w :=
  wpListIn_store_row hgd ty x y ho g cells hx hy t old hg hi hold h1 (h _ (Ev.set1 hg hold))
end
theorem wpListIn_buildMsg {F : Fence} {n : Nat} {ops : Array Oper} {rest : List Oper} {o : Oper} {a : Act} {w : World} {Q : Exit → Act → World → Prop} (hgd : o.guard = none) (e : E) (hok : Ok e) (x : Operand) (ho : o.op = .buildSlice 68 1 #[(0, x)]) (hx : a.eval x = EV e)
    (h : wpListIn F n Try.prog ops Q rest (a.put o.dst (.slice (some ⟨w.heap.size, 0, none⟩) 1 1)) (w.alloc (.cells (cells e).toArray 57))) : wpListIn F n Try.prog ops Q (o :: rest) a w := by
  refine wpListIn_plain hgd fun K' hK' => ?_
  unfold Oper.wpIn
  refine ⟨by simp [Oper.about, ho], ?_⟩
  rw [Oper.semAt_plain F _ _ (by rw [ho]; intro c hc'; cases hc'), build_to hok x ho hx]
  exact hK' _ _ h
theorem wpListIn_append {F : Fence} {n : Nat} {P : Program} {ops : Array Oper} {rest : List Oper} {o : Oper} {a : Act} {w w' : World} {Q : Exit → Act → World → Prop} (hgd : o.guard = none) (s x : Operand) (t : TypeId)
    (ho : o.op = .call { callee := .builtin .append, args := #[s, x], argTypes := #[t, t] }) {v u v' : Value} (hs : a.eval s = v) (hx : a.eval x = u) (hr : (Builtin.append_ #[t, t] o.type #[v, u]).run P w = .ok v' w')
    (h : wpListIn F n P ops Q rest (a.put o.dst v') w') : wpListIn F n P ops Q (o :: rest) a w := by
  refine wpListIn_plain hgd fun K' hK' => ?_
  unfold Oper.wpIn
  refine ⟨?_, ?_⟩
  · simp [Oper.about, ho, resolve, Target.leads, Sem.run_pure]
  · rw [Oper.semAt_plain F _ _ (by rw [ho]; intro c hc'; cases hc')]
    simp [execOp, ho, resolve, invoke, builtin, hs, hx, hr, Result.andThen]
    exact hK' _ _ h
theorem alloc_setRow (w : World) (z cs : Array Value) (t : TypeId) : (w.alloc (.cells z t)).setRow w.heap.size cs = w.alloc (.cells cs t) := by
  unfold World.setRow World.alloc
  congr 1
  apply Array.ext_getElem?
  intro i
  rw [Array.getElem?_modify]
  by_cases h : w.heap.size = i
  · subst h; simp
  · rw [if_neg h, Array.getElem?_push, Array.getElem?_push, if_neg (Ne.symm h), if_neg (Ne.symm h)]
theorem below_putObj {w A : World} (h : Below w.heap.size w A) {l : Nat} {o' : Obj} (hl : w.heap.size ≤ l) : Below w.heap.size w (A.putObj l o') :=
  ⟨h.os, h.tape, h.output, by simpa using h.size, fun j hj => (World.putObj_heap_other (by omega)).trans (h.block j hj)⟩
/-- boxed: what a function has captured -/
def Box (w : World) (p : Nat) (t : TypeId) (v : Value) : Prop := w.heap[p]? = some (.cells #[v] t (0, 0))
theorem Box.kp {w w' : World} {p : Nat} {t : TypeId} {v : Value} (h : Box w p t v) (hb : Below w.heap.size w w') : Box w' p t v := (hb.block p (Array.getElem?_eq_some_iff.1 h).1).trans h
theorem Box.cell {w : World} {p : Nat} {t : TypeId} {v : Value} (h : Box w p t v) : w.cell? ⟨p, 0, none⟩ = some v := by rw [cell_of_row _ _ _ _ _ _ h]; rfl
theorem box_new (w : World) (t : TypeId) (v : Value) : Box (w.alloc (.cells #[v] t (0, 0))) w.heap.size t v := heap_alloc_new _ _
/-- the messages to a node -/
def toL (node : Int) (l : List E) : List E := l.filter fun e => e.t == node
theorem toL_succ {node : Int} {l : List E} {k : Nat} {e : E} (h : l[k]? = some e) : toL node (l.take (k + 1)) = toL node (l.take k) ++ (if e.t == node then [e] else []) := by
  unfold toL
  rw [List.take_add_one, h, List.filter_append]
  congr 1
  show List.filter _ [e] = _
  cases hb : e.t == node <;> simp [List.filter, hb]
theorem toL_at {node : Int} {l : List E} {k : Nat} {e : E} (h : l[k]? = some e) (ht : (e.t == node) = true) : (toL node l)[(toL node (l.take k)).length]? = some e := by
  have hk := (List.getElem?_eq_some_iff.1 h).1
  have e1 : toL node l = toL node (l.take (k + 1)) ++ toL node (l.drop (k + 1)) := by unfold toL; rw [← List.filter_append, List.take_append_drop]
  rw [e1, toL_succ h, ht, if_pos rfl, List.append_assoc, List.getElem?_append_right (Nat.le_refl _), Nat.sub_self]
  rfl
theorem going_any (v : Option Addr) (node : Int) (w : World) :
    Calls Try.prog 65 #[.pointer v, .int .i64 node] w fun r w' => r = .returned (.func (.func 76) #[] #[.pointer (some ⟨w.heap.size, 0, none⟩), .pointer (some ⟨w.heap.size + 1, 0, none⟩)]) ∧ w' = (w.alloc (.cells #[.pointer v] 62)).alloc (.cells #[.int .i64 node] 3) := by
  go_enter Try.func65, Try.ntmps65
  go_wp2
  go_ret
  exact ⟨rfl, rfl⟩
set_option maxRecDepth 100000 in
set_option maxHeartbeats 4000000 in
theorem none_iter (m : Nat) (hm : 1 ≤ m) (q1 q2 : Nat) :
    Og.IterL Fence.wide m Try.prog 76 #[.pointer (some ⟨q1, 0, none⟩), .pointer (some ⟨q2, 0, none⟩)] (fun W => Box W q1 62 (.pointer none)) (fun e : E => #[EV e]) [] := by
  intro l J Jx W hst hR hY h0
  have HST := Lib.hid hst; have HR := Lib.hid hR; have HY := Lib.hid hY; have H0 := Lib.hid h0
  have c1 := (hR _ _ h0).cell
  clear hst hR hY h0
  refine callsIn_of_wp Try.func76 rfl trivial ?_ rfl
  simp only [Try.ntmps76, List.size_toArray, List.length_cons, List.length_nil, Nat.reduceAdd, Nat.reduceSub, Array.replicate_succ, Array.replicate_zero, List.push_toArray, List.append_toArray, List.nil_append, List.cons_append]
  refine Og.wpIn_scope ?_
  gi_wp2_with fail
  refine ⟨trivial, (callsIn_wide.2 (isNone_nil _)).mono ?_⟩
  rintro e W2 ⟨rfl, rfl⟩
  gi_wp2_with fail
  rw [Exit.noGoto_ret]
  exact bodyPost_ret (results_none rfl _ _ _) rfl ⟨⟨_, rfl⟩, .inl H0.out⟩
set_option maxRecDepth 100000 in
set_option maxHeartbeats 4000000 in
theorem going_iter (m : Nat) (hm : 1 ≤ m) (q1 q2 : Nat) (F : Nat → Prop) (p most : Nat) (a : Option Addr) (c : Nat) (xs : List E) (node : Int) :
    Og.IterL Fence.wide m Try.prog 76 #[.pointer (some ⟨q1, 0, none⟩), .pointer (some ⟨q2, 0, none⟩)] (fun W => Box W q1 62 (.pointer (some ⟨p, 0, none⟩)) ∧ Box W q2 3 (.int .i64 node) ∧ Nin W F p most a c xs) (fun e : E => #[EV e]) (toL node xs) := by
  intro l J Jx W hst hR hY h0
  have HST := Lib.hid hst; have HR := Lib.hid hR; have HY := Lib.hid hY; have H0 := Lib.hid h0
  have c1 := (hR _ _ h0).1.cell
  have c2 := (hR _ _ h0).2.2.c1
  have hl := (hR _ _ h0).2.2.len
  have hm8 := (hR _ _ h0).2.2.max
  have KN := Lib.hid (isNone_any W ⟨a, c, (hR _ _ h0).2.2⟩)
  clear hst hR hY h0
  refine callsIn_of_wp Try.func76 rfl trivial ?_ rfl
  simp only [Try.ntmps76, List.size_toArray, List.length_cons, List.length_nil, Nat.reduceAdd, Nat.reduceSub, Array.replicate_succ, Array.replicate_zero, List.push_toArray, List.append_toArray, List.nil_append, List.cons_append]
  refine Og.wpIn_scope ?_
  gi_wp2_with fail
  refine ⟨trivial, (callsIn_wide.2 KN.out).mono ?_⟩
  rintro e W2 ⟨rfl, rfl⟩
  gi_wp2_with fail
  refine wpIn_label ?_
  gi_wp2_with fail
  clear c1 c2
  gi_loopw [5, 13] (fun _ i wr => ∃ k : Nat, k ≤ xs.length ∧ i = .int .i64 (k : Int) ∧ J (toL node (xs.take k)).length wr) (fun _ i _ => xs.length - (intOf i).toNat)
  case atStart => exact ⟨0, Nat.zero_le _, rfl, H0.out⟩
  case round =>
    obtain ⟨k, hk, rfl, hj⟩ := hrel
    have HJ := Lib.hid hj
    clear hj
    by_cases hlt : k < xs.length
    · have hki : (k : Int) < (xs.length : Int) := by omega
      obtain ⟨e, he⟩ : ∃ e, xs[k]? = some e := ⟨_, List.getElem?_eq_getElem hlt⟩
      obtain ⟨ga, o, ea, hc⟩ := (HR.out _ _ HJ.out).2.2.ls.at_ he
      have HOK := Lib.hid ((HR.out _ _ HJ.out).2.2.ls.ok_ he)
      have HC := Lib.hid hc
      have HE := Lib.hid he
      clear hc he
      rw [ea]
      obtain ⟨vb, hvb⟩ : ∃ vb, vb = wr.heap.size := ⟨_, rfl⟩
      obtain ⟨B, hB⟩ : ∃ B, B = wr.alloc (.cells #[.int .i64 0, .int .i64 0, .int .i64 0, .int .u32 0, .int .u8 0, .int .u8 0, .int .u8 0, .int .u8 0, .int .u8 0, .int .u8 0, .int .u8 0, .int .u8 0, .int .u8 0, .int .u8 0, .int .u8 0, .int .u8 0, .int .u8 0, .int .u8 0, .int .u8 0, .int .u8 0] 57) := ⟨_, rfl⟩
      have HB := Lib.hid hB; have HVB := Lib.hid hvb
      have B0 := Lib.hid (show Below wr.heap.size wr B by rw [hB]; exact (Below.refl wr.heap.size wr).alloc (Nat.le_refl _) _)
      have R0 := Lib.hid (show B.heap[vb]? = some (.cells (cells E0).toArray 57 (0, 0)) by rw [hB, hvb]; exact heap_alloc_new _ _)
      clear hB hvb
      gi_wp2_with (first
        | ((with_reducible show wpListIn _ _ _ _ _ (Oper.mk (some 16) _ _ _ _ _ :: _) _ _); refine wpListIn_load_at rfl 57 (.tmp 15) rfl ga (o + k * 20) rfl (cells e) _ HC.out Try.underlying57 rfl (by rw [HOK.out.len]; exact size_msg) ?_)
        | ((with_reducible show wpListIn _ _ _ _ _ (Oper.mk none (Op.store 57 _ _) _ _ _ _ :: _) _ _); rw [← HB.out, ← HVB.out]; refine wpListIn_store_own rfl 57 (.tmp 5) (.tmp 16) rfl vb (cells e).toArray rfl rfl 57 _ R0.out (by rw [HOK.out.size]; exact size_msg) (by rw [HOK.out.size]; rfl) (cells_all e) ?_
           intro W3 HW3
           have B3 := Lib.hid (B0.out.trans (HW3.below.mono (by rw [HVB.out]; exact Nat.le_refl _)))
           have R3 := Lib.hid HW3.row
           have HJ3 := Lib.hid (HST.out _ _ _ HJ.out B3.out)
           clear HW3
           refine Stop.out ?_))
      refine ⟨?_⟩
      have c5 := cells_at R3.out (cell2 e)
      have c6 := (HR.out _ _ HJ3.out).2.1.cell
      by_cases ht : e.t = node
      · have htb : (e.t == node) = true := by simpa using ht
        have htn : (e.t != node) = false := by simpa using ht
        have HN := Lib.hid (show toL node (xs.take (k + 1)) = toL node (xs.take k) ++ [e] from by rw [toL_succ HE.out, htb]; rfl)
        obtain ⟨fn, tmps, assign, body, hy, hRd⟩ := HY.out _ _ W3 (toL_at HE.out htb) HJ3.out
        unfold EV at hy
        clear ht htb
        gi_wp2_with (first
          | ((with_reducible show wpListIn _ _ _ _ _ (Oper.mk (some 24) _ _ _ _ _ :: _) _ _); refine wpListIn_load_row rfl 57 (.tmp 5) rfl vb rfl 57 (cells e).toArray (0, 0) _ R3.out Try.underlying57 rfl (by rw [HOK.out.size]; exact size_msg) ?_))
        refine hRd.mono ?_
        rintro e' W4 (⟨rfl, hJ4⟩ | ⟨rfl, hJx4⟩)
        · have HJ4 := Lib.hid hJ4; clear hJ4 hy hRd
          gi_wp2_with fail
          go_roundw
          case rel => exact ⟨k + 1, by omega, by go_num, by rw [HN.out, List.length_append]; exact HJ4.out⟩
          case measure => simp [intOf]; omega
        · have HJ4 := Lib.hid hJx4; clear hJx4 hy hRd
          gi_wp2_with fail
          rw [Exit.noGoto_normal]
          refine bodyPost_end (results_none rfl _ _ _) rfl ?_
          exact ⟨⟨_, rfl⟩, .inr HJ4.out⟩
      · have htb : (e.t == node) = false := by simpa using ht
        have htn : (e.t != node) = true := by simpa using ht
        have HN := Lib.hid (show toL node (xs.take (k + 1)) = toL node (xs.take k) from by rw [toL_succ HE.out, htb]; simp)
        clear ht htb
        gi_wp2_with fail
        go_roundw
        case rel => exact ⟨k + 1, by omega, by go_num, by rw [HN.out]; exact HJ3.out⟩
        case measure => simp [intOf]; omega
    · have hki : ¬ (k : Int) < (xs.length : Int) := by omega
      have HN := Lib.hid (show xs.take k = xs by rw [List.take_of_length_le (by omega)])
      gi_wp2_with fail
      refine bodyPost_end (results_none rfl _ _ _) rfl ?_
      exact ⟨⟨_, rfl⟩, .inl (by have := HJ.out; rw [HN.out] at this; exact this)⟩
end Nt
end Go.Proofs.Ytnfpcklpmfemiaa
