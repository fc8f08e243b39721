/-
  A line is put behind the others of its set; a line of a set is another one.
-/
import Derived.Test.YtifniogldinbdaaLnTurn
import Derived.Test.YtifniogldinbdaaOgSF
import Derived.Deep.AppendLies
namespace Go.Proofs.Ytifniogldinbdaa
open Go.RowKit
set_option linter.unusedVariables false
set_option linter.unusedSimpArgs false
namespace Ln
theorem sixteen {l : List Int} (h : l.length = 16) : ∃ a b c d e f g h i j k m n o p q, l = [a, b, c, d, e, f, g, h, i, j, k, m, n, o, p, q] := by
  match l, h with
  | [a, b, c, d, e, f, g, h, i, j, k, m, n, o, p, q], _ => exact ⟨a, b, c, d, e, f, g, h, i, j, k, m, n, o, p, q, rfl⟩
set_option maxRecDepth 100000 in
theorem run_buildLine (e : E) (hok : Ok e) (w : World) : (Instr.buildSlice 38 1 #[(0, EV e)]).run Try.prog w = .ok (.slice (some ⟨w.heap.size, 0, none⟩) 1 1) (w.alloc (.cells (cells e).toArray 30)) := by
  obtain ⟨n, s, b⟩ := e
  obtain ⟨b0, b1, b2, b3, b4, b5, b6, b7, b8, b9, b10, b11, b12, b13, b14, b15, rfl⟩ := sixteen hok.b
  kernel_rfl
theorem build_to {o : Oper} {ρ : Operand → Value} {w : World} {e : E} (hok : Ok e) (x : Operand) (ho : o.op = .buildSlice 38 1 #[(0, x)]) (hx : ρ x = EV e) : (execOp ρ o).run Try.prog w = .ok (.value (.slice (some ⟨w.heap.size, 0, none⟩) 1 1)) (w.alloc (.cells (cells e).toArray 30)) := by
  unfold execOp
  simp only [ho, Sem.run_bind, List.map_toArray, List.map_cons, List.map_nil, hx, run_buildLine e hok w, Result.andThen_ok, Sem.run_pure]
theorem wpList_buildLine {ops : Array Oper} {rest : List Oper} {o : Oper} {a : Act} {w : World} {Q : Exit → Act → World → Prop} (hgd : o.guard = none) (e : E) (hok : Ok e) (x : Operand) (ho : o.op = .buildSlice 38 1 #[(0, x)]) (hx : a.eval x = EV e)
    (h : wpList Try.prog ops Q rest (a.put o.dst (.slice (some ⟨w.heap.size, 0, none⟩) 1 1)) (w.alloc (.cells (cells e).toArray 30))) : wpList Try.prog ops Q (o :: rest) a w :=
  wpList_plain hgd fun _ hK => Og.run_to (build_to hok x ho hx) (hK _ _ h)
theorem own_form {w : World} {base : Nat} {t : TypeId} {sz n : Nat} {v : Value} {xs : List Value} (h : w.ownsRow base t sz v n xs) : ∃ a c, v = .slice a n c := by
  rcases h.2 with ⟨rfl, rfl⟩ | ⟨g, cap, cur, rfl, _⟩
  · exact ⟨_, _, rfl⟩
  · exact ⟨_, _, rfl⟩
theorem take3 {A B C : List Value} {n : Nat} (h : A.length + B.length ≤ n) : (A ++ B ++ C).take n = A ++ B ++ C.take (n - (A.length + B.length)) := by
  rw [List.take_append, List.take_of_length_le (by rw [List.length_append]; exact h), List.length_append]
theorem info_row1 : (Try.prog.info? 38).map (·.size) = some 1 := by kernel_rfl
theorem Cin.append {w : World} {F p g ways S} (h : Cin w F p g ways S) {i : Nat} {r : RW} (hr : S[i]? = some r) {e : E} (hok : Ok e) (hf : r.l.length < ways) :
    ∃ (a : Option Addr) (c : Nat) (w2 : World), (Builtin.append_ #[38, 38] 38 #[.slice r.a r.l.length r.c, .slice (some ⟨w.heap.size, 0, none⟩) 1 1]).run Try.prog (w.alloc (.cells (cells e).toArray 30)) = .ok (.slice a (r.l.length + 1) c) w2 ∧
      w2.heap[g]? = some (.cells (S.map RW.v).toArray 38 (0, 0)) ∧ (∀ k, k < w.heap.size → some k ≠ r.v.ownBlock → w2.heap[k]? = w.heap[k]?) ∧
      Turns F w (w2.setCell ⟨g, i, none⟩ (.slice a (r.l.length + 1) c)) p ways ((S.map (·.l)).set i (r.l ++ [e])) := by
  obtain ⟨i0, hi, hz0, hz1, hz2⟩ := info_line
  have hw8 := h.wlen
  have hrow := h.rows i r hr
  have hrowA : (w.alloc (.cells (cells e).toArray 30)).ownsRow 0 30 18 r.v r.l.length (flat r.l) := hrow.alloc _
  obtain ⟨v', w2, h1, h2, h3, _, h5⟩ := run_append_own_at (P := Try.prog) (w.alloc (.cells (cells e).toArray 30)) 0 38 38 30 i0 (EV E0) 18 32 Try.underlying38 hi hz0 hz1 hz2 rfl (by decide) r.v r.l.length (flat r.l) hrowA ⟨w.heap.size, 0, none⟩ 1 1 (cells e) (by rw [hok.len]) (World.news_of_block (heap_alloc_new w _)) (cells_one e) (by unfold maxLen; omega) (by omega) (Nat.zero_le _)
  rw [← flat_one e, ← flat_app] at h2
  obtain ⟨a, c, rfl⟩ := own_form h2
  have hsz : (w.alloc (.cells (cells e).toArray 30)).heap.size = w.heap.size + 1 := by simp
  have hb : ∀ k, k < w.heap.size → some k ≠ r.v.ownBlock → w2.heap[k]? = w.heap[k]? := fun k hk hne => (h3.block k (by omega) hne).trans ((World.grownBy_alloc w _ none).block k hk (by simp))
  have hl1 : (r.l ++ [e]).length = r.l.length + 1 := by simp
  obtain ⟨k1, k2⟩ := h.put_row (r' := ⟨a, c, r.l ++ [e]⟩) hr h3.os h3.tape h3.output (by have := h3.size; omega) hb (by unfold RW.v; rw [hl1]; exact h2) (fun k hk => by
    have hk' : (Value.slice a (r.l.length + 1) c).ownBlock = some k := by unfold RW.v at hk; rw [hl1] at hk; exact hk
    rcases h5 with h5 | h5
    · exact .inl (h5 ▸ hk')
    · rw [hk'] at h5
      have := Option.some.inj h5
      exact .inr (by omega)) (fun x hx => by
    rcases List.mem_append.1 hx with hx | hx
    · exact h.ok r (List.mem_of_getElem? hr) x hx
    · obtain rfl : x = e := by simpa using hx
      exact hok) (by rw [hl1]; exact hf)
  refine ⟨a, c, w2, h1, k1, hb, ?_⟩
  unfold RW.v at k2
  rw [hl1] at k2
  exact k2
theorem Cin.p_ne {w : World} {F p g ways S} (h : Cin w F p g ways S) {i : Nat} {r : RW} (hr : S[i]? = some r) : some p ≠ r.v.ownBlock := by
  intro e
  rcases (h.rows i r hr).2 with ⟨e1, _⟩ | ⟨g', cap, cur, e1, _, hg', _⟩
  · rw [e1] at e; cases e
  · rw [e1] at e
    obtain rfl : p = g' := by simpa [Value.ownBlock] using e
    rw [h.box] at hg'; simp at hg'
theorem Cin.new_ne {w : World} {F p g ways S} (h : Cin w F p g ways S) {i : Nat} {r : RW} (hr : S[i]? = some r) {b : Nat} (hb : w.heap.size ≤ b) : some b ≠ r.v.ownBlock := by
  intro e
  have := h.lt b (h.fr r (List.mem_of_getElem? hr) b e.symm)
  omega
/-- a line of a set is stored over another one -/
theorem Cin.over {w : World} {F p g ways S} (h : Cin w F p g ways S) {i k : Nat} {r : RW} (hr : S[i]? = some r) (hk : k < r.l.length) {e : E} (hok : Ok e) :
    ∃ (b : Nat) (cur : Array Value), r.a = some ⟨b, 0, none⟩ ∧ w.heap[b]? = some (.cells cur 30 (0, 0)) ∧ k * 18 + (cells e).length ≤ cur.size ∧
      Turns F w (w.setRow b (cur.toList.take (k * 18) ++ cells e ++ cur.toList.drop (k * 18 + (cells e).length)).toArray) p ways ((S.map (·.l)).set i (r.l.set k e)) := by
  have hrow := h.rows i r hr
  have hokr := h.ok r (List.mem_of_getElem? hr)
  rcases hrow.2 with ⟨e1, hn⟩ | ⟨b, cap, cur, e1, hb0, hb, hnc, hcm, hcs, ht⟩
  · omega
  · unfold RW.v at e1
    injection e1 with e1 _ e3
    have hel := hok.len
    have hov : r.v.ownBlock = some b := by unfold RW.v; rw [e1]; rfl
    have hbg : b ≠ g := by intro e; rw [e, h.sets] at hb; simp at hb
    refine ⟨b, cur, e1, hb, by rw [hel, hcs]; omega, ?_⟩
    have HS := Ev.set1 (cs := (cur.toList.take (k * 18) ++ cells e ++ cur.toList.drop (k * 18 + (cells e).length)).toArray) hb (by simp [hel]; omega)
    have hrr : (⟨r.a, r.c, r.l.set k e⟩ : RW).v = r.v := by unfold RW.v; simp
    refine h.turn (r' := ⟨r.a, r.c, r.l.set k e⟩) hr rfl rfl rfl (by rw [HS.size]; exact Nat.le_refl _) (fun j _ _ hj => HS.block j (fun e => hj (by rw [hov, e]))) ?_ ?_ (fun j hj => .inl (hrr ▸ hj)) ?_ ?_
    · rw [HS.block g (Ne.symm hbg), h.sets]
      congr 2
      rw [List.map_set, hrr]
      congr 1
      apply List.ext_getElem?
      intro j
      by_cases hj : j = i
      · subst hj
        rw [List.getElem?_set_self (by simpa using (List.getElem?_eq_some_iff.1 hr).1), List.getElem?_map, hr]; rfl
      · rw [List.getElem?_set_ne (Ne.symm hj)]
    · have hl1 : (r.l.set k e).length = r.l.length := by simp
      have hflat : flat (r.l.set k e) = (flat r.l).take (k * 18) ++ cells e ++ (flat r.l).drop (k * 18 + 18) := by
        have h1 : ∀ x ∈ r.l.take k, Ok x := fun x hx => hokr x (List.mem_of_mem_take hx)
        have h2 := flat_len h1
        have h3 : r.l = r.l.take k ++ (r.l[k] :: r.l.drop (k + 1)) := by rw [← List.drop_eq_getElem_cons hk, List.take_append_drop]
        have h4 : r.l.set k e = r.l.take k ++ (e :: r.l.drop (k + 1)) := by rw [List.set_eq_take_append_cons_drop, if_pos hk]
        have h5 := (hokr r.l[k] (List.getElem_mem hk)).len
        have h6 : (flat (r.l.take k)).length = k * 18 := by rw [h2, List.length_take]; omega
        have hc : ∀ (x : E) (l : List E), flat (x :: l) = cells x ++ flat l := fun x l => by unfold flat; simp
        rw [h4, flat_app, hc, List.append_assoc]
        conv => rhs; rw [h3]
        rw [flat_app, hc]
        rw [List.take_left' h6]
        rw [show k * 18 + 18 = (flat (r.l.take k) ++ cells r.l[k]).length by rw [List.length_append, h6, h5]]
        rw [← List.append_assoc (flat (r.l.take k)) (cells r.l[k]), List.drop_left]
      refine ⟨?_, .inr ⟨b, cap, _, ?_, Nat.zero_le _, HS.row, ?_, hcm, ?_, ?_⟩⟩
      · show (flat (r.l.set k e)).length = (r.l.set k e).length * 18
        rw [flat_len (fun x hx => by rcases List.mem_or_eq_of_mem_set hx with h | h; exact hokr x h; rw [h]; exact hok)]
      · unfold RW.v; simp only [hl1]; rw [e1, e3]
      · simp only [hl1]; exact hnc
      · simp [hel]; omega
      · show List.take ((r.l.set k e).length * 18) _ = flat (r.l.set k e)
        have hA : (cur.toList.take (k * 18)).length = k * 18 := by rw [List.length_take, Array.length_toList]; omega
        rw [hflat, ← ht, hl1, hel, take3 (by rw [hA, hel]; omega), hA, hel, List.take_take, Nat.min_eq_left (by omega : k * 18 ≤ r.l.length * 18), List.drop_take]
    · intro x hx
      rcases List.mem_or_eq_of_mem_set hx with h | h
      · exact hokr x h
      · rw [h]; exact hok
    · show (r.l.set k e).length ≤ ways
      rw [List.length_set]; exact h.fits r (List.mem_of_getElem? hr)
end Ln
end Go.Proofs.Ytifniogldinbdaa
