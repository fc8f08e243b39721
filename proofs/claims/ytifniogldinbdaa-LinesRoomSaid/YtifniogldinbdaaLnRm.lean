/-
  A set that is full makes room: the plain lists.
-/
import Derived.Test.YtifniogldinbdaaLnTl
namespace Go.Proofs.Ytifniogldinbdaa
open Go.RowKit
set_option linter.unusedVariables false
set_option linter.unusedSimpArgs false
namespace Og
section
variable {P : Program} {ops : Array Oper} {Q : Exit → Go.Act → World → Prop} {md : Region.Mode} {S : Nat → World → Prop}
theorem s_take_g {fuel : Nat} {listed : Array Bool} {a : Go.Act} {w : World} (i : Nat) (o : Oper) (v : Value) (a' : Go.Act) (hi : ops[i]? = some o) (hg : Region.wanted o (yielded ops a.tmps) = true)
    (hs : Region.noSelect ops = true) (hf : Region.free md ops listed i = true) (hr : (Region.ready md ops listed).contains i = true)
    (hQ : ∀ c a w, Q (.panic c) (a.put o.dst v) w → Q (.panic c) a w) (hS : S i w)
    (hrun : ∀ x, S i x → (execOp a.eval o).run P x = .ok (.value v) x) (ha : a.put o.dst v = a')
    (h : wpAnyS P md ops Q S fuel (listed.setIfInBounds i true) a' w) : wpAnyS P md ops Q S (fuel + 1) listed a w :=
  wpAnyS_first hi (Region.noSelect_spec hs) hQ fuel listed a w (Region.free_spec hi hf) (by simpa using hr) (Or.inl ⟨hg, hrun⟩) hS (by rw [ha]; exact h)
theorem s_one_g {fuel : Nat} {listed : Array Bool} {a : Go.Act} {w : World} (i : Nat) (o : Oper) (hi : ops[i]? = some o) (hg : Region.wanted o (yielded ops a.tmps) = true) (hr : Region.ready md ops listed = [i])
    (h : o.wp P a w (fun a' w' => Keep md ops S i w w' ∧ wpAnyS P md ops Q S fuel (listed.setIfInBounds i true) a' w') Q) : wpAnyS P md ops Q S (fuel + 1) listed a w :=
  ⟨fun h0 => absurd (hr ▸ h0) (by simp), fun j hj => by
    rw [hr] at hj
    obtain rfl : j = i := by simpa using hj
    unfold wpOp
    rw [hi]
    simp only [hg, if_true]
    exact .inl h⟩
end
end Og
namespace Ln
/-- a cache in a law's world -/
structure Cl (w W : World) (F : Nat → Prop) (p s ways : Nat) (l : List E) : Prop where
  cache : Cache W F p ways (rows l s)
  bel : Below w.heap.size w W
  lo : ∀ k, F k → w.heap.size ≤ k
theorem Cl.kp {w W W' : World} {F p s ways l} (h : Cl w W F p s ways l) (hb : Below W.heap.size W W') : Cl w W' F p s ways l := ⟨h.cache.kp hb, h.bel.trans (hb.mono h.bel.size), h.lo⟩
theorem Cl.turn {w W W' : World} {F p s ways l l'} (h : Cl w W F p s ways l) (ht : Turns F W W' p ways (rows l' s)) : ∃ F', Cl w W' F' p s ways l' ∧ Fr F W W' ∧ ∀ k, F' k → F k ∨ W.heap.size ≤ k := by
  obtain ⟨F', h1, h2, h3⟩ := ht
  refine ⟨F', ⟨h1, Fr.below h.bel h2 h.lo (Nat.le_refl _), fun k hk => ?_⟩, h2, h3⟩
  rcases h3 k hk with h4 | h4
  · exact h.lo k h4
  · have := h.bel.size; omega
theorem putRE_two {s ways : Nat} {l : List E} {e : E} (hh : held e.s = true) : putRE s ways l e = 0 ∨ putRE s ways l e = 200 := by
  unfold putRE
  rw [if_pos hh]
  split
  · exact .inl rfl
  · split
    · exact .inr rfl
    · exact .inl rfl
theorem fd_app {l r : List E} {n : Int} : fd (l ++ r) n = (fd l n).or (fd r n) := by unfold fd; rw [List.find?_append]
theorem fd_repl_other {l : List E} {n m : Int} {e : E} (he : e.n = n) (h : m ≠ n) : fd (repl l n e) m = fd l m := by
  induction l with
  | nil => rfl
  | cons x r ih =>
    rw [repl_cons]
    by_cases hx : x.n = n
    · rw [if_pos hx, fd_cons, fd_cons, if_neg (by omega), if_neg (by omega)]
    · rw [if_neg hx, fd_cons, fd_cons, ih]
theorem fd_repl_self {l : List E} {n : Int} {e : E} (he : e.n = n) (h : 0 ≤ ix l n 0) : fd (repl l n e) n = some e := by
  rw [ix_mem] at h
  induction l with
  | nil => obtain ⟨x, hx, _⟩ := h; cases hx
  | cons x r ih =>
    rw [repl_cons]
    by_cases hx : x.n = n
    · rw [if_pos hx, fd_cons, if_pos he]
    · rw [if_neg hx, fd_cons, if_neg hx]
      apply ih
      obtain ⟨y, hy, hn⟩ := h
      rcases List.mem_cons.1 hy with rfl | hy
      · exact absurd hn hx
      · exact ⟨y, hy, hn⟩
/-- what is put is found -/
theorem put_self {s ways : Nat} {l : List E} {e : E} (hh : held e.s = true) (h : putRE s ways l e = 0) : fd (putRL s ways l e) e.n = some e := by
  unfold putRE at h
  unfold putRL
  rw [if_pos hh] at h ⊢
  by_cases h0 : 0 ≤ ix l e.n 0
  · rw [if_pos h0, set_repl e h0]
    exact fd_repl_self rfl h0
  · rw [if_neg h0] at h ⊢
    by_cases h1 : ways ≤ (ofL l s (e.n.toNat % s)).length
    · rw [if_pos h1] at h; cases h
    · rw [if_neg h1, fd_app, fd_none (by omega)]
      unfold fd; simp
/-- the others stay -/
theorem put_other {s ways : Nat} {l : List E} {e : E} {m : Int} (hm : m ≠ e.n) : fd (putRL s ways l e) m = fd l m := by
  unfold putRL
  split
  · split
    · rename_i h0
      rw [set_repl e h0]
      exact fd_repl_other rfl hm
    · split
      · rfl
      · rw [fd_app]
        have h1 : fd [e] m = none := by unfold fd; simp; omega
        rw [h1]; simp
  · rfl
theorem nodup_inj {l : List E} (h : (l.map (·.n)).Nodup) {a b : E} (ha : a ∈ l) (hb : b ∈ l) (hn : a.n = b.n) : a = b := by
  obtain ⟨i, hi⟩ := List.getElem?_of_mem ha
  obtain ⟨j, hj⟩ := List.getElem?_of_mem hb
  have h1 := fd_self h hi
  have h2 := fd_self h hj
  rw [hn, h2] at h1
  exact (Option.some.inj h1).symm
theorem fd_mem {l : List E} (h : (l.map (·.n)).Nodup) {m : E} (hm : m ∈ l) : fd l m.n = some m := by
  obtain ⟨i, hi⟩ := List.getElem?_of_mem hm
  exact fd_self h hi
theorem drop_stays {l : List E} (h : (l.map (·.n)).Nodup) {m v : E} (hm : m ∈ l) (hv : v ∈ l) (hne : m ≠ v) : fd (dropL l v.n) m.n = some m := by
  have h1 : ((dropL l v.n).map (·.n)).Nodup := List.Sublist.nodup (List.Sublist.map _ List.filter_sublist) h
  refine fd_mem h1 ?_
  unfold dropL
  refine List.mem_filter.2 ⟨hm, ?_⟩
  have : m.n ≠ v.n := fun e => hne (nodup_inj h hm hv e)
  simpa using this
/-- which line is to make room -/
theorem room {s ways : Nat} {l : List E} {e : E} (hr : Rl s ways l) (hh : held e.s = true) (h : putRE s ways l e = 200) (pick : Int) :
    ∃ v, vic ways (rows l s) e.n pick = some v ∧ v ∈ l ∧ v.n.toNat % s = e.n.toNat % s ∧ 0 ≤ ix l v.n 0 ∧ putRE s ways (dropL l v.n) e = 0 ∧ putRL s ways l e = l := by
  have hw0 := hr.w0
  unfold putRE at h
  rw [if_pos hh] at h
  by_cases h0 : 0 ≤ ix l e.n 0
  · rw [if_pos h0] at h; cases h
  · rw [if_neg h0] at h
    by_cases h1 : ways ≤ (ofL l s (e.n.toNat % s)).length
    · have h2 : (ofL l s (e.n.toNat % s)).length = ways := Nat.le_antisymm (hr.fit _) h1
      have h3 := Int.emod_nonneg pick (by omega : (ways : Int) ≠ 0)
      have h4 := Int.emod_lt_of_pos pick (by omega : (0 : Int) < (ways : Int))
      have h5 : (pick % (ways : Int)).toNat < (ofL l s (e.n.toNat % s)).length := by omega
      obtain ⟨v, hv⟩ : ∃ v, (ofL l s (e.n.toNat % s))[(pick % (ways : Int)).toNat]? = some v := ⟨_, List.getElem?_eq_getElem h5⟩
      have hm := List.mem_of_getElem? hv
      have hm2 := hm
      unfold ofL at hm2
      obtain ⟨hml, hms⟩ := List.mem_filter.1 hm2
      refine ⟨v, ?_, hml, by simpa using hms, ix_mem.2 ⟨v, hml, rfl⟩, ?_, ?_⟩
      · unfold vic
        rw [rowQ_rows l s hr.s0, if_neg (fun hc => h0 (ix_ofL.1 hc)), if_pos h2, hv]
      · unfold putRE
        rw [if_pos hh]
        split
        · rfl
        · have h6 : (ofL (dropL l v.n) s (e.n.toNat % s)).length < ways := by
            rw [drop_ofL, ← h2]
            unfold dropL
            refine Nat.lt_of_le_of_ne (List.length_filter_le _ _) (fun hc => ?_)
            have h7 := List.filter_eq_self.1 ((List.filter_sublist (l := ofL l s (e.n.toNat % s)) (p := fun x => x.n != v.n)).eq_of_length hc) v hm
            simp at h7
          rw [if_neg (by omega)]
      · unfold putRL
        rw [if_pos hh, if_neg h0, if_pos h1]
    · rw [if_neg h1] at h; cases h
theorem flat_mem {l : List E} {s : Nat} {m : E} (h : m ∈ (rows l s).flatten) : m ∈ l := by
  obtain ⟨r, hr, hm⟩ := List.mem_flatten.1 h
  unfold rows at hr
  obtain ⟨j, _, rfl⟩ := List.mem_map.1 hr
  exact (List.mem_filter.1 hm).1
theorem umod {n : Int} {s : Nat} (hn : Ev.u32B n) (h0 : 0 < s) : n % (s : Int) = ((n.toNat % s : Nat) : Int) := by
  unfold Ev.u32B at hn
  have : n = (n.toNat : Int) := by omega
  rw [this]; simp
/-- a cache, a list that was told of it, a line in a box -/
structure Rm (w W : World) (F : Nat → Prop) (p s ways : Nat) (l : List E) (a : Option Addr) (c : Nat) (wl : List E) (gb : Nat) (m : E) : Prop where
  cl : Cl w W F p s ways l
  own : W.ownsRow w.heap.size 30 18 (.slice a wl.length c) wl.length (flat wl)
  nf : ∀ k, (Value.slice a wl.length c).ownBlock = some k → ¬ F k ∧ k ≠ gb
  row : W.heap[gb]? = some (.cells (cells m).toArray 30 (0, 0))
  gf : ¬ F gb
  glo : w.heap.size ≤ gb
variable {w W W' : World} {F : Nat → Prop} {p s ways : Nat} {l l' wl : List E} {a : Option Addr} {c gb : Nat} {m m' : E}
theorem Rm.glt (h : Rm w W F p s ways l a c wl gb m) : gb < W.heap.size := (Array.getElem?_eq_some_iff.1 h.row).1
theorem Rm.kp (h : Rm w W F p s ways l a c wl gb m) (hb : Below W.heap.size W W') : Rm w W' F p s ways l a c wl gb m :=
  ⟨h.cl.kp hb, row_kept h.own (fun k hk => hb.block k (h.own.lt k hk).2), h.nf, (hb.block _ h.glt).trans h.row, h.gf, h.glo⟩
theorem Rm.turn (h : Rm w W F p s ways l a c wl gb m) (ht : Turns F W W' p ways (rows l' s)) : ∃ F', Rm w W' F' p s ways l' a c wl gb m ∧ Fr F W W' ∧ ∀ k, F' k → F k ∨ W.heap.size ≤ k := by
  obtain ⟨F', h1, h2, h3⟩ := h.cl.turn ht
  refine ⟨F', ⟨h1, row_kept h.own (fun k hk => h2.block k (h.own.lt k hk).2 (h.nf k hk).1), fun k hk => ⟨fun hF => ?_, (h.nf k hk).2⟩, (h2.block _ h.glt h.gf).trans h.row, fun hF => ?_, h.glo⟩, h2, h3⟩
  · rcases h3 k hF with h4 | h4
    · exact (h.nf k hk).1 h4
    · have := (h.own.lt k hk).2; omega
  · rcases h3 gb hF with h4 | h4
    · exact h.gf h4
    · have := h.glt; omega
theorem Rm.gone (h : Rm w W F p s ways l a c wl gb m) (hs : Ev.Set1 W W' gb 30 (cells m').toArray) : Rm w W' F p s ways l a c wl gb m' :=
  ⟨⟨h.cl.cache.kept (by rw [hs.size]; exact Nat.le_refl _) (fun k hk => hs.block k (fun e => h.gf (by rw [← e]; exact hk))), h.cl.bel.trans (hs.below.mono h.glo), h.cl.lo⟩,
    row_kept h.own (fun k hk => hs.block k (h.nf k hk).2), h.nf, hs.row, h.gf, h.glo⟩
end Ln
end Go.Proofs.Ytifniogldinbdaa
