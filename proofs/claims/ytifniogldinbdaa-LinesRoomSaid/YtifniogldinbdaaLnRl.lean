/-
  The sets of a cache, and the document's one list: plain.
-/
import Derived.Test.YtifniogldinbdaaLnRef4
namespace Go.Proofs.Ytifniogldinbdaa
set_option linter.unusedVariables false
set_option linter.unusedSimpArgs false
namespace Ln
/-- the first of a number is another one -/
def repl : List E → Int → E → List E
  | [], _, _ => []
  | x :: r, n, e => if x.n = n then e :: r else x :: repl r n e
/-- the first of a number is gone -/
def era : List E → Int → List E
  | [], _ => []
  | x :: r, n => if x.n = n then r else x :: era r n
theorem ix_shift (l : List E) (n : Int) (k : Nat) : ix l n (k + 1) = if 0 ≤ ix l n k then ix l n k + 1 else -1 := by
  induction l generalizing k with
  | nil => rfl
  | cons x r ih =>
    unfold ix
    by_cases h : x.n = n
    · rw [if_pos h, if_pos h, if_pos (by omega)]; omega
    · rw [if_neg h, if_neg h]; exact ih (k + 1)
theorem set_repl {l : List E} {n : Int} (e : E) (h : 0 ≤ ix l n 0) : l.set (ix l n 0).toNat e = repl l n e := by
  induction l with
  | nil => rfl
  | cons x r ih =>
    unfold ix at h ⊢
    unfold repl
    by_cases hx : x.n = n
    · rw [if_pos hx, if_pos hx]; rfl
    · rw [if_neg hx] at h
      rw [if_neg hx, if_neg hx]
      rw [ix_shift] at h ⊢
      by_cases h2 : 0 ≤ ix r n 0
      · rw [if_pos h2, show (ix r n 0 + 1).toNat = (ix r n 0).toNat + 1 by omega, List.set_cons_succ, ih h2]
      · rw [if_neg h2] at h; omega
theorem erase_era {l : List E} {n : Int} (h : 0 ≤ ix l n 0) : l.eraseIdx (ix l n 0).toNat = era l n := by
  induction l with
  | nil => rfl
  | cons x r ih =>
    unfold ix at h ⊢
    unfold era
    by_cases hx : x.n = n
    · rw [if_pos hx, if_pos hx]; rfl
    · rw [if_neg hx] at h
      rw [if_neg hx, if_neg hx]
      rw [ix_shift] at h ⊢
      by_cases h2 : 0 ≤ ix r n 0
      · rw [if_pos h2, show (ix r n 0 + 1).toNat = (ix r n 0).toNat + 1 by omega, List.eraseIdx_cons_succ, ih h2]
      · rw [if_neg h2] at h; omega
theorem ix_mem {l : List E} {n : Int} : 0 ≤ ix l n 0 ↔ ∃ e ∈ l, e.n = n := by
  constructor
  · intro h
    obtain ⟨i, e, _, h2, h3, _⟩ := ix_some h
    exact ⟨e, List.mem_of_getElem? h2, h3⟩
  · rintro ⟨e, he, hn⟩
    apply Classical.byContradiction
    intro hc
    exact (ix_none (by omega : ix l n 0 < 0)).2 e he hn
theorem ix_ofL {l : List E} {n : Int} {s : Nat} : 0 ≤ ix (ofL l s (n.toNat % s)) n 0 ↔ 0 ≤ ix l n 0 := by
  rw [ix_mem, ix_mem]
  constructor
  · rintro ⟨e, he, hn⟩; exact ⟨e, (List.mem_filter.1 he).1, hn⟩
  · rintro ⟨e, he, hn⟩; exact ⟨e, List.mem_filter.2 ⟨he, by simp [hn]⟩, hn⟩
theorem ofL_cons (x : E) (r : List E) (s t : Nat) : ofL (x :: r) s t = if x.n.toNat % s = t then x :: ofL r s t else ofL r s t := by
  unfold ofL
  by_cases h : x.n.toNat % s = t
  · rw [if_pos h, List.filter_cons_of_pos (by simpa using h)]
  · rw [if_neg h, List.filter_cons_of_neg (by simpa using h)]
theorem repl_cons (x : E) (r : List E) (n : Int) (e : E) : repl (x :: r) n e = if x.n = n then e :: r else x :: repl r n e := rfl
theorem fd_cons (x : E) (r : List E) (n : Int) : fd (x :: r) n = if x.n = n then some x else fd r n := by
  unfold fd
  by_cases h : x.n = n
  · rw [if_pos h, List.find?_cons_of_pos (by simpa using h)]
  · rw [if_neg h, List.find?_cons_of_neg (by simpa using h)]
theorem fd_ofL (l : List E) (n : Int) (s : Nat) : fd (ofL l s (n.toNat % s)) n = fd l n := by
  induction l with
  | nil => rfl
  | cons x r ih =>
    rw [ofL_cons, fd_cons]
    by_cases hx : x.n = n
    · rw [if_pos (by rw [hx]), fd_cons, if_pos hx, if_pos hx]
    · rw [if_neg hx]
      by_cases hp : x.n.toNat % s = n.toNat % s
      · rw [if_pos hp, fd_cons, if_neg hx]; exact ih
      · rw [if_neg hp]; exact ih
theorem repl_ofL (l : List E) (n : Int) (e : E) (he : e.n = n) (s : Nat) : ofL (repl l n e) s (n.toNat % s) = repl (ofL l s (n.toNat % s)) n e := by
  induction l with
  | nil => rfl
  | cons x r ih =>
    rw [repl_cons, ofL_cons]
    by_cases hx : x.n = n
    · rw [if_pos hx, ofL_cons, if_pos (by rw [he]), if_pos (by rw [hx]), repl_cons, if_pos hx]
    · rw [if_neg hx, ofL_cons, ih]
      by_cases hp : x.n.toNat % s = n.toNat % s
      · rw [if_pos hp, if_pos hp, repl_cons, if_neg hx]
      · rw [if_neg hp, if_neg hp]
theorem repl_other (l : List E) (n : Int) (e : E) (he : e.n = n) (s t : Nat) (ht : t ≠ n.toNat % s) : ofL (repl l n e) s t = ofL l s t := by
  induction l with
  | nil => rfl
  | cons x r ih =>
    rw [repl_cons, ofL_cons]
    by_cases hx : x.n = n
    · rw [if_pos hx, ofL_cons, if_neg (by rw [he]; exact Ne.symm ht), if_neg (by rw [hx]; exact Ne.symm ht)]
    · rw [if_neg hx, ofL_cons, ih]
theorem era_ofL (l : List E) (n : Int) (hn : (l.map (·.n)).Nodup) : era l n = dropL l n := by
  unfold dropL
  induction l with
  | nil => rfl
  | cons x r ih =>
    rw [List.map_cons, List.nodup_cons] at hn
    unfold era
    by_cases hx : x.n = n
    · rw [if_pos hx, List.filter_cons_of_neg (by simp [hx])]
      symm
      rw [List.filter_eq_self]
      intro y hy
      have : y.n ≠ n := fun e => hn.1 (List.mem_map.2 ⟨y, hy, by rw [e, hx]⟩)
      simpa using this
    · rw [if_neg hx, List.filter_cons_of_pos (by simpa using hx), ih hn.2]
theorem drop_ofL (l : List E) (n : Int) (s t : Nat) : ofL (dropL l n) s t = dropL (ofL l s t) n := by
  unfold ofL dropL
  rw [List.filter_filter, List.filter_filter]
  congr 1
  funext e
  rw [Bool.and_comm]
theorem drop_other (l : List E) (n : Int) (s t : Nat) (ht : t ≠ n.toNat % s) : dropL (ofL l s t) n = ofL l s t := by
  unfold dropL
  rw [List.filter_eq_self]
  intro e he
  have h := (List.mem_filter.1 he).2
  have : e.n ≠ n := fun e' => ht (by rw [e'] at h; exact (by simpa using h : n.toNat % s = t).symm)
  simpa using this
theorem ofL_nodup {l : List E} (h : (l.map (·.n)).Nodup) (s t : Nat) : ((ofL l s t).map (·.n)).Nodup := List.Sublist.nodup (List.Sublist.map _ List.filter_sublist) h
/-- the sets that a list makes -/
def rows (l : List E) (s : Nat) : List (List E) := (List.range s).map (ofL l s)
theorem rows_len (l : List E) (s : Nat) : (rows l s).length = s := by simp [rows]
theorem rows_set (l l' : List E) (s t : Nat) (ht : t < s) (x : List E) (h1 : ofL l' s t = x) (h2 : ∀ j, j ≠ t → ofL l' s j = ofL l s j) : (rows l s).set t x = rows l' s := by
  apply List.ext_getElem?
  intro j
  by_cases hj : j < s
  · by_cases e : j = t
    · subst e
      rw [List.getElem?_set_self (by rw [rows_len]; exact ht)]
      unfold rows
      rw [List.getElem?_map, List.getElem?_range hj]
      simp [h1]
    · rw [List.getElem?_set_ne (Ne.symm e)]
      unfold rows
      rw [List.getElem?_map, List.getElem?_map, List.getElem?_range hj]
      simp [h2 j e]
  · rw [List.getElem?_eq_none (by rw [List.length_set, rows_len]; omega), List.getElem?_eq_none (by rw [rows_len]; omega)]
theorem rowQ_rows (l : List E) (s : Nat) (hs : 0 < s) (n : Int) : rowQ (rows l s) n = ofL l s (n.toNat % s) := by
  unfold rowQ
  rw [rows_len, List.getD_eq_getElem?_getD]
  unfold rows
  rw [List.getElem?_map, List.getElem?_range (Nat.mod_lt _ hs)]
  rfl
theorem sQ_rows (l : List E) (s : Nat) (n : Int) : sQ (rows l s) n = n.toNat % s := by unfold sQ; rw [rows_len]
/-- a list that a cache may have -/
structure Rl (s ways : Nat) (l : List E) : Prop where
  s0 : 0 < s
  s1 : s ≤ 64
  w0 : 0 < ways
  w1 : ways ≤ 8
  nd : (l.map (·.n)).Nodup
  ok : ∀ e ∈ l, Ok e
  fit : ∀ t, (ofL l s t).length ≤ ways
theorem Rl.nil {s ways : Nat} (h1 : 0 < s) (h2 : s ≤ 64) (h3 : 0 < ways) (h4 : ways ≤ 8) : Rl s ways [] := ⟨h1, h2, h3, h4, by simp, (fun e he => by cases he), fun t => Nat.zero_le _⟩
theorem putE_eq {s ways : Nat} {l : List E} (h : Rl s ways l) (e : E) : putE ways (rows l s) e = putRE s ways l e := by
  unfold putE putRE
  rw [rowQ_rows l s h.s0]
  by_cases h1 : held e.s = true
  · rw [if_pos h1, if_pos h1]
    by_cases h2 : 0 ≤ ix l e.n 0
    · rw [if_pos (ix_ofL.2 h2), if_pos h2]
    · rw [if_neg (fun h => h2 (ix_ofL.1 h)), if_neg h2]
      have := h.fit (e.n.toNat % s)
      by_cases h3 : (ofL l s (e.n.toNat % s)).length = ways
      · rw [if_pos h3, if_pos (by omega)]
      · rw [if_neg h3, if_neg (by omega)]
  · rw [if_neg h1, if_neg h1]
theorem putQ_eq {s ways : Nat} {l : List E} (h : Rl s ways l) (e : E) : putQ ways (rows l s) e = rows (putRL s ways l e) s := by
  unfold putQ putRL
  rw [rowQ_rows l s h.s0, sQ_rows]
  have hm := Nat.mod_lt e.n.toNat h.s0
  by_cases h1 : held e.s = true
  · rw [if_pos h1, if_pos h1]
    by_cases h2 : 0 ≤ ix l e.n 0
    · rw [if_pos (ix_ofL.2 h2), if_pos h2, set_repl e (ix_ofL.2 h2), set_repl e h2]
      exact rows_set l _ s _ hm _ (repl_ofL l e.n e rfl s) (fun j hj => repl_other l e.n e rfl s j hj)
    · rw [if_neg (fun h => h2 (ix_ofL.1 h)), if_neg h2]
      have := h.fit (e.n.toNat % s)
      by_cases h3 : (ofL l s (e.n.toNat % s)).length = ways
      · rw [if_pos h3, if_pos (by omega)]
      · rw [if_neg h3, if_neg (by omega)]
        refine rows_set l _ s _ hm _ ?_ (fun j hj => ?_)
        · unfold ofL; rw [List.filter_append]; simp
        · unfold ofL; rw [List.filter_append]
          rw [show List.filter (fun e => e.n.toNat % s == j) [e] = [] by rw [List.filter_cons_of_neg (by simp; omega)]; rfl, List.append_nil]
  · rw [if_neg h1, if_neg h1]
theorem dropQ_eq {s ways : Nat} {l : List E} (h : Rl s ways l) (n : Int) : Ln.dropQ (rows l s) n = rows (dropL l n) s := by
  unfold dropQ
  rw [rowQ_rows l s h.s0, sQ_rows]
  have hm := Nat.mod_lt n.toNat h.s0
  by_cases h2 : 0 ≤ ix l n 0
  · rw [if_pos (ix_ofL.2 h2), erase_era (ix_ofL.2 h2), era_ofL _ _ (ofL_nodup h.nd _ _)]
    refine rows_set l _ s _ hm _ (drop_ofL l n s _) (fun j hj => ?_)
    rw [drop_ofL, drop_other l n s j hj]
  · rw [if_neg (fun h => h2 (ix_ofL.1 h))]
    have : dropL l n = l := by
      unfold dropL
      rw [List.filter_eq_self]
      intro e he
      have := (ix_none (by omega : ix l n 0 < 0)).2 e he
      simpa using this
    rw [this]
theorem repl_nums (l : List E) (e : E) : (repl l e.n e).map (·.n) = l.map (·.n) := by
  induction l with
  | nil => rfl
  | cons x r ih =>
    unfold repl
    by_cases hx : x.n = e.n
    · rw [if_pos hx]; simp [hx]
    · rw [if_neg hx]; simp [ih]
theorem repl_mem {l : List E} {n : Int} {e x : E} (h : x ∈ repl l n e) : x ∈ l ∨ x = e := by
  induction l with
  | nil => exact .inl h
  | cons y r ih =>
    unfold repl at h
    by_cases hy : y.n = n
    · rw [if_pos hy] at h
      rcases List.mem_cons.1 h with h | h
      · exact .inr h
      · exact .inl (List.mem_cons_of_mem _ h)
    · rw [if_neg hy] at h
      rcases List.mem_cons.1 h with h | h
      · exact .inl (h ▸ List.mem_cons_self)
      · exact (ih h).imp (List.mem_cons_of_mem _) id
theorem repl_len (l : List E) (n : Int) (e : E) : (repl l n e).length = l.length := by
  induction l with
  | nil => rfl
  | cons x r ih =>
    unfold repl
    by_cases hx : x.n = n
    · rw [if_pos hx]; rfl
    · rw [if_neg hx]; simp [ih]
theorem Rl.put {s ways : Nat} {l : List E} (h : Rl s ways l) {e : E} (he : Ok e) : Rl s ways (putRL s ways l e) ∧ (putRL s ways l e).length ≤ l.length + 1 := by
  unfold putRL
  by_cases h1 : held e.s = true
  · rw [if_pos h1]
    by_cases h2 : 0 ≤ ix l e.n 0
    · rw [if_pos h2, set_repl e h2]
      refine ⟨⟨h.s0, h.s1, h.w0, h.w1, by rw [repl_nums]; exact h.nd, fun x hx => ?_, fun t => ?_⟩, by rw [repl_len]; omega⟩
      · rcases repl_mem hx with hx | rfl
        · exact h.ok x hx
        · exact he
      · by_cases ht : t = e.n.toNat % s
        · rw [ht, repl_ofL l e.n e rfl s, repl_len]; exact h.fit _
        · rw [repl_other l e.n e rfl s t ht]; exact h.fit t
    · rw [if_neg h2]
      by_cases h3 : ways ≤ (ofL l s (e.n.toNat % s)).length
      · rw [if_pos h3]; exact ⟨h, by omega⟩
      · rw [if_neg h3]
        refine ⟨⟨h.s0, h.s1, h.w0, h.w1, ?_, fun x hx => ?_, fun t => ?_⟩, by simp⟩
        · rw [List.map_append, List.nodup_append]
          refine ⟨h.nd, by simp, ?_⟩
          intro x hx y hy hxy
          obtain ⟨z, hz, rfl⟩ := List.mem_map.1 hx
          have hy' : y = e.n := by simpa using hy
          exact (ix_none (by omega : ix l e.n 0 < 0)).2 z hz (by rw [hxy, hy'])
        · rcases List.mem_append.1 hx with hx | hx
          · exact h.ok x hx
          · obtain rfl : x = e := by simpa using hx
            exact he
        · unfold ofL
          rw [List.filter_append, List.length_append]
          by_cases ht : e.n.toNat % s = t
          · subst ht
            have : (List.filter (fun x => x.n.toNat % s == e.n.toNat % s) [e]).length = 1 := by simp
            unfold ofL at h3
            omega
          · rw [List.filter_cons_of_neg (by simpa using ht)]
            exact h.fit t
  · rw [if_neg h1]; exact ⟨h, by omega⟩
theorem Rl.drop {s ways : Nat} {l : List E} (h : Rl s ways l) (n : Int) : Rl s ways (dropL l n) :=
  ⟨h.s0, h.s1, h.w0, h.w1, List.Sublist.nodup (List.Sublist.map _ List.filter_sublist) h.nd, fun e he => h.ok e (List.mem_filter.1 he).1, fun t => by
    rw [drop_ofL]; exact Nat.le_trans (dropL_len _ _) (h.fit t)⟩
theorem sum_one (s x : Nat) (hx : x < s) (f : Nat → Nat) : ((List.range s).map (fun t => f t + if x = t then 1 else 0)).sum = ((List.range s).map f).sum + 1 := by
  induction s with
  | zero => omega
  | succ s ih =>
    rw [List.range_succ, List.map_append, List.map_append, List.sum_append, List.sum_append]
    by_cases h : x = s
    · subst h
      have : ((List.range x).map (fun t => f t + if x = t then 1 else 0)) = (List.range x).map f := by
        apply List.map_congr_left
        intro t ht
        have := List.mem_range.1 ht
        rw [if_neg (by omega)]; rfl
      rw [this]
      simp; omega
    · rw [ih (by omega)]
      simp [h]; omega
theorem flat_rows_len (l : List E) (s : Nat) (hs : 0 < s) : (rows l s).flatten.length = l.length := by
  rw [List.length_flatten]
  unfold rows
  rw [List.map_map]
  induction l with
  | nil =>
    have : (List.length ∘ ofL [] s) = fun _ => 0 := rfl
    rw [this]
    have key : ∀ m : List Nat, (m.map (fun _ => 0)).sum = 0 := fun m => by induction m with
      | nil => rfl
      | cons a m ih => simpa using ih
    exact key _
  | cons x r ih =>
    have : (List.length ∘ ofL (x :: r) s) = fun t => (List.length ∘ ofL r s) t + if x.n.toNat % s = t then 1 else 0 := by
      funext t
      show (ofL (x :: r) s t).length = (ofL r s t).length + _
      unfold ofL
      by_cases h : x.n.toNat % s = t
      · rw [List.filter_cons_of_pos (by simpa using h), if_pos h]; rfl
      · rw [List.filter_cons_of_neg (by simpa using h), if_neg h]; rfl
    rw [this, sum_one s _ (Nat.mod_lt _ hs), ih]; rfl
theorem fd_self {l : List E} (h : (l.map (·.n)).Nodup) {k : Nat} {m : E} (hm : l[k]? = some m) : fd l m.n = some m := by
  unfold fd
  induction l generalizing k with
  | nil => cases hm
  | cons x r ih =>
    rw [List.map_cons, List.nodup_cons] at h
    cases k with
    | zero =>
      obtain rfl : x = m := by simpa using hm
      rw [List.find?_cons_of_pos (by simp)]
    | succ k =>
      have hm' : r[k]? = some m := by simpa using hm
      have hne : x.n ≠ m.n := fun e => h.1 (List.mem_map.2 ⟨m, List.mem_of_getElem? hm', e.symm⟩)
      rw [List.find?_cons_of_neg (by simpa using hne)]
      exact ih h.2 hm'
end Ln
end Go.Proofs.Ytifniogldinbdaa
