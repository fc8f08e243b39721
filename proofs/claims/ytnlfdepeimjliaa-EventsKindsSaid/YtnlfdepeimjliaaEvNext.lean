/-
  A map of rows of numbers: what a look-up tells, in whatever world that has more.
-/
import Derived.Test.YtnlfdepeimjliaaEvOrd
import Derived.Maps.OwnRows
import Derived.Maps.Range
import Derived.Laws.AppendOwn
import Derived.Maps.AppendAt
namespace Go.Proofs.Ytnlfdepeimjliaa
open Go.RowKit Go.Maps Go.WideElems Go.ChangeShapes
set_option linter.unusedVariables false
set_option linter.unusedSimpArgs false
section
variable {H : Type} {P : Program} {k E e t : TypeId} {q : IntKind} {w : World} {base b n : Nat} {D : DataW H} {key : Value} {kl : Lit}
theorem groups_look (h : w.ownsGroups P k base e q b n D) (K : Keyed P k) (ht : P.underlying t = some (.map k E)) (hz : ∀ x, (zeroValue E).run P x = .ok (.slice none 0 0) x) (hn : n < maxLen) (hkey : keyOf P k key = some kl) :
    ∃ v zs, (∀ x, Below w.heap.size w x → (Instr.lookup t (.map (some b)) key false).run P x = .ok v x) ∧ D.atKey kl .nil = rowDatum q v zs ∧ w.ownsInts base e q v zs ∧ zs.length ≤ n ∧ w.groupBack P t k base e q b n D key kl v := by
  obtain ⟨v, zs, hrun, hat, hoi, hzl, hback⟩ := h.at (t := t) (E := E) K ht (hz w) hn hkey
  refine ⟨v, zs, fun x hx => ?_, hat, hoi, hzl, hback⟩
  obtain ⟨es, clock, hb, F, hs, hD, hbb, hlen, hap⟩ := h
  have hbx : x.heap[b]? = some (.map es clock) := (hx.block b (Array.getElem?_eq_some_iff.1 hb).1).trans hb
  have ok_inj : ∀ {x : World} {a c : Value}, (Result.ok a x : Result Value) = Result.ok c x → a = c := fun h => by injection h
  rcases Maps.fit_look false K ht (hz w) hb F hkey with ⟨r1, m1, _⟩ | ⟨e0, y0, hm0, hk0, r1, _, _, _⟩
  · rcases Maps.fit_look false K ht (hz x) hbx F hkey with ⟨r2, m2, _⟩ | ⟨e1, y1, hm1, hk1, r2, _, _, _⟩
    · have := ok_inj (hrun.symm.trans r1); simp at this
      rw [r2, this]; rfl
    · exact absurd hk1 (m1 e1 hm1)
  · rcases Maps.fit_look false K ht (hz x) hbx F hkey with ⟨r2, m2, _⟩ | ⟨e1, y1, hm1, hk1, r2, _, _, _⟩
    · exact absurd hk0 (m2 e0 hm0)
    · have he : e0 = e1 := entry_eq_of_key (List.pairwise_map.1 F.stamped.2.2) hm0 hm1 (hk0.trans hk1.symm)
      subst he
      have := ok_inj (hrun.symm.trans r1); simp at this
      rw [r2, this]; rfl
end
namespace Ev
/-- a row of numbers, as a datum -/
def rd (zs : List Int) : DataW Unit := if zs = [] then .nil else .slice (lits .i64 zs) []
theorem lits_inj : ∀ {a c : List Int}, (lits (H := Unit) .i64 a) = lits .i64 c → a = c := by
  intro a c h
  have h2 := congrArg (List.map fun d : DataW Unit => match d with | .lit (.int _ n) => n | _ => 0) h
  have h3 : ∀ l : List Int, (lits (H := Unit) .i64 l).map (fun d : DataW Unit => match d with | .lit (.int _ n) => n | _ => 0) = l := by
    intro l; induction l with
    | nil => rfl
    | cons x r ih => simp only [lits, List.map_cons] at ih ⊢; rw [ih]
  rw [h3, h3] at h2; exact h2
theorem rd_of {w : World} {base : Nat} {e : TypeId} {v : Value} {zs S : List Int} (ho : w.ownsInts base e .i64 v zs) (h : rd S = rowDatum .i64 v zs) : zs = S := by
  rcases ho.datum (H := Unit) with ⟨h1, h2⟩ | h1
  · rw [h1] at h; unfold rd at h
    split at h
    · rename_i e; rw [h2, e]
    · cases h
  · rw [h1] at h; unfold rd at h
    split at h
    · cases h
    · injection h with h; exact (lits_inj h).symm
/-- where the arrows of a place go -/
def succs (ps : List (Int × Int)) (y : Int) : List Int := (ps.filter fun p => p.1 == y).map (·.2)
theorem succs_snoc (ps : List (Int × Int)) (p : Int × Int) (y : Int) : succs (ps ++ [p]) y = if p.1 = y then succs ps y ++ [p.2] else succs ps y := by
  unfold succs
  rw [List.filter_append, List.map_append]
  by_cases h : p.1 = y
  · simp [h]
  · rw [if_neg h]; simp [h]
theorem succs_len (ps : List (Int × Int)) (y : Int) : (succs ps y).length ≤ ps.length := by unfold succs; rw [List.length_map]; exact List.length_filter_le _ _
theorem mem_succs {ps : List (Int × Int)} {y z : Int} : z ∈ succs ps y ↔ (y, z) ∈ ps := by
  unfold succs
  constructor
  · intro h
    obtain ⟨p, hp, rfl⟩ := List.mem_map.1 h
    obtain ⟨h1, h2⟩ := List.mem_filter.1 hp
    have : p.1 = y := by simpa using h2
    subst this; exact h1
  · intro h
    exact List.mem_map.2 ⟨(y, z), List.mem_filter.2 ⟨h, by simp⟩, rfl⟩
/-- a map of rows that tells where arrows go -/
structure GroupsAre (w : World) (base b n : Nat) (ps : List (Int × Int)) : Prop where
  ex : ∃ D : DataW Unit, w.ownsGroups Try.prog 3 base 3 .i64 b n D ∧ ∀ y, i64B y → D.atKey (.int .i64 y) .nil = rd (succs ps y)
theorem groups_isMap {H : Type} {P : Program} {k e : TypeId} {q : IntKind} {w : World} {base b n : Nat} {D : DataW H} (h : w.ownsGroups P k base e q b n D) : IsMap D := by
  obtain ⟨es, clock, _, _, _, hD, _⟩ := h
  exact ⟨_, hD⟩
theorem groups_step {D : DataW Unit} {ps : List (Int × Int)} {x z : Int} (hm : IsMap D) (hD : ∀ y, i64B y → D.atKey (.int .i64 y) .nil = rd (succs ps y)) (y : Int) (hy : i64B y) :
    (D.put (.int .i64 x) (.slice (lits .i64 (succs ps x ++ [z])) [])).atKey (.int .i64 y) .nil = rd (succs (ps ++ [(x, z)]) y) := by
  rw [succs_snoc]
  by_cases h : x = y
  · subst h
    rw [Maps.atKey_put_same hm (iskey_int _ _), if_pos rfl]
    unfold rd; rw [if_neg (by simp)]
  · rw [Maps.atKey_put_other (by intro e; injection e with _ e; exact h e.symm), hD y hy, if_neg h]
/-- what a look-up tells, once nothing is added -/
def NextIn (w : World) (b : Nat) (F : Int → List Int) : Prop :=
  ∀ w', Below w.heap.size w w' → ∀ y, i64B y → ∃ s : Sl, s.l = F y ∧ IntsIn w' s ∧ (Instr.lookup 65 (.map (some b)) (.int .i64 y) false).run Try.prog w' = .ok (.slice s.a s.l.length s.c) w'
theorem NextIn.below {w w' : World} {b : Nat} {F : Int → List Int} (h : NextIn w b F) (hb : Below w.heap.size w w') : NextIn w' b F :=
  fun x hx y hy => h x (hb.trans (hx.mono hb.size)) y hy
theorem zero_ints (w : World) : (zeroValue 23).run Try.prog w = .ok (.slice none 0 0) w := by kernel_rfl
theorem ints_of_own {w : World} {base : Nat} {e : TypeId} {v : Value} {zs : List Int} (h : w.ownsInts base e .i64 v zs) : ∃ s : Sl, v = .slice s.a s.l.length s.c ∧ s.l = zs ∧ IntsIn w s := by
  have hb : ∀ z ∈ zs, i64B z := fun z hz => by
    have := h.2 z hz
    have h1 : IntKind.i64.min = -9223372036854775808 := by decide
    have h2 : IntKind.i64.max = 9223372036854775807 := by decide
    simp only [Lit.wf, h1, h2, Bool.and_eq_true, decide_eq_true_eq] at this
    exact this
  rcases h.1.2 with ⟨rfl, hn⟩ | ⟨g, cap, cur, rfl, _, hh, hnc, hcm, _, ht⟩
  · refine ⟨⟨none, 0, zs⟩, by simp [hn], rfl, fun hp => ?_, by show zs.length ≤ 0; omega, by show (0 : Nat) ≤ _; omega, hb⟩
    exfalso; have : 0 < zs.length := hp; omega
  · refine ⟨⟨some ⟨g, 0, none⟩, cap, zs⟩, rfl, rfl, fun _ => ⟨g, 0, rfl, fun j v hv => ?_⟩, hnc, by unfold maxLen at hcm; exact hcm, hb⟩
    have h1 : (zs.map (Value.int .i64))[j]? = some (.int .i64 v) := by rw [List.getElem?_map, hv]; rfl
    rw [← ht, List.getElem?_take] at h1
    split at h1
    · rw [cell_of_row w g _ cur e (0, 0) hh]; simpa using h1
    · cases h1
theorem next_of {w : World} {base b n : Nat} {ps : List (Int × Int)} (h : GroupsAre w base b n ps) (hn : n < maxLen) : NextIn w b (succs ps) := by
  obtain ⟨D, ho, hD⟩ := h.ex
  intro w' hb y hy
  obtain ⟨v, zs, hrun, hat, hoi, _, _⟩ := groups_look ho law_int Try.underlying65 zero_ints hn (keyOf_int_mk (P := Try.prog) Try.underlying3 (wf_of_i64 hy))
  rw [hD y hy] at hat
  have hz := rd_of hoi hat
  obtain ⟨s, hv, hs, hin⟩ := ints_of_own hoi
  exact ⟨s, hs.trans hz, hin.kp (kp_below hb), by rw [hrun w' hb, hv]⟩
end Ev
end Go.Proofs.Ytnlfdepeimjliaa
