import Derived.Test.YtfajkgbpeapcbaaNa12
import Derived.Maps.OwnOps
import Derived.Laws.EntriesVeiled
set_option linter.unusedVariables false
set_option linter.unusedSimpArgs false

section
namespace Go.Proofs.Ytfajkgbpeapcbaa
open Go.RowKit
namespace Hm
open Nt
set_option maxRecDepth 100000
section
variable {tp ep mp g : Nat} {S Q : Nat → Prop}
open Go.Maps (Keyed int_keyed keyOf_int_mk IsMap)
open Classical in
noncomputable def funElem (tp : Nat) (v : Value) : Option (DataW Unit × List MemPlace) :=
  if v = .nilFunc then some (.nil, []) else if h : ∃ f : Nat, v = .func (.func f) #[.pointer (some ⟨tp, 0, none⟩)] #[] then some (.lit (.int .i64 ((Classical.choose h : Nat) : Int)), []) else none
theorem funElem_mk (tp f : Nat) : funElem tp (.func (.func f) #[.pointer (some ⟨tp, 0, none⟩)] #[]) = some (.lit (.int .i64 (f : Int)), []) := by
  have h : ∃ g : Nat, (Value.func (.func f) #[.pointer (some ⟨tp, 0, none⟩)] #[]) = .func (.func g) #[.pointer (some ⟨tp, 0, none⟩)] #[] := ⟨f, rfl⟩
  unfold funElem
  rw [if_neg (fun e => by cases e), dif_pos h]
  have := Classical.choose_spec h
  injection this with this
  injection this with this
  rw [← this]
theorem funElem_nil (tp : Nat) : funElem tp .nilFunc = some (.nil, []) := if_pos rfl
theorem funElem_inv {tp f : Nat} {v : Value} {ps : List MemPlace} (h : funElem tp v = some (.lit (.int .i64 (f : Int)), ps)) : v = .func (.func f) #[.pointer (some ⟨tp, 0, none⟩)] #[] := by
  unfold funElem at h
  split at h
  · injection h with h; injection h with h _; cases h
  · split at h
    · rename_i e
      have h2 := Classical.choose_spec e
      injection h with h
      injection h with h _
      injection h with h
      injection h with _ h
      rw [Int.ofNat.inj h] at h2
      exact h2
    · cases h
theorem funElem_inv_nil {tp : Nat} {v : Value} {ps : List MemPlace} (h : funElem tp v = some (.nil, ps)) : v = .nilFunc := by
  unfold funElem at h
  split at h
  · rename_i e; exact e
  · split at h
    · injection h with h; injection h with h _; cases h
    · cases h
def D3 (k1 k2 k3 : Int) (f1 f2 f3 : Nat) : DataW Unit := (((DataW.map []).put (.int .i64 k1) (.lit (.int .i64 (f1 : Int)))).put (.int .i64 k2) (.lit (.int .i64 (f2 : Int)))).put (.int .i64 k3) (.lit (.int .i64 (f3 : Int)))
def REQ : DataW Unit := D3 1 2 3 111 112 113
def ANS : DataW Unit := D3 11 12 13 97 98 99
theorem isMap_put {D : DataW Unit} (h : IsMap D) (k : Lit) (d : DataW Unit) : IsMap (D.put k d) := by
  obtain ⟨es, rfl⟩ := h
  exact ⟨_, rfl⟩
theorem isKey (k : Int) : WideAt.IsKeyLit (.int .i64 k) := by first | trivial | exact rfl | simp [WideAt.IsKeyLit]
theorem has_D3 (k1 k2 k3 : Int) (f1 f2 f3 : Nat) (k : Int) : Maps.has (D3 k1 k2 k3 f1 f2 f3) (.int .i64 k) = (decide (k = k1) || decide (k = k2) || decide (k = k3)) := by
  have m1 : IsMap (DataW.map [] : DataW Unit) := ⟨_, rfl⟩
  have m2 : IsMap ((DataW.map [] : DataW Unit).put (.int .i64 k1) (.lit (.int .i64 (f1 : Int)))) := ⟨_, rfl⟩
  have m3 : IsMap (((DataW.map [] : DataW Unit).put (.int .i64 k1) (.lit (.int .i64 (f1 : Int)))).put (.int .i64 k2) (.lit (.int .i64 (f2 : Int)))) := isMap_put m2 _ _
  unfold D3
  have hne : ∀ a b : Int, a ≠ b → Lit.int .i64 a ≠ Lit.int .i64 b := fun a b h e => h (by injection e)
  by_cases h3 : k = k3
  · subst h3; rw [Maps.has_put_same m3 (isKey _)]; simp
  · rw [Maps.has_put_other (hne _ _ h3)]
    by_cases h2 : k = k2
    · subst h2; rw [Maps.has_put_same m2 (isKey _)]; simp
    · rw [Maps.has_put_other (hne _ _ h2)]
      by_cases h1 : k = k1
      · subst h1; rw [Maps.has_put_same m1 (isKey _)]; simp
      · rw [Maps.has_put_other (hne _ _ h1)]; simp [h1, h2, h3]; rfl
theorem at_D3 (k1 k2 k3 : Int) (f1 f2 f3 : Nat) (k : Int) : (D3 k1 k2 k3 f1 f2 f3).atKey (.int .i64 k) .nil = if k = k3 then .lit (.int .i64 (f3 : Int)) else if k = k2 then .lit (.int .i64 (f2 : Int)) else if k = k1 then .lit (.int .i64 (f1 : Int)) else .nil := by
  have m1 : IsMap (DataW.map [] : DataW Unit) := ⟨_, rfl⟩
  have m2 : IsMap ((DataW.map [] : DataW Unit).put (.int .i64 k1) (.lit (.int .i64 (f1 : Int)))) := ⟨_, rfl⟩
  have m3 : IsMap (((DataW.map [] : DataW Unit).put (.int .i64 k1) (.lit (.int .i64 (f1 : Int)))).put (.int .i64 k2) (.lit (.int .i64 (f2 : Int)))) := isMap_put m2 _ _
  unfold D3
  have hne : ∀ a b : Int, a ≠ b → Lit.int .i64 a ≠ Lit.int .i64 b := fun a b h e => h (by injection e)
  by_cases h3 : k = k3
  · subst h3; rw [Maps.atKey_put_same m3 (isKey _), if_pos rfl]
  · rw [Maps.atKey_put_other (hne _ _ h3), if_neg h3]
    by_cases h2 : k = k2
    · subst h2; rw [Maps.atKey_put_same m2 (isKey _), if_pos rfl]
    · rw [Maps.atKey_put_other (hne _ _ h2), if_neg h2]
      by_cases h1 : k = k1
      · subst h1; rw [Maps.atKey_put_same m1 (isKey _), if_pos rfl]
      · rw [Maps.atKey_put_other (hne _ _ h1), if_neg h1]; rfl
theorem law_kind2 : Keyed Try.prog 65 := int_keyed Try.underlying65
theorem zero_fun (w : World) : (zeroValue 127).run Try.prog w = .ok .nilFunc w := by kernel_rfl
theorem look_fun {w : World} {b tp : Nat} {k1 k2 k3 : Int} {f1 f2 f3 : Nat} (h : w.ownsMap Try.prog 65 (funElem tp) b 3 (D3 k1 k2 k3 f1 f2 f3)) {k : Int} (hk : Ev.i64B k) :
    ∃ v, (Instr.lookup 148 (.map (some b)) (.int .i64 k) true).run Try.prog w = .ok (.tuple #[v, .bool (decide (k = k1) || decide (k = k2) || decide (k = k3))]) w ∧
      (k = k3 → v = .func (.func f3) #[.pointer (some ⟨tp, 0, none⟩)] #[]) ∧ (k ≠ k3 → k = k2 → v = .func (.func f2) #[.pointer (some ⟨tp, 0, none⟩)] #[]) ∧ (k ≠ k3 → k ≠ k2 → k = k1 → v = .func (.func f1) #[.pointer (some ⟨tp, 0, none⟩)] #[]) ∧ (k ≠ k3 → k ≠ k2 → k ≠ k1 → v = .nilFunc) := by
  obtain ⟨v, ps, hr, hv⟩ := h.look_ok law_kind2 Try.underlying148 (zero_fun w) (funElem_nil tp) (keyOf_int_mk (P := Try.prog) Try.underlying65 (wf_i64 hk))
  rw [has_D3] at hr
  rw [at_D3] at hv
  refine ⟨v, hr, fun e => ?_, fun e1 e2 => ?_, fun e1 e2 e3 => ?_, fun e1 e2 e3 => ?_⟩
  · rw [if_pos e] at hv; exact funElem_inv hv
  · rw [if_neg e1, if_pos e2] at hv; exact funElem_inv hv
  · rw [if_neg e1, if_neg e2, if_pos e3] at hv; exact funElem_inv hv
  · rw [if_neg e1, if_neg e2, if_neg e3] at hv; exact funElem_inv_nil hv
theorem look_fun0 {w : World} {b tp : Nat} {k1 k2 k3 : Int} {f1 f2 f3 : Nat} (h : w.ownsMap Try.prog 65 (funElem tp) b 3 (D3 k1 k2 k3 f1 f2 f3)) {k : Int} (hk : Ev.i64B k) :
    ∃ v, (Instr.lookup 148 (.map (some b)) (.int .i64 k) false).run Try.prog w = .ok v w ∧
      (k = k3 → v = .func (.func f3) #[.pointer (some ⟨tp, 0, none⟩)] #[]) ∧ (k ≠ k3 → k = k2 → v = .func (.func f2) #[.pointer (some ⟨tp, 0, none⟩)] #[]) ∧ (k ≠ k3 → k ≠ k2 → k = k1 → v = .func (.func f1) #[.pointer (some ⟨tp, 0, none⟩)] #[]) := by
  obtain ⟨v, ps, hr, hv⟩ := h.lookup law_kind2 Try.underlying148 (zero_fun w) (funElem_nil tp) (keyOf_int_mk (P := Try.prog) Try.underlying65 (wf_i64 hk))
  rw [at_D3] at hv
  refine ⟨v, hr, fun e => ?_, fun e1 e2 => ?_, fun e1 e2 e3 => ?_⟩
  · rw [if_pos e] at hv; exact funElem_inv hv
  · rw [if_neg e1, if_pos e2] at hv; exact funElem_inv hv
  · rw [if_neg e1, if_neg e2, if_pos e3] at hv; exact funElem_inv hv
theorem own_at {w w' : World} {P : Program} {k : TypeId} {R : Value → Option (DataW Unit × List MemPlace)} {b n : Nat} {D : DataW Unit} (h : w.ownsMap P k R b n D) (e : w'.heap[b]? = w.heap[b]?) : w'.ownsMap P k R b n D := by
  unfold World.ownsMap at h ⊢
  rw [e]
  exact h
theorem own_block {w : World} {P : Program} {k : TypeId} {R : Value → Option (DataW Unit × List MemPlace)} {b n : Nat} {D : DataW Unit} (h : w.ownsMap P k R b n D) : ∃ o, w.heap[b]? = some o := ⟨_, Array.getElem?_eq_getElem h.lt⟩
set_option maxHeartbeats 8000000 in
theorem requests_any (w : World) : Calls Try.prog 100 #[.pointer (some ⟨tp, 0, none⟩)] w fun e w' => ∃ b, e = .returned (.map (some b)) ∧ w.heap.size ≤ b ∧ w'.ownsMap Try.prog 65 (funElem tp) b 3 REQ ∧ Below w.heap.size w w' := by
  have hmf : ∀ (fn : Fn) (first cap : Array Value) (w : World), (Instr.makeFunc fn first cap).run Try.prog w = .ok (.func fn first cap) w := fun _ _ _ _ => rfl
  have OM := Lib.hid (World.ownsMap_made (H := Unit) w Try.prog 65 (funElem tp))
  have B0 := Lib.hid ((Below.refl w.heap.size w).alloc (Nat.le_refl _) (.map #[] 0))
  have hmm : (Instr.makeMap 148 none).run Try.prog w = .ok (.map (some w.heap.size)) (w.alloc (.map #[] 0)) := by first | rfl | kernel_rfl | simp [Instr.makeMap]
  go_enter Try.func100, Try.ntmps100
  go_wp2_with (first
    | (refine im_wpList_insert_own _ rfl _ _ _ 148 rfl 65 127 law_kind2 Try.underlying148 (funElem tp) w.heap.size 0 (.map []) rfl OM.out (by unfold maxLen; omega) (.int .i64 1) (.func (.func 111) #[.pointer (some ⟨tp, 0, none⟩)] #[]) (.int .i64 1) rfl rfl (keyOf_int_mk (P := Try.prog) Try.underlying65 (by decide)) _ [] (funElem_mk _ _) ?_
       intro W1 hown1 hg1
       have OM1 := Lib.hid hown1; have G1 := Lib.hid hg1
       clear hown1 hg1)
    | (refine im_wpList_insert_own _ rfl _ _ _ 148 rfl 65 127 law_kind2 Try.underlying148 (funElem tp) w.heap.size 1 _ rfl OM1.out (by unfold maxLen; omega) (.int .i64 2) (.func (.func 112) #[.pointer (some ⟨tp, 0, none⟩)] #[]) (.int .i64 2) rfl rfl (keyOf_int_mk (P := Try.prog) Try.underlying65 (by decide)) _ [] (funElem_mk _ _) ?_
       intro W2 hown2 hg2
       have OM2 := Lib.hid hown2; have G2 := Lib.hid hg2
       clear hown2 hg2)
    | (refine im_wpList_insert_own _ rfl _ _ _ 148 rfl 65 127 law_kind2 Try.underlying148 (funElem tp) w.heap.size 2 _ rfl OM2.out (by unfold maxLen; omega) (.int .i64 3) (.func (.func 113) #[.pointer (some ⟨tp, 0, none⟩)] #[]) (.int .i64 3) rfl rfl (keyOf_int_mk (P := Try.prog) Try.underlying65 (by decide)) _ [] (funElem_mk _ _) ?_
       intro W3 hown3 hg3
       have OM3 := Lib.hid hown3; have G3 := Lib.hid hg3
       clear hown3 hg3))
  go_ret
  have h1 : (w.alloc (Obj.map #[] 0)).heap.size = w.heap.size + 1 := by simp
  have h2 := G1.out.size
  have h3 := G2.out.size
  exact ⟨w.heap.size, rfl, Nat.le_refl _, OM3.out, ((((Below.refl _ _).alloc (Nat.le_refl _) _).grown G1.out (by omega) (fun k hk => by cases hk; exact Nat.le_refl _)).grown G2.out (by omega) (fun k hk => by cases hk; exact Nat.le_refl _)).grown G3.out (by omega) (fun k hk => by cases hk; exact Nat.le_refl _)⟩
set_option maxHeartbeats 8000000 in
theorem answers_any (w : World) : Calls Try.prog 86 #[.pointer (some ⟨tp, 0, none⟩)] w fun e w' => ∃ b, e = .returned (.map (some b)) ∧ w.heap.size ≤ b ∧ w'.ownsMap Try.prog 65 (funElem tp) b 3 ANS ∧ Below w.heap.size w w' := by
  have hmf : ∀ (fn : Fn) (first cap : Array Value) (w : World), (Instr.makeFunc fn first cap).run Try.prog w = .ok (.func fn first cap) w := fun _ _ _ _ => rfl
  have OM := Lib.hid (World.ownsMap_made (H := Unit) w Try.prog 65 (funElem tp))
  have B0 := Lib.hid ((Below.refl w.heap.size w).alloc (Nat.le_refl _) (.map #[] 0))
  have hmm : (Instr.makeMap 148 none).run Try.prog w = .ok (.map (some w.heap.size)) (w.alloc (.map #[] 0)) := by first | rfl | kernel_rfl | simp [Instr.makeMap]
  go_enter Try.func86, Try.ntmps86
  go_wp2_with (first
    | (refine im_wpList_insert_own _ rfl _ _ _ 148 rfl 65 127 law_kind2 Try.underlying148 (funElem tp) w.heap.size 0 (.map []) rfl OM.out (by unfold maxLen; omega) (.int .i64 11) (.func (.func 97) #[.pointer (some ⟨tp, 0, none⟩)] #[]) (.int .i64 11) rfl rfl (keyOf_int_mk (P := Try.prog) Try.underlying65 (by decide)) _ [] (funElem_mk _ _) ?_
       intro W1 hown1 hg1
       have OM1 := Lib.hid hown1; have G1 := Lib.hid hg1
       clear hown1 hg1)
    | (refine im_wpList_insert_own _ rfl _ _ _ 148 rfl 65 127 law_kind2 Try.underlying148 (funElem tp) w.heap.size 1 _ rfl OM1.out (by unfold maxLen; omega) (.int .i64 12) (.func (.func 98) #[.pointer (some ⟨tp, 0, none⟩)] #[]) (.int .i64 12) rfl rfl (keyOf_int_mk (P := Try.prog) Try.underlying65 (by decide)) _ [] (funElem_mk _ _) ?_
       intro W2 hown2 hg2
       have OM2 := Lib.hid hown2; have G2 := Lib.hid hg2
       clear hown2 hg2)
    | (refine im_wpList_insert_own _ rfl _ _ _ 148 rfl 65 127 law_kind2 Try.underlying148 (funElem tp) w.heap.size 2 _ rfl OM2.out (by unfold maxLen; omega) (.int .i64 13) (.func (.func 99) #[.pointer (some ⟨tp, 0, none⟩)] #[]) (.int .i64 13) rfl rfl (keyOf_int_mk (P := Try.prog) Try.underlying65 (by decide)) _ [] (funElem_mk _ _) ?_
       intro W3 hown3 hg3
       have OM3 := Lib.hid hown3; have G3 := Lib.hid hg3
       clear hown3 hg3))
  go_ret
  have h1 : (w.alloc (Obj.map #[] 0)).heap.size = w.heap.size + 1 := by simp
  have h2 := G1.out.size
  have h3 := G2.out.size
  exact ⟨w.heap.size, rfl, Nat.le_refl _, OM3.out, ((((Below.refl _ _).alloc (Nat.le_refl _) _).grown G1.out (by omega) (fun k hk => by cases hk; exact Nat.le_refl _)).grown G2.out (by omega) (fun k hk => by cases hk; exact Nat.le_refl _)).grown G3.out (by omega) (fun k hk => by cases hk; exact Nat.le_refl _)⟩
end
end Hm
end Go.Proofs.Ytfajkgbpeapcbaa
end

section
namespace Go.Proofs.Ytfajkgbpeapcbaa
open Go.RowKit
namespace Hm
open Nt
set_option maxRecDepth 100000
section
variable {tp ep mp g : Nat} {S Q : Nat → Prop}
theorem must_yes (w : World) : Calls Try.prog 106 #[.bool true] w fun r w' => r = .returned (.tuple #[]) ∧ w = w' := by
  go_enter Try.func106, Try.ntmps106
  go_wp2
  go_end0
  exact ⟨rfl, rfl⟩
end
end Hm
end Go.Proofs.Ytfajkgbpeapcbaa
end
