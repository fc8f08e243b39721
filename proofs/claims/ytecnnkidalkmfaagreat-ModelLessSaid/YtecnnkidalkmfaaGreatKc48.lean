import Derived.Test.YtecnnkidalkmfaaGreatKc36
import Derived.Test.YtecnnkidalkmfaaGreatKc40
import Derived.Test.YtecnnkidalkmfaaGreatKc44
import Derived.Test.YtecnnkidalkmfaaGreatKc45
import Derived.Test.YtecnnkidalkmfaaGreatKc47
set_option linter.unusedVariables false
set_option linter.unusedSimpArgs false

section
namespace Go.Proofs.YtecnnkidalkmfaaGreat
open Go.RowKit
namespace Md
open Ev
def PrS (ps : List (Nat × Nat)) (v : Value) (w : World) : Prop := ∃ a c, v = .slice a ps.length c ∧ PairsIn w a c ps
def SetS (S : List (Nat × Nat)) (v : Value) (w : World) : Prop := ∃ b n, v = .map (some b) ∧ PSet w b n S
def RisS (S : List (Nat × Nat)) (v : Value) (w : World) : Prop := ∃ a c L, v = .slice a L.length c ∧ Ris S L ∧ PairsIn w a c L
def BoolS (p : Prop) (v : Value) (_ : World) : Prop := ∃ b : Bool, v = .bool b ∧ (b = true ↔ p)
theorem psin {w : World} {a : Option Addr} {c : Nat} {L : List (Nat × Nat)} (h : PairsIn w a c L) (hlt : ∀ p ∈ L, p.1 < 64 ∧ p.2 < 64) : PsIn w a c (gI L) := by
  refine ⟨?_, ?_, by simpa [gI] using h.le, h.max⟩
  · have e : (gI L).map pz = L.map pv := by unfold gI; rw [List.map_map]; rfl
    rw [e]; exact h.rows
  · intro p hp
    obtain ⟨q, hq, rfl⟩ := List.mem_map.1 hp
    have := hlt q hq
    exact ⟨⟨by simp <;> omega, by simp <;> omega⟩, ⟨by simp <;> omega, by simp <;> omega⟩⟩
theorem rk_same {S L : List (Nat × Nat)} (h : ∀ p, p ∈ L ↔ p ∈ S) : Rk (gI L) ↔ Rk (gI S) :=
  ⟨fun k => rk_sub (fun p hp => by obtain ⟨q, hq, e⟩ := List.mem_map.1 hp; exact List.mem_map.2 ⟨q, (h q).2 hq, e⟩) k, fun k => rk_sub (fun p hp => by obtain ⟨q, hq, e⟩ := List.mem_map.1 hp; exact List.mem_map.2 ⟨q, (h q).1 hq, e⟩) k⟩
theorem acy_rk {N : Nat} {L : List (Nat × Nat)} {b : Bool} (hN : N ≤ 64) (hL : ∀ p ∈ L, p.1 < N ∧ p.2 < N) (h : AcyR N (gI L) b) : b = true ↔ Rk (gI L) := by
  have hr := inR_pl hN hL
  rcases h with ⟨rfl, hn⟩ | ⟨rfl, _, hc⟩ | ⟨rfl, _, ht⟩
  · exact absurd hr hn
  · exact ⟨fun e => (by cases e), fun k => absurd hc (rk_no_cyc k)⟩
  · exact ⟨fun _ => (rk_tp hr).2 ht, fun _ => rfl⟩
theorem ris_len {S L : List (Nat × Nat)} (h : Ris S L) (hS : S.length ≤ 65536) : L.length ≤ 65536 := by
  have hd : L.Nodup := h.1.imp fun {a b} hab => fun e => by subst e; rw [ltP_iff] at hab; omega
  exact Nat.le_trans (nodup_le hd fun x hx => (h.2 x).1 hx) hS
end Md
set_option maxRecDepth 100000 in
set_option maxHeartbeats 4000000 in
theorem noCircle_any (x : Ev.X) (q b n : Nat) (S : List (Nat × Nat)) (hS : S.length ≤ 65536) (hN64 : x.ev.length ≤ 64) (hN : ∀ p ∈ S, p.1 < x.ev.length ∧ p.2 < x.ev.length) (w : World) (hj : Md.JIn w q x) (hs : Md.PSet w b n S) :
    Calls Tryz.prog 76 #[.pointer (some ⟨q, 0, none⟩), .map (some b)] w fun e w' => ∃ r : Bool, e = .returned (.bool r) ∧ (r = true ↔ Md.Rk (Md.gI S)) ∧ Below w.heap.size w w' := by
  have HJ := Lib.hid hj; have HS := Lib.hid hs; have HN := Lib.hid hN
  clear hj hs hN
  go_enter Tryz.func76, Tryz.ntmps76
  go_wp2
  refine Og.region3 (by kernel_rfl) (fun t => ([(5, 0), (6, 1), (7, 2), (8, 3), (9, 4), (10, 5), (11, 6), (12, 7), (13, 8), (4, 9)] : List (Nat × Nat)).lookup t)
    [.is (.pointer (some ⟨q, 0, none⟩)), .is (.pointer (some ⟨q, 0, none⟩)), .is (.pointer (some ⟨q, 0, none⟩)), .is (.pointer (some ⟨q, 0, none⟩)), .is (.slice x.ae x.ev.length x.ce), .is (.int .i64 (x.ev.length : Int)), .is (.map (some b)), .says (Md.RisS S), .says (Md.BoolS (Md.Rk (Md.gI S))), .says (Md.BoolS (Md.Rk (Md.gI S)))]
    [true, true, true, true, true, true, true, true, true, true] (by kernel_rfl) ?_ ?_
  · refine ⟨?_, ?_, ?_, ?_, ?_, ?_, ?_, ?_, ?_, ?_, trivial⟩
    · refine ⟨rfl, fun ρ w1 hr hd => ?_⟩
      obtain ⟨d0, _⟩ := hd
      have d0 : ρ (.tmp 0) = .pointer (some ⟨q, 0, none⟩) := d0
      refine (if_pos (by rfl)).mpr ?_
      refine Og.gives_is (.pointer (some ⟨q, 0, none⟩)) ?_ (And.intro (Below.refl _ _) rfl)
      go_simp
    · refine ⟨rfl, fun ρ w1 hr hd => ?_⟩
      obtain ⟨d0, _⟩ := hd
      have d0 : ρ (.tmp 5) = .pointer (some ⟨q, 0, none⟩) := d0
      refine (if_pos (by rfl)).mpr ?_
      refine Og.gives_is (.pointer (some ⟨q, 0, none⟩)) ?_ (And.intro (Below.refl _ _) rfl)
      go_simp; try (with_reducible rfl)
    · refine ⟨rfl, fun ρ w1 hr hd => ?_⟩
      obtain ⟨d0, _⟩ := hd
      have d0 : ρ (.tmp 6) = .pointer (some ⟨q, 0, none⟩) := d0
      refine (if_pos (by rfl)).mpr ?_
      refine Og.gives_is (.pointer (some ⟨q, 0, none⟩)) ?_ (And.intro (Below.refl _ _) rfl)
      go_simp; try (with_reducible rfl)
    · refine ⟨rfl, fun ρ w1 hr hd => ?_⟩
      obtain ⟨d0, _⟩ := hd
      have d0 : ρ (.tmp 7) = .pointer (some ⟨q, 0, none⟩) := d0
      refine (if_pos (by rfl)).mpr ?_
      refine Og.gives_is (.pointer (some ⟨q, 0, none⟩)) ?_ (And.intro (Below.refl _ _) rfl)
      go_simp; try (with_reducible rfl)
    · refine ⟨rfl, fun ρ w1 hr hd => ?_⟩
      obtain ⟨d0, _⟩ := hd
      have d0 : ρ (.tmp 8) = .pointer (some ⟨q, 0, none⟩) := d0
      refine (if_pos (by rfl)).mpr ?_
      refine Og.gives_is (.slice x.ae x.ev.length x.ce) ?_ (And.intro (Below.refl _ _) rfl)
      exact Og.load_run 22 (.tmp 8) rfl ⟨q, 0, none⟩ d0 (ld_cell Tryz.isAgg22 ((HJ.out.kp (hr.mono (Nat.le_refl _))).c0))
    · refine ⟨rfl, fun ρ w1 hr hd => ?_⟩
      obtain ⟨d0, _⟩ := hd
      have d0 : ρ (.tmp 9) = .slice x.ae x.ev.length x.ce := d0
      refine (if_pos (by rfl)).mpr ?_
      refine Og.gives_is (.int .i64 (x.ev.length : Int)) ?_ (And.intro (Below.refl _ _) rfl)
      go_simp; try (with_reducible rfl)
    · refine ⟨rfl, fun ρ w1 hr hd => ?_⟩
      obtain ⟨d0, _⟩ := hd
      have d0 : ρ (.tmp 1) = .map (some b) := d0
      refine (if_pos (by rfl)).mpr ?_
      refine Og.gives_is (.map (some b)) ?_ (And.intro (Below.refl _ _) rfl)
      go_simp
    · refine ⟨rfl, fun ρ w1 hr hd => ?_⟩
      obtain ⟨d0, d1, _⟩ := hd
      have df : ρ (.func 41) = .func (.func 41) #[] #[] := d0
      have d0 : ρ (.tmp 11) = .map (some b) := d1
      refine (if_pos (by rfl)).mpr ?_
      refine Og.gives_call 41 #[.map (some b)] ?_ ?_
      · go_simp
      · refine (rising_any b n S hS w1 (HS.out.kp hr)).mono ?_
        rintro r w2 ⟨a, c, L, rfl, h1, h2, hb⟩
        exact ⟨_, rfl, hb, w2, Below.refl _ _, a, c, L, rfl, h1, h2⟩
    · refine ⟨rfl, fun ρ w1 hr hd => ?_⟩
      obtain ⟨d0, d1, d2, _⟩ := hd
      have df : ρ (.func 102) = .func (.func 102) #[] #[] := d0
      have d0 : ρ (.tmp 10) = .int .i64 (x.ev.length : Int) := d1
      have d1 : ∃ w1', Below w1'.heap.size w1' w1 ∧ (Md.RisS S) (ρ (.tmp 12)) w1' := d2
      refine (if_pos (by rfl)).mpr ?_
      obtain ⟨w0, hb0, a, c, L, hv, hris, hp⟩ := d1
      have hLS := hris.2
      have hL : ∀ p ∈ L, p.1 < x.ev.length ∧ p.2 < x.ev.length := fun p hp => HN.out p ((hLS p).1 hp)
      have hlen : L.length = (Md.gI L).length := by simp [Md.gI]
      have hll := Md.ris_len hris hS
      have hp2 := (Md.psin (Md.PairsIn.kp hp (Ev.kp_below hb0)) (fun p hp => by have := hL p hp; omega))
      refine Og.gives_call 102 #[.int .i64 (x.ev.length : Int), .slice a L.length c] ?_ ?_
      · go_simp
      · refine (hlen ▸ acyclic_any (x.ev.length : Int) ⟨by omega, by omega⟩ a c (Md.gI L) (by rw [← hlen]; omega) w1 hp2).mono ?_
        rintro r w2 ⟨r0, rfl, hR, hb⟩
        exact ⟨_, rfl, hb, w2, Below.refl _ _, r0, rfl, (Md.acy_rk hN64 hL hR).trans (Md.rk_same hLS)⟩
    · refine ⟨rfl, fun ρ w1 hr hd => ?_⟩
      obtain ⟨d0, _⟩ := hd
      have d0 : ∃ w1', Below w1'.heap.size w1' w1 ∧ (Md.BoolS (Md.Rk (Md.gI S))) (ρ (.tmp 13)) w1' := d0
      refine (if_pos (by rfl)).mpr ?_
      obtain ⟨v0, hv0⟩ : ∃ v, ρ (.tmp 13) = v := ⟨_, rfl⟩
      rw [hv0] at d0
      refine Og.gives_is v0 ?_ (And.intro (Below.refl _ _) d0)
      go_simp
  · intro vs w1 hbz hall
    have hend : ∃ w1', Below w1'.heap.size w1' w1 ∧ (Md.BoolS (Md.Rk (Md.gI S))) (vs 9) w1' := hall 9 _ 4 rfl rfl
    obtain ⟨w0, hb0, r0, e0, h0⟩ := hend
    simp only [Og.putAll, Act.put, List.setIfInBounds_toArray, List.set_cons_zero, List.set_cons_succ, Nat.zero_add, Nat.reduceAdd, e0]
    have H0 := Lib.hid h0
    clear hall h0 e0
    go_wp2
    go_ret
    exact ⟨r0, rfl, H0.out, hbz⟩
end Go.Proofs.YtecnnkidalkmfaaGreat
end
