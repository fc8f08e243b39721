/-
  Encode, Decode, Name and known: what they answer, in plain words.
-/
import Derived.Test.YtianojbdabeoeaaGreatDoorIsPM
namespace Go.Proofs.YtianojbdabeoeaaGreatDoor
open Go.RowKit Go.Maps
set_option linter.unusedVariables false
set_option linter.unusedSimpArgs false
namespace Is
def cls (k : Nat) : Nat := if k = 3 ∨ k = 5 then 1 else if k = 10 ∨ k = 13 then 2 else if k = 11 ∨ k = 12 then 3 else 0
def qk (k : Nat) (w : Int) : Int := if cls k = 1 then w / 4096 % 8 else if cls k = 2 then w / 4096 else if cls k = 3 then w / 134217728 else 0
def pairOk (op q : Nat) : Bool := op == q || !(wd op % 128 == wd q % 128) || (fm op == fm q && !(wd op == wd q)) || (cls (fm op) == cls (fm q) && !(qk (fm op) (wd op) == qk (fm q) (wd q)))
theorem pairs_ok : ((List.range 60).all fun op => (List.range 60).all fun q => op == 0 || q == 0 || pairOk op q) = true := by decide +kernel
theorem listed_ok : ((List.range 60).all fun op => op == 0 || (stL (wd op % 128) 60).2.contains (fm op)) = true := by decide +kernel
theorem pl_low (k : Nat) (hk : 1 ≤ k ∧ k ≤ 13) {x : Int} (hx : Wd x) : pl k x % 128 = 0 ∧ qk k (x - pl k x) = qk k x := by
  rcases (show k = 1 ∨ k = 2 ∨ k = 3 ∨ k = 4 ∨ k = 5 ∨ k = 6 ∨ k = 7 ∨ k = 8 ∨ k = 9 ∨ k = 10 ∨ k = 11 ∨ k = 12 ∨ k = 13 by omega) with rfl | rfl | rfl | rfl | rfl | rfl | rfl | rfl | rfl | rfl | rfl | rfl | rfl
  · rw [pl1 hx]; exact ⟨by omega, rfl⟩
  · rw [pl2 hx]; exact ⟨by omega, rfl⟩
  · rw [pl3 hx]; unfold Wd at hx; exact ⟨by omega, show (x - _) / 4096 % 8 = x / 4096 % 8 by omega⟩
  · rw [pl4 hx]; exact ⟨by omega, rfl⟩
  · rw [pl5 hx]; unfold Wd at hx; exact ⟨by omega, show (x - _) / 4096 % 8 = x / 4096 % 8 by omega⟩
  · rw [pl6 hx]; exact ⟨by omega, rfl⟩
  · rw [pl7 hx]; exact ⟨by omega, rfl⟩
  · rw [pl8 hx]; exact ⟨by omega, rfl⟩
  · rw [pl9 hx]; exact ⟨by omega, rfl⟩
  · rw [pl10 hx]; unfold Wd at hx; exact ⟨by omega, show (x - _) / 4096 = x / 4096 by omega⟩
  · rw [pl11 hx]; unfold Wd at hx; exact ⟨by omega, show (x - _) / 134217728 = x / 134217728 by omega⟩
  · rw [pl12 hx]; unfold Wd at hx
    have a1 : x / 128 % 32 * 128 + x / 32768 % 32 * 32768 ≤ x % 33554432 := by omega
    have a2 : x % 134217728 = x % 33554432 + x / 33554432 % 4 * 33554432 := by omega
    have a3 : 0 ≤ x / 128 % 32 * 128 + x / 32768 % 32 * 32768 := by omega
    refine ⟨by omega, ?_⟩
    show (x - (x / 128 % 32 * 128 + x / 32768 % 32 * 32768 + x / 33554432 % 4 * 33554432)) / 134217728 = x / 134217728
    generalize x / 128 % 32 * 128 + x / 32768 % 32 * 32768 = y at a1 a3 ⊢
    have a4 : 0 ≤ x / 33554432 % 4 * 33554432 := by omega
    generalize x / 33554432 % 4 * 33554432 = z at a2 a4 ⊢
    omega
  · rw [pl13 hx]; unfold Wd at hx; exact ⟨by omega, show (x - _) / 4096 = x / 4096 by omega⟩
theorem hit_iff {x : Int} (hx : Wd x) (op : Nat) (h : 1 ≤ op ∧ op ≤ 59) : hit (fm op) x op ↔ wd op = x - pl (fm op) x := by
  unfold hit
  rw [own_eq _ (fm_in op h) hx]
  simp
theorem hit_one {x : Int} (hx : Wd x) {op q : Nat} (h : 1 ≤ op ∧ op ≤ 59) (h' : 1 ≤ q ∧ q ≤ 59) (h1 : hit (fm op) x op) (h2 : hit (fm q) x q) : op = q := by
  rw [hit_iff hx op h] at h1
  rw [hit_iff hx q h'] at h2
  have p1 := pl_low _ (fm_in op h) hx
  have p2 := pl_low _ (fm_in q h') hx
  have t := List.all_eq_true.1 (List.all_eq_true.1 pairs_ok op (List.mem_range.2 (by omega))) q (List.mem_range.2 (by omega))
  have o1 : (op == 0) = false := beq_eq_false_iff_ne.2 (by omega)
  have o2 : (q == 0) = false := beq_eq_false_iff_ne.2 (by omega)
  rw [o1, o2] at t
  simp only [Bool.false_or, pairOk, Bool.or_eq_true, Bool.and_eq_true, Bool.not_eq_true', beq_iff_eq, beq_eq_false_iff_ne] at t
  rcases t with ((t | t) | ⟨t1, t2⟩) | ⟨t1, t2⟩
  · exact t
  · exfalso; omega
  · exfalso; rw [t1] at h1; exact t2 (h1.trans h2.symm)
  · exfalso
    apply t2
    rw [h1, h2, p1.2, p2.2]
    unfold qk
    rw [t1]
theorem listed {op : Nat} (h : 1 ≤ op ∧ op ≤ 59) {x : Int} (hx : Wd x) (h1 : hit (fm op) x op) : fm op ∈ (stL (x % 128) 60).2 := by
  rw [hit_iff hx op h] at h1
  have p1 := pl_low _ (fm_in op h) hx
  have t := List.all_eq_true.1 listed_ok op (List.mem_range.2 (by omega))
  have o1 : (op == 0) = false := beq_eq_false_iff_ne.2 (by omega)
  rw [o1, Bool.false_or, show wd op % 128 = x % 128 by omega] at t
  simpa using t
/-- an instruction that was found in a word: its word is that word -/
theorem word_of_hit {op : Nat} (h : 1 ≤ op ∧ op ≤ 59) {x : Int} (hx : Wd x) (h1 : hit (fm op) x op) :
    wordO op (rdO (fm op) x) (rs1O (fm op) x) (rs2O (fm op) x) (immO (fm op) x) (aqO (fm op) x) (rlO (fm op) x) = x := by
  rw [hit_iff hx op h] at h1
  unfold wordO
  show wd op + pl (fm op) x = x
  omega
theorem hit_of_word {op : Nat} (h : 1 ≤ op ∧ op ≤ 59) {x : Int} (hx : Wd x)
    (hw : wordO op (rdO (fm op) x) (rs1O (fm op) x) (rs2O (fm op) x) (immO (fm op) x) (aqO (fm op) x) (rlO (fm op) x) = x) : hit (fm op) x op := by
  rw [hit_iff hx op h]
  have : wd op + pl (fm op) x = x := hw
  omega
theorem zero_fm {q : Nat} (hq : q < 60) (h : 1 ≤ fm q) : 1 ≤ q ∧ q ≤ 59 := by
  refine ⟨?_, by omega⟩
  rcases Nat.eq_zero_or_pos q with h0 | h0
  · subst h0; exact absurd h (by decide)
  · exact h0
end Is
theorem dec_yes {x : Int} (hx : Is.Wd x) {op : Nat} (h : 1 ≤ op ∧ op ≤ 59) (h1 : Is.hit (Is.fm op) x op) {e : Ending} (he : DecPost x e) : e = .returned (.tuple #[.agg (takeC op (Is.fm op) x), .bool true]) := by
  rcases he with ⟨hn, he⟩ | ⟨pre, k, q, j, hj, hp, hk, hn, ⟨hq, hh, hf⟩, he⟩
  · exact absurd h1 (hn _ (Is.listed h hx h1) op (by omega))
  · have e1 := hh.1
    subst e1
    have := Is.hit_one hx h (Is.zero_fm hq hk) h1 hh
    subst this
    exact he
theorem dec_no {x : Int} (hx : Is.Wd x) (h : ∀ op, 1 ≤ op ∧ op ≤ 59 → ¬ Is.hit (Is.fm op) x op) {e : Ending} (he : DecPost x e) : e = .returned (.tuple #[inst 0 0 0 0 0 false false, .bool false]) := by
  rcases he with ⟨hn, he⟩ | ⟨pre, k, q, j, hj, hp, hk, hn, ⟨hq, hh, hf⟩, he⟩
  · exact he
  · have e1 := hh.1
    subst e1
    exact absurd hh (h q (Is.zero_fm hq hk))
theorem dec_is (x : Int) (hx : Is.Wd x) (op : Nat) (h : 1 ≤ op ∧ op ≤ 59) (h1 : Is.hit (Is.fm op) x op) (w : World) :
    Calls Tryz.prog 80 #[.int .u32 x] w fun e w' => e = .returned (.tuple #[inst op (Is.rdO (Is.fm op) x) (Is.rs1O (Is.fm op) x) (Is.rs2O (Is.fm op) x) (Is.immO (Is.fm op) x) (Is.aqO (Is.fm op) x) (Is.rlO (Is.fm op) x), .bool true]) ∧ Below w.heap.size w w' :=
  (dec_any x hx w).mono fun e w' ⟨he, hb⟩ => ⟨dec_yes hx h h1 he, hb⟩
theorem dec_none (x : Int) (hx : Is.Wd x) (h : ∀ op, 1 ≤ op ∧ op ≤ 59 → ¬ Is.hit (Is.fm op) x op) (w : World) :
    Calls Tryz.prog 80 #[.int .u32 x] w fun e w' => e = .returned (.tuple #[inst 0 0 0 0 0 false false, .bool false]) ∧ Below w.heap.size w w' :=
  (dec_any x hx w).mono fun e w' ⟨he, hb⟩ => ⟨dec_no hx h he, hb⟩
end Go.Proofs.YtianojbdabeoeaaGreatDoor
