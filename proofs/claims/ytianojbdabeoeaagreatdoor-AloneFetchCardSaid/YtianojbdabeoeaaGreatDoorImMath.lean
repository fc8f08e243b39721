/-
  Plain numbers and lists for layer 2 (image): the value of bytes, the bytes of a value, lists in which a few places have been set, the sizes that an image may have. Nothing here speaks of the program.
-/
import Derived.WalkKit
import Derived.Laws.BitsAllLaws
import Derived.Lib.Hide
namespace Go.Proofs.YtianojbdabeoeaaGreatDoor
open Go.RowKit
namespace Im

/-- each number is a byte's -/
def Byt (l : List Int) : Prop := ∀ x ∈ l, 0 ≤ x ∧ x ≤ 255
/-- the numbers as the values of bytes -/
def vals (l : List Int) : List Value := l.map (Value.int .u8)
/-- the value of bytes, the lowest first -/
def val : List Int → Int
  | [] => 0
  | x :: r => x + 256 * val r
/-- places off, off + 1 .. of bs are set to f 0, f 1 .. -/
def sets (bs : List Int) (off : Nat) (f : Nat → Int) : Nat → List Int
  | 0 => bs
  | k + 1 => (sets bs off f k).set (off + k) (f k)
/-- byte number i of a value -/
def byt (v : Int) (i : Nat) : Int := v / 256 ^ i % 256
/-- k bytes from place off on -/
def win (bs : List Int) (off k : Nat) : List Int := (bs.drop off).take k
/-- the sizes that an image may have -/
def okB (n : Int) : Bool := n == 16 || n == 32 || n == 64 || n == 128 || n == 256 || n == 512 || n == 1024 || n == 2048 || n == 4096

theorem okB_iff {n : Int} : okB n = true ↔ n = 16 ∨ n = 32 ∨ n = 64 ∨ n = 128 ∨ n = 256 ∨ n = 512 ∨ n = 1024 ∨ n = 2048 ∨ n = 4096 := by
  simp [okB, or_assoc]
theorem okB_bd {n : Int} (h : okB n = true) : 16 ≤ n ∧ n ≤ 4096 ∧ n % 16 = 0 := by
  rw [okB_iff] at h; omega

theorem and_small2 : ∀ a : Nat, a < 65 → ∀ b : Nat, b < 64 → ((16 ≤ a * 64 + b ∧ a * 64 + b ≤ 4096 ∧ (a * 64 + b) &&& (a * 64 + b - 1) = 0) ↔ okB ((a * 64 + b : Nat) : Int) = true) := by decide +kernel
theorem and_small (k : Nat) (h : k < 4097) : (16 ≤ k ∧ k &&& (k - 1) = 0) ↔ okB (k : Int) = true := by
  have := and_small2 (k / 64) (by omega) (k % 64) (by omega)
  rw [show k / 64 * 64 + k % 64 = k by omega] at this
  rw [← this]
  exact ⟨fun ⟨a, b⟩ => ⟨a, by omega, b⟩, fun ⟨a, _, b⟩ => ⟨a, b⟩⟩

theorem okB_and {n : Int} (h1 : 16 ≤ n) (h2 : n ≤ 4096) : okB n = decide (bits .and .i64 n (n - 1) = 0) := by
  obtain ⟨k, rfl⟩ := Int.eq_ofNat_of_zero_le (show 0 ≤ n by omega)
  have hk : k < 4097 := by omega
  have e1 : ((k : Int) - 1) = ((k - 1 : Nat) : Int) := by omega
  have hb := (bits_nat .i64 63 (by decide) (fun n h0 h1 => by rw [IntKind.wrap_i64]; omega) k (k - 1) (by omega) (by omega)).1
  rw [e1, hb]
  have := and_small k hk
  rw [Bool.eq_iff_iff, decide_eq_true_iff, ← this]
  constructor
  · rintro ⟨_, h⟩; rw [h]; rfl
  · intro h; exact ⟨by omega, by exact_mod_cast h⟩
theorem okB_no {n : Int} (h : n < 16 ∨ 4096 < n) : okB n = false := by
  rw [Bool.eq_false_iff]; intro h'; have := okB_bd h'; omega

theorem length_sets (bs : List Int) (off : Nat) (f : Nat → Int) (k : Nat) : (sets bs off f k).length = bs.length := by
  induction k with
  | zero => rfl
  | succ k ih => simp [sets, ih]
theorem get_sets (bs : List Int) (off : Nat) (f : Nat → Int) (k : Nat) (h : off + k ≤ bs.length) (j : Nat) :
    (sets bs off f k).getD j 0 = if off ≤ j ∧ j < off + k then f (j - off) else bs.getD j 0 := by
  induction k with
  | zero => simp only [sets]; rw [if_neg (by omega)]
  | succ k ih =>
    have ih := ih (by omega)
    simp only [sets, List.getD_eq_getElem?_getD, List.getElem?_set, length_sets] at ih ⊢
    by_cases hj : off + k = j
    · subst hj
      rw [if_pos rfl, if_pos (by omega), if_pos (by omega)]
      simp
    · rw [if_neg hj, ih]
      by_cases h1 : off ≤ j ∧ j < off + k
      · rw [if_pos h1, if_pos (by omega)]
      · rw [if_neg h1, if_neg (by omega)]
theorem ext_getD {l l' : List Int} (hl : l.length = l'.length) (h : ∀ j, j < l.length → l.getD j 0 = l'.getD j 0) : l = l' := by
  apply List.ext_getElem hl
  intro j h1 h2
  have := h j h1
  simpa [List.getD_eq_getElem?_getD, h1, h2] using this
theorem getD_byt {l : List Int} (h : Byt l) (j : Nat) : 0 ≤ l.getD j 0 ∧ l.getD j 0 ≤ 255 := by
  rw [List.getD_eq_getElem?_getD]
  by_cases hj : j < l.length
  · rw [List.getElem?_eq_getElem hj]; exact h _ (List.getElem_mem hj)
  · rw [List.getElem?_eq_none (by omega)]; exact ⟨Int.le_refl _, by decide⟩
theorem byt_of_getD {l : List Int} (h : ∀ j, j < l.length → 0 ≤ l.getD j 0 ∧ l.getD j 0 ≤ 255) : Byt l := by
  intro x hx
  obtain ⟨j, hj, rfl⟩ := List.getElem_of_mem hx
  have := h j hj
  simpa [List.getD_eq_getElem?_getD, hj] using this
theorem byt_byt (v : Int) (i : Nat) : 0 ≤ byt v i ∧ byt v i ≤ 255 := by unfold byt; omega
theorem byt_set {bs : List Int} (hb : Byt bs) (j : Nat) {x : Int} (hx : 0 ≤ x ∧ x ≤ 255) : Byt (bs.set j x) := by
  intro y hy
  rcases List.mem_or_eq_of_mem_set hy with h | h
  · exact hb y h
  · subst h; exact hx
theorem byt_sets {bs : List Int} (hb : Byt bs) (off : Nat) (f : Nat → Int) (k : Nat) (hf : ∀ i, i < k → 0 ≤ f i ∧ f i ≤ 255) : Byt (sets bs off f k) := by
  induction k with
  | zero => exact hb
  | succ k ih =>
    have ih := ih (fun i hi => hf i (by omega))
    intro x hx
    rcases List.mem_or_eq_of_mem_set hx with h | h
    · exact ih x h
    · subst h; exact hf k (by omega)

theorem length_win {bs : List Int} {off k : Nat} (h : off + k ≤ bs.length) : (win bs off k).length = k := by simp [win]; omega
theorem get_win (bs : List Int) (off k j : Nat) (hj : j < k) : (win bs off k).getD j 0 = bs.getD (off + j) 0 := by
  simp [win, List.getD_eq_getElem?_getD, hj, List.getElem?_drop]
theorem win1 {bs : List Int} {off : Nat} (h : off + 1 ≤ bs.length) : win bs off 1 = [bs.getD off 0] :=
  ext_getD (by rw [length_win h]; rfl) (fun j hj => by
    rw [length_win h] at hj; obtain rfl : j = 0 := by omega
    rw [get_win _ _ _ _ (by omega)]; rfl)
theorem win2 {bs : List Int} {off : Nat} (h : off + 2 ≤ bs.length) : win bs off 2 = [bs.getD off 0, bs.getD (off + 1) 0] :=
  ext_getD (by rw [length_win h]; rfl) (fun j hj => by
    rw [length_win h] at hj
    rw [get_win _ _ _ _ (by omega)]
    rcases (show j = 0 ∨ j = 1 by omega) with rfl | rfl <;> rfl)
theorem win4 {bs : List Int} {off : Nat} (h : off + 4 ≤ bs.length) : win bs off 4 = [bs.getD off 0, bs.getD (off + 1) 0, bs.getD (off + 2) 0, bs.getD (off + 3) 0] :=
  ext_getD (by rw [length_win h]; rfl) (fun j hj => by
    rw [length_win h] at hj
    rw [get_win _ _ _ _ (by omega)]
    rcases (show j = 0 ∨ j = 1 ∨ j = 2 ∨ j = 3 by omega) with rfl | rfl | rfl | rfl <;> rfl)

theorem val1 (a : Int) : val [a] = a := by simp [val]
theorem val2 (a b : Int) : val [a, b] = a + 256 * b := by simp [val]
theorem val4 (a b c d : Int) : val [a, b, c, d] = a + 256 * b + 65536 * c + 16777216 * d := by simp [val]; omega

/-- what was written is read, as far as it goes -/
theorem val_sets1 {bs : List Int} {off : Nat} {v : Int} (h : off + 1 ≤ bs.length) : val (win (sets bs off (byt v) 1) off 1) = v % 256 := by
  rw [win1 (by rw [length_sets]; exact h), val1, get_sets _ _ _ _ h, if_pos (by omega)]; simp [byt]
theorem val_sets2 {bs : List Int} {off : Nat} {v : Int} (h : off + 2 ≤ bs.length) : val (win (sets bs off (byt v) 2) off 2) = v % 65536 := by
  rw [win2 (by rw [length_sets]; exact h), val2, get_sets _ _ _ _ h, get_sets _ _ _ _ h, if_pos (by omega), if_pos (by omega), Nat.sub_self, show off + 1 - off = 1 by omega]
  simp only [byt]; omega
theorem val_sets4 {bs : List Int} {off : Nat} {v : Int} (h : off + 4 ≤ bs.length) : val (win (sets bs off (byt v) 4) off 4) = v % 4294967296 := by
  rw [win4 (by rw [length_sets]; exact h), val4, get_sets _ _ _ _ h, get_sets _ _ _ _ h, get_sets _ _ _ _ h, get_sets _ _ _ _ h, if_pos (by omega), if_pos (by omega), if_pos (by omega), if_pos (by omega),
    Nat.sub_self, show off + 1 - off = 1 by omega, show off + 2 - off = 2 by omega, show off + 3 - off = 3 by omega]
  simp only [byt]; omega

theorem sets1_eq (bs : List Int) (o : Nat) (v : Int) : sets bs o (byt v) 1 = bs.set o (v % 256) := by
  simp only [sets, byt]; rw [show v / 256 ^ 0 % 256 = v % 256 by omega]; rfl
theorem sets2_eq (bs : List Int) (o : Nat) (v : Int) : sets bs o (byt v) 2 = (bs.set o (v % 256)).set (o + 1) (v / 256 % 256) := by
  simp only [sets, byt]; rw [show v / 256 ^ 0 % 256 = v % 256 by omega, show v / 256 ^ 1 % 256 = v / 256 % 256 by omega]; rfl
theorem sets4_eq (bs : List Int) (o : Nat) {v : Int} (h : v ≤ 4294967295) (h0 : 0 ≤ v) : sets bs o (byt v) 4 = (((bs.set o (v % 256)).set (o + 1) (v / 256 % 256)).set (o + 2) (v / 65536 % 256)).set (o + 3) (v / 16777216) := by
  simp only [sets, byt]
  rw [show v / 256 ^ 0 % 256 = v % 256 by omega, show v / 256 ^ 1 % 256 = v / 256 % 256 by omega, show v / 256 ^ 2 % 256 = v / 65536 % 256 by omega, show v / 256 ^ 3 % 256 = v / 16777216 by omega]; rfl

/-- element number i, 0 where there is none -/
def nth (ls : List Int) (i : Nat) : Int := ls.getD i 0
/-- cells copied over are cells set -/
theorem sets_splice (bs ls : List Int) (o : Nat) (h : o + ls.length ≤ bs.length) : bs.take o ++ (ls ++ bs.drop (o + ls.length)) = sets bs o (nth ls) ls.length := by
  apply ext_getD
  · rw [length_sets]; simp; omega
  · intro j hj
    rw [get_sets _ _ _ _ h]
    simp only [nth, List.getD_eq_getElem?_getD]
    by_cases h1 : j < o
    · rw [if_neg (by omega), List.getElem?_append_left (by simp; omega), List.getElem?_take_of_lt h1]
    · rw [List.getElem?_append_right (by simp; omega)]
      have e : (bs.take o).length = o := by simp; omega
      rw [e]
      by_cases h2 : j < o + ls.length
      · rw [if_pos ⟨by omega, h2⟩, List.getElem?_append_left (by omega)]
      · rw [if_neg (by omega), List.getElem?_append_right (by omega), List.getElem?_drop, show o + ls.length + (j - o - ls.length) = j by omega]

/-- a byte joined to those below it -/
theorem or8 {a b : Int} (ha0 : 0 ≤ a) (ha1 : a < 256) (hb0 : 0 ≤ b) (hb1 : b ≤ 255) : bits .or .u32 a (b * 256) = a + 256 * b := by
  have hk : ∀ n : Int, 0 ≤ n → n < 2 ^ 32 → IntKind.u32.wrap n = n := fun n h0 h1 => by rw [IntKind.wrap_u32]; omega
  have := bits_join .u32 32 (by decide) hk 8 (b * 256) a (by omega) (by omega) (by omega) ha0 (by omega) (by omega)
  obtain ⟨x, rfl⟩ := Int.eq_ofNat_of_zero_le ha0
  obtain ⟨y, rfl⟩ := Int.eq_ofNat_of_zero_le hb0
  have e : ((y : Int) * 256) = ((y * 256 : Nat) : Int) := by simp
  rw [e] at this ⊢
  rw [u32_or_nat _ _ (by omega) (by omega)] at this ⊢
  rw [Nat.or_comm, this]; omega
theorem or16 {a b : Int} (ha0 : 0 ≤ a) (ha1 : a < 65536) (hb0 : 0 ≤ b) (hb1 : b ≤ 255) : bits .or .u32 a (b * 65536) = a + 65536 * b := by
  have hk : ∀ n : Int, 0 ≤ n → n < 2 ^ 32 → IntKind.u32.wrap n = n := fun n h0 h1 => by rw [IntKind.wrap_u32]; omega
  have := bits_join .u32 32 (by decide) hk 16 (b * 65536) a (by omega) (by omega) (by omega) ha0 (by omega) (by omega)
  obtain ⟨x, rfl⟩ := Int.eq_ofNat_of_zero_le ha0
  obtain ⟨y, rfl⟩ := Int.eq_ofNat_of_zero_le hb0
  have e : ((y : Int) * 65536) = ((y * 65536 : Nat) : Int) := by simp
  rw [e] at this ⊢
  rw [u32_or_nat _ _ (by omega) (by omega)] at this ⊢
  rw [Nat.or_comm, this]; omega
theorem or24 {a b : Int} (ha0 : 0 ≤ a) (ha1 : a < 16777216) (hb0 : 0 ≤ b) (hb1 : b ≤ 255) : bits .or .u32 a (b * 16777216) = a + 16777216 * b := by
  have hk : ∀ n : Int, 0 ≤ n → n < 2 ^ 32 → IntKind.u32.wrap n = n := fun n h0 h1 => by rw [IntKind.wrap_u32]; omega
  have := bits_join .u32 32 (by decide) hk 24 (b * 16777216) a (by omega) (by omega) (by omega) ha0 (by omega) (by omega)
  obtain ⟨x, rfl⟩ := Int.eq_ofNat_of_zero_le ha0
  obtain ⟨y, rfl⟩ := Int.eq_ofNat_of_zero_le hb0
  have e : ((y : Int) * 16777216) = ((y * 16777216 : Nat) : Int) := by simp
  rw [e] at this ⊢
  rw [u32_or_nat _ _ (by omega) (by omega)] at this ⊢
  rw [Nat.or_comm, this]; omega
theorem or0 {a : Int} (ha0 : 0 ≤ a) (ha1 : a ≤ 4294967295) : bits .or .u32 0 a = a := by
  obtain ⟨x, rfl⟩ := Int.eq_ofNat_of_zero_le ha0
  have := u32_or_nat 0 x (by omega) (by omega)
  simpa using this
end Im
end Go.Proofs.YtianojbdabeoeaaGreatDoor
