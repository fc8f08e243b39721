/-
  The contracts of the program's layer 2 (image): Size, Copy; how an image's bytes are told: Bytes, Same.
-/
import Derived.Test.YtchjcfmmnfimlaaImMake
import Derived.Laws.BytesArg
import Derived.Laws.AppendOwn
namespace Go.Proofs.Ytchjcfmmnfimlaa
open Go.RowKit Go.Maps
set_option linter.unusedVariables false

theorem conv_sl (w : World) (a : Option Addr) (n c : Nat) (xs : List Int) (hs : Sl w a xs) (hl : xs.length = n) : (convert 22 9 (.slice a n c)).run Try.prog w = .ok (.string (strOfNums xs)) w := by
  by_cases h0 : 0 < xs.length
  · obtain ⟨g, o, rfl, hc⟩ := hs h0
    exact run_convert_bytes_arg w 22 5 Try.underlying22 Try.underlying5 g o n c xs hl (fun i hi => hc i (by omega)) 9 Try.underlying9
  · obtain rfl : xs = [] := List.eq_nil_of_length_eq_zero (by omega)
    obtain rfl : n = 0 := by simpa using hl.symm
    cases a with
    | none => exact run_convert_bytes_nil w 22 5 Try.underlying22 Try.underlying5 0 c 9 Try.underlying9
    | some ad =>
      rw [run_convert_bytes_string w 22 9 5 _ 0 c Try.underlying22 Try.underlying5 Try.underlying9, run_bytesToString w ad 0 c [] (by simp [loadCells, loadCellsFrom])]
      rfl
theorem str_inj {xs ys : List Int} (hx : Im.Byt xs) (hy : Im.Byt ys) (h : strOfNums xs = strOfNums ys) : xs = ys := by
  have h1 : (strOfNums xs).data.toList = (strOfNums ys).data.toList := by rw [h]
  rw [strOfNums_data, strOfNums_data] at h1
  have hl : xs.length = ys.length := by simpa using congrArg List.length h1
  apply List.ext_getElem hl
  intro j h1' h2'
  have h3 := congrArg (fun l : List UInt8 => l[j]?) h1
  simp [h1', h2'] at h3
  have hxj := hx _ (List.getElem_mem h1')
  have hyj := hy _ (List.getElem_mem h2')
  have h4 := congrArg UInt8.toNat h3
  simp at h4
  omega

theorem str_eq {xs ys : List Int} (hx : Im.Byt xs) (hy : Im.Byt ys) : ((strOfNums xs).toList == (strOfNums ys).toList) = decide (xs = ys) := by
  rw [Bool.eq_iff_iff, beq_iff_eq, decide_eq_true_iff]
  constructor
  · intro h
    apply str_inj hx hy
    apply ByteArray.ext
    apply Array.toList_inj.1
    rw [ByteArray.toList_eq, ByteArray.toList_eq] at h
    exact h
  · rintro rfl; rfl
theorem ret_bool {a b : Bool} (h : a = b) : Ending.returned (.bool a) = .returned (.bool b) := by rw [h]

theorem size_any (p g n : Nat) (w : World) (hn : n ≤ 9223372036854775807) (hc : w.cell? ⟨p, 0, none⟩ = some (.slice (some ⟨g, 0, none⟩) n n)) :
    Calls Try.prog 17 #[.pointer (some ⟨p, 0, none⟩)] w fun e w' => e = .returned (.int .i64 n) ∧ w = w' := by
  have HC := Lib.hid hc; clear hc
  go_enter Try.func17, Try.ntmps17
  go_wp2_with (go_at_call 33; refine (own_any _ _ _ _ HC.out).mono ?_; rintro e w' ⟨rfl, rfl⟩)
  go_ret
  exact ⟨rfl, rfl⟩
theorem size_nil (w : World) :
    Calls Try.prog 17 #[.pointer none] w fun e w' => e = .returned (.int .i64 0) ∧ w = w' := by
  go_enter Try.func17, Try.ntmps17
  go_wp2_with (go_at_call 33; refine (own_nil _).mono ?_; rintro e w' ⟨rfl, rfl⟩)
  go_ret
  exact ⟨rfl, rfl⟩

theorem equal_any (a b : Option Addr) (n m c d : Nat) (xs ys : List Int) (w : World) (hx : Im.Byt xs) (hy : Im.Byt ys) (h1 : Sl w a xs) (h2 : Sl w b ys) (l1 : xs.length = n) (l2 : ys.length = m) :
    Calls Try.prog 43 #[.slice a n c, .slice b m d] w fun e w' => e = .returned (.bool (decide (xs = ys))) ∧ w = w' := by
  have c1 := conv_sl w a n c xs h1 l1
  have c2 := conv_sl w b m d ys h2 l2
  have HX := Lib.hid hx; have HY := Lib.hid hy; clear hx hy h1 h2 l1 l2
  go_enter Try.func43, Try.ntmps43
  go_wp2
  go_ret
  exact ⟨ret_bool (str_eq HX.out HY.out), rfl⟩

theorem clone_any (g n : Nat) (xs : List Int) (w : World) (hr : Row w g xs) (hl : xs.length = n) (hn : n ≤ 4096) :
    Calls Try.prog 32 #[.slice (some ⟨g, 0, none⟩) n n] w fun e w' => ∃ v, e = .returned v ∧ w'.ownsRow w.heap.size 5 1 v n (Im.vals xs) ∧ Below w.heap.size w w' := by
  obtain ⟨i0, hi, hz0, hz1, hz2⟩ := info_parts info5
  have hq : ∀ (w : World) (a : Option Addr) (n c n' c' : Nat), (binOp .eql 22 (.slice a n c) (.slice none n' c')).run Try.prog w = .ok (.bool a.isNone) w := fun w a n c n' c' => Lib.run_eql_slice_nil w _ _ a n c n' c' Try.underlying22
  have HI := Lib.hid hi; have HZ0 := Lib.hid hz0; have HZ1 := Lib.hid hz1; have HZ2 := Lib.hid hz2; clear hi hz0 hz1 hz2
  have HR := Lib.hid hr; have HL := Lib.hid hl; clear hr hl
  go_enter Try.func32, Try.ntmps32
  have hown := World.ownsRow_made (base := w.heap.size) (e := 5) (size := 1) w #[] 0 (Nat.le_refl _) (by unfold maxLen; omega) rfl
  have hsrc : ∀ (j : Nat) (v : Value), (Im.vals xs)[j]? = some v → (w.alloc (.cells #[] 5)).cell? ((⟨g, 0, none⟩ : Addr).add j) = some v := fun j v hv => by
    have e : (⟨g, 0, none⟩ : Addr).add j = ⟨g, j, none⟩ := by unfold Addr.add; split <;> simp_all
    rw [e, cell_of_row _ g j _ _ _ (HR.out.alloc _)]; simpa using hv
  have HO := Lib.hid hown; have HS := Lib.hid hsrc; clear hown hsrc
  go_wp2_with (at_builtin; refine wpList_append_own _ rfl (.tmp 5) (.tmp 6) 22 rfl w.heap.size 5 i0 (.int .u8 0) 1 1 Try.underlying22 HI.out HZ0.out HZ1.out HZ2.out rfl (by decide) _ 0 [] rfl HO.out ⟨g, 0, none⟩ n n (Im.vals xs) rfl (by rw [len_vals, HL.out]; omega) HS.out (ints_oneCell .u8 xs) (by unfold maxLen; omega) (by omega) (by simp) ?_; intro v' w1 hown1 hg1 _; simp only [Nat.zero_add, List.nil_append] at hown1)
  go_ret
  exact ⟨_, rfl, hown1, ((Below.refl _ _).alloc (Nat.le_refl _) _).grown hg1 (by simp) (fun k hk => by cases hk; exact Nat.le_refl _)⟩

theorem bytes_any (p g : Nat) (xs : List Int) (w : World) (hi : Img w p g xs) :
    Calls Try.prog 16 #[.pointer (some ⟨p, 0, none⟩)] w fun e w' => ∃ v, e = .returned v ∧ w'.ownsRow w.heap.size 5 1 v xs.length (Im.vals xs) ∧ Below w.heap.size w w' := by
  have HI := Lib.hid hi; clear hi
  have hbd := HI.out.bd
  go_enter Try.func16, Try.ntmps16
  go_wp2_with (first
    | (go_at_call 33; refine (own_any _ _ _ _ HI.out.cell).mono ?_; rintro e w' ⟨rfl, rfl⟩)
    | (go_at_call 32; refine (clone_any g xs.length xs _ HI.out.row rfl hbd.2.1).mono ?_; rintro e w1 ⟨v, rfl, hown, hb⟩))
  refine bodyPost_ret (v := v) (by simp [results, Try.results16]) rfl ⟨v, rfl, hown, hb⟩
theorem bytes_nil (w : World) :
    Calls Try.prog 16 #[.pointer none] w fun e w' => e = .returned (.slice none 0 0) ∧ w = w' := by
  have hq : ∀ (w : World) (a : Option Addr) (n c n' c' : Nat), (binOp .eql 22 (.slice a n c) (.slice none n' c')).run Try.prog w = .ok (.bool a.isNone) w := fun w a n c n' c' => Lib.run_eql_slice_nil w _ _ a n c n' c' Try.underlying22
  go_enter Try.func16, Try.ntmps16
  go_wp2_with (first
    | (go_at_call 33; refine (own_nil _).mono ?_; rintro e w' ⟨rfl, rfl⟩)
    | go_in)
  go_ret
  exact ⟨rfl, rfl⟩
/-- what Bytes tells is a slice of these bytes -/
theorem sl_own {w : World} {base n : Nat} {v : Value} {xs : List Int} (h : w.ownsRow base 5 1 v n (Im.vals xs)) : ∃ a c, v = .slice a n c ∧ Sl w a xs ∧ xs.length = n ∧ (∀ g, v.ownBlock = some g → base ≤ g) := by
  have hl : xs.length = n := by have := h.1; rw [len_vals] at this; omega
  rcases h.2 with ⟨rfl, rfl⟩ | ⟨g, cap, cur, rfl, hb, hg, hnc, hcm, hcs, ht⟩
  · obtain rfl : xs = [] := List.eq_nil_of_length_eq_zero hl
    exact ⟨none, 0, rfl, Sl.nil _ _, rfl, by simp [Value.ownBlock]⟩
  · refine ⟨some ⟨g, 0, none⟩, cap, rfl, fun _ => ⟨g, 0, rfl, fun j hj => ?_⟩, hl, by simp [Value.ownBlock]; exact hb⟩
    rw [Nat.zero_add, h.cellAt j (by omega)]
    simp [Im.vals, hj, List.getD_eq_getElem?_getD]

theorem copy_any (p g : Nat) (xs : List Int) (w : World) (hi : Img w p g xs) :
    Calls Try.prog 27 #[.pointer (some ⟨p, 0, none⟩)] w fun e w' => ∃ p' g', e = .returned (.pointer (some ⟨p', 0, none⟩)) ∧ Img w' p' g' xs ∧ w.heap.size ≤ p' ∧ w.heap.size ≤ g' ∧ Below w.heap.size w w' := by
  have HI := Lib.hid hi; clear hi
  go_enter Try.func27, Try.ntmps27
  go_wp2_with (first
    | (go_at_call 33; refine (own_any _ _ _ _ HI.out.cell).mono ?_; rintro e w' ⟨rfl, rfl⟩)
    | (go_at_call 12; refine (of_yes xs.length xs.length _ xs HI.out.ok rfl HI.out.byt _ (Sl.of_row HI.out.row)).mono ?_; rintro e w1 ⟨p', g', rfl, h'⟩; have H' := Lib.hid h'; clear h'))
  go_ret
  exact ⟨p', g', rfl, H'.out⟩
theorem copy_nil (w : World) :
    Calls Try.prog 27 #[.pointer none] w fun e w' => e = .returned (.pointer none) ∧ Below w.heap.size w w' := by
  go_enter Try.func27, Try.ntmps27
  go_wp2_with (first
    | (go_at_call 33; refine (own_nil _).mono ?_; rintro e w' ⟨rfl, rfl⟩)
    | (go_at_call 12; refine (of_no 0 0 _ (by decide) (by omega) _).mono ?_; rintro e w1 ⟨rfl, hb⟩))
  go_ret
  exact ⟨rfl, hb⟩

theorem same_any (p g q h : Nat) (xs ys : List Int) (w : World) (h1 : Img w p g xs) (h2 : Img w q h ys) :
    Calls Try.prog 28 #[.pointer (some ⟨p, 0, none⟩), .pointer (some ⟨q, 0, none⟩)] w fun e w' => e = .returned (.bool (decide (xs = ys))) ∧ w = w' := by
  have H1 := Lib.hid h1; have H2 := Lib.hid h2; clear h1 h2
  go_enter Try.func28, Try.ntmps28
  go_wp2_with fail
  refine (own_any _ _ _ _ H1.out.cell).mono ?_
  rintro e w' ⟨rfl, rfl⟩
  go_wp2_with fail
  refine (own_any _ _ _ _ H2.out.cell).mono ?_
  rintro e w' ⟨rfl, rfl⟩
  go_wp2_with fail
  refine (equal_any _ _ _ _ _ _ xs ys _ H1.out.byt H2.out.byt (Sl.of_row H1.out.row) (Sl.of_row H2.out.row) rfl rfl).mono ?_
  rintro e w' ⟨rfl, rfl⟩
  go_wp2
  go_ret
  exact ⟨rfl, rfl⟩
theorem same_nil_right (p g : Nat) (xs : List Int) (w : World) (h1 : Img w p g xs) :
    Calls Try.prog 28 #[.pointer (some ⟨p, 0, none⟩), .pointer none] w fun e w' => e = .returned (.bool false) ∧ w = w' := by
  have hbd := h1.bd
  have H1 := Lib.hid h1; clear h1
  have hne : decide (xs = []) = false := by rw [decide_eq_false_iff_not]; rintro rfl; simp at hbd
  have HN := Lib.hid hne; clear hne
  go_enter Try.func28, Try.ntmps28
  go_wp2_with fail
  refine (own_any _ _ _ _ H1.out.cell).mono ?_
  rintro e w' ⟨rfl, rfl⟩
  go_wp2_with fail
  refine (own_nil _).mono ?_
  rintro e w' ⟨rfl, rfl⟩
  go_wp2_with fail
  refine (equal_any _ _ _ _ _ _ xs [] _ H1.out.byt (fun x hx => by cases hx) (Sl.of_row H1.out.row) (Sl.nil _ _) rfl rfl).mono ?_
  rintro e w' ⟨rfl, rfl⟩
  rw [HN.out]
  go_wp2
  go_ret
  exact ⟨rfl, rfl⟩
theorem same_nil_left (p g : Nat) (xs : List Int) (w : World) (h1 : Img w p g xs) :
    Calls Try.prog 28 #[.pointer none, .pointer (some ⟨p, 0, none⟩)] w fun e w' => e = .returned (.bool false) ∧ w = w' := by
  have hbd := h1.bd
  have H1 := Lib.hid h1; clear h1
  have hne : decide ([] = xs) = false := by rw [decide_eq_false_iff_not]; rintro rfl; simp at hbd
  have HN := Lib.hid hne; clear hne
  go_enter Try.func28, Try.ntmps28
  go_wp2_with fail
  refine (own_nil _).mono ?_
  rintro e w' ⟨rfl, rfl⟩
  go_wp2_with fail
  refine (own_any _ _ _ _ H1.out.cell).mono ?_
  rintro e w' ⟨rfl, rfl⟩
  go_wp2_with fail
  refine (equal_any _ _ _ _ _ _ [] xs _ (fun x hx => by cases hx) H1.out.byt (Sl.nil _ _) (Sl.of_row H1.out.row) rfl rfl).mono ?_
  rintro e w' ⟨rfl, rfl⟩
  rw [HN.out]
  go_wp2
  go_ret
  exact ⟨rfl, rfl⟩
theorem same_nil_both (w : World) :
    Calls Try.prog 28 #[.pointer none, .pointer none] w fun e w' => e = .returned (.bool true) ∧ w = w' := by
  go_enter Try.func28, Try.ntmps28
  go_wp2_with fail
  refine (own_nil _).mono ?_
  rintro e w' ⟨rfl, rfl⟩
  go_wp2_with fail
  refine (own_nil _).mono ?_
  rintro e w' ⟨rfl, rfl⟩
  go_wp2_with fail
  refine (equal_any _ _ _ _ _ _ [] [] _ (fun x hx => by cases hx) (fun x hx => by cases hx) (Sl.nil _ _) (Sl.nil _ _) rfl rfl).mono ?_
  rintro e w' ⟨rfl, rfl⟩
  go_wp2
  go_ret
  exact ⟨rfl, rfl⟩
end Go.Proofs.Ytchjcfmmnfimlaa
