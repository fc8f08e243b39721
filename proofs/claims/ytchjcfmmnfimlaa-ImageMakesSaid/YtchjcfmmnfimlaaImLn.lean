/-
  The contracts of the program's layer 2 (image): Write; Line and SetLine, with what they hand to reach.
-/
import Derived.Test.YtchjcfmmnfimlaaImRw
import Derived.Deep.MidRow
import Derived.Laws.CopyOwn
namespace Go.Proofs.Ytchjcfmmnfimlaa
open Go.RowKit Go.Maps
set_option linter.unusedVariables false

theorem write_refused (ptr : Value) (addr : Nat) (width v code : Int) (w : World) (ha : addr ≤ 4294967295) (hw : (Lit.int .i64 width).wf = true)
    (hk : ∀ (F : Value) (w1 : World), Below w.heap.size w w1 → Calls Try.prog 34 #[ptr, .int .u64 addr, .int .i64 (bitsOf width), F] w1 fun e w' => e = .returned (.int .i64 code) ∧ w1 = w') :
    Calls Try.prog 21 #[ptr, .int .u32 addr, .int .i64 width, .int .u32 v] w fun e w' => e = .returned (.int .i64 code) ∧ Below w.heap.size w w' := by
  have HW := Lib.hid hw; clear hw
  have HK := Lib.hid hk; clear hk
  go_enter Try.func21, Try.ntmps21
  go_wp2_with (first
    | (go_at_call 35; refine (widths_any _).mono ?_; rintro e w1 ⟨r, rfl, hown, hb1⟩; have HO := Lib.hid hown; clear hown)
    | (at_lookup; refine wpList_lookup_own_int _ rfl _ _ 62 rfl 3 3 .i64 lawInt Try.underlying62 Try.underlying3 (zeroInt _) r 3 _ rfl HO.out _ _ rfl (keyOf_int_mk Try.underlying3 HW.out) ?_; intro c hat hwc))
  obtain rfl := wide3_at _ _ hat
  obtain ⟨hb, hc, hf⟩ := one_new w _ _ hb1
  have HB := Lib.hid hb; clear hb hb1 hat hwc
  refine (HK.out _ _ HB.out).mono ?_
  rintro e w' ⟨rfl, rfl⟩
  go_wp2
  go_ret
  exact ⟨rfl, HB.out⟩

theorem write_goes (p g : Nat) (bs : List Int) (addr n : Nat) (v : Int) (w : World) (ha : addr ≤ 4294967295) (hv : 0 ≤ v ∧ v ≤ 4294967295) (hi : Img w p g bs) (hs : n = 1 ∨ n = 2 ∨ n = 4) (hal : addr % n = 0) (hlt : addr < bs.length) :
    Calls Try.prog 21 #[.pointer (some ⟨p, 0, none⟩), .int .u32 addr, .int .i64 n, .int .u32 v] w fun e w' => e = .returned (.int .i64 0) ∧ Img w' p g (Im.sets bs addr (Im.byt v) n) ∧ w.grownBy w' (some g) := by
  have HI := Lib.hid hi; clear hi
  have hbd := HI.out.bd
  have HW := Lib.hid (show (Lit.int .i64 (n : Int)).wf = true by rcases hs with rfl | rfl | rfl <;> decide)
  have HL := Lib.hid (show addr + n ≤ bs.length by rcases hs with rfl | rfl | rfl <;> omega)
  have HA := Lib.hid hal; clear hal
  have HS := Lib.hid hs; clear hs
  go_enter Try.func21, Try.ntmps21
  go_wp2_with (first
    | (go_at_call 35; refine (widths_any _).mono ?_; rintro e w1 ⟨r, rfl, hown, hb1⟩; have HO := Lib.hid hown; clear hown)
    | (at_lookup; refine wpList_lookup_own_int _ rfl _ _ 62 rfl 3 3 .i64 lawInt Try.underlying62 Try.underlying3 (zeroInt _) r 3 _ rfl HO.out _ _ rfl (keyOf_int_mk Try.underlying3 HW.out) ?_; intro c hat hwc))
  obtain rfl := wide3_at _ _ hat
  obtain ⟨hb, hc, hf⟩ := one_new w _ _ hb1
  have HB := Lib.hid hb; clear hb hb1 hat hwc
  have hi1 := HI.out.old HB.out
  have hcall := write1_any g addr n n w.heap.size bs v w1 hv hi1.row HS.out HL.out hc
  refine (reach_goes p g bs.length addr n (bitsOf n) 38 (.inr (.inl rfl)) ⟨w.heap.size, 0, none⟩ _ (by rcases HS.out with rfl | rfl | rfl <;> decide) HA.out HL.out _ ⟨hbd.1, hbd.2.1⟩ hi1.cell hcall).mono ?_
  have HI1 := Lib.hid hi1
  clear hcall hi1
  rintro e w' ⟨rfl, hrow, hgr⟩
  have HR := Lib.hid (And.intro hrow hgr); clear hrow hgr
  go_wp2
  go_ret
  exact ⟨rfl, HI1.out.wrote HR.out.2 HR.out.1 (Im.length_sets _ _ _ _) (Im.byt_sets HI.out.byt _ _ _ (fun i _ => Im.byt_byt v i)), grownBy_trans (below_grown HB.out _) HR.out.2⟩

/-- an array of 16 bytes in a block of its own -/
def Arr (w : World) (r : Nat) (ls : List Int) : Prop := w.heap[r]? = some (.cells (Im.vals ls).toArray 45 (0, 0))
theorem size45 : (Try.prog.info? 45).map (·.size) = some 16 := by kernel_rfl
theorem one_vals (ls : List Int) : (Im.vals ls).toArray.all (·.oneCell') = true := all_oneCell_toArray (ints_oneCell .u8 ls)
theorem run_arrayAt (w : World) (g o n c : Nat) (h : 16 ≤ n) : (Instr.arrayAt 45 (.slice (some ⟨g, o, none⟩) n c)).run Try.prog w = .ok (.pointer (some ⟨g, o, none⟩)) w := by
  have h' : ¬ n < 16 := by omega
  simp [Instr.arrayAt, run_underlying Try.underlying45, h']
theorem Row.range {w : World} {g : Nat} {bs : List Int} (h : Row w g bs) {o n : Nat} (ho : o + n ≤ bs.length) : w.rangeAt g o (Im.vals (Im.win bs o n)) := by
  intro j v hv
  have hj : j < n := by
    have := (List.getElem?_eq_some_iff.1 hv).1
    simpa [Im.vals, Im.length_win ho] using this
  have e : (Im.win bs o n)[j]? = some (bs.getD (o + j) 0) := by
    have h1 := Im.get_win bs o n j hj
    rw [List.getD_eq_getElem?_getD, List.getElem?_eq_getElem (by rw [Im.length_win ho]; exact hj), Option.getD_some] at h1
    rw [List.getElem?_eq_getElem (by rw [Im.length_win ho]; exact hj), h1]
  rw [h.cell (by omega)]
  simp [Im.vals, e] at hv
  rw [← hv]; simp
theorem len_vals (ls : List Int) : (Im.vals ls).length = ls.length := by simp [Im.vals]
theorem grownBy_setRow {a w : World} {g : Nat} (h : a.grownBy w (some g)) (cs : Array Value) : a.grownBy (w.setRow g cs) (some g) :=
  grownBy_trans h ⟨rfl, rfl, rfl, by simp, fun k _ hn => setRow_other _ _ _ _ (by simpa using hn)⟩

theorem line1_any (g o cap r : Nat) (bs ls : List Int) (w : World) (hr : Row w g bs) (ho : o + 16 ≤ bs.length) (hl : ls.length = 16) (hc : Arr w r ls) :
    Calls Try.prog 41 #[.slice (some ⟨g, o, none⟩) 16 cap, .pointer (some ⟨r, 0, none⟩)] w fun e w' => e = .returned (.tuple #[]) ∧ Arr w' r (Im.win bs o 16) ∧ w.grownBy w' (some r) := by
  have HR := Lib.hid hr; have HC := Lib.hid hc; clear hr hc
  have HLL := Lib.hid hl; clear hl
  have hat := fun (w : World) => run_arrayAt w g o 16 cap (Nat.le_refl _)
  go_enter Try.func41, Try.ntmps41
  go_wp2_with (first
    | (refine wpList_load_mid rfl 45 _ rfl g o rfl (Im.vals (Im.win bs o 16)) _ ?_ Try.underlying45 rfl ?_ ?_; rotate_right)
    | (refine wpList_store_row rfl 45 _ _ rfl r (Im.vals (Im.win bs o 16)).toArray rfl rfl 45 _ HC.out ?_ ?_ (one_vals _) ?_; rotate_right))
  · go_end0
    exact ⟨rfl, setRow_heap _ _ _ _ _ _ HC.out, grownBy_setRow (World.grownBy.refl _ _) _⟩
  · rw [size45, List.size_toArray, len_vals, Im.length_win ho]
  · rw [List.size_toArray, List.size_toArray, len_vals, len_vals, Im.length_win ho, HLL.out]
  · exact HR.out.range ho
  · rw [size45, len_vals, Im.length_win ho]

theorem setline1_any (g o cap r : Nat) (bs ls : List Int) (w : World) (hr : Row w g bs) (ho : o + 16 ≤ bs.length) (hl : ls.length = 16) (hc : Arr w r ls) :
    Calls Try.prog 42 #[.slice (some ⟨g, o, none⟩) 16 cap, .pointer (some ⟨r, 0, none⟩)] w fun e w' => e = .returned (.tuple #[]) ∧ Row w' g (Im.sets bs o (Im.nth ls) 16) ∧ w.grownBy w' (some g) := by
  have HR := Lib.hid hr; have HC := Lib.hid hc; clear hr hc
  have HLL := Lib.hid hl; clear hl
  go_enter Try.func42, Try.ntmps42
  have hsrc : ∀ (j : Nat) (v : Value), (Im.vals ls)[j]? = some v → w.cell? ((⟨r, 0, none⟩ : Addr).add j) = some v := fun j v hv => by
    have e : (⟨r, 0, none⟩ : Addr).add j = ⟨r, j, none⟩ := by unfold Addr.add; split <;> simp_all
    rw [e, cell_of_row w r j _ _ _ HC.out]; simpa using hv
  have HSRC := Lib.hid hsrc; clear hsrc
  go_wp2_with (refine wpList_copy_own (o := ⟨some 5, _, _, _, _, _⟩) rfl (.tmp 3) (.tmp 4) 22 22 rfl 5 Try.underlying22 (by kernel_rfl) g o 16 cap ⟨r, 0, none⟩ 16 16 rfl rfl (Im.vals bs).toArray 5 HR.out (Im.vals ls) ?_ HSRC.out ?_ (ints_oneCell .u8 ls) ?_; rotate_right)
  · go_end0
    refine ⟨rfl, ?_, grownBy_setRow (World.grownBy.refl _ _) _⟩
    have e := Im.sets_splice bs ls o (by rw [HLL.out]; exact ho)
    rw [HLL.out] at e
    unfold Row
    rw [← e, setRow_heap _ _ _ _ _ _ HR.out]
    simp [Im.vals, HLL.out]
  · rw [len_vals, HLL.out]; rfl
  · rw [len_vals, HLL.out, List.size_toArray, len_vals]; exact ho
end Go.Proofs.Ytchjcfmmnfimlaa
