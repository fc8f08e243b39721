/-
  The contracts of the program's layer 2 (image), first half: Read and Write, with what they hand to reach.
-/
import Derived.Test.YtchjcfmmnfimlaaImReach
namespace Go.Proofs.Ytchjcfmmnfimlaa
open Go.RowKit Go.Maps
set_option linter.unusedVariables false

theorem read1_any (g o n cap r : Nat) (bs : List Int) (x : Value) (w : World) (hb : Im.Byt bs) (hr : Row w g bs) (hs : n = 1 ∨ n = 2 ∨ n = 4) (ho : o + n ≤ bs.length)
    (hc : w.cell? ⟨r, 0, none⟩ = some x) (hf : w.frozen? ⟨r, 0, none⟩ = false) :
    Calls Try.prog 36 #[.slice (some ⟨g, o, none⟩) n cap, .pointer (some ⟨r, 0, none⟩)] w fun e w' => e = .returned (.tuple #[]) ∧ w.setCell ⟨r, 0, none⟩ (.int .u32 (Im.val (Im.win bs o n))) = w' := by
  have HR := Lib.hid hr; have HB := Lib.hid hb; clear hr hb
  rcases hs with rfl | rfl | rfl
  · rw [Im.win1 ho]
    go_enter Try.func36, Try.ntmps36
    go_wp2_with fail
    refine (valueOf1 g o cap (bs.getD o 0) _ (Im.getD_byt HB.out _) (HR.out.cell (by omega))).mono ?_
    rintro e w' ⟨rfl, rfl⟩
    go_wp2
    go_end0
    exact ⟨rfl, rfl⟩
  · rw [Im.win2 ho]
    go_enter Try.func36, Try.ntmps36
    go_wp2_with fail
    refine (valueOf2 g o cap (bs.getD o 0) (bs.getD (o + 1) 0) _ (Im.getD_byt HB.out _) (Im.getD_byt HB.out _) (HR.out.cell (by omega)) (HR.out.cell (by omega))).mono ?_
    rintro e w' ⟨rfl, rfl⟩
    go_wp2
    go_end0
    exact ⟨rfl, rfl⟩
  · rw [Im.win4 ho]
    go_enter Try.func36, Try.ntmps36
    go_wp2_with fail
    refine (valueOf4 g o cap (bs.getD o 0) (bs.getD (o + 1) 0) (bs.getD (o + 2) 0) (bs.getD (o + 3) 0) _ (Im.getD_byt HB.out _) (Im.getD_byt HB.out _) (Im.getD_byt HB.out _) (Im.getD_byt HB.out _) (HR.out.cell (by omega)) (HR.out.cell (by omega)) (HR.out.cell (by omega)) (HR.out.cell (by omega))).mono ?_
    rintro e w' ⟨rfl, rfl⟩
    go_wp2
    go_end0
    exact ⟨rfl, rfl⟩
theorem write1_any (g o n cap r : Nat) (bs : List Int) (v : Int) (w : World) (hv : 0 ≤ v ∧ v ≤ 4294967295) (hr : Row w g bs) (hs : n = 1 ∨ n = 2 ∨ n = 4) (ho : o + n ≤ bs.length)
    (hc : w.cell? ⟨r, 0, none⟩ = some (.int .u32 v)) :
    Calls Try.prog 38 #[.slice (some ⟨g, o, none⟩) n cap, .pointer (some ⟨r, 0, none⟩)] w fun e w' => e = .returned (.tuple #[]) ∧ Row w' g (Im.sets bs o (Im.byt v) n) ∧ w.grownBy w' (some g) := by
  have HR := Lib.hid hr; clear hr
  rcases hs with rfl | rfl | rfl
  · go_enter Try.func38, Try.ntmps38
    go_wp2_with fail
    refine (lay1 g o cap v bs _ hv HR.out ho).mono ?_
    rintro e w' ⟨rfl, hrow, hgr⟩
    go_wp2
    go_end0
    exact ⟨rfl, hrow, hgr⟩
  · go_enter Try.func38, Try.ntmps38
    go_wp2_with fail
    refine (lay2 g o cap v bs _ hv HR.out ho).mono ?_
    rintro e w' ⟨rfl, hrow, hgr⟩
    go_wp2
    go_end0
    exact ⟨rfl, hrow, hgr⟩
  · go_enter Try.func38, Try.ntmps38
    go_wp2_with fail
    refine (lay4 g o cap v bs _ hv HR.out ho).mono ?_
    rintro e w' ⟨rfl, hrow, hgr⟩
    go_wp2
    go_end0
    exact ⟨rfl, hrow, hgr⟩

theorem wide3_at (n c : Int) (h : wide3.atKey (.int .i64 n) (.lit (.int .i64 0)) = .lit (.int .i64 c)) : c = bitsOf n := by
  have e : wide3 = .map [(.int .i64 1, .lit (.int .i64 8)), (.int .i64 2, .lit (.int .i64 16)), (.int .i64 4, .lit (.int .i64 32))] := by kernel_rfl
  rw [e] at h
  simp only [DataW.atKey] at h
  unfold bitsOf
  by_cases h1 : n = 1
  · subst h1; simp [Lit.sameKey] at h; rw [if_pos rfl, h]
  · by_cases h2 : n = 2
    · subst h2; simp [Lit.sameKey] at h; simp; omega
    · by_cases h4 : n = 4
      · subst h4; simp [Lit.sameKey] at h; simp; omega
      · rw [if_neg h1, if_neg h2, if_neg h4]
        simp [Lit.sameKey, Ne.symm h1, Ne.symm h2, Ne.symm h4] at h
        omega

/-- a block of one cell that has just been made, behind what has grown since -/
theorem one_new (w : World) (v : Value) (t : TypeId) {w1 : World} (hb1 : Below (w.alloc (.cells #[v] t)).heap.size (w.alloc (.cells #[v] t)) w1) :
    Below w.heap.size w w1 ∧ w1.cell? ⟨w.heap.size, 0, none⟩ = some v ∧ w1.frozen? ⟨w.heap.size, 0, none⟩ = false := by
  have hz : (w.alloc (Obj.cells #[v] t)).heap.size = w.heap.size + 1 := by simp
  refine ⟨((Below.refl w.heap.size w).alloc (Nat.le_refl _) _).trans (hb1.mono (by omega)), ?_, ?_⟩
  · exact (hb1.cell (p := ⟨w.heap.size, 0, none⟩) (by rw [hz]; exact Nat.lt_succ_self _)).trans (by rw [World.cell?_alloc_at _ _ _ _ rfl]; rfl)
  · exact (hb1.frozen (p := ⟨w.heap.size, 0, none⟩) (by rw [hz]; exact Nat.lt_succ_self _)).trans (World.frozen?_alloc_at _ _ _ _ rfl)

theorem read_refused (ptr : Value) (addr : Nat) (width code : Int) (w : World) (ha : addr ≤ 4294967295) (hw : (Lit.int .i64 width).wf = true)
    (hk : ∀ (F : Value) (w1 : World), Below w.heap.size w w1 → Calls Try.prog 34 #[ptr, .int .u64 addr, .int .i64 (bitsOf width), F] w1 fun e w' => e = .returned (.int .i64 code) ∧ w1 = w') :
    Calls Try.prog 20 #[ptr, .int .u32 addr, .int .i64 width] w fun e w' => e = .returned (.tuple #[.int .u32 0, .int .i64 code]) ∧ Below w.heap.size w w' := by
  have HW := Lib.hid hw; clear hw
  have HK := Lib.hid hk; clear hk
  go_enter Try.func20, Try.ntmps20
  go_wp2_with (first
    | (go_at_call 35; refine (widths_any _).mono ?_; rintro e w1 ⟨r, rfl, hown, hb1⟩; have HO := Lib.hid hown; clear hown)
    | (at_lookup; refine wpList_lookup_own_int _ rfl _ _ 62 rfl 3 3 .i64 lawInt Try.underlying62 Try.underlying3 (zeroInt _) r 3 _ rfl HO.out _ _ rfl (keyOf_int_mk Try.underlying3 HW.out) ?_; intro c hat hwc))
  obtain rfl := wide3_at _ _ hat
  obtain ⟨hb, hc, hf⟩ := one_new w _ _ hb1
  have HB := Lib.hid hb; clear hb hb1 hat hwc
  refine (HK.out _ _ HB.out).mono ?_
  rintro e w' ⟨rfl, rfl⟩
  go_wp2
  refine bodyPost_ret (v := .tuple #[.int .u32 0, .int .i64 code]) (by simp [results, Try.results20, go_sem, hc]) rfl ⟨rfl, HB.out.setCell (Nat.le_refl _) _⟩

theorem read_goes (p g : Nat) (bs : List Int) (addr n : Nat) (w : World) (ha : addr ≤ 4294967295) (hi : Img w p g bs) (hs : n = 1 ∨ n = 2 ∨ n = 4) (hal : addr % n = 0) (hlt : addr < bs.length) :
    Calls Try.prog 20 #[.pointer (some ⟨p, 0, none⟩), .int .u32 addr, .int .i64 n] w fun e w' => e = .returned (.tuple #[.int .u32 (Im.val (Im.win bs addr n)), .int .i64 0]) ∧ Below w.heap.size w w' := by
  have HI := Lib.hid hi; clear hi
  have hbd := HI.out.bd
  have HW := Lib.hid (show (Lit.int .i64 (n : Int)).wf = true by rcases hs with rfl | rfl | rfl <;> decide)
  have HL := Lib.hid (show addr + n ≤ bs.length by rcases hs with rfl | rfl | rfl <;> omega)
  have HA := Lib.hid hal; clear hal
  have HS := Lib.hid hs; clear hs
  go_enter Try.func20, Try.ntmps20
  go_wp2_with (first
    | (go_at_call 35; refine (widths_any _).mono ?_; rintro e w1 ⟨r, rfl, hown, hb1⟩; have HO := Lib.hid hown; clear hown)
    | (at_lookup; refine wpList_lookup_own_int _ rfl _ _ 62 rfl 3 3 .i64 lawInt Try.underlying62 Try.underlying3 (zeroInt _) r 3 _ rfl HO.out _ _ rfl (keyOf_int_mk Try.underlying3 HW.out) ?_; intro c hat hwc))
  obtain rfl := wide3_at _ _ hat
  obtain ⟨hb, hc, hf⟩ := one_new w _ _ hb1
  have HB := Lib.hid hb; clear hb hb1 hat hwc
  have hi1 := HI.out.old HB.out
  have hcall := read1_any g addr n n w.heap.size bs _ w1 hi1.byt hi1.row HS.out HL.out hc hf
  refine (reach_goes p g bs.length addr n (bitsOf n) 36 (.inl rfl) ⟨w.heap.size, 0, none⟩ _ (by rcases HS.out with rfl | rfl | rfl <;> decide) HA.out HL.out _ ⟨hbd.1, hbd.2.1⟩ hi1.cell hcall).mono ?_
  clear hcall hi1
  rintro e w' ⟨rfl, rfl⟩
  go_wp2
  refine bodyPost_ret (v := .tuple #[.int .u32 (Im.val (Im.win bs addr n)), .int .i64 0]) (by simp [results, Try.results20, go_sem, hc]) rfl ⟨rfl, (HB.out.setCell (Nat.le_refl _) _).setCell (Nat.le_refl _) _⟩

end Go.Proofs.Ytchjcfmmnfimlaa
