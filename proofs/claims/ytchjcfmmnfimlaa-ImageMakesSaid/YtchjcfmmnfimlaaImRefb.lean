/-
  The contracts of the document's own answers for layer 2: Read, Write, Line; and of the statements' own 'sized'.
-/
import Derived.Test.YtchjcfmmnfimlaaImRef
namespace Go.Proofs.Ytchjcfmmnfimlaa
open Go.RowKit Go.Maps
set_option linter.unusedVariables false

theorem rread_any (g addr n : Nat) (xs : List Int) (w : World) (hr : Row w g xs) (hb : Im.Byt xs) (hl : xs.length ≤ 4096) (hm : xs.length % 16 = 0) (ha : addr ≤ 4294967295) (hg : Goes xs.length addr n) :
    Calls Try.prog 22 #[.slice (some ⟨g, 0, none⟩) xs.length xs.length, .int .u32 addr, .int .i64 n] w fun e w' => e = .returned (.int .u32 (Im.val (Im.win xs addr n))) ∧ w = w' := by
  obtain ⟨hn, h, hlt⟩ := hg
  have HR := Lib.hid hr; have HB := Lib.hid hb; clear hr hb
  rcases hn with rfl | rfl | rfl
  · have hle : addr + 1 ≤ xs.length := by omega
    rw [Im.win1 hle, Im.val1]
    have ba := Im.getD_byt HB.out (addr)
    have ca := HR.out.cell (j := addr) (by omega)
    obtain ⟨a, ea⟩ : ∃ a, a = xs.getD (addr) 0 := ⟨_, rfl⟩
    rw [← ea] at ba ca ⊢
    clear h ea
    go_enter Try.func22, Try.ntmps22
    go_wp2
    refine wp_loop_rounds 2 ?_
    rw [rounds_succ]
    go_wp2
    rw [rounds_succ]
    go_wp2
    go_ret
    exact ⟨ret_int (by omega), rfl⟩
  · have hle : addr + 2 ≤ xs.length := by omega
    rw [Im.win2 hle, Im.val2]
    have ba := Im.getD_byt HB.out (addr)
    have ca := HR.out.cell (j := addr) (by omega)
    obtain ⟨a, ea⟩ : ∃ a, a = xs.getD (addr) 0 := ⟨_, rfl⟩
    rw [← ea] at ba ca ⊢
    have bb := Im.getD_byt HB.out (addr + 1)
    have cb := HR.out.cell (j := addr + 1) (by omega)
    obtain ⟨b, eb⟩ : ∃ b, b = xs.getD (addr + 1) 0 := ⟨_, rfl⟩
    rw [← eb] at bb cb ⊢
    clear h ea eb
    go_enter Try.func22, Try.ntmps22
    go_wp2
    refine wp_loop_rounds 3 ?_
    rw [rounds_succ]
    go_wp2
    rw [rounds_succ]
    go_wp2
    rw [rounds_succ]
    go_wp2
    go_ret
    exact ⟨ret_int (by omega), rfl⟩
  · have hle : addr + 4 ≤ xs.length := by omega
    rw [Im.win4 hle, Im.val4]
    have ba := Im.getD_byt HB.out (addr)
    have ca := HR.out.cell (j := addr) (by omega)
    obtain ⟨a, ea⟩ : ∃ a, a = xs.getD (addr) 0 := ⟨_, rfl⟩
    rw [← ea] at ba ca ⊢
    have bb := Im.getD_byt HB.out (addr + 1)
    have cb := HR.out.cell (j := addr + 1) (by omega)
    obtain ⟨b, eb⟩ : ∃ b, b = xs.getD (addr + 1) 0 := ⟨_, rfl⟩
    rw [← eb] at bb cb ⊢
    have bc := Im.getD_byt HB.out (addr + 2)
    have cc := HR.out.cell (j := addr + 2) (by omega)
    obtain ⟨c, ec⟩ : ∃ c, c = xs.getD (addr + 2) 0 := ⟨_, rfl⟩
    rw [← ec] at bc cc ⊢
    have bd := Im.getD_byt HB.out (addr + 3)
    have cd := HR.out.cell (j := addr + 3) (by omega)
    obtain ⟨d, ed⟩ : ∃ d, d = xs.getD (addr + 3) 0 := ⟨_, rfl⟩
    rw [← ed] at bd cd ⊢
    clear h ea eb ec ed
    go_enter Try.func22, Try.ntmps22
    go_wp2
    refine wp_loop_rounds 5 ?_
    rw [rounds_succ]
    go_wp2
    rw [rounds_succ]
    go_wp2
    rw [rounds_succ]
    go_wp2
    rw [rounds_succ]
    go_wp2
    rw [rounds_succ]
    go_wp2
    go_ret
    exact ⟨ret_int (by omega), rfl⟩

theorem win16 {bs : List Int} {off : Nat} (h : off + 16 ≤ bs.length) : Im.win bs off 16 = [bs.getD off 0, bs.getD (off + 1) 0, bs.getD (off + 2) 0, bs.getD (off + 3) 0, bs.getD (off + 4) 0, bs.getD (off + 5) 0, bs.getD (off + 6) 0, bs.getD (off + 7) 0, bs.getD (off + 8) 0, bs.getD (off + 9) 0, bs.getD (off + 10) 0, bs.getD (off + 11) 0, bs.getD (off + 12) 0, bs.getD (off + 13) 0, bs.getD (off + 14) 0, bs.getD (off + 15) 0] :=
  Im.ext_getD (by rw [Im.length_win h]; rfl) (fun j hj => by
    rw [Im.length_win h] at hj
    rw [Im.get_win _ _ _ _ (by omega)]
    rcases (show j = 0 ∨ j = 1 ∨ j = 2 ∨ j = 3 ∨ j = 4 ∨ j = 5 ∨ j = 6 ∨ j = 7 ∨ j = 8 ∨ j = 9 ∨ j = 10 ∨ j = 11 ∨ j = 12 ∨ j = 13 ∨ j = 14 ∨ j = 15 by omega) with rfl | rfl | rfl | rfl | rfl | rfl | rfl | rfl | rfl | rfl | rfl | rfl | rfl | rfl | rfl | rfl <;> rfl)
theorem own_at {w : World} {base n : Nat} {v : Value} {xs : List Value} (h : w.ownsRow base 5 1 v n xs) (hn : 0 < n) : ∃ g cap, v = .slice (some ⟨g, 0, none⟩) n cap ∧ base ≤ g := by
  rcases h.2 with ⟨rfl, h0⟩ | ⟨g, cap, cur, rfl, hb, _⟩
  · omega
  · exact ⟨g, cap, rfl, hb⟩
theorem own_cell {w : World} {base g n cap : Nat} {xs : List Int} (h : w.ownsRow base 5 1 (.slice (some ⟨g, 0, none⟩) n cap) n (Im.vals xs)) {j : Nat} (hj : j < n) : w.cell? ⟨g, j, none⟩ = some (.int .u8 (xs.getD j 0)) := by
  have hl : xs.length = n := by have := h.1; rw [len_vals] at this; omega
  rw [h.cellAt j (by omega)]
  simp [Im.vals, List.getD_eq_getElem?_getD, List.getElem?_eq_getElem (show j < xs.length by omega)]
theorem own_set {w : World} {base g n cap : Nat} {xs : List Int} (h : w.ownsRow base 5 1 (.slice (some ⟨g, 0, none⟩) n cap) n (Im.vals xs)) (j : Nat) (x : Int) (hj : j < n := by omega) : (w.setCell ⟨g, j, none⟩ (.int .u8 x)).ownsRow base 5 1 (.slice (some ⟨g, 0, none⟩) n cap) n (Im.vals (xs.set j x)) := by
  have := (h.stored j (.int .u8 x)).1
  simpa [Im.vals, List.map_set] using this
theorem own_frozen {w : World} {base g n cap : Nat} {xs : List Value} (h : w.ownsRow base 5 1 (.slice (some ⟨g, 0, none⟩) n cap) n xs) (j : Nat) : w.frozen? ⟨g, j, none⟩ = false := h.frozenAt j
set_option maxHeartbeats 1600000 in
theorem rwrite_any (g addr n : Nat) (v : Int) (xs : List Int) (w : World) (hr : Row w g xs) (hb : Im.Byt xs) (hl : xs.length ≤ 4096) (hm : xs.length % 16 = 0) (ha : addr ≤ 4294967295) (hv : 0 ≤ v ∧ v ≤ 4294967295) (hg : Goes xs.length addr n) :
    Calls Try.prog 23 #[.slice (some ⟨g, 0, none⟩) xs.length xs.length, .int .u32 addr, .int .i64 n, .int .u32 v] w fun e w' => ∃ v', e = .returned v' ∧ w'.ownsRow w.heap.size 5 1 v' xs.length (Im.vals (Im.sets xs addr (Im.byt v) n)) ∧ Below w.heap.size w w' := by
  obtain ⟨hn, h, hlt⟩ := hg
  obtain ⟨i0, hi, hz0, hz1, hz2⟩ := info_parts info5
  have HI := Lib.hid hi; have HZ0 := Lib.hid hz0; have HZ1 := Lib.hid hz1; have HZ2 := Lib.hid hz2; clear hi hz0 hz1 hz2
  have HR := Lib.hid hr; have HB := Lib.hid hb; clear hr hb
  have hown := World.ownsRow_made (base := w.heap.size) (e := 5) (size := 1) w #[] 0 (Nat.le_refl _) (by unfold maxLen; omega) rfl
  have hsrc : ∀ (j : Nat) (v : Value), (Im.vals xs)[j]? = some v → (w.alloc (.cells #[] 5)).cell? ((⟨g, 0, none⟩ : Addr).add j) = some v := fun j v hv => by
    have e : (⟨g, 0, none⟩ : Addr).add j = ⟨g, j, none⟩ := by unfold Addr.add; split <;> simp_all
    rw [e, cell_of_row _ g j _ _ _ (HR.out.alloc _)]; simpa using hv
  have HO := Lib.hid hown; have HS := Lib.hid hsrc; clear hown hsrc
  rcases hn with rfl | rfl | rfl
  · have hle : addr + 1 ≤ xs.length := by omega
    clear h
    go_enter Try.func23, Try.ntmps23
    go_wp2_with (at_builtin; refine wpList_append_own _ rfl (.tmp 11) (.tmp 12) 22 rfl w.heap.size 5 i0 (.int .u8 0) 1 1 Try.underlying22 HI.out HZ0.out HZ1.out HZ2.out rfl (by decide) _ 0 [] rfl HO.out ⟨g, 0, none⟩ xs.length xs.length (Im.vals xs) rfl (by rw [len_vals]; omega) HS.out (ints_oneCell .u8 xs) (by unfold maxLen; omega) (by omega) (by simp) ?_; intro v' w1 hown1 hg1 _; simp only [Nat.zero_add, List.nil_append] at hown1; obtain ⟨g', cap, rfl, hge⟩ := own_at hown1 (by omega); have HO1 := Lib.hid hown1; have HG1 := Lib.hid hg1; clear hown1 hg1)
    have c0 := own_cell HO1.out (j := addr) (by omega)
    have f0 := own_frozen HO1.out (addr)
    refine wp_loop_rounds 2 ?_
    rw [rounds_succ]
    go_wp2
    rw [rounds_succ]
    go_wp2
    have HB1 := Lib.hid (((Below.refl w.heap.size w).alloc (Nat.le_refl _) (.cells #[] 5)).grown HG1.out (by simp) (fun k hk => by cases hk; exact Nat.le_refl _))
    refine bodyPost_ret (v := .slice (some ⟨g', 0, none⟩) xs.length cap) (by simp [results, Try.results23]) rfl ⟨_, rfl, ?_, (HB1.out.setCell hge _)⟩
    rw [Im.sets1_eq]
    exact (own_set HO1.out (addr) _)
  · have hle : addr + 2 ≤ xs.length := by omega
    clear h
    go_enter Try.func23, Try.ntmps23
    go_wp2_with (at_builtin; refine wpList_append_own _ rfl (.tmp 11) (.tmp 12) 22 rfl w.heap.size 5 i0 (.int .u8 0) 1 1 Try.underlying22 HI.out HZ0.out HZ1.out HZ2.out rfl (by decide) _ 0 [] rfl HO.out ⟨g, 0, none⟩ xs.length xs.length (Im.vals xs) rfl (by rw [len_vals]; omega) HS.out (ints_oneCell .u8 xs) (by unfold maxLen; omega) (by omega) (by simp) ?_; intro v' w1 hown1 hg1 _; simp only [Nat.zero_add, List.nil_append] at hown1; obtain ⟨g', cap, rfl, hge⟩ := own_at hown1 (by omega); have HO1 := Lib.hid hown1; have HG1 := Lib.hid hg1; clear hown1 hg1)
    have c0 := own_cell HO1.out (j := addr) (by omega)
    have f0 := own_frozen HO1.out (addr)
    have c1 := own_cell HO1.out (j := addr + 1) (by omega)
    have f1 := own_frozen HO1.out (addr + 1)
    refine wp_loop_rounds 3 ?_
    rw [rounds_succ]
    go_wp2
    rw [rounds_succ]
    go_wp2
    rw [rounds_succ]
    go_wp2
    have HB1 := Lib.hid (((Below.refl w.heap.size w).alloc (Nat.le_refl _) (.cells #[] 5)).grown HG1.out (by simp) (fun k hk => by cases hk; exact Nat.le_refl _))
    refine bodyPost_ret (v := .slice (some ⟨g', 0, none⟩) xs.length cap) (by simp [results, Try.results23]) rfl ⟨_, rfl, ?_, ((HB1.out.setCell hge _).setCell hge _)⟩
    rw [Im.sets2_eq]
    exact (own_set (own_set HO1.out (addr) _) (addr + 1) _)
  · have hle : addr + 4 ≤ xs.length := by omega
    clear h
    go_enter Try.func23, Try.ntmps23
    go_wp2_with (at_builtin; refine wpList_append_own _ rfl (.tmp 11) (.tmp 12) 22 rfl w.heap.size 5 i0 (.int .u8 0) 1 1 Try.underlying22 HI.out HZ0.out HZ1.out HZ2.out rfl (by decide) _ 0 [] rfl HO.out ⟨g, 0, none⟩ xs.length xs.length (Im.vals xs) rfl (by rw [len_vals]; omega) HS.out (ints_oneCell .u8 xs) (by unfold maxLen; omega) (by omega) (by simp) ?_; intro v' w1 hown1 hg1 _; simp only [Nat.zero_add, List.nil_append] at hown1; obtain ⟨g', cap, rfl, hge⟩ := own_at hown1 (by omega); have HO1 := Lib.hid hown1; have HG1 := Lib.hid hg1; clear hown1 hg1)
    have c0 := own_cell HO1.out (j := addr) (by omega)
    have f0 := own_frozen HO1.out (addr)
    have c1 := own_cell HO1.out (j := addr + 1) (by omega)
    have f1 := own_frozen HO1.out (addr + 1)
    have c2 := own_cell HO1.out (j := addr + 2) (by omega)
    have f2 := own_frozen HO1.out (addr + 2)
    have c3 := own_cell HO1.out (j := addr + 3) (by omega)
    have f3 := own_frozen HO1.out (addr + 3)
    refine wp_loop_rounds 5 ?_
    rw [rounds_succ]
    go_wp2
    rw [rounds_succ]
    go_wp2
    rw [rounds_succ]
    go_wp2
    rw [rounds_succ]
    go_wp2
    rw [rounds_succ]
    go_wp2
    have HB1 := Lib.hid (((Below.refl w.heap.size w).alloc (Nat.le_refl _) (.cells #[] 5)).grown HG1.out (by simp) (fun k hk => by cases hk; exact Nat.le_refl _))
    refine bodyPost_ret (v := .slice (some ⟨g', 0, none⟩) xs.length cap) (by simp [results, Try.results23]) rfl ⟨_, rfl, ?_, ((((HB1.out.setCell hge _).setCell hge _).setCell hge _).setCell hge _)⟩
    rw [Im.sets4_eq _ _ hv.2 hv.1] ; rw [show v / 65536 % 256 = v / 256 / 256 % 256 by omega, show v / 16777216 = v / 256 / 256 / 256 % 256 by omega]
    exact (own_set (own_set (own_set (own_set HO1.out (addr) _) (addr + 1) _) (addr + 2) _) (addr + 3) _)

set_option maxHeartbeats 1600000 in
theorem rline_any (g n : Nat) (xs : List Int) (w : World) (hr : Row w g xs) (hl : xs.length ≤ 4096) (hm : xs.length % 16 = 0) (hlt : n * 16 < xs.length) :
    Calls Try.prog 26 #[.slice (some ⟨g, 0, none⟩) xs.length xs.length, .int .u32 n] w fun e w' => e = .returned (.agg (Im.vals (Im.win xs (n * 16) 16)).toArray) ∧ Below w.heap.size w w' := by
  have HR := Lib.hid hr; clear hr
  have hle : 16 * n + 16 ≤ xs.length := by omega
  have hg0 := HR.out.lt
  have hg1 : g < w.heap.size + 1 := by omega
  have HW := Lib.hid (win16 (bs := xs) (off := 16 * n) (by omega))
  rw [show n * 16 = 16 * n by omega] at hlt ⊢
  have c0 := HR.out.cell (j := 16 * n) (by omega)
  obtain ⟨x0, e0⟩ : ∃ x, x = xs.getD (16 * n) 0 := ⟨_, rfl⟩
  rw [← e0] at c0
  have c1 := HR.out.cell (j := 16 * n + 1) (by omega)
  obtain ⟨x1, e1⟩ : ∃ x, x = xs.getD (16 * n + 1) 0 := ⟨_, rfl⟩
  rw [← e1] at c1
  have c2 := HR.out.cell (j := 16 * n + 2) (by omega)
  obtain ⟨x2, e2⟩ : ∃ x, x = xs.getD (16 * n + 2) 0 := ⟨_, rfl⟩
  rw [← e2] at c2
  have c3 := HR.out.cell (j := 16 * n + 3) (by omega)
  obtain ⟨x3, e3⟩ : ∃ x, x = xs.getD (16 * n + 3) 0 := ⟨_, rfl⟩
  rw [← e3] at c3
  have c4 := HR.out.cell (j := 16 * n + 4) (by omega)
  obtain ⟨x4, e4⟩ : ∃ x, x = xs.getD (16 * n + 4) 0 := ⟨_, rfl⟩
  rw [← e4] at c4
  have c5 := HR.out.cell (j := 16 * n + 5) (by omega)
  obtain ⟨x5, e5⟩ : ∃ x, x = xs.getD (16 * n + 5) 0 := ⟨_, rfl⟩
  rw [← e5] at c5
  have c6 := HR.out.cell (j := 16 * n + 6) (by omega)
  obtain ⟨x6, e6⟩ : ∃ x, x = xs.getD (16 * n + 6) 0 := ⟨_, rfl⟩
  rw [← e6] at c6
  have c7 := HR.out.cell (j := 16 * n + 7) (by omega)
  obtain ⟨x7, e7⟩ : ∃ x, x = xs.getD (16 * n + 7) 0 := ⟨_, rfl⟩
  rw [← e7] at c7
  have c8 := HR.out.cell (j := 16 * n + 8) (by omega)
  obtain ⟨x8, e8⟩ : ∃ x, x = xs.getD (16 * n + 8) 0 := ⟨_, rfl⟩
  rw [← e8] at c8
  have c9 := HR.out.cell (j := 16 * n + 9) (by omega)
  obtain ⟨x9, e9⟩ : ∃ x, x = xs.getD (16 * n + 9) 0 := ⟨_, rfl⟩
  rw [← e9] at c9
  have c10 := HR.out.cell (j := 16 * n + 10) (by omega)
  obtain ⟨x10, e10⟩ : ∃ x, x = xs.getD (16 * n + 10) 0 := ⟨_, rfl⟩
  rw [← e10] at c10
  have c11 := HR.out.cell (j := 16 * n + 11) (by omega)
  obtain ⟨x11, e11⟩ : ∃ x, x = xs.getD (16 * n + 11) 0 := ⟨_, rfl⟩
  rw [← e11] at c11
  have c12 := HR.out.cell (j := 16 * n + 12) (by omega)
  obtain ⟨x12, e12⟩ : ∃ x, x = xs.getD (16 * n + 12) 0 := ⟨_, rfl⟩
  rw [← e12] at c12
  have c13 := HR.out.cell (j := 16 * n + 13) (by omega)
  obtain ⟨x13, e13⟩ : ∃ x, x = xs.getD (16 * n + 13) 0 := ⟨_, rfl⟩
  rw [← e13] at c13
  have c14 := HR.out.cell (j := 16 * n + 14) (by omega)
  obtain ⟨x14, e14⟩ : ∃ x, x = xs.getD (16 * n + 14) 0 := ⟨_, rfl⟩
  rw [← e14] at c14
  have c15 := HR.out.cell (j := 16 * n + 15) (by omega)
  obtain ⟨x15, e15⟩ : ∃ x, x = xs.getD (16 * n + 15) 0 := ⟨_, rfl⟩
  rw [← e15] at c15
  have HE := Lib.hid (And.intro e0 (And.intro e1 (And.intro e2 (And.intro e3 (And.intro e4 (And.intro e5 (And.intro e6 (And.intro e7 (And.intro e8 (And.intro e9 (And.intro e10 (And.intro e11 (And.intro e12 (And.intro e13 (And.intro e14 e15)))))))))))))))
  clear e0 e1 e2 e3 e4 e5 e6 e7 e8 e9 e10 e11 e12 e13 e14 e15
  go_enter Try.func26, Try.ntmps26
  go_wp2
  refine wp_loop_rounds 17 ?_
  rw [rounds_succ]
  go_wp2
  rw [rounds_succ]
  go_wp2
  rw [rounds_succ]
  go_wp2
  rw [rounds_succ]
  go_wp2
  rw [rounds_succ]
  go_wp2
  rw [rounds_succ]
  go_wp2
  rw [rounds_succ]
  go_wp2
  rw [rounds_succ]
  go_wp2
  rw [rounds_succ]
  go_wp2
  rw [rounds_succ]
  go_wp2
  rw [rounds_succ]
  go_wp2
  rw [rounds_succ]
  go_wp2
  rw [rounds_succ]
  go_wp2
  rw [rounds_succ]
  go_wp2
  rw [rounds_succ]
  go_wp2
  rw [rounds_succ]
  go_wp2
  rw [rounds_succ]
  go_wp2
  have hw : Im.win xs (16 * n) 16 = [x0, x1, x2, x3, x4, x5, x6, x7, x8, x9, x10, x11, x12, x13, x14, x15] := by
    obtain ⟨e0, e1, e2, e3, e4, e5, e6, e7, e8, e9, e10, e11, e12, e13, e14, e15⟩ := HE.out
    rw [HW.out, ← e0, ← e1, ← e2, ← e3, ← e4, ← e5, ← e6, ← e7, ← e8, ← e9, ← e10, ← e11, ← e12, ← e13, ← e14, ← e15]
  rw [hw]
  refine bodyPost_ret (results_cell_row rfl _ _ w.heap.size 45 _ (0, 0) _ rfl (heap_alloc2_old w _ _) Try.underlying45 rfl (by kernel_rfl)) rfl ⟨rfl, ((Below.refl _ _).alloc (Nat.le_refl _) _).alloc (by simp) _⟩

end Go.Proofs.Ytchjcfmmnfimlaa
