/-
  HartOne: for every input the statement's function returns true, with no condition; each argument reads behind the call as before. With the walk and the plain facts on registers that it leans on.
-/
import Derived.Test.YtianojbdabeoeaaGreatDoorHlEM

section
namespace Go.Proofs.YtianojbdabeoeaaGreatDoor
open Go.RowKit Ht
set_option linter.unusedVariables false
/-- how many registers below k have turned -/
def Ht.cnt (f g : Nat → Int) : Nat → Nat
  | 0 => 0
  | k + 1 => cnt f g k + (if f k = g k then 0 else 1)
theorem Ht.cnt_le (f g : Nat → Int) (k : Nat) : cnt f g k ≤ k := by
  induction k with
  | zero => exact Nat.le_refl _
  | succ k ih => unfold cnt; split <;> omega
theorem Ht.cnt_same (f : Nat → Int) (k : Nat) : cnt f f k = 0 := by
  induction k with
  | zero => rfl
  | succ k ih => unfold cnt; rw [if_pos rfl, ih]
theorem Ht.cnt_upd (f : Nat → Int) (r : Nat) (n : Int) (k : Nat) : cnt (upd f r n) f k ≤ (if r < k then 1 else 0) := by
  induction k with
  | zero => show 0 ≤ _; omega
  | succ k ih =>
    unfold cnt
    by_cases h : k = r
    · subst h
      rw [if_neg (by omega)] at ih
      have h1 : (if k < k + 1 then 1 else 0 : Nat) = 1 := if_pos (by omega)
      rw [h1]
      split <;> omega
    · have e : upd f r n k = f k := by unfold upd; rw [if_neg h]
      rw [if_pos e]
      by_cases h2 : r < k
      · rw [if_pos h2] at ih; rw [if_pos (by omega)]; omega
      · rw [if_neg h2] at ih; omega

theorem wpList_load_rowX {P : Program} {ops : Array Oper} {rest : List Oper} {o : Oper} {a : Act} {w : World} {Q : Exit → Act → World → Prop} (ty : TypeId) (x : Operand) (ho : o.op = .load ty x)
    (g : Nat) (hx : a.eval x = .pointer (some ⟨g, 0, none⟩)) (hgd : Region.wanted o (yielded ops a.tmps) = true) (t : TypeId) (cs : Array Value) (fr : Nat × Nat) (d : TypeDesc) (hg : w.heap[g]? = some (.cells cs t fr))
    (hu : P.underlying ty = some d) (hd : (match d with | .struct _ | .array _ _ => true | _ => false) = true) (hi : (P.info? ty).map (·.size) = some cs.size)
    (h : wpList P ops Q rest (a.put o.dst (.agg cs)) w) : wpList P ops Q (o :: rest) a w :=
  wpList_step fun K hK => by rw [if_pos hgd]; exact wp_load_row ty x ho g hx t cs fr d hg hu hd hi (hK _ _ h)

set_option maxRecDepth 100000 in
set_option maxHeartbeats 16000000 in
theorem one_any (h ho hp : H) (a : A) (c err x size tv : Int) (tok : Bool) (tv' : Int) (tok' : Bool) (w : World)
    (hO : ∀ w, Calls Tryz.prog 11 #[hartV h, .int .u32 x, .int .i64 size, ansV tv tok] w fun e w' => e = .returned (.tuple #[hartV ho, .int .i64 err]) ∧ Below w.heap.size w w')
    (hP : ∀ w, Calls Tryz.prog 11 #[hartV h, .int .u32 x, .int .i64 size, ansV tv' tok'] w fun e w' => e = .returned (.tuple #[hartV hp, .int .i64 err]) ∧ Below w.heap.size w w')
    (hA : ∀ w, Calls Tryz.prog 12 #[hartV h, .int .u32 x, .int .i64 size] w fun e w' => e = .returned (.tuple #[accV a, .int .i64 c, .int .i64 err]) ∧ Below w.heap.size w w')
    (hE : err = 0 → cnt ho.R h.R 32 ≤ 1 ∧ ho.R 0 = 0 ∧ ho.id = h.id ∧ ho.cause = c ∧ (c ≠ 0 → cnt ho.R h.R 32 = 0 ∧ ho.pc = h.pc) ∧ (a.kind = 0 ∨ a.kind = 2 ∨ a.kind = 6 → same ho hp = true) ∧ (c ≠ 0 → a.kind = 0)) :
    Calls Tryz.prog 3 #[hartV h, toldV x size tv tok, ansV tv' tok'] w fun e w' => e = .returned (.bool true) ∧ Below w.heap.size w w' := by
  have HO := Lib.hid hO; have HP := Lib.hid hP; have HA := Lib.hid hA
  have HE := Lib.hid hE
  clear hO hP hA hE
  have K := Lib.hid (heap_a3 w (.cells (hcells h).toArray 26) (.cells #[.int .u32 x, .int .i64 size, .int .u32 tv, .bool tok] 30) (.cells #[.int .u32 tv', .bool tok'] 28))
  unfold hartV toldV ansV
  go_enter Tryz.func3, Tryz.ntmps3
  go_wp2_with (first
    | (refine wpList_load_row rfl 26 (.tmp 3) rfl w.heap.size rfl 26 (hcells h).toArray (0, 0) _ K.out.1 Tryz.underlying26 rfl (by kernel_rfl) ?_)
    | (refine wpList_load_part rfl 28 (.tmp 23) rfl (w.heap.size + 1) 2 rfl 30 #[.int .u32 x, .int .i64 size, .int .u32 tv, .bool tok] [.int .u32 tv, .bool tok] (0, 0) _ K.out.2.1 rfl Tryz.underlying28 rfl (by kernel_rfl) ?_))
  refine (HO.out _).mono ?_
  rintro e w1 ⟨rfl, hb⟩
  have r0 : w1.heap[w.heap.size]? = some (.cells (hcells h).toArray 26) := (hb.block w.heap.size (by simp only [World.size_alloc]; omega)).trans K.out.1
  have r1 : w1.heap[w.heap.size + 1]? = some (.cells #[.int .u32 x, .int .i64 size, .int .u32 tv, .bool tok] 30) := (hb.block (w.heap.size + 1) (by simp only [World.size_alloc]; omega)).trans K.out.2.1
  have r2 : w1.heap[w.heap.size + 2]? = some (.cells #[.int .u32 tv', .bool tok'] 28) := (hb.block (w.heap.size + 2) (by simp only [World.size_alloc]; omega)).trans K.out.2.2
  have b1 : Below w.heap.size w w1 := ((((Below.refl w.heap.size w).alloc (Nat.le_refl _) _).alloc (by simp only [World.size_alloc]; omega) _).alloc (by simp only [World.size_alloc]; omega) _).trans (hb.mono (by simp only [World.size_alloc]; omega))
  have z1 : w.heap.size + 3 ≤ w1.heap.size := by have := hb.size; simp only [World.size_alloc] at this; omega
  clear hb
  obtain ⟨W2, hW2⟩ : ∃ W2, W2 = (w1.alloc (.cells hzero 26)).setRow w1.heap.size (hcells ho).toArray := ⟨_, rfl⟩
  have old : ∀ k, k < w1.heap.size → W2.heap[k]? = w1.heap[k]? := fun k hk => by rw [hW2]; exact (setRow_other _ _ _ _ (by omega)).trans (Below.heap_alloc _ _ _ hk)
  have q0 := (old w.heap.size (by omega)).trans r0
  have q1 := (old (w.heap.size + 1) (by omega)).trans r1
  have q2 := (old (w.heap.size + 2) (by omega)).trans r2
  have q3 : W2.heap[w1.heap.size]? = some (.cells (hcells ho).toArray 26) := by rw [hW2]; exact setRow_heap _ _ _ _ _ _ (heap_alloc_new _ _)
  have b2 : Below w.heap.size w W2 := by rw [hW2]; exact below_setRow (b1.alloc b1.size _) b1.size
  have z2 : w1.heap.size + 1 ≤ W2.heap.size := by rw [hW2]; simp
  have d0 : W2.cell? ⟨w.heap.size + 1, 0, none⟩ = some (.int .u32 x) := by rw [cell_of_row W2 _ 0 _ _ _ q1]; rfl
  have d1 : W2.cell? ⟨w.heap.size + 1, 1, none⟩ = some (.int .i64 size) := by rw [cell_of_row W2 _ 1 _ _ _ q1]; rfl
  have Z1 := Lib.hid z1; have Z2 := Lib.hid z2; have Q0 := Lib.hid q0; have Q1 := Lib.hid q1; have Q2 := Lib.hid q2; have Q3 := Lib.hid q3; have B2 := Lib.hid b2; have HW2 := Lib.hid hW2
  clear r0 r1 r2 b1 z1 z2 old q0 q1 q2 q3 b2 hW2 K
  go_wp2_with (first
    | (refine wpList_store_row rfl 26 (.tmp 7) (.tmp 26) rfl w1.heap.size (hcells ho).toArray rfl rfl 26 hzero (heap_alloc_new _ _) (by kernel_rfl) (by kernel_rfl) (by kernel_rfl) ?_; rw [← HW2.out])
    | (refine wpList_load_row rfl 26 (.tmp 3) rfl w.heap.size rfl 26 (hcells h).toArray (0, 0) _ Q0.out Tryz.underlying26 rfl (by kernel_rfl) ?_)
    | (refine wpList_load_row rfl 28 (.tmp 5) rfl (w.heap.size + 2) rfl 28 #[.int .u32 tv', .bool tok'] (0, 0) _ Q2.out Tryz.underlying28 rfl (by kernel_rfl) ?_))
  refine (HP.out _).mono ?_
  rintro e w3 ⟨rfl, hb⟩
  clear d0 d1
  obtain ⟨W4, hW4⟩ : ∃ W4, W4 = (w3.alloc (.cells hzero 26)).setRow w3.heap.size (hcells hp).toArray := ⟨_, rfl⟩
  have z3 : w1.heap.size + 1 ≤ w3.heap.size := Nat.le_trans Z2.out hb.size
  have old : ∀ k, k < W2.heap.size → W4.heap[k]? = W2.heap[k]? := fun k hk => by rw [hW4]; exact (setRow_other _ _ _ _ (by have := hb.size; omega)).trans ((Below.heap_alloc _ _ _ (by have := hb.size; omega)).trans (hb.block k hk))
  have q0 := (old w.heap.size (by have := Z1.out; have := Z2.out; omega)).trans Q0.out
  have q1 := (old (w.heap.size + 1) (by have := Z1.out; have := Z2.out; omega)).trans Q1.out
  have q3 := (old w1.heap.size (by have := Z2.out; omega)).trans Q3.out
  have q4 : W4.heap[w3.heap.size]? = some (.cells (hcells hp).toArray 26) := by rw [hW4]; exact setRow_heap _ _ _ _ _ _ (heap_alloc_new _ _)
  have b3 : Below w.heap.size w w3 := B2.out.trans (hb.mono B2.out.size)
  have b4 : Below w.heap.size w W4 := by rw [hW4]; exact below_setRow (b3.alloc b3.size _) b3.size
  have z4 : w3.heap.size + 1 ≤ W4.heap.size := by rw [hW4]; simp
  have d0 : W4.cell? ⟨w.heap.size + 1, 0, none⟩ = some (.int .u32 x) := by rw [cell_of_row W4 _ 0 _ _ _ q1]; rfl
  have d1 : W4.cell? ⟨w.heap.size + 1, 1, none⟩ = some (.int .i64 size) := by rw [cell_of_row W4 _ 1 _ _ _ q1]; rfl
  have Z3 := Lib.hid z3; have Z4 := Lib.hid z4; have P0 := Lib.hid q0; have P3 := Lib.hid q3; have P4 := Lib.hid q4; have B4 := Lib.hid b4; have HW4 := Lib.hid hW4
  clear z3 z4 old q0 q1 q3 q4 b3 b4 hW4 hb Q0 Q1 Q2 Q3 B2 HW2 Z2
  go_wp2_with (first
    | (refine wpList_store_row rfl 26 (.tmp 9) (.tmp 36) rfl w3.heap.size (hcells hp).toArray rfl rfl 26 hzero (heap_alloc_new _ _) (by kernel_rfl) (by kernel_rfl) (by kernel_rfl) ?_; rw [← HW4.out])
    | (refine wpList_load_row rfl 26 (.tmp 3) rfl w.heap.size rfl 26 (hcells h).toArray (0, 0) _ P0.out Tryz.underlying26 rfl (by kernel_rfl) ?_))
  refine (HA.out _).mono ?_
  rintro e w5 ⟨rfl, hb⟩
  clear d0 d1
  obtain ⟨W6, hW6⟩ : ∃ W6, W6 = (w5.alloc (.cells azero 37)).setRow w5.heap.size (acells a).toArray := ⟨_, rfl⟩
  have old : ∀ k, k < W4.heap.size → W6.heap[k]? = W4.heap[k]? := fun k hk => by rw [hW6]; exact (setRow_other _ _ _ _ (by have := hb.size; omega)).trans ((Below.heap_alloc _ _ _ (by have := hb.size; omega)).trans (hb.block k hk))
  have q0 := (old w.heap.size (by have := Z1.out; have := Z3.out; have := Z4.out; omega)).trans P0.out
  have q3 := (old w1.heap.size (by have := Z3.out; have := Z4.out; omega)).trans P3.out
  have q4 := (old w3.heap.size (by have := Z4.out; omega)).trans P4.out
  have q5 : W6.heap[w5.heap.size]? = some (.cells (acells a).toArray 37) := by rw [hW6]; exact setRow_heap _ _ _ _ _ _ (heap_alloc_new _ _)
  have b5 : Below w.heap.size w w5 := B4.out.trans (hb.mono B4.out.size)
  have b6 : Below w.heap.size w W6 := by rw [hW6]; exact below_setRow (b5.alloc b5.size _) b5.size
  have T0 := Lib.hid q0; have T3 := Lib.hid q3; have T4 := Lib.hid q4; have T5 := Lib.hid q5; have B6 := Lib.hid b6; have HW6 := Lib.hid hW6
  clear old q0 q3 q4 q5 b5 b6 hW6 hb P0 P3 P4 B4 HW4 Z4 Z3 Z1 HO HP HA
  unfold accV
  by_cases herr : err = 0
  rotate_left
  · as_aux_lemma =>
    have m0 : (err != 0) = true := by simpa using herr
    clear herr HE T0 T3 T4 T5
    go_wp2_with (have hx := HW6.out; clear HW6; refine wpList_store_row rfl 37 (.tmp 11) (.tmp 45) rfl w5.heap.size (acells a).toArray rfl rfl 37 azero (heap_alloc_new _ _) (by kernel_rfl) (by kernel_rfl) (by kernel_rfl) ?_; rw [← hx]; clear hx)
    refine (known_any _).mono ?_
    rintro e w7 ⟨rfl, hb⟩
    have HB7 := Lib.hid (B6.out.trans (hb.mono B6.out.size)); clear hb
    go_wp2_with fail
    go_ret
    exact ⟨rfl, HB7.out⟩
  subst herr
  obtain ⟨hn, h0, hid, hcs, hcc, hq, hk0⟩ := HE.out rfl
  have HN := Lib.hid hn; have H0' := Lib.hid h0; have HID := Lib.hid hid; have HCS := Lib.hid hcs; have HC := Lib.hid hcc; have HQ := Lib.hid hq; have HK := Lib.hid hk0
  clear hn h0 hid hcs hcc hq hk0 HE
  go_wp2_with (have hx := HW6.out; clear HW6; refine wpList_store_row rfl 37 (.tmp 11) (.tmp 45) rfl w5.heap.size (acells a).toArray rfl rfl 37 azero (heap_alloc_new _ _) (by kernel_rfl) (by kernel_rfl) (by kernel_rfl) ?_; rw [← hx]; clear hx)
  go_loopw [14, 15] (fun n i wr => ∃ k : Nat, k ≤ 32 ∧ n = .int .i64 (cnt ho.R h.R k : Int) ∧ i = .int .i64 (k : Int) ∧ Below W6.heap.size W6 wr) (fun _ i _ => 32 - (intOf i).toNat)
  case atStart => exact ⟨0, by omega, rfl, rfl, Below.refl _ _⟩
  case round =>
    obtain ⟨k, hk, rfl, rfl, hbr⟩ := hrel
    have t0 := (hbr.block w.heap.size (Array.getElem?_eq_some_iff.1 T0.out).1).trans T0.out
    have t3 := (hbr.block w1.heap.size (Array.getElem?_eq_some_iff.1 T3.out).1).trans T3.out
    have HBR := Lib.hid hbr; clear hbr
    have hcl := cnt_le ho.R h.R k
    by_cases hlt : k < 32
    · have hki : (k : Int) < 32 := by omega
      have c1 : wr.cell? ⟨w1.heap.size, 2 + k, none⟩ = some (.int .u32 (ho.R k)) := by rw [cell_of_row wr _ _ _ _ _ t3]; simpa using hcR ho k (by omega)
      have c2 : wr.cell? ⟨w.heap.size, 2 + k, none⟩ = some (.int .u32 (h.R k)) := by rw [cell_of_row wr _ _ _ _ _ t0]; simpa using hcR h k (by omega)
      clear t0 t3
      by_cases he : ho.R k = h.R k
      · have hd : (ho.R k != h.R k) = false := by simpa using he
        have hs : cnt ho.R h.R (k + 1) = cnt ho.R h.R k := by show _ + _ = _; rw [if_pos he]; rfl
        clear he
        go_wp2
        go_quiet (fail)
        go_wp2
        go_roundw
        case rel => exact ⟨k + 1, by omega, by rw [hs], by go_num, HBR.out.trans ⟨rfl, rfl, rfl, Nat.le_refl _, fun _ _ => rfl⟩⟩
        case measure => simp [intOf]; omega
      · have hd : (ho.R k != h.R k) = true := by simpa using he
        have hs : cnt ho.R h.R (k + 1) = cnt ho.R h.R k + 1 := by show _ + _ = _; rw [if_neg he]
        clear he
        go_wp2
        go_quiet (fail)
        go_wp2
        go_roundw
        case rel => exact ⟨k + 1, by omega, by rw [hs]; go_num, by go_num, HBR.out.trans ⟨rfl, rfl, rfl, Nat.le_refl _, fun _ _ => rfl⟩⟩
        case measure => simp [intOf]; omega
    · obtain rfl : k = 32 := by omega
      have t4 := (HBR.out.block w3.heap.size (Array.getElem?_eq_some_iff.1 T4.out).1).trans T4.out
      have t5 := (HBR.out.block w5.heap.size (Array.getElem?_eq_some_iff.1 T5.out).1).trans T5.out
      have HB := Lib.hid (B6.out.trans (HBR.out.mono B6.out.size))
      have u2 : wr.cell? ⟨w1.heap.size, 2, none⟩ = some (.int .u32 (ho.R 0)) := by rw [cell_of_row wr _ 2 _ _ _ t3]; rfl
      have d2 : (ho.R 0 != 0) = false := by rw [H0'.out]; rfl
      have u0 : wr.cell? ⟨w1.heap.size, 0, none⟩ = some (.int .i64 ho.id) := by rw [cell_of_row wr _ 0 _ _ _ t3]; rfl
      have d0 : (ho.id != h.id) = false := by rw [HID.out]; simp
      have u34 : wr.cell? ⟨w1.heap.size, 34, none⟩ = some (.int .i64 ho.cause) := by rw [cell_of_row wr _ 34 _ _ _ t3]; rfl
      have d34 : (ho.cause != c) = false := by rw [HCS.out]; simp
      have v0 : wr.cell? ⟨w.heap.size, 0, none⟩ = some (.int .i64 h.id) := by rw [cell_of_row wr _ 0 _ _ _ t0]; rfl
      have v1 : wr.cell? ⟨w.heap.size, 1, none⟩ = some (.int .u32 h.pc) := by rw [cell_of_row wr _ 1 _ _ _ t0]; rfl
      have kd : wr.cell? ⟨w5.heap.size, 0, none⟩ = some (.int .i64 a.kind) := by rw [cell_of_row wr _ 0 _ _ _ t5]; rfl
      have hn : (cnt ho.R h.R 32 : Int) ≤ 1 := by have := HN.out; omega
      have S3 := Lib.hid t3; have S4 := Lib.hid t4
      clear t0 t3 t4 t5 T0 T3 T4 T5 B6 HBR HN H0' HID HCS hlt hcl hk
      by_cases hc0 : c = 0
      · have m1 : (c != 0) = false := by simpa using hc0
        clear hc0 HC
        by_cases k0 : a.kind = 0
        · as_aux_lemma =>
          rw [k0] at kd
          have HS := Lib.hid (HQ.out (by omega))
          clear HQ k0 HK
          go_wp2_with (first
            | (show wpList _ _ _ (Oper.mk (some 126) _ _ _ _ _ :: _) _ _; have hx := S3.out; clear S3; refine wpList_load_rowX 26 (.tmp 7) rfl w1.heap.size rfl (by kernel_rfl) 26 (hcells ho).toArray (0, 0) _ hx Tryz.underlying26 rfl (by kernel_rfl) ?_; clear hx)
            | (show wpList _ _ _ (Oper.mk (some 127) _ _ _ _ _ :: _) _ _; have hx := S4.out; clear S4; refine wpList_load_rowX 26 (.tmp 9) rfl w3.heap.size rfl (by kernel_rfl) 26 (hcells hp).toArray (0, 0) _ hx Tryz.underlying26 rfl (by kernel_rfl) ?_; clear hx)
            | (go_at_call 14; refine (same_any ho hp _).mono ?_; rintro e w8 ⟨rfl, hb⟩; rw [HS.out]; have HB8 := Lib.hid (HB.out.trans (hb.mono HB.out.size)); clear hb)
            | (go_at_call 13; refine (known_any _).mono ?_; rintro e w9 ⟨rfl, hb⟩; have HB9 := Lib.hid (HB8.out.trans (hb.mono HB8.out.size)); clear hb))
          go_ret
          exact ⟨rfl, HB9.out⟩
        by_cases k2 : a.kind = 2
        · as_aux_lemma =>
          rw [k2] at kd
          have HS := Lib.hid (HQ.out (by omega))
          clear HQ k2 HK
          go_wp2_with (first
            | (show wpList _ _ _ (Oper.mk (some 126) _ _ _ _ _ :: _) _ _; have hx := S3.out; clear S3; refine wpList_load_rowX 26 (.tmp 7) rfl w1.heap.size rfl (by kernel_rfl) 26 (hcells ho).toArray (0, 0) _ hx Tryz.underlying26 rfl (by kernel_rfl) ?_; clear hx)
            | (show wpList _ _ _ (Oper.mk (some 127) _ _ _ _ _ :: _) _ _; have hx := S4.out; clear S4; refine wpList_load_rowX 26 (.tmp 9) rfl w3.heap.size rfl (by kernel_rfl) 26 (hcells hp).toArray (0, 0) _ hx Tryz.underlying26 rfl (by kernel_rfl) ?_; clear hx)
            | (go_at_call 14; refine (same_any ho hp _).mono ?_; rintro e w8 ⟨rfl, hb⟩; rw [HS.out]; have HB8 := Lib.hid (HB.out.trans (hb.mono HB.out.size)); clear hb)
            | (go_at_call 13; refine (known_any _).mono ?_; rintro e w9 ⟨rfl, hb⟩; have HB9 := Lib.hid (HB8.out.trans (hb.mono HB8.out.size)); clear hb))
          go_ret
          exact ⟨rfl, HB9.out⟩
        by_cases k6 : a.kind = 6
        · as_aux_lemma =>
          rw [k6] at kd
          have HS := Lib.hid (HQ.out (by omega))
          clear HQ k6 HK
          go_wp2_with (first
            | (show wpList _ _ _ (Oper.mk (some 126) _ _ _ _ _ :: _) _ _; have hx := S3.out; clear S3; refine wpList_load_rowX 26 (.tmp 7) rfl w1.heap.size rfl (by kernel_rfl) 26 (hcells ho).toArray (0, 0) _ hx Tryz.underlying26 rfl (by kernel_rfl) ?_; clear hx)
            | (show wpList _ _ _ (Oper.mk (some 127) _ _ _ _ _ :: _) _ _; have hx := S4.out; clear S4; refine wpList_load_rowX 26 (.tmp 9) rfl w3.heap.size rfl (by kernel_rfl) 26 (hcells hp).toArray (0, 0) _ hx Tryz.underlying26 rfl (by kernel_rfl) ?_; clear hx)
            | (go_at_call 14; refine (same_any ho hp _).mono ?_; rintro e w8 ⟨rfl, hb⟩; rw [HS.out]; have HB8 := Lib.hid (HB.out.trans (hb.mono HB.out.size)); clear hb)
            | (go_at_call 13; refine (known_any _).mono ?_; rintro e w9 ⟨rfl, hb⟩; have HB9 := Lib.hid (HB8.out.trans (hb.mono HB8.out.size)); clear hb))
          go_ret
          exact ⟨rfl, HB9.out⟩
        as_aux_lemma =>
          have n0 : (a.kind == 0) = false := by simpa using k0
          have n2 : (a.kind == 2) = false := by simpa using k2
          have n6 : (a.kind == 6) = false := by simpa using k6
          clear k0 k2 k6 HQ S3 S4 HK
          go_wp2_with fail
          refine (known_any _).mono ?_
          rintro e w9 ⟨rfl, hb⟩
          have HB9 := Lib.hid (HB.out.trans (hb.mono HB.out.size)); clear hb
          go_wp2
          go_ret
          exact ⟨rfl, HB9.out⟩
      · obtain ⟨hz, hpc⟩ := HC.out hc0
        have m1 : (c != 0) = true := by simpa using hc0
        rw [hz, show ((0 : Nat) : Int) = 0 from rfl]
        have u1 : wr.cell? ⟨w1.heap.size, 1, none⟩ = some (.int .u32 ho.pc) := by rw [cell_of_row wr _ 1 _ _ _ S3.out]; rfl
        have d1 : (ho.pc != h.pc) = false := by rw [hpc]; simp
        have k0 := HK.out hc0
        clear hc0 HC hz hpc HK
        as_aux_lemma =>
          rw [k0] at kd
          have HS := Lib.hid (HQ.out (by omega))
          clear HQ k0
          go_wp2_with (first
            | (show wpList _ _ _ (Oper.mk (some 126) _ _ _ _ _ :: _) _ _; have hx := S3.out; clear S3; refine wpList_load_rowX 26 (.tmp 7) rfl w1.heap.size rfl (by kernel_rfl) 26 (hcells ho).toArray (0, 0) _ hx Tryz.underlying26 rfl (by kernel_rfl) ?_; clear hx)
            | (show wpList _ _ _ (Oper.mk (some 127) _ _ _ _ _ :: _) _ _; have hx := S4.out; clear S4; refine wpList_load_rowX 26 (.tmp 9) rfl w3.heap.size rfl (by kernel_rfl) 26 (hcells hp).toArray (0, 0) _ hx Tryz.underlying26 rfl (by kernel_rfl) ?_; clear hx)
            | (go_at_call 14; refine (same_any ho hp _).mono ?_; rintro e w8 ⟨rfl, hb⟩; rw [HS.out]; have HB8 := Lib.hid (HB.out.trans (hb.mono HB.out.size)); clear hb)
            | (go_at_call 13; refine (known_any _).mono ?_; rintro e w9 ⟨rfl, hb⟩; have HB9 := Lib.hid (HB8.out.trans (hb.mono HB8.out.size)); clear hb))
          go_ret
          exact ⟨rfl, HB9.out⟩
end Go.Proofs.YtianojbdabeoeaaGreatDoor
end

section
namespace Go.Proofs.YtianojbdabeoeaaGreatDoor
open Go.RowKit Ht
set_option linter.unusedVariables false
namespace Ht
def leaves (h : H) (i : I) (n to : Int) : H := { (if has i.op then put h i.rd n else h) with pc := to }
theorem leaves_facts (h : H) (i : I) (n to : Int) : cnt (leaves h i n to).R h.R 32 ≤ 1 ∧ (h.R 0 = 0 → (leaves h i n to).R 0 = 0) ∧ (leaves h i n to).id = h.id ∧ (leaves h i n to).cause = h.cause := by
  unfold leaves
  cases has i.op
  · exact ⟨by show cnt h.R h.R 32 ≤ 1; rw [cnt_same]; omega, fun h => h, rfl, rfl⟩
  · show cnt (put h i.rd n).R h.R 32 ≤ 1 ∧ (h.R 0 = 0 → (put h i.rd n).R 0 = 0) ∧ (put h i.rd n).id = h.id ∧ (put h i.rd n).cause = h.cause
    by_cases hr : i.rd = 0
    · have e : put h i.rd n = h := by unfold put; rw [if_pos hr]
      rw [e]
      exact ⟨by rw [cnt_same]; omega, fun h => h, rfl, rfl⟩
    · have e : put h i.rd n = { h with R := upd h.R i.rd n } := by unfold put; rw [if_neg hr]
      rw [e]
      refine ⟨?_, fun h0 => ?_, rfl, rfl⟩
      · show cnt (upd h.R i.rd n) h.R 32 ≤ 1
        have := cnt_upd h.R i.rd n 32
        split at this <;> omega
      · show upd h.R i.rd n 0 = 0
        unfold upd
        rw [if_neg (fun e => hr e.symm)]
        exact h0
theorem val_quiet (op : Nat) (hop : 1 ≤ op ∧ op ≤ 59) (pc id a b imm tv tv' : Int) (tok tok' aq rl : Bool) (hk : (acc op a b imm aq rl).kind = 0 ∨ (acc op a b imm aq rl).kind = 2 ∨ (acc op a b imm aq rl).kind = 6) :
    val op pc id a b imm tv tok = val op pc id a b imm tv' tok' := by
  rcases ops hop with rfl | rfl | rfl | rfl | rfl | rfl | rfl | rfl | rfl | rfl | rfl | rfl | rfl | rfl | rfl | rfl | rfl | rfl | rfl | rfl | rfl | rfl | rfl | rfl | rfl | rfl | rfl | rfl | rfl | rfl | rfl | rfl | rfl | rfl | rfl | rfl | rfl | rfl | rfl | rfl | rfl | rfl | rfl | rfl | rfl | rfl | rfl | rfl | rfl | rfl | rfl | rfl | rfl | rfl | rfl | rfl | rfl | rfl | rfl
  all_goals first
    | rfl
    | (exfalso; simp [acc] at hk)
end Ht
set_option maxHeartbeats 1000000 in
theorem one_ok (h : H) (hb : HB h) (x size tv tv' : Int) (tok tok' : Bool) (ht : ToldOk x size tv) (ht' : Ar.Wd tv') (w : World) :
    Calls Tryz.prog 3 #[hartV h, toldV x size tv tok, ansV tv' tok'] w fun e w' => e = .returned (.bool true) ∧ Below w.heap.size w w' := by
  cases hg : goes h
  · exact one_any h _ _ _ _ 2 x size tv tok tv' tok' w (fun w => done_any (.arg hg) hb ht.x ht.size ht.tv w) (fun w => done_any (.arg hg) hb ht.x ht.size ht' w) (fun w => act_any (.arg hg) hb ht.x ht.size w) (fun h => absurd h (by decide))
  · have hr0 := (may_id (goes_yes hg).1).2
    have hcz := (goes_yes hg).2
    by_cases e : ∃ op, Hit op x
    · obtain ⟨op, e⟩ := e
      by_cases e2 : whyS (begin_ h (insOf op x) size tv tok) = 0
      · have e3 : whyS (begin_ h (insOf op x) size tv' tok') = 0 := e2
        have e4 : whyS (begin_ h (insOf op x) size 0 false) = 0 := e2
        refine one_any h _ _ _ _ 0 x size tv tok tv' tok' w (fun w => done_any (.ok op hg e e2) hb ht.x ht.size ht.tv w) (fun w => done_any (.ok op hg e e3) hb ht.x ht.size ht' w) (fun w => act_any (.ok op hg e e4) hb ht.x ht.size w) (fun _ => ?_)
        obtain ⟨f1, f2, f3, f4⟩ := leaves_facts h (insOf op x) (val (insOf op x).op h.pc h.id (h.R (insOf op x).rs1) (h.R (insOf op x).rs2) (insOf op x).imm tv tok) (nextS (begin_ h (insOf op x) size tv tok))
        obtain ⟨g1, g2, g3, g4⟩ := leaves_facts h (insOf op x) (val (insOf op x).op h.pc h.id (h.R (insOf op x).rs1) (h.R (insOf op x).rs2) (insOf op x).imm 0 false) (nextS (begin_ h (insOf op x) size 0 false))
        refine ⟨f1, f2 hr0, f3, f4.trans g4.symm, fun hn => absurd (g4.trans hcz) hn, fun hk => ?_, fun hn => absurd (g4.trans hcz) hn⟩
        have hv := val_quiet (insOf op x).op ⟨e.1, e.2.1⟩ h.pc h.id (h.R (insOf op x).rs1) (h.R (insOf op x).rs2) (insOf op x).imm tv tv' tok tok' (insOf op x).aq (insOf op x).rl hk
        show same (leaves h (insOf op x) (val (insOf op x).op h.pc h.id (h.R (insOf op x).rs1) (h.R (insOf op x).rs2) (insOf op x).imm tv tok) (nextS (begin_ h (insOf op x) size tv tok))) (leaves h (insOf op x) (val (insOf op x).op h.pc h.id (h.R (insOf op x).rs1) (h.R (insOf op x).rs2) (insOf op x).imm tv' tok') (nextS (begin_ h (insOf op x) size tv tok))) = true
        rw [hv]
        exact same_self _
      · have e3 : whyS (begin_ h (insOf op x) size tv' tok') ≠ 0 := e2
        have e4 : whyS (begin_ h (insOf op x) size 0 false) ≠ 0 := e2
        exact one_any h _ _ _ _ 0 x size tv tok tv' tok' w (fun w => done_any (.halt op hg e e2) hb ht.x ht.size ht.tv w) (fun w => done_any (.halt op hg e e3) hb ht.x ht.size ht' w) (fun w => act_any (.halt op hg e e4) hb ht.x ht.size w)
          (fun _ => ⟨by show cnt h.R h.R 32 ≤ 1; rw [cnt_same]; omega, hr0, rfl, rfl, fun _ => ⟨cnt_same _ _, rfl⟩, fun _ => same_self _, fun _ => rfl⟩)
    · have e' : ∀ op : Nat, ¬ Hit op x := fun op ho => e ⟨op, ho⟩
      exact one_any h _ _ _ _ 0 x size tv tok tv' tok' w (fun w => done_any (.ill hg e') hb ht.x ht.size ht.tv w) (fun w => done_any (.ill hg e') hb ht.x ht.size ht' w) (fun w => act_any (.ill hg e') hb ht.x ht.size w)
        (fun _ => ⟨by show cnt h.R h.R 32 ≤ 1; rw [cnt_same]; omega, hr0, rfl, rfl, fun _ => ⟨cnt_same _ _, rfl⟩, fun _ => same_self _, fun _ => rfl⟩)
end Go.Proofs.YtianojbdabeoeaaGreatDoor
end

section
namespace Go.Proofs.YtianojbdabeoeaaGreatDoor.hartOne
open Go.ChangeShapes Go.WideShapes Go.ChangeAt Go.RowKit
set_option linter.unusedVariables false

/-! THE WALK: the Go text returns true; of memory nothing that stood there has turned. -/
set_option maxRecDepth 100000 in
set_option maxHeartbeats 400000 in
theorem walk (w : World) (g0 : Ht.H) (y0 : Ht.HB g0) (x1 s1 t1 : Int) (k1 : Bool) (y1 : Ht.ToldOk x1 s1 t1) (t2 : Int) (k2 : Bool) (y2 : Ar.Wd t2) :
    Calls Tryz.prog 3 #[Ht.hartV g0, Ht.toldV x1 s1 t1 k1, Ht.ansV t2 k2] w fun e w' => e = .returned (.bool true) ∧ Below w.heap.size w w' := by
  exact one_ok g0 y0 x1 s1 t1 t2 k1 k2 y1 y2 w

/-! THE ROW -/
set_option maxRecDepth 100000 in
theorem contract (H : Type) (enc : TypeId × Value → H) (W : World) (base : Nat) (args : Array Value) (ds gs : List (DataW H)) (before : List MemPlace)
    (hval0 : ∀ (j : Nat) t v, Tryz.f3.params[j]? = some t → args[j]? = some v → Value.okWide Tryz.prog W .any base t v)
    (hW : DataW.Whole enc Tryz.prog Tryz.f3.params.toList Rows.hartOneSpec.vars false W args.toList ds gs before) (hL : laidMet Tryz.prog Rows.hartOneRow.laid W) :
    Calls Tryz.prog 3 args W fun e W' => ∃ v, e = .returned v ∧ Rows.hartOneSpec.post enc Tryz.prog Tryz.f3 false true false false W args v W' := by
  have hval : ∀ (j : Nat) t v, Tryz.f3.params[j]? = some t → args[j]? = some v → Value.okWide Tryz.prog W .any base t v := hval0
  have hW' := hW
  obtain ⟨p, q, hA0, hV, rfl, hfz, hnd⟩ := hW
  have hA : DataW.TrodAll enc Tryz.prog W 0 (fun _ => true) true Tryz.f3.params.toList args.toList ds p := hA0
  rw [Tryz.params3] at hA hval
  obtain ⟨v0, vs0, d0, ds0, p0, q0, hargs, rfl, rfl, h0, r0⟩ := trodAll_cons hA
  obtain ⟨v1, vs1, d1, ds1, p1, q1, rfl, rfl, rfl, h1, r1⟩ := trodAll_cons r0
  obtain ⟨v2, vs2, d2, ds2, p2, q2, rfl, rfl, rfl, h2, r2⟩ := trodAll_cons r1
  obtain ⟨rfl, rfl, rfl⟩ := trodAll_nil r2
  obtain rfl : args = #[v0, v1, v2] := by cases args; simp_all
  obtain ⟨rfl, rfl⟩ := trodVars_none hV
  clear hA0 hval0
  simp only [List.append_nil] at hW'
  have hlt : ∀ x ∈ p0 ++ (p1 ++ (p2)), x.block < W.heap.size := fun x hx => by simpa using hW'.lt x (by simpa using hx)
  obtain ⟨g0, rfl, y0⟩ := open_hart (hval 0 26 v0 rfl rfl) h0
  obtain ⟨x1, s1, t1, k1, rfl, y1⟩ := open_told (hval 1 30 v1 rfl rfl) h1
  obtain ⟨t2, k2, rfl, y2⟩ := open_ans (hval 2 28 v2 rfl rfl) h2
  refine (walk W g0 y0 x1 s1 t1 k1 y1 t2 k2 y2).mono fun e W' ⟨he, hb⟩ => ?_
  subst he
  have harg0 : DataW.Trod enc Tryz.prog W' 0 (fun b => decide (b < W.heap.size)) true 26 _ _ _ := Below.trod laidOut (by kernel_rfl) (of_decide_eq_true (by kernel_rfl)) h0 hb (fun x hx => hlt x (by simp [hx]))
  have harg1 : DataW.Trod enc Tryz.prog W' 0 (fun b => decide (b < W.heap.size)) true 30 _ _ _ := Below.trod laidOut (by kernel_rfl) (of_decide_eq_true (by kernel_rfl)) h1 hb (fun x hx => hlt x (by simp [hx]))
  have harg2 : DataW.Trod enc Tryz.prog W' 0 (fun b => decide (b < W.heap.size)) true 28 _ _ _ := Below.trod laidOut (by kernel_rfl) (of_decide_eq_true (by kernel_rfl)) h2 hb (fun x hx => hlt x (by simp [hx]))
  exact ⟨_, rfl, _, _, _, [], _, [], hW', trodAll_mk1 (shut_bool Tryz.underlying4 _), (trodAll_cons_mk harg0 (trodAll_cons_mk harg1 (trodAll_cons_mk harg2 trodAll_mk0))), rfl, hb.frame _, fun h => by cases h⟩
theorem laid_met (os : Os) : laidMet Tryz.prog Rows.hartOneRow.laid ((laidWorld os).forCall (fun _ _ => 0) ⟨#[], #[Ht.hartV Ht.H0, .agg #[.int .u32 0, .int .i64 0, .int .u32 0, .bool false], .agg #[.int .u32 0, .bool false]], []⟩).memory :=
  laidMet_of_run' 8 (by kernel_rfl) (by kernel_rfl)
theorem reads (os : Os) {H : Type} (enc : TypeId × Value → H) : ∃ places, DataW.whole enc Tryz.prog ((laidWorld os).forCall (fun _ _ => 0) ⟨#[], #[Ht.hartV Ht.H0, .agg #[.int .u32 0, .int .i64 0, .int .u32 0, .bool false], .agg #[.int .u32 0, .bool false]], []⟩).memory Tryz.f3.params.toList Rows.hartOneSpec.vars false (#[Ht.hartV Ht.H0, .agg #[.int .u32 0, .int .i64 0, .int .u32 0, .bool false], .agg #[.int .u32 0, .bool false]] : Array Value).toList 8 = some ([Ht.hdat, .agg [.lit (.int .u32 0), .lit (.int .i64 0), .agg [.lit (.int .u32 0), .lit (.bool false)]], .agg [.lit (.int .u32 0), .lit (.bool false)]], [], places) :=
  ⟨[], by kernel_rfl⟩
set_option maxRecDepth 100000 in
theorem lifted (os : Os) (started : os.Started) (H : Type) (enc : TypeId × Value → H) (F : Stop.Interp) :
    ReturnsInHanded {} Tryz.checked os 3 .any ((OpenSpec.ofChange Rows.hartOneSpec).preRow enc Tryz.prog Tryz.f3 Rows.hartOneRow.domain false Rows.hartOneRow.laid) (((OpenSpec.ofChange Rows.hartOneSpec).at F).post enc Tryz.prog Tryz.f3 false true false false) := by
  obtain ⟨places, hx⟩ := reads os enc
  refine returnsInHanded_of_row (C := Tryz.checked) (s := OpenSpec.ofChange Rows.hartOneSpec) own started (by kernel_rfl) Tryz.func3
    (witness_row_at (enc := enc) (C := Tryz.checked) false (laidWorld os) #[Ht.hartV Ht.H0, .agg #[.int .u32 0, .int .i64 0, .int .u32 0, .bool false], .agg #[.int .u32 0, .bool false]] rfl (by kernel_rfl) (by kernel_rfl) (by kernel_rfl)
      (OpenSpec.preRow_of_cond 8 hx (by kernel_rfl) (fun k hk => by cases hk) (by kernel_rfl) (laid_met os))) ?_
  intro W base args ds gs before hval hW _ _ _ hL _ _
  exact contract H enc W base args ds gs before hval hW hL
theorem said : Rows.HartOneSaid :=
  OpenClaim.holds_of_cond 3 Tryz.f3 rfl rfl rfl rfl rfl rfl rfl ⟨rfl, rfl, rfl, rfl, rfl⟩ rfl rfl rfl rfl rfl (by kernel_rfl) Tryz.func3 (by kernel_rfl)
    (of_decide_eq_true (by kernel_rfl)) (by unfold Func.isWrapper; first | (rw [if_pos (by decide +kernel)]; kernel_rfl) | (rw [if_neg (by decide +kernel)]; exact ⟨rfl, rfl⟩))
    (fun os started H enc _ F => by rw [OpenClaim.pre_eq_preRow]; exact lifted os started H enc F)
/-- no parameter wants a stand-in; the program's own looks: what the card asks -/
theorem plain (f : FuncId) (fn : Func) (hf : Tryz.pinned.checked.prog.funcNamed "quadrille/quadrillelaw04.HartOne" = some f) (hfn : Tryz.pinned.checked.prog.funcs[f]? = some fn) :
    true = Tryz.pinned.checked.prog.looks [] ∧ ∀ (j : Nat) t, fn.params[j]? = some t → Tryz.pinned.checked.prog.wantsStandIn t = false := by
  obtain rfl : f = 3 := Option.some.inj ((show Tryz.prog.funcNamed "quadrille/quadrillelaw04.HartOne" = some 3 by kernel_rfl).symm.trans hf) |>.symm
  obtain rfl : fn = Tryz.f3 := (Option.some.inj (Tryz.func3.symm.trans hfn)).symm
  refine ⟨by kernel_rfl, fun j t ht => ?_⟩
  rw [Tryz.params3] at ht
  have hm : t = 26 ∨ t = 30 ∨ t = 28 := by simpa using Array.mem_of_getElem? ht
  rcases hm with rfl | rfl | rfl
  · exact (show Tryz.prog.wantsStandIn 26 = false by kernel_rfl)
  · exact (show Tryz.prog.wantsStandIn 30 = false by kernel_rfl)
  · exact (show Tryz.prog.wantsStandIn 28 = false by kernel_rfl)
/-- THE STATEMENT: the card -/
theorem proved : Rows.HartOneCardSaid :=
  Claim7.holds_tied_plain_at .later [] _ _ _ _ said (fun _ h => by cases h) (by kernel_rfl) (fun _ h => by cases h) hartOne_row_tie rfl ⟨rfl, rfl⟩ (by kernel_rfl) rfl plain (by kernel_rfl)
end Go.Proofs.YtianojbdabeoeaaGreatDoor.hartOne
end
