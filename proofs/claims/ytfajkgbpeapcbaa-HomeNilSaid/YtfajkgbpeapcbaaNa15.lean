import Derived.Test.YtfajkgbpeapcbaaNa12
set_option linter.unusedVariables false
set_option linter.unusedSimpArgs false

section
namespace Go.Proofs.Ytfajkgbpeapcbaa
open Go.RowKit
namespace Hm
open Nt
set_option maxRecDepth 100000
section
variable {tp ep mp g : Nat} {S Q : Nat → Prop}
theorem one_int1 (n : Int) : ∀ u ∈ ([.int .i64 n] : List Value), u.oneCell' = true := by
  intro u hu
  rw [List.mem_singleton.1 hu]
  rfl
theorem ix0 (a b c d : Value) (w : World) : (Instr.index 82 (.agg #[a, b, c, d]) (.int .i64 0)).run Try.prog w = .ok a w := by kernel_rfl
theorem ix1 (a b c d : Value) (w : World) : (Instr.index 82 (.agg #[a, b, c, d]) (.int .i64 1)).run Try.prog w = .ok b w := by kernel_rfl
theorem ix2 (a b c d : Value) (w : World) : (Instr.index 82 (.agg #[a, b, c, d]) (.int .i64 2)).run Try.prog w = .ok c w := by kernel_rfl
theorem ix3 (a b c d : Value) (w : World) : (Instr.index 82 (.agg #[a, b, c, d]) (.int .i64 3)).run Try.prog w = .ok d w := by kernel_rfl
theorem own_ge {w : World} {base : Nat} {e : TypeId} {size : Nat} {v : Value} {n : Nat} {xs : List Value} (h : w.ownsRow base e size v n xs) {k : Nat} (hk : v.ownBlock = some k) : base ≤ k := by
  rcases h.2 with ⟨rfl, _⟩ | ⟨g, cap, cur, rfl, hb, _⟩
  · cases hk
  · cases hk; exact hb
theorem own_alloc {w : World} {base : Nat} {e : TypeId} {size : Nat} {v : Value} {n : Nat} {xs : List Value} (h : w.ownsRow base e size v n xs) (o : Obj) : (w.alloc o).ownsRow base e size v n xs := h.alloc o
theorem oth_le (e : En) : ∀ i, (oth e i).length ≤ i
  | 0 => Nat.le_refl _
  | i + 1 => by
    have := oth_le e i
    unfold oth
    split
    · rw [List.length_append, List.length_singleton]; omega
    · omega
set_option maxHeartbeats 8000000 in
theorem others_any (T : Tg) (w : World) (h : Ta w tp ep mp g S Q T) :
    Calls Try.prog 119 #[.pointer (some ⟨tp, 0, none⟩)] w fun r w' => (∃ v, r = .returned v ∧ w'.ownsRow w.heap.size 3 1 v (oth T.e 4).length ((oth T.e 4).map (Value.int .i64))) ∧ Below w.heap.size w w' := by
  obtain ⟨n, sent, ⟨o, s, b, a, k, wt, td, q⟩, bs⟩ := T
  obtain ⟨sa, sc, qa, qc, h⟩ := h
  have T0 := Lib.hid (Tw.start h)
  clear h
  have hinfo : ∃ i0, Try.prog.info? 3 = some i0 ∧ i0.zero = some (.int .i64 0) ∧ i0.size = 1 ∧ i0.bytes = 8 := ⟨_, rfl, by kernel_rfl, by kernel_rfl, by kernel_rfl⟩
  obtain ⟨i0, hi0, hz0, hz1, hz2⟩ := hinfo
  have HI := Lib.hid hi0; have HZ0 := Lib.hid hz0; have HZ1 := Lib.hid hz1; have HZ2 := Lib.hid hz2
  clear hi0 hz0 hz1 hz2
  have c2 := T0.out.tk.t2
  have HAR := Lib.hid (run_loadVar_at (P := Try.prog) w ep 1 82 [.bool (s 0), .bool (s 1), .bool (s 2), .bool (s 3)] _ (sh_cells T0.out.tk.eb) Try.underlying82 rfl (by kernel_rfl))
  go_enter Try.func119, Try.ntmps119
  go_wp2_with ((with_reducible show wpList _ _ _ (Oper.mk (some 12) _ _ _ _ _ :: _) _ _); refine wpList_load_at rfl 82 (.tmp 11) rfl ep 1 rfl [.bool (s 0), .bool (s 1), .bool (s 2), .bool (s 3)] _ (sh_cells T0.out.tk.eb) Try.underlying82 rfl (by kernel_rfl) ?_)
  go_loopw [3, 13] (fun v i wr => ∃ j : Nat, j ≤ 4 ∧ i = .int .i64 (j : Int) ∧ wr.ownsRow w.heap.size 3 1 v (oth ⟨o, s, b, a, k, wt, td, q⟩ j).length ((oth ⟨o, s, b, a, k, wt, td, q⟩ j).map (Value.int .i64)) ∧ Below w.heap.size w wr) (fun _ i _ => 4 - (intOf i).toNat)
  case atStart => exact ⟨0, Nat.zero_le _, rfl, ⟨rfl, .inl ⟨rfl, rfl⟩⟩, Below.refl _ _⟩
  case round =>
    obtain ⟨j, hj, rfl, how, hbl⟩ := hrel
    have OWR := Lib.hid how; have BR := Lib.hid hbl
    have TR := Lib.hid (T0.out.kp BR.out)
    clear how hbl c2
    by_cases hlt : j < 4
    · rcases (by omega : j = 0 ∨ j = 1 ∨ j = 2 ∨ j = 3) with rfl | rfl | rfl | rfl
      · have e0 : (((0 : Nat) : Int)) = 0 := rfl
        rw [e0]
        have HOK := Lib.hid (show oth ⟨o, s, b, a, k, wt, td, q⟩ (0 + 1) = if s 0 && decide ((0 : Int) ≠ a) then oth ⟨o, s, b, a, k, wt, td, q⟩ 0 ++ [(0 : Int)] else oth ⟨o, s, b, a, k, wt, td, q⟩ 0 from rfl)
        obtain ⟨v2, hv2⟩ : ∃ v2, s 0 = v2 := ⟨_, rfl⟩
        rw [hv2]
        rw [hv2] at HOK
        clear hv2 e0
        have ix := fun x => ix0 (.bool v2) (.bool (s 1)) (.bool (s 2)) (.bool (s 3)) x
        have c2 := TR.out.tk.t2
        have c6 : wr.cell? ⟨ep, 6, none⟩ = some (.int .i64 a) := TR.out.tk.e6
        cases v2
        · go_wp2_with fail
          go_roundw
          case rel => exact ⟨0 + 1, by omega, by go_num, by rw [HOK.out]; exact OWR.out, BR.out⟩
          case measure => simp [intOf]
        · by_cases ha : (0 : Int) = a
          · have hab : (((0 : Int)) != a) = false := by simp [ha]
            have HO2 := Lib.hid (show oth ⟨o, s, b, a, k, wt, td, q⟩ (0 + 1) = oth ⟨o, s, b, a, k, wt, td, q⟩ 0 from by rw [HOK.out]; simp [ha])
            clear ha
            go_wp2_with fail
            go_roundw
            case rel => exact ⟨0 + 1, by omega, by go_num, by rw [HO2.out]; exact OWR.out, BR.out⟩
            case measure => simp [intOf]
          · have hab : (((0 : Int)) != a) = true := by simp [ha]
            have HO2 := Lib.hid (show oth ⟨o, s, b, a, k, wt, td, q⟩ (0 + 1) = oth ⟨o, s, b, a, k, wt, td, q⟩ 0 ++ [(0 : Int)] from by rw [HOK.out]; simp [ha])
            clear ha
            have HM1 := Lib.hid (show (oth ⟨o, s, b, a, k, wt, td, q⟩ 0).length + 1 ≤ maxLen by (have := oth_le ⟨o, s, b, a, k, wt, td, q⟩ 0); unfold maxLen; omega)
            have HM2 := Lib.hid (show ((oth ⟨o, s, b, a, k, wt, td, q⟩ 0).length + 1) * 8 ≤ 140737488355328 by (have := oth_le ⟨o, s, b, a, k, wt, td, q⟩ 0); omega)
            have HM3 := Lib.hid (show w.heap.size ≤ (wr.alloc (.cells #[.int .i64 0] 3)).heap.size by (have := BR.out.size); simp only [World.size_alloc]; omega)
            go_wp2_with (first
              | ((with_reducible show wpList _ _ _ (Oper.mk (some 32) _ _ _ _ _ :: _) _ _); refine wpList_append_own _ rfl (.tmp 29) (.tmp 31) 172 rfl w.heap.size 3 i0 (.int .i64 0) 1 8 Try.underlying172 HI.out HZ0.out HZ1.out HZ2.out rfl (by decide) _ _ _ rfl (own_alloc OWR.out _) ⟨wr.heap.size, 0, none⟩ 1 1 [.int .i64 0] rfl rfl (fun j u hu => World.news_of_block (heap_alloc_new wr _) j u hu) (fun u hu => one_int1 _ u hu) HM1.out HM2.out HM3.out ?_
                 intro v4 W4 hown hgrow _
                 have HO4 := Lib.hid hown; have B4 := Lib.hid (Below.grown (BR.out.alloc BR.out.size _) hgrow (by have := BR.out.size; simp only [World.size_alloc]; omega) (fun k hk => own_ge OWR.out hk)); clear hown hgrow))
            go_roundw
            case rel => exact ⟨0 + 1, by omega, by go_num, by rw [HO2.out]; simpa using HO4.out, B4.out⟩
            case measure => simp [intOf]
      · have e0 : (((1 : Nat) : Int)) = 1 := rfl
        rw [e0]
        have HOK := Lib.hid (show oth ⟨o, s, b, a, k, wt, td, q⟩ (1 + 1) = if s 1 && decide ((1 : Int) ≠ a) then oth ⟨o, s, b, a, k, wt, td, q⟩ 1 ++ [(1 : Int)] else oth ⟨o, s, b, a, k, wt, td, q⟩ 1 from rfl)
        obtain ⟨v2, hv2⟩ : ∃ v2, s 1 = v2 := ⟨_, rfl⟩
        rw [hv2]
        rw [hv2] at HOK
        clear hv2 e0
        have ix := fun x => ix1 (.bool (s 0)) (.bool v2) (.bool (s 2)) (.bool (s 3)) x
        have c2 := TR.out.tk.t2
        have c6 : wr.cell? ⟨ep, 6, none⟩ = some (.int .i64 a) := TR.out.tk.e6
        cases v2
        · go_wp2_with fail
          go_roundw
          case rel => exact ⟨1 + 1, by omega, by go_num, by rw [HOK.out]; exact OWR.out, BR.out⟩
          case measure => simp [intOf]
        · by_cases ha : (1 : Int) = a
          · have hab : (((1 : Int)) != a) = false := by simp [ha]
            have HO2 := Lib.hid (show oth ⟨o, s, b, a, k, wt, td, q⟩ (1 + 1) = oth ⟨o, s, b, a, k, wt, td, q⟩ 1 from by rw [HOK.out]; simp [ha])
            clear ha
            go_wp2_with fail
            go_roundw
            case rel => exact ⟨1 + 1, by omega, by go_num, by rw [HO2.out]; exact OWR.out, BR.out⟩
            case measure => simp [intOf]
          · have hab : (((1 : Int)) != a) = true := by simp [ha]
            have HO2 := Lib.hid (show oth ⟨o, s, b, a, k, wt, td, q⟩ (1 + 1) = oth ⟨o, s, b, a, k, wt, td, q⟩ 1 ++ [(1 : Int)] from by rw [HOK.out]; simp [ha])
            clear ha
            have HM1 := Lib.hid (show (oth ⟨o, s, b, a, k, wt, td, q⟩ 1).length + 1 ≤ maxLen by (have := oth_le ⟨o, s, b, a, k, wt, td, q⟩ 1); unfold maxLen; omega)
            have HM2 := Lib.hid (show ((oth ⟨o, s, b, a, k, wt, td, q⟩ 1).length + 1) * 8 ≤ 140737488355328 by (have := oth_le ⟨o, s, b, a, k, wt, td, q⟩ 1); omega)
            have HM3 := Lib.hid (show w.heap.size ≤ (wr.alloc (.cells #[.int .i64 1] 3)).heap.size by (have := BR.out.size); simp only [World.size_alloc]; omega)
            go_wp2_with (first
              | ((with_reducible show wpList _ _ _ (Oper.mk (some 32) _ _ _ _ _ :: _) _ _); refine wpList_append_own _ rfl (.tmp 29) (.tmp 31) 172 rfl w.heap.size 3 i0 (.int .i64 0) 1 8 Try.underlying172 HI.out HZ0.out HZ1.out HZ2.out rfl (by decide) _ _ _ rfl (own_alloc OWR.out _) ⟨wr.heap.size, 0, none⟩ 1 1 [.int .i64 1] rfl rfl (fun j u hu => World.news_of_block (heap_alloc_new wr _) j u hu) (fun u hu => one_int1 _ u hu) HM1.out HM2.out HM3.out ?_
                 intro v4 W4 hown hgrow _
                 have HO4 := Lib.hid hown; have B4 := Lib.hid (Below.grown (BR.out.alloc BR.out.size _) hgrow (by have := BR.out.size; simp only [World.size_alloc]; omega) (fun k hk => own_ge OWR.out hk)); clear hown hgrow))
            go_roundw
            case rel => exact ⟨1 + 1, by omega, by go_num, by rw [HO2.out]; simpa using HO4.out, B4.out⟩
            case measure => simp [intOf]
      · have e0 : (((2 : Nat) : Int)) = 2 := rfl
        rw [e0]
        have HOK := Lib.hid (show oth ⟨o, s, b, a, k, wt, td, q⟩ (2 + 1) = if s 2 && decide ((2 : Int) ≠ a) then oth ⟨o, s, b, a, k, wt, td, q⟩ 2 ++ [(2 : Int)] else oth ⟨o, s, b, a, k, wt, td, q⟩ 2 from rfl)
        obtain ⟨v2, hv2⟩ : ∃ v2, s 2 = v2 := ⟨_, rfl⟩
        rw [hv2]
        rw [hv2] at HOK
        clear hv2 e0
        have ix := fun x => ix2 (.bool (s 0)) (.bool (s 1)) (.bool v2) (.bool (s 3)) x
        have c2 := TR.out.tk.t2
        have c6 : wr.cell? ⟨ep, 6, none⟩ = some (.int .i64 a) := TR.out.tk.e6
        cases v2
        · go_wp2_with fail
          go_roundw
          case rel => exact ⟨2 + 1, by omega, by go_num, by rw [HOK.out]; exact OWR.out, BR.out⟩
          case measure => simp [intOf]
        · by_cases ha : (2 : Int) = a
          · have hab : (((2 : Int)) != a) = false := by simp [ha]
            have HO2 := Lib.hid (show oth ⟨o, s, b, a, k, wt, td, q⟩ (2 + 1) = oth ⟨o, s, b, a, k, wt, td, q⟩ 2 from by rw [HOK.out]; simp [ha])
            clear ha
            go_wp2_with fail
            go_roundw
            case rel => exact ⟨2 + 1, by omega, by go_num, by rw [HO2.out]; exact OWR.out, BR.out⟩
            case measure => simp [intOf]
          · have hab : (((2 : Int)) != a) = true := by simp [ha]
            have HO2 := Lib.hid (show oth ⟨o, s, b, a, k, wt, td, q⟩ (2 + 1) = oth ⟨o, s, b, a, k, wt, td, q⟩ 2 ++ [(2 : Int)] from by rw [HOK.out]; simp [ha])
            clear ha
            have HM1 := Lib.hid (show (oth ⟨o, s, b, a, k, wt, td, q⟩ 2).length + 1 ≤ maxLen by (have := oth_le ⟨o, s, b, a, k, wt, td, q⟩ 2); unfold maxLen; omega)
            have HM2 := Lib.hid (show ((oth ⟨o, s, b, a, k, wt, td, q⟩ 2).length + 1) * 8 ≤ 140737488355328 by (have := oth_le ⟨o, s, b, a, k, wt, td, q⟩ 2); omega)
            have HM3 := Lib.hid (show w.heap.size ≤ (wr.alloc (.cells #[.int .i64 2] 3)).heap.size by (have := BR.out.size); simp only [World.size_alloc]; omega)
            go_wp2_with (first
              | ((with_reducible show wpList _ _ _ (Oper.mk (some 32) _ _ _ _ _ :: _) _ _); refine wpList_append_own _ rfl (.tmp 29) (.tmp 31) 172 rfl w.heap.size 3 i0 (.int .i64 0) 1 8 Try.underlying172 HI.out HZ0.out HZ1.out HZ2.out rfl (by decide) _ _ _ rfl (own_alloc OWR.out _) ⟨wr.heap.size, 0, none⟩ 1 1 [.int .i64 2] rfl rfl (fun j u hu => World.news_of_block (heap_alloc_new wr _) j u hu) (fun u hu => one_int1 _ u hu) HM1.out HM2.out HM3.out ?_
                 intro v4 W4 hown hgrow _
                 have HO4 := Lib.hid hown; have B4 := Lib.hid (Below.grown (BR.out.alloc BR.out.size _) hgrow (by have := BR.out.size; simp only [World.size_alloc]; omega) (fun k hk => own_ge OWR.out hk)); clear hown hgrow))
            go_roundw
            case rel => exact ⟨2 + 1, by omega, by go_num, by rw [HO2.out]; simpa using HO4.out, B4.out⟩
            case measure => simp [intOf]
      · have e0 : (((3 : Nat) : Int)) = 3 := rfl
        rw [e0]
        have HOK := Lib.hid (show oth ⟨o, s, b, a, k, wt, td, q⟩ (3 + 1) = if s 3 && decide ((3 : Int) ≠ a) then oth ⟨o, s, b, a, k, wt, td, q⟩ 3 ++ [(3 : Int)] else oth ⟨o, s, b, a, k, wt, td, q⟩ 3 from rfl)
        obtain ⟨v2, hv2⟩ : ∃ v2, s 3 = v2 := ⟨_, rfl⟩
        rw [hv2]
        rw [hv2] at HOK
        clear hv2 e0
        have ix := fun x => ix3 (.bool (s 0)) (.bool (s 1)) (.bool (s 2)) (.bool v2) x
        have c2 := TR.out.tk.t2
        have c6 : wr.cell? ⟨ep, 6, none⟩ = some (.int .i64 a) := TR.out.tk.e6
        cases v2
        · go_wp2_with fail
          go_roundw
          case rel => exact ⟨3 + 1, by omega, by go_num, by rw [HOK.out]; exact OWR.out, BR.out⟩
          case measure => simp [intOf]
        · by_cases ha : (3 : Int) = a
          · have hab : (((3 : Int)) != a) = false := by simp [ha]
            have HO2 := Lib.hid (show oth ⟨o, s, b, a, k, wt, td, q⟩ (3 + 1) = oth ⟨o, s, b, a, k, wt, td, q⟩ 3 from by rw [HOK.out]; simp [ha])
            clear ha
            go_wp2_with fail
            go_roundw
            case rel => exact ⟨3 + 1, by omega, by go_num, by rw [HO2.out]; exact OWR.out, BR.out⟩
            case measure => simp [intOf]
          · have hab : (((3 : Int)) != a) = true := by simp [ha]
            have HO2 := Lib.hid (show oth ⟨o, s, b, a, k, wt, td, q⟩ (3 + 1) = oth ⟨o, s, b, a, k, wt, td, q⟩ 3 ++ [(3 : Int)] from by rw [HOK.out]; simp [ha])
            clear ha
            have HM1 := Lib.hid (show (oth ⟨o, s, b, a, k, wt, td, q⟩ 3).length + 1 ≤ maxLen by (have := oth_le ⟨o, s, b, a, k, wt, td, q⟩ 3); unfold maxLen; omega)
            have HM2 := Lib.hid (show ((oth ⟨o, s, b, a, k, wt, td, q⟩ 3).length + 1) * 8 ≤ 140737488355328 by (have := oth_le ⟨o, s, b, a, k, wt, td, q⟩ 3); omega)
            have HM3 := Lib.hid (show w.heap.size ≤ (wr.alloc (.cells #[.int .i64 3] 3)).heap.size by (have := BR.out.size); simp only [World.size_alloc]; omega)
            go_wp2_with (first
              | ((with_reducible show wpList _ _ _ (Oper.mk (some 32) _ _ _ _ _ :: _) _ _); refine wpList_append_own _ rfl (.tmp 29) (.tmp 31) 172 rfl w.heap.size 3 i0 (.int .i64 0) 1 8 Try.underlying172 HI.out HZ0.out HZ1.out HZ2.out rfl (by decide) _ _ _ rfl (own_alloc OWR.out _) ⟨wr.heap.size, 0, none⟩ 1 1 [.int .i64 3] rfl rfl (fun j u hu => World.news_of_block (heap_alloc_new wr _) j u hu) (fun u hu => one_int1 _ u hu) HM1.out HM2.out HM3.out ?_
                 intro v4 W4 hown hgrow _
                 have HO4 := Lib.hid hown; have B4 := Lib.hid (Below.grown (BR.out.alloc BR.out.size _) hgrow (by have := BR.out.size; simp only [World.size_alloc]; omega) (fun k hk => own_ge OWR.out hk)); clear hown hgrow))
            go_roundw
            case rel => exact ⟨3 + 1, by omega, by go_num, by rw [HO2.out]; simpa using HO4.out, B4.out⟩
            case measure => simp [intOf]
    · obtain rfl : j = 4 := by omega
      have e0 : (((4 : Nat) : Int)) = 4 := rfl
      rw [e0]
      clear e0
      go_wp2_with fail
      go_ret
      exact ⟨⟨_, rfl, OWR.out⟩, BR.out⟩
end
end Hm
end Go.Proofs.Ytfajkgbpeapcbaa
end
