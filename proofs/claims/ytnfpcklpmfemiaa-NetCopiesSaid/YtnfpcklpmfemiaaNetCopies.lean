/-
  NetCopies: for every input the statement's function returns true, with no condition; each argument reads behind the call as before. By contracts of the program's and the document's functions.
-/
import Derived.Test.YtnfpcklpmfemiaaNtCp
namespace Go.Proofs.Ytnfpcklpmfemiaa.netCopies
open Go.ChangeShapes Go.WideShapes Go.ChangeAt Go.RowKit
set_option linter.unusedVariables false
set_option linter.unusedSimpArgs false

set_option maxRecDepth 100000 in
set_option maxHeartbeats 8000000 in
theorem walk_bad (w : World) (a0 : Int) (a1 : Option Addr) (n1 c1 : Nat) (x2 : Nt.Act) (h : a0 < 1 ∨ 1024 < a0 ∨ (1 ≤ a0 ∧ a0 ≤ 1024 ∧ 100 < n1)) :
    Calls Try.prog 7 #[.int .i64 a0, .slice a1 n1 c1, .agg (Nt.acells x2).toArray] w fun e w' => e = .returned (.bool true) ∧ Below w.heap.size w w' := by
  obtain ⟨B, hB⟩ : ∃ B, B = w.alloc (.cells (Nt.acells x2).toArray 82) := ⟨_, rfl⟩
  have HB := Lib.hid hB
  have B0 := Lib.hid (show Below w.heap.size w B by rw [hB]; exact (Below.refl w.heap.size w).alloc (Nat.le_refl _) _)
  clear hB
  rcases h with h1 | h1 | ⟨h1, h2, h3⟩
  · go_enter Try.func7, Try.ntmps7
    go_wp2_with (go_at_call 28; rw [← HB.out]; (with_reducible refine (Nt.works_any _).mono ?_); rintro e W9 ⟨rfl, hb⟩; have B9 := Lib.hid (B0.out.trans (hb.mono B0.out.size)); clear hb)
    go_ret
    exact ⟨rfl, B9.out⟩
  · have h2 : ¬ a0 < 1 := by omega
    go_enter Try.func7, Try.ntmps7
    go_wp2_with (go_at_call 28; rw [← HB.out]; (with_reducible refine (Nt.works_any _).mono ?_); rintro e W9 ⟨rfl, hb⟩; have B9 := Lib.hid (B0.out.trans (hb.mono B0.out.size)); clear hb)
    go_ret
    exact ⟨rfl, B9.out⟩
  · have h4 : ¬ a0 < 1 := by omega
    have h5 : ¬ 1024 < a0 := by omega
    have h6 : (100 : Int) < (n1 : Int) := by omega
    clear h1 h2 h3
    go_enter Try.func7, Try.ntmps7
    go_wp2_with (go_at_call 28; rw [← HB.out]; (with_reducible refine (Nt.works_any _).mono ?_); rintro e W9 ⟨rfl, hb⟩; have B9 := Lib.hid (B0.out.trans (hb.mono B0.out.size)); clear hb)
    go_ret
    exact ⟨rfl, B9.out⟩
set_option maxRecDepth 100000 in
set_option maxHeartbeats 16000000 in
theorem walk_good (w : World) (k : Nat) (h0 : 1 ≤ k) (h9 : k ≤ 1024) (a1 : Option Addr) (c1 : Nat) (x1 : List Nt.Act) (b1 : Nt.AsIn w a1 c1 x1) (hx : x1.length ≤ 100) (x2 : Nt.Act) (b2 : Nt.AOk x2) :
    Calls Try.prog 7 #[.int .i64 (k : Int), .slice a1 x1.length c1, .agg (Nt.acells x2).toArray] w fun e w' => e = .returned (.bool true) ∧ Below w.heap.size w w' := by
  obtain ⟨xb, hxb⟩ : ∃ xb, xb = w.heap.size := ⟨_, rfl⟩
  obtain ⟨B, hB⟩ : ∃ B, B = w.alloc (.cells (Nt.acells x2).toArray 82) := ⟨_, rfl⟩
  have HB := Lib.hid hB; have HXB := Lib.hid hxb
  have B0 := Lib.hid (show Below w.heap.size w B by rw [hB]; exact (Below.refl w.heap.size w).alloc (Nat.le_refl _) _)
  have R0 := Lib.hid (show B.heap[xb]? = some (.cells (Nt.acells x2).toArray 82 (0, 0)) by rw [hB, hxb]; exact heap_alloc_new _ _)
  have HXC := Lib.hid (show ∀ i c, (Nt.acells x2)[i]? = some c → B.cell? ⟨xb, i, none⟩ = some c from fun i c hi => by rw [cell_of_row _ _ _ _ _ _ R0.out]; simpa using hi)
  have HXM := Lib.hid (show ∀ i c, (Nt.cells x2.e)[i]? = some c → B.cell? ⟨xb, 1 + i, none⟩ = some c from fun i c hi => HXC.out (1 + i) c (Nt.acellm hi))
  have HX := Lib.hid b2
  obtain ⟨lw, hlw⟩ : ∃ lw, Nt.playL k x1 = lw := ⟨_, rfl⟩
  have KP' := Nt.played_any k h0 h9 a1 c1 x1 hx B (b1.kp (Ev.kp_below B0.out))
  simp only [Nt.Played, hlw] at KP'
  have KP := Lib.hid KP'
  have h1 : ¬ (k : Int) < 1 := by omega
  have h2 : ¬ 1024 < (k : Int) := by omega
  have h3 : ¬ (100 : Int) < (x1.length : Int) := by omega
  clear b1 b2 hxb hB hlw KP'
  go_enter Try.func7, Try.ntmps7
  go_upto_if 58 with (first
    | (go_at_call 37; rw [← HB.out, ← HXB.out]; (with_reducible refine KP.out.mono ?_); rintro e W1 ⟨p, F, a, c, rfl, hn, hb, hf, ho⟩
       have N1 := Lib.hid hn; have B1 := Lib.hid hb; have O1 := Lib.hid ho; have HF := Lib.hid hf
       clear hn hb hf ho)
    | ((with_reducible show wpList _ _ _ (Oper.mk none (Op.store 76 _ _) _ _ _ _ :: _) _ _); refine wpList_store_own rfl 76 (.tmp 8) (.tmp 41) rfl W1.heap.size #[.int .i64 (k : Int), .slice a lw.length c] rfl rfl 76 _ (heap_alloc_new W1 _) (by kernel_rfl) rfl (by kernel_rfl) ?_
       intro W2 HW2
       have hb2 : Below W1.heap.size W1 W2 := ((Below.refl W1.heap.size W1).alloc (Nat.le_refl _) _).trans HW2.below
       have B2 := Lib.hid (B1.out.trans (hb2.mono B1.out.size)); have N2 := Lib.hid (N1.out.kp hb2); have R2 := Lib.hid HW2.row; have O2 := Lib.hid (O1.out.kp hb2)
       clear hb2 HW2)
    | (go_at_call 35; (with_reducible refine (Nt.copy_any _ N2.out).mono ?_); rintro e' W3 ⟨q, rfl, hb3, G, hg3, hgl⟩
       have B3 := Lib.hid (B2.out.trans (hb3.mono B2.out.size)); have N3 := Lib.hid (N2.out.kp hb3); have R3 := Lib.hid ((hb3.block _ (Array.getElem?_eq_some_iff.1 R2.out).1).trans R2.out); have O3 := Lib.hid (O2.out.kp hb3); have G3 := Lib.hid hg3; have GL := Lib.hid hgl
       have KS := Lib.hid (Nt.same_as W3 N3.out G3.out (v := true) (by rw [(Nt.sameLs_iff N3.out.ok N3.out.ok).2 rfl]; simp))
       clear hb3 hg3 hgl)
    | (go_at_call 36; (with_reducible refine KS.out.mono ?_); rintro e' W4 ⟨rfl, hb4⟩
       have B4 := Lib.hid (B3.out.trans (hb4.mono B3.out.size)); have N4 := Lib.hid (N3.out.kp hb4); have R4 := Lib.hid ((hb4.block _ (Array.getElem?_eq_some_iff.1 R3.out).1).trans R3.out); have O4 := Lib.hid (O3.out.kp hb4); have G4 := Lib.hid (G3.out.kp hb4)
       clear hb4)
    | ((with_reducible show wpList _ _ _ (Oper.mk (some 53) _ _ _ _ _ :: _) _ _); refine wpList_load_row rfl 76 (.tmp 8) rfl W1.heap.size rfl 76 _ (0, 0) _ R4.out Try.underlying76 rfl (by kernel_rfl) ?_)
    | ((with_reducible show wpList _ _ _ (Oper.mk none (Op.store 76 _ _) _ _ _ _ :: _) _ _); refine wpList_store_own rfl 76 (.tmp 11) (.tmp 53) rfl W4.heap.size #[.int .i64 (k : Int), .slice a lw.length c] rfl rfl 76 _ (heap_alloc_new W4 _) (by kernel_rfl) rfl (by kernel_rfl) ?_
       intro W5 HW5
       have hb5 : Below W4.heap.size W4 W5 := ((Below.refl W4.heap.size W4).alloc (Nat.le_refl _) _).trans HW5.below
       have B5 := Lib.hid (B4.out.trans (hb5.mono B4.out.size)); have N5 := Lib.hid (N4.out.kp hb5); have R5 := Lib.hid ((hb5.block _ (Array.getElem?_eq_some_iff.1 R4.out).1).trans R4.out); have O5 := Lib.hid (O4.out.kp hb5); have G5 := Lib.hid (G4.out.kp hb5)
       have S5 := Lib.hid HW5.row
       clear hb5 HW5)
    | (go_at_call 35; (with_reducible refine (Nt.copy_any _ N5.out).mono ?_); rintro e' W6 ⟨o, rfl, hb6, H, hg6, hgl⟩
       have hlt1 := N1.out.lt
       have hlt4 := N4.out.lt; have glt4 := G4.out.lt
       have hz1 : W1.heap.size < W2.heap.size := (Array.getElem?_eq_some_iff.1 R2.out).1
       have hz4 : W1.heap.size < W4.heap.size := (Array.getElem?_eq_some_iff.1 R4.out).1
       have CP := Lib.hid (Nt.Cp.birth (b8 := W1.heap.size) (b11 := W4.heap.size) N5.out G5.out B5.out HF.out (fun i hi hg => by have h1 := hlt1 i hi; have h2 := GL.out i hg; omega) R5.out S5.out (fun hi => by have := hlt1 _ hi; omega) (fun hi => by have := hlt4 _ hi; omega) (fun hi => by have := glt4 _ hi; omega) (by omega) (by have := B4.out.size; omega) (O5.out.mono (fun i hi => hi.2)) hb6 hg6 hgl)
       have x0 : W6.cell? ⟨xb, 0, none⟩ = some (.int .i64 x2.k) := Ev.kp_below CP.out.bel _ _ (HXC.out 0 _ (Nt.acell0 x2))
       have x21 : W6.cell? ⟨xb, 21, none⟩ = some (.int .i64 x2.p) := Ev.kp_below CP.out.bel _ _ (HXC.out 21 _ (Nt.acell21 HX.out.e))
       clear hlt1 hlt4 glt4 hz1 hz4 hb6 hg6 hgl))
  go_cut [] from 53 (fun wx => ∃ F a' c' ln, Nt.Cp B wx F G H p q o k W1.heap.size W4.heap.size ln lw lw a c a' c' ln)
  case first =>
    have hl1 : lw.length ≤ 1024 := CP.out.nc.len
    have hl2 : lw.length ≤ k := by obtain ⟨a, c, h⟩ := CP.out.nc; exact h.len
    by_cases hk0 : x2.k = 0
    · have hkb : (x2.k != 0) = false := by simpa using hk0
      go_wp2_with (first
        | ((with_reducible show wpList _ _ _ (Oper.mk (some 72) _ _ _ _ _ :: _) _ _); refine wpList_load_row rfl 76 (.tmp 8) rfl W1.heap.size rfl 76 _ (0, 0) _ CP.out.r8 Try.underlying76 rfl (by kernel_rfl) ?_)
        | ((with_reducible show wpList _ _ _ (Oper.mk (some 74) _ _ _ _ _ :: _) _ _); refine wpList_load_at rfl 57 (.tmp 73) rfl xb 1 rfl (Nt.cells x2.e) _ (fun i c hi => Ev.kp_below CP.out.bel _ _ (HXM.out i c hi)) Try.underlying57 rfl (by rw [HX.out.e.len]; exact Nt.size_msg) ?_)
        | (go_at_call 40; (with_reducible refine (Nt.rsend_any k a c lw x2.e HX.out.e W6 CP.out.ls8 hl1 hl2 h9).mono ?_); rintro e' W7 ⟨a3, c3, rfl, hb7, hrt⟩
           have O7 := Lib.hid (CP.out.told hb7 hrt)
           have CP7 := Lib.hid (CP.out.kp hb7)
           clear hb7 hrt)
        | ((with_reducible show wpList _ _ _ (Oper.mk none (Op.store 76 _ _) _ _ _ _ :: _) _ _); refine wpList_store_own rfl 76 (.tmp 11) (.tmp 76) rfl W4.heap.size #[.int .i64 (k : Int), .slice a3 (Nt.sendL k lw x2.e).length c3] rfl rfl 76 _ CP7.out.r11 (by kernel_rfl) rfl (by kernel_rfl) ?_
           intro W8 HW8
           have CP8 := Lib.hid (CP7.out.put O7.out (Nt.sendL_ok CP7.out.nc.ok HX.out.e) HW8)
           clear HW8)
        | ((with_reducible show wpList _ _ _ (Oper.mk (some 80) _ _ _ _ _ :: _) _ _); refine wpList_load_at rfl 57 (.tmp 79) rfl xb 1 rfl (Nt.cells x2.e) _ (fun i c hi => Ev.kp_below CP8.out.bel _ _ (HXM.out i c hi)) Try.underlying57 rfl (by rw [HX.out.e.len]; exact Nt.size_msg) ?_)
        | (go_at_call 31; (with_reducible refine (Nt.send_any x2.e HX.out.e W8 CP8.out.nn).mono ?_); rintro e' W9 ⟨rfl, ht9⟩
           obtain ⟨F9, h9'⟩ := CP8.out.turnN ht9
           have CP9 := Lib.hid h9'
           clear ht9 h9'))
      go_meet
      exact ⟨F9, a3, c3, _, CP9.out⟩
    · have hkb : (x2.k != 0) = true := by simpa using hk0
      go_wp2_with (first
        | ((with_reducible show wpList _ _ _ (Oper.mk (some 60) _ _ _ _ _ :: _) _ _); refine wpList_load_row rfl 76 (.tmp 8) rfl W1.heap.size rfl 76 _ (0, 0) _ CP.out.r8 Try.underlying76 rfl (by kernel_rfl) ?_)
        | (go_at_call 39; (with_reducible refine (Nt.rdel_any k a c lw x2.p HX.out.p W6 CP.out.ls8 hl1).mono ?_); rintro e' W7 ⟨a3, c3, rfl, hb7, hrt⟩
           have O7 := Lib.hid (CP.out.told hb7 hrt)
           have CP7 := Lib.hid (CP.out.kp hb7)
           clear hb7 hrt)
        | ((with_reducible show wpList _ _ _ (Oper.mk none (Op.store 76 _ _) _ _ _ _ :: _) _ _); refine wpList_store_own rfl 76 (.tmp 11) (.tmp 64) rfl W4.heap.size #[.int .i64 (k : Int), .slice a3 (Nt.delL lw x2.p).length c3] rfl rfl 76 _ CP7.out.r11 (by kernel_rfl) rfl (by kernel_rfl) ?_
           intro W8 HW8
           have CP8 := Lib.hid (CP7.out.put O7.out (Nt.delL_ok CP7.out.nc.ok) HW8)
           have y21 : W8.cell? ⟨xb, 21, none⟩ = some (.int .i64 x2.p) := Ev.kp_below CP8.out.bel _ _ (HXC.out 21 _ (Nt.acell21 HX.out.e))
           clear HW8)
        | (go_at_call 30; (with_reducible refine (Nt.deliver_any x2.p HX.out.p W8 CP8.out.nn).mono ?_); rintro e' W9 ⟨rfl, ht9⟩
           obtain ⟨F9, h9'⟩ := CP8.out.turnN ht9
           have CP9 := Lib.hid h9'
           clear ht9 h9'))
      go_meet
      exact ⟨F9, a3, c3, _, CP9.out⟩
  case rest =>
    obtain ⟨F, a', c', ln, hcp⟩ := hcut
    have CP := Lib.hid hcp
    have hl3 : lw.length ≤ 1024 := hcp.nc.len
    have hl1 : lw.length ≤ 1100 := by omega
    have hl4 : ln.length ≤ 1024 := hcp.nn.len
    have hl2 : ln.length ≤ 1100 := by omega
    have hlm : lw.length ≤ k := by obtain ⟨a, c, h⟩ := hcp.nc; exact h.len
    have c11 : wc.cell? ⟨W4.heap.size, 1, none⟩ = some (.slice a' ln.length c') := by rw [cell_of_row _ _ _ _ _ _ hcp.r11]; rfl
    have c8 : wc.cell? ⟨W1.heap.size, 1, none⟩ = some (.slice a lw.length c) := by rw [cell_of_row _ _ _ _ _ _ hcp.r8]; rfl
    obtain ⟨v, hv⟩ : ∃ v, Nt.sameLs ln lw = v := ⟨_, rfl⟩
    have HV := Lib.hid hv
    have HV2 := Lib.hid (show Nt.sameLs lw ln = v from by rw [← hv]; exact Nt.sameLs_comm hcp.nc.ok hcp.nn.ok)
    have hvv : (v == v) = true := by cases v <;> rfl
    obtain ⟨j, hj⟩ : ∃ j : Nat, j = k % 1024 := ⟨_, rfl⟩
    have hj1 : j < 1024 := by omega
    have hmod : Int.tmod (k : Int) 1024 = (j : Int) := by rw [hj]; rfl
    have hjk : ¬ ((j : Int) + 1 = (k : Int)) := by omega
    have hjb : ((j : Int) + 1 == (k : Int)) = false := by simpa using hjk
    have hjn : ¬ (j + 1 = k) := by omega
    have hjw : IntKind.i64.wrap ((j : Int) + 1) = (j : Int) + 1 := by rw [IntKind.wrap_i64]; omega
    have HJ := Lib.hid hjn
    clear hv hcp hj hjn
    obtain ⟨m, hm⟩ : ∃ m, m = Nt.moreE := ⟨_, rfl⟩
    have HME := Lib.hid hm
    have HMO := Lib.hid (show Nt.Ok m from by rw [hm]; exact Nt.moreE_ok)
    obtain ⟨lm, hlm2⟩ : ∃ lm, Nt.sendL k lw m = lm := ⟨_, rfl⟩
    obtain ⟨sn, hsn⟩ : ∃ sn, Nt.sendE k lw m = sn := ⟨_, rfl⟩
    have HLM := Lib.hid hlm2; have HSN := Lib.hid hsn
    have hss : (sn != sn) = false := by simp
    clear hm hlm2 hsn
    go_wp2_with (first
      | (go_at_call 41; (with_reducible refine (Nt.rsame_any a' a c' c ln lw hl2 hl1 wc CP.out.ls11 CP.out.ls8).mono ?_); rintro e' W11 ⟨rfl, hb⟩; rw [HV.out]
         have CP11 := Lib.hid (CP.out.kp hb)
         clear hb)
      | (go_at_call 33; (with_reducible refine (Nt.ready_any _ CP11.out.nc).mono ?_); rintro e' W12 ht
         obtain ⟨al, cl, rfl, ho, hok, hb⟩ := ht
         have BW := Lib.hid hb; have LB12 := Lib.hid (Nt.Lb.of_own ho hok)
         clear ho hok hb))
    go_loopw [15] (fun i wx => ∃ t : Nat, t ≤ lw.length ∧ i = .int .i64 (t : Int) ∧ Below W11.heap.size W11 wx ∧ Nt.Lb wx W11.heap.size al lw.length) (fun i _ => lw.length - (intOf i).toNat)
    case atStart => exact ⟨0, Nat.zero_le _, rfl, BW.out, LB12.out⟩
    case round =>
      obtain ⟨t, ht, rfl, hbx, hlb⟩ := hrel
      by_cases hlt : t < lw.length
      · obtain ⟨g, n, eal, hce, hfr, hnx⟩ := hlb.at_ hlt
        have HNX := Lib.hid hnx; have HBX := Lib.hid hbx
        have hti : (t : Int) < (lw.length : Int) := by omega
        clear hnx hbx hlb
        rw [eal]
        go_wp2_with fail
        go_roundw
        case rel => exact ⟨t + 1, by omega, by go_num, HBX.out.trans (HNX.out _).1, by rw [← eal]; exact (HNX.out _).2⟩
        case measure => simp [intOf]; omega
      · have hti : ¬ (t : Int) < (lw.length : Int) := by omega
        have CPX := Lib.hid (CP11.out.kp hbx)
        have NWD' := Nt.new_yes (j + 1) (by omega) (by omega) wr
        rw [show ((j + 1 : Nat) : Int) = (j : Int) + 1 by omega] at NWD'
        have NWD := Lib.hid NWD'
        clear NWD' hbx hlb
        go_wp2_with (first
          | (go_at_call 29; (with_reducible refine NWD.out.mono ?_); rintro e' W20 ⟨pw, rfl, hb, I, hnw, hfw⟩
             have CP20 := Lib.hid (CPX.out.kp hb); have NW20 := Lib.hid hnw
             have HI := Lib.hid (show ∀ i, I i → ¬ H i from fun i hi hh => by have h1 := CPX.out.no.lt i hh; have h2 := hfw i hi; omega)
             have NE := Lib.hid (Nt.new_yes k h0 h9 W20)
             clear hb hnw hfw)
          | (go_at_call 29; (with_reducible refine NE.out.mono ?_); rintro e' W21 ⟨pe, rfl, hb, J, hne, hfe⟩
             have CP21 := Lib.hid (CP20.out.kp hb); have NW21 := Lib.hid (NW20.out.kp hb); have NE21 := Lib.hid hne
             have HJH := Lib.hid (show ∀ i, J i → ¬ H i from fun i hi hh => by have h1 := CP20.out.no.lt i hh; have h2 := hfe i hi; omega)
             clear hb hne hfe)
          | ((with_reducible show wpList _ _ _ (Oper.mk none (Op.store 57 _ _) _ _ _ _ :: _) _ _); refine wpList_store_own rfl 57 (.tmp 20) (.tmp 117) rfl W21.heap.size (Nt.cells m).toArray rfl (by rw [HME.out]; rfl) 57 #[.int .i64 0, .int .i64 0, .int .i64 0, .int .u32 0, .int .u8 0, .int .u8 0, .int .u8 0, .int .u8 0, .int .u8 0, .int .u8 0, .int .u8 0, .int .u8 0, .int .u8 0, .int .u8 0, .int .u8 0, .int .u8 0, .int .u8 0, .int .u8 0, .int .u8 0, .int .u8 0] (heap_alloc_new W21 _) (by rw [HMO.out.size]; exact Nt.size_msg) (by rw [HMO.out.size]; rfl) (Nt.cells_all m) ?_
             intro W22 HW22
             have hb : Below W21.heap.size W21 W22 := ((Below.refl W21.heap.size W21).alloc (Nat.le_refl _) _).trans HW22.below
             have CP22 := Lib.hid (CP21.out.kp hb); have NW22 := Lib.hid (NW21.out.kp hb); have NE22 := Lib.hid (NE21.out.kp hb); have M22 := Lib.hid HW22.row
             clear hb HW22)
          | ((with_reducible show wpList _ _ _ (Oper.mk (some 119) _ _ _ _ _ :: _) _ _); refine wpList_load_row rfl 76 (.tmp 8) rfl W1.heap.size rfl 76 _ (0, 0) _ CP22.out.r8 Try.underlying76 rfl (by kernel_rfl) ?_)
          | ((with_reducible show wpList _ _ _ (Oper.mk (some 120) _ _ _ _ _ :: _) _ _); refine wpList_load_row rfl 57 (.tmp 20) rfl W21.heap.size rfl 57 _ (0, 0) _ M22.out Try.underlying57 rfl (by rw [HMO.out.size]; exact Nt.size_msg) ?_)
          | (go_at_call 40; (with_reducible refine (Nt.rsend_any k a c lw m HMO.out W22 CP22.out.ls8 hl3 hlm h9).mono ?_); rintro e' W23 ⟨a5, c5, rfl, hb, hrt⟩
             rw [HLM.out] at hrt ⊢; rw [HSN.out]
             have O23 := Lib.hid ((CP22.out.told hb hrt).mono (G := fun i => ¬ H i) (fun i hi => hi.2))
             have CP23 := Lib.hid (CP22.out.kp hb); have NW23 := Lib.hid (NW22.out.kp hb); have NE23 := Lib.hid (NE22.out.kp hb); have M23 := Lib.hid ((hb.block _ (Array.getElem?_eq_some_iff.1 M22.out).1).trans M22.out)
             clear hb hrt)
          | ((with_reducible show wpList _ _ _ (Oper.mk none (Op.store 76 _ _) _ _ _ _ :: _) _ _); refine wpList_store_own rfl 76 (.tmp 21) (.tmp 122) rfl W23.heap.size #[.int .i64 (k : Int), .slice a5 lm.length c5] rfl rfl 76 _ (heap_alloc_new W23 _) (by kernel_rfl) rfl (by kernel_rfl) ?_
             intro W24 HW24
             have hb : Below W23.heap.size W23 W24 := ((Below.refl W23.heap.size W23).alloc (Nat.le_refl _) _).trans HW24.below
             have hH := CP23.out.no.lt; have hH1 := CP21.out.no.lt
             have CS24 := Lib.hid (show Nt.Cs B W24 F G H p q o k W1.heap.size W4.heap.size ln lw lw a c a' c' ln W21.heap.size W23.heap.size m a5 c5 lm I J pw pe (j + 1) from
               ⟨CP23.out.kp hb, (hb.block _ (Array.getElem?_eq_some_iff.1 M23.out).1).trans M23.out, HW24.row, fun h => by have := hH1 _ h; omega, fun h => by have := hH _ h; omega, O23.out.kp hb, by rw [← HLM.out]; exact Nt.sendL_ok CP23.out.nc.ok HMO.out, NW23.out.kp hb, NE23.out.kp hb, HI.out, HJH.out⟩)
             clear hb HW24 hH hH1)
          | (go_at_call 35; (with_reducible refine (Nt.copy_any _ CS24.out.cp.nc).mono ?_); rintro e' W25 ⟨d, rfl, hb, D, hd, hdl⟩
             have CS25 := Lib.hid (CS24.out.kp hb); have D25 := Lib.hid hd; have BD := Lib.hid hb; have HDL := Lib.hid hdl
             clear hb hd hdl)
          | ((with_reducible show wpList _ _ _ (Oper.mk (some 127) _ _ _ _ _ :: _) _ _); refine wpList_load_row rfl 57 (.tmp 20) rfl W21.heap.size rfl 57 _ (0, 0) _ CS25.out.r20 Try.underlying57 rfl (by rw [HMO.out.size]; exact Nt.size_msg) ?_)
          | (go_at_call 31; (with_reducible refine (Nt.send_any m HMO.out W25 D25.out).mono ?_); rintro e' W26 ⟨rfl, ht⟩
             rw [HLM.out] at ht; rw [HSN.out]
             obtain ⟨D', hd', hfr, _⟩ := ht
             have CS26 := Lib.hid (CS24.out.kp (Nt.Fr.below BD.out hfr HDL.out (Nat.le_refl _)))
             have KI1 := Lib.hid (Nt.is_any k a5 c5 lm W26 CS26.out.ls21 hd'.len hd')
             clear hfr hd')
          | (go_at_call 25; (with_reducible refine (Nt.num_any _ _).mono ?_); rintro e' W0 ⟨rfl, hw0⟩; subst hw0)
          | ((with_reducible show wpList _ _ _ (Oper.mk (some 134) _ _ _ _ _ :: _) _ _); refine Ev.load_row_g 76 (.tmp 21) rfl rfl W23.heap.size rfl 76 _ (0, 0) _ CS26.out.r21 Try.underlying76 rfl (by kernel_rfl) ?_)
          | (go_at_call 38; (with_reducible refine KI1.out.mono ?_); rintro e' W27 ⟨rfl, hb⟩; have CS27 := Lib.hid (CS26.out.kp hb); clear hb)
          | ((with_reducible show wpList _ _ _ (Oper.mk (some 140) _ _ _ _ _ :: _) _ _); refine Ev.load_row_g 57 (.tmp 20) rfl rfl W21.heap.size rfl 57 _ (0, 0) _ CS27.out.r20 Try.underlying57 rfl (by rw [HMO.out.size]; exact Nt.size_msg) ?_)
          | (go_at_call 31; (with_reducible refine (Nt.send_any m HMO.out W27 CS27.out.cp.no).mono ?_); rintro e' W28 ⟨rfl, ht⟩
             rw [HLM.out] at ht; rw [HSN.out]
             obtain ⟨H', h28⟩ := CS27.out.turnO ht
             have CS28 := Lib.hid h28
             have KI2 := Lib.hid (Nt.is_any k a5 c5 lm W28 CS28.out.ls21 CS28.out.cp.no.len CS28.out.cp.no)
             clear ht h28)
          | ((with_reducible show wpList _ _ _ (Oper.mk (some 148) _ _ _ _ _ :: _) _ _); refine Ev.load_row_g 76 (.tmp 21) rfl rfl W23.heap.size rfl 76 _ (0, 0) _ CS28.out.r21 Try.underlying76 rfl (by kernel_rfl) ?_)
          | (go_at_call 38; (with_reducible refine KI2.out.mono ?_); rintro e' W29 ⟨rfl, hb⟩; have CS29 := Lib.hid (CS28.out.kp hb); have KI3 := Lib.hid (Nt.is_any k a c lw W29 CS29.out.cp.ls8 hl3 CS29.out.cp.nc); clear hb)
          | ((with_reducible show wpList _ _ _ (Oper.mk (some 153) _ _ _ _ _ :: _) _ _); refine wpList_load_row rfl 76 (.tmp 8) rfl W1.heap.size rfl 76 _ (0, 0) _ CS29.out.cp.r8 Try.underlying76 rfl (by kernel_rfl) ?_)
          | (go_at_call 38; (with_reducible refine KI3.out.mono ?_); rintro e' W30 ⟨rfl, hb⟩; have CS30 := Lib.hid (CS29.out.kp hb); have KI4 := Lib.hid (Nt.is_any k a' c' ln W30 CS30.out.cp.ls11 hl4 CS30.out.cp.nn); clear hb)
          | ((with_reducible show wpList _ _ _ (Oper.mk (some 157) _ _ _ _ _ :: _) _ _); refine Ev.load_row_g 76 (.tmp 11) rfl rfl W4.heap.size rfl 76 _ (0, 0) _ CS30.out.cp.r11 Try.underlying76 rfl (by kernel_rfl) ?_)
          | (go_at_call 38; (with_reducible refine KI4.out.mono ?_); rintro e' W31 ⟨rfl, hb⟩; have CS31 := Lib.hid (CS30.out.kp hb)
             have KS1 := Lib.hid (Nt.same_as W31 CS31.out.cp.nn CS31.out.cp.nc (v := v) (by rw [HV.out]; simp)); clear hb)
          | (go_at_call 36; (with_reducible refine KS1.out.mono ?_); rintro e' W32 ⟨rfl, hb⟩; have CS32 := Lib.hid (CS31.out.kp hb)
             have KS2 := Lib.hid (Nt.same_as W32 CS32.out.cp.nc CS32.out.cp.nn (v := v) (by rw [HV2.out]; simp)); clear hb)
          | (go_at_call 36; (with_reducible refine KS2.out.mono ?_); rintro e' W33 ⟨rfl, hb⟩; have CS33 := Lib.hid (CS32.out.kp hb)
             have KS3 := Lib.hid (Nt.same_as W33 CS33.out.nw CS33.out.ne (v := false) (by rw [decide_eq_false HJ.out]; rfl)); clear hb)
          | (go_at_call 36; (with_reducible refine KS3.out.mono ?_); rintro e' W34 ⟨rfl, hb⟩; have CS34 := Lib.hid (CS33.out.kp hb); clear hb)
          | (go_at_call 28; (with_reducible refine (Nt.works_any _).mono ?_); rintro e' W35 ⟨rfl, hb⟩; have B35 := Lib.hid (CS34.out.cp.bel.trans (hb.mono CS34.out.cp.bel.size)); clear hb))
        go_ret
        exact ⟨rfl, B0.out.trans (B35.out.mono B0.out.size)⟩
/-! THE WALK: the Go text returns true; of memory nothing that stood there has turned. -/
set_option maxRecDepth 100000 in
set_option maxHeartbeats 400000 in
theorem walk (w : World) (a0 : Int) (w0 : (Lit.int .i64 a0).wf = true) (a1 : Option Addr) (n1 c1 : Nat) (x1 : List Nt.Act) (l1 : x1.length = n1) (b1 : Nt.AsIn w a1 c1 x1) (x2 : Nt.Act) (b2 : Nt.AOk x2) :
    Calls Try.prog 7 #[.int .i64 a0, .slice a1 n1 c1, Nt.AV x2] w fun e w' => e = .returned (.bool true) ∧ Below w.heap.size w w' := by
  by_cases h : (1 ≤ a0 ∧ a0 ≤ 1024) ∧ n1 ≤ 100
  · obtain ⟨⟨h1, h2⟩, h3⟩ := h
    obtain ⟨k, rfl, h4, h5⟩ := Nt.may_nat h1 h2
    subst l1
    exact walk_good w k h4 h5 a1 c1 x1 b1 h3 x2 b2
  · exact walk_bad w a0 a1 n1 c1 x2 (by omega)

/-! THE ROW -/
set_option maxRecDepth 100000 in
theorem lifted (os : Os) (started : os.Started) (H : Type) (enc : TypeId × Value → H) :
    ReturnsInHanded {} Try.checked os 7 .any (Rows.netCopiesSpec.pre6 enc Try.prog Try.f7 Rows.netCopiesRow.domain false) (Rows.netCopiesSpec.post enc Try.prog Try.f7 false true false false) := by
  refine returnsInHanded_of_change (C := Try.checked) own started (by kernel_rfl) Try.func7
    (ChangeSpec.witness6 (enc := enc) (C := Try.checked) false ⟨#[], #[.int .i64 0, .slice none 0 0, .agg #[.int .i64 0, .int .i64 0, .int .i64 0, .int .i64 0, .int .u32 0, .int .u8 0, .int .u8 0, .int .u8 0, .int .u8 0, .int .u8 0, .int .u8 0, .int .u8 0, .int .u8 0, .int .u8 0, .int .u8 0, .int .u8 0, .int .u8 0, .int .u8 0, .int .u8 0, .int .u8 0, .int .u8 0, .int .i64 0]], []⟩ 8 (by kernel_rfl) (by kernel_rfl) (by kernel_rfl) (by kernel_rfl)) ?_
  intro W base args ds gs before hval0 hW hcnd _
  have hval : ∀ (j : Nat) t v, Try.f7.params[j]? = some t → args[j]? = some v → Value.okWide Try.prog W .any base t v := hval0
  have hW' := hW
  obtain ⟨p, q, hA0, hV, rfl, hfz, hnd⟩ := hW
  have hA : DataW.TrodAll enc Try.prog W 0 (fun _ => true) true Try.f7.params.toList args.toList ds p := hA0
  rw [Try.params7] at hA hval
  obtain ⟨v0, vs0, d0, ds0, p0, q0, hargs, rfl, rfl, h0, r0⟩ := trodAll_cons hA
  obtain ⟨v1, vs1, d1, ds1, p1, q1, rfl, rfl, rfl, h1, r1⟩ := trodAll_cons r0
  obtain ⟨v2, vs2, d2, ds2, p2, q2, rfl, rfl, rfl, h2, r2⟩ := trodAll_cons r1
  obtain ⟨rfl, rfl, rfl⟩ := trodAll_nil r2
  obtain rfl : args = #[v0, v1, v2] := by cases args; simp_all
  obtain ⟨rfl, rfl⟩ := trodVars_none hV
  clear hA0 hval0
  simp only [List.append_nil] at hW'
  have hlt : ∀ x ∈ p0 ++ (p1 ++ (p2)), x.block < W.heap.size := fun x hx => by simpa using hW'.lt x (by simpa using hx)
  have h0k := h0
  obtain ⟨a0, rfl, rfl, rfl, w0⟩ := open_int Try.underlying3 (hval 0 3 v0 rfl rfl) h0
  obtain ⟨a1, n1, c1, rfl⟩ := okWide_slice Try.underlying74 (hval 1 74 v1 rfl rfl)
  obtain ⟨x1, l1, b1⟩ := open_acts h1
  obtain ⟨x2, rfl, b2⟩ := open_act (hval 2 82 v2 rfl rfl) h2
  refine (walk W a0 w0 a1 n1 c1 x1 l1 b1 x2 b2).mono fun e W' ⟨he, hb⟩ => ?_
  subst he
  have harg0 : DataW.Trod enc Try.prog W' 0 (fun b => decide (b < W.heap.size)) true 3 _ _ _ := Below.trod laidOut (by kernel_rfl) (of_decide_eq_true (by kernel_rfl)) h0k hb (fun x hx => by cases hx)
  have harg1 : DataW.Trod enc Try.prog W' 0 (fun b => decide (b < W.heap.size)) true 74 _ _ _ := Below.trod laidOut (by kernel_rfl) (of_decide_eq_true (by kernel_rfl)) h1 hb (fun x hx => hlt x (by simp [hx]))
  have harg2 : DataW.Trod enc Try.prog W' 0 (fun b => decide (b < W.heap.size)) true 82 _ _ _ := Below.trod laidOut (by kernel_rfl) (of_decide_eq_true (by kernel_rfl)) h2 hb (fun x hx => hlt x (by simp [hx]))
  exact ⟨_, rfl, _, _, _, [], _, [], hW', trodAll_mk1 (shut_bool Try.underlying4 _), (trodAll_cons_mk harg0 (trodAll_cons_mk harg1 (trodAll_cons_mk harg2 trodAll_mk0))), rfl, hb.frame _, fun h => by cases h⟩

theorem over : Rows.netCopiesRow.holds Try.pinned (OpenSpec.ofChange Rows.netCopiesSpec) :=
  OpenClaim.holds_of_wide 7 Try.f7 rfl rfl rfl rfl rfl rfl rfl ⟨rfl, rfl, rfl, rfl, rfl⟩ rfl rfl rfl rfl rfl (by kernel_rfl) Try.func7 (by kernel_rfl)
    (of_decide_eq_true (by kernel_rfl)) (by unfold Func.isWrapper; first | (rw [if_pos (by decide +kernel)]; kernel_rfl) | (rw [if_neg (by decide +kernel)]; exact ⟨rfl, rfl⟩))
    (fun os started H enc _ => lifted os started H enc)

/-- THE STATEMENT -/
theorem proved : Rows.NetCopiesSaid :=
  over
end Go.Proofs.Ytnfpcklpmfemiaa.netCopies
