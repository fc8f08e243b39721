/-
  Loads, stores, lr, sc, AMOs.
-/
import Derived.Test.YtianojbdabeoeaaGreatDoorHtMeans
namespace Go.Proofs.YtianojbdabeoeaaGreatDoor
open Go.RowKit Ht
set_option linter.unusedVariables false
theorem Ht.why_mem (s : S) {op : Nat} (hop : s.i.op = op) (h0 : width op ≠ 0) (h1 : op ≠ 39) (h2 : op ≠ 3) (h4 : op ≠ 4) (h3 : ∀ a b, taken op a b = false) :
    whyS s = if Ar.add s.first s.i.imm % (width op : Int) ≠ 0 then 3 else if s.size < Ar.add s.first s.i.imm + (width op : Int) then 4 else 0 := by
  have hj : jumps op s.first s.second = false := by
    unfold jumps
    rw [h3]
    simp [h2, h4]
  unfold whyS why
  rw [hop, if_neg h1, hj]
  simp [h0]
theorem Ht.amo_ops {op : Nat} (h : 50 ≤ op ∧ op ≤ 58) : op = 50 ∨ op = 51 ∨ op = 52 ∨ op = 53 ∨ op = 54 ∨ op = 55 ∨ op = 56 ∨ op = 57 ∨ op = 58 := by omega
theorem Ht.why_amo (s : S) (hop : 50 ≤ s.i.op ∧ s.i.op ≤ 58) : whyS s = if Ar.add s.first s.i.imm % 4 ≠ 0 then 3 else if s.size < Ar.add s.first s.i.imm + 4 then 4 else 0 := by
  rcases amo_ops hop with h | h | h | h | h | h | h | h | h <;> exact why_mem s h (by decide) (by decide) (by decide) (by decide) (fun _ _ => rfl)
theorem Ht.after_amo (s : S) (hop : 50 ≤ s.i.op ∧ s.i.op ≤ 58) : after s = S.put { s with a := ⟨5, Ar.add s.first s.i.imm, 4, s.second, s.i.op, s.i.aq, s.i.rl⟩ } s.tv := by
  obtain ⟨h, ⟨op, rd, rs1, rs2, imm, aq, rl⟩, size, tv, tok, a, nx⟩ := s
  simp only at hop
  rcases amo_ops hop with h | h | h | h | h | h | h | h | h <;> subst h <;> rfl
theorem Ht.low_wd {n : Int} (h : Ar.Wd n) (k : Nat) : Ar.Wd (low n k) := by unfold Ar.Wd at *; unfold low; split <;> (try split) <;> omega
theorem Ht.even_wd {n : Int} (h : Ar.Wd n) : Ar.Wd (even n) := by unfold Ar.Wd at *; unfold even; omega
theorem Ht.even_walk (a b : Int) : bits .andNot .u32 ((a + b) % 4294967296) 1 = even (Ar.add a b) := by
  have h := Ar.md_wd (a + b)
  have e : (a + b) % 4294967296 = Ar.md (a + b) := rfl
  rw [e]
  show _ = even (Ar.md (a + b))
  generalize Ar.md (a + b) = x at h ⊢
  unfold Ar.Wd at h
  obtain ⟨n, rfl⟩ := Int.eq_ofNat_of_zero_le h.1
  have hn : n < 2 ^ 32 := by omega
  unfold bits even
  have key : ∀ y : BitVec 32, (y &&& ~~~1#32).toNat = y.toNat - y.toNat % 2 := by
    intro y
    have h1 : y &&& ~~~1#32 = (y >>> 1) <<< 1 := by
      ext i hi
      simp
      rcases i with _ | i
      · simp
      · have hb : ∀ j : Fin 31, (4294967294#32).getLsbD (j.1 + 1) = true := by decide
        have h2 := hb ⟨i, by omega⟩
        simp only [BitVec.getLsbD_eq_getElem hi] at h2
        rw [h2]
        simp [Nat.add_comm, BitVec.getLsbD_eq_getElem hi]
    rw [h1]
    simp [Nat.shiftRight_eq_div_pow, Nat.shiftLeft_eq]
    omega
  have e1 : BitVec.ofInt IntKind.u32.bits 1 = 1#32 := rfl
  have e2 : BitVec.ofInt IntKind.u32.bits (n : Int) = BitVec.ofNat 32 n := BitVec.ofInt_natCast 32 n
  show IntKind.u32.wrap ((BitVec.ofInt IntKind.u32.bits (n : Int) &&& ~~~BitVec.ofInt IntKind.u32.bits 1).toNat : Int) = _
  rw [e1, e2]
  have e3 : (BitVec.ofNat 32 n &&& ~~~1#32).toNat = n - n % 2 := by rw [key, BitVec.toNat_ofNat, Nat.mod_eq_of_lt hn]
  have e4 : IntKind.u32.wrap (((BitVec.ofNat 32 n &&& ~~~1#32).toNat : Nat) : Int) = _ := congrArg (fun k : Nat => IntKind.u32.wrap (k : Int)) e3
  refine Eq.trans e4 ?_
  rw [IntKind.wrap_u32]
  omega
theorem Ht.even_walk2 (a b : Int) : bits .andNot .u32 (IntKind.u32.wrap (a + b)) 1 = even (Ar.add a b) := by rw [IntKind.wrap_u32]; exact even_walk a b
theorem Ht.set_access0 {W : World} {p : Nat} {s : S} (h : Stp W p s) (a : A) :
    Lv p W (((((((W.setCell ⟨p, 45, none⟩ (.int .i64 a.kind)).setCell ⟨p, 46, none⟩ (.int .u32 a.addr)).setCell ⟨p, 47, none⟩ (.int .i64 a.width)).setCell ⟨p, 48, none⟩ (.int .u32 a.value)).setCell ⟨p, 49, none⟩ (.int .i64 a.op)).setCell ⟨p, 50, none⟩ (.bool a.aq)).setCell ⟨p, 51, none⟩ (.bool a.rl)) { s with a := a } :=
  have h1 := h.setCell (s' := { s with a := { s.a with kind := a.kind } }) 45 (.int .i64 a.kind) rfl
  have h2 := h1.setCell (s' := { s with a := { s.a with kind := a.kind, addr := a.addr } }) 46 (.int .u32 a.addr) rfl
  have h3 := h2.setCell (s' := { s with a := { s.a with kind := a.kind, addr := a.addr, width := a.width } }) 47 (.int .i64 a.width) rfl
  have h4 := h3.setCell (s' := { s with a := { s.a with kind := a.kind, addr := a.addr, width := a.width, value := a.value } }) 48 (.int .u32 a.value) rfl
  have h5 := h4.setCell (s' := { s with a := { s.a with kind := a.kind, addr := a.addr, width := a.width, value := a.value, op := a.op } }) 49 (.int .i64 a.op) rfl
  have h6 := h5.setCell (s' := { s with a := { s.a with kind := a.kind, addr := a.addr, width := a.width, value := a.value, op := a.op, aq := a.aq } }) 50 (.bool a.aq) rfl
  have h7 := h6.setCell (s' := { s with a := a }) 51 (.bool a.rl) rfl
  ⟨h7, ((((((((Oth.refl p W).setCell _ _).setCell _ _).setCell _ _).setCell _ _).setCell _ _).setCell _ _).setCell _ _)⟩
theorem m11 (s : S) (p : Nat) (w : World) (hs : Stp w p s) (hop : s.i.op = 11) (hA : s.a = A0) (K : GoodS s) : Means 121 p w s := by
  have hw : whyS s = if Ar.add s.first s.i.imm % 1 ≠ 0 then 3 else if s.size < Ar.add s.first s.i.imm + 1 then 4 else 0 := why_mem s hop (by decide) (by decide) (by decide) (by decide) (fun _ _ => rfl)
  have ha : after s = S.put { s with a := ⟨1, Ar.add s.first s.i.imm, 1, 0, 0, s.i.aq, s.i.rl⟩ } (Ar.ext (low s.tv 1) 8) := by
    obtain ⟨o1, o2⟩ := K.ord (by omega)
    clear K hs hw
    obtain ⟨h, ⟨op, rd, rs1, rs2, imm, aq, rl⟩, size, tv, tok, a, nx⟩ := s
    simp only at hop hA o1 o2
    subst hop hA o1 o2
    rfl
  rw [Means, hw, ha]
  have HS := Lib.hid hs; have HOP := Lib.hid hop; have HA := Lib.hid hA; clear hs hw ha hop hA
  by_cases h3 : Ar.add s.first s.i.imm % 1 = 0
  · rw [if_neg (fun h => h h3)]
    by_cases h4 : s.size < Ar.add s.first s.i.imm + 1
    · rw [if_pos h4]
      refine ⟨fun h => (by cases h), fun _ => ?_⟩
      have H3 := Lib.hid h3; have H4 := Lib.hid h4; clear h3 h4
      go_enter Tryz.func121, Tryz.ntmps121
      go_wp2_with fail
      refine (load_h41 s p _ HS.out K.rs1 K.size H3.out H4.out).mono ?_
      rintro e w1 ⟨rfl, ho⟩
      have HO := Lib.hid ho; clear ho
      go_wp2
      exact ⟨rfl, rfl, HO.out⟩
    · rw [if_neg h4]
      refine ⟨fun _ => ?_, fun h => absurd rfl h⟩
      have H3 := Lib.hid h3; have H4 := Lib.hid (show Ar.add s.first s.i.imm + 1 ≤ s.size by omega); clear h3 h4
      go_enter Tryz.func121, Tryz.ntmps121
      go_wp2_with fail
      refine (load_s1 s p _ HS.out K.rs1 K.size K.tv H3.out H4.out).mono ?_
      rintro e w1 ⟨rfl, hl⟩
      have HL1 := Lib.hid hl; clear hl
      go_wp2_with fail
      refine (extend_any _ _ (low_wd K.tv _) (by omega) _).mono ?_
      rintro e w2 ⟨rfl, rfl⟩
      go_wp2_with fail
      refine (put_s _ _ p _ HL1.out.1 K.rd).mono ?_
      rintro e w3 ⟨rfl, hl⟩
      have HL3 := Lib.hid (HL1.out.trans hl); clear hl
      go_wp2
      go_end0
      exact ⟨rfl, HL3.out⟩
  · exact absurd (show Ar.add s.first s.i.imm % 1 = 0 by omega) h3
theorem m12 (s : S) (p : Nat) (w : World) (hs : Stp w p s) (hop : s.i.op = 12) (hA : s.a = A0) (K : GoodS s) : Means 124 p w s := by
  have hw : whyS s = if Ar.add s.first s.i.imm % 2 ≠ 0 then 3 else if s.size < Ar.add s.first s.i.imm + 2 then 4 else 0 := why_mem s hop (by decide) (by decide) (by decide) (by decide) (fun _ _ => rfl)
  have ha : after s = S.put { s with a := ⟨1, Ar.add s.first s.i.imm, 2, 0, 0, s.i.aq, s.i.rl⟩ } (Ar.ext (low s.tv 2) 16) := by
    obtain ⟨o1, o2⟩ := K.ord (by omega)
    clear K hs hw
    obtain ⟨h, ⟨op, rd, rs1, rs2, imm, aq, rl⟩, size, tv, tok, a, nx⟩ := s
    simp only at hop hA o1 o2
    subst hop hA o1 o2
    rfl
  rw [Means, hw, ha]
  have HS := Lib.hid hs; have HOP := Lib.hid hop; have HA := Lib.hid hA; clear hs hw ha hop hA
  by_cases h3 : Ar.add s.first s.i.imm % 2 = 0
  · rw [if_neg (fun h => h h3)]
    by_cases h4 : s.size < Ar.add s.first s.i.imm + 2
    · rw [if_pos h4]
      refine ⟨fun h => (by cases h), fun _ => ?_⟩
      have H3 := Lib.hid h3; have H4 := Lib.hid h4; clear h3 h4
      go_enter Tryz.func124, Tryz.ntmps124
      go_wp2_with fail
      refine (load_h42 s p _ HS.out K.rs1 K.size H3.out H4.out).mono ?_
      rintro e w1 ⟨rfl, ho⟩
      have HO := Lib.hid ho; clear ho
      go_wp2
      exact ⟨rfl, rfl, HO.out⟩
    · rw [if_neg h4]
      refine ⟨fun _ => ?_, fun h => absurd rfl h⟩
      have H3 := Lib.hid h3; have H4 := Lib.hid (show Ar.add s.first s.i.imm + 2 ≤ s.size by omega); clear h3 h4
      go_enter Tryz.func124, Tryz.ntmps124
      go_wp2_with fail
      refine (load_s2 s p _ HS.out K.rs1 K.size K.tv H3.out H4.out).mono ?_
      rintro e w1 ⟨rfl, hl⟩
      have HL1 := Lib.hid hl; clear hl
      go_wp2_with fail
      refine (extend_any _ _ (low_wd K.tv _) (by omega) _).mono ?_
      rintro e w2 ⟨rfl, rfl⟩
      go_wp2_with fail
      refine (put_s _ _ p _ HL1.out.1 K.rd).mono ?_
      rintro e w3 ⟨rfl, hl⟩
      have HL3 := Lib.hid (HL1.out.trans hl); clear hl
      go_wp2
      go_end0
      exact ⟨rfl, HL3.out⟩
  · rw [if_pos h3]
    refine ⟨fun h => (by cases h), fun _ => ?_⟩
    have H3 := Lib.hid h3; clear h3
    go_enter Tryz.func124, Tryz.ntmps124
    go_wp2_with fail
    refine (load_h32 s p _ HS.out K.rs1 K.size H3.out).mono ?_
    rintro e w1 ⟨rfl, ho⟩
    have HO := Lib.hid ho; clear ho
    go_wp2
    exact ⟨rfl, rfl, HO.out⟩
theorem m13 (s : S) (p : Nat) (w : World) (hs : Stp w p s) (hop : s.i.op = 13) (hA : s.a = A0) (K : GoodS s) : Means 125 p w s := by
  have hw : whyS s = if Ar.add s.first s.i.imm % 4 ≠ 0 then 3 else if s.size < Ar.add s.first s.i.imm + 4 then 4 else 0 := why_mem s hop (by decide) (by decide) (by decide) (by decide) (fun _ _ => rfl)
  have ha : after s = S.put { s with a := ⟨1, Ar.add s.first s.i.imm, 4, 0, 0, s.i.aq, s.i.rl⟩ } (low s.tv 4) := by
    obtain ⟨o1, o2⟩ := K.ord (by omega)
    clear K hs hw
    obtain ⟨h, ⟨op, rd, rs1, rs2, imm, aq, rl⟩, size, tv, tok, a, nx⟩ := s
    simp only at hop hA o1 o2
    subst hop hA o1 o2
    rfl
  rw [Means, hw, ha]
  have HS := Lib.hid hs; have HOP := Lib.hid hop; have HA := Lib.hid hA; clear hs hw ha hop hA
  by_cases h3 : Ar.add s.first s.i.imm % 4 = 0
  · rw [if_neg (fun h => h h3)]
    by_cases h4 : s.size < Ar.add s.first s.i.imm + 4
    · rw [if_pos h4]
      refine ⟨fun h => (by cases h), fun _ => ?_⟩
      have H3 := Lib.hid h3; have H4 := Lib.hid h4; clear h3 h4
      go_enter Tryz.func125, Tryz.ntmps125
      go_wp2_with fail
      refine (load_h44 s p _ HS.out K.rs1 K.size H3.out H4.out).mono ?_
      rintro e w1 ⟨rfl, ho⟩
      have HO := Lib.hid ho; clear ho
      go_wp2
      exact ⟨rfl, rfl, HO.out⟩
    · rw [if_neg h4]
      refine ⟨fun _ => ?_, fun h => absurd rfl h⟩
      have H3 := Lib.hid h3; have H4 := Lib.hid (show Ar.add s.first s.i.imm + 4 ≤ s.size by omega); clear h3 h4
      go_enter Tryz.func125, Tryz.ntmps125
      go_wp2_with fail
      refine (load_s4 s p _ HS.out K.rs1 K.size K.tv H3.out H4.out).mono ?_
      rintro e w1 ⟨rfl, hl⟩
      have HL1 := Lib.hid hl; clear hl
      go_wp2_with fail
      refine (put_s _ _ p _ HL1.out.1 K.rd).mono ?_
      rintro e w3 ⟨rfl, hl⟩
      have HL3 := Lib.hid (HL1.out.trans hl); clear hl
      go_wp2
      go_end0
      exact ⟨rfl, HL3.out⟩
  · rw [if_pos h3]
    refine ⟨fun h => (by cases h), fun _ => ?_⟩
    have H3 := Lib.hid h3; clear h3
    go_enter Tryz.func125, Tryz.ntmps125
    go_wp2_with fail
    refine (load_h34 s p _ HS.out K.rs1 K.size H3.out).mono ?_
    rintro e w1 ⟨rfl, ho⟩
    have HO := Lib.hid ho; clear ho
    go_wp2
    exact ⟨rfl, rfl, HO.out⟩
theorem m14 (s : S) (p : Nat) (w : World) (hs : Stp w p s) (hop : s.i.op = 14) (hA : s.a = A0) (K : GoodS s) : Means 126 p w s := by
  have hw : whyS s = if Ar.add s.first s.i.imm % 1 ≠ 0 then 3 else if s.size < Ar.add s.first s.i.imm + 1 then 4 else 0 := why_mem s hop (by decide) (by decide) (by decide) (by decide) (fun _ _ => rfl)
  have ha : after s = S.put { s with a := ⟨1, Ar.add s.first s.i.imm, 1, 0, 0, s.i.aq, s.i.rl⟩ } (low s.tv 1) := by
    obtain ⟨o1, o2⟩ := K.ord (by omega)
    clear K hs hw
    obtain ⟨h, ⟨op, rd, rs1, rs2, imm, aq, rl⟩, size, tv, tok, a, nx⟩ := s
    simp only at hop hA o1 o2
    subst hop hA o1 o2
    rfl
  rw [Means, hw, ha]
  have HS := Lib.hid hs; have HOP := Lib.hid hop; have HA := Lib.hid hA; clear hs hw ha hop hA
  by_cases h3 : Ar.add s.first s.i.imm % 1 = 0
  · rw [if_neg (fun h => h h3)]
    by_cases h4 : s.size < Ar.add s.first s.i.imm + 1
    · rw [if_pos h4]
      refine ⟨fun h => (by cases h), fun _ => ?_⟩
      have H3 := Lib.hid h3; have H4 := Lib.hid h4; clear h3 h4
      go_enter Tryz.func126, Tryz.ntmps126
      go_wp2_with fail
      refine (load_h41 s p _ HS.out K.rs1 K.size H3.out H4.out).mono ?_
      rintro e w1 ⟨rfl, ho⟩
      have HO := Lib.hid ho; clear ho
      go_wp2
      exact ⟨rfl, rfl, HO.out⟩
    · rw [if_neg h4]
      refine ⟨fun _ => ?_, fun h => absurd rfl h⟩
      have H3 := Lib.hid h3; have H4 := Lib.hid (show Ar.add s.first s.i.imm + 1 ≤ s.size by omega); clear h3 h4
      go_enter Tryz.func126, Tryz.ntmps126
      go_wp2_with fail
      refine (load_s1 s p _ HS.out K.rs1 K.size K.tv H3.out H4.out).mono ?_
      rintro e w1 ⟨rfl, hl⟩
      have HL1 := Lib.hid hl; clear hl
      go_wp2_with fail
      refine (put_s _ _ p _ HL1.out.1 K.rd).mono ?_
      rintro e w3 ⟨rfl, hl⟩
      have HL3 := Lib.hid (HL1.out.trans hl); clear hl
      go_wp2
      go_end0
      exact ⟨rfl, HL3.out⟩
  · exact absurd (show Ar.add s.first s.i.imm % 1 = 0 by omega) h3
theorem m15 (s : S) (p : Nat) (w : World) (hs : Stp w p s) (hop : s.i.op = 15) (hA : s.a = A0) (K : GoodS s) : Means 127 p w s := by
  have hw : whyS s = if Ar.add s.first s.i.imm % 2 ≠ 0 then 3 else if s.size < Ar.add s.first s.i.imm + 2 then 4 else 0 := why_mem s hop (by decide) (by decide) (by decide) (by decide) (fun _ _ => rfl)
  have ha : after s = S.put { s with a := ⟨1, Ar.add s.first s.i.imm, 2, 0, 0, s.i.aq, s.i.rl⟩ } (low s.tv 2) := by
    obtain ⟨o1, o2⟩ := K.ord (by omega)
    clear K hs hw
    obtain ⟨h, ⟨op, rd, rs1, rs2, imm, aq, rl⟩, size, tv, tok, a, nx⟩ := s
    simp only at hop hA o1 o2
    subst hop hA o1 o2
    rfl
  rw [Means, hw, ha]
  have HS := Lib.hid hs; have HOP := Lib.hid hop; have HA := Lib.hid hA; clear hs hw ha hop hA
  by_cases h3 : Ar.add s.first s.i.imm % 2 = 0
  · rw [if_neg (fun h => h h3)]
    by_cases h4 : s.size < Ar.add s.first s.i.imm + 2
    · rw [if_pos h4]
      refine ⟨fun h => (by cases h), fun _ => ?_⟩
      have H3 := Lib.hid h3; have H4 := Lib.hid h4; clear h3 h4
      go_enter Tryz.func127, Tryz.ntmps127
      go_wp2_with fail
      refine (load_h42 s p _ HS.out K.rs1 K.size H3.out H4.out).mono ?_
      rintro e w1 ⟨rfl, ho⟩
      have HO := Lib.hid ho; clear ho
      go_wp2
      exact ⟨rfl, rfl, HO.out⟩
    · rw [if_neg h4]
      refine ⟨fun _ => ?_, fun h => absurd rfl h⟩
      have H3 := Lib.hid h3; have H4 := Lib.hid (show Ar.add s.first s.i.imm + 2 ≤ s.size by omega); clear h3 h4
      go_enter Tryz.func127, Tryz.ntmps127
      go_wp2_with fail
      refine (load_s2 s p _ HS.out K.rs1 K.size K.tv H3.out H4.out).mono ?_
      rintro e w1 ⟨rfl, hl⟩
      have HL1 := Lib.hid hl; clear hl
      go_wp2_with fail
      refine (put_s _ _ p _ HL1.out.1 K.rd).mono ?_
      rintro e w3 ⟨rfl, hl⟩
      have HL3 := Lib.hid (HL1.out.trans hl); clear hl
      go_wp2
      go_end0
      exact ⟨rfl, HL3.out⟩
  · rw [if_pos h3]
    refine ⟨fun h => (by cases h), fun _ => ?_⟩
    have H3 := Lib.hid h3; clear h3
    go_enter Tryz.func127, Tryz.ntmps127
    go_wp2_with fail
    refine (load_h32 s p _ HS.out K.rs1 K.size H3.out).mono ?_
    rintro e w1 ⟨rfl, ho⟩
    have HO := Lib.hid ho; clear ho
    go_wp2
    exact ⟨rfl, rfl, HO.out⟩
theorem m16 (s : S) (p : Nat) (w : World) (hs : Stp w p s) (hop : s.i.op = 16) (hA : s.a = A0) (K : GoodS s) : Means 128 p w s := by
  have hw : whyS s = if Ar.add s.first s.i.imm % 1 ≠ 0 then 3 else if s.size < Ar.add s.first s.i.imm + 1 then 4 else 0 := why_mem s hop (by decide) (by decide) (by decide) (by decide) (fun _ _ => rfl)
  have ha : after s = { s with a := ⟨2, Ar.add s.first s.i.imm, 1, low s.second 1, 0, s.i.aq, s.i.rl⟩ } := by
    obtain ⟨o1, o2⟩ := K.ord (by omega)
    clear K hs hw
    obtain ⟨h, ⟨op, rd, rs1, rs2, imm, aq, rl⟩, size, tv, tok, a, nx⟩ := s
    simp only at hop hA o1 o2
    subst hop hA o1 o2
    rfl
  rw [Means, hw, ha]
  have HS := Lib.hid hs; have HOP := Lib.hid hop; have HA := Lib.hid hA; clear hs hw ha hop hA
  by_cases h3 : Ar.add s.first s.i.imm % 1 = 0
  · rw [if_neg (fun h => h h3)]
    by_cases h4 : s.size < Ar.add s.first s.i.imm + 1
    · rw [if_pos h4]
      refine ⟨fun h => (by cases h), fun _ => ?_⟩
      have H3 := Lib.hid h3; have H4 := Lib.hid h4; clear h3 h4
      go_enter Tryz.func128, Tryz.ntmps128
      go_wp2_with fail
      refine (store_h41 s 2 p _ HS.out K.rs1 K.size H3.out H4.out).mono ?_
      rintro e w1 ⟨rfl, ho⟩
      have HO := Lib.hid ho; clear ho
      go_wp2
      exact ⟨rfl, rfl, HO.out⟩
    · rw [if_neg h4]
      refine ⟨fun _ => ?_, fun h => absurd rfl h⟩
      have H3 := Lib.hid h3; have H4 := Lib.hid (show Ar.add s.first s.i.imm + 1 ≤ s.size by omega); clear h3 h4
      go_enter Tryz.func128, Tryz.ntmps128
      go_wp2_with fail
      refine (store_s1 s 2 p _ HS.out K.rs1 K.rs2 K.size (K.R _) H3.out H4.out).mono ?_
      rintro e w1 ⟨rfl, hl⟩
      have HL1 := Lib.hid hl; clear hl
      go_wp2
      go_end0
      exact ⟨rfl, HL1.out⟩
  · exact absurd (show Ar.add s.first s.i.imm % 1 = 0 by omega) h3
theorem m17 (s : S) (p : Nat) (w : World) (hs : Stp w p s) (hop : s.i.op = 17) (hA : s.a = A0) (K : GoodS s) : Means 130 p w s := by
  have hw : whyS s = if Ar.add s.first s.i.imm % 2 ≠ 0 then 3 else if s.size < Ar.add s.first s.i.imm + 2 then 4 else 0 := why_mem s hop (by decide) (by decide) (by decide) (by decide) (fun _ _ => rfl)
  have ha : after s = { s with a := ⟨2, Ar.add s.first s.i.imm, 2, low s.second 2, 0, s.i.aq, s.i.rl⟩ } := by
    obtain ⟨o1, o2⟩ := K.ord (by omega)
    clear K hs hw
    obtain ⟨h, ⟨op, rd, rs1, rs2, imm, aq, rl⟩, size, tv, tok, a, nx⟩ := s
    simp only at hop hA o1 o2
    subst hop hA o1 o2
    rfl
  rw [Means, hw, ha]
  have HS := Lib.hid hs; have HOP := Lib.hid hop; have HA := Lib.hid hA; clear hs hw ha hop hA
  by_cases h3 : Ar.add s.first s.i.imm % 2 = 0
  · rw [if_neg (fun h => h h3)]
    by_cases h4 : s.size < Ar.add s.first s.i.imm + 2
    · rw [if_pos h4]
      refine ⟨fun h => (by cases h), fun _ => ?_⟩
      have H3 := Lib.hid h3; have H4 := Lib.hid h4; clear h3 h4
      go_enter Tryz.func130, Tryz.ntmps130
      go_wp2_with fail
      refine (store_h42 s 2 p _ HS.out K.rs1 K.size H3.out H4.out).mono ?_
      rintro e w1 ⟨rfl, ho⟩
      have HO := Lib.hid ho; clear ho
      go_wp2
      exact ⟨rfl, rfl, HO.out⟩
    · rw [if_neg h4]
      refine ⟨fun _ => ?_, fun h => absurd rfl h⟩
      have H3 := Lib.hid h3; have H4 := Lib.hid (show Ar.add s.first s.i.imm + 2 ≤ s.size by omega); clear h3 h4
      go_enter Tryz.func130, Tryz.ntmps130
      go_wp2_with fail
      refine (store_s2 s 2 p _ HS.out K.rs1 K.rs2 K.size (K.R _) H3.out H4.out).mono ?_
      rintro e w1 ⟨rfl, hl⟩
      have HL1 := Lib.hid hl; clear hl
      go_wp2
      go_end0
      exact ⟨rfl, HL1.out⟩
  · rw [if_pos h3]
    refine ⟨fun h => (by cases h), fun _ => ?_⟩
    have H3 := Lib.hid h3; clear h3
    go_enter Tryz.func130, Tryz.ntmps130
    go_wp2_with fail
    refine (store_h32 s 2 p _ HS.out K.rs1 K.size H3.out).mono ?_
    rintro e w1 ⟨rfl, ho⟩
    have HO := Lib.hid ho; clear ho
    go_wp2
    exact ⟨rfl, rfl, HO.out⟩
theorem m18 (s : S) (p : Nat) (w : World) (hs : Stp w p s) (hop : s.i.op = 18) (hA : s.a = A0) (K : GoodS s) : Means 131 p w s := by
  have hw : whyS s = if Ar.add s.first s.i.imm % 4 ≠ 0 then 3 else if s.size < Ar.add s.first s.i.imm + 4 then 4 else 0 := why_mem s hop (by decide) (by decide) (by decide) (by decide) (fun _ _ => rfl)
  have ha : after s = { s with a := ⟨2, Ar.add s.first s.i.imm, 4, low s.second 4, 0, s.i.aq, s.i.rl⟩ } := by
    obtain ⟨o1, o2⟩ := K.ord (by omega)
    clear K hs hw
    obtain ⟨h, ⟨op, rd, rs1, rs2, imm, aq, rl⟩, size, tv, tok, a, nx⟩ := s
    simp only at hop hA o1 o2
    subst hop hA o1 o2
    rfl
  rw [Means, hw, ha]
  have HS := Lib.hid hs; have HOP := Lib.hid hop; have HA := Lib.hid hA; clear hs hw ha hop hA
  by_cases h3 : Ar.add s.first s.i.imm % 4 = 0
  · rw [if_neg (fun h => h h3)]
    by_cases h4 : s.size < Ar.add s.first s.i.imm + 4
    · rw [if_pos h4]
      refine ⟨fun h => (by cases h), fun _ => ?_⟩
      have H3 := Lib.hid h3; have H4 := Lib.hid h4; clear h3 h4
      go_enter Tryz.func131, Tryz.ntmps131
      go_wp2_with fail
      refine (store_h44 s 2 p _ HS.out K.rs1 K.size H3.out H4.out).mono ?_
      rintro e w1 ⟨rfl, ho⟩
      have HO := Lib.hid ho; clear ho
      go_wp2
      exact ⟨rfl, rfl, HO.out⟩
    · rw [if_neg h4]
      refine ⟨fun _ => ?_, fun h => absurd rfl h⟩
      have H3 := Lib.hid h3; have H4 := Lib.hid (show Ar.add s.first s.i.imm + 4 ≤ s.size by omega); clear h3 h4
      go_enter Tryz.func131, Tryz.ntmps131
      go_wp2_with fail
      refine (store_s4 s 2 p _ HS.out K.rs1 K.rs2 K.size (K.R _) H3.out H4.out).mono ?_
      rintro e w1 ⟨rfl, hl⟩
      have HL1 := Lib.hid hl; clear hl
      go_wp2
      go_end0
      exact ⟨rfl, HL1.out⟩
  · rw [if_pos h3]
    refine ⟨fun h => (by cases h), fun _ => ?_⟩
    have H3 := Lib.hid h3; clear h3
    go_enter Tryz.func131, Tryz.ntmps131
    go_wp2_with fail
    refine (store_h34 s 2 p _ HS.out K.rs1 K.size H3.out).mono ?_
    rintro e w1 ⟨rfl, ho⟩
    have HO := Lib.hid ho; clear ho
    go_wp2
    exact ⟨rfl, rfl, HO.out⟩
theorem m48 (s : S) (p : Nat) (w : World) (hs : Stp w p s) (hop : s.i.op = 48) (hA : s.a = A0) (K : GoodS s) : Means 177 p w s := by
  have hw : whyS s = if Ar.add s.first s.i.imm % 4 ≠ 0 then 3 else if s.size < Ar.add s.first s.i.imm + 4 then 4 else 0 := why_mem s hop (by decide) (by decide) (by decide) (by decide) (fun _ _ => rfl)
  have ha : after s = S.put { s with a := ⟨3, Ar.add s.first s.i.imm, 4, 0, 0, s.i.aq, s.i.rl⟩ } s.tv := by
    obtain ⟨h, ⟨op, rd, rs1, rs2, imm, aq, rl⟩, size, tv, tok, a, nx⟩ := s
    simp only at hop hA
    subst hop hA
    rfl
  rw [Means, hw, ha]
  have HS := Lib.hid hs; have HOP := Lib.hid hop; have HA := Lib.hid hA; clear hs hw ha hop hA
  by_cases h3 : Ar.add s.first s.i.imm % 4 = 0
  · rw [if_neg (fun h => h h3)]
    by_cases h4 : s.size < Ar.add s.first s.i.imm + 4
    · rw [if_pos h4]
      refine ⟨fun h => (by cases h), fun _ => ?_⟩
      have H3 := Lib.hid h3; have H4 := Lib.hid h4; clear h3 h4
      go_enter Tryz.func177, Tryz.ntmps177
      go_wp2_with fail
      refine (reach_h44 s 3 p _ HS.out K.rs1 K.size H3.out H4.out).mono ?_
      rintro e w1 ⟨rfl, ho⟩
      have HO := Lib.hid ho; clear ho
      go_wp2
      exact ⟨rfl, rfl, HO.out⟩
    · rw [if_neg h4]
      refine ⟨fun _ => ?_, fun h => absurd rfl h⟩
      have H3 := Lib.hid h3; have H4 := Lib.hid (show Ar.add s.first s.i.imm + 4 ≤ s.size by omega); clear h3 h4
      go_enter Tryz.func177, Tryz.ntmps177
      go_wp2_with fail
      refine (reach_s4 s 3 p _ HS.out K.rs1 K.size H3.out H4.out).mono ?_
      rintro e w1 ⟨rfl, hl⟩
      have c1 : w1.cell? ⟨p, 43, none⟩ = some (.int .u32 s.tv) := hl.1.cell 43
      have HL1 := Lib.hid hl; clear hl
      go_wp2_with fail
      refine (put_s _ _ p _ HL1.out.1 K.rd).mono ?_
      rintro e w3 ⟨rfl, hl⟩
      have HL3 := Lib.hid (HL1.out.trans hl); clear hl
      go_wp2
      go_end0
      exact ⟨rfl, HL3.out⟩
  · rw [if_pos h3]
    refine ⟨fun h => (by cases h), fun _ => ?_⟩
    have H3 := Lib.hid h3; clear h3
    go_enter Tryz.func177, Tryz.ntmps177
    go_wp2_with fail
    refine (reach_h34 s 3 p _ HS.out K.rs1 K.size H3.out).mono ?_
    rintro e w1 ⟨rfl, ho⟩
    have HO := Lib.hid ho; clear ho
    go_wp2
    exact ⟨rfl, rfl, HO.out⟩
theorem m49 (s : S) (p : Nat) (w : World) (hs : Stp w p s) (hop : s.i.op = 49) (hA : s.a = A0) (K : GoodS s) : Means 179 p w s := by
  have hw : whyS s = if Ar.add s.first s.i.imm % 4 ≠ 0 then 3 else if s.size < Ar.add s.first s.i.imm + 4 then 4 else 0 := why_mem s hop (by decide) (by decide) (by decide) (by decide) (fun _ _ => rfl)
  have ha : after s = S.put { s with a := ⟨4, Ar.add s.first s.i.imm, 4, s.second, 0, s.i.aq, s.i.rl⟩ } (b01 (!s.tok)) := by
    obtain ⟨h, ⟨op, rd, rs1, rs2, imm, aq, rl⟩, size, tv, tok, a, nx⟩ := s
    simp only at hop hA
    subst hop hA
    rfl
  rw [Means, hw, ha]
  have HS := Lib.hid hs; have HOP := Lib.hid hop; have HA := Lib.hid hA; clear hs hw ha hop hA
  by_cases h3 : Ar.add s.first s.i.imm % 4 = 0
  · rw [if_neg (fun h => h h3)]
    by_cases h4 : s.size < Ar.add s.first s.i.imm + 4
    · rw [if_pos h4]
      refine ⟨fun h => (by cases h), fun _ => ?_⟩
      have H3 := Lib.hid h3; have H4 := Lib.hid h4; clear h3 h4
      go_enter Tryz.func179, Tryz.ntmps179
      go_wp2_with fail
      refine (store_h44 s 4 p _ HS.out K.rs1 K.size H3.out H4.out).mono ?_
      rintro e w1 ⟨rfl, ho⟩
      have HO := Lib.hid ho; clear ho
      go_wp2
      exact ⟨rfl, rfl, HO.out⟩
    · rw [if_neg h4]
      refine ⟨fun _ => ?_, fun h => absurd rfl h⟩
      have H3 := Lib.hid h3; have H4 := Lib.hid (show Ar.add s.first s.i.imm + 4 ≤ s.size by omega); clear h3 h4
      go_enter Tryz.func179, Tryz.ntmps179
      go_wp2_with fail
      refine (store_s4 s 4 p _ HS.out K.rs1 K.rs2 K.size (K.R _) H3.out H4.out).mono ?_
      rintro e w1 ⟨rfl, hl⟩
      have c1 : w1.cell? ⟨p, 44, none⟩ = some (.bool s.tok) := hl.1.cell 44
      have HL1 := Lib.hid hl; clear hl
      go_wp2_with fail
      refine (hbit_any _ _).mono ?_
      rintro e w2 ⟨rfl, rfl⟩
      go_wp2_with fail
      refine (put_s _ _ p _ HL1.out.1 K.rd).mono ?_
      rintro e w3 ⟨rfl, hl⟩
      have HL3 := Lib.hid (HL1.out.trans hl); clear hl
      go_wp2
      go_end0
      exact ⟨rfl, HL3.out⟩
  · rw [if_pos h3]
    refine ⟨fun h => (by cases h), fun _ => ?_⟩
    have H3 := Lib.hid h3; clear h3
    go_enter Tryz.func179, Tryz.ntmps179
    go_wp2_with fail
    refine (store_h34 s 4 p _ HS.out K.rs1 K.size H3.out).mono ?_
    rintro e w1 ⟨rfl, ho⟩
    have HO := Lib.hid ho; clear ho
    go_wp2
    exact ⟨rfl, rfl, HO.out⟩
theorem mamo (s : S) (p : Nat) (w : World) (hs : Stp w p s) (hop : 50 ≤ s.i.op ∧ s.i.op ≤ 58) (hA : s.a = A0) (K : GoodS s) : Means 86 p w s := by
  have hw : whyS s = if Ar.add s.first s.i.imm % 4 ≠ 0 then 3 else if s.size < Ar.add s.first s.i.imm + 4 then 4 else 0 := why_amo s hop
  have ha : after s = S.put { s with a := ⟨5, Ar.add s.first s.i.imm, 4, s.second, s.i.op, s.i.aq, s.i.rl⟩ } s.tv := after_amo s hop
  rw [Means, hw, ha]
  have HS := Lib.hid hs; have HOP := Lib.hid hop; have HA := Lib.hid hA; clear hs hw ha hop hA
  by_cases h3 : Ar.add s.first s.i.imm % 4 = 0
  · rw [if_neg (fun h => h h3)]
    by_cases h4 : s.size < Ar.add s.first s.i.imm + 4
    · rw [if_pos h4]
      refine ⟨fun h => (by cases h), fun _ => ?_⟩
      have H3 := Lib.hid h3; have H4 := Lib.hid h4; clear h3 h4
      go_enter Tryz.func86, Tryz.ntmps86
      go_wp2_with fail
      refine (store_h44 s 5 p _ HS.out K.rs1 K.size H3.out H4.out).mono ?_
      rintro e w1 ⟨rfl, ho⟩
      have HO := Lib.hid ho; clear ho
      go_wp2
      exact ⟨rfl, rfl, HO.out⟩
    · rw [if_neg h4]
      refine ⟨fun _ => ?_, fun h => absurd rfl h⟩
      have H3 := Lib.hid h3; have H4 := Lib.hid (show Ar.add s.first s.i.imm + 4 ≤ s.size by omega); clear h3 h4
      go_enter Tryz.func86, Tryz.ntmps86
      go_wp2_with fail
      refine (store_s4 s 5 p _ HS.out K.rs1 K.rs2 K.size (K.R _) H3.out H4.out).mono ?_
      rintro e w1 ⟨rfl, hl⟩
      have c1 : w1.cell? ⟨p, 35, none⟩ = some (.int .i64 s.i.op) := hl.1.cell 35
      have c2 : w1.cell? ⟨p, 49, none⟩ = some (.int .i64 0) := hl.1.cell 49
      have c3 : w1.cell? ⟨p, 43, none⟩ = some (.int .u32 s.tv) := hl.1.cell 43
      have c4 := hl.1.free 49
      have HL1 := Lib.hid hl; clear hl
      go_wp2_with fail
      refine (put_s { s with a := ⟨5, Ar.add s.first s.i.imm, 4, s.second, s.i.op, s.i.aq, s.i.rl⟩ } _ p _ (HL1.out.1.setCell 49 _ rfl) K.rd).mono ?_
      rintro e w3 ⟨rfl, hl⟩
      have HL3 := Lib.hid (Lv.trans ⟨HL1.out.1.setCell (s' := { s with a := ⟨5, Ar.add s.first s.i.imm, 4, s.second, s.i.op, s.i.aq, s.i.rl⟩ }) 49 _ rfl, HL1.out.2.setCell 49 _⟩ hl); clear hl
      go_wp2
      go_end0
      exact ⟨rfl, HL3.out⟩
  · rw [if_pos h3]
    refine ⟨fun h => (by cases h), fun _ => ?_⟩
    have H3 := Lib.hid h3; clear h3
    go_enter Tryz.func86, Tryz.ntmps86
    go_wp2_with fail
    refine (store_h34 s 5 p _ HS.out K.rs1 K.size H3.out).mono ?_
    rintro e w1 ⟨rfl, ho⟩
    have HO := Lib.hid ho; clear ho
    go_wp2
    exact ⟨rfl, rfl, HO.out⟩
end Go.Proofs.YtianojbdabeoeaaGreatDoor
