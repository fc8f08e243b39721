/-
  A step's loads and stores.
-/
import Derived.Test.YtianojbdabeoeaaGreatDoorHtReach
namespace Go.Proofs.YtianojbdabeoeaaGreatDoor
open Go.RowKit Ht
set_option linter.unusedVariables false
theorem load_s1 (s : S) (p : Nat) (w : World) (hs : Stp w p s) (h1 : s.i.rs1 ≤ 31) (hz : -9223372036854775808 ≤ s.size ∧ s.size ≤ 9223372036854775807) (ht : Ar.Wd s.tv)
    (ha : Ar.add s.first s.i.imm % 1 = 0) (hb : Ar.add s.first s.i.imm + 1 ≤ s.size) :
    Calls Tryz.prog 123 #[.pointer (some ⟨p, 0, none⟩), .int .i64 1] w fun e w' => e = .returned (.int .u32 (low s.tv 1)) ∧
      Lv p w w' { s with a := ⟨1, Ar.add s.first s.i.imm, 1, 0, 0, s.i.aq, s.i.rl⟩ } := by
  have HS := Lib.hid hs; have HA := Lib.hid ha; have HB := Lib.hid hb; have HZ := Lib.hid hz; have HT := Lib.hid ht; clear hs ha hb hz ht
  go_enter Tryz.func123, Tryz.ntmps123
  go_wp2_with fail
  refine (reach_s1 s 1 p _ HS.out h1 HZ.out HA.out HB.out).mono ?_
  rintro e w1 ⟨rfl, hl⟩
  have c := hl.1.cell 43
  have c1 : w1.cell? ⟨p, 43, none⟩ = some (.int .u32 s.tv) := c
  have HL := Lib.hid hl; clear hl c
  go_wp2_with fail
  refine (lowest_any s.tv 1 (by omega) HT.out _).mono ?_
  rintro e w2 ⟨rfl, rfl⟩
  go_wp2
  go_ret
  exact ⟨rfl, HL.out⟩
theorem store_s1 (s : S) (kd : Int) (p : Nat) (w : World) (hs : Stp w p s) (h1 : s.i.rs1 ≤ 31) (h2 : s.i.rs2 ≤ 31) (hz : -9223372036854775808 ≤ s.size ∧ s.size ≤ 9223372036854775807) (ht : Ar.Wd s.second)
    (ha : Ar.add s.first s.i.imm % 1 = 0) (hb : Ar.add s.first s.i.imm + 1 ≤ s.size) :
    Calls Tryz.prog 129 #[.pointer (some ⟨p, 0, none⟩), .int .i64 kd, .int .i64 1] w fun e w' => e = .returned (.tuple #[]) ∧
      Lv p w w' { s with a := ⟨kd, Ar.add s.first s.i.imm, 1, low s.second 1, 0, s.i.aq, s.i.rl⟩ } := by
  have HS := Lib.hid hs; have HA := Lib.hid ha; have HB := Lib.hid hb; have HZ := Lib.hid hz; have HT := Lib.hid ht; clear hs ha hb hz ht
  go_enter Tryz.func129, Tryz.ntmps129
  go_wp2_with fail
  refine (reach_s1 s kd p _ HS.out h1 HZ.out HA.out HB.out).mono ?_
  rintro e w1 ⟨rfl, hl⟩
  have HL := Lib.hid hl; clear hl
  go_wp2_with fail
  refine (second_s _ p _ HL.out.1 h2).mono ?_
  rintro e w2 ⟨rfl, hl⟩
  have HL2 := Lib.hid (HL.out.trans hl); clear hl
  go_wp2_with fail
  refine (lowest_any s.second 1 (by omega) HT.out _).mono ?_
  rintro e w3 ⟨rfl, rfl⟩
  have c1 : w2.cell? ⟨p, 48, none⟩ = some (.int .u32 0) := HL2.out.1.cell 48
  have c2 := HL2.out.1.free 48
  go_wp2
  go_end0
  exact ⟨rfl, HL2.out.1.setCell 48 _ rfl, HL2.out.2.setCell _ _⟩
theorem load_h41 (s : S) (p : Nat) (w : World) (hs : Stp w p s) (h1 : s.i.rs1 ≤ 31) (hz : -9223372036854775808 ≤ s.size ∧ s.size ≤ 9223372036854775807)
    (ha : Ar.add s.first s.i.imm % 1 = 0) (hb : s.size < Ar.add s.first s.i.imm + 1) :
    Calls Tryz.prog 123 #[.pointer (some ⟨p, 0, none⟩), .int .i64 1] w fun e w' => Halts 4 p w e w' := by
  have HS := Lib.hid hs; have HZ := Lib.hid hz; clear hs hz
  have HA := Lib.hid ha; have HB := Lib.hid hb; clear ha hb
  go_enter Tryz.func123, Tryz.ntmps123
  go_wp2_with fail
  refine (reach_h41 s 1 p _ HS.out h1 HZ.out HA.out HB.out).mono ?_
  rintro e w1 ⟨rfl, ho⟩
  have HO := Lib.hid ho; clear ho
  go_wp2
  exact ⟨rfl, rfl, HO.out⟩
theorem store_h41 (s : S) (kd : Int) (p : Nat) (w : World) (hs : Stp w p s) (h1 : s.i.rs1 ≤ 31) (hz : -9223372036854775808 ≤ s.size ∧ s.size ≤ 9223372036854775807)
    (ha : Ar.add s.first s.i.imm % 1 = 0) (hb : s.size < Ar.add s.first s.i.imm + 1) :
    Calls Tryz.prog 129 #[.pointer (some ⟨p, 0, none⟩), .int .i64 kd, .int .i64 1] w fun e w' => Halts 4 p w e w' := by
  have HS := Lib.hid hs; have HZ := Lib.hid hz; clear hs hz
  have HA := Lib.hid ha; have HB := Lib.hid hb; clear ha hb
  go_enter Tryz.func129, Tryz.ntmps129
  go_wp2_with fail
  refine (reach_h41 s kd p _ HS.out h1 HZ.out HA.out HB.out).mono ?_
  rintro e w1 ⟨rfl, ho⟩
  have HO := Lib.hid ho; clear ho
  go_wp2
  exact ⟨rfl, rfl, HO.out⟩
theorem load_s2 (s : S) (p : Nat) (w : World) (hs : Stp w p s) (h1 : s.i.rs1 ≤ 31) (hz : -9223372036854775808 ≤ s.size ∧ s.size ≤ 9223372036854775807) (ht : Ar.Wd s.tv)
    (ha : Ar.add s.first s.i.imm % 2 = 0) (hb : Ar.add s.first s.i.imm + 2 ≤ s.size) :
    Calls Tryz.prog 123 #[.pointer (some ⟨p, 0, none⟩), .int .i64 2] w fun e w' => e = .returned (.int .u32 (low s.tv 2)) ∧
      Lv p w w' { s with a := ⟨1, Ar.add s.first s.i.imm, 2, 0, 0, s.i.aq, s.i.rl⟩ } := by
  have HS := Lib.hid hs; have HA := Lib.hid ha; have HB := Lib.hid hb; have HZ := Lib.hid hz; have HT := Lib.hid ht; clear hs ha hb hz ht
  go_enter Tryz.func123, Tryz.ntmps123
  go_wp2_with fail
  refine (reach_s2 s 1 p _ HS.out h1 HZ.out HA.out HB.out).mono ?_
  rintro e w1 ⟨rfl, hl⟩
  have c := hl.1.cell 43
  have c1 : w1.cell? ⟨p, 43, none⟩ = some (.int .u32 s.tv) := c
  have HL := Lib.hid hl; clear hl c
  go_wp2_with fail
  refine (lowest_any s.tv 2 (by omega) HT.out _).mono ?_
  rintro e w2 ⟨rfl, rfl⟩
  go_wp2
  go_ret
  exact ⟨rfl, HL.out⟩
theorem store_s2 (s : S) (kd : Int) (p : Nat) (w : World) (hs : Stp w p s) (h1 : s.i.rs1 ≤ 31) (h2 : s.i.rs2 ≤ 31) (hz : -9223372036854775808 ≤ s.size ∧ s.size ≤ 9223372036854775807) (ht : Ar.Wd s.second)
    (ha : Ar.add s.first s.i.imm % 2 = 0) (hb : Ar.add s.first s.i.imm + 2 ≤ s.size) :
    Calls Tryz.prog 129 #[.pointer (some ⟨p, 0, none⟩), .int .i64 kd, .int .i64 2] w fun e w' => e = .returned (.tuple #[]) ∧
      Lv p w w' { s with a := ⟨kd, Ar.add s.first s.i.imm, 2, low s.second 2, 0, s.i.aq, s.i.rl⟩ } := by
  have HS := Lib.hid hs; have HA := Lib.hid ha; have HB := Lib.hid hb; have HZ := Lib.hid hz; have HT := Lib.hid ht; clear hs ha hb hz ht
  go_enter Tryz.func129, Tryz.ntmps129
  go_wp2_with fail
  refine (reach_s2 s kd p _ HS.out h1 HZ.out HA.out HB.out).mono ?_
  rintro e w1 ⟨rfl, hl⟩
  have HL := Lib.hid hl; clear hl
  go_wp2_with fail
  refine (second_s _ p _ HL.out.1 h2).mono ?_
  rintro e w2 ⟨rfl, hl⟩
  have HL2 := Lib.hid (HL.out.trans hl); clear hl
  go_wp2_with fail
  refine (lowest_any s.second 2 (by omega) HT.out _).mono ?_
  rintro e w3 ⟨rfl, rfl⟩
  have c1 : w2.cell? ⟨p, 48, none⟩ = some (.int .u32 0) := HL2.out.1.cell 48
  have c2 := HL2.out.1.free 48
  go_wp2
  go_end0
  exact ⟨rfl, HL2.out.1.setCell 48 _ rfl, HL2.out.2.setCell _ _⟩
theorem load_h32 (s : S) (p : Nat) (w : World) (hs : Stp w p s) (h1 : s.i.rs1 ≤ 31) (hz : -9223372036854775808 ≤ s.size ∧ s.size ≤ 9223372036854775807)
    (ha : Ar.add s.first s.i.imm % 2 ≠ 0) :
    Calls Tryz.prog 123 #[.pointer (some ⟨p, 0, none⟩), .int .i64 2] w fun e w' => Halts 3 p w e w' := by
  have HS := Lib.hid hs; have HZ := Lib.hid hz; clear hs hz
  have HA := Lib.hid ha; clear ha
  go_enter Tryz.func123, Tryz.ntmps123
  go_wp2_with fail
  refine (reach_h32 s 1 p _ HS.out h1 HZ.out HA.out).mono ?_
  rintro e w1 ⟨rfl, ho⟩
  have HO := Lib.hid ho; clear ho
  go_wp2
  exact ⟨rfl, rfl, HO.out⟩
theorem store_h32 (s : S) (kd : Int) (p : Nat) (w : World) (hs : Stp w p s) (h1 : s.i.rs1 ≤ 31) (hz : -9223372036854775808 ≤ s.size ∧ s.size ≤ 9223372036854775807)
    (ha : Ar.add s.first s.i.imm % 2 ≠ 0) :
    Calls Tryz.prog 129 #[.pointer (some ⟨p, 0, none⟩), .int .i64 kd, .int .i64 2] w fun e w' => Halts 3 p w e w' := by
  have HS := Lib.hid hs; have HZ := Lib.hid hz; clear hs hz
  have HA := Lib.hid ha; clear ha
  go_enter Tryz.func129, Tryz.ntmps129
  go_wp2_with fail
  refine (reach_h32 s kd p _ HS.out h1 HZ.out HA.out).mono ?_
  rintro e w1 ⟨rfl, ho⟩
  have HO := Lib.hid ho; clear ho
  go_wp2
  exact ⟨rfl, rfl, HO.out⟩
theorem load_h42 (s : S) (p : Nat) (w : World) (hs : Stp w p s) (h1 : s.i.rs1 ≤ 31) (hz : -9223372036854775808 ≤ s.size ∧ s.size ≤ 9223372036854775807)
    (ha : Ar.add s.first s.i.imm % 2 = 0) (hb : s.size < Ar.add s.first s.i.imm + 2) :
    Calls Tryz.prog 123 #[.pointer (some ⟨p, 0, none⟩), .int .i64 2] w fun e w' => Halts 4 p w e w' := by
  have HS := Lib.hid hs; have HZ := Lib.hid hz; clear hs hz
  have HA := Lib.hid ha; have HB := Lib.hid hb; clear ha hb
  go_enter Tryz.func123, Tryz.ntmps123
  go_wp2_with fail
  refine (reach_h42 s 1 p _ HS.out h1 HZ.out HA.out HB.out).mono ?_
  rintro e w1 ⟨rfl, ho⟩
  have HO := Lib.hid ho; clear ho
  go_wp2
  exact ⟨rfl, rfl, HO.out⟩
theorem store_h42 (s : S) (kd : Int) (p : Nat) (w : World) (hs : Stp w p s) (h1 : s.i.rs1 ≤ 31) (hz : -9223372036854775808 ≤ s.size ∧ s.size ≤ 9223372036854775807)
    (ha : Ar.add s.first s.i.imm % 2 = 0) (hb : s.size < Ar.add s.first s.i.imm + 2) :
    Calls Tryz.prog 129 #[.pointer (some ⟨p, 0, none⟩), .int .i64 kd, .int .i64 2] w fun e w' => Halts 4 p w e w' := by
  have HS := Lib.hid hs; have HZ := Lib.hid hz; clear hs hz
  have HA := Lib.hid ha; have HB := Lib.hid hb; clear ha hb
  go_enter Tryz.func129, Tryz.ntmps129
  go_wp2_with fail
  refine (reach_h42 s kd p _ HS.out h1 HZ.out HA.out HB.out).mono ?_
  rintro e w1 ⟨rfl, ho⟩
  have HO := Lib.hid ho; clear ho
  go_wp2
  exact ⟨rfl, rfl, HO.out⟩
theorem load_s4 (s : S) (p : Nat) (w : World) (hs : Stp w p s) (h1 : s.i.rs1 ≤ 31) (hz : -9223372036854775808 ≤ s.size ∧ s.size ≤ 9223372036854775807) (ht : Ar.Wd s.tv)
    (ha : Ar.add s.first s.i.imm % 4 = 0) (hb : Ar.add s.first s.i.imm + 4 ≤ s.size) :
    Calls Tryz.prog 123 #[.pointer (some ⟨p, 0, none⟩), .int .i64 4] w fun e w' => e = .returned (.int .u32 (low s.tv 4)) ∧
      Lv p w w' { s with a := ⟨1, Ar.add s.first s.i.imm, 4, 0, 0, s.i.aq, s.i.rl⟩ } := by
  have HS := Lib.hid hs; have HA := Lib.hid ha; have HB := Lib.hid hb; have HZ := Lib.hid hz; have HT := Lib.hid ht; clear hs ha hb hz ht
  go_enter Tryz.func123, Tryz.ntmps123
  go_wp2_with fail
  refine (reach_s4 s 1 p _ HS.out h1 HZ.out HA.out HB.out).mono ?_
  rintro e w1 ⟨rfl, hl⟩
  have c := hl.1.cell 43
  have c1 : w1.cell? ⟨p, 43, none⟩ = some (.int .u32 s.tv) := c
  have HL := Lib.hid hl; clear hl c
  go_wp2_with fail
  refine (lowest_any s.tv 4 (by omega) HT.out _).mono ?_
  rintro e w2 ⟨rfl, rfl⟩
  go_wp2
  go_ret
  exact ⟨rfl, HL.out⟩
theorem store_s4 (s : S) (kd : Int) (p : Nat) (w : World) (hs : Stp w p s) (h1 : s.i.rs1 ≤ 31) (h2 : s.i.rs2 ≤ 31) (hz : -9223372036854775808 ≤ s.size ∧ s.size ≤ 9223372036854775807) (ht : Ar.Wd s.second)
    (ha : Ar.add s.first s.i.imm % 4 = 0) (hb : Ar.add s.first s.i.imm + 4 ≤ s.size) :
    Calls Tryz.prog 129 #[.pointer (some ⟨p, 0, none⟩), .int .i64 kd, .int .i64 4] w fun e w' => e = .returned (.tuple #[]) ∧
      Lv p w w' { s with a := ⟨kd, Ar.add s.first s.i.imm, 4, low s.second 4, 0, s.i.aq, s.i.rl⟩ } := by
  have HS := Lib.hid hs; have HA := Lib.hid ha; have HB := Lib.hid hb; have HZ := Lib.hid hz; have HT := Lib.hid ht; clear hs ha hb hz ht
  go_enter Tryz.func129, Tryz.ntmps129
  go_wp2_with fail
  refine (reach_s4 s kd p _ HS.out h1 HZ.out HA.out HB.out).mono ?_
  rintro e w1 ⟨rfl, hl⟩
  have HL := Lib.hid hl; clear hl
  go_wp2_with fail
  refine (second_s _ p _ HL.out.1 h2).mono ?_
  rintro e w2 ⟨rfl, hl⟩
  have HL2 := Lib.hid (HL.out.trans hl); clear hl
  go_wp2_with fail
  refine (lowest_any s.second 4 (by omega) HT.out _).mono ?_
  rintro e w3 ⟨rfl, rfl⟩
  have c1 : w2.cell? ⟨p, 48, none⟩ = some (.int .u32 0) := HL2.out.1.cell 48
  have c2 := HL2.out.1.free 48
  go_wp2
  go_end0
  exact ⟨rfl, HL2.out.1.setCell 48 _ rfl, HL2.out.2.setCell _ _⟩
theorem load_h34 (s : S) (p : Nat) (w : World) (hs : Stp w p s) (h1 : s.i.rs1 ≤ 31) (hz : -9223372036854775808 ≤ s.size ∧ s.size ≤ 9223372036854775807)
    (ha : Ar.add s.first s.i.imm % 4 ≠ 0) :
    Calls Tryz.prog 123 #[.pointer (some ⟨p, 0, none⟩), .int .i64 4] w fun e w' => Halts 3 p w e w' := by
  have HS := Lib.hid hs; have HZ := Lib.hid hz; clear hs hz
  have HA := Lib.hid ha; clear ha
  go_enter Tryz.func123, Tryz.ntmps123
  go_wp2_with fail
  refine (reach_h34 s 1 p _ HS.out h1 HZ.out HA.out).mono ?_
  rintro e w1 ⟨rfl, ho⟩
  have HO := Lib.hid ho; clear ho
  go_wp2
  exact ⟨rfl, rfl, HO.out⟩
theorem store_h34 (s : S) (kd : Int) (p : Nat) (w : World) (hs : Stp w p s) (h1 : s.i.rs1 ≤ 31) (hz : -9223372036854775808 ≤ s.size ∧ s.size ≤ 9223372036854775807)
    (ha : Ar.add s.first s.i.imm % 4 ≠ 0) :
    Calls Tryz.prog 129 #[.pointer (some ⟨p, 0, none⟩), .int .i64 kd, .int .i64 4] w fun e w' => Halts 3 p w e w' := by
  have HS := Lib.hid hs; have HZ := Lib.hid hz; clear hs hz
  have HA := Lib.hid ha; clear ha
  go_enter Tryz.func129, Tryz.ntmps129
  go_wp2_with fail
  refine (reach_h34 s kd p _ HS.out h1 HZ.out HA.out).mono ?_
  rintro e w1 ⟨rfl, ho⟩
  have HO := Lib.hid ho; clear ho
  go_wp2
  exact ⟨rfl, rfl, HO.out⟩
theorem load_h44 (s : S) (p : Nat) (w : World) (hs : Stp w p s) (h1 : s.i.rs1 ≤ 31) (hz : -9223372036854775808 ≤ s.size ∧ s.size ≤ 9223372036854775807)
    (ha : Ar.add s.first s.i.imm % 4 = 0) (hb : s.size < Ar.add s.first s.i.imm + 4) :
    Calls Tryz.prog 123 #[.pointer (some ⟨p, 0, none⟩), .int .i64 4] w fun e w' => Halts 4 p w e w' := by
  have HS := Lib.hid hs; have HZ := Lib.hid hz; clear hs hz
  have HA := Lib.hid ha; have HB := Lib.hid hb; clear ha hb
  go_enter Tryz.func123, Tryz.ntmps123
  go_wp2_with fail
  refine (reach_h44 s 1 p _ HS.out h1 HZ.out HA.out HB.out).mono ?_
  rintro e w1 ⟨rfl, ho⟩
  have HO := Lib.hid ho; clear ho
  go_wp2
  exact ⟨rfl, rfl, HO.out⟩
theorem store_h44 (s : S) (kd : Int) (p : Nat) (w : World) (hs : Stp w p s) (h1 : s.i.rs1 ≤ 31) (hz : -9223372036854775808 ≤ s.size ∧ s.size ≤ 9223372036854775807)
    (ha : Ar.add s.first s.i.imm % 4 = 0) (hb : s.size < Ar.add s.first s.i.imm + 4) :
    Calls Tryz.prog 129 #[.pointer (some ⟨p, 0, none⟩), .int .i64 kd, .int .i64 4] w fun e w' => Halts 4 p w e w' := by
  have HS := Lib.hid hs; have HZ := Lib.hid hz; clear hs hz
  have HA := Lib.hid ha; have HB := Lib.hid hb; clear ha hb
  go_enter Tryz.func129, Tryz.ntmps129
  go_wp2_with fail
  refine (reach_h44 s kd p _ HS.out h1 HZ.out HA.out HB.out).mono ?_
  rintro e w1 ⟨rfl, ho⟩
  have HO := Lib.hid ho; clear ho
  go_wp2
  exact ⟨rfl, rfl, HO.out⟩
end Go.Proofs.YtianojbdabeoeaaGreatDoor
