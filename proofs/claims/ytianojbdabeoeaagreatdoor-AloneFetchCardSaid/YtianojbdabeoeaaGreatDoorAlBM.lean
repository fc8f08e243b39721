/-
  AlBM: AlMem, AlDo, AlAcc in one text.
-/
import Derived.Test.YtianojbdabeoeaaGreatDoorAlAM
import Derived.Test.YtianojbdabeoeaaGreatDoorHtAmo
import Derived.Laws.CopyRow

section
namespace Go.Proofs.YtianojbdabeoeaaGreatDoor
open Go.RowKit Ht
set_option linter.unusedVariables false
/-- a memory of one's own in block q: an image at p whose bytes lie in g, its reservation -/
structure Mem (w : World) (q p g : Nat) (bs : List Int) (rs : Bool) (pl : Int) : Prop where
  img : Img w p g bs
  own : w.heap[q]? = some (.cells #[.pointer (some ⟨p, 0, none⟩), .bool rs, .int .u32 pl] 139 (0, 0))
  qg : q ≠ g
  qp : q ≠ p
theorem Mem.below {w w' : World} {q p g : Nat} {bs : List Int} {rs : Bool} {pl : Int} (h : Mem w q p g bs rs pl) (hb : Below w.heap.size w w') : Mem w' q p g bs rs pl :=
  ⟨h.img.old hb, (hb.block q (Array.getElem?_eq_some_iff.1 h.own).1).trans h.own, h.qg, h.qp⟩
/-- an access that stands in a memory of so many bytes -/
structure In (a : A) (n : Nat) : Prop where
  w : a.width = 1 ∨ a.width = 2 ∨ a.width = 4
  al : a.addr % a.width = 0
  lo : 0 ≤ a.addr
  hi : a.addr + a.width ≤ n
theorem In.nat {a : A} {n : Nat} (h : In a n) : ∃ (ad k : Nat), a.addr = ad ∧ a.width = k ∧ (k = 1 ∨ k = 2 ∨ k = 4) ∧ ad % k = 0 ∧ ad + k ≤ n := by
  obtain ⟨hw, hal, hlo, hhi⟩ := h
  refine ⟨a.addr.toNat, a.width.toNat, by omega, by omega, by omega, ?_, by omega⟩
  rcases hw with hw | hw | hw <;> rw [hw] at hal <;> (first | rw [show a.width.toNat = 1 by omega] | rw [show a.width.toNat = 2 by omega] | rw [show a.width.toNat = 4 by omega]) <;> omega
/-- the value that stands there -/
def Al.at (bs : List Int) (a : A) : Int := Im.val (Im.win bs a.addr.toNat a.width.toNat)
/-- the bytes when it has been written -/
def Al.put (bs : List Int) (a : A) (v : Int) : List Int := Im.sets bs a.addr.toNat (Im.byt v) a.width.toNat
set_option maxRecDepth 100000 in
set_option maxHeartbeats 1000000 in
theorem load_any (q p g : Nat) (bs : List Int) (rs : Bool) (pl : Int) (a : A) (w : World) (hm : Mem w q p g bs rs pl) (hi : In a bs.length) :
    Calls Tryz.prog 97 #[.pointer (some ⟨q, 0, none⟩), accV a] w fun e w' => e = .returned (ansV (Al.at bs a) false) ∧ Below w.heap.size w w' := by
  obtain ⟨ad, k, had, hk, hk3, hal, hle⟩ := hi.nat
  have hbd := hm.img.bd
  have e : Al.at bs a = Im.val (Im.win bs ad k) := by unfold Al.at; rw [had, hk]; rfl
  rw [e]
  have hm2 := hm.below (((Below.refl w.heap.size w).alloc (Nat.le_refl _) (.cells (acells a).toArray 37)).alloc (by simp only [World.size_alloc]; omega) (.cells Al.xzero 28))
  have k0 := (heap_b2 w (.cells (acells a).toArray 37) (.cells Al.xzero 28)).1
  have k1 := (heap_b2 w (.cells (acells a).toArray 37) (.cells Al.xzero 28)).2
  have B0 := Lib.hid (((Below.refl w.heap.size w).alloc (Nat.le_refl _) (.cells (acells a).toArray 37)).alloc (by simp only [World.size_alloc]; omega) (.cells Al.xzero 28))
  have HQ0 := Lib.hid (show ((w.alloc (.cells (acells a).toArray 37)).alloc (.cells Al.xzero 28)).cell? ⟨q, 0, none⟩ = some (.pointer (some ⟨p, 0, none⟩)) by rw [cell_of_row _ q 0 _ _ _ hm2.own]; rfl)
  have HA1 := Lib.hid (show ((w.alloc (.cells (acells a).toArray 37)).alloc (.cells Al.xzero 28)).cell? ⟨w.heap.size, 1, none⟩ = some (.int .u32 (ad : Int)) by rw [cell_of_row _ _ 1 _ _ _ k0, ← had]; rfl)
  have HA2 := Lib.hid (show ((w.alloc (.cells (acells a).toArray 37)).alloc (.cells Al.xzero 28)).cell? ⟨w.heap.size, 2, none⟩ = some (.int .i64 (k : Int)) by rw [cell_of_row _ _ 2 _ _ _ k0, ← hk]; rfl)
  have HRD := Lib.hid (fun (x : World) (hx : Below ((w.alloc (.cells (acells a).toArray 37)).alloc (.cells Al.xzero 28)).heap.size ((w.alloc (.cells (acells a).toArray 37)).alloc (.cells Al.xzero 28)) x) => read_goes p g bs ad k x (by omega) (hm2.below hx).img hk3 hal (by omega))
  have K1 := Lib.hid k1
  generalize Im.val (Im.win bs ad k) = v at *
  clear hm hi had hk hk3 hal hle hbd e hm2 k0 k1
  unfold accV ansV
  go_enter Tryz.func97, Tryz.ntmps97
  go_wp2_with fail
  refine Og.regionP (by kernel_rfl) 14 (fun t => ([(8, 0), (9, 1), (10, 2), (11, 3), (12, 4), (13, 5), (14, 6), (15, 7), (16, 8), (7, 9), (17, 10), (18, 11), (5, 12), (6, 13)] : List (Nat × Nat)).lookup t) [.is (.pointer (some ⟨q, 0, none⟩)), .is (.pointer (some ⟨q, 0, none⟩)), .is (.pointer (some ⟨q, 0, none⟩)), .is (.pointer (some ⟨p, 0, none⟩)), .is (.pointer (some ⟨w.heap.size, 1, none⟩)), .is (.int .u32 (ad : Int)), .is (.pointer (some ⟨w.heap.size, 2, none⟩)), .is (.int .i64 (k : Int)), .is (.tuple #[.int .u32 v, .int .i64 0]), .is (.tuple #[.int .u32 v, .int .i64 0]), .is (.int .u32 v), .is (.int .i64 0), .is (.int .u32 v), .is (.int .i64 0)] [true, true, true, true, true, true, true, true, true, true, true, true, true, true] (by kernel_rfl) (by decide) ?_ ?_
  · refine ⟨?_, ?_, ?_, ?_, ?_, ?_, ?_, ?_, ?_, ?_, ?_, ?_, ?_, ?_, trivial⟩
    · refine ⟨rfl, (if_neg (by decide)).mpr fun ρ xw b hr hd => ?_⟩
      obtain ⟨d0, _⟩ := hd
      have d0 : ρ (.tmp 0) = .pointer (some ⟨q, 0, none⟩) := d0
      refine (if_pos (by rfl)).mpr ?_
      refine Og.gives_is (.pointer (some ⟨q, 0, none⟩)) ?_ (And.intro (Below.refl _ _) rfl)
      go_simp
    · refine ⟨rfl, (if_neg (by decide)).mpr fun ρ xw b hr hd => ?_⟩
      obtain ⟨d0, _⟩ := hd
      have d0 : ρ (.tmp 8) = .pointer (some ⟨q, 0, none⟩) := d0
      refine (if_pos (by rfl)).mpr ?_
      refine Og.gives_is (.pointer (some ⟨q, 0, none⟩)) ?_ (And.intro (Below.refl _ _) rfl)
      go_simp
    · refine ⟨rfl, (if_neg (by decide)).mpr fun ρ xw b hr hd => ?_⟩
      obtain ⟨d0, _⟩ := hd
      have d0 : ρ (.tmp 9) = .pointer (some ⟨q, 0, none⟩) := d0
      refine (if_pos (by rfl)).mpr ?_
      refine Og.gives_is (.pointer (some ⟨q, 0, none⟩)) ?_ (And.intro (Below.refl _ _) rfl)
      go_simp
    · refine ⟨rfl, (if_neg (by decide)).mpr fun ρ xw b hr hd => ?_⟩
      obtain ⟨d0, _⟩ := hd
      have d0 : ρ (.tmp 10) = .pointer (some ⟨q, 0, none⟩) := d0
      refine (if_pos (by rfl)).mpr ?_
      have hc : xw.cell? ⟨q, 0, none⟩ = some (.pointer (some ⟨p, 0, none⟩)) := (Below.cell hr (World.block_lt_of_cell? _ _ HQ0.out)).trans HQ0.out
      refine Og.gives_is (.pointer (some ⟨p, 0, none⟩)) ?_ (And.intro (Below.refl _ _) rfl)
      go_simp
    · refine ⟨rfl, (if_neg (by decide)).mpr fun ρ xw b hr hd => ?_⟩
      obtain ⟨d0, _⟩ := hd
      have d0 : ρ (.tmp 3) = .pointer (some ⟨w.heap.size, 0, none⟩) := d0
      refine (if_pos (by rfl)).mpr ?_
      refine Og.gives_is (.pointer (some ⟨w.heap.size, 1, none⟩)) ?_ (And.intro (Below.refl _ _) rfl)
      go_simp
    · refine ⟨rfl, (if_neg (by decide)).mpr fun ρ xw b hr hd => ?_⟩
      obtain ⟨d0, _⟩ := hd
      have d0 : ρ (.tmp 12) = .pointer (some ⟨w.heap.size, 1, none⟩) := d0
      refine (if_pos (by rfl)).mpr ?_
      have hc : xw.cell? ⟨w.heap.size, 1, none⟩ = some (.int .u32 (ad : Int)) := (Below.cell hr (World.block_lt_of_cell? _ _ HA1.out)).trans HA1.out
      refine Og.gives_is (.int .u32 (ad : Int)) ?_ (And.intro (Below.refl _ _) rfl)
      go_simp
    · refine ⟨rfl, (if_neg (by decide)).mpr fun ρ xw b hr hd => ?_⟩
      obtain ⟨d0, _⟩ := hd
      have d0 : ρ (.tmp 3) = .pointer (some ⟨w.heap.size, 0, none⟩) := d0
      refine (if_pos (by rfl)).mpr ?_
      refine Og.gives_is (.pointer (some ⟨w.heap.size, 2, none⟩)) ?_ (And.intro (Below.refl _ _) rfl)
      go_simp
    · refine ⟨rfl, (if_neg (by decide)).mpr fun ρ xw b hr hd => ?_⟩
      obtain ⟨d0, _⟩ := hd
      have d0 : ρ (.tmp 14) = .pointer (some ⟨w.heap.size, 2, none⟩) := d0
      refine (if_pos (by rfl)).mpr ?_
      have hc : xw.cell? ⟨w.heap.size, 2, none⟩ = some (.int .i64 (k : Int)) := (Below.cell hr (World.block_lt_of_cell? _ _ HA2.out)).trans HA2.out
      refine Og.gives_is (.int .i64 (k : Int)) ?_ (And.intro (Below.refl _ _) rfl)
      go_simp
    · refine ⟨rfl, (if_neg (by decide)).mpr fun ρ xw b hr hd => ?_⟩
      obtain ⟨d0, d1, d2, d3, _⟩ := hd
      have d0 : ρ (.func 40) = .func (.func 40) #[] #[] := d0
      have d1 : ρ (.tmp 11) = .pointer (some ⟨p, 0, none⟩) := d1
      have d2 : ρ (.tmp 13) = .int .u32 (ad : Int) := d2
      have d3 : ρ (.tmp 15) = .int .i64 (k : Int) := d3
      refine (if_pos (by rfl)).mpr ?_
      refine Og.gives_call 40 #[.pointer (some ⟨p, 0, none⟩), .int .u32 (ad : Int), .int .i64 (k : Int)] ?_ ?_
      · go_simp
      · refine (HRD.out xw hr).mono ?_
        rintro e w3 ⟨rfl, hb⟩
        exact ⟨_, rfl, hb, rfl⟩
    · refine ⟨rfl, (if_neg (by decide)).mpr fun ρ xw b hr hd => ?_⟩
      obtain ⟨d0, _⟩ := hd
      have d0 : ρ (.tmp 16) = .tuple #[.int .u32 v, .int .i64 0] := d0
      refine (if_pos (by rfl)).mpr ?_
      refine Og.gives_is (.tuple #[.int .u32 v, .int .i64 0]) ?_ (And.intro (Below.refl _ _) rfl)
      go_simp
    · refine ⟨rfl, (if_neg (by decide)).mpr fun ρ xw b hr hd => ?_⟩
      obtain ⟨d0, _⟩ := hd
      have d0 : ρ (.tmp 7) = .tuple #[.int .u32 v, .int .i64 0] := d0
      refine (if_pos (by rfl)).mpr ?_
      refine Og.gives_is (.int .u32 v) ?_ (And.intro (Below.refl _ _) rfl)
      go_simp
    · refine ⟨rfl, (if_neg (by decide)).mpr fun ρ xw b hr hd => ?_⟩
      obtain ⟨d0, _⟩ := hd
      have d0 : ρ (.tmp 7) = .tuple #[.int .u32 v, .int .i64 0] := d0
      refine (if_pos (by rfl)).mpr ?_
      refine Og.gives_is (.int .i64 0) ?_ (And.intro (Below.refl _ _) rfl)
      go_simp
    · refine ⟨rfl, (if_neg (by decide)).mpr fun ρ xw b hr hd => ?_⟩
      obtain ⟨d0, _⟩ := hd
      have d0 : ρ (.tmp 17) = .int .u32 v := d0
      refine (if_pos (by rfl)).mpr ?_
      refine Og.gives_is (.int .u32 v) ?_ (And.intro (Below.refl _ _) rfl)
      go_simp
    · refine ⟨rfl, (if_neg (by decide)).mpr fun ρ xw b hr hd => ?_⟩
      obtain ⟨d0, _⟩ := hd
      have d0 : ρ (.tmp 18) = .int .i64 0 := d0
      refine (if_pos (by rfl)).mpr ?_
      refine Og.gives_is (.int .i64 0) ?_ (And.intro (Below.refl _ _) rfl)
      go_simp
  · intro vs w2 hb2 hvs
    have nv0 : vs 0 = .pointer (some ⟨q, 0, none⟩) := hvs 0 _ 8 rfl rfl
    have nv1 : vs 1 = .pointer (some ⟨q, 0, none⟩) := hvs 1 _ 9 rfl rfl
    have nv2 : vs 2 = .pointer (some ⟨q, 0, none⟩) := hvs 2 _ 10 rfl rfl
    have nv3 : vs 3 = .pointer (some ⟨p, 0, none⟩) := hvs 3 _ 11 rfl rfl
    have nv4 : vs 4 = .pointer (some ⟨w.heap.size, 1, none⟩) := hvs 4 _ 12 rfl rfl
    have nv5 : vs 5 = .int .u32 (ad : Int) := hvs 5 _ 13 rfl rfl
    have nv6 : vs 6 = .pointer (some ⟨w.heap.size, 2, none⟩) := hvs 6 _ 14 rfl rfl
    have nv7 : vs 7 = .int .i64 (k : Int) := hvs 7 _ 15 rfl rfl
    have nv8 : vs 8 = .tuple #[.int .u32 v, .int .i64 0] := hvs 8 _ 16 rfl rfl
    have nv9 : vs 9 = .tuple #[.int .u32 v, .int .i64 0] := hvs 9 _ 7 rfl rfl
    have nv10 : vs 10 = .int .u32 v := hvs 10 _ 17 rfl rfl
    have nv11 : vs 11 = .int .i64 0 := hvs 11 _ 18 rfl rfl
    have nv12 : vs 12 = .int .u32 v := hvs 12 _ 5 rfl rfl
    have nv13 : vs 13 = .int .i64 0 := hvs 13 _ 6 rfl rfl
    simp only [List.take_succ_cons, List.take_zero, List.drop_succ_cons, List.drop_zero, Og.putAll, Act.put, List.setIfInBounds_toArray, List.set_cons_zero, List.set_cons_succ, Nat.zero_add, Nat.reduceAdd, nv0, nv1, nv2, nv3, nv4, nv5, nv6, nv7, nv8, nv9, nv10, nv11, nv12, nv13]
    have k2 := (hb2.block (w.heap.size + 1) (Array.getElem?_eq_some_iff.1 K1.out).1).trans K1.out
    have b2 : Below w.heap.size w w2 := B0.out.trans (hb2.mono B0.out.size)
    have K2 := Lib.hid k2; have B2 := Lib.hid b2; clear k2 b2 hb2 hvs
    go_wp2_with (refine wpList_store_row rfl 28 (.tmp 4) (.tmp 20) rfl (w.heap.size + 1) #[.int .u32 v, .bool false] rfl rfl 28 Al.xzero K2.out (by kernel_rfl) (by kernel_rfl) (by kernel_rfl) ?_)
    refine bodyPost_ret (v := .agg #[.int .u32 v, .bool false]) ?_ rfl ⟨rfl, below_setRow B2.out (by omega)⟩
    exact results_cell_row (fn := Tryz.f97) rfl _ _ (w.heap.size + 1) 28 #[.int .u32 v, .bool false] (0, 0) _ rfl (setRow_heap _ _ _ _ _ _ K2.out) Tryz.underlying28 rfl (by kernel_rfl)
theorem Mem.drewN {w : World} {q p g : Nat} {bs : List Int} {rs : Bool} {pl : Int} (h : Mem w q p g bs rs pl) (n : Nat) : Mem (w.drewN n) q p g bs rs pl := h.below ⟨rfl, rfl, rfl, Nat.le_refl _, fun _ _ => rfl⟩
theorem Mem.setq {w : World} {q p g : Nat} {bs : List Int} {rs : Bool} {pl : Int} (h : Mem w q p g bs rs pl) (j : Nat) (u : Value) (rs' : Bool) (pl' : Int) (he : (#[.pointer (some ⟨p, 0, none⟩), .bool rs, .int .u32 pl] : Array Value).setIfInBounds j u = #[.pointer (some ⟨p, 0, none⟩), .bool rs', .int .u32 pl']) :
    Mem (w.setCell ⟨q, j, none⟩ u) q p g bs rs' pl' := by
  refine ⟨h.img.kept (grownBy_set (World.grownBy.refl w _) j u) (by simpa using fun e => h.qp e.symm) (by simpa using fun e => h.qg e.symm), ?_, h.qg, h.qp⟩
  rw [heap_setCell_same w q j _ _ u h.own, he]
theorem Og.PhK.post {w x : World} {q g : Nat} {Post : World → Prop} (h : Og.PhK w q g Post true x) : ∃ z, Post z ∧ Below z.heap.size z x := by
  obtain ⟨_, z, _, _, hz, hx⟩ := h; exact ⟨z, hz, hx⟩
/-- what stands in a memory's own block, ahead of a call and behind it -/
theorem Mem.ph {w x : World} {q p g : Nat} {bs bs' : List Int} {rs rs' : Bool} {pl pl' : Int} {b : Bool} (h : Mem w q p g bs rs pl) (hp : Og.PhK w q g (fun z => Mem z q p g bs' rs' pl') b x) : ∃ b2 r2 p2, Mem x q p g b2 r2 p2 := by
  cases b with
  | false => exact ⟨_, _, _, h.below hp⟩
  | true => obtain ⟨z, hz, hx⟩ := Og.PhK.post hp; exact ⟨_, _, _, hz.below hx⟩
theorem Mem.cell0 {w : World} {q p g : Nat} {bs : List Int} {rs : Bool} {pl : Int} (h : Mem w q p g bs rs pl) : w.cell? ⟨q, 0, none⟩ = some (.pointer (some ⟨p, 0, none⟩)) := by rw [cell_of_row w q 0 _ _ _ h.own]; rfl
theorem Mem.cell1 {w : World} {q p g : Nat} {bs : List Int} {rs : Bool} {pl : Int} (h : Mem w q p g bs rs pl) : w.cell? ⟨q, 1, none⟩ = some (.bool rs) := by rw [cell_of_row w q 1 _ _ _ h.own]; rfl
theorem Mem.cell2 {w : World} {q p g : Nat} {bs : List Int} {rs : Bool} {pl : Int} (h : Mem w q p g bs rs pl) : w.cell? ⟨q, 2, none⟩ = some (.int .u32 pl) := by rw [cell_of_row w q 2 _ _ _ h.own]; rfl
theorem Mem.lt {w : World} {q p g : Nat} {bs : List Int} {rs : Bool} {pl : Int} (h : Mem w q p g bs rs pl) : q < w.heap.size ∧ g < w.heap.size :=
  ⟨(Array.getElem?_eq_some_iff.1 h.own).1, h.img.row.lt⟩
theorem Mem.setrow {w : World} {q p g r : Nat} {bs : List Int} {rs : Bool} {pl : Int} (h : Mem w q p g bs rs pl) (hr : p ≠ r ∧ q ≠ r ∧ g ≠ r) (cs : Array Value) : Mem (w.setRow r cs) q p g bs rs pl :=
  ⟨⟨(setRow_other w r p cs hr.1).trans h.img.ptr, (setRow_other w r g cs hr.2.2).trans h.img.row, h.img.ok, h.img.byt⟩, (setRow_other w r q cs hr.2.1).trans h.own, h.qg, h.qp⟩
set_option maxRecDepth 100000 in
set_option maxHeartbeats 2000000 in
theorem sres_any (q p g : Nat) (bs : List Int) (rs : Bool) (pl : Int) (a : A) (w : World) (hm : Mem w q p g bs rs pl) (hi : In a bs.length) (hv : Ar.Wd a.value) :
    Calls Tryz.prog 99 #[.pointer (some ⟨q, 0, none⟩), accV a] w fun e w' => e = .returned (ansV 0 (rs && pl == a.addr)) ∧ Mem w' q p g (if (rs && pl == a.addr) = true then Al.put bs a a.value else bs) false pl ∧ Og.Kept q g w w' := by
  obtain ⟨ad, k, had, hk, hk3, hal, hle⟩ := hi.nat
  have hbd := hm.img.bd
  have hlq := hm.lt
  have hlp := im_heap_lt hm.img.ptr
  have e : Al.put bs a a.value = Im.sets bs ad (Im.byt a.value) k := by unfold Al.put; rw [had, hk]; rfl
  rw [e]
  have hb0 : Below w.heap.size w ((w.alloc (.cells (acells a).toArray 37)).alloc (.cells Al.xzero 28)) := ((Below.refl w.heap.size w).alloc (Nat.le_refl _) (.cells (acells a).toArray 37)).alloc (by simp only [World.size_alloc]; omega) (.cells Al.xzero 28)
  have hm2 := hm.below hb0
  have k0 := (heap_b2 w (.cells (acells a).toArray 37) (.cells Al.xzero 28)).1
  have k1 := (heap_b2 w (.cells (acells a).toArray 37) (.cells Al.xzero 28)).2
  have c1 := hm2.cell1
  have c2 := hm2.cell2
  have f1 := frozen_of_row ((w.alloc (.cells (acells a).toArray 37)).alloc (.cells Al.xzero 28)) q 1 _ _ hm2.own
  have a1 : ((w.alloc (.cells (acells a).toArray 37)).alloc (.cells Al.xzero 28)).cell? ⟨w.heap.size, 1, none⟩ = some (.int .u32 a.addr) := by rw [cell_of_row _ _ 1 _ _ _ k0]; rfl
  have HQ := Lib.hid (fun n : Nat => show Mem ((((w.alloc (.cells (acells a).toArray 37)).alloc (.cells Al.xzero 28)).drewN n).setCell ⟨q, 1, none⟩ (.bool false)) q p g bs false pl ∧ ((((w.alloc (.cells (acells a).toArray 37)).alloc (.cells Al.xzero 28)).drewN n).setCell ⟨q, 1, none⟩ (.bool false)).heap[w.heap.size]? = some (.cells (acells a).toArray 37 (0, 0)) ∧
      ((((w.alloc (.cells (acells a).toArray 37)).alloc (.cells Al.xzero 28)).drewN n).setCell ⟨q, 1, none⟩ (.bool false)).heap[w.heap.size + 1]? = some (.cells Al.xzero 28 (0, 0)) ∧ Og.Kept q g w ((((w.alloc (.cells (acells a).toArray 37)).alloc (.cells Al.xzero 28)).drewN n).setCell ⟨q, 1, none⟩ (.bool false)) from
    ⟨(hm2.drewN n).setq 1 _ false pl rfl, (Below.heap_setCell _ _ _ _ (by show w.heap.size ≠ q; omega)).trans k0, (Below.heap_setCell _ _ _ _ (by show w.heap.size + 1 ≠ q; omega)).trans k1, (Og.Kept.of_below (below_drewN hb0)).setCell 1 _⟩)
  have HLT := Lib.hid (show p ≠ w.heap.size + 1 ∧ q ≠ w.heap.size + 1 ∧ g ≠ w.heap.size + 1 by omega)
  have HAL := Lib.hid (show ad ≤ 4294967295 ∧ (k = 1 ∨ k = 2 ∨ k = 4) ∧ ad % k = 0 ∧ ad < bs.length by omega)
  have HAD := Lib.hid had; have HK := Lib.hid hk; have HV := Lib.hid hv
  have hne1 : w.heap.size ≠ q := by omega
  have hne2 : w.heap.size ≠ g := by omega
  clear hm hi hk hk3 hal hle hbd e hm2 k0 k1 hb0 hv had
  unfold accV ansV
  cases rs with
  | false =>
    simp only [Bool.false_and, Bool.false_eq_true, if_false]
    go_enter Tryz.func99, Tryz.ntmps99
    go_wp2
    go_quiet (fail)
    go_wp2_with (first
      | (show wpList _ _ _ (Oper.mk (some 35) _ _ _ _ _ :: _) _ _; obtain ⟨hm1, hr0, hr1, hkp⟩ := HQ.out nq; clear HQ; generalize (((w.alloc (.cells (acells a).toArray 37)).alloc (.cells Al.xzero 28)).drewN nq).setCell ⟨q, 1, none⟩ (.bool false) = W1 at *; have HM4 := Lib.hid hm1; have HR1 := Lib.hid hr1; have HKP := Lib.hid hkp; clear hm1 hr0 hr1 hkp c1 c2 f1 a1; skip)
      | (refine wpList_store_row rfl 28 (.tmp 4) (.tmp 35) rfl (w.heap.size + 1) #[.int .u32 0, .bool false] rfl rfl 28 Al.xzero HR1.out (by kernel_rfl) (by kernel_rfl) (by kernel_rfl) ?_))
    refine bodyPost_ret (v := .agg #[.int .u32 0, .bool false]) ?_ rfl ⟨rfl, ?_, HKP.out.setRow (by omega) _⟩
    · exact results_cell_row (fn := Tryz.f99) rfl _ _ (w.heap.size + 1) 28 #[.int .u32 0, .bool false] (0, 0) _ rfl (setRow_heap _ _ _ _ _ _ HR1.out) Tryz.underlying28 rfl (by kernel_rfl)
    · exact HM4.out.setrow HLT.out _
  | true =>
    simp only [Bool.true_and]
    by_cases hpa : pl = a.addr
    · have hd : (pl == a.addr) = true := by simpa using hpa
      have hdd : decide (pl = a.addr) = true := by simpa using hpa
      rw [hd]
      simp only [if_true]
      clear hpa
      go_enter Tryz.func99, Tryz.ntmps99
      go_wp2
      go_quiet (fail)
      go_wp2
      obtain ⟨hm1, hr0, hr1, hkp⟩ := HQ.out nq
      clear HQ
      generalize (((w.alloc (.cells (acells a).toArray 37)).alloc (.cells Al.xzero 28)).drewN nq).setCell ⟨q, 1, none⟩ (.bool false) = W1 at *
      clear c1 c2 f1 a1
      have HM1 := Lib.hid hm1; have HR0 := Lib.hid hr0; have HR1' := Lib.hid hr1; have HKP' := Lib.hid hkp; clear hm1 hr0 hr1 hkp
      refine Og.regionK (by kernel_rfl) 11 10 q g (fun z => Mem z q p g (Im.sets bs ad (Im.byt a.value) k) false pl) HM1.out.lt.1 HM1.out.lt.2 (fun t => ([(23, 0), (24, 1), (25, 2), (26, 3), (27, 4), (28, 5), (29, 6), (30, 7), (31, 8), (32, 9), (33, 10)] : List (Nat × Nat)).lookup t) [.is (.pointer (some ⟨q, 0, none⟩)), .is (.pointer (some ⟨q, 0, none⟩)), .is (.pointer (some ⟨q, 0, none⟩)), .is (.pointer (some ⟨p, 0, none⟩)), .is (.pointer (some ⟨w.heap.size, 1, none⟩)), .is (.int .u32 (ad : Int)), .is (.pointer (some ⟨w.heap.size, 2, none⟩)), .is (.int .i64 (k : Int)), .is (.pointer (some ⟨w.heap.size, 3, none⟩)), .is (.int .u32 a.value), .is (.int .i64 0)] [true, true, true, true, true, true, true, true, true, true, true] (by kernel_rfl) ?_ ?_
      · refine ⟨?_, ?_, ?_, ?_, ?_, ?_, ?_, ?_, ?_, ?_, ?_, trivial⟩
        · refine ⟨rfl, (if_neg (by decide)).mpr fun ρ xw b hr hd => ?_⟩
          obtain ⟨d0, _⟩ := hd
          have d0 : ρ (.tmp 0) = .pointer (some ⟨q, 0, none⟩) := d0
          refine (if_pos (by rfl)).mpr ?_
          refine Og.gives_is (.pointer (some ⟨q, 0, none⟩)) ?_ (And.intro (Below.refl _ _) rfl)
          go_simp
        · refine ⟨rfl, (if_neg (by decide)).mpr fun ρ xw b hr hd => ?_⟩
          obtain ⟨d0, _⟩ := hd
          have d0 : ρ (.tmp 23) = .pointer (some ⟨q, 0, none⟩) := d0
          refine (if_pos (by rfl)).mpr ?_
          refine Og.gives_is (.pointer (some ⟨q, 0, none⟩)) ?_ (And.intro (Below.refl _ _) rfl)
          go_simp
        · refine ⟨rfl, (if_neg (by decide)).mpr fun ρ xw b hr hd => ?_⟩
          obtain ⟨d0, _⟩ := hd
          have d0 : ρ (.tmp 24) = .pointer (some ⟨q, 0, none⟩) := d0
          refine (if_pos (by rfl)).mpr ?_
          refine Og.gives_is (.pointer (some ⟨q, 0, none⟩)) ?_ (And.intro (Below.refl _ _) rfl)
          go_simp
        · refine ⟨rfl, (if_neg (by decide)).mpr fun ρ xw b hr hd => ?_⟩
          obtain ⟨d0, _⟩ := hd
          have d0 : ρ (.tmp 25) = .pointer (some ⟨q, 0, none⟩) := d0
          refine (if_pos (by rfl)).mpr ?_
          have hc : xw.cell? ⟨q, 0, none⟩ = some (.pointer (some ⟨p, 0, none⟩)) := (by obtain ⟨_, _, _, hmx⟩ := HM1.out.ph hr; exact hmx.cell0)
          refine Og.gives_is (.pointer (some ⟨p, 0, none⟩)) ?_ (And.intro (Below.refl _ _) rfl)
          go_simp
        · refine ⟨rfl, (if_neg (by decide)).mpr fun ρ xw b hr hd => ?_⟩
          obtain ⟨d0, _⟩ := hd
          have d0 : ρ (.tmp 3) = .pointer (some ⟨w.heap.size, 0, none⟩) := d0
          refine (if_pos (by rfl)).mpr ?_
          refine Og.gives_is (.pointer (some ⟨w.heap.size, 1, none⟩)) ?_ (And.intro (Below.refl _ _) rfl)
          go_simp
        · refine ⟨rfl, (if_neg (by decide)).mpr fun ρ xw b hr hd => ?_⟩
          obtain ⟨d0, _⟩ := hd
          have d0 : ρ (.tmp 27) = .pointer (some ⟨w.heap.size, 1, none⟩) := d0
          refine (if_pos (by rfl)).mpr ?_
          have hc : xw.cell? ⟨w.heap.size, 1, none⟩ = some (.int .u32 (ad : Int)) := (by rw [cell_of_row _ _ 1 _ _ _ (hr.old hne1 hne2 HR0.out), ← HAD.out]; rfl)
          refine Og.gives_is (.int .u32 (ad : Int)) ?_ (And.intro (Below.refl _ _) rfl)
          go_simp
        · refine ⟨rfl, (if_neg (by decide)).mpr fun ρ xw b hr hd => ?_⟩
          obtain ⟨d0, _⟩ := hd
          have d0 : ρ (.tmp 3) = .pointer (some ⟨w.heap.size, 0, none⟩) := d0
          refine (if_pos (by rfl)).mpr ?_
          refine Og.gives_is (.pointer (some ⟨w.heap.size, 2, none⟩)) ?_ (And.intro (Below.refl _ _) rfl)
          go_simp
        · refine ⟨rfl, (if_neg (by decide)).mpr fun ρ xw b hr hd => ?_⟩
          obtain ⟨d0, _⟩ := hd
          have d0 : ρ (.tmp 29) = .pointer (some ⟨w.heap.size, 2, none⟩) := d0
          refine (if_pos (by rfl)).mpr ?_
          have hc : xw.cell? ⟨w.heap.size, 2, none⟩ = some (.int .i64 (k : Int)) := (by rw [cell_of_row _ _ 2 _ _ _ (hr.old hne1 hne2 HR0.out), ← HK.out]; rfl)
          refine Og.gives_is (.int .i64 (k : Int)) ?_ (And.intro (Below.refl _ _) rfl)
          go_simp
        · refine ⟨rfl, (if_neg (by decide)).mpr fun ρ xw b hr hd => ?_⟩
          obtain ⟨d0, _⟩ := hd
          have d0 : ρ (.tmp 3) = .pointer (some ⟨w.heap.size, 0, none⟩) := d0
          refine (if_pos (by rfl)).mpr ?_
          refine Og.gives_is (.pointer (some ⟨w.heap.size, 3, none⟩)) ?_ (And.intro (Below.refl _ _) rfl)
          go_simp
        · refine ⟨rfl, (if_neg (by decide)).mpr fun ρ xw b hr hd => ?_⟩
          obtain ⟨d0, _⟩ := hd
          have d0 : ρ (.tmp 31) = .pointer (some ⟨w.heap.size, 3, none⟩) := d0
          refine (if_pos (by rfl)).mpr ?_
          have hc : xw.cell? ⟨w.heap.size, 3, none⟩ = some (.int .u32 a.value) := (by rw [cell_of_row _ _ 3 _ _ _ (hr.old hne1 hne2 HR0.out)]; rfl)
          refine Og.gives_is (.int .u32 a.value) ?_ (And.intro (Below.refl _ _) rfl)
          go_simp
        · refine ⟨rfl, (if_pos (by rfl)).mpr ⟨rfl, fun ρ xw hr hd => ?_⟩⟩
          obtain ⟨d0, d1, d2, d3, d4, _⟩ := hd
          have d0 : ρ (.func 98) = .func (.func 98) #[] #[] := d0
          have d1 : ρ (.tmp 26) = .pointer (some ⟨p, 0, none⟩) := d1
          have d2 : ρ (.tmp 28) = .int .u32 (ad : Int) := d2
          have d3 : ρ (.tmp 30) = .int .i64 (k : Int) := d3
          have d4 : ρ (.tmp 32) = .int .u32 a.value := d4
          have hmx := HM1.out.below hr
          refine Og.gives_call 98 #[.pointer (some ⟨p, 0, none⟩), .int .u32 (ad : Int), .int .i64 (k : Int), .int .u32 a.value] ?_ ?_
          · go_simp
          · refine (write_goes p g bs ad k a.value xw HAL.out.1 HV.out hmx.img HAL.out.2.1 HAL.out.2.2.1 HAL.out.2.2.2).mono ?_
            rintro e w3 ⟨rfl, hi3, hg3⟩
            have hmz : Mem w3 q p g (Im.sets bs ad (Im.byt a.value) k) false pl := ⟨hi3, (hg3.block q hmx.lt.1 (by simpa using hmx.qg)).trans hmx.own, hmx.qg, hmx.qp⟩
            exact ⟨_, rfl, ⟨Og.Kept.of_grown hg3, xw, w3, hr, Og.Kept.of_grown hg3, hmz, Below.refl _ _⟩, rfl⟩
      · intro vs w4 hph hvs
        have hph : Og.PhK _ q g (fun z => Mem z q p g (Im.sets bs ad (Im.byt a.value) k) false pl) true w4 := hph
        have nv0 : vs 0 = .pointer (some ⟨q, 0, none⟩) := hvs 0 _ 23 rfl rfl
        have nv1 : vs 1 = .pointer (some ⟨q, 0, none⟩) := hvs 1 _ 24 rfl rfl
        have nv2 : vs 2 = .pointer (some ⟨q, 0, none⟩) := hvs 2 _ 25 rfl rfl
        have nv3 : vs 3 = .pointer (some ⟨p, 0, none⟩) := hvs 3 _ 26 rfl rfl
        have nv4 : vs 4 = .pointer (some ⟨w.heap.size, 1, none⟩) := hvs 4 _ 27 rfl rfl
        have nv5 : vs 5 = .int .u32 (ad : Int) := hvs 5 _ 28 rfl rfl
        have nv6 : vs 6 = .pointer (some ⟨w.heap.size, 2, none⟩) := hvs 6 _ 29 rfl rfl
        have nv7 : vs 7 = .int .i64 (k : Int) := hvs 7 _ 30 rfl rfl
        have nv8 : vs 8 = .pointer (some ⟨w.heap.size, 3, none⟩) := hvs 8 _ 31 rfl rfl
        have nv9 : vs 9 = .int .u32 a.value := hvs 9 _ 32 rfl rfl
        have nv10 : vs 10 = .int .i64 0 := hvs 10 _ 33 rfl rfl
        simp only [List.take_succ_cons, List.take_zero, List.drop_succ_cons, List.drop_zero, Og.putAll, Act.put, List.setIfInBounds_toArray, List.set_cons_zero, List.set_cons_succ, Nat.zero_add, Nat.reduceAdd, nv0, nv1, nv2, nv3, nv4, nv5, nv6, nv7, nv8, nv9, nv10]
        have HR1 := Lib.hid (hph.old (by omega) (by omega) HR1'.out)
        have HKP := Lib.hid (HKP'.out.trans hph.kept)
        obtain ⟨z, hz, hx⟩ := Og.PhK.post hph
        have HM4 := Lib.hid (hz.below hx)
        clear hph hvs hz hx
        go_wp2_with (refine wpList_store_row rfl 28 (.tmp 4) (.tmp 35) rfl (w.heap.size + 1) #[.int .u32 0, .bool true] rfl rfl 28 Al.xzero HR1.out (by kernel_rfl) (by kernel_rfl) (by kernel_rfl) ?_)
        refine bodyPost_ret (v := .agg #[.int .u32 0, .bool true]) ?_ rfl ⟨rfl, ?_, HKP.out.setRow (by omega) _⟩
        · exact results_cell_row (fn := Tryz.f99) rfl _ _ (w.heap.size + 1) 28 #[.int .u32 0, .bool true] (0, 0) _ rfl (setRow_heap _ _ _ _ _ _ HR1.out) Tryz.underlying28 rfl (by kernel_rfl)
        · exact HM4.out.setrow HLT.out _
    · have hd : (pl == a.addr) = false := by simpa using hpa
      have hdd : decide (pl = a.addr) = false := by simpa using hpa
      rw [hd]
      simp only [Bool.false_eq_true, if_false]
      clear hpa
      go_enter Tryz.func99, Tryz.ntmps99
      go_wp2
      go_quiet (fail)
      go_wp2_with (first
        | (show wpList _ _ _ (Oper.mk (some 35) _ _ _ _ _ :: _) _ _; obtain ⟨hm1, hr0, hr1, hkp⟩ := HQ.out nq; clear HQ; generalize (((w.alloc (.cells (acells a).toArray 37)).alloc (.cells Al.xzero 28)).drewN nq).setCell ⟨q, 1, none⟩ (.bool false) = W1 at *; have HM4 := Lib.hid hm1; have HR1 := Lib.hid hr1; have HKP := Lib.hid hkp; clear hm1 hr0 hr1 hkp c1 c2 f1 a1; skip)
        | (refine wpList_store_row rfl 28 (.tmp 4) (.tmp 35) rfl (w.heap.size + 1) #[.int .u32 0, .bool false] rfl rfl 28 Al.xzero HR1.out (by kernel_rfl) (by kernel_rfl) (by kernel_rfl) ?_))
      refine bodyPost_ret (v := .agg #[.int .u32 0, .bool false]) ?_ rfl ⟨rfl, ?_, HKP.out.setRow (by omega) _⟩
      · exact results_cell_row (fn := Tryz.f99) rfl _ _ (w.heap.size + 1) 28 #[.int .u32 0, .bool false] (0, 0) _ rfl (setRow_heap _ _ _ _ _ _ HR1.out) Tryz.underlying28 rfl (by kernel_rfl)
      · exact HM4.out.setrow HLT.out _
end Go.Proofs.YtianojbdabeoeaaGreatDoor
end

section
namespace Go.Proofs.YtianojbdabeoeaaGreatDoor
open Go.RowKit Ht
set_option linter.unusedVariables false
theorem amo_any (op : Nat) (h : 50 ≤ op ∧ op ≤ 58) (a b : Int) (ha : Ar.Wd a) (hb : Ar.Wd b) (w : World) :
    Calls Tryz.prog 100 #[.int .i64 (op : Int), .int .u32 a, .int .u32 b] w fun e w' => e = .returned (.tuple #[.int .u32 (amoP op a b), .int .i64 0]) ∧ Below w.heap.size w w' := by
  rcases (show op = 50 ∨ op = 51 ∨ op = 52 ∨ op = 53 ∨ op = 54 ∨ op = 55 ∨ op = 56 ∨ op = 57 ∨ op = 58 by omega) with rfl | rfl | rfl | rfl | rfl | rfl | rfl | rfl | rfl
  · exact amo_50 a b ha hb w
  · exact amo_51 a b ha hb w
  · exact amo_52 a b ha hb w
  · exact amo_53 a b ha hb w
  · exact amo_54 a b ha hb w
  · exact amo_55 a b ha hb w
  · exact amo_56 a b ha hb w
  · exact amo_57 a b ha hb w
  · exact amo_58 a b ha hb w
theorem amoP_wd (op : Nat) (h : 50 ≤ op ∧ op ≤ 58) (a b : Int) (ha : Ar.Wd a) (hb : Ar.Wd b) : Ar.Wd (amoP op a b) := by
  unfold amoP
  split <;> first
    | exact hb
    | exact wf_u32 (wf_bits _ _ _ _)
    | (unfold Ar.add Ar.md Ar.Wd; omega)
    | (unfold pk; split <;> assumption)
theorem world_setCell_comm (W : World) (g i j : Nat) (hij : i ≠ j) (u v : Value) : (W.setCell ⟨g, i, none⟩ u).setCell ⟨g, j, none⟩ v = (W.setCell ⟨g, j, none⟩ v).setCell ⟨g, i, none⟩ u := by
  unfold World.setCell
  simp only [Option.isSome_none, Bool.false_eq_true, if_false]
  congr 1
  apply Array.ext
  · simp
  · intro k h1 h2
    simp only [Array.getElem_modify]
    by_cases hk : g = k
    · subst hk
      simp only [if_true]
      cases W.heap[g]'(by simpa using h1) <;> simp [Array.setIfInBounds_comm _ _ hij]
    · simp only [if_neg hk]
theorem Al.val_wd {bs : List Int} (h : Im.Byt bs) {o k : Nat} (hk : k = 1 ∨ k = 2 ∨ k = 4) (hl : o + k ≤ bs.length) : Ar.Wd (Im.val (Im.win bs o k)) := by
  have b := fun j => Im.getD_byt h j
  unfold Ar.Wd
  rcases hk with rfl | rfl | rfl
  · rw [Im.win1 hl]; have := b o; simp only [Im.val]; omega
  · rw [Im.win2 hl]; have := b o; have := b (o + 1); simp only [Im.val]; omega
  · rw [Im.win4 hl]; have := b o; have := b (o + 1); have := b (o + 2); have := b (o + 3); simp only [Im.val]; omega
set_option maxRecDepth 100000 in
set_option maxHeartbeats 2000000 in
theorem do_1 (q p g : Nat) (bs : List Int) (rs : Bool) (pl : Int) (a : A) (w : World) (hm : Mem w q p g bs rs pl) (hi : In a bs.length) (hk : a.kind = 1) :
    Calls Tryz.prog 73 #[.pointer (some ⟨q, 0, none⟩), accV a] w fun e w' => e = .returned (ansV (Al.at bs a) false) ∧ Mem w' q p g bs rs pl ∧ Og.Kept q g w w' := by
  have hlq := hm.lt
  have hlp := im_heap_lt hm.img.ptr
  have hb0 : Below w.heap.size w ((w.alloc (.cells (acells a).toArray 37)).alloc (.cells Al.xzero 28)) := ((Below.refl w.heap.size w).alloc (Nat.le_refl _) (.cells (acells a).toArray 37)).alloc (by simp only [World.size_alloc]; omega) (.cells Al.xzero 28)
  have hm2 := hm.below hb0
  have k0 := (heap_b2 w (.cells (acells a).toArray 37) (.cells Al.xzero 28)).1
  have k1 := (heap_b2 w (.cells (acells a).toArray 37) (.cells Al.xzero 28)).2
  have kd : ((w.alloc (.cells (acells a).toArray 37)).alloc (.cells Al.xzero 28)).cell? ⟨w.heap.size, 0, none⟩ = some (.int .i64 a.kind) := by rw [cell_of_row _ _ 0 _ _ _ k0]; rfl
  have HLT := Lib.hid (show p ≠ w.heap.size + 1 ∧ q ≠ w.heap.size + 1 ∧ g ≠ w.heap.size + 1 by omega)
  have hne1 : w.heap.size ≠ q := by omega
  have hne2 : w.heap.size ≠ g := by omega
  have HM1 := Lib.hid hm2; have HR0 := Lib.hid k0; have HR1 := Lib.hid k1; have HKP := Lib.hid (Og.Kept.of_below (q := q) (g := g) hb0)
  clear hm hm2 k0 k1 hb0
  have HL := Lib.hid (fun (x : World) (hx : Below ((w.alloc (.cells (acells a).toArray 37)).alloc (.cells Al.xzero 28)).heap.size ((w.alloc (.cells (acells a).toArray 37)).alloc (.cells Al.xzero 28)) x) => load_any q p g bs rs pl a x (HM1.out.below hx) hi)
  rw [hk] at kd
  clear hi hk
  generalize Al.at bs a = v at HL ⊢
  unfold accV
  go_enter Tryz.func73, Tryz.ntmps73
  go_wp2_with (first
    | (show wpList _ _ _ (Oper.mk (some 13) _ _ _ _ _ :: _) _ _; refine wpList_load_row rfl 37 (.tmp 3) rfl w.heap.size rfl 37 (acells a).toArray (0, 0) _ HR0.out Tryz.underlying37 rfl (by kernel_rfl) ?_)
    | (go_at_call 97; refine (HL.out _ (Below.refl _ _)).mono ?_; rintro e w2 ⟨rfl, hb⟩; have HM4 := Lib.hid (HM1.out.below hb); have HR1' := HR1; clear HR1; have HR1 := Lib.hid ((hb.block _ (Array.getElem?_eq_some_iff.1 HR1'.out).1).trans HR1'.out); have HKP' := HKP; clear HKP; have HKP := Lib.hid (HKP'.out.below hb); unfold ansV; clear hb HR1' HKP')
    | (show wpList _ _ _ (Oper.mk none _ _ _ _ _ :: _) _ _; refine wpList_store_row rfl 28 (.tmp 4) (.tmp 14) rfl (w.heap.size + 1) #[.int .u32 v, .bool false] rfl rfl 28 Al.xzero HR1.out (by kernel_rfl) (by kernel_rfl) (by kernel_rfl) ?_))
  refine bodyPost_ret (v := .agg #[.int .u32 v, .bool false]) ?_ rfl ⟨rfl, ?_, HKP.out.setRow (by omega) _⟩
  · exact results_cell_row (fn := Tryz.f73) rfl _ _ (w.heap.size + 1) 28 #[.int .u32 v, .bool false] (0, 0) _ rfl (setRow_heap _ _ _ _ _ _ HR1.out) Tryz.underlying28 rfl (by kernel_rfl)
  · exact HM4.out.setrow HLT.out _
set_option maxRecDepth 100000 in
set_option maxHeartbeats 2000000 in
theorem do_2 (q p g : Nat) (bs : List Int) (rs : Bool) (pl : Int) (a : A) (w : World) (hm : Mem w q p g bs rs pl) (hi : In a bs.length) (hv : Ar.Wd a.value) (hk : a.kind = 2) :
    Calls Tryz.prog 73 #[.pointer (some ⟨q, 0, none⟩), accV a] w fun e w' => e = .returned (ansV 0 false) ∧ Mem w' q p g (Al.put bs a a.value) rs pl ∧ Og.Kept q g w w' := by
  have hlq := hm.lt
  have hlp := im_heap_lt hm.img.ptr
  have hb0 : Below w.heap.size w ((w.alloc (.cells (acells a).toArray 37)).alloc (.cells Al.xzero 28)) := ((Below.refl w.heap.size w).alloc (Nat.le_refl _) (.cells (acells a).toArray 37)).alloc (by simp only [World.size_alloc]; omega) (.cells Al.xzero 28)
  have hm2 := hm.below hb0
  have k0 := (heap_b2 w (.cells (acells a).toArray 37) (.cells Al.xzero 28)).1
  have k1 := (heap_b2 w (.cells (acells a).toArray 37) (.cells Al.xzero 28)).2
  have kd : ((w.alloc (.cells (acells a).toArray 37)).alloc (.cells Al.xzero 28)).cell? ⟨w.heap.size, 0, none⟩ = some (.int .i64 a.kind) := by rw [cell_of_row _ _ 0 _ _ _ k0]; rfl
  have HLT := Lib.hid (show p ≠ w.heap.size + 1 ∧ q ≠ w.heap.size + 1 ∧ g ≠ w.heap.size + 1 by omega)
  have hne1 : w.heap.size ≠ q := by omega
  have hne2 : w.heap.size ≠ g := by omega
  have HM1 := Lib.hid hm2; have HR0 := Lib.hid k0; have HR1 := Lib.hid k1; have HKP := Lib.hid (Og.Kept.of_below (q := q) (g := g) hb0)
  clear hm hm2 k0 k1 hb0
  obtain ⟨ad, k, had, hkk, hk3, hal, hle⟩ := hi.nat
  have hbd := HM1.out.img.bd
  have e : Al.put bs a a.value = Im.sets bs ad (Im.byt a.value) k := by unfold Al.put; rw [had, hkk]; rfl
  rw [e]
  have HAL := Lib.hid (show ad ≤ 4294967295 ∧ (k = 1 ∨ k = 2 ∨ k = 4) ∧ ad % k = 0 ∧ ad < bs.length by omega)
  have HAD := Lib.hid had; have HK := Lib.hid hkk; have HV := Lib.hid hv
  rw [hk] at kd
  clear hi hk hkk hk3 hal hle hbd e had hv
  unfold accV ansV
  go_enter Tryz.func73, Tryz.ntmps73
  go_wp2
  refine Og.regionK (by kernel_rfl) 11 10 q g (fun z => Mem z q p g (Im.sets bs ad (Im.byt a.value) k) rs pl) HM1.out.lt.1 HM1.out.lt.2 (fun t => ([(17, 0), (18, 1), (19, 2), (20, 3), (21, 4), (22, 5), (23, 6), (24, 7), (25, 8), (26, 9), (27, 10)] : List (Nat × Nat)).lookup t) [.is (.pointer (some ⟨q, 0, none⟩)), .is (.pointer (some ⟨q, 0, none⟩)), .is (.pointer (some ⟨q, 0, none⟩)), .is (.pointer (some ⟨p, 0, none⟩)), .is (.pointer (some ⟨w.heap.size, 1, none⟩)), .is (.int .u32 (ad : Int)), .is (.pointer (some ⟨w.heap.size, 2, none⟩)), .is (.int .i64 (k : Int)), .is (.pointer (some ⟨w.heap.size, 3, none⟩)), .is (.int .u32 a.value), .is (.int .i64 0)] [true, true, true, true, true, true, true, true, true, true, true] (by kernel_rfl) ?_ ?_
  · refine ⟨?_, ?_, ?_, ?_, ?_, ?_, ?_, ?_, ?_, ?_, ?_, trivial⟩
    · refine ⟨rfl, (if_neg (by decide)).mpr fun ρ xw b hr hd => ?_⟩
      obtain ⟨d0, _⟩ := hd
      have d0 : ρ (.tmp 0) = .pointer (some ⟨q, 0, none⟩) := d0
      refine (if_pos (by rfl)).mpr ?_
      refine Og.gives_is (.pointer (some ⟨q, 0, none⟩)) ?_ (And.intro (Below.refl _ _) rfl)
      go_simp
    · refine ⟨rfl, (if_neg (by decide)).mpr fun ρ xw b hr hd => ?_⟩
      obtain ⟨d0, _⟩ := hd
      have d0 : ρ (.tmp 17) = .pointer (some ⟨q, 0, none⟩) := d0
      refine (if_pos (by rfl)).mpr ?_
      refine Og.gives_is (.pointer (some ⟨q, 0, none⟩)) ?_ (And.intro (Below.refl _ _) rfl)
      go_simp
    · refine ⟨rfl, (if_neg (by decide)).mpr fun ρ xw b hr hd => ?_⟩
      obtain ⟨d0, _⟩ := hd
      have d0 : ρ (.tmp 18) = .pointer (some ⟨q, 0, none⟩) := d0
      refine (if_pos (by rfl)).mpr ?_
      refine Og.gives_is (.pointer (some ⟨q, 0, none⟩)) ?_ (And.intro (Below.refl _ _) rfl)
      go_simp
    · refine ⟨rfl, (if_neg (by decide)).mpr fun ρ xw b hr hd => ?_⟩
      obtain ⟨d0, _⟩ := hd
      have d0 : ρ (.tmp 19) = .pointer (some ⟨q, 0, none⟩) := d0
      refine (if_pos (by rfl)).mpr ?_
      have hc : xw.cell? ⟨q, 0, none⟩ = some (.pointer (some ⟨p, 0, none⟩)) := (by obtain ⟨_, _, _, hmx⟩ := HM1.out.ph hr; exact hmx.cell0)
      refine Og.gives_is (.pointer (some ⟨p, 0, none⟩)) ?_ (And.intro (Below.refl _ _) rfl)
      go_simp
    · refine ⟨rfl, (if_neg (by decide)).mpr fun ρ xw b hr hd => ?_⟩
      obtain ⟨d0, _⟩ := hd
      have d0 : ρ (.tmp 3) = .pointer (some ⟨w.heap.size, 0, none⟩) := d0
      refine (if_pos (by rfl)).mpr ?_
      refine Og.gives_is (.pointer (some ⟨w.heap.size, 1, none⟩)) ?_ (And.intro (Below.refl _ _) rfl)
      go_simp
    · refine ⟨rfl, (if_neg (by decide)).mpr fun ρ xw b hr hd => ?_⟩
      obtain ⟨d0, _⟩ := hd
      have d0 : ρ (.tmp 21) = .pointer (some ⟨w.heap.size, 1, none⟩) := d0
      refine (if_pos (by rfl)).mpr ?_
      have hc : xw.cell? ⟨w.heap.size, 1, none⟩ = some (.int .u32 (ad : Int)) := (by rw [cell_of_row _ _ 1 _ _ _ (hr.old hne1 hne2 HR0.out), ← HAD.out]; rfl)
      refine Og.gives_is (.int .u32 (ad : Int)) ?_ (And.intro (Below.refl _ _) rfl)
      go_simp
    · refine ⟨rfl, (if_neg (by decide)).mpr fun ρ xw b hr hd => ?_⟩
      obtain ⟨d0, _⟩ := hd
      have d0 : ρ (.tmp 3) = .pointer (some ⟨w.heap.size, 0, none⟩) := d0
      refine (if_pos (by rfl)).mpr ?_
      refine Og.gives_is (.pointer (some ⟨w.heap.size, 2, none⟩)) ?_ (And.intro (Below.refl _ _) rfl)
      go_simp
    · refine ⟨rfl, (if_neg (by decide)).mpr fun ρ xw b hr hd => ?_⟩
      obtain ⟨d0, _⟩ := hd
      have d0 : ρ (.tmp 23) = .pointer (some ⟨w.heap.size, 2, none⟩) := d0
      refine (if_pos (by rfl)).mpr ?_
      have hc : xw.cell? ⟨w.heap.size, 2, none⟩ = some (.int .i64 (k : Int)) := (by rw [cell_of_row _ _ 2 _ _ _ (hr.old hne1 hne2 HR0.out), ← HK.out]; rfl)
      refine Og.gives_is (.int .i64 (k : Int)) ?_ (And.intro (Below.refl _ _) rfl)
      go_simp
    · refine ⟨rfl, (if_neg (by decide)).mpr fun ρ xw b hr hd => ?_⟩
      obtain ⟨d0, _⟩ := hd
      have d0 : ρ (.tmp 3) = .pointer (some ⟨w.heap.size, 0, none⟩) := d0
      refine (if_pos (by rfl)).mpr ?_
      refine Og.gives_is (.pointer (some ⟨w.heap.size, 3, none⟩)) ?_ (And.intro (Below.refl _ _) rfl)
      go_simp
    · refine ⟨rfl, (if_neg (by decide)).mpr fun ρ xw b hr hd => ?_⟩
      obtain ⟨d0, _⟩ := hd
      have d0 : ρ (.tmp 25) = .pointer (some ⟨w.heap.size, 3, none⟩) := d0
      refine (if_pos (by rfl)).mpr ?_
      have hc : xw.cell? ⟨w.heap.size, 3, none⟩ = some (.int .u32 a.value) := (by rw [cell_of_row _ _ 3 _ _ _ (hr.old hne1 hne2 HR0.out)]; rfl)
      refine Og.gives_is (.int .u32 a.value) ?_ (And.intro (Below.refl _ _) rfl)
      go_simp
    · refine ⟨rfl, (if_pos (by rfl)).mpr ⟨rfl, fun ρ xw hr hd => ?_⟩⟩
      obtain ⟨d0, d1, d2, d3, d4, _⟩ := hd
      have d0 : ρ (.func 98) = .func (.func 98) #[] #[] := d0
      have d1 : ρ (.tmp 20) = .pointer (some ⟨p, 0, none⟩) := d1
      have d2 : ρ (.tmp 22) = .int .u32 (ad : Int) := d2
      have d3 : ρ (.tmp 24) = .int .i64 (k : Int) := d3
      have d4 : ρ (.tmp 26) = .int .u32 a.value := d4
      have hmx := HM1.out.below hr
      refine Og.gives_call 98 #[.pointer (some ⟨p, 0, none⟩), .int .u32 (ad : Int), .int .i64 (k : Int), .int .u32 a.value] ?_ ?_
      · go_simp
      · refine (write_goes p g bs ad k a.value xw HAL.out.1 HV.out hmx.img HAL.out.2.1 HAL.out.2.2.1 HAL.out.2.2.2).mono ?_
        rintro e w3 ⟨rfl, hi3, hg3⟩
        have hmz : Mem w3 q p g (Im.sets bs ad (Im.byt a.value) k) rs pl := ⟨hi3, (hg3.block q hmx.lt.1 (by simpa using hmx.qg)).trans hmx.own, hmx.qg, hmx.qp⟩
        exact ⟨_, rfl, ⟨Og.Kept.of_grown hg3, xw, w3, hr, Og.Kept.of_grown hg3, hmz, Below.refl _ _⟩, rfl⟩
  · intro vs w4 hph hvs
    have hph : Og.PhK _ q g (fun z => Mem z q p g (Im.sets bs ad (Im.byt a.value) k) rs pl) true w4 := hph
    have nv0 : vs 0 = .pointer (some ⟨q, 0, none⟩) := hvs 0 _ 17 rfl rfl
    have nv1 : vs 1 = .pointer (some ⟨q, 0, none⟩) := hvs 1 _ 18 rfl rfl
    have nv2 : vs 2 = .pointer (some ⟨q, 0, none⟩) := hvs 2 _ 19 rfl rfl
    have nv3 : vs 3 = .pointer (some ⟨p, 0, none⟩) := hvs 3 _ 20 rfl rfl
    have nv4 : vs 4 = .pointer (some ⟨w.heap.size, 1, none⟩) := hvs 4 _ 21 rfl rfl
    have nv5 : vs 5 = .int .u32 (ad : Int) := hvs 5 _ 22 rfl rfl
    have nv6 : vs 6 = .pointer (some ⟨w.heap.size, 2, none⟩) := hvs 6 _ 23 rfl rfl
    have nv7 : vs 7 = .int .i64 (k : Int) := hvs 7 _ 24 rfl rfl
    have nv8 : vs 8 = .pointer (some ⟨w.heap.size, 3, none⟩) := hvs 8 _ 25 rfl rfl
    have nv9 : vs 9 = .int .u32 a.value := hvs 9 _ 26 rfl rfl
    have nv10 : vs 10 = .int .i64 0 := hvs 10 _ 27 rfl rfl
    simp only [List.take_succ_cons, List.take_zero, List.drop_succ_cons, List.drop_zero, Og.putAll, Act.put, List.setIfInBounds_toArray, List.set_cons_zero, List.set_cons_succ, Nat.zero_add, Nat.reduceAdd, nv0, nv1, nv2, nv3, nv4, nv5, nv6, nv7, nv8, nv9, nv10]
    have HR1' := HR1; clear HR1; have HR1 := Lib.hid (hph.old (by omega) (by omega) HR1'.out)
    have HKP' := HKP; clear HKP; have HKP := Lib.hid (HKP'.out.trans hph.kept)
    obtain ⟨z, hz, hx⟩ := Og.PhK.post hph
    have HM4 := Lib.hid (hz.below hx)
    clear hph hvs hz hx HR1' HKP'
    go_wp2_with (show wpList _ _ _ (Oper.mk none _ _ _ _ _ :: _) _ _; refine wpList_store_row rfl 28 (.tmp 4) (.tmp 72) rfl (w.heap.size + 1) #[.int .u32 0, .bool false] rfl rfl 28 Al.xzero HR1.out (by kernel_rfl) (by kernel_rfl) (by kernel_rfl) ?_)
    refine bodyPost_ret (v := .agg #[.int .u32 0, .bool false]) ?_ rfl ⟨rfl, ?_, HKP.out.setRow (by omega) _⟩
    · exact results_cell_row (fn := Tryz.f73) rfl _ _ (w.heap.size + 1) 28 #[.int .u32 0, .bool false] (0, 0) _ rfl (setRow_heap _ _ _ _ _ _ HR1.out) Tryz.underlying28 rfl (by kernel_rfl)
    · exact HM4.out.setrow HLT.out _
  
set_option maxRecDepth 100000 in
set_option maxHeartbeats 2000000 in
theorem do_3 (q p g : Nat) (bs : List Int) (rs : Bool) (pl : Int) (a : A) (w : World) (hm : Mem w q p g bs rs pl) (hi : In a bs.length) (hk : a.kind = 3) :
    Calls Tryz.prog 73 #[.pointer (some ⟨q, 0, none⟩), accV a] w fun e w' => e = .returned (ansV (Al.at bs a) false) ∧ Mem w' q p g bs true a.addr ∧ Og.Kept q g w w' := by
  have hlq := hm.lt
  have hlp := im_heap_lt hm.img.ptr
  have hb0 : Below w.heap.size w ((w.alloc (.cells (acells a).toArray 37)).alloc (.cells Al.xzero 28)) := ((Below.refl w.heap.size w).alloc (Nat.le_refl _) (.cells (acells a).toArray 37)).alloc (by simp only [World.size_alloc]; omega) (.cells Al.xzero 28)
  have hm2 := hm.below hb0
  have k0 := (heap_b2 w (.cells (acells a).toArray 37) (.cells Al.xzero 28)).1
  have k1 := (heap_b2 w (.cells (acells a).toArray 37) (.cells Al.xzero 28)).2
  have kd : ((w.alloc (.cells (acells a).toArray 37)).alloc (.cells Al.xzero 28)).cell? ⟨w.heap.size, 0, none⟩ = some (.int .i64 a.kind) := by rw [cell_of_row _ _ 0 _ _ _ k0]; rfl
  have HLT := Lib.hid (show p ≠ w.heap.size + 1 ∧ q ≠ w.heap.size + 1 ∧ g ≠ w.heap.size + 1 by omega)
  have hne1 : w.heap.size ≠ q := by omega
  have hne2 : w.heap.size ≠ g := by omega
  have HM1 := Lib.hid hm2; have HR0 := Lib.hid k0; have HR1 := Lib.hid k1; have HKP := Lib.hid (Og.Kept.of_below (q := q) (g := g) hb0)
  clear hm hm2 k0 k1 hb0
  have c1 := HM1.out.cell1
  have c2 := HM1.out.cell2
  have f1 := frozen_of_row ((w.alloc (.cells (acells a).toArray 37)).alloc (.cells Al.xzero 28)) q 1 _ _ HM1.out.own
  have f2 := frozen_of_row ((w.alloc (.cells (acells a).toArray 37)).alloc (.cells Al.xzero 28)) q 2 _ _ HM1.out.own
  have a1 : ((w.alloc (.cells (acells a).toArray 37)).alloc (.cells Al.xzero 28)).cell? ⟨w.heap.size, 1, none⟩ = some (.int .u32 a.addr) := by rw [cell_of_row _ _ 1 _ _ _ HR0.out]; rfl
  obtain ⟨V0, hV0⟩ : ∃ V0, V0 = ((w.alloc (.cells (acells a).toArray 37)).alloc (.cells Al.xzero 28)) := ⟨_, rfl⟩
  rw [← hV0] at kd c1 c2 f1 f2 a1 HM1 HR0 HR1 HKP
  have cm := world_setCell_comm V0 q 2 1 (by decide) (.int .u32 a.addr) (.bool true)
  obtain ⟨V1, hV1⟩ : ∃ V1, V1 = ((V0.setCell ⟨q, 1, none⟩ (.bool true)).setCell ⟨q, 2, none⟩ (.int .u32 a.addr)).drew := ⟨_, rfl⟩
  have hm1 : Mem V1 q p g bs true a.addr := by rw [hV1]; exact ((HM1.out.setq 1 _ true pl rfl).setq 2 _ true a.addr rfl).drewN 1
  have hr0 : V1.heap[w.heap.size]? = some (.cells (acells a).toArray 37 (0, 0)) := by rw [hV1]; exact (Below.heap_setCell _ _ _ _ (by show w.heap.size ≠ q; omega)).trans ((Below.heap_setCell _ _ _ _ (by show w.heap.size ≠ q; omega)).trans HR0.out)
  have hr1 : V1.heap[w.heap.size + 1]? = some (.cells Al.xzero 28 (0, 0)) := by rw [hV1]; exact (Below.heap_setCell _ _ _ _ (by show w.heap.size + 1 ≠ q; omega)).trans ((Below.heap_setCell _ _ _ _ (by show w.heap.size + 1 ≠ q; omega)).trans HR1.out)
  have hkp : Og.Kept q g w V1 := by rw [hV1]; exact ((HKP.out.setCell 1 _).setCell 2 _).below ⟨rfl, rfl, rfl, Nat.le_refl _, fun _ _ => rfl⟩
  have HL := Lib.hid (fun (x : World) (hx : Below V1.heap.size V1 x) => load_any q p g bs true a.addr a x (hm1.below hx) hi)
  clear HM1 HR0 HR1 HKP
  have HM1 := Lib.hid hm1; have HR0 := Lib.hid hr0; have HR1 := Lib.hid hr1; have HKP := Lib.hid hkp; have HV1 := Lib.hid hV1; have HV0 := Lib.hid hV0
  rw [hk] at kd
  clear hi hk hm1 hr0 hr1 hkp hV1 hV0
  generalize Al.at bs a = v at HL ⊢
  unfold accV
  go_enter Tryz.func73, Tryz.ntmps73
  go_wp2_with (show wpList _ _ _ (Oper.mk (some 8) _ _ _ _ _ :: _) _ _; rw [← HV0.out]; clear HV0; skip)
  refine' (fun (key : Hid _) => _) (Lib.hid _)
  · go_region
    all_goals exact key.out
  clear cm c1 c2 f1 f2 a1 kd
  rw [← HV1.out]
  clear HV1
  go_wp2_with (first
    | (show wpList _ _ _ (Oper.mk (some 39) _ _ _ _ _ :: _) _ _; refine wpList_load_row rfl 37 (.tmp 3) rfl w.heap.size rfl 37 (acells a).toArray (0, 0) _ HR0.out Tryz.underlying37 rfl (by kernel_rfl) ?_)
    | (go_at_call 97; refine (HL.out _ (Below.refl _ _)).mono ?_; rintro e w2 ⟨rfl, hb⟩; have HM4 := Lib.hid (HM1.out.below hb); have HR1' := HR1; clear HR1; have HR1 := Lib.hid ((hb.block _ (Array.getElem?_eq_some_iff.1 HR1'.out).1).trans HR1'.out); have HKP' := HKP; clear HKP; have HKP := Lib.hid (HKP'.out.below hb); unfold ansV; clear hb HR1' HKP')
    | (show wpList _ _ _ (Oper.mk none _ _ _ _ _ :: _) _ _; refine wpList_store_row rfl 28 (.tmp 4) (.tmp 40) rfl (w.heap.size + 1) #[.int .u32 v, .bool false] rfl rfl 28 Al.xzero HR1.out (by kernel_rfl) (by kernel_rfl) (by kernel_rfl) ?_))
  refine bodyPost_ret (v := .agg #[.int .u32 v, .bool false]) ?_ rfl ⟨rfl, ?_, HKP.out.setRow (by omega) _⟩
  · exact results_cell_row (fn := Tryz.f73) rfl _ _ (w.heap.size + 1) 28 #[.int .u32 v, .bool false] (0, 0) _ rfl (setRow_heap _ _ _ _ _ _ HR1.out) Tryz.underlying28 rfl (by kernel_rfl)
  · exact HM4.out.setrow HLT.out _
set_option maxRecDepth 100000 in
set_option maxHeartbeats 2000000 in
theorem do_4 (q p g : Nat) (bs : List Int) (rs : Bool) (pl : Int) (a : A) (w : World) (hm : Mem w q p g bs rs pl) (hi : In a bs.length) (hv : Ar.Wd a.value) (hk : a.kind = 4) :
    Calls Tryz.prog 73 #[.pointer (some ⟨q, 0, none⟩), accV a] w fun e w' => e = .returned (ansV 0 (rs && pl == a.addr)) ∧ Mem w' q p g (if (rs && pl == a.addr) = true then Al.put bs a a.value else bs) false pl ∧ Og.Kept q g w w' := by
  have hlq := hm.lt
  have hlp := im_heap_lt hm.img.ptr
  have hb0 : Below w.heap.size w ((w.alloc (.cells (acells a).toArray 37)).alloc (.cells Al.xzero 28)) := ((Below.refl w.heap.size w).alloc (Nat.le_refl _) (.cells (acells a).toArray 37)).alloc (by simp only [World.size_alloc]; omega) (.cells Al.xzero 28)
  have hm2 := hm.below hb0
  have k0 := (heap_b2 w (.cells (acells a).toArray 37) (.cells Al.xzero 28)).1
  have k1 := (heap_b2 w (.cells (acells a).toArray 37) (.cells Al.xzero 28)).2
  have kd : ((w.alloc (.cells (acells a).toArray 37)).alloc (.cells Al.xzero 28)).cell? ⟨w.heap.size, 0, none⟩ = some (.int .i64 a.kind) := by rw [cell_of_row _ _ 0 _ _ _ k0]; rfl
  have HLT := Lib.hid (show p ≠ w.heap.size + 1 ∧ q ≠ w.heap.size + 1 ∧ g ≠ w.heap.size + 1 by omega)
  have hne1 : w.heap.size ≠ q := by omega
  have hne2 : w.heap.size ≠ g := by omega
  have HM1 := Lib.hid hm2; have HR0 := Lib.hid k0; have HR1 := Lib.hid k1; have HKP := Lib.hid (Og.Kept.of_below (q := q) (g := g) hb0)
  clear hm hm2 k0 k1 hb0
  have HL := Lib.hid (fun (x : World) (hx : Below ((w.alloc (.cells (acells a).toArray 37)).alloc (.cells Al.xzero 28)).heap.size ((w.alloc (.cells (acells a).toArray 37)).alloc (.cells Al.xzero 28)) x) => sres_any q p g bs rs pl a x (HM1.out.below hx) hi hv)
  rw [hk] at kd
  clear hi hk hv
  generalize (if (rs && pl == a.addr) = true then Al.put bs a a.value else bs) = bs2 at *
  generalize (rs && pl == a.addr) = ok2 at *
  unfold accV
  go_enter Tryz.func73, Tryz.ntmps73
  go_wp2_with (first
    | (show wpList _ _ _ (Oper.mk (some 44) _ _ _ _ _ :: _) _ _; refine wpList_load_row rfl 37 (.tmp 3) rfl w.heap.size rfl 37 (acells a).toArray (0, 0) _ HR0.out Tryz.underlying37 rfl (by kernel_rfl) ?_)
    | (go_at_call 99; refine (HL.out _ (Below.refl _ _)).mono ?_; rintro e w2 ⟨rfl, hm4, hb⟩; have HM4 := Lib.hid hm4; have HR1' := HR1; clear HR1; have HR1 := Lib.hid ((hb.block _ (Array.getElem?_eq_some_iff.1 HR1'.out).1 (by omega) (by omega)).trans HR1'.out); have HKP' := HKP; clear HKP; have HKP := Lib.hid (HKP'.out.trans hb); unfold ansV; clear hb hm4 HR1' HKP')
    | (show wpList _ _ _ (Oper.mk none _ _ _ _ _ :: _) _ _; refine wpList_store_row rfl 28 (.tmp 4) (.tmp 45) rfl (w.heap.size + 1) #[.int .u32 0, .bool ok2] rfl rfl 28 Al.xzero HR1.out (by kernel_rfl) (by kernel_rfl) (by kernel_rfl) ?_))
  refine bodyPost_ret (v := .agg #[.int .u32 0, .bool ok2]) ?_ rfl ⟨rfl, ?_, HKP.out.setRow (by omega) _⟩
  · exact results_cell_row (fn := Tryz.f73) rfl _ _ (w.heap.size + 1) 28 #[.int .u32 0, .bool ok2] (0, 0) _ rfl (setRow_heap _ _ _ _ _ _ HR1.out) Tryz.underlying28 rfl (by kernel_rfl)
  · exact HM4.out.setrow HLT.out _
set_option maxRecDepth 100000 in
set_option maxHeartbeats 2000000 in
theorem do_5 (q p g : Nat) (bs : List Int) (rs : Bool) (pl : Int) (a : A) (w : World) (hm : Mem w q p g bs rs pl) (hi : In a bs.length) (hv : Ar.Wd a.value) (hk : a.kind = 5) (op : Nat) (hop : 50 ≤ op ∧ op ≤ 58) (ho : a.op = op) :
    Calls Tryz.prog 73 #[.pointer (some ⟨q, 0, none⟩), accV a] w fun e w' => e = .returned (ansV (Al.at bs a) false) ∧ Mem w' q p g (Al.put bs a (amoP op (Al.at bs a) a.value)) rs pl ∧ Og.Kept q g w w' := by
  have hlq := hm.lt
  have hlp := im_heap_lt hm.img.ptr
  have hb0 : Below w.heap.size w ((w.alloc (.cells (acells a).toArray 37)).alloc (.cells Al.xzero 28)) := ((Below.refl w.heap.size w).alloc (Nat.le_refl _) (.cells (acells a).toArray 37)).alloc (by simp only [World.size_alloc]; omega) (.cells Al.xzero 28)
  have hm2 := hm.below hb0
  have k0 := (heap_b2 w (.cells (acells a).toArray 37) (.cells Al.xzero 28)).1
  have k1 := (heap_b2 w (.cells (acells a).toArray 37) (.cells Al.xzero 28)).2
  have kd : ((w.alloc (.cells (acells a).toArray 37)).alloc (.cells Al.xzero 28)).cell? ⟨w.heap.size, 0, none⟩ = some (.int .i64 a.kind) := by rw [cell_of_row _ _ 0 _ _ _ k0]; rfl
  have HLT := Lib.hid (show p ≠ w.heap.size + 1 ∧ q ≠ w.heap.size + 1 ∧ g ≠ w.heap.size + 1 by omega)
  have hne1 : w.heap.size ≠ q := by omega
  have hne2 : w.heap.size ≠ g := by omega
  have HM1 := Lib.hid hm2; have HR0 := Lib.hid k0; have HR1 := Lib.hid k1; have HKP := Lib.hid (Og.Kept.of_below (q := q) (g := g) hb0)
  clear hm hm2 k0 k1 hb0
  obtain ⟨ad, k, had, hkk, hk3, hal, hle⟩ := hi.nat
  have hbd := HM1.out.img.bd
  have hvw : Ar.Wd (Al.at bs a) := by
    have e : Al.at bs a = Im.val (Im.win bs ad k) := by unfold Al.at; rw [had, hkk]; rfl
    rw [e]; exact Al.val_wd HM1.out.img.byt hk3 hle
  have e : ∀ v, Al.put bs a v = Im.sets bs ad (Im.byt v) k := fun v => by unfold Al.put; rw [had, hkk]; rfl
  rw [e]
  have HL := Lib.hid (fun (x : World) (hx : Below ((w.alloc (.cells (acells a).toArray 37)).alloc (.cells Al.xzero 28)).heap.size ((w.alloc (.cells (acells a).toArray 37)).alloc (.cells Al.xzero 28)) x) => load_any q p g bs rs pl a x (HM1.out.below hx) hi)
  have HAM := Lib.hid (fun w => amo_any op hop (Al.at bs a) a.value hvw hv w)
  have hnv := amoP_wd op hop (Al.at bs a) a.value hvw hv
  generalize Al.at bs a = v at HL HAM hnv ⊢
  generalize amoP op v a.value = nv at HAM hnv ⊢
  have HAL := Lib.hid (show ad ≤ 4294967295 ∧ (k = 1 ∨ k = 2 ∨ k = 4) ∧ ad % k = 0 ∧ ad < bs.length by omega)
  have HAD := Lib.hid had; have HK := Lib.hid hkk; have HV := Lib.hid hnv; have HO := Lib.hid ho
  rw [hk] at kd
  clear hi hk hkk hk3 hal hle hbd e had hv hnv hvw hop ho
  unfold accV
  go_enter Tryz.func73, Tryz.ntmps73
  go_wp2_with (show wpList _ _ _ (Oper.mk (some 49) _ _ _ _ _ :: _) _ _; refine wpList_load_row rfl 37 (.tmp 3) rfl w.heap.size rfl 37 (acells a).toArray (0, 0) _ HR0.out Tryz.underlying37 rfl (by kernel_rfl) ?_)
  refine (HL.out _ (Below.refl _ _)).mono ?_
  rintro e w2 ⟨rfl, hb⟩
  have r0 := (hb.block _ (Array.getElem?_eq_some_iff.1 HR0.out).1).trans HR0.out
  have r1 := (hb.block _ (Array.getElem?_eq_some_iff.1 HR1.out).1).trans HR1.out
  have m2 := HM1.out.below hb
  have kp := HKP.out.below hb
  have z2 : w.heap.size + 2 ≤ w2.heap.size := by have := hb.size; simp only [World.size_alloc] at this; exact this
  obtain ⟨V, hV⟩ : ∃ V, V = (w2.alloc (.cells Al.xzero 28)).setRow w2.heap.size #[.int .u32 v, .bool false] := ⟨_, rfl⟩
  have bV : Below w2.heap.size w2 V := by rw [hV]; exact below_setRow ((Below.refl _ _).alloc (Nat.le_refl _) _) (Nat.le_refl _)
  have r5 : V.heap[w2.heap.size]? = some (.cells #[.int .u32 v, .bool false] 28 (0, 0)) := by rw [hV]; exact setRow_heap _ _ _ _ _ _ (heap_alloc_new _ _)
  have zV : w2.heap.size + 1 ≤ V.heap.size := by rw [hV]; simp
  have c4 : V.cell? ⟨w.heap.size, 4, none⟩ = some (.int .i64 (op : Int)) := by rw [cell_of_row V _ 4 _ _ _ ((bV.block _ (by omega)).trans r0), ← HO.out]; rfl
  have c3 : V.cell? ⟨w.heap.size, 3, none⟩ = some (.int .u32 a.value) := by rw [cell_of_row V _ 3 _ _ _ ((bV.block _ (by omega)).trans r0)]; rfl
  have c5 : V.cell? ⟨w2.heap.size, 0, none⟩ = some (.int .u32 v) := by rw [cell_of_row V _ 0 _ _ _ r5]; rfl
  clear HM1 HR0 HR1 HKP HL kd
  have N0 := Lib.hid ((bV.block _ (by omega)).trans r0); have N1 := Lib.hid ((bV.block _ (by omega)).trans r1); have N5 := Lib.hid r5; have NM := Lib.hid (m2.below bV); have NK := Lib.hid (kp.below bV); have HV5 := Lib.hid hV; have ZV := Lib.hid (And.intro z2 zV)
  clear r0 r1 m2 kp z2 hV bV r5 zV hb
  unfold ansV
  go_wp2_with (show wpList _ _ _ (Oper.mk none _ _ _ _ _ :: _) _ _; have hx := HV5.out; clear HV5; refine wpList_store_row rfl 28 (.tmp 5) (.tmp 50) rfl w2.heap.size #[.int .u32 v, .bool false] rfl rfl 28 Al.xzero (heap_alloc_new _ _) (by kernel_rfl) (by kernel_rfl) (by kernel_rfl) ?_; rw [← hx]; clear hx)
  refine (HAM.out _).mono ?_
  rintro e w6 ⟨rfl, hb⟩
  clear c3 c4 c5 HAM
  have HR0 := Lib.hid ((hb.block _ (Array.getElem?_eq_some_iff.1 N0.out).1).trans N0.out)
  have HR1 := Lib.hid ((hb.block _ (Array.getElem?_eq_some_iff.1 N1.out).1).trans N1.out)
  have HR5 := Lib.hid ((hb.block _ (Array.getElem?_eq_some_iff.1 N5.out).1).trans N5.out)
  have HM1 := Lib.hid (NM.out.below hb)
  have HKP := Lib.hid (NK.out.below hb)
  have Z6 := Lib.hid (show w.heap.size + 3 ≤ w6.heap.size by have := ZV.out; have := hb.size; omega)
  have hz2 := ZV.out.1
  clear N0 N1 N5 NM NK hb ZV
  go_wp2_with fail
  refine Og.regionK (by kernel_rfl) 10 9 q g (fun z => Mem z q p g (Im.sets bs ad (Im.byt nv) k) rs pl) HM1.out.lt.1 HM1.out.lt.2 (fun t => ([(61, 0), (62, 1), (63, 2), (64, 3), (65, 4), (66, 5), (67, 6), (68, 7), (69, 8), (70, 9)] : List (Nat × Nat)).lookup t) [.is (.pointer (some ⟨q, 0, none⟩)), .is (.pointer (some ⟨q, 0, none⟩)), .is (.pointer (some ⟨q, 0, none⟩)), .is (.pointer (some ⟨p, 0, none⟩)), .is (.pointer (some ⟨w.heap.size, 1, none⟩)), .is (.int .u32 (ad : Int)), .is (.pointer (some ⟨w.heap.size, 2, none⟩)), .is (.int .i64 (k : Int)), .is (.int .u32 nv), .is (.int .i64 0)] [true, true, true, true, true, true, true, true, true, true] (by kernel_rfl) ?_ ?_
  · refine ⟨?_, ?_, ?_, ?_, ?_, ?_, ?_, ?_, ?_, ?_, trivial⟩
    · refine ⟨rfl, (if_neg (by decide)).mpr fun ρ xw b hr hd => ?_⟩
      obtain ⟨d0, _⟩ := hd
      have d0 : ρ (.tmp 0) = .pointer (some ⟨q, 0, none⟩) := d0
      refine (if_pos (by rfl)).mpr ?_
      refine Og.gives_is (.pointer (some ⟨q, 0, none⟩)) ?_ (And.intro (Below.refl _ _) rfl)
      go_simp
    · refine ⟨rfl, (if_neg (by decide)).mpr fun ρ xw b hr hd => ?_⟩
      obtain ⟨d0, _⟩ := hd
      have d0 : ρ (.tmp 61) = .pointer (some ⟨q, 0, none⟩) := d0
      refine (if_pos (by rfl)).mpr ?_
      refine Og.gives_is (.pointer (some ⟨q, 0, none⟩)) ?_ (And.intro (Below.refl _ _) rfl)
      go_simp
    · refine ⟨rfl, (if_neg (by decide)).mpr fun ρ xw b hr hd => ?_⟩
      obtain ⟨d0, _⟩ := hd
      have d0 : ρ (.tmp 62) = .pointer (some ⟨q, 0, none⟩) := d0
      refine (if_pos (by rfl)).mpr ?_
      refine Og.gives_is (.pointer (some ⟨q, 0, none⟩)) ?_ (And.intro (Below.refl _ _) rfl)
      go_simp
    · refine ⟨rfl, (if_neg (by decide)).mpr fun ρ xw b hr hd => ?_⟩
      obtain ⟨d0, _⟩ := hd
      have d0 : ρ (.tmp 63) = .pointer (some ⟨q, 0, none⟩) := d0
      refine (if_pos (by rfl)).mpr ?_
      have hc : xw.cell? ⟨q, 0, none⟩ = some (.pointer (some ⟨p, 0, none⟩)) := (by obtain ⟨_, _, _, hmx⟩ := HM1.out.ph hr; exact hmx.cell0)
      refine Og.gives_is (.pointer (some ⟨p, 0, none⟩)) ?_ (And.intro (Below.refl _ _) rfl)
      go_simp
    · refine ⟨rfl, (if_neg (by decide)).mpr fun ρ xw b hr hd => ?_⟩
      obtain ⟨d0, _⟩ := hd
      have d0 : ρ (.tmp 3) = .pointer (some ⟨w.heap.size, 0, none⟩) := d0
      refine (if_pos (by rfl)).mpr ?_
      refine Og.gives_is (.pointer (some ⟨w.heap.size, 1, none⟩)) ?_ (And.intro (Below.refl _ _) rfl)
      go_simp
    · refine ⟨rfl, (if_neg (by decide)).mpr fun ρ xw b hr hd => ?_⟩
      obtain ⟨d0, _⟩ := hd
      have d0 : ρ (.tmp 65) = .pointer (some ⟨w.heap.size, 1, none⟩) := d0
      refine (if_pos (by rfl)).mpr ?_
      have hc : xw.cell? ⟨w.heap.size, 1, none⟩ = some (.int .u32 (ad : Int)) := (by rw [cell_of_row _ _ 1 _ _ _ (hr.old hne1 hne2 HR0.out), ← HAD.out]; rfl)
      refine Og.gives_is (.int .u32 (ad : Int)) ?_ (And.intro (Below.refl _ _) rfl)
      go_simp
    · refine ⟨rfl, (if_neg (by decide)).mpr fun ρ xw b hr hd => ?_⟩
      obtain ⟨d0, _⟩ := hd
      have d0 : ρ (.tmp 3) = .pointer (some ⟨w.heap.size, 0, none⟩) := d0
      refine (if_pos (by rfl)).mpr ?_
      refine Og.gives_is (.pointer (some ⟨w.heap.size, 2, none⟩)) ?_ (And.intro (Below.refl _ _) rfl)
      go_simp
    · refine ⟨rfl, (if_neg (by decide)).mpr fun ρ xw b hr hd => ?_⟩
      obtain ⟨d0, _⟩ := hd
      have d0 : ρ (.tmp 67) = .pointer (some ⟨w.heap.size, 2, none⟩) := d0
      refine (if_pos (by rfl)).mpr ?_
      have hc : xw.cell? ⟨w.heap.size, 2, none⟩ = some (.int .i64 (k : Int)) := (by rw [cell_of_row _ _ 2 _ _ _ (hr.old hne1 hne2 HR0.out), ← HK.out]; rfl)
      refine Og.gives_is (.int .i64 (k : Int)) ?_ (And.intro (Below.refl _ _) rfl)
      go_simp
    · refine ⟨rfl, (if_neg (by decide)).mpr fun ρ xw b hr hd => ?_⟩
      obtain ⟨d0, _⟩ := hd
      have d0 : ρ (.tmp 6) = .int .u32 nv := d0
      refine (if_pos (by rfl)).mpr ?_
      refine Og.gives_is (.int .u32 nv) ?_ (And.intro (Below.refl _ _) rfl)
      go_simp
    · refine ⟨rfl, (if_pos (by rfl)).mpr ⟨rfl, fun ρ xw hr hd => ?_⟩⟩
      obtain ⟨d0, d1, d2, d3, d4, _⟩ := hd
      have d0 : ρ (.func 98) = .func (.func 98) #[] #[] := d0
      have d1 : ρ (.tmp 64) = .pointer (some ⟨p, 0, none⟩) := d1
      have d2 : ρ (.tmp 66) = .int .u32 (ad : Int) := d2
      have d3 : ρ (.tmp 68) = .int .i64 (k : Int) := d3
      have d4 : ρ (.tmp 69) = .int .u32 nv := d4
      have hmx := HM1.out.below hr
      refine Og.gives_call 98 #[.pointer (some ⟨p, 0, none⟩), .int .u32 (ad : Int), .int .i64 (k : Int), .int .u32 nv] ?_ ?_
      · go_simp
      · refine (write_goes p g bs ad k nv xw HAL.out.1 HV.out hmx.img HAL.out.2.1 HAL.out.2.2.1 HAL.out.2.2.2).mono ?_
        rintro e w3 ⟨rfl, hi3, hg3⟩
        have hmz : Mem w3 q p g (Im.sets bs ad (Im.byt nv) k) rs pl := ⟨hi3, (hg3.block q hmx.lt.1 (by simpa using hmx.qg)).trans hmx.own, hmx.qg, hmx.qp⟩
        exact ⟨_, rfl, ⟨Og.Kept.of_grown hg3, xw, w3, hr, Og.Kept.of_grown hg3, hmz, Below.refl _ _⟩, rfl⟩
  · intro vs w4 hph hvs
    have hph : Og.PhK _ q g (fun z => Mem z q p g (Im.sets bs ad (Im.byt nv) k) rs pl) true w4 := hph
    have nv0 : vs 0 = .pointer (some ⟨q, 0, none⟩) := hvs 0 _ 61 rfl rfl
    have nv1 : vs 1 = .pointer (some ⟨q, 0, none⟩) := hvs 1 _ 62 rfl rfl
    have nv2 : vs 2 = .pointer (some ⟨q, 0, none⟩) := hvs 2 _ 63 rfl rfl
    have nv3 : vs 3 = .pointer (some ⟨p, 0, none⟩) := hvs 3 _ 64 rfl rfl
    have nv4 : vs 4 = .pointer (some ⟨w.heap.size, 1, none⟩) := hvs 4 _ 65 rfl rfl
    have nv5 : vs 5 = .int .u32 (ad : Int) := hvs 5 _ 66 rfl rfl
    have nv6 : vs 6 = .pointer (some ⟨w.heap.size, 2, none⟩) := hvs 6 _ 67 rfl rfl
    have nv7 : vs 7 = .int .i64 (k : Int) := hvs 7 _ 68 rfl rfl
    have nv8 : vs 8 = .int .u32 nv := hvs 8 _ 69 rfl rfl
    have nv9 : vs 9 = .int .i64 0 := hvs 9 _ 70 rfl rfl
    simp only [List.take_succ_cons, List.take_zero, List.drop_succ_cons, List.drop_zero, Og.putAll, Act.put, List.setIfInBounds_toArray, List.set_cons_zero, List.set_cons_succ, Nat.zero_add, Nat.reduceAdd, nv0, nv1, nv2, nv3, nv4, nv5, nv6, nv7, nv8, nv9]
    have HR1' := HR1; clear HR1; have HR1 := Lib.hid (hph.old (by omega) (by omega) HR1'.out)
    have HR5' := HR5; clear HR5; have HR5 := Lib.hid (hph.old (by have := Z6.out; omega) (by have := Z6.out; omega) HR5'.out)
    have HKP' := HKP; clear HKP; have HKP := Lib.hid (HKP'.out.trans hph.kept)
    obtain ⟨z, hz, hx⟩ := Og.PhK.post hph
    have HM4 := Lib.hid (hz.below hx)
    clear hph hvs hz hx HR1' HKP' HR5'
    go_wp2_with (first
      | (show wpList _ _ _ (Oper.mk (some 71) _ _ _ _ _ :: _) _ _; refine wpList_load_row rfl 28 (.tmp 5) rfl w2.heap.size rfl 28 #[.int .u32 v, .bool false] (0, 0) _ HR5.out Tryz.underlying28 rfl (by kernel_rfl) ?_)
      | (show wpList _ _ _ (Oper.mk none _ _ _ _ _ :: _) _ _; refine wpList_store_row rfl 28 (.tmp 4) (.tmp 71) rfl (w.heap.size + 1) #[.int .u32 v, .bool false] rfl rfl 28 Al.xzero HR1.out (by kernel_rfl) (by kernel_rfl) (by kernel_rfl) ?_))
    refine bodyPost_ret (v := .agg #[.int .u32 v, .bool false]) ?_ rfl ⟨rfl, ?_, HKP.out.setRow (by omega) _⟩
    · exact results_cell_row (fn := Tryz.f73) rfl _ _ (w.heap.size + 1) 28 #[.int .u32 v, .bool false] (0, 0) _ rfl (setRow_heap _ _ _ _ _ _ HR1.out) Tryz.underlying28 rfl (by kernel_rfl)
    · exact HM4.out.setrow HLT.out _
  
set_option maxRecDepth 100000 in
set_option maxHeartbeats 2000000 in
theorem do_0 (q p g : Nat) (bs : List Int) (rs : Bool) (pl : Int) (a : A) (w : World) (hm : Mem w q p g bs rs pl) (hk : a.kind < 1 ∨ 5 < a.kind) :
    Calls Tryz.prog 73 #[.pointer (some ⟨q, 0, none⟩), accV a] w fun e w' => e = .returned (ansV 0 false) ∧ Mem w' q p g bs rs pl ∧ Og.Kept q g w w' := by
  have hlq := hm.lt
  have hlp := im_heap_lt hm.img.ptr
  have hb0 : Below w.heap.size w ((w.alloc (.cells (acells a).toArray 37)).alloc (.cells Al.xzero 28)) := ((Below.refl w.heap.size w).alloc (Nat.le_refl _) (.cells (acells a).toArray 37)).alloc (by simp only [World.size_alloc]; omega) (.cells Al.xzero 28)
  have hm2 := hm.below hb0
  have k0 := (heap_b2 w (.cells (acells a).toArray 37) (.cells Al.xzero 28)).1
  have k1 := (heap_b2 w (.cells (acells a).toArray 37) (.cells Al.xzero 28)).2
  have kd : ((w.alloc (.cells (acells a).toArray 37)).alloc (.cells Al.xzero 28)).cell? ⟨w.heap.size, 0, none⟩ = some (.int .i64 a.kind) := by rw [cell_of_row _ _ 0 _ _ _ k0]; rfl
  have HLT := Lib.hid (show p ≠ w.heap.size + 1 ∧ q ≠ w.heap.size + 1 ∧ g ≠ w.heap.size + 1 by omega)
  have hne1 : w.heap.size ≠ q := by omega
  have hne2 : w.heap.size ≠ g := by omega
  have HM1 := Lib.hid hm2; have HR0 := Lib.hid k0; have HR1 := Lib.hid k1; have HKP := Lib.hid (Og.Kept.of_below (q := q) (g := g) hb0)
  clear hm hm2 k0 k1 hb0
  have n1 : (a.kind == 1) = false := by simp; omega
  have n2 : (a.kind == 2) = false := by simp; omega
  have n3 : (a.kind == 3) = false := by simp; omega
  have n4 : (a.kind == 4) = false := by simp; omega
  have n5 : (a.kind == 5) = false := by simp; omega
  have HM4 := HM1; clear hk HM1
  unfold accV ansV
  go_enter Tryz.func73, Tryz.ntmps73
  go_wp2_with (show wpList _ _ _ (Oper.mk none _ _ _ _ _ :: _) _ _; refine wpList_store_row rfl 28 (.tmp 4) (.tmp 72) rfl (w.heap.size + 1) #[.int .u32 0, .bool false] rfl rfl 28 Al.xzero HR1.out (by kernel_rfl) (by kernel_rfl) (by kernel_rfl) ?_)
  refine bodyPost_ret (v := .agg #[.int .u32 0, .bool false]) ?_ rfl ⟨rfl, ?_, HKP.out.setRow (by omega) _⟩
  · exact results_cell_row (fn := Tryz.f73) rfl _ _ (w.heap.size + 1) 28 #[.int .u32 0, .bool false] (0, 0) _ rfl (setRow_heap _ _ _ _ _ _ HR1.out) Tryz.underlying28 rfl (by kernel_rfl)
  · exact HM4.out.setrow HLT.out _
end Go.Proofs.YtianojbdabeoeaaGreatDoor
end

section
namespace Go.Proofs.YtianojbdabeoeaaGreatDoor
open Go.RowKit Ht
set_option linter.unusedVariables false
namespace Al
/-- an access that may be asked of a memory of so many bytes -/
structure AOk (a : A) (n : Nat) : Prop where
  kind : 0 ≤ a.kind ∧ a.kind ≤ 6
  value : Ar.Wd a.value
  stands : 1 ≤ a.kind ∧ a.kind ≤ 5 → In a n
  op : a.kind = 5 → ∃ op : Nat, a.op = op ∧ 50 ≤ op ∧ op ≤ 58
theorem AOk.wok {a : A} {n : Nat} (h : AOk a n) : WOk a := fun hk => by
  refine (h.stands ?_).w
  unfold hears at hk
  simp only [Bool.or_eq_true, beq_iff_eq] at hk
  omega
theorem why_facts {op : Nat} {pc a b imm size : Int} (h : why op pc a b imm size = 0) (hw : width op ≠ 0) : Ar.add a imm % (width op : Int) = 0 ∧ Ar.add a imm + (width op : Int) ≤ size := by
  unfold why at h
  split at h
  · cases h
  · split at h
    · cases h
    · split at h
      · cases h
      · rename_i h1 h2 h3
        refine ⟨?_, ?_⟩
        · exact Classical.byContradiction fun hne => h2 ⟨hw, hne⟩
        · exact Classical.byContradiction fun hne => h3 ⟨hw, by omega⟩
theorem low_wd (n : Int) (k : Nat) (h : Ar.Wd n) : Ar.Wd (low n k) := by
  unfold low
  unfold Ar.Wd at *
  split
  · omega
  · split <;> omega
theorem hv_wd (a : A) (tv : Int) (h : Ar.Wd tv) : Ar.Wd (hv a tv) := by
  unfold hv
  split
  · exact low_wd _ _ h
  · unfold Ar.Wd; omega
theorem add_wd (a b : Int) : Ar.Wd (Ar.add a b) := by unfold Ar.add Ar.md Ar.Wd; omega
theorem acc_aok (op : Nat) (pc a b imm : Int) (n : Nat) (aq rl : Bool) (hb : Ar.Wd b) (hi : Ar.Wd imm) (h : why op pc a b imm n = 0) : AOk (acc op a b imm aq rl) n := by
  have key : width op ≠ 0 → (width op = 1 ∨ width op = 2 ∨ width op = 4) → (Ar.add a imm % (width op : Int) = 0 ∧ 0 ≤ Ar.add a imm ∧ Ar.add a imm + (width op : Int) ≤ n) := fun hw _ => by
    have := why_facts h hw
    exact ⟨this.1, (add_wd a imm).1, this.2⟩
  unfold acc
  split
  · exact ⟨by dsimp only; omega, hi, fun hk => by dsimp only at hk; omega, fun hk => by dsimp only at hk; omega⟩
  · split
    · rename_i h1 h2
      have hw : width op = 1 ∨ width op = 2 ∨ width op = 4 := by
        rcases (show op = 11 ∨ op = 12 ∨ op = 13 ∨ op = 14 ∨ op = 15 by omega) with rfl | rfl | rfl | rfl | rfl <;> simp [width]
      obtain ⟨k1, k2, k3⟩ := key (by omega) hw
      exact ⟨by dsimp only; omega, by show Ar.Wd 0; unfold Ar.Wd; omega, fun _ => ⟨by show (width op : Int) = 1 ∨ (width op : Int) = 2 ∨ (width op : Int) = 4; omega, k1, k2, k3⟩, fun hk => absurd hk (by show ¬ (1 : Int) = 5; decide)⟩
    · split
      · rename_i h1 h2 h3
        have hw : width op = 1 ∨ width op = 2 ∨ width op = 4 := by
          rcases (show op = 16 ∨ op = 17 ∨ op = 18 by omega) with rfl | rfl | rfl <;> simp [width]
        obtain ⟨k1, k2, k3⟩ := key (by omega) hw
        exact ⟨by dsimp only; omega, low_wd _ _ hb, fun _ => ⟨by show (width op : Int) = 1 ∨ (width op : Int) = 2 ∨ (width op : Int) = 4; omega, k1, k2, k3⟩, fun hk => absurd hk (by show ¬ (2 : Int) = 5; decide)⟩
      · split
        · rename_i h4
          subst h4
          obtain ⟨k1, k2, k3⟩ := key (by simp [width]) (by simp [width])
          exact ⟨by dsimp only; omega, by show Ar.Wd 0; unfold Ar.Wd; omega, fun _ => ⟨by dsimp only; omega, k1, k2, k3⟩, fun hk => absurd hk (by show ¬ (3 : Int) = 5; decide)⟩
        · split
          · rename_i h4
            subst h4
            obtain ⟨k1, k2, k3⟩ := key (by simp [width]) (by simp [width])
            exact ⟨by dsimp only; omega, hb, fun _ => ⟨by dsimp only; omega, k1, k2, k3⟩, fun hk => absurd hk (by show ¬ (4 : Int) = 5; decide)⟩
          · split
            · rename_i h6
              have hw : width op = 4 := by
                rcases (show op = 50 ∨ op = 51 ∨ op = 52 ∨ op = 53 ∨ op = 54 ∨ op = 55 ∨ op = 56 ∨ op = 57 ∨ op = 58 by omega) with rfl | rfl | rfl | rfl | rfl | rfl | rfl | rfl | rfl <;> simp [width]
              obtain ⟨k1, k2, k3⟩ := key (by omega) (by omega)
              rw [hw] at k1 k3
              exact ⟨by dsimp only; omega, hb, fun _ => ⟨by dsimp only; omega, k1, k2, k3⟩, fun _ => ⟨op, rfl, by omega⟩⟩
            · exact ⟨by decide, by show Ar.Wd 0; unfold Ar.Wd; omega, fun hk => absurd hk.1 (by decide), fun hk => absurd hk (by decide)⟩
theorem a0_aok (n : Nat) : AOk A0 n := ⟨by decide, by show Ar.Wd 0; unfold Ar.Wd; omega, fun hk => absurd hk.1 (by decide), fun hk => absurd hk (by decide)⟩
theorem out_aok {h : H} {x : Int} {n : Nat} {s : S} {err : Int} (o : Out h x n 0 false s err) (hb : HB h) (hx : Is.Wd x) : AOk s.a n := by
  cases o with
  | arg g => exact a0_aok n
  | ill g _ => exact a0_aok n
  | halt op g e _ => exact a0_aok n
  | ok op g e hw => exact acc_aok _ _ _ _ _ n _ _ (hb.R _) (imm_wd _ hx) hw
theorem out_hit {h : H} {x size tv : Int} {tok : Bool} {s : S} {err : Int} (o : Out h x size tv tok s err) (g : goes h = true) (hc : s.h.cause = 0) : ∃ op, Hit op x := by
  cases o with
  | arg g' => rw [g] at g'; cases g'
  | ill _ _ => exact absurd hc (by show ¬ (2 : Int) = 0; decide)
  | halt op _ e hn => exact ⟨op, e⟩
  | ok op _ e _ => exact ⟨op, e⟩
end Al
theorem run_storeVar_part {P : Program} (w : World) (g : Nat) (t ty : TypeId) (old cells : Array Value) (hg : w.heap[g]? = some (.cells old t (0, 0))) (hi : (P.info? ty).map (·.size) = some cells.size)
    (ho : cells.size ≤ old.size) (h1 : cells.all (·.oneCell') = true) :
    (storeVar ty ⟨g, 0, none⟩ (.agg cells)).run P w = .ok () (w.setRow g (cells.toList ++ old.toList.drop cells.size).toArray) := by
  have := run_storeCells_at (P := P) g 0 t cells.toList 0 old w hg (by simpa using ho) (fun v hv => (Array.all_eq_true_iff_forall_mem.1 h1) v (by simpa using hv))
  simp only [Nat.zero_add, List.take_zero, List.nil_append, Array.length_toList] at this
  cases hq : P.info? ty with
  | none => simp [hq] at hi
  | some i =>
    have hs : cells.size = i.size := by simp [hq] at hi; omega
    simp [storeVar, sizeOf, typeInfo, hq, Value.cells, hs]
    rw [← hs]
    simpa using this
theorem wpList_store_part {P : Program} {ops : Array Oper} {rest : List Oper} {o : Oper} {a : Act} {w : World} {Q : Exit → Act → World → Prop} (hgd : o.guard = none) (ty : TypeId) (x y : Operand) (ho : o.op = .store ty x y)
    (g : Nat) (cells : Array Value) (hx : a.eval x = .pointer (some ⟨g, 0, none⟩)) (hy : a.eval y = .agg cells)
    (t : TypeId) (old : Array Value) (hg : w.heap[g]? = some (.cells old t (0, 0))) (hi : (P.info? ty).map (·.size) = some cells.size)
    (hold : cells.size ≤ old.size) (h1 : cells.all (·.oneCell') = true)
    (h : wpList P ops Q rest (a.put o.dst undef) (w.setRow g (cells.toList ++ old.toList.drop cells.size).toArray)) : wpList P ops Q (o :: rest) a w :=
  wpList_plain hgd fun _ hK => by
    unfold Oper.wp execOp
    simp only [ho, hx, hy, Instr.storeAt, Instr.sureAddr, Sem.run_bind, Sem.run_pure, Result.andThen_ok, run_storeVar_part w g t ty old cells hg hi hold h1]
    exact hK _ _ h
end Go.Proofs.YtianojbdabeoeaaGreatDoor
end
