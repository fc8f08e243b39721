/-
  AlCM: AlStep, AlStray, AlSteps, AlGoB, AlHold, AlGo in one text.
-/
import Derived.Test.YtianojbdabeoeaaGreatDoorAlBM
import Derived.Test.YtianojbdabeoeaaGreatDoorOgM
import Derived.RangeFuncBox
import Derived.Deep.AppendLies

section
namespace Go.Proofs.YtianojbdabeoeaaGreatDoor
open Go.RowKit Ht
set_option linter.unusedVariables false
namespace Al
/-- a memory: its bytes, its reservation -/
structure MS where
  bs : List Int
  rs : Bool
  pl : Int
/-- what an access is told -/
def toldV (a : A) (m : MS) : Int := if a.kind = 1 ∨ a.kind = 3 ∨ a.kind = 5 then Al.at m.bs a else 0
def toldO (a : A) (m : MS) : Bool := if a.kind = 4 then (m.rs && m.pl == a.addr) else false
/-- the memory behind it -/
def after (a : A) (m : MS) : MS :=
  if a.kind = 2 then { m with bs := put m.bs a a.value }
  else if a.kind = 3 then { m with rs := true, pl := a.addr }
  else if a.kind = 4 then { m with bs := if (m.rs && m.pl == a.addr) = true then put m.bs a a.value else m.bs, rs := false }
  else if a.kind = 5 then { m with bs := put m.bs a (amoP a.op.toNat (Al.at m.bs a) a.value) }
  else m
theorem after_len (a : A) (m : MS) : (after a m).bs.length = m.bs.length := by
  unfold after put
  split
  · exact Im.length_sets _ _ _ _
  · split
    · rfl
    · split
      · show (if _ then _ else _ : List Int).length = _
        split
        · exact Im.length_sets _ _ _ _
        · rfl
      · split
        · exact Im.length_sets _ _ _ _
        · rfl
theorem at_wd {bs : List Int} (hb : Im.Byt bs) (a : A) (h : In a bs.length) : Ar.Wd (Al.at bs a) := by
  obtain ⟨ad, k, had, hkk, hk3, hal, hle⟩ := h.nat
  unfold Al.at
  rw [had, hkk]
  exact val_wd hb hk3 hle
theorem toldV_wd {m : MS} (hb : Im.Byt m.bs) (a : A) (h : AOk a m.bs.length) : Ar.Wd (toldV a m) := by
  unfold toldV
  split
  · exact at_wd hb a (h.stands (by omega))
  · unfold Ar.Wd; omega
end Al
/-- a memory in block q -/
def MemS (w : World) (q p g : Nat) (m : Al.MS) : Prop := Mem w q p g m.bs m.rs m.pl
theorem do_any (q p g : Nat) (m : Al.MS) (a : A) (w : World) (hm : MemS w q p g m) (ha : Al.AOk a m.bs.length) :
    Calls Tryz.prog 73 #[.pointer (some ⟨q, 0, none⟩), accV a] w fun e w' => e = .returned (ansV (Al.toldV a m) (Al.toldO a m)) ∧ MemS w' q p g (Al.after a m) ∧ Og.Kept q g w w' := by
  obtain ⟨hk, hv, hs, ho⟩ := ha
  rcases (show a.kind < 1 ∨ 5 < a.kind ∨ a.kind = 1 ∨ a.kind = 2 ∨ a.kind = 3 ∨ a.kind = 4 ∨ a.kind = 5 by omega) with h | h | h | h | h | h | h
  · have e1 : Al.toldV a m = 0 := if_neg (by omega)
    have e2 : Al.toldO a m = false := if_neg (by omega)
    have e3 : Al.after a m = m := by unfold Al.after; rw [if_neg (by omega), if_neg (by omega), if_neg (by omega), if_neg (by omega)]
    rw [e1, e2, e3]
    exact (do_0 q p g m.bs m.rs m.pl a w hm (.inl h))
  · have e1 : Al.toldV a m = 0 := if_neg (by omega)
    have e2 : Al.toldO a m = false := if_neg (by omega)
    have e3 : Al.after a m = m := by unfold Al.after; rw [if_neg (by omega), if_neg (by omega), if_neg (by omega), if_neg (by omega)]
    rw [e1, e2, e3]
    exact (do_0 q p g m.bs m.rs m.pl a w hm (.inr h))
  · have e1 : Al.toldV a m = Al.at m.bs a := if_pos (by omega)
    have e2 : Al.toldO a m = false := if_neg (by omega)
    have e3 : Al.after a m = m := by unfold Al.after; rw [if_neg (by omega), if_neg (by omega), if_neg (by omega), if_neg (by omega)]
    rw [e1, e2, e3]
    exact (do_1 q p g m.bs m.rs m.pl a w hm (hs (by omega)) h)
  · have e1 : Al.toldV a m = 0 := if_neg (by omega)
    have e2 : Al.toldO a m = false := if_neg (by omega)
    have e3 : Al.after a m = { m with bs := Al.put m.bs a a.value } := by unfold Al.after; rw [if_pos h]
    rw [e1, e2, e3]
    exact (do_2 q p g m.bs m.rs m.pl a w hm (hs (by omega)) hv h)
  · have e1 : Al.toldV a m = Al.at m.bs a := if_pos (by omega)
    have e2 : Al.toldO a m = false := if_neg (by omega)
    have e3 : Al.after a m = { m with rs := true, pl := a.addr } := by unfold Al.after; rw [if_neg (by omega), if_pos h]
    rw [e1, e2, e3]
    exact (do_3 q p g m.bs m.rs m.pl a w hm (hs (by omega)) h)
  · have e1 : Al.toldV a m = 0 := if_neg (by omega)
    have e2 : Al.toldO a m = (m.rs && m.pl == a.addr) := if_pos h
    have e3 : Al.after a m = { m with bs := if (m.rs && m.pl == a.addr) = true then Al.put m.bs a a.value else m.bs, rs := false } := by unfold Al.after; rw [if_neg (by omega), if_neg (by omega), if_pos h]
    rw [e1, e2, e3]
    exact (do_4 q p g m.bs m.rs m.pl a w hm (hs (by omega)) hv h)
  · obtain ⟨op, hop, h5⟩ := ho h
    have e1 : Al.toldV a m = Al.at m.bs a := if_pos (by omega)
    have e2 : Al.toldO a m = false := if_neg (by omega)
    have e3 : Al.after a m = { m with bs := Al.put m.bs a (amoP op (Al.at m.bs a) a.value) } := by unfold Al.after; rw [if_neg (by omega), if_neg (by omega), if_neg (by omega), if_pos h, hop]; rfl
    rw [e1, e2, e3]
    exact (do_5 q p g m.bs m.rs m.pl a w hm (hs (by omega)) hv h op h5 hop)
set_option maxRecDepth 100000 in
set_option maxHeartbeats 1000000 in
theorem fm1_any (q p g : Nat) (m : Al.MS) (a : A) (w : World) (hm : MemS w q p g m) (ha : Al.AOk a m.bs.length) :
    Calls Tryz.prog 72 #[accV a, .pointer (some ⟨q, 0, none⟩)] w fun e w' => e = .returned (.tuple #[ansV (Al.toldV a m) (Al.toldO a m), .bool true]) ∧ MemS w' q p g (Al.after a m) ∧ Og.Kept q g w w' := by
  have hlq := Mem.lt hm
  have hlp := im_heap_lt hm.img.ptr
  have hb0 : Below w.heap.size w ((w.alloc (.cells (acells a).toArray 37)).alloc (.cells Al.xzero 28)) := ((Below.refl w.heap.size w).alloc (Nat.le_refl _) (.cells (acells a).toArray 37)).alloc (by simp only [World.size_alloc]; omega) (.cells Al.xzero 28)
  have hm2 := Mem.below hm hb0
  have HR0 := Lib.hid (heap_b2 w (.cells (acells a).toArray 37) (.cells Al.xzero 28)).1
  have k1 := (heap_b2 w (.cells (acells a).toArray 37) (.cells Al.xzero 28)).2
  have HL := Lib.hid (do_any q p g m a _ hm2 ha)
  have HLT := Lib.hid (show p ≠ w.heap.size + 1 ∧ q ≠ w.heap.size + 1 ∧ g ≠ w.heap.size + 1 by omega)
  have HR1 := Lib.hid k1; have HB := Lib.hid hb0
  have hq1 : w.heap.size + 1 ≠ q := by omega
  have hg1 : w.heap.size + 1 ≠ g := by omega
  clear hm hm2 k1 hb0 ha hlq hlp
  generalize Al.toldV a m = tv at HL ⊢
  generalize Al.toldO a m = tok at HL ⊢
  generalize Al.after a m = m2 at HL ⊢
  unfold accV
  go_enter Tryz.func72, Tryz.ntmps72
  go_wp2_with (show wpList _ _ _ (Oper.mk (some 5) _ _ _ _ _ :: _) _ _; refine wpList_load_row rfl 37 (.tmp 2) rfl w.heap.size rfl 37 (acells a).toArray (0, 0) _ HR0.out Tryz.underlying37 rfl (by kernel_rfl) ?_)
  refine HL.out.mono ?_
  rintro e w2 ⟨rfl, hm2, hk⟩
  have r1 := (hk.block _ (Array.getElem?_eq_some_iff.1 HR1.out).1 hq1 hg1).trans HR1.out
  have HK := Lib.hid ((Og.Kept.of_below (q := q) (g := g) HB.out).trans hk); have HM := Lib.hid hm2; have HR2 := Lib.hid r1
  clear HR0 HR1 HL HB hm2 hk r1
  unfold ansV
  go_wp2_with (show wpList _ _ _ (Oper.mk none _ _ _ _ _ :: _) _ _; refine wpList_store_row rfl 28 (.tmp 3) (.tmp 6) rfl (w.heap.size + 1) #[.int .u32 tv, .bool tok] rfl rfl 28 Al.xzero HR2.out (by kernel_rfl) (by kernel_rfl) (by kernel_rfl) ?_)
  refine bodyPost_ret (v := .tuple #[.agg #[.int .u32 tv, .bool tok], .bool true]) ?_ rfl ⟨rfl, Mem.setrow HM.out HLT.out _, HK.out.setRow (by omega) _⟩
  exact results_row_tmp (fn := Tryz.f72) rfl _ _ (w.heap.size + 1) 28 #[.int .u32 tv, .bool tok] (0, 0) _ rfl (setRow_heap _ _ _ _ _ _ HR2.out) Tryz.underlying28 rfl (by kernel_rfl)
/-- a hart and what it has around it, in block b -/
def Al.wcs (h : H) (ca : Option Addr) (n c : Nat) (size : Int) (tv : Value) : List Value := hcells h ++ [.slice ca n c, .int .i64 size, tv]
def Wat (w : World) (b : Nat) (h : H) (ca : Option Addr) (n c : Nat) (size : Int) (tv : Value) : Prop := w.heap[b]? = some (.cells (Al.wcs h ca n c size tv).toArray 135 (0, 0))
/-- what tells: the closure over block q -/
abbrev Al.tellV (q : Nat) : Value := .func (.func 72) #[] #[.pointer (some ⟨q, 0, none⟩)]
/-- all but three blocks lie as they lay -/
structure K3 (b q g : Nat) (w w' : World) : Prop where
  os : w'.os = w.os
  tape : w'.tape = w.tape
  output : w'.output = w.output
  size : w.heap.size ≤ w'.heap.size
  block : ∀ k, k < w.heap.size → k ≠ b → k ≠ q → k ≠ g → w'.heap[k]? = w.heap[k]?
theorem K3.refl (b q g : Nat) (w : World) : K3 b q g w w := ⟨rfl, rfl, rfl, Nat.le_refl _, fun _ _ _ _ _ => rfl⟩
theorem K3.trans {b q g : Nat} {x y z : World} (h : K3 b q g x y) (k : K3 b q g y z) : K3 b q g x z :=
  ⟨k.os.trans h.os, k.tape.trans h.tape, k.output.trans h.output, Nat.le_trans h.size k.size, fun i hi h1 h2 h3 => (k.block i (Nat.lt_of_lt_of_le hi h.size) h1 h2 h3).trans (h.block i hi h1 h2 h3)⟩
theorem K3.kept {b q g : Nat} {x y z : World} (h : K3 b q g x y) (k : Og.Kept q g y z) : K3 b q g x z := h.trans ⟨k.os, k.tape, k.output, k.size, fun i hi _ h2 h3 => k.block i hi h2 h3⟩
theorem K3.below {b q g : Nat} {x y z : World} (h : K3 b q g x y) (k : Below y.heap.size y z) : K3 b q g x z := h.kept (Og.Kept.of_below k)
theorem K3.setRow {b q g r : Nat} {x y : World} (h : K3 b q g x y) (hr : x.heap.size ≤ r ∨ r = b) (cs : Array Value) : K3 b q g x (y.setRow r cs) :=
  ⟨h.os, h.tape, h.output, by simpa [World.setRow] using h.size, fun k hk h1 h2 h3 => (setRow_other y r k cs (by omega)).trans (h.block k hk h1 h2 h3)⟩
set_option maxRecDepth 100000 in
set_option maxHeartbeats 8000000 in
theorem step_any (b q p g : Nat) (h : H) (x : Int) (ca : Option Addr) (n c : Nat) (m : Al.MS) (w : World) (hw : Wat w b h ca n c m.bs.length (Al.tellV q)) (hm : MemS w q p g m)
    (hne : b ≠ q ∧ b ≠ p ∧ b ≠ g) (gg : goes h = true) (hb : HB h) (hx : Is.Wd x) :
    Calls Tryz.prog 96 #[.pointer (some ⟨b, 0, none⟩), .int .u32 x] w fun e w' =>
      e = .returned (.tuple #[Al.comV (Al.com h x m.bs.length (oS h x m.bs.length 0 false).a (Al.toldV (oS h x m.bs.length 0 false).a m) (Al.toldO (oS h x m.bs.length 0 false).a m)), .bool true]) ∧
      Wat w' b (Al.done h x m.bs.length (oS h x m.bs.length 0 false).a (Al.toldV (oS h x m.bs.length 0 false).a m) (Al.toldO (oS h x m.bs.length 0 false).a m)) ca n c m.bs.length (Al.tellV q) ∧
      MemS w' q p g (Al.after (oS h x m.bs.length 0 false).a m) ∧ K3 b q g w w' := by
  have hbd := hm.img.bd
  have hsz : -9223372036854775808 ≤ (m.bs.length : Int) ∧ (m.bs.length : Int) ≤ 9223372036854775807 := by omega
  have hacc : Al.AOk (oS h x m.bs.length 0 false).a m.bs.length := Al.out_aok (oS_out gg) hb hx
  have HACT := Lib.hid (fun (w : World) => act_f (h := h) (x := x) (size := m.bs.length) gg hb hx hsz w)
  generalize (oS h x m.bs.length 0 false).h.cause = cc at HACT
  generalize (oS h x m.bs.length 0 false).a = a at HACT hacc ⊢
  have htw := Al.toldV_wd hm.img.byt a hacc
  have hdo : (Al.done h x m.bs.length a (Al.toldV a m) (Al.toldO a m)).cause = 0 → ∃ op, Hit op x := fun e => Al.out_hit (oS_out gg) gg e
  have HBE := Lib.hid (fun (w : World) => behind_any h x m.bs.length a (Al.toldV a m) (Al.toldO a m) gg hb hx hsz hacc.wok htw (Al.hv_wd _ _ htw) hdo w)
  have HTL := Lib.hid (fun (w : World) (hm : MemS w q p g m) => fm1_any q p g m a w hm hacc)
  generalize Al.com h x m.bs.length a (Al.toldV a m) (Al.toldO a m) = com at HBE ⊢
  generalize Al.done h x m.bs.length a (Al.toldV a m) (Al.toldO a m) = h2 at HBE ⊢
  generalize Al.after a m = m2 at HTL ⊢
  generalize Al.toldV a m = tv at HBE HTL ⊢
  generalize Al.toldO a m = tok at HBE HTL ⊢
  obtain ⟨size, hsize⟩ : ∃ size : Int, size = (m.bs.length : Int) := ⟨_, rfl⟩
  rw [← hsize] at HACT HBE hw ⊢
  clear hdo htw hacc hsz gg hb hx hsize hbd
  have hlq := Mem.lt hm
  have hlb := (Array.getElem?_eq_some_iff.1 hw).1
  obtain ⟨W0, hW0⟩ : ∃ W0, W0 = w.alloc (.cells Al.czero 74) := ⟨_, rfl⟩
  have bb : Below w.heap.size w W0 := by rw [hW0]; exact (Below.refl _ _).alloc (Nat.le_refl _) _
  have hw0 : Wat W0 b h ca n c size (Al.tellV q) := (bb.block b hlb).trans hw
  have hres : W0.heap[w.heap.size]? = some (.cells Al.czero 74 (0, 0)) := by rw [hW0]; exact heap_alloc_new _ _
  have hz0 : W0.heap.size = w.heap.size + 1 := by rw [hW0]; simp
  have hm0 : MemS W0 q p g m := Mem.below hm bb
  have hlp := im_heap_lt hm.img.ptr
  have HW := Lib.hid hw0; have HM := Lib.hid hm0; have HRS := Lib.hid hres; have HZ0 := Lib.hid hz0; have HBB := Lib.hid bb; have HW0 := Lib.hid hW0
  have HNE := Lib.hid (And.intro hne (And.intro hlb (And.intro hlq hlp)))
  have HC36 := Lib.hid (show W0.cell? ⟨b, 36, none⟩ = some (.int .i64 size) by rw [cell_of_row W0 _ 36 _ _ _ hw0]; rfl)
  clear hw hm hne hlq hlb hlp bb hw0 hres hz0 hm0 hW0
  go_enter Tryz.func96, Tryz.ntmps96
  go_wp2
  rw [← HW0.out]
  clear HW0
  refine Og.regionFP (by kernel_rfl) 15 (fun t => ([(14, 0), (15, 1), (16, 2), (17, 3), (18, 4), (19, 5), (20, 6), (21, 7), (22, 8), (23, 9), (13, 10), (24, 11), (25, 12), (26, 13), (6, 14)] : List (Nat × Nat)).lookup t) [.is (.pointer (some ⟨b, 0, none⟩)), .is (.pointer (some ⟨b, 0, none⟩)), .is (.pointer (some ⟨b, 0, none⟩)), .is (.agg (hcells h).toArray), .is (.int .u32 x), .is (.pointer (some ⟨b, 0, none⟩)), .is (.pointer (some ⟨b, 0, none⟩)), .is (.pointer (some ⟨b, 36, none⟩)), .is (.int .i64 size), .is (.tuple #[.agg (acells a).toArray, .int .i64 cc, .int .i64 0]), .is (.tuple #[.agg (acells a).toArray, .int .i64 cc, .int .i64 0]), .is (.agg (acells a).toArray), .is (.int .i64 cc), .is (.int .i64 0), .new (.cells azero 37)] [true, true, true, true, true, true, true, true, true, true, true, true, true, true, true] [(12, 13, 10), (13, 13, 10)] (by kernel_rfl) (by kernel_rfl) (by rfl) ?_ ?_ ?_
  · refine ⟨?_, ?_, ?_, ?_, ?_, ?_, ?_, ?_, ?_, ?_, ?_, ?_, ?_, ?_, ?_, trivial⟩
    · refine ⟨rfl, (if_neg (by decide)).mpr fun ρ xw b2 hr hd => ?_⟩
      obtain ⟨d0, _⟩ := hd
      have d0 : ρ (.tmp 0) = .pointer (some ⟨b, 0, none⟩) := d0
      refine (if_pos (by rfl)).mpr ?_
      refine Og.gives_is (.pointer (some ⟨b, 0, none⟩)) ?_ (And.intro (Below.refl _ _) rfl)
      go_simp
    · refine ⟨rfl, (if_neg (by decide)).mpr fun ρ xw b2 hr hd => ?_⟩
      obtain ⟨d0, _⟩ := hd
      have d0 : ρ (.tmp 14) = .pointer (some ⟨b, 0, none⟩) := d0
      refine (if_pos (by rfl)).mpr ?_
      refine Og.gives_is (.pointer (some ⟨b, 0, none⟩)) ?_ (And.intro (Below.refl _ _) rfl)
      go_simp
    · refine ⟨rfl, (if_neg (by decide)).mpr fun ρ xw b2 hr hd => ?_⟩
      obtain ⟨d0, _⟩ := hd
      have d0 : ρ (.tmp 15) = .pointer (some ⟨b, 0, none⟩) := d0
      refine (if_pos (by rfl)).mpr ?_
      refine Og.gives_is (.pointer (some ⟨b, 0, none⟩)) ?_ (And.intro (Below.refl _ _) rfl)
      go_simp
    · refine ⟨rfl, (if_neg (by decide)).mpr fun ρ xw b2 hr hd => ?_⟩
      obtain ⟨d0, _⟩ := hd
      have d0 : ρ (.tmp 16) = .pointer (some ⟨b, 0, none⟩) := d0
      refine (if_pos (by rfl)).mpr ?_
      exact Og.gives_load 26 (.tmp 16) rfl ⟨b, 0, none⟩ (.agg (hcells h).toArray) d0 (run_loadVar_part xw b 0 135 26 (Al.wcs h ca n c size (Al.tellV q)).toArray (hcells h) (0, 0) _ ((Below.block hr _ (Array.getElem?_eq_some_iff.1 HW.out).1).trans HW.out) rfl Tryz.underlying26 rfl (by kernel_rfl)) (And.intro (Below.refl _ _) rfl)
    · refine ⟨rfl, (if_neg (by decide)).mpr fun ρ xw b2 hr hd => ?_⟩
      obtain ⟨d0, _⟩ := hd
      have d0 : ρ (.tmp 1) = .int .u32 x := d0
      refine (if_pos (by rfl)).mpr ?_
      refine Og.gives_is (.int .u32 x) ?_ (And.intro (Below.refl _ _) rfl)
      go_simp
    · refine ⟨rfl, (if_neg (by decide)).mpr fun ρ xw b2 hr hd => ?_⟩
      obtain ⟨d0, _⟩ := hd
      have d0 : ρ (.tmp 0) = .pointer (some ⟨b, 0, none⟩) := d0
      refine (if_pos (by rfl)).mpr ?_
      refine Og.gives_is (.pointer (some ⟨b, 0, none⟩)) ?_ (And.intro (Below.refl _ _) rfl)
      go_simp
    · refine ⟨rfl, (if_neg (by decide)).mpr fun ρ xw b2 hr hd => ?_⟩
      obtain ⟨d0, _⟩ := hd
      have d0 : ρ (.tmp 19) = .pointer (some ⟨b, 0, none⟩) := d0
      refine (if_pos (by rfl)).mpr ?_
      refine Og.gives_is (.pointer (some ⟨b, 0, none⟩)) ?_ (And.intro (Below.refl _ _) rfl)
      go_simp
    · refine ⟨rfl, (if_neg (by decide)).mpr fun ρ xw b2 hr hd => ?_⟩
      obtain ⟨d0, _⟩ := hd
      have d0 : ρ (.tmp 20) = .pointer (some ⟨b, 0, none⟩) := d0
      refine (if_pos (by rfl)).mpr ?_
      refine Og.gives_is (.pointer (some ⟨b, 36, none⟩)) ?_ (And.intro (Below.refl _ _) rfl)
      go_simp
    · refine ⟨rfl, (if_neg (by decide)).mpr fun ρ xw b2 hr hd => ?_⟩
      obtain ⟨d0, _⟩ := hd
      have d0 : ρ (.tmp 21) = .pointer (some ⟨b, 36, none⟩) := d0
      refine (if_pos (by rfl)).mpr ?_
      have hc : xw.cell? ⟨b, 36, none⟩ = some (.int .i64 size) := (Below.cell hr (World.block_lt_of_cell? _ _ HC36.out)).trans HC36.out
      refine Og.gives_is (.int .i64 size) ?_ (And.intro (Below.refl _ _) rfl)
      go_simp
    · refine ⟨rfl, (if_neg (by decide)).mpr fun ρ xw b2 hr hd => ?_⟩
      obtain ⟨d0, d1, d2, d3, _⟩ := hd
      have d0 : ρ (.func 12) = .func (.func 12) #[] #[] := d0
      have d1 : ρ (.tmp 17) = .agg (hcells h).toArray := d1
      have d2 : ρ (.tmp 18) = .int .u32 x := d2
      have d3 : ρ (.tmp 22) = .int .i64 size := d3
      refine (if_pos (by rfl)).mpr ?_
      refine Og.gives_call 12 #[.agg (hcells h).toArray, .int .u32 x, .int .i64 size] ?_ ?_
      · go_simp
      · refine (HACT.out xw).mono ?_
        rintro e w3 ⟨rfl, hb⟩
        exact ⟨_, rfl, hb, rfl⟩
    · refine ⟨rfl, (if_neg (by decide)).mpr fun ρ xw b2 hr hd => ?_⟩
      obtain ⟨d0, _⟩ := hd
      have d0 : ρ (.tmp 23) = .tuple #[.agg (acells a).toArray, .int .i64 cc, .int .i64 0] := d0
      refine (if_pos (by rfl)).mpr ?_
      refine Og.gives_is (.tuple #[.agg (acells a).toArray, .int .i64 cc, .int .i64 0]) ?_ (And.intro (Below.refl _ _) rfl)
      go_simp
    · refine ⟨rfl, (if_neg (by decide)).mpr fun ρ xw b2 hr hd => ?_⟩
      obtain ⟨d0, _⟩ := hd
      have d0 : ρ (.tmp 13) = .tuple #[.agg (acells a).toArray, .int .i64 cc, .int .i64 0] := d0
      refine (if_pos (by rfl)).mpr ?_
      refine Og.gives_is (.agg (acells a).toArray) ?_ (And.intro (Below.refl _ _) rfl)
      go_simp
    · refine ⟨rfl, (if_neg (by decide)).mpr fun ρ xw b2 hr hd => ?_⟩
      obtain ⟨d0, _⟩ := hd
      have d0 : ρ (.tmp 13) = .tuple #[.agg (acells a).toArray, .int .i64 cc, .int .i64 0] := d0
      refine (if_pos (by rfl)).mpr ?_
      refine Og.gives_is (.int .i64 cc) ?_ (And.intro (Below.refl _ _) rfl)
      go_simp
    · refine ⟨rfl, (if_neg (by decide)).mpr fun ρ xw b2 hr hd => ?_⟩
      obtain ⟨d0, _⟩ := hd
      have d0 : ρ (.tmp 13) = .tuple #[.agg (acells a).toArray, .int .i64 cc, .int .i64 0] := d0
      refine (if_pos (by rfl)).mpr ?_
      refine Og.gives_is (.int .i64 0) ?_ (And.intro (Below.refl _ _) rfl)
      go_simp
    · refine ⟨rfl, (if_neg (by decide)).mpr fun ρ xw b2 hr hd => ?_⟩
      refine (if_pos (by rfl)).mpr ?_
      refine Og.gives_new (.pointer (some ⟨xw.heap.size, 0, none⟩)) (w' := xw.alloc (.cells azero 37)) ?_ ⟨(Below.refl _ _).alloc (Nat.le_refl _) _, _, rfl, hr.size, heap_alloc_new _ _⟩
      go_simp
  · refine ⟨?_, ?_, trivial⟩
    · intro ρ xw d0
      replace d0 : ρ (.tmp 13) = .tuple #[.agg (acells a).toArray, .int .i64 cc, .int .i64 0] := d0
      refine (show (execOp ρ _).run _ xw = .ok (.value (.int .i64 cc)) xw from ?_)
      go_simp
    · intro ρ xw d0
      replace d0 : ρ (.tmp 13) = .tuple #[.agg (acells a).toArray, .int .i64 cc, .int .i64 0] := d0
      refine (show (execOp ρ _).run _ xw = .ok (.value (.int .i64 0)) xw from ?_)
      go_simp
  · intro vs w1 hb1 hvs
    have nv0 : vs 0 = .pointer (some ⟨b, 0, none⟩) := hvs 0 _ 14 rfl rfl
    have nv1 : vs 1 = .pointer (some ⟨b, 0, none⟩) := hvs 1 _ 15 rfl rfl
    have nv2 : vs 2 = .pointer (some ⟨b, 0, none⟩) := hvs 2 _ 16 rfl rfl
    have nv3 : vs 3 = .agg (hcells h).toArray := hvs 3 _ 17 rfl rfl
    have nv4 : vs 4 = .int .u32 x := hvs 4 _ 18 rfl rfl
    have nv5 : vs 5 = .pointer (some ⟨b, 0, none⟩) := hvs 5 _ 19 rfl rfl
    have nv6 : vs 6 = .pointer (some ⟨b, 0, none⟩) := hvs 6 _ 20 rfl rfl
    have nv7 : vs 7 = .pointer (some ⟨b, 36, none⟩) := hvs 7 _ 21 rfl rfl
    have nv8 : vs 8 = .int .i64 size := hvs 8 _ 22 rfl rfl
    have nv9 : vs 9 = .tuple #[.agg (acells a).toArray, .int .i64 cc, .int .i64 0] := hvs 9 _ 23 rfl rfl
    have nv10 : vs 10 = .tuple #[.agg (acells a).toArray, .int .i64 cc, .int .i64 0] := hvs 10 _ 13 rfl rfl
    have nv11 : vs 11 = .agg (acells a).toArray := hvs 11 _ 24 rfl rfl
    have nv12 : vs 12 = .int .i64 cc := hvs 12 _ 25 rfl rfl
    have nv13 : vs 13 = .int .i64 0 := hvs 13 _ 26 rfl rfl
    obtain ⟨nb14, nv14, nl14, nh14⟩ := hvs 14 _ 6 rfl rfl
    simp only [List.take_succ_cons, List.take_zero, List.drop_succ_cons, List.drop_zero, Og.putAll, Act.put, List.setIfInBounds_toArray, List.set_cons_zero, List.set_cons_succ, Nat.zero_add, Nat.reduceAdd, nv0, nv1, nv2, nv3, nv4, nv5, nv6, nv7, nv8, nv9, nv10, nv11, nv12, nv13, nv14]
    have hres1 := (hb1.block _ (Array.getElem?_eq_some_iff.1 HRS.out).1).trans HRS.out
    have hw1 : Wat w1 b h ca n c size (Al.tellV q) := (hb1.block _ (Array.getElem?_eq_some_iff.1 HW.out).1).trans HW.out
    have hm1 := Mem.below HM.out hb1
    have hz1 := hb1.size
    have bw1 : Below w.heap.size w w1 := HBB.out.trans (hb1.mono HBB.out.size)
    obtain ⟨W1, hW1⟩ : ∃ W1, W1 = w1.setRow nb14 (acells a).toArray := ⟨_, rfl⟩
    have hne := HNE.out
    have hz0 := HZ0.out
    have ra : W1.heap[nb14]? = some (.cells (acells a).toArray 37 (0, 0)) := by rw [hW1]; exact setRow_heap _ _ _ _ _ _ nh14
    have oth : ∀ k o, k ≠ nb14 → w1.heap[k]? = some o → W1.heap[k]? = some o := fun k o hk ho => by rw [hW1]; exact (setRow_other _ _ _ _ hk).trans ho
    have HW1 := Lib.hid (show Wat W1 b h ca n c size (Al.tellV q) from oth _ _ (by omega) hw1)
    have HM1 := Lib.hid (show MemS W1 q p g m by rw [hW1]; exact Mem.setrow hm1 (by omega) _)
    have HRS1 := Lib.hid (oth _ _ (by omega) hres1)
    have HA6 := Lib.hid ra
    have HK1 := Lib.hid (show K3 b q g w W1 by rw [hW1]; exact ((K3.refl b q g w).below bw1).setRow (.inl (by omega)) _)
    have HNB := Lib.hid (show w.heap.size + 1 ≤ nb14 ∧ nb14 < W1.heap.size from ⟨by omega, (Array.getElem?_eq_some_iff.1 ra).1⟩)
    have HN := Lib.hid nh14
    have HWW1 := Lib.hid hW1
    clear hres1 hw1 hm1 hz1 bw1 hW1 ra oth hb1 hvs nl14 hz0 HW HM HRS HBB HC36 HZ0 nh14 hne
    refine Og.go_store 37 (.tmp 6) (.tmp 24) rfl nb14 (acells a).toArray rfl rfl 37 azero HN.out (by kernel_rfl) (by kernel_rfl) (by kernel_rfl) ?_
    rw [← HWW1.out]
    clear HWW1
    refine Og.go_assign (.tmp 25) rfl (.int .i64 cc) rfl ?_
    refine Og.go_assign (.tmp 26) rfl (.int .i64 0) rfl ?_
    unfold Og.tailGo
    go_wp2
    have hq1 : q < W1.heap.size := (Mem.lt HM1.out).1
    have hg1 : g < W1.heap.size := (Mem.lt HM1.out).2
    refine Og.regionFK (by kernel_rfl) 10 5 q g (fun z => MemS z q p g m2) hq1 hg1 (fun t => ([(28, 0), (29, 1), (30, 2), (31, 3), (32, 4), (33, 5), (27, 6), (34, 7), (35, 8), (9, 9)] : List (Nat × Nat)).lookup t) [.is (.pointer (some ⟨b, 0, none⟩)), .is (.pointer (some ⟨b, 0, none⟩)), .is (.pointer (some ⟨b, 37, none⟩)), .is (Al.tellV q), .is (.agg (acells a).toArray), .is (.tuple #[.agg #[.int .u32 tv, .bool tok], .bool true]), .is (.tuple #[.agg #[.int .u32 tv, .bool tok], .bool true]), .is (.agg #[.int .u32 tv, .bool tok]), .is (.bool true), .new (.cells Al.xzero 28)] [true, true, true, true, true, true, true, true, true, true] [(8, 27, 6)] (by kernel_rfl) (by kernel_rfl) (by rfl) ?_ ?_ ?_
    · refine ⟨?_, ?_, ?_, ?_, ?_, ?_, ?_, ?_, ?_, ?_, trivial⟩
      · refine ⟨rfl, (if_neg (by decide)).mpr fun ρ xw b2 hr hd => ?_⟩
        obtain ⟨d0, _⟩ := hd
        have d0 : ρ (.tmp 0) = .pointer (some ⟨b, 0, none⟩) := d0
        refine (if_pos (by rfl)).mpr ?_
        refine Og.gives_is (.pointer (some ⟨b, 0, none⟩)) ?_ (And.intro (Below.refl _ _) rfl)
        go_simp
      · refine ⟨rfl, (if_neg (by decide)).mpr fun ρ xw b2 hr hd => ?_⟩
        obtain ⟨d0, _⟩ := hd
        have d0 : ρ (.tmp 28) = .pointer (some ⟨b, 0, none⟩) := d0
        refine (if_pos (by rfl)).mpr ?_
        refine Og.gives_is (.pointer (some ⟨b, 0, none⟩)) ?_ (And.intro (Below.refl _ _) rfl)
        go_simp
      · refine ⟨rfl, (if_neg (by decide)).mpr fun ρ xw b2 hr hd => ?_⟩
        obtain ⟨d0, _⟩ := hd
        have d0 : ρ (.tmp 29) = .pointer (some ⟨b, 0, none⟩) := d0
        refine (if_pos (by rfl)).mpr ?_
        refine Og.gives_is (.pointer (some ⟨b, 37, none⟩)) ?_ (And.intro (Below.refl _ _) rfl)
        go_simp
      · refine ⟨rfl, (if_neg (by decide)).mpr fun ρ xw b2 hr hd => ?_⟩
        obtain ⟨d0, _⟩ := hd
        have d0 : ρ (.tmp 30) = .pointer (some ⟨b, 37, none⟩) := d0
        refine (if_pos (by rfl)).mpr ?_
        have hc : xw.cell? ⟨b, 37, none⟩ = some (Al.tellV q) := (by rw [cell_of_row _ _ 37 _ _ _ (hr.old HNE.out.1.1 HNE.out.1.2.2 HW1.out)]; rfl)
        refine Og.gives_is (Al.tellV q) ?_ (And.intro (Below.refl _ _) rfl)
        go_simp
      · refine ⟨rfl, (if_neg (by decide)).mpr fun ρ xw b2 hr hd => ?_⟩
        obtain ⟨d0, _⟩ := hd
        have d0 : ρ (.tmp 6) = .pointer (some ⟨nb14, 0, none⟩) := d0
        refine (if_pos (by rfl)).mpr ?_
        exact Og.gives_load 37 (.tmp 6) rfl ⟨nb14, 0, none⟩ (.agg (acells a).toArray) d0 (run_loadVar_row xw _ _ _ _ _ _ (hr.old (by have := HNB.out; have := HNE.out; omega) (by have := HNB.out; have := HNE.out; omega) HA6.out) Tryz.underlying37 rfl (by kernel_rfl)) (And.intro (Below.refl _ _) rfl)
      · refine ⟨rfl, (if_pos (by rfl)).mpr ⟨rfl, fun ρ xw hr hd => ?_⟩⟩
        obtain ⟨d0, d1, _⟩ := hd
        have d0 : ρ (.tmp 31) = Al.tellV q := d0
        have d1 : ρ (.tmp 32) = .agg (acells a).toArray := d1
        have hmx := Mem.below HM1.out hr
        refine Og.gives_call 72 #[.agg (acells a).toArray, .pointer (some ⟨q, 0, none⟩)] ?_ ?_
        · go_simp
        · refine (HTL.out xw hmx).mono ?_
          rintro e w3 ⟨rfl, hm3, hk3⟩
          exact ⟨_, rfl, ⟨hk3, xw, w3, hr, hk3, hm3, Below.refl _ _⟩, rfl⟩
      · refine ⟨rfl, (if_neg (by decide)).mpr fun ρ xw b2 hr hd => ?_⟩
        obtain ⟨d0, _⟩ := hd
        have d0 : ρ (.tmp 33) = .tuple #[.agg #[.int .u32 tv, .bool tok], .bool true] := d0
        refine (if_pos (by rfl)).mpr ?_
        refine Og.gives_is (.tuple #[.agg #[.int .u32 tv, .bool tok], .bool true]) ?_ (And.intro (Below.refl _ _) rfl)
        go_simp
      · refine ⟨rfl, (if_neg (by decide)).mpr fun ρ xw b2 hr hd => ?_⟩
        obtain ⟨d0, _⟩ := hd
        have d0 : ρ (.tmp 27) = .tuple #[.agg #[.int .u32 tv, .bool tok], .bool true] := d0
        refine (if_pos (by rfl)).mpr ?_
        refine Og.gives_is (.agg #[.int .u32 tv, .bool tok]) ?_ (And.intro (Below.refl _ _) rfl)
        go_simp
      · refine ⟨rfl, (if_neg (by decide)).mpr fun ρ xw b2 hr hd => ?_⟩
        obtain ⟨d0, _⟩ := hd
        have d0 : ρ (.tmp 27) = .tuple #[.agg #[.int .u32 tv, .bool tok], .bool true] := d0
        refine (if_pos (by rfl)).mpr ?_
        refine Og.gives_is (.bool true) ?_ (And.intro (Below.refl _ _) rfl)
        go_simp
      · refine ⟨rfl, (if_neg (by decide)).mpr fun ρ xw b2 hr hd => ?_⟩
        refine (if_pos (by rfl)).mpr ?_
        refine Og.gives_new (.pointer (some ⟨xw.heap.size, 0, none⟩)) (w' := xw.alloc (.cells Al.xzero 28)) ?_ ⟨(Below.refl _ _).alloc (Nat.le_refl _) _, _, rfl, hr.size, heap_alloc_new _ _⟩
        go_simp
    · refine ⟨?_, trivial⟩
      · intro ρ xw d0
        replace d0 : ρ (.tmp 27) = .tuple #[.agg #[.int .u32 tv, .bool tok], .bool true] := d0
        refine (show (execOp ρ _).run _ xw = .ok (.value (.bool true)) xw from ?_)
        go_simp
    · intro vs w2 hph hvs
      have hph : Og.PhK W1 q g (fun z => MemS z q p g m2) true w2 := hph
      have nv0 : vs 0 = .pointer (some ⟨b, 0, none⟩) := hvs 0 _ 28 rfl rfl
      have nv1 : vs 1 = .pointer (some ⟨b, 0, none⟩) := hvs 1 _ 29 rfl rfl
      have nv2 : vs 2 = .pointer (some ⟨b, 37, none⟩) := hvs 2 _ 30 rfl rfl
      have nv3 : vs 3 = Al.tellV q := hvs 3 _ 31 rfl rfl
      have nv4 : vs 4 = .agg (acells a).toArray := hvs 4 _ 32 rfl rfl
      have nv5 : vs 5 = .tuple #[.agg #[.int .u32 tv, .bool tok], .bool true] := hvs 5 _ 33 rfl rfl
      have nv6 : vs 6 = .tuple #[.agg #[.int .u32 tv, .bool tok], .bool true] := hvs 6 _ 27 rfl rfl
      have nv7 : vs 7 = .agg #[.int .u32 tv, .bool tok] := hvs 7 _ 34 rfl rfl
      have nv8 : vs 8 = .bool true := hvs 8 _ 35 rfl rfl
      obtain ⟨nb9, nv9, nl9, nh9⟩ := hvs 9 _ 9 rfl rfl
      simp only [List.take_succ_cons, List.take_zero, List.drop_succ_cons, List.drop_zero, Og.putAll, Act.put, List.setIfInBounds_toArray, List.set_cons_zero, List.set_cons_succ, Nat.zero_add, Nat.reduceAdd, nv0, nv1, nv2, nv3, nv4, nv5, nv6, nv7, nv8, nv9]
      have hne := HNE.out
      have hnb := HNB.out
      obtain ⟨z, hz, hx2⟩ := Og.PhK.post hph
      have hm2 : MemS w2 q p g m2 := Mem.below hz hx2
      obtain ⟨W2, hW2⟩ : ∃ W2, W2 = w2.setRow nb9 #[.int .u32 tv, .bool tok] := ⟨_, rfl⟩
      have rx : W2.heap[nb9]? = some (.cells #[.int .u32 tv, .bool tok] 28 (0, 0)) := by rw [hW2]; exact setRow_heap _ _ _ _ _ _ nh9
      have oth : ∀ k o, k ≠ nb9 → w2.heap[k]? = some o → W2.heap[k]? = some o := fun k o hk ho => by rw [hW2]; exact (setRow_other _ _ _ _ hk).trans ho
      have hz1 : w.heap.size ≤ W1.heap.size := by omega
      have HW2 := Lib.hid (show Wat W2 b h ca n c size (Al.tellV q) from oth _ _ (by omega) (hph.old hne.1.1 hne.1.2.2 HW1.out))
      have HM2 := Lib.hid (show MemS W2 q p g m2 by rw [hW2]; exact Mem.setrow hm2 (by omega) _)
      have HRS2 := Lib.hid (oth _ _ (by omega) (hph.old (by omega) (by omega) HRS1.out))
      have HA62 := Lib.hid (oth _ _ (by omega) (hph.old (by omega) (by omega) HA6.out))
      have HX9 := Lib.hid rx
      have HK2 := Lib.hid (show K3 b q g w W2 by rw [hW2]; exact (HK1.out.kept hph.kept).setRow (.inl (by omega)) _)
      have HNX := Lib.hid (show W1.heap.size ≤ nb9 ∧ nb9 < W2.heap.size from ⟨nl9, (Array.getElem?_eq_some_iff.1 rx).1⟩)
      have HN := Lib.hid nh9
      have HWW2 := Lib.hid hW2
      have HC36b := Lib.hid (show W2.cell? ⟨b, 36, none⟩ = some (.int .i64 size) by rw [cell_of_row W2 _ 36 _ _ _ HW2.out]; rfl)
      clear hph hvs hz hx2 hm2 hW2 rx oth nl9 nh9 HW1 HM1 HRS1 HA6 HK1 HTL hq1 hg1 hne hnb hz1 HACT
      refine Og.go_store 28 (.tmp 9) (.tmp 34) rfl nb9 #[.int .u32 tv, .bool tok] rfl rfl 28 Al.xzero HN.out (by kernel_rfl) (by kernel_rfl) (by kernel_rfl) ?_
      rw [← HWW2.out]
      clear HWW2
      refine Og.go_assign (.tmp 35) rfl (.bool true) rfl ?_
      unfold Og.tailGo
      go_wp2
      refine Og.regionFP (by kernel_rfl) 17 (fun t => ([(40, 0), (41, 1), (42, 2), (43, 3), (44, 4), (45, 5), (46, 6), (47, 7), (48, 8), (49, 9), (50, 10), (51, 11), (39, 12), (52, 13), (53, 14), (11, 15), (12, 16)] : List (Nat × Nat)).lookup t) [.is (.pointer (some ⟨b, 0, none⟩)), .is (.pointer (some ⟨b, 0, none⟩)), .is (.pointer (some ⟨b, 0, none⟩)), .is (.agg (hcells h).toArray), .is (.int .u32 x), .is (.pointer (some ⟨b, 0, none⟩)), .is (.pointer (some ⟨b, 0, none⟩)), .is (.pointer (some ⟨b, 36, none⟩)), .is (.int .i64 size), .is (.agg (acells a).toArray), .is (.agg #[.int .u32 tv, .bool tok]), .is (.tuple #[.agg (hcells h2).toArray, .agg (Al.ccells com).toArray]), .is (.tuple #[.agg (hcells h2).toArray, .agg (Al.ccells com).toArray]), .is (.agg (hcells h2).toArray), .is (.agg (Al.ccells com).toArray), .new (.cells hzero 26), .new (.cells Al.czero 74)] [true, true, true, true, true, true, true, true, true, true, true, true, true, true, true, true, true] [(14, 39, 12)] (by kernel_rfl) (by kernel_rfl) (by rfl) ?_ ?_ ?_
      · refine ⟨?_, ?_, ?_, ?_, ?_, ?_, ?_, ?_, ?_, ?_, ?_, ?_, ?_, ?_, ?_, ?_, ?_, trivial⟩
        · refine ⟨rfl, (if_neg (by decide)).mpr fun ρ xw b2 hr hd => ?_⟩
          obtain ⟨d0, _⟩ := hd
          have d0 : ρ (.tmp 0) = .pointer (some ⟨b, 0, none⟩) := d0
          refine (if_pos (by rfl)).mpr ?_
          refine Og.gives_is (.pointer (some ⟨b, 0, none⟩)) ?_ (And.intro (Below.refl _ _) rfl)
          go_simp
        · refine ⟨rfl, (if_neg (by decide)).mpr fun ρ xw b2 hr hd => ?_⟩
          obtain ⟨d0, _⟩ := hd
          have d0 : ρ (.tmp 40) = .pointer (some ⟨b, 0, none⟩) := d0
          refine (if_pos (by rfl)).mpr ?_
          refine Og.gives_is (.pointer (some ⟨b, 0, none⟩)) ?_ (And.intro (Below.refl _ _) rfl)
          go_simp
        · refine ⟨rfl, (if_neg (by decide)).mpr fun ρ xw b2 hr hd => ?_⟩
          obtain ⟨d0, _⟩ := hd
          have d0 : ρ (.tmp 41) = .pointer (some ⟨b, 0, none⟩) := d0
          refine (if_pos (by rfl)).mpr ?_
          refine Og.gives_is (.pointer (some ⟨b, 0, none⟩)) ?_ (And.intro (Below.refl _ _) rfl)
          go_simp
        · refine ⟨rfl, (if_neg (by decide)).mpr fun ρ xw b2 hr hd => ?_⟩
          obtain ⟨d0, _⟩ := hd
          have d0 : ρ (.tmp 42) = .pointer (some ⟨b, 0, none⟩) := d0
          refine (if_pos (by rfl)).mpr ?_
          exact Og.gives_load 26 (.tmp 42) rfl ⟨b, 0, none⟩ (.agg (hcells h).toArray) d0 (run_loadVar_part xw b 0 135 26 (Al.wcs h ca n c size (Al.tellV q)).toArray (hcells h) (0, 0) _ ((Below.block hr _ (Array.getElem?_eq_some_iff.1 HW2.out).1).trans HW2.out) rfl Tryz.underlying26 rfl (by kernel_rfl)) (And.intro (Below.refl _ _) rfl)
        · refine ⟨rfl, (if_neg (by decide)).mpr fun ρ xw b2 hr hd => ?_⟩
          obtain ⟨d0, _⟩ := hd
          have d0 : ρ (.tmp 1) = .int .u32 x := d0
          refine (if_pos (by rfl)).mpr ?_
          refine Og.gives_is (.int .u32 x) ?_ (And.intro (Below.refl _ _) rfl)
          go_simp
        · refine ⟨rfl, (if_neg (by decide)).mpr fun ρ xw b2 hr hd => ?_⟩
          obtain ⟨d0, _⟩ := hd
          have d0 : ρ (.tmp 0) = .pointer (some ⟨b, 0, none⟩) := d0
          refine (if_pos (by rfl)).mpr ?_
          refine Og.gives_is (.pointer (some ⟨b, 0, none⟩)) ?_ (And.intro (Below.refl _ _) rfl)
          go_simp
        · refine ⟨rfl, (if_neg (by decide)).mpr fun ρ xw b2 hr hd => ?_⟩
          obtain ⟨d0, _⟩ := hd
          have d0 : ρ (.tmp 45) = .pointer (some ⟨b, 0, none⟩) := d0
          refine (if_pos (by rfl)).mpr ?_
          refine Og.gives_is (.pointer (some ⟨b, 0, none⟩)) ?_ (And.intro (Below.refl _ _) rfl)
          go_simp
        · refine ⟨rfl, (if_neg (by decide)).mpr fun ρ xw b2 hr hd => ?_⟩
          obtain ⟨d0, _⟩ := hd
          have d0 : ρ (.tmp 46) = .pointer (some ⟨b, 0, none⟩) := d0
          refine (if_pos (by rfl)).mpr ?_
          refine Og.gives_is (.pointer (some ⟨b, 36, none⟩)) ?_ (And.intro (Below.refl _ _) rfl)
          go_simp
        · refine ⟨rfl, (if_neg (by decide)).mpr fun ρ xw b2 hr hd => ?_⟩
          obtain ⟨d0, _⟩ := hd
          have d0 : ρ (.tmp 47) = .pointer (some ⟨b, 36, none⟩) := d0
          refine (if_pos (by rfl)).mpr ?_
          have hc : xw.cell? ⟨b, 36, none⟩ = some (.int .i64 size) := (Below.cell hr (World.block_lt_of_cell? _ _ HC36b.out)).trans HC36b.out
          refine Og.gives_is (.int .i64 size) ?_ (And.intro (Below.refl _ _) rfl)
          go_simp
        · refine ⟨rfl, (if_neg (by decide)).mpr fun ρ xw b2 hr hd => ?_⟩
          obtain ⟨d0, _⟩ := hd
          have d0 : ρ (.tmp 6) = .pointer (some ⟨nb14, 0, none⟩) := d0
          refine (if_pos (by rfl)).mpr ?_
          exact Og.gives_load 37 (.tmp 6) rfl ⟨nb14, 0, none⟩ (.agg (acells a).toArray) d0 (run_loadVar_row xw _ _ _ _ _ _ ((Below.block hr _ (Array.getElem?_eq_some_iff.1 HA62.out).1).trans HA62.out) Tryz.underlying37 rfl (by kernel_rfl)) (And.intro (Below.refl _ _) rfl)
        · refine ⟨rfl, (if_neg (by decide)).mpr fun ρ xw b2 hr hd => ?_⟩
          obtain ⟨d0, _⟩ := hd
          have d0 : ρ (.tmp 9) = .pointer (some ⟨nb9, 0, none⟩) := d0
          refine (if_pos (by rfl)).mpr ?_
          exact Og.gives_load 28 (.tmp 9) rfl ⟨nb9, 0, none⟩ (.agg #[.int .u32 tv, .bool tok]) d0 (run_loadVar_row xw _ _ _ _ _ _ ((Below.block hr _ (Array.getElem?_eq_some_iff.1 HX9.out).1).trans HX9.out) Tryz.underlying28 rfl (by kernel_rfl)) (And.intro (Below.refl _ _) rfl)
        · refine ⟨rfl, (if_neg (by decide)).mpr fun ρ xw b2 hr hd => ?_⟩
          obtain ⟨d0, d1, d2, d3, d4, d5, _⟩ := hd
          have d0 : ρ (.func 194) = .func (.func 194) #[] #[] := d0
          have d1 : ρ (.tmp 43) = .agg (hcells h).toArray := d1
          have d2 : ρ (.tmp 44) = .int .u32 x := d2
          have d3 : ρ (.tmp 48) = .int .i64 size := d3
          have d4 : ρ (.tmp 49) = .agg (acells a).toArray := d4
          have d5 : ρ (.tmp 50) = .agg #[.int .u32 tv, .bool tok] := d5
          refine (if_pos (by rfl)).mpr ?_
          refine Og.gives_call 194 #[.agg (hcells h).toArray, .int .u32 x, .int .i64 size, .agg (acells a).toArray, .agg #[.int .u32 tv, .bool tok]] ?_ ?_
          · go_simp
          · refine (HBE.out xw).mono ?_
            rintro e w3 ⟨rfl, hb⟩
            exact ⟨_, rfl, hb, rfl⟩
        · refine ⟨rfl, (if_neg (by decide)).mpr fun ρ xw b2 hr hd => ?_⟩
          obtain ⟨d0, _⟩ := hd
          have d0 : ρ (.tmp 51) = .tuple #[.agg (hcells h2).toArray, .agg (Al.ccells com).toArray] := d0
          refine (if_pos (by rfl)).mpr ?_
          refine Og.gives_is (.tuple #[.agg (hcells h2).toArray, .agg (Al.ccells com).toArray]) ?_ (And.intro (Below.refl _ _) rfl)
          go_simp
        · refine ⟨rfl, (if_neg (by decide)).mpr fun ρ xw b2 hr hd => ?_⟩
          obtain ⟨d0, _⟩ := hd
          have d0 : ρ (.tmp 39) = .tuple #[.agg (hcells h2).toArray, .agg (Al.ccells com).toArray] := d0
          refine (if_pos (by rfl)).mpr ?_
          refine Og.gives_is (.agg (hcells h2).toArray) ?_ (And.intro (Below.refl _ _) rfl)
          go_simp
        · refine ⟨rfl, (if_neg (by decide)).mpr fun ρ xw b2 hr hd => ?_⟩
          obtain ⟨d0, _⟩ := hd
          have d0 : ρ (.tmp 39) = .tuple #[.agg (hcells h2).toArray, .agg (Al.ccells com).toArray] := d0
          refine (if_pos (by rfl)).mpr ?_
          refine Og.gives_is (.agg (Al.ccells com).toArray) ?_ (And.intro (Below.refl _ _) rfl)
          go_simp
        · refine ⟨rfl, (if_neg (by decide)).mpr fun ρ xw b2 hr hd => ?_⟩
          refine (if_pos (by rfl)).mpr ?_
          refine Og.gives_new (.pointer (some ⟨xw.heap.size, 0, none⟩)) (w' := xw.alloc (.cells hzero 26)) ?_ ⟨(Below.refl _ _).alloc (Nat.le_refl _) _, _, rfl, hr.size, heap_alloc_new _ _⟩
          go_simp
        · refine ⟨rfl, (if_neg (by decide)).mpr fun ρ xw b2 hr hd => ?_⟩
          refine (if_pos (by rfl)).mpr ?_
          refine Og.gives_new (.pointer (some ⟨xw.heap.size, 0, none⟩)) (w' := xw.alloc (.cells Al.czero 74)) ?_ ⟨(Below.refl _ _).alloc (Nat.le_refl _) _, _, rfl, hr.size, heap_alloc_new _ _⟩
          go_simp
      · refine ⟨?_, trivial⟩
        · intro ρ xw d0
          replace d0 : ρ (.tmp 39) = .tuple #[.agg (hcells h2).toArray, .agg (Al.ccells com).toArray] := d0
          refine (show (execOp ρ _).run _ xw = .ok (.value (.agg (Al.ccells com).toArray)) xw from ?_)
          go_simp
      · intro vs w3 hb3 hvs
        have nv0 : vs 0 = .pointer (some ⟨b, 0, none⟩) := hvs 0 _ 40 rfl rfl
        have nv1 : vs 1 = .pointer (some ⟨b, 0, none⟩) := hvs 1 _ 41 rfl rfl
        have nv2 : vs 2 = .pointer (some ⟨b, 0, none⟩) := hvs 2 _ 42 rfl rfl
        have nv3 : vs 3 = .agg (hcells h).toArray := hvs 3 _ 43 rfl rfl
        have nv4 : vs 4 = .int .u32 x := hvs 4 _ 44 rfl rfl
        have nv5 : vs 5 = .pointer (some ⟨b, 0, none⟩) := hvs 5 _ 45 rfl rfl
        have nv6 : vs 6 = .pointer (some ⟨b, 0, none⟩) := hvs 6 _ 46 rfl rfl
        have nv7 : vs 7 = .pointer (some ⟨b, 36, none⟩) := hvs 7 _ 47 rfl rfl
        have nv8 : vs 8 = .int .i64 size := hvs 8 _ 48 rfl rfl
        have nv9 : vs 9 = .agg (acells a).toArray := hvs 9 _ 49 rfl rfl
        have nv10 : vs 10 = .agg #[.int .u32 tv, .bool tok] := hvs 10 _ 50 rfl rfl
        have nv11 : vs 11 = .tuple #[.agg (hcells h2).toArray, .agg (Al.ccells com).toArray] := hvs 11 _ 51 rfl rfl
        have nv12 : vs 12 = .tuple #[.agg (hcells h2).toArray, .agg (Al.ccells com).toArray] := hvs 12 _ 39 rfl rfl
        have nv13 : vs 13 = .agg (hcells h2).toArray := hvs 13 _ 52 rfl rfl
        have nv14 : vs 14 = .agg (Al.ccells com).toArray := hvs 14 _ 53 rfl rfl
        obtain ⟨nb15, nv15, nl15, nh15⟩ := hvs 15 _ 11 rfl rfl
        obtain ⟨nb16, nv16, nl16, nh16⟩ := hvs 16 _ 12 rfl rfl
        simp only [List.take_succ_cons, List.take_zero, List.drop_succ_cons, List.drop_zero, Og.putAll, Act.put, List.setIfInBounds_toArray, List.set_cons_zero, List.set_cons_succ, Nat.zero_add, Nat.reduceAdd, nv0, nv1, nv2, nv3, nv4, nv5, nv6, nv7, nv8, nv9, nv10, nv11, nv12, nv13, nv14, nv15, nv16]
        have hne := HNE.out
        have hnb := HNB.out
        have hnx := HNX.out
        have hzz : W2.heap.size ≤ w3.heap.size := hb3.size
        have hd : nb15 ≠ nb16 := by
          intro e
          rw [e] at nh15
          rw [nh15] at nh16
          have := congrArg (fun o : Option Obj => match o with | some (.cells cs _ _) => cs.size | _ => 0) nh16
          exact absurd this (by decide)
        have kk : ∀ k o, W2.heap[k]? = some o → w3.heap[k]? = some o := fun k o hk => (hb3.block _ (Array.getElem?_eq_some_iff.1 hk).1).trans hk
        have hw3 : Wat w3 b h ca n c size (Al.tellV q) := kk _ _ HW2.out
        have hm3 : MemS w3 q p g m2 := Mem.below HM2.out hb3
        have hres3 := kk _ _ HRS2.out
        have hk3 : K3 b q g w w3 := HK2.out.below hb3
        obtain ⟨W3, hW3⟩ : ∃ W3, W3 = (w3.setRow nb15 (hcells h2).toArray).setRow nb16 (Al.ccells com).toArray := ⟨_, rfl⟩
        have oth : ∀ k o, k ≠ nb15 → k ≠ nb16 → w3.heap[k]? = some o → W3.heap[k]? = some o := fun k o h1 h2 ho => by rw [hW3]; exact (setRow_other _ _ _ _ h2).trans ((setRow_other _ _ _ _ h1).trans ho)
        have q15 : W3.heap[nb15]? = some (.cells (hcells h2).toArray 26 (0, 0)) := by rw [hW3]; exact (setRow_other _ _ _ _ hd).trans (setRow_heap _ _ _ _ _ _ nh15)
        have q16 : W3.heap[nb16]? = some (.cells (Al.ccells com).toArray 74 (0, 0)) := by rw [hW3]; exact setRow_heap _ _ _ _ _ _ ((setRow_other _ _ _ _ hd.symm).trans nh16)
        have hw4 : Wat W3 b h ca n c size (Al.tellV q) := oth _ _ (by omega) (by omega) hw3
        have hm4 : MemS W3 q p g m2 := by rw [hW3]; exact Mem.setrow (Mem.setrow hm3 (by omega) _) (by omega) _
        have hres4 := oth _ _ (by omega) (by omega) hres3
        have hk4 : K3 b q g w W3 := by rw [hW3]; exact (hk3.setRow (.inl (by omega)) _).setRow (.inl (by omega)) _
        obtain ⟨W4, hW4⟩ : ∃ W4, W4 = W3.setRow b (Al.wcs h2 ca n c size (Al.tellV q)).toArray := ⟨_, rfl⟩
        have hw5 : Wat W4 b h2 ca n c size (Al.tellV q) := by rw [hW4]; exact setRow_heap _ _ _ _ _ _ hw4
        have hm5 : MemS W4 q p g m2 := by rw [hW4]; exact Mem.setrow hm4 (by omega) _
        have hres5 : W4.heap[w.heap.size]? = some (.cells Al.czero 74 (0, 0)) := by rw [hW4]; exact (setRow_other _ _ _ _ (by omega)).trans hres4
        have hk5 : K3 b q g w W4 := by rw [hW4]; exact hk4.setRow (.inr rfl) _
        have q16b : W4.heap[nb16]? = some (.cells (Al.ccells com).toArray 74 (0, 0)) := by rw [hW4]; exact (setRow_other _ _ _ _ (by omega)).trans q16
        have N15 := Lib.hid nh15; have N16 := Lib.hid ((setRow_other w3 nb15 nb16 (hcells h2).toArray hd.symm).trans nh16)
        have HW3 := Lib.hid hW3; have HW4 := Lib.hid hW4; have Q15 := Lib.hid q15; have Q16 := Lib.hid q16b; have HB4 := Lib.hid hw4; have HB5 := Lib.hid hw5; have HM5 := Lib.hid hm5; have HR5 := Lib.hid hres5; have HK5 := Lib.hid hk5
        have HNN := Lib.hid (show b ≠ w.heap.size ∧ p ≠ w.heap.size ∧ q ≠ w.heap.size ∧ g ≠ w.heap.size by omega)
        clear hne hnb hnx hzz kk hw3 hm3 hres3 hk3 hW3 oth q15 q16 hw4 hm4 hres4 hk4 hW4 hw5 hm5 hres5 hk5 q16b nh15 nh16 hb3 hvs nl15 nl16 HW2 HM2 HRS2 HA62 HX9 HK2 HNX HNB HC36b HN HBE hd
        refine Og.go_store 26 (.tmp 11) (.tmp 52) rfl nb15 (hcells h2).toArray rfl rfl 26 hzero N15.out (by kernel_rfl) (by kernel_rfl) (by kernel_rfl) ?_
        refine Og.go_store 74 (.tmp 12) (.tmp 53) rfl nb16 (Al.ccells com).toArray rfl rfl 74 Al.czero N16.out (by kernel_rfl) (by kernel_rfl) (by kernel_rfl) ?_
        rw [← HW3.out]
        clear HW3
        unfold Og.tailGo
        go_wp2_with (first
          | (show wpList _ _ _ (Oper.mk (some 55) _ _ _ _ _ :: _) _ _; refine wpList_load_row rfl 26 (.tmp 11) rfl nb15 rfl 26 (hcells h2).toArray (0, 0) _ Q15.out Tryz.underlying26 rfl (by kernel_rfl) ?_)
          | (show wpList _ _ _ (Oper.mk none (Op.store 26 _ _) _ _ _ _ :: _) _ _; have hx := HW4.out; clear HW4; refine wpList_store_part rfl 26 (.tmp 57) (.tmp 55) rfl b (hcells h2).toArray rfl rfl 135 (Al.wcs h ca n c size (Al.tellV q)).toArray HB4.out (by kernel_rfl) (Nat.le_of_ble_eq_true rfl) (by kernel_rfl) ?_; rw [show ((hcells h2).toArray.toList ++ (Al.wcs h ca n c size (Al.tellV q)).toArray.toList.drop (hcells h2).toArray.size).toArray = (Al.wcs h2 ca n c size (Al.tellV q)).toArray from rfl, ← hx]; clear hx)
          | (show wpList _ _ _ (Oper.mk (some 58) _ _ _ _ _ :: _) _ _; refine wpList_load_row rfl 74 (.tmp 12) rfl nb16 rfl 74 (Al.ccells com).toArray (0, 0) _ Q16.out Tryz.underlying74 rfl (by kernel_rfl) ?_)
          | (show wpList _ _ _ (Oper.mk none (Op.store 74 _ _) _ _ _ _ :: _) _ _; refine wpList_store_row rfl 74 (.tmp 4) (.tmp 58) rfl w.heap.size (Al.ccells com).toArray rfl rfl 74 Al.czero HR5.out (by kernel_rfl) (by kernel_rfl) (by kernel_rfl) ?_))
        refine bodyPost_ret (v := .tuple #[.agg (Al.ccells com).toArray, .bool true]) ?_ rfl ⟨rfl, (setRow_other _ _ _ _ HNN.out.1).trans HB5.out, Mem.setrow HM5.out HNN.out.2 _, HK5.out.setRow (.inl (Nat.le_refl _)) _⟩
        exact results_row_tmp (fn := Tryz.f96) rfl _ _ w.heap.size 74 (Al.ccells com).toArray (0, 0) _ rfl (setRow_heap _ _ _ _ _ _ HR5.out) Tryz.underlying74 rfl (by kernel_rfl)
end Go.Proofs.YtianojbdabeoeaaGreatDoor
end

section
namespace Go.Proofs.YtianojbdabeoeaaGreatDoor
open Go.RowKit Ht
set_option linter.unusedVariables false
/-- the commit where there is no word -/
def Al.strayC (pc : Int) : Al.C := ⟨pc, 0, A0, 0, false, 0, 0, 4⟩
set_option maxRecDepth 100000 in
set_option maxHeartbeats 2000000 in
theorem stray_any (b q p g : Nat) (h : H) (ca : Option Addr) (n c : Nat) (size : Int) (tv : Value) (m : Al.MS) (w : World) (hw : Wat w b h ca n c size tv) (hm : MemS w q p g m) (hne : b ≠ q ∧ b ≠ p ∧ b ≠ g) :
    Calls Tryz.prog 95 #[.pointer (some ⟨b, 0, none⟩)] w fun e w' => e = .returned (Al.comV (Al.strayC h.pc)) ∧ Wat w' b { h with cause := 4 } ca n c size tv ∧ MemS w' q p g m ∧ Og.Kept b b w w' := by
  have hlb := (Array.getElem?_eq_some_iff.1 hw).1
  have hlq := Mem.lt hm
  have hlp := im_heap_lt hm.img.ptr
  obtain ⟨W0, hW0⟩ : ∃ W0, W0 = w.alloc (.cells Al.czero 74) := ⟨_, rfl⟩
  have bb : Below w.heap.size w W0 := by rw [hW0]; exact (Below.refl _ _).alloc (Nat.le_refl _) _
  have hw0 : Wat W0 b h ca n c size tv := (bb.block b hlb).trans hw
  have hres : W0.heap[w.heap.size]? = some (.cells Al.czero 74 (0, 0)) := by rw [hW0]; exact heap_alloc_new _ _
  have hm0 : MemS W0 q p g m := Mem.below hm bb
  have c34 : W0.cell? ⟨b, 34, none⟩ = some (.int .i64 h.cause) := by rw [cell_of_row W0 _ 34 _ _ _ hw0]; rfl
  have f34 := frozen_of_row W0 b 34 _ _ hw0
  obtain ⟨W1, hW1⟩ : ∃ W1, W1 = W0.setCell ⟨b, 34, none⟩ (.int .i64 4) := ⟨_, rfl⟩
  have hw1 : Wat W1 b { h with cause := 4 } ca n c size tv := by rw [hW1]; unfold Wat; rw [heap_setCell_same W0 b 34 _ _ _ hw0]; rfl
  have oth : ∀ k o, k ≠ b → W0.heap[k]? = some o → W1.heap[k]? = some o := fun k o hk ho => by rw [hW1]; exact (Below.heap_setCell _ _ _ _ hk).trans ho
  have hm1 : MemS W1 q p g m := ⟨⟨oth _ _ (by omega) hm0.img.ptr, oth _ _ (by omega) hm0.img.row, hm0.img.ok, hm0.img.byt⟩, oth _ _ (by omega) hm0.own, hm0.qg, hm0.qp⟩
  have hr1 := oth _ _ (by omega) hres
  have hk1 : Og.Kept b b w W1 := by rw [hW1]; exact (Og.Kept.of_below bb).setCell 34 _
  have HC1 := Lib.hid (show W1.cell? ⟨b, 1, none⟩ = some (.int .u32 h.pc) by rw [cell_of_row W1 _ 1 _ _ _ hw1]; rfl)
  have HC34 := Lib.hid (show W1.cell? ⟨b, 34, none⟩ = some (.int .i64 4) by rw [cell_of_row W1 _ 34 _ _ _ hw1]; rfl)
  have HW1 := Lib.hid hw1; have HM1 := Lib.hid hm1; have HR1 := Lib.hid hr1; have HK1 := Lib.hid hk1; have HV0 := Lib.hid hW0; have HV1 := Lib.hid hW1
  have HNN := Lib.hid (show b ≠ w.heap.size ∧ p ≠ w.heap.size ∧ q ≠ w.heap.size ∧ g ≠ w.heap.size by omega)
  clear hw hm hne hlb hlq hlp hW0 bb hw0 hres hm0 hW1 hw1 oth hm1 hr1 hk1
  go_enter Tryz.func95, Tryz.ntmps95
  go_wp2_with (show wpList _ _ _ (Oper.mk (some 5) _ _ _ _ _ :: _) _ _; rw [← HV0.out]; clear HV0; skip)
  clear c34 f34
  rw [← HV1.out]
  clear HV1
  refine Og.regionP (by kernel_rfl) 11 (fun t => ([(7, 0), (8, 1), (9, 2), (10, 3), (11, 4), (12, 5), (13, 6), (14, 7), (15, 8), (16, 9), (17, 10)] : List (Nat × Nat)).lookup t) [.is (.pointer (some ⟨b, 0, none⟩)), .is (.pointer (some ⟨b, 0, none⟩)), .is (.pointer (some ⟨b, 0, none⟩)), .is (.pointer (some ⟨b, 1, none⟩)), .is (.int .u32 h.pc), .is (.pointer (some ⟨b, 0, none⟩)), .is (.pointer (some ⟨b, 0, none⟩)), .is (.pointer (some ⟨b, 0, none⟩)), .is (.pointer (some ⟨b, 34, none⟩)), .is (.int .i64 4), .is (.agg (Al.ccells (Al.strayC h.pc)).toArray)] [true, true, true, true, true, true, true, true, true, true, true] (by kernel_rfl) (by decide) ?_ ?_
  · refine ⟨?_, ?_, ?_, ?_, ?_, ?_, ?_, ?_, ?_, ?_, ?_, trivial⟩
    · refine ⟨rfl, (if_neg (by decide)).mpr fun ρ xw b2 hr hd => ?_⟩
      obtain ⟨d0, _⟩ := hd
      have d0 : ρ (.tmp 0) = .pointer (some ⟨b, 0, none⟩) := d0
      refine (if_pos (by rfl)).mpr ?_
      refine Og.gives_is (.pointer (some ⟨b, 0, none⟩)) ?_ (And.intro (Below.refl _ _) rfl)
      go_simp
    · refine ⟨rfl, (if_neg (by decide)).mpr fun ρ xw b2 hr hd => ?_⟩
      obtain ⟨d0, _⟩ := hd
      have d0 : ρ (.tmp 7) = .pointer (some ⟨b, 0, none⟩) := d0
      refine (if_pos (by rfl)).mpr ?_
      refine Og.gives_is (.pointer (some ⟨b, 0, none⟩)) ?_ (And.intro (Below.refl _ _) rfl)
      go_simp
    · refine ⟨rfl, (if_neg (by decide)).mpr fun ρ xw b2 hr hd => ?_⟩
      obtain ⟨d0, _⟩ := hd
      have d0 : ρ (.tmp 8) = .pointer (some ⟨b, 0, none⟩) := d0
      refine (if_pos (by rfl)).mpr ?_
      refine Og.gives_is (.pointer (some ⟨b, 0, none⟩)) ?_ (And.intro (Below.refl _ _) rfl)
      go_simp
    · refine ⟨rfl, (if_neg (by decide)).mpr fun ρ xw b2 hr hd => ?_⟩
      obtain ⟨d0, _⟩ := hd
      have d0 : ρ (.tmp 9) = .pointer (some ⟨b, 0, none⟩) := d0
      refine (if_pos (by rfl)).mpr ?_
      refine Og.gives_is (.pointer (some ⟨b, 1, none⟩)) ?_ (And.intro (Below.refl _ _) rfl)
      go_simp
    · refine ⟨rfl, (if_neg (by decide)).mpr fun ρ xw b2 hr hd => ?_⟩
      obtain ⟨d0, _⟩ := hd
      have d0 : ρ (.tmp 10) = .pointer (some ⟨b, 1, none⟩) := d0
      refine (if_pos (by rfl)).mpr ?_
      have hc : xw.cell? ⟨b, 1, none⟩ = some (.int .u32 h.pc) := (Below.cell hr (World.block_lt_of_cell? _ _ HC1.out)).trans HC1.out
      refine Og.gives_is (.int .u32 h.pc) ?_ (And.intro (Below.refl _ _) rfl)
      go_simp
    · refine ⟨rfl, (if_neg (by decide)).mpr fun ρ xw b2 hr hd => ?_⟩
      obtain ⟨d0, _⟩ := hd
      have d0 : ρ (.tmp 0) = .pointer (some ⟨b, 0, none⟩) := d0
      refine (if_pos (by rfl)).mpr ?_
      refine Og.gives_is (.pointer (some ⟨b, 0, none⟩)) ?_ (And.intro (Below.refl _ _) rfl)
      go_simp
    · refine ⟨rfl, (if_neg (by decide)).mpr fun ρ xw b2 hr hd => ?_⟩
      obtain ⟨d0, _⟩ := hd
      have d0 : ρ (.tmp 12) = .pointer (some ⟨b, 0, none⟩) := d0
      refine (if_pos (by rfl)).mpr ?_
      refine Og.gives_is (.pointer (some ⟨b, 0, none⟩)) ?_ (And.intro (Below.refl _ _) rfl)
      go_simp
    · refine ⟨rfl, (if_neg (by decide)).mpr fun ρ xw b2 hr hd => ?_⟩
      obtain ⟨d0, _⟩ := hd
      have d0 : ρ (.tmp 13) = .pointer (some ⟨b, 0, none⟩) := d0
      refine (if_pos (by rfl)).mpr ?_
      refine Og.gives_is (.pointer (some ⟨b, 0, none⟩)) ?_ (And.intro (Below.refl _ _) rfl)
      go_simp
    · refine ⟨rfl, (if_neg (by decide)).mpr fun ρ xw b2 hr hd => ?_⟩
      obtain ⟨d0, _⟩ := hd
      have d0 : ρ (.tmp 14) = .pointer (some ⟨b, 0, none⟩) := d0
      refine (if_pos (by rfl)).mpr ?_
      refine Og.gives_is (.pointer (some ⟨b, 34, none⟩)) ?_ (And.intro (Below.refl _ _) rfl)
      go_simp
    · refine ⟨rfl, (if_neg (by decide)).mpr fun ρ xw b2 hr hd => ?_⟩
      obtain ⟨d0, _⟩ := hd
      have d0 : ρ (.tmp 15) = .pointer (some ⟨b, 34, none⟩) := d0
      refine (if_pos (by rfl)).mpr ?_
      have hc : xw.cell? ⟨b, 34, none⟩ = some (.int .i64 4) := (Below.cell hr (World.block_lt_of_cell? _ _ HC34.out)).trans HC34.out
      refine Og.gives_is (.int .i64 4) ?_ (And.intro (Below.refl _ _) rfl)
      go_simp
    · refine ⟨rfl, (if_neg (by decide)).mpr fun ρ xw b2 hr hd => ?_⟩
      obtain ⟨d0, d1, _⟩ := hd
      have d0 : ρ (.tmp 11) = .int .u32 h.pc := d0
      have d1 : ρ (.tmp 16) = .int .i64 4 := d1
      refine (if_pos (by rfl)).mpr ?_
      refine Og.gives_build 74 #[(0, .tmp 11), (6, .tmp 16)] rfl (Al.ccells (Al.strayC h.pc)).toArray ?_ (And.intro (Below.refl _ _) rfl)
      simp only [List.map_toArray, List.map_cons, List.map_nil, d0, d1]
      kernel_rfl
  · intro vs w2 hb2 hvs
    have nv0 : vs 0 = .pointer (some ⟨b, 0, none⟩) := hvs 0 _ 7 rfl rfl
    have nv1 : vs 1 = .pointer (some ⟨b, 0, none⟩) := hvs 1 _ 8 rfl rfl
    have nv2 : vs 2 = .pointer (some ⟨b, 0, none⟩) := hvs 2 _ 9 rfl rfl
    have nv3 : vs 3 = .pointer (some ⟨b, 1, none⟩) := hvs 3 _ 10 rfl rfl
    have nv4 : vs 4 = .int .u32 h.pc := hvs 4 _ 11 rfl rfl
    have nv5 : vs 5 = .pointer (some ⟨b, 0, none⟩) := hvs 5 _ 12 rfl rfl
    have nv6 : vs 6 = .pointer (some ⟨b, 0, none⟩) := hvs 6 _ 13 rfl rfl
    have nv7 : vs 7 = .pointer (some ⟨b, 0, none⟩) := hvs 7 _ 14 rfl rfl
    have nv8 : vs 8 = .pointer (some ⟨b, 34, none⟩) := hvs 8 _ 15 rfl rfl
    have nv9 : vs 9 = .int .i64 4 := hvs 9 _ 16 rfl rfl
    have nv10 : vs 10 = .agg (Al.ccells (Al.strayC h.pc)).toArray := hvs 10 _ 17 rfl rfl
    simp only [List.take_succ_cons, List.take_zero, List.drop_succ_cons, List.drop_zero, Og.putAll, Act.put, List.setIfInBounds_toArray, List.set_cons_zero, List.set_cons_succ, Nat.zero_add, Nat.reduceAdd, nv0, nv1, nv2, nv3, nv4, nv5, nv6, nv7, nv8, nv9, nv10]
    have r2 := (hb2.block _ (Array.getElem?_eq_some_iff.1 HR1.out).1).trans HR1.out
    have w2' : Wat w2 b { h with cause := 4 } ca n c size tv := (hb2.block _ (Array.getElem?_eq_some_iff.1 HW1.out).1).trans HW1.out
    have m2' := Mem.below HM1.out hb2
    have k2 := HK1.out.below hb2
    have R2 := Lib.hid r2; have W2 := Lib.hid w2'; have M2 := Lib.hid m2'; have K2 := Lib.hid k2
    clear hb2 hvs r2 w2' m2' k2 HW1 HM1 HR1 HK1 HC1 HC34
    go_wp2_with (refine wpList_store_row rfl 74 (.tmp 2) (.tmp 17) rfl w.heap.size (Al.ccells (Al.strayC h.pc)).toArray rfl rfl 74 Al.czero R2.out (by kernel_rfl) (by kernel_rfl) (by kernel_rfl) ?_)
    refine bodyPost_ret (v := .agg (Al.ccells (Al.strayC h.pc)).toArray) ?_ rfl ⟨rfl, (setRow_other _ _ _ _ HNN.out.1).trans W2.out, Mem.setrow M2.out HNN.out.2 _, K2.out.setRow (Nat.le_refl _) _⟩
    exact results_cell_row (fn := Tryz.f95) rfl _ _ w.heap.size 74 (Al.ccells (Al.strayC h.pc)).toArray (0, 0) _ rfl (setRow_heap _ _ _ _ _ _ R2.out) Tryz.underlying74 rfl (by kernel_rfl)
end Go.Proofs.YtianojbdabeoeaaGreatDoor
end

section
namespace Go.Og
open Go
open Classical in
/-- the last round that a world may be at -/
noncomputable def top (J : Nat → World → Prop) (w : World) : Nat → Nat
  | 0 => 0
  | n + 1 => if J n w then n else top J w n
theorem top_spec {J : Nat → World → Prop} {w : World} : ∀ (n k : Nat), k < n → J k w → J (top J w n) w ∧ k ≤ top J w n ∧ top J w n < n
  | 0, k, h, _ => absurd h (Nat.not_lt_zero _)
  | n + 1, k, h, hj => by
    unfold top
    by_cases e : J n w
    · rw [if_pos e]; exact ⟨e, by omega, by omega⟩
    · rw [if_neg e]
      have hk : k < n := Nat.lt_of_le_of_ne (by omega) (fun c => e (c ▸ hj))
      have := top_spec n k hk hj
      exact ⟨this.1, this.2.1, by omega⟩
end Go.Og
namespace Go.Proofs.YtianojbdabeoeaaGreatDoor
open Go.RowKit Ht
set_option linter.unusedVariables false
theorem steps_any (b : Nat) (w : World) :
    Calls Tryz.prog 94 #[.pointer (some ⟨b, 0, none⟩)] w fun e w' => e = .returned (.func (.func 193) #[] #[.pointer (some ⟨w.heap.size, 0, none⟩)]) ∧ w' = w.alloc (.cells #[.pointer (some ⟨b, 0, none⟩)] 150) := by
  go_enter Tryz.func94, Tryz.ntmps94
  go_wp2
  go_ret
  exact ⟨rfl, rfl⟩
/-- what the iterator reads -/
structure Sees (c b : Nat) (ca : Option Addr) (n cp : Nat) (size : Int) (tv : Value) (xs : List Int) (h : H) (W : World) : Prop where
  hb : HB h
  box : W.heap[c]? = some (.cells #[.pointer (some ⟨b, 0, none⟩)] 150 (0, 0))
  row : Wat W b h ca n cp size tv
  code : CodeIn W ca xs
/-- what it hands over -/
def Al.enc (xs : List Int) (h : H) : Array Value := #[.int .u32 (Al.word xs h.pc), .bool (Al.there xs h.pc)]
theorem Sees.below {c b : Nat} {ca : Option Addr} {n cp : Nat} {size : Int} {tv : Value} {xs : List Int} {h : H} {W W' : World} (s : Sees c b ca n cp size tv xs h W) (hb : Below W.heap.size W W') : Sees c b ca n cp size tv xs h W' :=
  ⟨s.hb, (hb.block _ (Array.getElem?_eq_some_iff.1 s.box).1).trans s.box, (hb.block _ (Array.getElem?_eq_some_iff.1 s.row).1).trans s.row, s.code.below hb⟩
set_option maxRecDepth 100000 in
set_option maxHeartbeats 4000000 in
theorem steps_iter (m : Nat) (hm : 1 ≤ m) (c b : Nat) (ca : Option Addr) (n cp : Nat) (size : Int) (tv : Value) (xs : List Int) (hl : xs.length = n) (hn : n ≤ 9223372036854775807) :
    Og.IterSt Fence.wide m Tryz.prog 193 #[.pointer (some ⟨c, 0, none⟩)] (Sees c b ca n cp size tv xs) (Al.enc xs) := by
  intro l N J Jx W hst hJ hY h0
  have HST := Lib.hid hst; have HJ := Lib.hid hJ; have HY := Lib.hid hY; clear hst hJ hY
  refine callsIn_of_wp Tryz.func193 rfl trivial ?_ rfl
  simp only [Tryz.ntmps193, List.size_toArray, List.length_cons, List.length_nil, Nat.reduceAdd, Nat.reduceSub, Array.replicate_succ, Array.replicate_zero, List.push_toArray, List.append_toArray, List.nil_append, List.cons_append]
  gi_wp2_with fail
  gi_loopw [] (fun wr => ∃ k, J k wr) (fun wr => N - Og.top J wr N)
  case atStart => exact ⟨0, h0⟩
  case round =>
    obtain ⟨k0, hk0⟩ := hrel
    obtain ⟨hj, _, htop⟩ := Og.top_spec N k0 (HJ.out _ _ hk0).1 hk0
    obtain ⟨k, hk⟩ : ∃ k, k = Og.top J wr N := ⟨_, rfl⟩
    rw [← hk] at hj htop ⊢
    obtain ⟨_, h, hR⟩ := HJ.out _ _ hj
    have HHB := Lib.hid hR.hb; have HBX := Lib.hid hR.box; have HRW := Lib.hid hR.row; have HC := Lib.hid hR.code
    have c1 := Lib.hid (show wr.cell? ⟨c, 0, none⟩ = some (.pointer (some ⟨b, 0, none⟩)) by rw [cell_of_row wr _ 0 _ _ _ HBX.out]; rfl)
    have c2 := Lib.hid (show wr.cell? ⟨b, 1, none⟩ = some (.int .u32 h.pc) by rw [cell_of_row wr _ 1 _ _ _ HRW.out]; rfl)
    have c3 := Lib.hid (show wr.cell? ⟨b, 35, none⟩ = some (.slice ca n cp) by rw [cell_of_row wr _ 35 _ _ _ HRW.out]; rfl)
    have hJK := Lib.hid hj
    have HR := Lib.hid hR
    have HK := Lib.hid hk
    clear hk0 hR hj hk h0
    gi_wp2_with fail
    refine Og.regionPG (fun _ => trivial) rfl (fun h => callsIn_wide.2 h) (by kernel_rfl) 13 (by rfl) (fun t => ([(3, 0), (4, 1), (5, 2), (6, 3), (7, 4), (8, 5), (9, 6), (10, 7), (11, 8), (12, 9), (13, 10), (14, 11), (15, 12)] : List (Nat × Nat)).lookup t) [.is (.func (.yield l) #[] #[]), .is (.pointer (some ⟨b, 0, none⟩)), .is (.pointer (some ⟨b, 0, none⟩)), .is (.pointer (some ⟨b, 35, none⟩)), .is (.slice ca n cp), .is (.pointer (some ⟨b, 0, none⟩)), .is (.pointer (some ⟨b, 0, none⟩)), .is (.pointer (some ⟨b, 0, none⟩)), .is (.pointer (some ⟨b, 1, none⟩)), .is (.int .u32 h.pc), .is (.tuple #[.int .u32 (Al.word xs h.pc), .bool (Al.there xs h.pc)]), .is (.int .u32 (Al.word xs h.pc)), .is (.bool (Al.there xs h.pc))] [true, true, true, true, true, true, true, true, true, true, true, true, true] (by kernel_rfl) (by decide) ?_ ?_
    · refine ⟨?_, ?_, ?_, ?_, ?_, ?_, ?_, ?_, ?_, ?_, ?_, ?_, ?_, trivial⟩
      · refine ⟨rfl, (if_neg (by decide)).mpr fun ρ xw b2 hr hd => ?_⟩
        obtain ⟨d0, _⟩ := hd
        have d0 : ρ (.tmp 0) = .func (.yield l) #[] #[] := d0
        refine (if_pos (by rfl)).mpr ?_
        refine Og.gives_is (.func (.yield l) #[] #[]) ?_ (And.intro (Below.refl _ _) rfl)
        go_simp
      · refine ⟨rfl, (if_neg (by decide)).mpr fun ρ xw b2 hr hd => ?_⟩
        obtain ⟨d0, _⟩ := hd
        have d0 : ρ (.tmp 1) = .pointer (some ⟨c, 0, none⟩) := d0
        refine (if_pos (by rfl)).mpr ?_
        have hc : xw.cell? ⟨c, 0, none⟩ = some (.pointer (some ⟨b, 0, none⟩)) := (Below.cell hr (World.block_lt_of_cell? _ _ c1.out)).trans c1.out
        refine Og.gives_is (.pointer (some ⟨b, 0, none⟩)) ?_ (And.intro (Below.refl _ _) rfl)
        go_simp
      · refine ⟨rfl, (if_neg (by decide)).mpr fun ρ xw b2 hr hd => ?_⟩
        obtain ⟨d0, _⟩ := hd
        have d0 : ρ (.tmp 4) = .pointer (some ⟨b, 0, none⟩) := d0
        refine (if_pos (by rfl)).mpr ?_
        refine Og.gives_is (.pointer (some ⟨b, 0, none⟩)) ?_ (And.intro (Below.refl _ _) rfl)
        go_simp
      · refine ⟨rfl, (if_neg (by decide)).mpr fun ρ xw b2 hr hd => ?_⟩
        obtain ⟨d0, _⟩ := hd
        have d0 : ρ (.tmp 5) = .pointer (some ⟨b, 0, none⟩) := d0
        refine (if_pos (by rfl)).mpr ?_
        refine Og.gives_is (.pointer (some ⟨b, 35, none⟩)) ?_ (And.intro (Below.refl _ _) rfl)
        go_simp
      · refine ⟨rfl, (if_neg (by decide)).mpr fun ρ xw b2 hr hd => ?_⟩
        obtain ⟨d0, _⟩ := hd
        have d0 : ρ (.tmp 6) = .pointer (some ⟨b, 35, none⟩) := d0
        refine (if_pos (by rfl)).mpr ?_
        have hc : xw.cell? ⟨b, 35, none⟩ = some (.slice ca n cp) := (Below.cell hr (World.block_lt_of_cell? _ _ c3.out)).trans c3.out
        refine Og.gives_is (.slice ca n cp) ?_ (And.intro (Below.refl _ _) rfl)
        go_simp
      · refine ⟨rfl, (if_neg (by decide)).mpr fun ρ xw b2 hr hd => ?_⟩
        obtain ⟨d0, _⟩ := hd
        have d0 : ρ (.tmp 1) = .pointer (some ⟨c, 0, none⟩) := d0
        refine (if_pos (by rfl)).mpr ?_
        have hc : xw.cell? ⟨c, 0, none⟩ = some (.pointer (some ⟨b, 0, none⟩)) := (Below.cell hr (World.block_lt_of_cell? _ _ c1.out)).trans c1.out
        refine Og.gives_is (.pointer (some ⟨b, 0, none⟩)) ?_ (And.intro (Below.refl _ _) rfl)
        go_simp
      · refine ⟨rfl, (if_neg (by decide)).mpr fun ρ xw b2 hr hd => ?_⟩
        obtain ⟨d0, _⟩ := hd
        have d0 : ρ (.tmp 8) = .pointer (some ⟨b, 0, none⟩) := d0
        refine (if_pos (by rfl)).mpr ?_
        refine Og.gives_is (.pointer (some ⟨b, 0, none⟩)) ?_ (And.intro (Below.refl _ _) rfl)
        go_simp
      · refine ⟨rfl, (if_neg (by decide)).mpr fun ρ xw b2 hr hd => ?_⟩
        obtain ⟨d0, _⟩ := hd
        have d0 : ρ (.tmp 9) = .pointer (some ⟨b, 0, none⟩) := d0
        refine (if_pos (by rfl)).mpr ?_
        refine Og.gives_is (.pointer (some ⟨b, 0, none⟩)) ?_ (And.intro (Below.refl _ _) rfl)
        go_simp
      · refine ⟨rfl, (if_neg (by decide)).mpr fun ρ xw b2 hr hd => ?_⟩
        obtain ⟨d0, _⟩ := hd
        have d0 : ρ (.tmp 10) = .pointer (some ⟨b, 0, none⟩) := d0
        refine (if_pos (by rfl)).mpr ?_
        refine Og.gives_is (.pointer (some ⟨b, 1, none⟩)) ?_ (And.intro (Below.refl _ _) rfl)
        go_simp
      · refine ⟨rfl, (if_neg (by decide)).mpr fun ρ xw b2 hr hd => ?_⟩
        obtain ⟨d0, _⟩ := hd
        have d0 : ρ (.tmp 11) = .pointer (some ⟨b, 1, none⟩) := d0
        refine (if_pos (by rfl)).mpr ?_
        have hc : xw.cell? ⟨b, 1, none⟩ = some (.int .u32 h.pc) := (Below.cell hr (World.block_lt_of_cell? _ _ c2.out)).trans c2.out
        refine Og.gives_is (.int .u32 h.pc) ?_ (And.intro (Below.refl _ _) rfl)
        go_simp
      · refine ⟨rfl, (if_neg (by decide)).mpr fun ρ xw b2 hr hd => ?_⟩
        obtain ⟨d0, d1, d2, _⟩ := hd
        have d0 : ρ (.func 29) = .func (.func 29) #[] #[] := d0
        have d1 : ρ (.tmp 7) = .slice ca n cp := d1
        have d2 : ρ (.tmp 12) = .int .u32 h.pc := d2
        refine (if_pos (by rfl)).mpr ?_
        refine Og.gives_call 29 #[.slice ca n cp, .int .u32 h.pc] ?_ ?_
        · go_simp
        · refine (fetch_any ca n cp xs hl hn h.pc HHB.out.pc xw (HC.out.below hr)).mono ?_
          rintro e w3 ⟨rfl, rfl⟩
          exact ⟨_, rfl, Below.refl _ _, rfl⟩
      · refine ⟨rfl, (if_neg (by decide)).mpr fun ρ xw b2 hr hd => ?_⟩
        obtain ⟨d0, _⟩ := hd
        have d0 : ρ (.tmp 13) = .tuple #[.int .u32 (Al.word xs h.pc), .bool (Al.there xs h.pc)] := d0
        refine (if_pos (by rfl)).mpr ?_
        refine Og.gives_is (.int .u32 (Al.word xs h.pc)) ?_ (And.intro (Below.refl _ _) rfl)
        go_simp
      · refine ⟨rfl, (if_neg (by decide)).mpr fun ρ xw b2 hr hd => ?_⟩
        obtain ⟨d0, _⟩ := hd
        have d0 : ρ (.tmp 13) = .tuple #[.int .u32 (Al.word xs h.pc), .bool (Al.there xs h.pc)] := d0
        refine (if_pos (by rfl)).mpr ?_
        refine Og.gives_is (.bool (Al.there xs h.pc)) ?_ (And.intro (Below.refl _ _) rfl)
        go_simp
    · intro vs w1 hb1 hvs
      have nv0 : vs 0 = .func (.yield l) #[] #[] := hvs 0 _ 3 rfl rfl
      have nv1 : vs 1 = .pointer (some ⟨b, 0, none⟩) := hvs 1 _ 4 rfl rfl
      have nv2 : vs 2 = .pointer (some ⟨b, 0, none⟩) := hvs 2 _ 5 rfl rfl
      have nv3 : vs 3 = .pointer (some ⟨b, 35, none⟩) := hvs 3 _ 6 rfl rfl
      have nv4 : vs 4 = .slice ca n cp := hvs 4 _ 7 rfl rfl
      have nv5 : vs 5 = .pointer (some ⟨b, 0, none⟩) := hvs 5 _ 8 rfl rfl
      have nv6 : vs 6 = .pointer (some ⟨b, 0, none⟩) := hvs 6 _ 9 rfl rfl
      have nv7 : vs 7 = .pointer (some ⟨b, 0, none⟩) := hvs 7 _ 10 rfl rfl
      have nv8 : vs 8 = .pointer (some ⟨b, 1, none⟩) := hvs 8 _ 11 rfl rfl
      have nv9 : vs 9 = .int .u32 h.pc := hvs 9 _ 12 rfl rfl
      have nv10 : vs 10 = .tuple #[.int .u32 (Al.word xs h.pc), .bool (Al.there xs h.pc)] := hvs 10 _ 13 rfl rfl
      have nv11 : vs 11 = .int .u32 (Al.word xs h.pc) := hvs 11 _ 14 rfl rfl
      have nv12 : vs 12 = .bool (Al.there xs h.pc) := hvs 12 _ 15 rfl rfl
      simp only [List.take_succ_cons, List.take_zero, List.drop_succ_cons, List.drop_zero, Og.putAll, Act.put, List.setIfInBounds_toArray, List.set_cons_zero, List.set_cons_succ, Nat.zero_add, Nat.reduceAdd, nv0, nv1, nv2, nv3, nv4, nv5, nv6, nv7, nv8, nv9, nv10, nv11, nv12]
      obtain ⟨fn, tmps, assign, body, hy, hRd⟩ := HY.out k h w1 (HST.out _ _ _ hJK.out hb1) (HR.out.below hb1)
      unfold Al.enc at hy
      clear hvs hb1 HHB HBX HRW HC c1 c2 c3
      gi_wp2_with fail
      refine hRd.mono ?_
      rintro e W3 (⟨rfl, hJ3⟩ | ⟨rfl, hJx3⟩)
      · have HJ3 := Lib.hid hJ3; clear hJ3 hy hRd
        gi_wp2_with fail
        go_roundw
        case rel => exact ⟨k + 1, HJ3.out⟩
        case measure =>
          have := Og.top_spec N (k + 1) (HJ.out _ _ HJ3.out).1 HJ3.out
          omega
      · have HJ3 := Lib.hid hJx3; clear hJx3 hy hRd
        gi_wp2_with fail
        refine bodyPost_end (results_none rfl _ _ _) rfl ?_
        exact ⟨⟨_, rfl⟩, HJ3.out⟩
end Go.Proofs.YtianojbdabeoeaaGreatDoor
end

section
namespace Go.Proofs.YtianojbdabeoeaaGreatDoor
open Go.RowKit Ht
set_option linter.unusedVariables false
namespace Al
/-- a hart, its memory, what it has committed -/
structure St where
  h : H
  m : MS
  l : List C
/-- the access of a word -/
noncomputable def acs (h : H) (x : Int) (n : Nat) : A := (oS h x n 0 false).a
noncomputable def stepS (s : St) (x : Int) (n : Nat) : St :=
  ⟨done s.h x n (acs s.h x n) (toldV (acs s.h x n) s.m) (toldO (acs s.h x n) s.m), after (acs s.h x n) s.m, s.l ++ [com s.h x n (acs s.h x n) (toldV (acs s.h x n) s.m) (toldO (acs s.h x n) s.m)]⟩
def strayS (s : St) : St := ⟨{ s.h with cause := 4 }, s.m, s.l ++ [strayC s.h.pc]⟩
noncomputable def go1 (xs : List Int) (n : Nat) (s : St) : St :=
  if s.h.cause ≠ 0 then s else if there xs s.h.pc = false then strayS s else stepS s (word xs s.h.pc) n
noncomputable def goN (xs : List Int) (n : Nat) (s : St) : Nat → St
  | 0 => s
  | k + 1 => go1 xs n (goN xs n s k)
theorem goN_halt {xs : List Int} {n : Nat} {s : St} {k : Nat} (h : (goN xs n s k).h.cause ≠ 0) : ∀ d, goN xs n s (k + d) = goN xs n s k
  | 0 => rfl
  | d + 1 => by
    show go1 xs n (goN xs n s (k + d)) = _
    rw [goN_halt h d]
    exact if_pos h
theorem ccells_one (c : C) : ∀ u ∈ ccells c, u.oneCell' = true := by
  intro u hu
  unfold ccells at hu
  simp only [List.mem_cons, List.not_mem_nil, or_false] at hu
  rcases hu with h | h | h | h | h | h | h | h | h | h | h | h | h | h <;> rw [h] <;> rfl
end Al
theorem CodeIn.k3 {b q g : Nat} {w W : World} {ca : Option Addr} {xs : List Int} (h : CodeIn w ca xs) (hne : 0 < xs.length → ∀ a, ca = some a → a.block ≠ b ∧ a.block ≠ q ∧ a.block ≠ g) (k : K3 b q g w W) : CodeIn W ca xs :=
  ⟨fun h0 => by
    obtain ⟨g', o, ha, hc⟩ := h.1 h0
    obtain ⟨n1, n2, n3⟩ := hne h0 _ ha
    exact ⟨g', o, ha, fun j hj => (World.cell?_of_block (k.block g' (World.block_lt_of_cell? w _ (hc j hj)) n1 n2 n3)).trans (hc j hj)⟩, h.2⟩
theorem ownsRow_of {W W' : World} {base : Nat} {e : TypeId} {size : Nat} {v : Value} {k : Nat} {xs : List Value} (h : W.ownsRow base e size v k xs) (hb : ∀ (g : Nat) (o : Obj), base ≤ g → W.heap[g]? = some o → o.isCells = true → W'.heap[g]? = some o) : W'.ownsRow base e size v k xs :=
  ⟨h.1, h.2.imp id fun ⟨g, cap, cur, e1, e2, e3, r⟩ => ⟨g, cap, cur, e1, e2, hb g _ e2 e3 rfl, r⟩⟩
theorem ownsRow_base {W : World} {base : Nat} {e : TypeId} {size : Nat} {v : Value} {k : Nat} {xs : List Value} (h : W.ownsRow base e size v k xs) {j : Nat} (hj : some j = v.ownBlock) : base ≤ j := by
  rcases h.2 with ⟨rfl, _⟩ | ⟨g, cap, cur, rfl, hb, _⟩
  · simp [Value.ownBlock] at hj
  · obtain rfl : j = g := by simpa [Value.ownBlock] using hj
    exact hb
/-- a hart that goes on: the boxes of its variables, what it has committed, its world -/
structure Going (b q p g : Nat) (ca : Option Addr) (n cp N sz : Nat) (w : World) (s : Al.St) (W : World) : Prop where
  box2 : Boxed W w.heap.size 150 (.pointer (some ⟨b, 0, none⟩))
  box3 : Boxed W (w.heap.size + 1) 3 (.int .i64 N)
  out : ∃ v, Boxed W (w.heap.size + 2) 56 v ∧ W.ownsRow w.heap.size 74 14 v s.l.length (s.l.flatMap Al.ccells)
  box4 : Boxed W (w.heap.size + 3) 150 (.pointer (some ⟨b, 0, none⟩))
  wat : Wat W b s.h ca n cp sz (Al.tellV q)
  mem : MemS W q p g s.m
  len : s.m.bs.length = sz
  hb : HB s.h
  may : s.h.cause = 0 → goes s.h = true
  k3 : K3 b q g w W
theorem Mems.of {W W' : World} {q p g : Nat} {m : Al.MS} (h : MemS W q p g m) (hk : ∀ (k : Nat) (o : Obj), W.heap[k]? = some o → o.isCells = true → W'.heap[k]? = some o) : MemS W' q p g m :=
  ⟨⟨hk p _ h.img.ptr rfl, hk g _ (show W.heap[g]? = some _ from h.img.row) rfl, h.img.ok, h.img.byt⟩, hk _ _ h.own rfl, h.qg, h.qp⟩
theorem kb {W W' : World} (hk : ∀ (k : Nat) (o : Obj), W.heap[k]? = some o → o.isCells = true → W'.heap[k]? = some o) {B : Nat} {t : TypeId} {u : Value} (h : Boxed W B t u) : Boxed W' B t u := hk B _ (show W.heap[B]? = some _ from h) rfl
variable {b q p g : Nat} {ca : Option Addr} {n cp N sz : Nat} {w W W' : World} {s : Al.St}
theorem Going.turn (h : Going b q p g ca n cp N sz w s W) (hk : ∀ (k : Nat) (o : Obj), W.heap[k]? = some o → o.isCells = true → W'.heap[k]? = some o) (k3 : K3 b q g w W') : Going b q p g ca n cp N sz w s W' where
  box2 := kb hk h.box2
  box3 := kb hk h.box3
  out := by
    obtain ⟨v, h1, h2⟩ := h.out
    exact ⟨v, kb hk h1, ownsRow_of h2 fun j o _ ho hc => hk j o ho hc⟩
  box4 := kb hk h.box4
  wat := hk b _ (show W.heap[b]? = some _ from h.wat) rfl
  mem := Mems.of h.mem hk
  len := h.len
  hb := h.hb
  may := h.may
  k3 := k3
theorem Going.below (h : Going b q p g ca n cp N sz w s W) (hb : Below W.heap.size W W') : Going b q p g ca n cp N sz w s W' :=
  h.turn (fun k o ho _ => (hb.block k (Array.getElem?_eq_some_iff.1 ho).1).trans ho) (h.k3.below hb)
theorem Going.putObj (h : Going b q p g ca n cp N sz w s W) {l : Nat} {o : Obj} (o' : Obj) (hl : w.heap.size ≤ l) (ho : W.heap[l]? = some o) (hc : o.isCells = false) : Going b q p g ca n cp N sz w s (W.putObj l o') :=
  h.turn (fun k x hx hxc => (World.putObj_heap_other (fun e => by subst e; rw [ho] at hx; cases hx; rw [hc] at hxc; cases hxc)).trans hx)
    ⟨h.k3.os, h.k3.tape, h.k3.output, Nat.le_trans h.k3.size (by simp), fun k hk h1 h2 h3 => (World.putObj_heap_other (by omega)).trans (h.k3.block k hk h1 h2 h3)⟩
/-- behind a call that turns the hart and its memory -/
theorem Going.call (h : Going b q p g ca n cp N sz w s W) (lt : b < w.heap.size ∧ q < w.heap.size ∧ g < w.heap.size) (k3 : K3 b q g W W') {h2 : H} {m2 : Al.MS} (hw : Wat W' b h2 ca n cp sz (Al.tellV q)) (hm : MemS W' q p g m2) (hl : m2.bs.length = sz) (hb : HB h2) (hy : h2.cause = 0 → goes h2 = true) :
    Going b q p g ca n cp N sz w ⟨h2, m2, s.l⟩ W' := by
  have kp : ∀ (k : Nat) (o : Obj), w.heap.size ≤ k → W.heap[k]? = some o → W'.heap[k]? = some o := fun k o hk ho => (k3.block k (Array.getElem?_eq_some_iff.1 ho).1 (by omega) (by omega) (by omega)).trans ho
  exact { box2 := kp _ _ (Nat.le_refl _) (show W.heap[_]? = some _ from h.box2), box3 := kp _ _ (by omega) (show W.heap[_]? = some _ from h.box3),
          out := by obtain ⟨v, h1, h2⟩ := h.out; exact ⟨v, kp _ _ (by omega) (show W.heap[_]? = some _ from h1), ownsRow_of h2 fun j o hj ho _ => kp j o hj ho⟩,
          box4 := kp _ _ (by omega) (show W.heap[_]? = some _ from h.box4), wat := hw, mem := hm, len := hl, hb := hb, may := hy, k3 := h.k3.trans k3 }
theorem Going.others (h : Going b q p g ca n cp N sz w s W) (k3 : K3 b q g W W') : KeepsOthers W W' :=
  ⟨k3.size, fun k o hk ho => by
    refine (k3.block k (Array.getElem?_eq_some_iff.1 hk).1 ?_ ?_ ?_).trans hk
    · rintro rfl; have := h.wat; unfold Wat at this; rw [this] at hk; cases hk; cases ho
    · rintro rfl; rw [h.mem.own] at hk; cases hk; cases ho
    · rintro rfl; have := h.mem.img.row; unfold Row at this; rw [this] at hk; cases hk; cases ho⟩
/-- behind the append of a commit -/
theorem Going.add (h : Going b q p g ca n cp N sz w s W) (lt : b < w.heap.size ∧ q < w.heap.size ∧ g < w.heap.size ∧ p < w.heap.size) {v v' : Value} (hv : Boxed W (w.heap.size + 2) 56 v) (hr : W.ownsRow w.heap.size 74 14 v s.l.length (s.l.flatMap Al.ccells))
    (c : Al.C) {w1 : World} (hown : w1.ownsRow w.heap.size 74 14 v' (s.l.length + 1) (s.l.flatMap Al.ccells ++ Al.ccells c)) (hg : W.grownBy w1 v.ownBlock) :
    Boxed w1 (w.heap.size + 2) 56 v ∧ Going b q p g ca n cp N sz w ⟨s.h, s.m, s.l ++ [c]⟩ (w1.setCell ⟨w.heap.size + 2, 0, none⟩ v') ∧ KeepsOthers W (w1.setCell ⟨w.heap.size + 2, 0, none⟩ v') := by
  have hw := h.k3.size
  have hrb : ∀ j, some j = v.ownBlock → w.heap.size ≤ j := fun j hj => ownsRow_base hr hj
  have a1 : Boxed w1 (w.heap.size + 2) 56 v := hv.kept hg (hv.not_row (by decide) hr)
  have a2 := a1.set v'
  have a3 := hown.kept (grownBy_setCell' w1 (w.heap.size + 2) v') (.inr (a1.not_row (by decide) hown).symm)
  have a4 : KeepsOthers W (w1.setCell ⟨w.heap.size + 2, 0, none⟩ v') := by
    refine (KeepsOthers.of_grownBy hg fun j o ej hj => ?_).trans (KeepsOthers.setCell _ _ _)
    rcases hr.2 with ⟨rfl, _⟩ | ⟨g', cap, cur, rfl, _, hgb, _⟩
    · simp [Value.ownBlock] at ej
    · obtain rfl : g' = j := by simpa [Value.ownBlock] using ej
      rw [hgb] at hj; cases hj; rfl
  have a5 : Below w.heap.size W (w1.setCell ⟨w.heap.size + 2, 0, none⟩ v') :=
    ((Below.refl w.heap.size W).grown hg hw fun j ej => hrb j ej.symm).setCell (p := ⟨w.heap.size + 2, 0, none⟩) (by show w.heap.size ≤ w.heap.size + 2; omega) v'
  have kp : ∀ {B : Nat} {t : TypeId} {u : Value}, Boxed W B t u → t ≠ 74 → B ≠ w.heap.size + 2 → Boxed (w1.setCell ⟨w.heap.size + 2, 0, none⟩ v') B t u := fun hB ht hn =>
    (hB.kept hg (hB.not_row ht hr)).other hn _
  have lo : ∀ (k : Nat) (o : Obj), k < w.heap.size → W.heap[k]? = some o → (w1.setCell ⟨w.heap.size + 2, 0, none⟩ v').heap[k]? = some o := fun k o hk ho => (a5.block k hk).trans ho
  refine ⟨a1, { box2 := kp h.box2 (by decide) (by omega), box3 := kp h.box3 (by decide) (by omega), out := ⟨v', a2, by simpa using a3⟩, box4 := kp h.box4 (by decide) (by omega), wat := lo _ _ lt.1 (show W.heap[b]? = some _ from h.wat), mem := ⟨⟨lo _ _ lt.2.2.2 h.mem.img.ptr, lo _ _ lt.2.2.1 (show W.heap[g]? = some _ from h.mem.img.row), h.mem.img.ok, h.mem.img.byt⟩, lo _ _ lt.2.1 h.mem.own, h.mem.qg, h.mem.qp⟩, len := h.len, hb := h.hb, may := h.may, k3 := ?_ }, a4⟩
  exact ⟨a5.os.trans h.k3.os, a5.tape.trans h.k3.tape, a5.output.trans h.k3.output, Nat.le_trans h.k3.size a5.size, fun k hk h1 h2 h3 => (a5.block k hk).trans (h.k3.block k hk h1 h2 h3)⟩
theorem Al.cinfo : (Tryz.prog.info? 74).map (fun i => (i.zero, i.size, i.bytes)) = some (some (.agg Al.czero), 14, 88) := by kernel_rfl
theorem Al.cinfo_parts : ∃ i, Tryz.prog.info? 74 = some i ∧ i.zero = some (.agg Al.czero) ∧ i.size = 14 ∧ i.bytes = 88 := by
  have h := Al.cinfo
  cases hi : Tryz.prog.info? 74 with
  | none => rw [hi] at h; cases h
  | some i => rw [hi] at h; simp only [Option.map_some, Option.some.injEq, Prod.mk.injEq] at h; exact ⟨i, rfl, h.1, h.2.1, h.2.2⟩
theorem Al.build_slice (c : Al.C) (W : World) (ρ : Operand → Value) (o : Oper) {x : Operand} (ho : o.op = .buildSlice 56 1 #[(0, x)]) (hx : ρ x = .agg (Al.ccells c).toArray) : (execOp ρ o).run Tryz.prog W = .ok (.value (.slice (some ⟨W.heap.size, 0, none⟩) 1 1)) (W.alloc (.cells (Al.ccells c).toArray 74)) := by
  unfold Al.ccells at hx ⊢
  obtain ⟨d, op, ty, pos, after, guard⟩ := o
  simp only at ho
  subst ho
  go_simp
theorem ownsRow_form {W : World} {base : Nat} {e : TypeId} {size : Nat} {v : Value} {k : Nat} {xs : List Value} (h : W.ownsRow base e size v k xs) : ∃ a c, v = .slice a k c := by
  rcases h.2 with ⟨rfl, rfl⟩ | ⟨g, cap, cur, rfl, _⟩
  · exact ⟨_, _, rfl⟩
  · exact ⟨_, _, rfl⟩
theorem Sees.putObj {c b : Nat} {ca : Option Addr} {n cp : Nat} {size : Int} {tv : Value} {xs : List Int} {h : H} {W : World} (s : Sees c b ca n cp size tv xs h W) {l : Nat} {o : Obj} (o' : Obj) (ho : W.heap[l]? = some o) (hc : o.isCells = false) : Sees c b ca n cp size tv xs h (W.putObj l o') := by
  have hk : ∀ (k : Nat) (x : Obj), W.heap[k]? = some x → x.isCells = true → (W.putObj l o').heap[k]? = some x := fun k x hx hxc => (World.putObj_heap_other (fun e => by subst e; rw [ho] at hx; cases hx; rw [hc] at hxc; cases hxc)).trans hx
  refine ⟨s.hb, hk _ _ s.box rfl, hk b _ (show W.heap[b]? = some _ from s.row) rfl, ⟨fun h0 => ?_, s.code.2⟩⟩
  obtain ⟨g', off, ha, hcs⟩ := s.code.1 h0
  refine ⟨g', off, ha, fun j hj => ?_⟩
  refine (World.cell?_of_block ?_).trans (hcs j hj)
  refine World.putObj_heap_other (fun e => ?_)
  have h1 := hcs j hj
  unfold World.cell? at h1
  simp only at e
  rw [e] at h1
  simp only [ho] at h1
  cases o <;> simp_all [Obj.isCells]
end Go.Proofs.YtianojbdabeoeaaGreatDoor
end

section
namespace Go.Proofs.YtianojbdabeoeaaGreatDoor
open Go.RowKit Ht
set_option linter.unusedVariables false
namespace Al
theorem nat_wd {n : Nat} (h : n < 2 ^ 32) : Ar.Wd (n : Int) := by unfold Ar.Wd; omega
theorem bits_wd (a b : Int) : Ar.Wd (bits .xor .u32 a b) ∧ Ar.Wd (bits .or .u32 a b) ∧ Ar.Wd (bits .and .u32 a b) := by
  have key : ∀ c : BitVec 32, Ar.Wd (IntKind.u32.wrap (c.toNat : Int)) := fun c => by
    have h := c.isLt
    rw [IntKind.wrap_u32]
    unfold Ar.Wd; omega
  exact ⟨key _, key _, key _⟩
theorem sx_wd {n : Int} (k : Int) (h : Ar.Wd n) : Ar.Wd (Ar.ext n k) := by
  unfold Ar.ext
  split
  · exact h
  · split <;> exact Ar.md_wd _
theorem divu_wd {a b : Int} (ha : Ar.Wd a) (hb : Ar.Wd b) : Ar.Wd (Ar.divu a b) ∧ Ar.Wd (Ar.remu a b) ∧ Ar.Wd (Ar.div a b) ∧ Ar.Wd (Ar.rem a b) := by
  have m : Ar.Wd 4294967295 := by unfold Ar.Wd; omega
  refine ⟨?_, ?_, ?_, ?_⟩
  · unfold Ar.divu
    split
    · exact m
    · rename_i h
      have := Ar.quo_bd ha.1 ha.2 (show 1 ≤ b by unfold Ar.Wd at hb; omega)
      exact this
  · unfold Ar.remu
    split
    · exact ha
    · rename_i h
      exact Ar.rem_bd (x := a) (show 1 ≤ b by unfold Ar.Wd at hb; omega) hb.2
  · unfold Ar.div
    split
    · exact m
    · exact Ar.md_wd _
  · unfold Ar.rem
    split
    · exact ha
    · exact Ar.md_wd _
theorem shr_wd {a : Int} (b : Int) (ha : Ar.Wd a) : Ar.Wd (Ar.shr a b) := Ar.quo_bd ha.1 ha.2 (Ar.pw_pos b)
theorem b01_wd (c : Bool) : Ar.Wd (b01 c) := by cases c <;> (unfold b01 Ar.Wd; simp)
theorem add_wd' (a b : Int) : Ar.Wd (Ar.add a b) := Ar.md_wd _
theorem two_wd (op : Nat) {a b : Int} (ha : Ar.Wd a) (hb : Ar.Wd b) : Ar.Wd (two op a b) := by
  have h1 : Ar.Wd (Ar.add a b) := Ar.md_wd _
  have h2 : Ar.Wd (Ar.sub a b) := Ar.md_wd _
  have h3 : Ar.Wd (b01 (Ar.less a b)) := b01_wd _
  have h4 : Ar.Wd (b01 (Ar.lessu a b)) := b01_wd _
  obtain ⟨h5, h6, h7⟩ := bits_wd a b
  have h8 : Ar.Wd (Ar.shl a b) := Ar.md_wd _
  have h9 : Ar.Wd (Ar.shr a b) := shr_wd b ha
  have h10 : Ar.Wd (Ar.sar a b) := Ar.md_wd _
  have h11 : Ar.Wd (Ar.mul a b) := Ar.md_wd _
  have h12 : Ar.Wd (Ar.mulh a b) := Ar.md_wd _
  have h13 : Ar.Wd (Ar.mulhsu a b) := Ar.md_wd _
  have h14 : Ar.Wd (Ar.mulhu a b) := Ar.md_wd _
  obtain ⟨h15, h16, h17, h18⟩ := divu_wd ha hb
  unfold two
  split <;> with_reducible assumption
theorem valO_wd (op : Nat) {pc id a b imm tv : Int} (tok : Bool) (hp : Ar.Wd pc) (hid : 0 ≤ id ∧ id ≤ 3) (ha : Ar.Wd a) (hb : Ar.Wd b) (hi : Ar.Wd imm) (ht : Ar.Wd tv) : Ar.Wd (val op pc id a b imm tv tok) := by
  have h1 : Ar.Wd (Ar.add pc imm) := Ar.md_wd _
  have h2 : Ar.Wd (Ar.add pc 4) := Ar.md_wd _
  have h3 : Ar.Wd (Ar.ext (low tv 1) 8) := sx_wd _ (low_wd _ _ ht)
  have h4 : Ar.Wd (Ar.ext (low tv 2) 16) := sx_wd _ (low_wd _ _ ht)
  have h5 : Ar.Wd (low tv 4) := low_wd _ _ ht
  have h6 : Ar.Wd (low tv 1) := low_wd _ _ ht
  have h7 : Ar.Wd (low tv 2) := low_wd _ _ ht
  have h8 : ∀ op, Ar.Wd (two op a imm) := fun op => two_wd op ha hi
  have h9 : ∀ op, Ar.Wd (two op a b) := fun op => two_wd op ha hb
  have h10 : Ar.Wd (b01 (!tok)) := b01_wd _
  have h11 : Ar.Wd id := by unfold Ar.Wd; omega
  have h12 : Ar.Wd 0 := by unfold Ar.Wd; omega
  unfold val
  split <;> first | with_reducible assumption | with_reducible exact h8 _ | with_reducible exact h9 _
theorem even_wd {n : Int} (h : Ar.Wd n) : Ar.Wd (even n) := by unfold Ar.Wd at h; unfold even Ar.Wd; omega
theorem place_wd (op : Nat) (pc a imm : Int) : Ar.Wd (place op pc a imm) := by
  unfold place
  split
  · exact even_wd (add_wd' _ _)
  · exact add_wd' _ _
theorem put_hold {h : H} {rd : Nat} {n : Int} (hb : HB h) (hn : Ar.Wd n) : HB (Ht.put h rd n) ∧ (Ht.put h rd n).R 0 = h.R 0 ∧ (Ht.put h rd n).id = h.id ∧ (Ht.put h rd n).cause = h.cause := by
  unfold Ht.put
  split
  · exact ⟨hb, rfl, rfl, rfl⟩
  · rename_i hr
    refine ⟨⟨hb.id, hb.pc, fun k => ?_, hb.cause⟩, ?_, rfl, rfl⟩
    · show Ar.Wd (upd h.R rd n k)
      unfold upd
      split
      · exact hn
      · exact hb.R k
    · show upd h.R rd n 0 = h.R 0
      unfold upd
      rw [if_neg (by omega)]
theorem goes_of {h : H} (hid : 0 ≤ h.id ∧ h.id ≤ 3) (h0 : h.R 0 = 0) (hc : h.cause = 0) : goes h = true := by
  unfold goes may
  simp [h0, hc]
  omega
/-- behind a word -/
theorem out_hold {h : H} {x size tv : Int} {tok : Bool} {s : S} {err : Int} (o : Out h x size tv tok s err) (g : goes h = true) (hb : HB h) (hx : Is.Wd x) (ht : Ar.Wd tv) : HB s.h ∧ (s.h.cause = 0 → goes s.h = true) := by
  have hm := may_id (goes_yes g).1
  have hc0 := (goes_yes g).2
  cases o with
  | arg g' => rw [g] at g'; cases g'
  | ill _ _ => exact ⟨⟨hb.id, hb.pc, hb.R, by show (-9223372036854775808 : Int) ≤ 2 ∧ (2 : Int) ≤ 9223372036854775807; omega⟩, fun e => absurd e (by show ¬ (2 : Int) = 0; decide)⟩
  | halt op _ e hn =>
    have hw : ∀ s : S, 0 ≤ whyS s ∧ whyS s ≤ 4 := fun s => by unfold whyS why; (repeat' split) <;> omega
    have := hw (begin_ h (insOf op x) size tv tok)
    exact ⟨⟨hb.id, hb.pc, hb.R, by show (-9223372036854775808 : Int) ≤ whyS _ ∧ whyS _ ≤ 9223372036854775807; omega⟩, fun e => absurd e hn⟩
  | ok op _ e hw =>
    have hv : Ar.Wd (val op h.pc h.id (h.R (insOf op x).rs1) (h.R (insOf op x).rs2) (insOf op x).imm tv tok) := valO_wd op tok hb.pc hm.1 (hb.R _) (hb.R _) (imm_wd _ hx) ht
    obtain ⟨p1, p2, p3, p4⟩ := put_hold (rd := (insOf op x).rd) hb hv
    have hn : Ar.Wd (Ht.after (begin_ h (insOf op x) size tv tok)).next := by
      show Ar.Wd (nextS _)
      unfold nextS
      split
      · exact place_wd _ _ _ _
      · exact add_wd' _ _
    have hq : HB (if has op then Ht.put h (insOf op x).rd (val op h.pc h.id (h.R (insOf op x).rs1) (h.R (insOf op x).rs2) (insOf op x).imm tv tok) else h) ∧ (if has op then Ht.put h (insOf op x).rd (val op h.pc h.id (h.R (insOf op x).rs1) (h.R (insOf op x).rs2) (insOf op x).imm tv tok) else h).R 0 = 0 ∧ (if has op then Ht.put h (insOf op x).rd (val op h.pc h.id (h.R (insOf op x).rs1) (h.R (insOf op x).rs2) (insOf op x).imm tv tok) else h).id = h.id := by
      split
      · exact ⟨p1, p2.trans hm.2, p3⟩
      · exact ⟨hb, hm.2, rfl⟩
    exact ⟨⟨hq.1.id, hn, hq.1.R, hq.1.cause⟩, fun e => goes_of (show 0 ≤ (Ht.after (begin_ h (insOf op x) size tv tok)).h.id ∧ (Ht.after (begin_ h (insOf op x) size tv tok)).h.id ≤ 3 by rw [show (Ht.after (begin_ h (insOf op x) size tv tok)).h.id = h.id from hq.2.2]; exact hm.1) hq.2.1 e⟩
theorem step_hold {h : H} {x : Int} {n : Nat} {m : MS} (g : goes h = true) (hb : HB h) (hx : Is.Wd x) (hm : Im.Byt m.bs) (hl : m.bs.length = n) : HB (done h x n (acs h x n) (toldV (acs h x n) m) (toldO (acs h x n) m)) ∧ ((done h x n (acs h x n) (toldV (acs h x n) m) (toldO (acs h x n) m)).cause = 0 → goes (done h x n (acs h x n) (toldV (acs h x n) m) (toldO (acs h x n) m)) = true) := by
  have ha : AOk (acs h x n) m.bs.length := by rw [hl]; exact out_aok (oS_out g) hb hx
  exact out_hold (oS_out g) g hb hx (hv_wd _ _ (toldV_wd hm _ ha))
end Al
end Go.Proofs.YtianojbdabeoeaaGreatDoor
end

section
namespace Go.Proofs.YtianojbdabeoeaaGreatDoor
open Go.RowKit Ht
set_option linter.unusedVariables false
attribute [local go_sem] Oper.semAt_some
set_option maxRecDepth 100000 in
set_option maxHeartbeats 8000000 in
theorem goOn_any (b q p g : Nat) (ca : Option Addr) (n cp N : Nat) (xs : List Int) (hl : xs.length = n) (hn : n ≤ 9223372036854775807) (hN : N ≤ 1048576) (s : Al.St) (w : World) (hs : s.l = []) (hw : Wat w b s.h ca n cp s.m.bs.length (Al.tellV q)) (hm : MemS w q p g s.m)
    (hne : b ≠ q ∧ b ≠ p ∧ b ≠ g) (hc : CodeIn w ca xs) (hca : 0 < xs.length → ∀ a, ca = some a → a.block ≠ b ∧ a.block ≠ q ∧ a.block ≠ g) (hb : HB s.h) (hy : s.h.cause = 0 → goes s.h = true) :
    Calls Tryz.prog 71 #[.pointer (some ⟨b, 0, none⟩), .int .i64 N] w fun e w' => ∃ v, e = .returned v ∧ w'.ownsRow w.heap.size 74 14 v (Al.goN xs s.m.bs.length s N).l.length ((Al.goN xs s.m.bs.length s N).l.flatMap Al.ccells) ∧
      Wat w' b (Al.goN xs s.m.bs.length s N).h ca n cp s.m.bs.length (Al.tellV q) ∧ MemS w' q p g (Al.goN xs s.m.bs.length s N).m ∧ K3 b q g w w' := by
  obtain ⟨sz, hsz⟩ : ∃ sz, sz = s.m.bs.length := ⟨_, rfl⟩
  rw [← hsz] at hw ⊢
  have hlb := (Array.getElem?_eq_some_iff.1 hw).1
  have hlq := Mem.lt hm
  have hlp := im_heap_lt hm.img.ptr
  have LT := Lib.hid (show b < w.heap.size ∧ q < w.heap.size ∧ g < w.heap.size ∧ p < w.heap.size from ⟨hlb, hlq.1, hlq.2, hlp⟩)
  obtain ⟨W0, hW0⟩ : ∃ W0, (((w.alloc (.cells #[.pointer (some ⟨b, 0, none⟩)] 150)).alloc (.cells #[.int .i64 N] 3)).alloc (.cells #[.slice none 0 0] 56)).alloc (.cells #[.pointer (some ⟨b, 0, none⟩)] 150) = W0 := ⟨_, rfl⟩
  have hb0 : Below w.heap.size w W0 := by rw [← hW0]; exact ((((Below.refl _ w).alloc (Nat.le_refl _) _).alloc (by simp) _).alloc (by simp; omega) _).alloc (by simp; omega) _
  have hsz0 : W0.heap.size = w.heap.size + 4 := by rw [← hW0]; simp
  have hG : Going b q p g ca n cp N sz w s W0 := by
    have e1 : Boxed W0 w.heap.size 150 (.pointer (some ⟨b, 0, none⟩)) := by rw [← hW0]; exact (((Boxed.new w _ _).alloc _).alloc _).alloc _
    have e2 : Boxed W0 (w.heap.size + 1) 3 (.int .i64 N) := by rw [← hW0]; have := ((Boxed.new (w.alloc (.cells #[.pointer (some ⟨b, 0, none⟩)] 150)) 3 (.int .i64 N)).alloc (.cells #[.slice none 0 0] 56)).alloc (.cells #[.pointer (some ⟨b, 0, none⟩)] 150); simpa using this
    have e3 : Boxed W0 (w.heap.size + 2) 56 (.slice none 0 0) := by rw [← hW0]; have := (Boxed.new ((w.alloc (.cells #[.pointer (some ⟨b, 0, none⟩)] 150)).alloc (.cells #[.int .i64 N] 3)) 56 (.slice none 0 0)).alloc (.cells #[.pointer (some ⟨b, 0, none⟩)] 150); simpa using this
    have e4 : Boxed W0 (w.heap.size + 3) 150 (.pointer (some ⟨b, 0, none⟩)) := by rw [← hW0]; have := Boxed.new (((w.alloc (.cells #[.pointer (some ⟨b, 0, none⟩)] 150)).alloc (.cells #[.int .i64 N] 3)).alloc (.cells #[.slice none 0 0] 56)) 150 (.pointer (some ⟨b, 0, none⟩)); simpa using this
    exact { box2 := e1, box3 := e2, out := ⟨_, e3, by rw [hs]; exact ⟨rfl, .inl ⟨rfl, rfl⟩⟩⟩, box4 := e4, wat := (hb0.block b hlb).trans hw, mem := Mem.below hm hb0, len := hsz.symm, hb := hb, may := hy, k3 := (K3.refl b q g w).below hb0 }
  have HG := Lib.hid hG; have HC := Lib.hid hc; have HCA := Lib.hid hca; have HNE := Lib.hid hne; have HSZ := Lib.hid hsz0; have HW0 := Lib.hid hW0; have HN := Lib.hid hN; have HS := Lib.hid hs; have HSS := Lib.hid hsz
  clear hsz hG hc hca hne hsz0 hW0 hN hs hlb hlq hlp hw hm hb hy hb0
  refine (callsIn_wide (n := 5)).1 ?_
  refine callsIn_of_wp_marks Tryz.func71 rfl trivial ?_ rfl
  simp only [Tryz.ntmps71, List.size_toArray, List.length_cons, List.length_nil, Nat.reduceAdd, Nat.reduceSub, Array.replicate_succ, Array.replicate_zero, List.push_toArray, List.append_toArray, List.nil_append, List.cons_append]
  refine wpIn_wide.2 ?_
  go_wp2_with fail
  go_step3
  go_wp2_with fail
  go_step3
  go_wp2_with (go_at_call 94; refine (steps_any _ _).mono ?_; rintro e w1 ⟨rfl, rfl⟩)
  rw [HW0.out]
  simp only [Nat.add_assoc, Nat.reduceAdd]
  clear HW0
  refine (wpIn_wide (n := 5)).1 ?_
  refine Og.wpIn_rangeFunc_st (σ := H) rfl (by decide) (gf := 193) (lb := #[.pointer (some ⟨w.heap.size + 3, 0, none⟩)]) rfl trivial (enters_of Tryz.func193 (by kernel_rfl) rfl)
    (steps_iter 4 (by decide) (w.heap.size + 3) b ca n cp sz (Al.tellV q) xs hl hn) (fun _ => rfl) (N + 1)
    (fun k W => (k ≤ N ∧ (Al.goN xs sz s k).l.length = k) ∧ Going b q p g ca n cp N sz w (Al.goN xs sz s k) W) (fun c W => c = .exit 0 ∧ Going b q p g ca n cp N sz w (Al.goN xs sz s N) W)
    (fun k A A' h hb => ⟨h.1, h.2.below hb⟩) (fun k A l o o' h hl ho hc => ⟨h.1, h.2.putObj o' (by have := HSZ.out; omega) ho hc⟩) (fun c A l o o' h hl ho hc => ⟨h.1, h.2.putObj o' (by have := HSZ.out; omega) ho hc⟩)
    (fun k A h => ⟨by omega, _, ⟨h.2.hb, h.2.box4, h.2.wat, HC.out.k3 HCA.out h.2.k3⟩⟩) (fun st A l o o' h hl ho hc => h.putObj o' ho hc) ⟨⟨Nat.zero_le _, by show s.l.length = 0; rw [HS.out]; rfl⟩, HG.out⟩
    (fun st => { tmps := #[.pointer (some ⟨b, 0, none⟩), .int .i64 N, .pointer (some ⟨w.heap.size, 0, none⟩), .pointer (some ⟨w.heap.size + 1, 0, none⟩), .slice none 0 0, .pointer (some ⟨w.heap.size + 2, 0, none⟩), .int .u32 (Al.word xs st.pc), .bool (Al.there xs st.pc), undef, undef, .pointer (some ⟨b, 0, none⟩), .func (.func 193) #[] #[.pointer (some ⟨w.heap.size + 3, 0, none⟩)], .int .u32 (Al.word xs st.pc), .bool (Al.there xs st.pc), undef, undef, undef, undef, undef, undef, undef, undef, undef, undef, undef, undef, undef, undef, undef, undef, undef, undef, undef, undef, undef, undef, undef, undef, undef, undef, undef, undef, undef, undef, undef, undef], defers := [] })
    ?assign ?body ?stop
  case assign =>
    rintro l st W K hK
    have HK := Lib.hid hK; clear hK
    unfold Al.enc
    gi_wp2_with fail
    exact HK.out
  case body =>
    rintro l k st W ⟨⟨hk, hlen⟩, hG⟩ hR
    have hpc : st.pc = (Al.goN xs sz s k).h.pc := by
      have e1 := cell_of_row W b 1 _ _ _ hR.row
      have e2 := cell_of_row W b 1 _ _ _ hG.wat
      have e3 : some (Value.int .u32 st.pc) = some (Value.int .u32 (Al.goN xs sz s k).h.pc) := e1.symm.trans e2
      injection e3 with e3; injection e3
    clear hR
    rw [hpc]
    clear hpc
    obtain ⟨v, hv, hr⟩ := hG.out
    rw [hlen] at hr
    obtain ⟨ad, cc, rfl⟩ := ownsRow_form hr
    have c2 := Lib.hid hG.box2.cell; have c3 := Lib.hid hG.box3.cell; have c5 := Lib.hid hv.cell
    have hc2 := hG.box2.cell; have hc3 := hG.box3.cell; have hc5 := hv.cell
    have hc34 : W.cell? ⟨b, 34, none⟩ = some (.int .i64 (Al.goN xs sz s k).h.cause) := by rw [cell_of_row W _ 34 _ _ _ hG.wat]; rfl
    have HV := Lib.hid hv; have HR := Lib.hid hr; have GG := Lib.hid hG; have HL := Lib.hid hlen
    clear hv hr hG hlen
    by_cases hkN : k = N
    · subst hkN
      clear hc34
      gi_wp2_with fail
      exact ⟨KeepsOthers.refl _, rfl, GG.out⟩
    · have hkn : ((k : Int) == (N : Int)) = false := by simp; omega
      by_cases hcs : (Al.goN xs sz s k).h.cause = 0
      · rw [hcs] at hc34
        have HCS := Lib.hid hcs; clear hcs
        by_cases hth : Al.there xs (Al.goN xs sz s k).h.pc = false
        · rw [hth]
          gi_wp2_with fail
          have hbW : b < W.heap.size := by have := LT.out; have := GG.out.k3.size; omega
          refine Og.regionKG (fun _ => trivial) rfl (fun h => CallsIn.inRound l (callsIn_wide.2 h)) (by kernel_rfl) 4 2 b b (fun z => Wat z b { (Al.goN xs sz s k).h with cause := 4 } ca n cp sz (Al.tellV q) ∧ MemS z q p g (Al.goN xs sz s k).m) hbW hbW (by rfl) (fun t => ([(40, 0), (41, 1), (42, 2), (43, 3), (44, 4)] : List (Nat × Nat)).lookup t) [.is (.slice ad k cc), .is (.pointer (some ⟨b, 0, none⟩)), .is (Al.comV (Al.strayC (Al.goN xs sz s k).h.pc)), .sl (.cells (Al.ccells (Al.strayC (Al.goN xs sz s k).h.pc)).toArray 74) 1 1] [true, true, true, true] (by kernel_rfl) ?_ ?_
          · refine ⟨?_, ?_, ?_, ?_, trivial⟩
            · refine ⟨rfl, (if_neg (by decide)).mpr fun ρ xw b2 hr hd => ?_⟩
              obtain ⟨d0, _⟩ := hd
              have d0 : ρ (.tmp 5) = .pointer (some ⟨w.heap.size + 2, 0, none⟩) := d0
              refine (if_pos (by rfl)).mpr ?_
              have hc : xw.cell? ⟨w.heap.size + 2, 0, none⟩ = some (.slice ad k cc) := by rw [cell_of_row xw _ 0 _ _ _ (hr.old (by have := LT.out; omega) (by have := LT.out; omega) (show W.heap[_]? = some _ from HV.out))]; rfl
              refine Og.gives_is (.slice ad k cc) ?_ (And.intro (Below.refl _ _) rfl)
              go_simp
            · refine ⟨rfl, (if_neg (by decide)).mpr fun ρ xw b2 hr hd => ?_⟩
              obtain ⟨d0, _⟩ := hd
              have d0 : ρ (.tmp 2) = .pointer (some ⟨w.heap.size, 0, none⟩) := d0
              refine (if_pos (by rfl)).mpr ?_
              have hc : xw.cell? ⟨w.heap.size, 0, none⟩ = some (.pointer (some ⟨b, 0, none⟩)) := by rw [cell_of_row xw _ 0 _ _ _ (hr.old (by have := LT.out; omega) (by have := LT.out; omega) (show W.heap[_]? = some _ from GG.out.box2))]; rfl
              refine Og.gives_is (.pointer (some ⟨b, 0, none⟩)) ?_ (And.intro (Below.refl _ _) rfl)
              go_simp
            · refine ⟨rfl, (if_pos (by rfl)).mpr ⟨rfl, fun ρ xw hr hd => ?_⟩⟩
              obtain ⟨d0, d1, _⟩ := hd
              have d0 : ρ (.func 95) = .func (.func 95) #[] #[] := d0
              have d1 : ρ (.tmp 41) = .pointer (some ⟨b, 0, none⟩) := d1
              have gx := GG.out.below hr
              refine Og.gives_call 95 #[.pointer (some ⟨b, 0, none⟩)] ?_ ?_
              · go_simp
              · refine (stray_any b q p g (Al.goN xs sz s k).h ca n cp sz (Al.tellV q) (Al.goN xs sz s k).m xw gx.wat gx.mem HNE.out).mono ?_
                rintro e w3 ⟨rfl, hw3, hm3, hk3⟩
                exact ⟨_, rfl, ⟨hk3, xw, w3, hr, hk3, ⟨hw3, hm3⟩, Below.refl _ _⟩, rfl⟩
            · refine ⟨rfl, (if_neg (by decide)).mpr fun ρ xw b2 hr hd => ?_⟩
              obtain ⟨d0, _⟩ := hd
              have d0 : ρ (.tmp 42) = Al.comV (Al.strayC (Al.goN xs sz s k).h.pc) := d0
              refine (if_pos (by rfl)).mpr ?_
              refine Og.gives_new (.slice (some ⟨xw.heap.size, 0, none⟩) 1 1) (w' := xw.alloc (.cells (Al.ccells (Al.strayC (Al.goN xs sz s k).h.pc)).toArray 74)) ?_ ⟨(Below.refl _ _).alloc (Nat.le_refl _) _, _, rfl, hr.size, heap_alloc_new _ _⟩
              unfold Al.comV Al.ccells at d0
              unfold Al.ccells
              go_simp
          · intro vs w2 hph hvs
            have hph : Og.PhK W b b (fun z => Wat z b { (Al.goN xs sz s k).h with cause := 4 } ca n cp sz (Al.tellV q) ∧ MemS z q p g (Al.goN xs sz s k).m) true w2 := hph
            have nv0 : vs 0 = .slice ad k cc := hvs 0 _ 40 rfl rfl
            have nv1 : vs 1 = .pointer (some ⟨b, 0, none⟩) := hvs 1 _ 41 rfl rfl
            have nv2 : vs 2 = Al.comV (Al.strayC (Al.goN xs sz s k).h.pc) := hvs 2 _ 42 rfl rfl
            obtain ⟨nb3, nv3, nl3, nh3⟩ := hvs 3 _ 43 rfl rfl
            simp only [List.take_succ_cons, List.take_zero, List.drop_succ_cons, List.drop_zero, Og.putAll, Act.put, List.setIfInBounds_toArray, List.set_cons_zero, List.set_cons_succ, Nat.zero_add, Nat.reduceAdd, nv0, nv1, nv2, nv3]
            obtain ⟨z, ⟨hz1, hz2⟩, hx2⟩ := Og.PhK.post hph
            have hk2 : K3 b q g W w2 := (K3.refl b q g W).trans ⟨hph.kept.os, hph.kept.tape, hph.kept.output, hph.kept.size, fun i hi h1 _ _ => hph.kept.block i hi h1 h1⟩
            have hG2 : Going b q p g ca n cp N sz w ⟨{ (Al.goN xs sz s k).h with cause := 4 }, (Al.goN xs sz s k).m, (Al.goN xs sz s k).l⟩ w2 :=
              GG.out.call ⟨LT.out.1, LT.out.2.1, LT.out.2.2.1⟩ hk2 ((hx2.block _ (Array.getElem?_eq_some_iff.1 hz1).1).trans hz1) (Mem.below hz2 hx2) GG.out.len ⟨GG.out.hb.id, GG.out.hb.pc, GG.out.hb.R, by show (-9223372036854775808 : Int) ≤ 4 ∧ (4 : Int) ≤ 9223372036854775807; omega⟩ (fun e => absurd e (by show ¬ (4 : Int) = 0; decide))
            have ho2 := GG.out.others hk2
            have hv2 : Boxed w2 (w.heap.size + 2) 56 (.slice ad k cc) := hph.old (by have := LT.out; omega) (by have := LT.out; omega) (show W.heap[_]? = some _ from HV.out)
            have hr2 : w2.ownsRow w.heap.size 74 14 (.slice ad k cc) k ((Al.goN xs sz s k).l.flatMap Al.ccells) := ownsRow_of HR.out fun j o hj ho _ => hph.old (by have := LT.out; omega) (by have := LT.out; omega) ho
            have hn2 : w.heap.size ≤ w2.heap.size := hG2.k3.size
            obtain ⟨i0, hi0, hz0, hz1', hz2'⟩ := Al.cinfo_parts
            have HI0 := Lib.hid hi0; have HZ0 := Lib.hid hz0; have HZ1 := Lib.hid hz1'; have HZ2 := Lib.hid hz2'
            have hkn' := HN.out
            refine wpListIn_append_own w2 rfl (.tmp 40) (.tmp 43) 56 rfl w.heap.size 74 i0 (.agg Al.czero) 14 88 Tryz.underlying56 HI0.out HZ0.out HZ1.out HZ2.out rfl (by decide) _ k _ rfl hr2 ⟨nb3, 0, none⟩ 1 1 (Al.ccells (Al.strayC (Al.goN xs sz s k).h.pc)) rfl rfl (World.news_of_block nh3) (Al.ccells_one _) (by unfold maxLen; omega) (by omega) hn2 ?_
            intro v' w3 hown hgrow _
            obtain ⟨gb, cp', rfl⟩ := ownsRow_succ hown
            obtain ⟨f1, f2, f3⟩ := hG2.add LT.out hv2 (by rw [HL.out]; exact hr2) (Al.strayC (Al.goN xs sz s k).h.pc) (by rw [HL.out]; exact hown) hgrow
            have hf1 := f1.cell; have hf2 := f1.frozen
            have F2 := Lib.hid f2; have F3 := Lib.hid (ho2.trans f3)
            clear f1 f2 f3 hown hgrow hG2 hk2 hz1 hz2 hx2 hph hvs nh3 nl3 hv2 hr2 hn2 ho2 hi0 hz0 hz1' hz2' hc2 hc3 hc5 hc34 hkn'
            gi_wp2_with fail
            have eg : Al.goN xs sz s (k + 1) = Al.strayS (Al.goN xs sz s k) := by
              show Al.go1 xs sz (Al.goN xs sz s k) = _
              unfold Al.go1
              rw [if_neg (by rw [HCS.out]; simp), if_pos hth]
            refine ⟨F3.out, ⟨by omega, ?_⟩, ?_⟩
            · rw [eg]; show ((Al.goN xs sz s k).l ++ [_]).length = _; rw [List.length_append, HL.out]; rfl
            · rw [eg]; exact F2.out
        · rw [show Al.there xs (Al.goN xs sz s k).h.pc = true by simpa using hth]
          gi_wp2_with fail
          have hxw : Is.Wd (Al.word xs (Al.goN xs sz s k).h.pc) := Al.word_wd HC.out (Al.goN xs sz s k).h.pc
          have hst := step_any b q p g (Al.goN xs sz s k).h (Al.word xs (Al.goN xs sz s k).h.pc) ca n cp (Al.goN xs sz s k).m W (by rw [GG.out.len]; exact GG.out.wat) GG.out.mem HNE.out (GG.out.may HCS.out) GG.out.hb hxw
          obtain ⟨hh1, hh2⟩ := Al.step_hold (n := sz) (m := (Al.goN xs sz s k).m) (GG.out.may HCS.out) GG.out.hb hxw GG.out.mem.img.byt GG.out.len
          rw [GG.out.len] at hst
          have eg : Al.goN xs sz s (k + 1) = Al.stepS (Al.goN xs sz s k) (Al.word xs (Al.goN xs sz s k).h.pc) sz := by
            show Al.go1 xs sz (Al.goN xs sz s k) = _
            unfold Al.go1
            rw [if_neg (by rw [HCS.out]; simp), if_neg hth]
          have hml : (Al.stepS (Al.goN xs sz s k) (Al.word xs (Al.goN xs sz s k).h.pc) sz).m.bs.length = sz := (Al.after_len _ _).trans GG.out.len
          obtain ⟨cm, hcm⟩ : ∃ cm, cm = Al.com (Al.goN xs sz s k).h (Al.word xs (Al.goN xs sz s k).h.pc) sz (Al.acs (Al.goN xs sz s k).h (Al.word xs (Al.goN xs sz s k).h.pc) sz) (Al.toldV (Al.acs (Al.goN xs sz s k).h (Al.word xs (Al.goN xs sz s k).h.pc) sz) (Al.goN xs sz s k).m) (Al.toldO (Al.acs (Al.goN xs sz s k).h (Al.word xs (Al.goN xs sz s k).h.pc) sz) (Al.goN xs sz s k).m) := ⟨_, rfl⟩
          have hel : (Al.stepS (Al.goN xs sz s k) (Al.word xs (Al.goN xs sz s k).h.pc) sz).l = (Al.goN xs sz s k).l ++ [cm] := by rw [hcm]; rfl
          have hst : Calls Tryz.prog 96 #[.pointer (some ⟨b, 0, none⟩), .int .u32 (Al.word xs (Al.goN xs sz s k).h.pc)] W fun e w' =>
              e = .returned (.tuple #[.agg (Al.ccells cm).toArray, .bool true]) ∧ Wat w' b (Al.stepS (Al.goN xs sz s k) (Al.word xs (Al.goN xs sz s k).h.pc) sz).h ca n cp sz (Al.tellV q) ∧ MemS w' q p g (Al.stepS (Al.goN xs sz s k) (Al.word xs (Al.goN xs sz s k).h.pc) sz).m ∧ K3 b q g W w' := by rw [hcm]; exact hst
          clear hcm
          have HST := Lib.hid (And.intro eg (And.intro hml (And.intro hel (And.intro hh1 hh2))))
          clear eg hml hel hh1 hh2 hxw
          refine ⟨trivial, (CallsIn.inRound l (callsIn_wide.2 hst)).mono ?_⟩
          rintro e W2 ⟨rfl, hw2, hm2, hk2⟩
          have hG2 : Going b q p g ca n cp N sz w ⟨(Al.stepS (Al.goN xs sz s k) (Al.word xs (Al.goN xs sz s k).h.pc) sz).h, (Al.stepS (Al.goN xs sz s k) (Al.word xs (Al.goN xs sz s k).h.pc) sz).m, (Al.goN xs sz s k).l⟩ W2 :=
            GG.out.call ⟨LT.out.1, LT.out.2.1, LT.out.2.2.1⟩ hk2 hw2 hm2 HST.out.2.1 HST.out.2.2.2.1 HST.out.2.2.2.2
          have ho2 := GG.out.others hk2
          have hv2 : Boxed W2 (w.heap.size + 2) 56 (.slice ad k cc) := (hk2.block _ HV.out.lt (by have := LT.out; omega) (by have := LT.out; omega) (by have := LT.out; omega)).trans HV.out
          have hr2 : W2.ownsRow w.heap.size 74 14 (.slice ad k cc) k ((Al.goN xs sz s k).l.flatMap Al.ccells) := ownsRow_of HR.out fun j o hj ho _ => (hk2.block j (Array.getElem?_eq_some_iff.1 ho).1 (by have := LT.out; omega) (by have := LT.out; omega) (by have := LT.out; omega)).trans ho
          clear hw2 hm2 hst hk2 hc2 hc3 hc5 hc34
          obtain ⟨W3, hW3⟩ : ∃ W3, W3 = (W2.alloc (.cells Al.czero 74)).setRow W2.heap.size (Al.ccells cm).toArray := ⟨_, rfl⟩
          have hb3 : Below W2.heap.size W2 W3 := by rw [hW3]; exact below_setRow ((Below.refl _ _).alloc (Nat.le_refl _) _) (Nat.le_refl _)
          have hrow3 : W3.heap[W2.heap.size]? = some (.cells (Al.ccells cm).toArray 74 (0, 0)) := by rw [hW3]; exact setRow_heap _ _ _ _ _ _ (heap_alloc_new _ _)
          obtain ⟨W4, hW4⟩ : ∃ W4, W4 = W3.alloc (.cells (Al.ccells cm).toArray 74) := ⟨_, rfl⟩
          have hb4 : Below W2.heap.size W2 W4 := by rw [hW4]; exact hb3.alloc hb3.size _
          have hrow4 : W4.heap[W3.heap.size]? = some (.cells (Al.ccells cm).toArray 74 (0, 0)) := by rw [hW4]; exact heap_alloc_new _ _
          have kp4 : ∀ (j : Nat) (o : Obj), W2.heap[j]? = some o → W4.heap[j]? = some o := fun j o ho => (hb4.block j (Array.getElem?_eq_some_iff.1 ho).1).trans ho
          have hG4 := hG2.below hb4
          have hv4 : Boxed W4 (w.heap.size + 2) 56 (.slice ad k cc) := kp4 _ _ (show W2.heap[_]? = some _ from hv2)
          have hr4 : W4.ownsRow w.heap.size 74 14 (.slice ad k cc) k ((Al.goN xs sz s k).l.flatMap Al.ccells) := ownsRow_of hr2 fun j o _ ho _ => kp4 j o ho
          have ho4 : KeepsOthers W W4 := ho2.trans ⟨hb4.size, fun j o hj _ => kp4 j o hj⟩
          have hv3 : Boxed W3 (w.heap.size + 2) 56 (.slice ad k cc) := (hb3.block _ hv2.lt).trans (show W2.heap[_]? = some _ from hv2)
          have hc5 := hv3.cell
          have HW3 := Lib.hid hW3; have HW4 := Lib.hid hW4; have HR3 := Lib.hid hrow3; have HR4 := Lib.hid hrow4; have HG4 := Lib.hid hG4; have HV4 := Lib.hid hv4; have HO4 := Lib.hid ho4; have HRW4 := Lib.hid hr4
          obtain ⟨i0, hi0, hz0, hz1', hz2'⟩ := Al.cinfo_parts
          have HI0 := Lib.hid hi0; have HZ0 := Lib.hid hz0; have HZ1 := Lib.hid hz1'; have HZ2 := Lib.hid hz2'
          clear hW3 hb3 hrow3 hW4 hb4 hrow4 kp4 hG4 hv4 hr4 ho4 hv3 hG2 ho2 hv2 hr2 hi0 hz0 hz1' hz2'
          gi_wp2_with (first
            | (show wpListIn _ _ _ _ _ (Oper.mk none (Op.store 74 _ _) _ _ _ _ :: _) _ _; refine Og.wpListIn_of_gives rfl (fun c e => by cases e) (Og.gives_store_row (R := fun v w' => v = undef ∧ w' = (W2.alloc (.cells Al.czero 74)).setRow W2.heap.size (Al.ccells cm).toArray) 74 (.tmp 8) (.tmp 18) rfl W2.heap.size (Al.ccells cm).toArray rfl rfl 74 Al.czero (heap_alloc_new _ _) (by kernel_rfl) (by kernel_rfl) (by kernel_rfl) ⟨rfl, rfl⟩) ?_; rintro v w' ⟨rfl, rfl⟩; rw [← HW3.out])
            | (show wpListIn _ _ _ _ _ (Oper.mk (some 23) _ _ _ _ _ :: _) _ _; refine Og.wpListIn_of_gives rfl (fun c e => by cases e) (Og.gives_load_row (R := fun v w' => v = .agg (Al.ccells cm).toArray ∧ W3 = w') 74 (.tmp 8) rfl W2.heap.size rfl _ _ _ _ HR3.out Tryz.underlying74 (by kernel_rfl) (by kernel_rfl) ⟨rfl, rfl⟩) ?_; rintro v w' ⟨rfl, rfl⟩)
            | (show wpListIn _ _ _ _ _ (Oper.mk (some 24) _ _ _ _ _ :: _) _ _; refine Og.wpListIn_of_gives rfl (fun c e => by cases e) (Og.gives_new (R := fun v w' => v = .slice (some ⟨W3.heap.size, 0, none⟩) 1 1 ∧ W4 = w') (.slice (some ⟨W3.heap.size, 0, none⟩) 1 1) (w' := W3.alloc (.cells (Al.ccells cm).toArray 74)) (Al.build_slice cm W3 _ _ rfl rfl) ⟨rfl, HW4.out⟩) ?_; rintro v w' ⟨rfl, rfl⟩)
            | (show wpListIn _ _ _ _ _ (Oper.mk (some 25) _ _ _ _ _ :: _) _ _; refine wpListIn_append_own W4 rfl (.tmp 22) (.tmp 24) 56 rfl w.heap.size 74 i0 (.agg Al.czero) 14 88 Tryz.underlying56 HI0.out HZ0.out HZ1.out HZ2.out rfl (by decide) _ k _ rfl HRW4.out ⟨W3.heap.size, 0, none⟩ 1 1 (Al.ccells cm) rfl rfl (World.news_of_block HR4.out) (Al.ccells_one _) (by have := HN.out; unfold maxLen; omega) (by have := HN.out; omega) HG4.out.k3.size ?_; intro v' w3 hown hgrow _; obtain ⟨gb, cp', rfl⟩ := ownsRow_succ hown; obtain ⟨f1, f2, f3⟩ := HG4.out.add LT.out HV4.out (by rw [HL.out]; exact HRW4.out) cm (by rw [HL.out]; exact hown) hgrow; have hf1 := f1.cell; have hf2 := f1.frozen; have F2 := Lib.hid f2; have F3 := Lib.hid (HO4.out.trans f3); clear f1 f2 f3 hown hgrow hc5))
          refine ⟨F3.out, ⟨by omega, ?_⟩, ?_⟩
          · rw [HST.out.1, HST.out.2.2.1, List.length_append, HL.out]; rfl
          · rw [HST.out.1]; have := F2.out; rw [← HST.out.2.2.1] at this; exact this
      · have hbn : ((Al.goN xs sz s k).h.cause != 0) = true := by simpa using hcs
        gi_wp2_with fail
        have e := Al.goN_halt (xs := xs) (n := sz) (s := s) (k := k) hcs (N - k)
        rw [show k + (N - k) = N by omega] at e
        exact ⟨KeepsOthers.refl _, rfl, by rw [e]; exact GG.out⟩
  case stop =>
    rintro D c W hD ⟨rfl, hG⟩ hd
    refine wpIn_wide.2 ?_
    obtain ⟨v, hv, hr⟩ := hG.out
    obtain ⟨ad, cc, rfl⟩ := ownsRow_form hr
    have hc5 := hv.cell
    have GG := Lib.hid hG; have HR := Lib.hid hr; have HD := Lib.hid hd; have HDD := Lib.hid hD
    clear hG hr hd hv hD
    go_wp2_with fail
    rw [Exit.noGoto_ret]
    refine ⟨by simp, .inl ⟨_, _, rfl, run_takeDeferred HD.out, ?_⟩⟩
    have hg := GG.out.putObj (.deferred none) (by have := HDD.out; have := HSZ.out; omega) HD.out rfl
    refine ⟨_, results_tmp (fn := Tryz.f71) rfl _ _ _, ⟨_, rfl, ownsRow_putObj HR.out _ HD.out rfl, hg.wat, hg.mem, hg.k3⟩⟩
end Go.Proofs.YtianojbdabeoeaaGreatDoor
end
