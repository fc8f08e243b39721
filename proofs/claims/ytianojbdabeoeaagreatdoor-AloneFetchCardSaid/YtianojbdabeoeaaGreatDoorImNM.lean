/-
  ImNM: ImLine, ImMake, ImBytes in one text.
-/
import Derived.Test.YtianojbdabeoeaaGreatDoorImM
import Derived.Deep.WholeRow
import Derived.Laws.BytesArg
import Derived.Laws.AppendOwn

section
namespace Go.Proofs.YtianojbdabeoeaaGreatDoor
open Go.RowKit Go.Maps
set_option linter.unusedVariables false

/-- sixteen noughts -/
def zs16 : List Int := List.replicate 16 0
/-- a block of whatever cells that has just been made, behind what has grown since -/
theorem blk_new (w : World) (o : Obj) {w1 : World} (hb1 : Below (w.alloc o).heap.size (w.alloc o) w1) : Below w.heap.size w w1 ∧ w1.heap[w.heap.size]? = some o := by
  have hz : (w.alloc o).heap.size = w.heap.size + 1 := by simp
  exact ⟨((Below.refl w.heap.size w).alloc (Nat.le_refl _) _).trans (hb1.mono (by omega)), (hb1.block w.heap.size (by omega)).trans (heap_alloc_last w o)⟩
theorem results_row_tmp {P : Program} {fn : Func} {p t : Tmp} {ty : TypeId} (h : fn.results = #[.cell p ty, .tmp t]) (tmps : Array Value) (w : World) (g : Nat) (tt : TypeId) (cs : Array Value) (fr : Nat × Nat) (d : TypeDesc)
    (hp : tmps.getD p undef = .pointer (some ⟨g, 0, none⟩)) (hg : w.heap[g]? = some (.cells cs tt fr))
    (hu : P.underlying ty = some d) (hd : (match d with | .struct _ | .array _ _ => true | _ => false) = true) (hi : (P.info? ty).map (·.size) = some cs.size) :
    (results fn tmps).run P w = .ok (.tuple #[.agg cs, tmps.getD t undef]) w := by
  have hp' : tmps[p]?.getD undef = .pointer (some ⟨g, 0, none⟩) := by simpa using hp
  simp [results, h, hp', asAddr, run_loadVar_row w g tt ty cs fr d hg hu hd hi]
theorem below_setRow' {B g : Nat} {w0 w : World} (hb : Below B w0 w) (hBg : B ≤ g) (cs : Array Value) : Below B w0 (w.setRow g cs) :=
  hb.trans ⟨rfl, rfl, rfl, by simp, fun k hk => setRow_other w g k cs (by omega)⟩

end Go.Proofs.YtianojbdabeoeaaGreatDoor
end

section
namespace Go.Proofs.YtianojbdabeoeaaGreatDoor
open Go.RowKit Go.Maps
set_option linter.unusedVariables false

/-- a slice of these bytes, wherever it lies; nil too, where there are none -/
def Sl (w : World) (a : Option Addr) (xs : List Int) : Prop := 0 < xs.length → ∃ g o, a = some ⟨g, o, none⟩ ∧ ∀ j, j < xs.length → w.cell? ⟨g, o + j, none⟩ = some (.int .u8 (xs.getD j 0))
theorem Sl.old {w w' : World} {a : Option Addr} {xs : List Int} (h : Sl w a xs) (hb : Below w.heap.size w w') : Sl w' a xs := fun hp => by
  obtain ⟨g, o, e, hc⟩ := h hp
  exact ⟨g, o, e, fun j hj => (hb.cell (p := ⟨g, o + j, none⟩) (World.block_lt_of_cell? w ⟨g, o + j, none⟩ (hc j hj))).trans (hc j hj)⟩
theorem Sl.of_row {w : World} {g : Nat} {xs : List Int} (h : Row w g xs) : Sl w (some ⟨g, 0, none⟩) xs := fun _ => ⟨g, 0, rfl, fun j hj => by rw [Nat.zero_add]; exact h.cell hj⟩
theorem Sl.nil (w : World) (a : Option Addr) : Sl w a [] := fun h => absurd h (by simp)
theorem info5 : (Tryz.prog.info? 5).map (fun i => (i.zero, i.size, i.bytes)) = some (some (.int .u8 0), 1, 1) := by kernel_rfl
/-- a slice that owns its whole block -/
theorem row_of_own {w : World} {base g n : Nat} {bs : List Int} (h : w.ownsRow base 5 1 (.slice (some ⟨g, 0, none⟩) n n) n (Im.vals bs)) : Row w g bs ∧ base ≤ g := by
  obtain ⟨h1, h2 | ⟨g', cap, cur, hv, hb, hg, hnc, hcm, hcs, ht⟩⟩ := h
  · simp at h2
  · injection hv with e1 e2 e3
    injection e1 with e1
    injection e1 with e1
    subst e1
    obtain rfl : n = cap := e3
    refine ⟨?_, hb⟩
    unfold Row
    rw [hg, ← ht, List.take_of_length_le (by simp; omega)]
theorem made_zeros (n : Nat) : (madeCells (Value.int .u8 0).cells (n * 1)).toList = Im.vals (List.replicate n 0) := by
  show (madeCells #[Value.int .u8 0] (n * 1)).toList = _
  rw [toList_madeCells_one]
  simp [Im.vals]

theorem build_no (n : Int) (F : Value) (h : -9223372036854775808 ≤ n ∧ n ≤ 9223372036854775807) (hn : Im.okB n = false) (w : World) :
    Calls Tryz.prog 38 #[.int .i64 n, F] w fun e w' => e = .returned (.tuple #[.pointer none, .int .i64 2]) ∧ w = w' := by
  have HN := Lib.hid hn; clear hn
  go_enter Tryz.func38, Tryz.ntmps38
  go_wp2_with (go_at_call 65; refine (maybe_any n h _).mono ?_; rintro e w' ⟨rfl, rfl⟩; rw [HN.out])
  go_ret2
  exact ⟨rfl, rfl⟩

set_option maxHeartbeats 1000000 in
theorem build_yes (n : Nat) (f : FuncId) (cs : Array Value) (xs : List Int) (hn : Im.okB n = true) (hl : xs.length = n) (hx : Im.Byt xs) (w : World)
    (hf : (f = 39 ∧ ∃ r, cs = #[.pointer (some ⟨r, 0, none⟩)]) ∨ (f = 51 ∧ cs = #[]))
    (hk : ∀ w1 g, Below w.heap.size w w1 → w.heap.size ≤ g → Row w1 g (List.replicate n 0) → Calls Tryz.prog f (#[.slice (some ⟨g, 0, none⟩) n n] ++ cs) w1 fun e w' => e = .returned (.tuple #[]) ∧ Row w' g xs ∧ w1.grownBy w' (some g)) :
    Calls Tryz.prog 38 #[.int .i64 n, .func (.func f) #[] cs] w fun e w' => ∃ p g, e = .returned (.tuple #[.pointer (some ⟨p, 0, none⟩), .int .i64 0]) ∧ Img w' p g xs ∧ w.heap.size ≤ p ∧ w.heap.size ≤ g ∧ Below w.heap.size w w' := by
  have HN := Lib.hid hn; clear hn
  have HK := Lib.hid hk; clear hk
  have HL := Lib.hid hl; clear hl
  obtain ⟨i0, hi, hz0, hz1, hz2⟩ := info_parts info5
  have hbd := Im.okB_bd HN.out
  have HI := Lib.hid hi; have HZ0 := Lib.hid hz0; have HZ1 := Lib.hid hz1; have HZ2 := Lib.hid hz2; clear hi hz0 hz1 hz2
  rcases hf with ⟨rfl, r, rfl⟩ | ⟨rfl, rfl⟩
  all_goals
    go_enter Tryz.func38, Tryz.ntmps38
    go_wp2_with (first
      | (go_at_call 65; refine (maybe_any n (by omega) _).mono ?_; rintro e w' ⟨rfl, rfl⟩; rw [HN.out])
      | (at_make; refine wpList_make_full _ rfl _ _ 49 rfl w.heap.size 5 i0 (.int .u8 0) 1 Tryz.underlying49 HI.out HZ0.out HZ1.out .i64 .i64 _ _ n rfl rfl rfl rfl (by rw [HZ2.out]; omega) (by unfold maxLen; omega) (Nat.le_refl _) ?_; intro w1 hown hg1))
    have hrow := (row_of_own (by rw [← made_zeros]; exact hown)).1
    have hsz := hrow.lt
    have hb1 := grown_below hg1
    have hb2 : Below w.heap.size w (w1.alloc (.cells #[.slice (some ⟨w.heap.size, 0, none⟩) n n] 128)) := hb1.alloc hb1.size _
    have hrow2 := hrow.alloc (.cells #[.slice (some ⟨w.heap.size, 0, none⟩) n n] 128)
    have hp2 := heap_alloc_last w1 (.cells #[.slice (some ⟨w.heap.size, 0, none⟩) n n] 128)
    have H := Lib.hid (And.intro hb1 (And.intro hb2 (And.intro hrow2 hp2)))
    clear hown hg1 hrow hb1 hb2 hrow2 hp2
    refine (HK.out _ _ H.out.2.1 (Nat.le_refl _) H.out.2.2.1).mono ?_
    rintro e w3 ⟨rfl, hrow3, hg3⟩
    have H3 := Lib.hid (And.intro hrow3 hg3); clear hrow3 hg3
    go_wp2
    go_ret2
    refine ⟨w1.heap.size, w.heap.size, rfl, ⟨?_, H3.out.1, by rw [HL.out]; exact HN.out, hx⟩, H.out.1.size, Nat.le_refl _, H.out.2.1.grown H3.out.2 H.out.2.1.size (fun k hk => by cases hk; exact Nat.le_refl _)⟩
    rw [H3.out.2.block w1.heap.size (by simp) (by simp; omega), HL.out]
    exact H.out.2.2.2

theorem new1_any (g n : Nat) (w : World) (hr : Row w g (List.replicate n 0)) :
    Calls Tryz.prog 51 #[.slice (some ⟨g, 0, none⟩) n n] w fun e w' => e = .returned (.tuple #[]) ∧ Row w' g (List.replicate n 0) ∧ w.grownBy w' (some g) := by
  have HR := Lib.hid hr; clear hr
  go_enter Tryz.func51, Tryz.ntmps51
  go_wp2
  go_end0
  exact ⟨rfl, HR.out, World.grownBy.refl _ _⟩
theorem byt_zeros (n : Nat) : Im.Byt (List.replicate n 0) := by
  intro x hx
  obtain ⟨_, rfl⟩ := List.mem_replicate.1 hx
  omega
theorem new_no (n : Int) (h : -9223372036854775808 ≤ n ∧ n ≤ 9223372036854775807) (hn : Im.okB n = false) (w : World) :
    Calls Tryz.prog 30 #[.int .i64 n] w fun e w' => e = .returned (.tuple #[.pointer none, .int .i64 2]) ∧ w = w' := by
  have HN := Lib.hid hn; clear hn
  go_enter Tryz.func30, Tryz.ntmps30
  go_wp2_with (go_at_call 38; refine (build_no n _ h HN.out _).mono ?_; rintro e w' ⟨rfl, rfl⟩)
  go_ret2
  exact ⟨rfl, rfl⟩
theorem new_yes (n : Nat) (hn : Im.okB n = true) (w : World) :
    Calls Tryz.prog 30 #[.int .i64 n] w fun e w' => ∃ p g, e = .returned (.tuple #[.pointer (some ⟨p, 0, none⟩), .int .i64 0]) ∧ Img w' p g (List.replicate n 0) ∧ w.heap.size ≤ p ∧ w.heap.size ≤ g ∧ Below w.heap.size w w' := by
  have HN := Lib.hid hn; clear hn
  go_enter Tryz.func30, Tryz.ntmps30
  go_wp2_with fail
  refine (build_yes n 51 #[] (List.replicate n 0) HN.out (by simp) (byt_zeros n) _ (.inr ⟨rfl, rfl⟩) (fun w1 g _ _ hr => new1_any g n w1 hr)).mono ?_
  rintro e w' ⟨p, g, rfl, H⟩
  have HH := Lib.hid H; clear H
  go_wp2
  go_ret2
  exact ⟨p, g, rfl, HH.out⟩

set_option maxRecDepth 100000 in
theorem of1_any (g n c r : Nat) (a : Option Addr) (bs xs : List Int) (w : World) (hr : Row w g bs) (hl : bs.length = n) (hx : xs.length = n) (hs : Sl w a xs) (hc : w.cell? ⟨r, 0, none⟩ = some (.slice a n c)) :
    Calls Tryz.prog 39 #[.slice (some ⟨g, 0, none⟩) n n, .pointer (some ⟨r, 0, none⟩)] w fun e w' => e = .returned (.tuple #[]) ∧ Row w' g xs ∧ w.grownBy w' (some g) := by
  have HR := Lib.hid hr; have HS := Lib.hid hs; have HL := Lib.hid hl; have HX := Lib.hid hx; clear hr hs hl hx
  by_cases h0 : 0 < xs.length
  · obtain ⟨b, o, rfl, hcell⟩ := HS.out h0
    have hsrc : ∀ (j : Nat) (v : Value), (Im.vals xs)[j]? = some v → w.cell? ((⟨b, o, none⟩ : Addr).add j) = some v := fun j v hv => by
      have hj : j < xs.length := by have := (List.getElem?_eq_some_iff.1 hv).1; rwa [len_vals] at this
      have e : (⟨b, o, none⟩ : Addr).add j = ⟨b, o + j, none⟩ := by unfold Addr.add; split <;> simp_all
      rw [e, hcell j hj]
      simp [Im.vals, hj, List.getD_eq_getElem?_getD] at hv ⊢
      exact hv
    have HSRC := Lib.hid hsrc; have H0 := Lib.hid h0; clear hsrc hcell h0
    go_enter Tryz.func39, Tryz.ntmps39
    go_wp2_with (refine wpList_copy_own (o := ⟨some 5, _, _, _, _, _⟩) rfl (.tmp 3) (.tmp 4) 49 49 rfl 5 Tryz.underlying49 (by kernel_rfl) g 0 n n ⟨b, o, none⟩ n c rfl rfl (Im.vals bs).toArray 5 HR.out (Im.vals xs) ?_ HSRC.out ?_ (ints_oneCell .u8 xs) ?_; rotate_right)
    · go_end0
      refine ⟨rfl, ?_, grownBy_setRow (World.grownBy.refl _ _) _⟩
      unfold Row
      rw [setRow_heap _ _ _ _ _ _ HR.out]
      have e1 : List.drop (Im.vals xs).length (Im.vals bs) = [] := List.drop_eq_nil_of_le (by rw [len_vals, len_vals, HL.out, HX.out]; exact Nat.le_refl _)
      simp [e1]
    · rw [len_vals, HX.out]; simp
    · rw [len_vals, HX.out, List.size_toArray, len_vals, HL.out]; omega
  · have hn0 : n = 0 := by have := HX.out; omega
    subst hn0
    have hbs : bs = [] := List.eq_nil_of_length_eq_zero HL.out
    have hxs : xs = [] := List.eq_nil_of_length_eq_zero HX.out
    subst hbs hxs
    go_enter Tryz.func39, Tryz.ntmps39
    go_wp2_with (refine wpList_copy_nothing (o := ⟨some 5, _, _, _, _, _⟩) rfl (.tmp 3) (.tmp 4) 49 49 rfl 5 Tryz.underlying49 (by kernel_rfl) _ _ 0 0 0 c rfl rfl rfl ?_)
    go_end0
    exact ⟨rfl, HR.out, World.grownBy.refl _ _⟩
theorem of_no (n c : Nat) (a : Option Addr) (hn : Im.okB n = false) (hm : n ≤ 9223372036854775807) (w : World) :
    Calls Tryz.prog 17 #[.slice a n c] w fun e w' => e = .returned (.tuple #[.pointer none, .int .i64 2]) ∧ Below w.heap.size w w' := by
  have HN := Lib.hid hn; clear hn
  go_enter Tryz.func17, Tryz.ntmps17
  go_wp2_with (go_at_call 38; refine (build_no n _ (by omega) HN.out _).mono ?_; rintro e w' ⟨rfl, rfl⟩)
  go_ret2
  exact ⟨rfl, (Below.refl _ _).alloc (Nat.le_refl _) _⟩
theorem of_yes (n c : Nat) (a : Option Addr) (xs : List Int) (hn : Im.okB n = true) (hl : xs.length = n) (hx : Im.Byt xs) (w : World) (hs : Sl w a xs) :
    Calls Tryz.prog 17 #[.slice a n c] w fun e w' => ∃ p g, e = .returned (.tuple #[.pointer (some ⟨p, 0, none⟩), .int .i64 0]) ∧ Img w' p g xs ∧ w.heap.size ≤ p ∧ w.heap.size ≤ g ∧ Below w.heap.size w w' := by
  have HN := Lib.hid hn; have HS := Lib.hid hs; have HL := Lib.hid hl; clear hn hs hl
  go_enter Tryz.func17, Tryz.ntmps17
  go_wp2_with fail
  have hb := (Below.refl w.heap.size w).alloc (Nat.le_refl _) (.cells #[.slice a n c] 49)
  have HB := Lib.hid hb; clear hb
  refine (build_yes n 39 #[.pointer (some ⟨w.heap.size, 0, none⟩)] xs HN.out HL.out hx _ (.inl ⟨rfl, _, rfl⟩) (fun w1 g hb1 hg hr => ?_)).mono ?_
  · obtain ⟨hb2, hc, _⟩ := one_new w _ _ hb1
    exact of1_any g n c w.heap.size a (List.replicate n 0) xs w1 hr (by simp) HL.out (HS.out.old hb2) hc
  rintro e w' ⟨p, g, rfl, hi, hp, hg, hb⟩
  have HI := Lib.hid hi; have HP := Lib.hid hp; have HG := Lib.hid hg; have HB2 := Lib.hid hb; clear hi hp hg hb
  go_wp2
  go_ret2
  exact ⟨p, g, rfl, HI.out, Nat.le_trans HB.out.size HP.out, Nat.le_trans HB.out.size HG.out, HB.out.trans (HB2.out.mono HB.out.size)⟩
end Go.Proofs.YtianojbdabeoeaaGreatDoor
end

section
namespace Go.Proofs.YtianojbdabeoeaaGreatDoor
open Go.RowKit Go.Maps
set_option linter.unusedVariables false

theorem conv_sl (w : World) (a : Option Addr) (n c : Nat) (xs : List Int) (hs : Sl w a xs) (hl : xs.length = n) : (convert 49 9 (.slice a n c)).run Tryz.prog w = .ok (.string (strOfNums xs)) w := by
  by_cases h0 : 0 < xs.length
  · obtain ⟨g, o, rfl, hc⟩ := hs h0
    exact run_convert_bytes_arg w 49 5 Tryz.underlying49 Tryz.underlying5 g o n c xs hl (fun i hi => hc i (by omega)) 9 Tryz.underlying9
  · obtain rfl : xs = [] := List.eq_nil_of_length_eq_zero (by omega)
    obtain rfl : n = 0 := by simpa using hl.symm
    cases a with
    | none => exact run_convert_bytes_nil w 49 5 Tryz.underlying49 Tryz.underlying5 0 c 9 Tryz.underlying9
    | some ad =>
      rw [run_convert_bytes_string w 49 9 5 _ 0 c Tryz.underlying49 Tryz.underlying5 Tryz.underlying9, run_bytesToString w ad 0 c [] (by simp [loadCells, loadCellsFrom])]
      rfl
theorem str_inj {xs ys : List Int} (hx : Im.Byt xs) (hy : Im.Byt ys) (h : strOfNums xs = strOfNums ys) : xs = ys := by
  have h1 : (strOfNums xs).data.toList = (strOfNums ys).data.toList := by rw [h]
  rw [strOfNums_data, strOfNums_data] at h1
  have hl : xs.length = ys.length := by simpa using congrArg List.length h1
  apply List.ext_getElem hl
  intro j h1' h2'
  have h3 := congrArg (fun l : List UInt8 => l[j]?) h1
  simp [h1', h2'] at h3
  have hxj := hx _ (List.getElem_mem h1')
  have hyj := hy _ (List.getElem_mem h2')
  have h4 := congrArg UInt8.toNat h3
  simp at h4
  omega

theorem str_eq {xs ys : List Int} (hx : Im.Byt xs) (hy : Im.Byt ys) : ((strOfNums xs).toList == (strOfNums ys).toList) = decide (xs = ys) := by
  rw [Bool.eq_iff_iff, beq_iff_eq, decide_eq_true_iff]
  constructor
  · intro h
    apply str_inj hx hy
    apply ByteArray.ext
    apply Array.toList_inj.1
    rw [ByteArray.toList_eq, ByteArray.toList_eq] at h
    exact h
  · rintro rfl; rfl
theorem im_ret_bool {a b : Bool} (h : a = b) : Ending.returned (.bool a) = .returned (.bool b) := by rw [h]

theorem size_any (p g n : Nat) (w : World) (hn : n ≤ 9223372036854775807) (hc : w.cell? ⟨p, 0, none⟩ = some (.slice (some ⟨g, 0, none⟩) n n)) :
    Calls Tryz.prog 41 #[.pointer (some ⟨p, 0, none⟩)] w fun e w' => e = .returned (.int .i64 n) ∧ w = w' := by
  have HC := Lib.hid hc; clear hc
  go_enter Tryz.func41, Tryz.ntmps41
  go_wp2_with (go_at_call 45; refine (own_any _ _ _ _ HC.out).mono ?_; rintro e w' ⟨rfl, rfl⟩)
  go_ret
  exact ⟨rfl, rfl⟩
theorem size_nil (w : World) :
    Calls Tryz.prog 41 #[.pointer none] w fun e w' => e = .returned (.int .i64 0) ∧ w = w' := by
  go_enter Tryz.func41, Tryz.ntmps41
  go_wp2_with (go_at_call 45; refine (own_nil _).mono ?_; rintro e w' ⟨rfl, rfl⟩)
  go_ret
  exact ⟨rfl, rfl⟩

theorem clone_any (g n : Nat) (xs : List Int) (w : World) (hr : Row w g xs) (hl : xs.length = n) (hn : n ≤ 4096) :
    Calls Tryz.prog 44 #[.slice (some ⟨g, 0, none⟩) n n] w fun e w' => ∃ v, e = .returned v ∧ w'.ownsRow w.heap.size 5 1 v n (Im.vals xs) ∧ Below w.heap.size w w' := by
  obtain ⟨i0, hi, hz0, hz1, hz2⟩ := info_parts info5
  have hq : ∀ (w : World) (a : Option Addr) (n c n' c' : Nat), (binOp .eql 49 (.slice a n c) (.slice none n' c')).run Tryz.prog w = .ok (.bool a.isNone) w := fun w a n c n' c' => Lib.run_eql_slice_nil w _ _ a n c n' c' Tryz.underlying49
  have HI := Lib.hid hi; have HZ0 := Lib.hid hz0; have HZ1 := Lib.hid hz1; have HZ2 := Lib.hid hz2; clear hi hz0 hz1 hz2
  have HR := Lib.hid hr; have HL := Lib.hid hl; clear hr hl
  go_enter Tryz.func44, Tryz.ntmps44
  have hown := World.ownsRow_made (base := w.heap.size) (e := 5) (size := 1) w #[] 0 (Nat.le_refl _) (by unfold maxLen; omega) rfl
  have hsrc : ∀ (j : Nat) (v : Value), (Im.vals xs)[j]? = some v → (w.alloc (.cells #[] 5)).cell? ((⟨g, 0, none⟩ : Addr).add j) = some v := fun j v hv => by
    have e : (⟨g, 0, none⟩ : Addr).add j = ⟨g, j, none⟩ := by unfold Addr.add; split <;> simp_all
    rw [e, cell_of_row _ g j _ _ _ (HR.out.alloc _)]; simpa using hv
  have HO := Lib.hid hown; have HS := Lib.hid hsrc; clear hown hsrc
  go_wp2_with (at_builtin; refine wpList_append_own _ rfl (.tmp 5) (.tmp 6) 49 rfl w.heap.size 5 i0 (.int .u8 0) 1 1 Tryz.underlying49 HI.out HZ0.out HZ1.out HZ2.out rfl (by decide) _ 0 [] rfl HO.out ⟨g, 0, none⟩ n n (Im.vals xs) rfl (by rw [len_vals, HL.out]; omega) HS.out (ints_oneCell .u8 xs) (by unfold maxLen; omega) (by omega) (by simp) ?_; intro v' w1 hown1 hg1 _; simp only [Nat.zero_add, List.nil_append] at hown1)
  go_ret
  exact ⟨_, rfl, hown1, ((Below.refl _ _).alloc (Nat.le_refl _) _).grown hg1 (by simp) (fun k hk => by cases hk; exact Nat.le_refl _)⟩

theorem bytes_any (p g : Nat) (xs : List Int) (w : World) (hi : Img w p g xs) :
    Calls Tryz.prog 21 #[.pointer (some ⟨p, 0, none⟩)] w fun e w' => ∃ v, e = .returned v ∧ w'.ownsRow w.heap.size 5 1 v xs.length (Im.vals xs) ∧ Below w.heap.size w w' := by
  have HI := Lib.hid hi; clear hi
  have hbd := HI.out.bd
  go_enter Tryz.func21, Tryz.ntmps21
  go_wp2_with (first
    | (go_at_call 45; refine (own_any _ _ _ _ HI.out.cell).mono ?_; rintro e w' ⟨rfl, rfl⟩)
    | (go_at_call 44; refine (clone_any g xs.length xs _ HI.out.row rfl hbd.2.1).mono ?_; rintro e w1 ⟨v, rfl, hown, hb⟩))
  refine bodyPost_ret (v := v) (by simp [results, Tryz.results21]) rfl ⟨v, rfl, hown, hb⟩
theorem bytes_nil (w : World) :
    Calls Tryz.prog 21 #[.pointer none] w fun e w' => e = .returned (.slice none 0 0) ∧ w = w' := by
  have hq : ∀ (w : World) (a : Option Addr) (n c n' c' : Nat), (binOp .eql 49 (.slice a n c) (.slice none n' c')).run Tryz.prog w = .ok (.bool a.isNone) w := fun w a n c n' c' => Lib.run_eql_slice_nil w _ _ a n c n' c' Tryz.underlying49
  go_enter Tryz.func21, Tryz.ntmps21
  go_wp2_with (first
    | (go_at_call 45; refine (own_nil _).mono ?_; rintro e w' ⟨rfl, rfl⟩)
    | go_in)
  go_ret
  exact ⟨rfl, rfl⟩
/-- what Bytes tells is a slice of these bytes -/
theorem sl_own {w : World} {base n : Nat} {v : Value} {xs : List Int} (h : w.ownsRow base 5 1 v n (Im.vals xs)) : ∃ a c, v = .slice a n c ∧ Sl w a xs ∧ xs.length = n ∧ (∀ g, v.ownBlock = some g → base ≤ g) := by
  have hl : xs.length = n := by have := h.1; rw [len_vals] at this; omega
  rcases h.2 with ⟨rfl, rfl⟩ | ⟨g, cap, cur, rfl, hb, hg, hnc, hcm, hcs, ht⟩
  · obtain rfl : xs = [] := List.eq_nil_of_length_eq_zero hl
    exact ⟨none, 0, rfl, Sl.nil _ _, rfl, by simp [Value.ownBlock]⟩
  · refine ⟨some ⟨g, 0, none⟩, cap, rfl, fun _ => ⟨g, 0, rfl, fun j hj => ?_⟩, hl, by simp [Value.ownBlock]; exact hb⟩
    rw [Nat.zero_add, h.cellAt j (by omega)]
    simp [Im.vals, hj, List.getD_eq_getElem?_getD]

theorem copy_any (p g : Nat) (xs : List Int) (w : World) (hi : Img w p g xs) :
    Calls Tryz.prog 26 #[.pointer (some ⟨p, 0, none⟩)] w fun e w' => ∃ p' g', e = .returned (.pointer (some ⟨p', 0, none⟩)) ∧ Img w' p' g' xs ∧ w.heap.size ≤ p' ∧ w.heap.size ≤ g' ∧ Below w.heap.size w w' := by
  have HI := Lib.hid hi; clear hi
  go_enter Tryz.func26, Tryz.ntmps26
  go_wp2_with (first
    | (go_at_call 45; refine (own_any _ _ _ _ HI.out.cell).mono ?_; rintro e w' ⟨rfl, rfl⟩)
    | (go_at_call 17; refine (of_yes xs.length xs.length _ xs HI.out.ok rfl HI.out.byt _ (Sl.of_row HI.out.row)).mono ?_; rintro e w1 ⟨p', g', rfl, h'⟩; have H' := Lib.hid h'; clear h'))
  go_ret
  exact ⟨p', g', rfl, H'.out⟩
theorem copy_nil (w : World) :
    Calls Tryz.prog 26 #[.pointer none] w fun e w' => e = .returned (.pointer none) ∧ Below w.heap.size w w' := by
  go_enter Tryz.func26, Tryz.ntmps26
  go_wp2_with (first
    | (go_at_call 45; refine (own_nil _).mono ?_; rintro e w' ⟨rfl, rfl⟩)
    | (go_at_call 17; refine (of_no 0 0 _ (by decide) (by omega) _).mono ?_; rintro e w1 ⟨rfl, hb⟩))
  go_ret
  exact ⟨rfl, hb⟩

end Go.Proofs.YtianojbdabeoeaaGreatDoor
end
