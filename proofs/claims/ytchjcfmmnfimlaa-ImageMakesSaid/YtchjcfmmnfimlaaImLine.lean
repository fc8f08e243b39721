/-
  The contracts of the program's layer 2 (image): Line and SetLine.
-/
import Derived.Test.YtchjcfmmnfimlaaImLn
import Derived.Deep.WholeRow
namespace Go.Proofs.Ytchjcfmmnfimlaa
open Go.RowKit Go.Maps
set_option linter.unusedVariables false

/-- sixteen noughts -/
def zs16 : List Int := List.replicate 16 0
/-- a block of whatever cells that has just been made, behind what has grown since -/
theorem blk_new (w : World) (o : Obj) {w1 : World} (hb1 : Below (w.alloc o).heap.size (w.alloc o) w1) : Below w.heap.size w w1 ∧ w1.heap[w.heap.size]? = some o := by
  have hz : (w.alloc o).heap.size = w.heap.size + 1 := by simp
  exact ⟨((Below.refl w.heap.size w).alloc (Nat.le_refl _) _).trans (hb1.mono (by omega)), (hb1.block w.heap.size (by omega)).trans (heap_alloc_last w o)⟩
theorem arr_new (w : World) : Arr (w.alloc (.cells (Im.vals zs16).toArray 45)) w.heap.size zs16 := heap_alloc_last _ _

theorem results_row_tmp {P : Program} {fn : Func} {p t : Tmp} {ty : TypeId} (h : fn.results = #[.cell p ty, .tmp t]) (tmps : Array Value) (w : World) (g : Nat) (tt : TypeId) (cs : Array Value) (fr : Nat × Nat) (d : TypeDesc)
    (hp : tmps.getD p undef = .pointer (some ⟨g, 0, none⟩)) (hg : w.heap[g]? = some (.cells cs tt fr))
    (hu : P.underlying ty = some d) (hd : (match d with | .struct _ | .array _ _ => true | _ => false) = true) (hi : (P.info? ty).map (·.size) = some cs.size) :
    (results fn tmps).run P w = .ok (.tuple #[.agg cs, tmps.getD t undef]) w := by
  have hp' : tmps[p]?.getD undef = .pointer (some ⟨g, 0, none⟩) := by simpa using hp
  simp [results, h, hp', asAddr, run_loadVar_row w g tt ty cs fr d hg hu hd hi]
theorem size_zs16 : (Try.prog.info? 45).map (·.size) = some (Im.vals zs16).toArray.size := by kernel_rfl
theorem below_setRow' {B g : Nat} {w0 w : World} (hb : Below B w0 w) (hBg : B ≤ g) (cs : Array Value) : Below B w0 (w.setRow g cs) :=
  hb.trans ⟨rfl, rfl, rfl, by simp, fun k hk => setRow_other w g k cs (by omega)⟩

theorem line_refused (ptr : Value) (n k : Nat) (code : Int) (w : World) (hn : n ≤ 4294967295) (hk : k = n * 16)
    (hc : ∀ (F : Value) (w1 : World), Below w.heap.size w w1 → Calls Try.prog 34 #[ptr, .int .u64 k, .int .i64 128, F] w1 fun e w' => e = .returned (.int .i64 code) ∧ w1 = w') :
    Calls Try.prog 24 #[ptr, .int .u32 n] w fun e w' => e = .returned (.tuple #[.agg (Im.vals zs16).toArray, .int .i64 code]) ∧ Below w.heap.size w w' := by
  have HC := Lib.hid hc; clear hc
  have HK := Lib.hid hk; clear hk
  go_enter Try.func24, Try.ntmps24
  go_wp2_with fail
  refine (linestart_any n k hn HK.out _).mono ?_
  rintro e w' ⟨rfl, rfl⟩
  go_wp2_with fail
  refine (HC.out _ _ ((Below.refl _ _).alloc (Nat.le_refl _) _)).mono ?_
  rintro e w' ⟨rfl, rfl⟩
  go_wp2_with (first
    | (refine wpList_load_row rfl 45 _ rfl w.heap.size rfl 45 (Im.vals zs16).toArray (0, 0) _ (arr_new w) Try.underlying45 rfl ?_ ?_; rotate_right)
    | (refine wpList_store_row rfl 45 _ _ rfl w.heap.size (Im.vals zs16).toArray rfl rfl 45 _ (arr_new w) ?_ ?_ (one_vals _) ?_; rotate_right))
  · refine bodyPost_ret (results_row_tmp rfl _ _ w.heap.size 45 (Im.vals zs16).toArray (0, 0) _ rfl (setRow_heap _ _ _ _ _ _ (arr_new w)) Try.underlying45 rfl size_zs16) rfl ⟨rfl, below_setRow' ((Below.refl _ _).alloc (Nat.le_refl _) _) (Nat.le_refl _) _⟩
  · exact size_zs16
  · rfl
  · exact size_zs16

theorem line_goes (p g : Nat) (bs : List Int) (n : Nat) (w : World) (hi : Img w p g bs) (hlt : n * 16 < bs.length) :
    Calls Try.prog 24 #[.pointer (some ⟨p, 0, none⟩), .int .u32 n] w fun e w' => e = .returned (.tuple #[.agg (Im.vals (Im.win bs (n * 16) 16)).toArray, .int .i64 0]) ∧ Below w.heap.size w w' := by
  have HI := Lib.hid hi; clear hi
  obtain ⟨k, hk⟩ : ∃ k : Nat, k = n * 16 := ⟨_, rfl⟩
  rw [← hk] at hlt ⊢
  have hbd := HI.out.bd
  have hle : k + 16 ≤ bs.length := by omega
  have hal : k % 16 = 0 := by omega
  have hn : n ≤ 4294967295 := by omega
  have HK := Lib.hid hk; clear hk
  have HA := Lib.hid hal; clear hal
  go_enter Try.func24, Try.ntmps24
  go_wp2_with fail
  refine (linestart_any n k hn HK.out _).mono ?_
  rintro e w' ⟨rfl, rfl⟩
  go_wp2_with fail
  have hb := (Below.refl w.heap.size w).alloc (Nat.le_refl _) (.cells (Im.vals zs16).toArray 45)
  have HB := Lib.hid hb; clear hb
  have hi1 := HI.out.old HB.out
  have hcall := line1_any g k 16 w.heap.size bs zs16 _ hi1.row hle rfl (arr_new w)
  refine (reach_goes p g bs.length k 16 128 41 (.inr (.inr (.inl rfl))) ⟨w.heap.size, 0, none⟩ _ (by decide) HA.out hle _ ⟨hbd.1, hbd.2.1⟩ hi1.cell hcall).mono ?_
  clear hcall hi1
  rintro e w' ⟨rfl, harr, hgr⟩
  have HR := Lib.hid harr; have HG := Lib.hid hgr; clear harr hgr
  have hs : (Try.prog.info? 45).map (·.size) = some (Im.vals (Im.win bs k 16)).toArray.size := by rw [size45, List.size_toArray, len_vals, Im.length_win hle]
  have HS := Lib.hid hs; clear hs
  go_wp2_with (first
    | (refine wpList_load_row rfl 45 _ rfl w.heap.size rfl 45 (Im.vals (Im.win bs k 16)).toArray (0, 0) _ HR.out Try.underlying45 rfl HS.out ?_)
    | (refine wpList_store_row rfl 45 _ _ rfl w.heap.size (Im.vals (Im.win bs k 16)).toArray rfl rfl 45 _ HR.out HS.out rfl (one_vals _) ?_))
  refine bodyPost_ret (results_row_tmp rfl _ _ w.heap.size 45 (Im.vals (Im.win bs k 16)).toArray (0, 0) _ rfl (setRow_heap _ _ _ _ _ _ HR.out) Try.underlying45 rfl HS.out) rfl ⟨rfl, below_setRow' ?_ (Nat.le_refl _) _⟩
  exact HB.out.grown HG.out (by simp) (fun k hk => by cases hk; exact Nat.le_refl _)

theorem setline_refused (ptr : Value) (n k : Nat) (ls : List Int) (code : Int) (w : World) (hn : n ≤ 4294967295) (hk : k = n * 16)
    (hc : ∀ (F : Value) (w1 : World), Below w.heap.size w w1 → Calls Try.prog 34 #[ptr, .int .u64 k, .int .i64 128, F] w1 fun e w' => e = .returned (.int .i64 code) ∧ w1 = w') :
    Calls Try.prog 25 #[ptr, .int .u32 n, .agg (Im.vals ls).toArray] w fun e w' => e = .returned (.int .i64 code) ∧ Below w.heap.size w w' := by
  have HC := Lib.hid hc; clear hc
  have HK := Lib.hid hk; clear hk
  go_enter Try.func25, Try.ntmps25
  go_wp2_with fail
  refine (linestart_any n k hn HK.out _).mono ?_
  rintro e w' ⟨rfl, rfl⟩
  go_wp2_with fail
  refine (HC.out _ _ ((Below.refl _ _).alloc (Nat.le_refl _) _)).mono ?_
  rintro e w' ⟨rfl, rfl⟩
  go_wp2
  go_ret
  exact ⟨rfl, (Below.refl _ _).alloc (Nat.le_refl _) _⟩

theorem setline_goes (p g : Nat) (bs ls : List Int) (n : Nat) (w : World) (hi : Img w p g bs) (hlt : n * 16 < bs.length) (hl : ls.length = 16) (hb : Im.Byt ls) :
    Calls Try.prog 25 #[.pointer (some ⟨p, 0, none⟩), .int .u32 n, .agg (Im.vals ls).toArray] w fun e w' => e = .returned (.int .i64 0) ∧ Img w' p g (Im.sets bs (n * 16) (Im.nth ls) 16) ∧ w.grownBy w' (some g) := by
  have HI := Lib.hid hi; clear hi
  have HY := Lib.hid hb; clear hb
  have HLL := Lib.hid hl; clear hl
  obtain ⟨k, hk⟩ : ∃ k : Nat, k = n * 16 := ⟨_, rfl⟩
  rw [← hk] at hlt ⊢
  have hbd := HI.out.bd
  have hle : k + 16 ≤ bs.length := by omega
  have hal : k % 16 = 0 := by omega
  have hn : n ≤ 4294967295 := by omega
  have HK := Lib.hid hk; clear hk
  have HA := Lib.hid hal; clear hal
  go_enter Try.func25, Try.ntmps25
  go_wp2_with fail
  refine (linestart_any n k hn HK.out _).mono ?_
  rintro e w' ⟨rfl, rfl⟩
  go_wp2_with fail
  have hb := (Below.refl w.heap.size w).alloc (Nat.le_refl _) (.cells (Im.vals ls).toArray 45)
  have HB := Lib.hid hb; clear hb
  have hi1 := HI.out.old HB.out
  have hcall := setline1_any g k 16 w.heap.size bs ls _ hi1.row hle HLL.out (heap_alloc_last _ _)
  refine (reach_goes p g bs.length k 16 128 42 (.inr (.inr (.inr rfl))) ⟨w.heap.size, 0, none⟩ _ (by decide) HA.out hle _ ⟨hbd.1, hbd.2.1⟩ hi1.cell hcall).mono ?_
  have HI1 := Lib.hid hi1
  clear hcall hi1
  rintro e w' ⟨rfl, hrow, hgr⟩
  have HR := Lib.hid hrow; have HG := Lib.hid hgr; clear hrow hgr
  go_wp2
  go_ret
  exact ⟨rfl, HI1.out.wrote HG.out HR.out (Im.length_sets _ _ _ _) (Im.byt_sets HI.out.byt _ _ _ (fun i _ => Im.getD_byt HY.out i)), grownBy_trans (below_grown HB.out _) HG.out⟩

end Go.Proofs.Ytchjcfmmnfimlaa
