import Derived.Test.YtfajkgbpeapcbaaNa05
import Derived.Deep.Upon
import Derived.Deep.WholeRow
import Derived.Test.YtfajkgbpeapcbaaNa04
import Derived.Laws.StructEq
set_option linter.unusedVariables false
set_option linter.unusedSimpArgs false

section
namespace Go.Proofs.Ytfajkgbpeapcbaa
open Go.RowKit
namespace Nt
theorem flat_get {l : List E} (hok : ∀ e ∈ l, Ok e) {j : Nat} {u : Value} (h : (flat l)[j]? = some u) : ∃ e, l[j / 20]? = some e ∧ (cells e)[j % 20]? = some u := by
  have hlt := (List.getElem?_eq_some_iff.1 h).1
  rw [flat_len hok] at hlt
  have hk : j / 20 < l.length := by omega
  refine ⟨l[j / 20], List.getElem?_eq_getElem hk, ?_⟩
  have hl := (hok _ (List.getElem_mem hk)).len
  have hi : j % 20 < (cells l[j / 20]).length := by rw [hl]; omega
  have h1 := flat_at hok (List.getElem?_eq_getElem hk) (List.getElem?_eq_getElem hi)
  rw [show j / 20 * 20 + j % 20 = j by omega] at h1
  rw [List.getElem?_eq_getElem hi, ← h1, h]
theorem flat_one_cells {l : List E} : ∀ u ∈ flat l, u.oneCell' = true := by
  intro u hu
  unfold flat at hu
  obtain ⟨r, hr, hu⟩ := List.mem_flatten.1 hu
  obtain ⟨e, _, rfl⟩ := List.mem_map.1 hr
  exact cells_one e u hu
theorem LsIn.news {w : World} {g o c : Nat} {l : List E} (h : LsIn w (some ⟨g, o, none⟩) c l) : ∀ j u, (flat l)[j]? = some u → w.cell? ((⟨g, o, none⟩ : Addr).add j) = some u := by
  intro j u hj
  obtain ⟨e, he, hi⟩ := flat_get h.ok hj
  obtain ⟨g', o', e1, hc⟩ := h.at_ he
  obtain ⟨rfl, rfl⟩ : g = g' ∧ o = o' := by injection e1 with e1; injection e1 with e1 e2; exact ⟨e1, e2⟩
  have := hc _ _ hi
  rw [show o + j / 20 * 20 + j % 20 = o + j by omega] at this
  rw [Go.WideShapes.add_plain]
  exact this
theorem src_ls {w : World} {a : Option Addr} {c : Nat} {l : List E} (h : LsIn w a c l) : Src Try.prog 20 56 (.slice a l.length c) l.length (flat l) w := by
  cases a with
  | none =>
    have : l = [] := by
      cases l with
      | nil => rfl
      | cons x l =>
        obtain ⟨g, o, e, _⟩ := h.at_ (k := 0) (e := x) rfl
        cases e
    subst this
    exact Src.ofNil w Try.underlying56 c
  | some ad =>
    refine Src.ofSlice w Try.underlying56 ad _ c _ (flat_len h.ok) ?_ flat_one_cells
    cases l with
    | nil => intro j u hj; simp [flat] at hj
    | cons x l =>
      obtain ⟨g, o, e, _⟩ := h.at_ (k := 0) (e := x) rfl
      obtain rfl : ad = ⟨g, o, none⟩ := by injection e
      exact h.news
theorem Fr.grown {F : Nat → Prop} {w w' : World} {r : Option Nat} (h : w.grownBy w' r) (hF : ∀ k, r = some k → k < w.heap.size → F k) : Fr F w w' :=
  ⟨h.os, h.tape, h.output, h.size, fun k hk hf => h.block k hk (fun e => hf (hF k e.symm hk))⟩
set_option maxRecDepth 100000 in
theorem append_any {w : World} {F : Nat → Prop} {a c l} (h : Own w F a c l) (hok : ∀ e ∈ l, Ok e) {a2 : Option Addr} {c2 : Nat} {xs : List E} (h2 : LsIn w a2 c2 xs) (hl : l.length + xs.length ≤ 4096) :
    ∃ (a' : Option Addr) (c' : Nat) (w' : World), (Builtin.append_ #[56, 56] 56 #[.slice a l.length c, .slice a2 xs.length c2]).run Try.prog w = .ok (.slice a' (l ++ xs).length c') w' ∧
      Own w' (fun k => F k ∨ k = w.heap.size) a' c' (l ++ xs) ∧ Fr F w w' := by
  obtain ⟨i0, hi, hz0, hz1, hz2⟩ := info_msg
  have HS := src_ls h2
  have hlx : (flat xs).length = xs.length * 20 := flat_len h2.ok
  have hll : (flat l).length = l.length * 20 := flat_len hok
  rw [List.length_append]
  rcases h with ⟨rfl, rfl⟩ | ⟨g, cur, rfl, hf, hg, h1, h3, h4, h5⟩
  · cases xs with
    | nil =>
      refine ⟨a, 0, w, ?_, .inl ⟨rfl, rfl⟩, Fr.refl _ _⟩
      exact run_append_nothing w 56 56 56 67 i0 Try.underlying56 hi a 0 0 (Nat.le_refl _) _ (by rw [hz1]; exact HS)
    | cons x xs =>
      have hr := run_append_grow_src (P := Try.prog) w 56 56 56 67 i0 (EV E0) Try.underlying56 hi hz0 a 0 0 [] (by
        cases a with
        | none => exact run_firstCells_none _ _ _ _ _
        | some ad => exact run_firstCells_some _ _ _ _ _ _ [] (by simp) (fun j v hj => by simp at hj)) _ _ _ (by rw [hz1]; exact HS) (by simp) (by simp only [List.length_nil] at hl; omega) (growslice_fits (by simp) (by simp only [List.length_nil] at hl; rw [hz2]; omega))
      have hge := grownCap_ge w (0 + (x :: xs).length) 0 67
      have hcm := grownCap_le_maxLen w (0 + (x :: xs).length) 0 67 (by unfold maxLen; simp only [List.length_nil] at hl; omega)
      refine ⟨_, _, _, hr, .inr ⟨w.heap.size, _, rfl, .inr rfl, heap_alloc_new w.drew _, by simp only [List.nil_append]; omega, hcm, ?_, ?_⟩, Fr.grown (r := none) ⟨rfl, rfl, rfl, by simp, fun k hk _ => Below.heap_alloc w.drew _ k hk⟩ (fun k hk => by cases hk)⟩
      · simp only [Array.size_append, List.size_toArray, size_zeroCells, List.nil_append]
        rw [hlx, show (EV E0).cells.size = 20 from by kernel_rfl]
        omega
      · simp only [Array.toList_append, List.nil_append]
        rw [← hlx]; exact List.take_left
  · by_cases hroom : l.length + xs.length ≤ c
    · cases xs with
      | nil =>
        refine ⟨some ⟨g, 0, none⟩, c, w, ?_, ?_, Fr.refl _ _⟩
        · exact run_append_nothing w 56 56 56 67 i0 Try.underlying56 hi _ l.length c h1 _ (by rw [hz1]; exact HS)
        · rw [List.append_nil]
          exact .inr ⟨g, cur, rfl, .inl hf, hg, h1, h3, h4, h5⟩
      | cons x xs =>
        obtain ⟨g2, o2, e2, _⟩ := h2.at_ (k := 0) (e := x) rfl
        subst e2
        have hfit : l.length * 20 + (flat (x :: xs)).length ≤ cur.size := by rw [hlx]; omega
        have hr := run_append_room (P := Try.prog) w 56 56 67 i0 Try.underlying56 hi g l.length c cur hg ⟨g2, o2, none⟩ (x :: xs).length c2 (flat (x :: xs)) (by rw [hz1]; exact hlx) h2.news flat_one_cells hroom (by rw [hz1]; exact hfit)
        rw [hz1] at hr
        refine ⟨_, _, _, hr, .inr ⟨g, _, rfl, .inl hf, setRow_heap w g cur _ 67 _ hg, by rw [List.length_append]; exact hroom, h3, ?_, ?_⟩, Fr.grown (r := some g) ⟨rfl, rfl, rfl, by simp, fun k _ hk => setRow_other w g k _ (fun e => hk (by rw [e]))⟩ (fun k hk _ => by injection hk with hk; exact hk ▸ hf)⟩
        · simp only [List.size_toArray, List.length_append, List.length_take, List.length_drop, Array.length_toList]
          omega
        · rw [h5, List.length_append, Nat.add_mul, ← hll, ← hlx, ← List.length_append, flat_app]
          exact List.take_left
    · have hold : (Builtin.firstCells i0.size l.length (.slice (some ⟨g, 0, none⟩) l.length c)).run Try.prog w.drew = .ok (flat l).toArray w.drew := by
        refine run_firstCells_some w.drew _ _ _ _ _ (flat l) (by rw [hz1]; exact hll) (fun j u hj => ?_)
        have h6 := take_at h5 hj
        show w.cell? _ = _
        rw [Go.WideShapes.add_plain, Nat.zero_add, cell_of_row _ _ _ _ _ _ hg]
        simpa using h6
      have hr := run_append_grow_src (P := Try.prog) w 56 56 56 67 i0 (EV E0) Try.underlying56 hi hz0 (some ⟨g, 0, none⟩) l.length c (flat l) hold _ _ _ (by rw [hz1]; exact HS) (by omega) (by omega) (growslice_fits (by omega) (by rw [hz2]; omega))
      have hge := grownCap_ge w (l.length + xs.length) c 67
      have hcm := grownCap_le_maxLen w (l.length + xs.length) c 67 (by unfold maxLen; omega)
      refine ⟨_, _, _, hr, .inr ⟨w.heap.size, _, rfl, .inr rfl, heap_alloc_new w.drew _, by rw [List.length_append]; omega, hcm, ?_, ?_⟩, Fr.grown (r := none) ⟨rfl, rfl, rfl, by simp, fun k hk _ => Below.heap_alloc w.drew _ k hk⟩ (fun k hk => by cases hk)⟩
      · simp only [Array.size_append, List.size_toArray, size_zeroCells, List.length_append]
        rw [hlx, hll, show (EV E0).cells.size = 20 from by kernel_rfl]
        omega
      · simp only [Array.toList_append]
        rw [flat_app, List.length_append, Nat.add_mul, ← hll, ← hlx, ← List.length_append]; exact List.take_left
end Nt
end Go.Proofs.Ytfajkgbpeapcbaa
end

section
namespace Go.Proofs.Ytfajkgbpeapcbaa
set_option maxRecDepth 100000
open Go.RowKit Go.Maps
def zs16 : List Int := List.replicate 16 0
theorem arr_new (w : World) : Arr (w.alloc (.cells (Im.vals zs16).toArray 25)) w.heap.size zs16 := heap_alloc_last _ _
theorem results_row_tmp {P : Program} {fn : Func} {p t : Tmp} {ty : TypeId} (h : fn.results = #[.cell p ty, .tmp t]) (tmps : Array Value) (w : World) (g : Nat) (tt : TypeId) (cs : Array Value) (fr : Nat × Nat) (d : TypeDesc)
    (hp : tmps.getD p undef = .pointer (some ⟨g, 0, none⟩)) (hg : w.heap[g]? = some (.cells cs tt fr))
    (hu : P.underlying ty = some d) (hd : (match d with | .struct _ | .array _ _ => true | _ => false) = true) (hi : (P.info? ty).map (·.size) = some cs.size) :
    (results fn tmps).run P w = .ok (.tuple #[.agg cs, tmps.getD t undef]) w := by
  have hp' : tmps[p]?.getD undef = .pointer (some ⟨g, 0, none⟩) := by simpa using hp
  simp [results, h, hp', asAddr, run_loadVar_row w g tt ty cs fr d hg hu hd hi]
theorem size_zs16 : (Try.prog.info? 25).map (·.size) = some (Im.vals zs16).toArray.size := by kernel_rfl
theorem below_setRow' {B g : Nat} {w0 w : World} (hb : Below B w0 w) (hBg : B ≤ g) (cs : Array Value) : Below B w0 (w.setRow g cs) :=
  hb.trans ⟨rfl, rfl, rfl, by simp, fun k hk => setRow_other w g k cs (by omega)⟩
theorem line_refused (ptr : Value) (n k : Nat) (code : Int) (w : World) (hn : n ≤ 4294967295) (hk : k = n * 16)
    (hc : ∀ (F : Value) (w1 : World), Below w.heap.size w w1 → Calls Try.prog 101 #[ptr, .int .u64 k, .int .i64 128, F] w1 fun e w' => e = .returned (.int .i64 code) ∧ w1 = w') :
    Calls Try.prog 93 #[ptr, .int .u32 n] w fun e w' => e = .returned (.tuple #[.agg (Im.vals zs16).toArray, .int .i64 code]) ∧ Below w.heap.size w w' := by
  have HC := Lib.hid hc; clear hc
  have HK := Lib.hid hk; clear hk
  go_enter Try.func93, Try.ntmps93
  go_wp2_with fail
  refine (linestart_any n k hn HK.out _).mono ?_
  rintro e w' ⟨rfl, rfl⟩
  go_wp2_with fail
  refine (HC.out _ _ ((Below.refl _ _).alloc (Nat.le_refl _) _)).mono ?_
  rintro e w' ⟨rfl, rfl⟩
  go_wp2_with (first
    | (refine wpList_load_row rfl 25 _ rfl w.heap.size rfl 25 (Im.vals zs16).toArray (0, 0) _ (arr_new w) Try.underlying25 rfl ?_ ?_; rotate_right)
    | (refine wpList_store_row rfl 25 _ _ rfl w.heap.size (Im.vals zs16).toArray rfl rfl 25 _ (arr_new w) ?_ ?_ (one_vals _) ?_; rotate_right))
  · refine bodyPost_ret (results_row_tmp rfl _ _ w.heap.size 25 (Im.vals zs16).toArray (0, 0) _ rfl (setRow_heap _ _ _ _ _ _ (arr_new w)) Try.underlying25 rfl size_zs16) rfl ⟨rfl, below_setRow' ((Below.refl _ _).alloc (Nat.le_refl _) _) (Nat.le_refl _) _⟩
  · exact size_zs16
  · rfl
  · exact size_zs16
theorem line_goes (p g : Nat) (bs : List Int) (n : Nat) (w : World) (hi : Img w p g bs) (hlt : n * 16 < bs.length) :
    Calls Try.prog 93 #[.pointer (some ⟨p, 0, none⟩), .int .u32 n] w fun e w' => e = .returned (.tuple #[.agg (Im.vals (Im.win bs (n * 16) 16)).toArray, .int .i64 0]) ∧ Below w.heap.size w w' := by
  have HI := Lib.hid hi; clear hi
  obtain ⟨k, hk⟩ : ∃ k : Nat, k = n * 16 := ⟨_, rfl⟩
  rw [← hk] at hlt ⊢
  have hbd := HI.out.bd
  have hle : k + 16 ≤ bs.length := by omega
  have hal : k % 16 = 0 := by omega
  have hn : n ≤ 4294967295 := by omega
  have HK := Lib.hid hk; clear hk
  have HA := Lib.hid hal; clear hal
  go_enter Try.func93, Try.ntmps93
  go_wp2_with fail
  refine (linestart_any n k hn HK.out _).mono ?_
  rintro e w' ⟨rfl, rfl⟩
  go_wp2_with fail
  have hb := (Below.refl w.heap.size w).alloc (Nat.le_refl _) (.cells (Im.vals zs16).toArray 25)
  have HB := Lib.hid hb; clear hb
  have hi1 := HI.out.old HB.out
  have hcall := line1_any g k 16 w.heap.size bs zs16 _ hi1.row hle rfl (arr_new w)
  refine (reach_goes p g bs.length k 16 128 103 (.inl rfl) ⟨w.heap.size, 0, none⟩ _ (by decide) HA.out hle _ ⟨hbd.1, hbd.2.1⟩ hi1.cell hcall).mono ?_
  clear hcall hi1
  rintro e w' ⟨rfl, harr, hgr⟩
  have HR := Lib.hid harr; have HG := Lib.hid hgr; clear harr hgr
  have hs : (Try.prog.info? 25).map (·.size) = some (Im.vals (Im.win bs k 16)).toArray.size := by rw [size45, List.size_toArray, len_vals, Im.length_win hle]
  have HS := Lib.hid hs; clear hs
  go_wp2_with (first
    | (refine wpList_load_row rfl 25 _ rfl w.heap.size rfl 25 (Im.vals (Im.win bs k 16)).toArray (0, 0) _ HR.out Try.underlying25 rfl HS.out ?_)
    | (refine wpList_store_row rfl 25 _ _ rfl w.heap.size (Im.vals (Im.win bs k 16)).toArray rfl rfl 25 _ HR.out HS.out rfl (one_vals _) ?_))
  refine bodyPost_ret (results_row_tmp rfl _ _ w.heap.size 25 (Im.vals (Im.win bs k 16)).toArray (0, 0) _ rfl (setRow_heap _ _ _ _ _ _ HR.out) Try.underlying25 rfl HS.out) rfl ⟨rfl, below_setRow' ?_ (Nat.le_refl _) _⟩
  exact HB.out.grown HG.out (by simp) (fun k hk => by cases hk; exact Nat.le_refl _)
theorem setline_goes (p g : Nat) (bs ls : List Int) (n : Nat) (w : World) (hi : Img w p g bs) (hlt : n * 16 < bs.length) (hl : ls.length = 16) (hb : Im.Byt ls) :
    Calls Try.prog 115 #[.pointer (some ⟨p, 0, none⟩), .int .u32 n, .agg (Im.vals ls).toArray] w fun e w' => e = .returned (.int .i64 0) ∧ Img w' p g (Im.sets bs (n * 16) (Im.nth ls) 16) ∧ w.grownBy w' (some g) := by
  have HI := Lib.hid hi; clear hi
  have HY := Lib.hid hb; clear hb
  have HLL := Lib.hid hl; clear hl
  obtain ⟨k, hk⟩ : ∃ k : Nat, k = n * 16 := ⟨_, rfl⟩
  rw [← hk] at hlt ⊢
  have hbd := HI.out.bd
  have hle : k + 16 ≤ bs.length := by omega
  have hal : k % 16 = 0 := by omega
  have hn : n ≤ 4294967295 := by omega
  have HK := Lib.hid hk; clear hk
  have HA := Lib.hid hal; clear hal
  go_enter Try.func115, Try.ntmps115
  go_wp2_with fail
  refine (linestart_any n k hn HK.out _).mono ?_
  rintro e w' ⟨rfl, rfl⟩
  go_wp2_with fail
  have hb := (Below.refl w.heap.size w).alloc (Nat.le_refl _) (.cells (Im.vals ls).toArray 25)
  have HB := Lib.hid hb; clear hb
  have hi1 := HI.out.old HB.out
  have hcall := setline1_any g k 16 w.heap.size bs ls _ hi1.row hle HLL.out (heap_alloc_last _ _)
  refine (reach_goes p g bs.length k 16 128 120 (.inr rfl) ⟨w.heap.size, 0, none⟩ _ (by decide) HA.out hle _ ⟨hbd.1, hbd.2.1⟩ hi1.cell hcall).mono ?_
  have HI1 := Lib.hid hi1
  clear hcall hi1
  rintro e w' ⟨rfl, hrow, hgr⟩
  have HR := Lib.hid hrow; have HG := Lib.hid hgr; clear hrow hgr
  go_wp2
  go_ret
  exact ⟨rfl, HI1.out.wrote HG.out HR.out (Im.length_sets _ _ _ _) (Im.byt_sets HI.out.byt _ _ _ (fun i _ => Im.getD_byt HY.out i)), grownBy_trans (below_grown HB.out _) HG.out⟩
end Go.Proofs.Ytfajkgbpeapcbaa
end

section
namespace Go.Proofs.Ytfajkgbpeapcbaa
open Go.RowKit
namespace Nt
set_option maxRecDepth 100000
def ca (n : Int) : Bool := decide (0 ≤ n) && decide (n ≤ 3)
theorem isCache_any (n : Int) (w : World) : Calls Try.prog 105 #[.int .i64 n] w fun r w' => r = .returned (.bool (ca n)) ∧ w = w' := by
  by_cases h1 : 0 ≤ n
  · have e : ca n = decide (n < 4) := by unfold ca; rw [decide_eq_true h1, Bool.true_and]; exact decide_eq_decide.2 (by omega)
    rw [e]
    go_enter Try.func105, Try.ntmps105
    go_wp2
    go_ret
    exact ⟨rfl, rfl⟩
  · have e : ca n = false := by unfold ca; rw [decide_eq_false h1]; rfl
    rw [e]
    go_enter Try.func105, Try.ntmps105
    go_wp2
    go_ret
    exact ⟨rfl, rfl⟩
end Nt
end Go.Proofs.Ytfajkgbpeapcbaa
end
