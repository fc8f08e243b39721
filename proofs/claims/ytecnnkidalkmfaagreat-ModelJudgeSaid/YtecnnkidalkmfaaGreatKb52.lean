import Derived.Test.YtecnnkidalkmfaaGreatKb50
import Derived.Test.YtecnnkidalkmfaaGreatKb51
import Derived.Test.YtecnnkidalkmfaaGreatKb47
import Derived.Test.YtecnnkidalkmfaaGreatKb37
import Derived.Laws.MakeOwn
set_option linter.unusedVariables false
set_option linter.unusedSimpArgs false

section
namespace Go.Proofs.YtecnnkidalkmfaaGreat
open Go.RowKit
set_option maxRecDepth 100000 in
set_option maxHeartbeats 8000000 in
theorem judge_any (x : Ev.X) (w : World) (hin : Ev.XIn w x) : Calls Tryz.prog 17 #[.agg (Ev.xcells x).toArray] w (Md.JudgeR x w) := by
  have HIN := Lib.hid hin; clear hin
  obtain ⟨V, hV⟩ : ∃ V, V = (w.alloc (.cells (Ev.xcells x).toArray 26)).alloc (.cells #[.bool false, .bool false, .bool false] 34) := ⟨_, rfl⟩
  have h0 := heap_alloc_new w (.cells (Ev.xcells x).toArray 26)
  have R0 := Lib.hid (show V.heap[w.heap.size]? = some (.cells (Ev.xcells x).toArray 26 (0, 0)) by rw [hV]; exact (((Below.refl _ _).alloc (Nat.le_refl _) _).block _ (by simp)).trans h0)
  have RV := Lib.hid (show V.heap[w.heap.size + 1]? = some (.cells #[.bool false, .bool false, .bool false] 34 (0, 0)) by
    rw [hV]; have h := heap_alloc_new (w.alloc (.cells (Ev.xcells x).toArray 26)) (.cells #[.bool false, .bool false, .bool false] 34); rw [World.size_alloc] at h; exact h)
  have B0 := Lib.hid (show Below w.heap.size w V by rw [hV]; exact ((Below.refl _ _).alloc (Nat.le_refl _) _).alloc (by simp) _)
  have HV := Lib.hid hV
  have HB := Lib.hid (bring_any x V (HIN.out.kp (Ev.kp_below B0.out)))
  clear hV h0
  go_enter Tryz.func17, Tryz.ntmps17
  go_wp2_with (first
    | ((with_reducible show wpList _ _ _ (Oper.mk (some 8) _ _ _ _ _ :: _) _ _); rw [← HV.out])
    | ((with_reducible show wpList _ _ _ (Oper.mk (some 8) _ _ _ _ _ :: _) _ _); refine wpList_load_row rfl 26 (.tmp 1) rfl w.heap.size (by kernel_rfl) 26 (Ev.xcells x).toArray (0, 0) _ R0.out Tryz.underlying26 rfl (by kernel_rfl) ?_))
  refine HB.out.mono ?_
  rintro e W1 ⟨hb, hr⟩
  have B1 := Lib.hid (B0.out.trans (hb.mono B0.out.size))
  have R1 := Lib.hid ((hb.block _ (Array.getElem?_eq_some_iff.1 RV.out).1).trans RV.out)
  clear hb HB
  rcases hr with ⟨hc, rfl⟩ | ⟨hc, q, rfl, hj⟩
  · obtain ⟨v, hv⟩ : ∃ v, Ev.check x = v := ⟨_, rfl⟩
    have HVV := Lib.hid hv; have HC := Lib.hid hc
    rw [hv] at hc ⊢
    have tv : (v != 0) = true := by simpa using hc
    clear hv hc
    go_wp2_with ((with_reducible show wpList _ _ _ (Oper.mk none (Op.store 34 _ _) _ _ _ _ :: _) _ _); refine wpList_store_own rfl 34 (.tmp 2) (.tmp 14) rfl (w.heap.size + 1) #[.bool false, .bool false, .bool false] rfl rfl 34 #[.bool false, .bool false, .bool false] R1.out (by kernel_rfl) (by kernel_rfl) (by kernel_rfl) ?_; intro W9 HW9; have BZ := Lib.hid (B1.out.trans (HW9.below.mono (Nat.le_succ _))); have RZ := Lib.hid HW9.row; clear HW9)
    exact bodyPost_ret (results_cells2 rfl _ _ (w.heap.size + 1) 34 _ (0, 0) _ rfl RZ.out Tryz.underlying34 rfl (by kernel_rfl)) rfl (Md.JudgeR.no BZ.out HC.out (by rw [HVV.out]; rfl))
  · have HC := Lib.hid hc; have HJ := Lib.hid hj
    clear hc hj
    obtain ⟨b1, h1⟩ := Md.tells (Md.Rk (Md.gI (Md.cohL x)))
    obtain ⟨b2, h2⟩ := Md.tells (Md.Rk (Md.gI (Ev.pl (Ev.isG6 x) x.ev.length x.ev.length)))
    obtain ⟨b3, h3⟩ : ∃ b3, b3 = Md.atomA x := ⟨_, rfl⟩
    have H1 := Lib.hid h1; have H2 := Lib.hid h2; have H3 := Lib.hid h3
    have K1 := Lib.hid (fun (W : World) (hj : Md.JIn W q x) => isCoherent_is x q HC.out b1 h1 W hj)
    have K2 := Lib.hid (fun (W : World) (hj : Md.JIn W q x) => isOrdered_is x q HC.out b2 h2 W hj)
    have K3 := Lib.hid (fun (W : World) (hj : Md.JIn W q x) => isAtomic_is x q HC.out b3 h3 W hj)
    clear h1 h2 h3
    go_wp2_with fail
    refine (jparts_any q W1).mono ?_
    rintro e W2 ⟨rfl, hb⟩
    obtain ⟨pb, hpb⟩ : ∃ pb, pb = W2.heap.size := ⟨_, rfl⟩
    obtain ⟨U, hU⟩ : ∃ U, U = W2.alloc (.cells #[.func (.func 48) #[.pointer (some ⟨q, 0, none⟩)] #[], .func (.func 49) #[.pointer (some ⟨q, 0, none⟩)] #[], .func (.func 50) #[.pointer (some ⟨q, 0, none⟩)] #[]] 68) := ⟨_, rfl⟩
    have hbu : Below W2.heap.size W2 U := by rw [hU]; exact (Below.refl _ _).alloc (Nat.le_refl _) _
    have BU := Lib.hid (hb.trans (hbu.mono hb.size))
    have ru : U.heap[pb]? = some (.cells #[.func (.func 48) #[.pointer (some ⟨q, 0, none⟩)] #[], .func (.func 49) #[.pointer (some ⟨q, 0, none⟩)] #[], .func (.func 50) #[.pointer (some ⟨q, 0, none⟩)] #[]] 68 (0, 0)) := by rw [hU, hpb]; exact heap_alloc_new _ _
    have RU := Lib.hid ru; have HU := Lib.hid hU; have HPB := Lib.hid hpb
    have RW := Lib.hid ((BU.out.block _ (Array.getElem?_eq_some_iff.1 R1.out).1).trans R1.out)
    clear hb hbu hU ru hpb
    have c0 : U.cell? ⟨pb, 0, none⟩ = some (.func (.func 48) #[.pointer (some ⟨q, 0, none⟩)] #[]) := by rw [cell_of_row _ _ _ _ _ _ RU.out]; rfl
    have c1 : U.cell? ⟨pb, 1, none⟩ = some (.func (.func 49) #[.pointer (some ⟨q, 0, none⟩)] #[]) := by rw [cell_of_row _ _ _ _ _ _ RU.out]; rfl
    have c2 : U.cell? ⟨pb, 2, none⟩ = some (.func (.func 50) #[.pointer (some ⟨q, 0, none⟩)] #[]) := by rw [cell_of_row _ _ _ _ _ _ RU.out]; rfl
    go_wp2_with fail
    rw [← HU.out, ← HPB.out]
    refine Og.regionP (by kernel_rfl) 10 (fun t => ([(18, 0), (19, 1), (20, 2), (21, 3), (22, 4), (23, 5), (24, 6), (25, 7), (26, 8), (27, 9)] : List (Nat × Nat)).lookup t) [.is (.pointer (some ⟨pb, 0, none⟩)), .is (.func (.func 48) #[.pointer (some ⟨q, 0, none⟩)] #[]), .is (.bool b1), .is (.pointer (some ⟨pb, 1, none⟩)), .is (.func (.func 49) #[.pointer (some ⟨q, 0, none⟩)] #[]), .is (.bool b2), .is (.pointer (some ⟨pb, 2, none⟩)), .is (.func (.func 50) #[.pointer (some ⟨q, 0, none⟩)] #[]), .is (.bool b3), .is (.agg #[.bool b1, .bool b2, .bool b3])] [true, true, true, true, true, true, true, true, true, true] (by kernel_rfl) (by decide) ?_ ?_
    · refine ⟨?_, ?_, ?_, ?_, ?_, ?_, ?_, ?_, ?_, ?_, trivial⟩
      · refine ⟨rfl, (if_neg (by decide)).mpr fun ρ xw b hr hd => ?_⟩
        obtain ⟨d0, _⟩ := hd
        have d0 : ρ (.tmp 6) = .pointer (some ⟨pb, 0, none⟩) := d0
        refine (if_pos (by rfl)).mpr ?_
        refine Og.gives_is (.pointer (some ⟨pb, 0, none⟩)) ?_ (And.intro (Below.refl _ _) rfl)
        go_simp
      · refine ⟨rfl, (if_neg (by decide)).mpr fun ρ xw b hr hd => ?_⟩
        obtain ⟨d0, _⟩ := hd
        have d0 : ρ (.tmp 18) = .pointer (some ⟨pb, 0, none⟩) := d0
        refine (if_pos (by rfl)).mpr ?_
        have hc : xw.cell? ⟨pb, 0, none⟩ = some (.func (.func 48) #[.pointer (some ⟨q, 0, none⟩)] #[]) := (Below.cell hr (World.block_lt_of_cell? _ _ c0)).trans c0
        refine Og.gives_is (.func (.func 48) #[.pointer (some ⟨q, 0, none⟩)] #[]) ?_ (And.intro (Below.refl _ _) rfl)
        go_simp
      · refine ⟨rfl, (if_neg (by decide)).mpr fun ρ xw b hr hd => ?_⟩
        obtain ⟨d0, _⟩ := hd
        have d0 : ρ (.tmp 19) = .func (.func 48) #[.pointer (some ⟨q, 0, none⟩)] #[] := d0
        refine (if_pos (by rfl)).mpr ?_
        refine Og.gives_call 48 #[.pointer (some ⟨q, 0, none⟩)] ?_ ?_
        · go_simp
        · refine (K1.out xw (HJ.out.kp (BU.out.trans (hr.mono BU.out.size)))).mono ?_
          rintro e w3 ⟨rfl, hb⟩
          exact ⟨_, rfl, hb, rfl⟩
      · refine ⟨rfl, (if_neg (by decide)).mpr fun ρ xw b hr hd => ?_⟩
        obtain ⟨d0, _⟩ := hd
        have d0 : ρ (.tmp 6) = .pointer (some ⟨pb, 0, none⟩) := d0
        refine (if_pos (by rfl)).mpr ?_
        refine Og.gives_is (.pointer (some ⟨pb, 1, none⟩)) ?_ (And.intro (Below.refl _ _) rfl)
        go_simp
      · refine ⟨rfl, (if_neg (by decide)).mpr fun ρ xw b hr hd => ?_⟩
        obtain ⟨d0, _⟩ := hd
        have d0 : ρ (.tmp 21) = .pointer (some ⟨pb, 1, none⟩) := d0
        refine (if_pos (by rfl)).mpr ?_
        have hc : xw.cell? ⟨pb, 1, none⟩ = some (.func (.func 49) #[.pointer (some ⟨q, 0, none⟩)] #[]) := (Below.cell hr (World.block_lt_of_cell? _ _ c1)).trans c1
        refine Og.gives_is (.func (.func 49) #[.pointer (some ⟨q, 0, none⟩)] #[]) ?_ (And.intro (Below.refl _ _) rfl)
        go_simp
      · refine ⟨rfl, (if_neg (by decide)).mpr fun ρ xw b hr hd => ?_⟩
        obtain ⟨d0, _⟩ := hd
        have d0 : ρ (.tmp 22) = .func (.func 49) #[.pointer (some ⟨q, 0, none⟩)] #[] := d0
        refine (if_pos (by rfl)).mpr ?_
        refine Og.gives_call 49 #[.pointer (some ⟨q, 0, none⟩)] ?_ ?_
        · go_simp
        · refine (K2.out xw (HJ.out.kp (BU.out.trans (hr.mono BU.out.size)))).mono ?_
          rintro e w3 ⟨rfl, hb⟩
          exact ⟨_, rfl, hb, rfl⟩
      · refine ⟨rfl, (if_neg (by decide)).mpr fun ρ xw b hr hd => ?_⟩
        obtain ⟨d0, _⟩ := hd
        have d0 : ρ (.tmp 6) = .pointer (some ⟨pb, 0, none⟩) := d0
        refine (if_pos (by rfl)).mpr ?_
        refine Og.gives_is (.pointer (some ⟨pb, 2, none⟩)) ?_ (And.intro (Below.refl _ _) rfl)
        go_simp
      · refine ⟨rfl, (if_neg (by decide)).mpr fun ρ xw b hr hd => ?_⟩
        obtain ⟨d0, _⟩ := hd
        have d0 : ρ (.tmp 24) = .pointer (some ⟨pb, 2, none⟩) := d0
        refine (if_pos (by rfl)).mpr ?_
        have hc : xw.cell? ⟨pb, 2, none⟩ = some (.func (.func 50) #[.pointer (some ⟨q, 0, none⟩)] #[]) := (Below.cell hr (World.block_lt_of_cell? _ _ c2)).trans c2
        refine Og.gives_is (.func (.func 50) #[.pointer (some ⟨q, 0, none⟩)] #[]) ?_ (And.intro (Below.refl _ _) rfl)
        go_simp
      · refine ⟨rfl, (if_neg (by decide)).mpr fun ρ xw b hr hd => ?_⟩
        obtain ⟨d0, _⟩ := hd
        have d0 : ρ (.tmp 25) = .func (.func 50) #[.pointer (some ⟨q, 0, none⟩)] #[] := d0
        refine (if_pos (by rfl)).mpr ?_
        refine Og.gives_call 50 #[.pointer (some ⟨q, 0, none⟩)] ?_ ?_
        · go_simp
        · refine (K3.out xw (HJ.out.kp (BU.out.trans (hr.mono BU.out.size)))).mono ?_
          rintro e w3 ⟨rfl, hb⟩
          exact ⟨_, rfl, hb, rfl⟩
      · refine ⟨rfl, (if_neg (by decide)).mpr fun ρ xw b hr hd => ?_⟩
        obtain ⟨d0, d1, d2, _⟩ := hd
        have d0 : ρ (.tmp 20) = .bool b1 := d0
        have d1 : ρ (.tmp 23) = .bool b2 := d1
        have d2 : ρ (.tmp 26) = .bool b3 := d2
        refine (if_pos (by rfl)).mpr ?_
        refine Og.gives_build 34 #[(0, .tmp 20), (1, .tmp 23), (2, .tmp 26)] rfl #[.bool b1, .bool b2, .bool b3] ?_ (And.intro (Below.refl _ _) rfl)
        simp only [List.map_toArray, List.map_cons, List.map_nil, d0, d1, d2]
        kernel_rfl
    · intro vs w1 hbz hvs
      have nv0 : vs 0 = .pointer (some ⟨pb, 0, none⟩) := hvs 0 _ 18 rfl rfl
      have nv1 : vs 1 = .func (.func 48) #[.pointer (some ⟨q, 0, none⟩)] #[] := hvs 1 _ 19 rfl rfl
      have nv2 : vs 2 = .bool b1 := hvs 2 _ 20 rfl rfl
      have nv3 : vs 3 = .pointer (some ⟨pb, 1, none⟩) := hvs 3 _ 21 rfl rfl
      have nv4 : vs 4 = .func (.func 49) #[.pointer (some ⟨q, 0, none⟩)] #[] := hvs 4 _ 22 rfl rfl
      have nv5 : vs 5 = .bool b2 := hvs 5 _ 23 rfl rfl
      have nv6 : vs 6 = .pointer (some ⟨pb, 2, none⟩) := hvs 6 _ 24 rfl rfl
      have nv7 : vs 7 = .func (.func 50) #[.pointer (some ⟨q, 0, none⟩)] #[] := hvs 7 _ 25 rfl rfl
      have nv8 : vs 8 = .bool b3 := hvs 8 _ 26 rfl rfl
      have nv9 : vs 9 = .agg #[.bool b1, .bool b2, .bool b3] := hvs 9 _ 27 rfl rfl
      simp only [List.take_succ_cons, List.take_zero, List.drop_succ_cons, List.drop_zero, Og.putAll, Act.put, List.setIfInBounds_toArray, List.set_cons_zero, List.set_cons_succ, Nat.zero_add, Nat.reduceAdd, nv0, nv1, nv2, nv3, nv4, nv5, nv6, nv7, nv8, nv9]
      have BX := Lib.hid (B1.out.trans ((BU.out.trans (hbz.mono BU.out.size)).mono B1.out.size))
      have RX := Lib.hid ((hbz.block _ (Array.getElem?_eq_some_iff.1 RW.out).1).trans RW.out)
      clear hvs nv0 nv1 nv2 nv3 nv4 nv5 nv6 nv7 nv8 nv9 c0 c1 c2
      go_wp2_with ((with_reducible show wpList _ _ _ (Oper.mk none (Op.store 34 _ _) _ _ _ _ :: _) _ _); refine wpList_store_own rfl 34 (.tmp 2) (.tmp 27) rfl (w.heap.size + 1) #[.bool b1, .bool b2, .bool b3] rfl rfl 34 #[.bool false, .bool false, .bool false] RX.out (by kernel_rfl) (by kernel_rfl) (by kernel_rfl) ?_; intro W9 HW9; have BZ := Lib.hid (BX.out.trans (HW9.below.mono (Nat.le_succ _))); have RZ := Lib.hid HW9.row; clear HW9)
      exact bodyPost_ret (results_cells2 rfl _ _ (w.heap.size + 1) 34 _ (0, 0) _ rfl RZ.out Tryz.underlying34 rfl (by kernel_rfl)) rfl (Md.JudgeR.yes BZ.out HC.out b1 b2 b3 rfl H1.out H2.out H3.out)
end Go.Proofs.YtecnnkidalkmfaaGreat
end

section
namespace Go.Proofs.YtecnnkidalkmfaaGreat
open Go.RowKit
namespace Ev
def GBlk (w : World) (g : Nat) (G : List Bool) : Prop := w.heap[g]? = some (.cells (G.map Value.bool).toArray 4 (0, 0))
theorem GBlk.cell {w : World} {g : Nat} {G : List Bool} (h : GBlk w g G) {i : Nat} (hi : i < G.length) : w.cell? ⟨g, i, none⟩ = some (.bool (G.getD i false)) := by
  rw [cell_of_row w g i _ _ _ h]
  simp [List.getD, hi]
theorem GBlk.set_ {w : World} {g : Nat} {G : List Bool} (h : GBlk w g G) (i : Nat) : GBlk (w.setCell ⟨g, i, none⟩ (.bool true)) g (G.set i true) := by
  unfold GBlk at h ⊢
  simp [World.setCell, Array.getElem?_modify, h, List.map_set]
theorem GBlk.frozen {w : World} {g : Nat} {G : List Bool} (h : GBlk w g G) (i : Nat) : w.frozen? ⟨g, i, none⟩ = false := by
  unfold GBlk at h
  simp [World.frozen?, h]
def CircR (n : Nat) (ps : List (Int × Int)) (b : Bool) : Prop := (b = false → ∃ L, Topo (rev ps) L ∧ ∀ x, 0 ≤ x → x < (n : Int) → x ∈ L) ∧ ((∃ l0, Topo ps l0 ∧ ∀ x, 0 ≤ x → x < (n : Int) → x ∈ l0) → b = false)
def ledAt (G : List Bool) (p : Int) (a : Int × Int) : Bool := a.2 == p && !(goneAt G a.1)
set_option maxRecDepth 100000 in
theorem info_bool : ∃ i, Tryz.prog.info? 4 = some i ∧ i.zero = some (.bool false) ∧ i.size = 1 ∧ i.bytes = 1 := ⟨_, rfl, by kernel_rfl, by kernel_rfl, by kernel_rfl⟩
theorem below_set {B : Nat} {a w : World} (h : Below B a w) {p : Addr} (hp : B ≤ p.block) (v : Value) : Below B a (w.setCell p v) := h.setCell hp v
end Ev
set_option maxRecDepth 100000 in
set_option maxHeartbeats 2000000 in
theorem circle_any (n : Nat) (a : Option Addr) (c : Nat) (ps : List (Int × Int)) (hr : Ev.InR n ps) (w : World) (hin : Ev.PsIn w a c ps) :
    Calls Tryz.prog 37 #[.int .i64 (n : Int), .slice a ps.length c] w (Ev.CPost (Ev.CircR n ps) w) := by
  have HR := Lib.hid hr; have HIN := Lib.hid hin
  have hn64 : n ≤ 64 := by have := hr.2.1; omega
  have hle := hin.le; have hmax := hin.max
  obtain ⟨i0, hi, hz0, hz1, hz2⟩ := Ev.info_bool
  have hmk : ∀ W : World, (Instr.makeSlice 85 (.int .i64 (n : Int)) (.int .i64 (n : Int))).run Tryz.prog W = .ok (.slice (some ⟨W.heap.size, 0, none⟩) n n) (W.alloc (.cells ((List.replicate n false).map Value.bool).toArray 4)) := by
    intro W
    have := run_make (P := Tryz.prog) W 85 4 i0 (.bool false) Tryz.underlying85 hi hz0 .i64 .i64 (n : Int) (n : Int) (by omega) (by omega) (by rw [hz2]; omega) (by omega)
    rw [this, hz1, Int.toNat_natCast]
    congr 3
    apply Array.toList_inj.1
    show (madeCells #[Value.bool false] (n * 1)).toList = _
    rw [toList_madeCells_one]
    simp
  have hmkh := hmk w
  clear hr hin hi hz0 hz1 hz2 hmk
  go_enter Tryz.func37, Tryz.ntmps37
  go_wp2
  clear hmkh
  go_loopw [6, 7, 8, 9] (fun i _ _ _ wr => ∃ r : Nat, r ≤ n ∧ i = .int .i64 (r : Int) ∧ ∃ G, Ev.RoundEnd ps n r G ∧ Ev.GBlk wr w.heap.size G ∧ Below w.heap.size w wr) (fun i _ _ _ _ => n - (intOf i).toNat)
  case atStart => exact ⟨0, Nat.zero_le _, rfl, List.replicate n false, ⟨Ev.GoneIn.start, fun _ => .inr (Nat.zero_le _)⟩, by unfold Ev.GBlk; rw [heap_alloc_new]; simp, (Below.refl _ _).alloc (Nat.le_refl _) _⟩
  case round =>
    obtain ⟨r, hrn, rfl, G, hre, hblk, hbr⟩ := hrel
    have HRE := Lib.hid hre; have HBLK := Lib.hid hblk; have HBR := Lib.hid hbr
    clear hre hblk hbr
    by_cases hlt : r < n
    · have hri : (r : Int) < (n : Int) := by omega
      go_wp2
      go_loopw [7, 8, 9] (fun i _ _ w2 => ∃ k : Nat, k ≤ n ∧ i = .int .i64 (k : Int) ∧ ∃ G', Ev.GoneIn ps n G' ∧ (∀ i, G.getD i false = true → G'.getD i false = true) ∧ (∀ j, j < k → (∀ q, (q, (j : Int)) ∈ ps → Ev.goneAt G q = true) → G'.getD j false = true) ∧ Ev.GBlk w2 w.heap.size G' ∧ Below w.heap.size w w2) (fun i _ _ _ => n - (intOf i).toNat)
      case atStart => exact ⟨0, Nat.zero_le _, rfl, G, HRE.out.1, fun _ h => h, fun j hj => absurd hj (by omega), HBLK.out, HBR.out⟩
      case round =>
        obtain ⟨k, hk, rfl, G', hg, hsub, hdone, hblk2, hbr2⟩ := hrel
        have HG := Lib.hid hg; have HSUB := Lib.hid hsub; have HDONE := Lib.hid hdone; have HB2 := Lib.hid hblk2; have HBR2 := Lib.hid hbr2
        clear hg hsub hdone hblk2 hbr2
        by_cases hkn : k < n
        · have hki : (k : Int) < (n : Int) := by omega
          have HPS := Lib.hid (HIN.out.kp (Ev.kp_below HBR2.out))
          go_wp2
          go_loop [8, 9] (fun led i => ∃ m : Nat, m ≤ ps.length ∧ i = .int .i64 (m : Int) ∧ led = .bool ((ps.take m).any (Ev.ledAt G' (k : Int)))) (fun _ i => ps.length - (intOf i).toNat)
          case atStart => exact ⟨0, Nat.zero_le _, rfl, rfl⟩
          case round =>
            obtain ⟨m, hm, rfl, rfl⟩ := hrel
            by_cases hml : m < ps.length
            · have hmi : (m : Int) < (ps.length : Int) := by omega
              obtain ⟨p, hp⟩ : ∃ p, ps[m]? = some p := ⟨_, List.getElem?_eq_getElem hml⟩
              have htk : ps.take (m + 1) = ps.take m ++ [p] := by rw [List.take_add_one, hp]; rfl
              obtain ⟨gl, ol, ea, hcx⟩ := HPS.out.at_ hp
              have c0 := hcx 0 _ rfl
              have c1 := hcx 1 _ rfl
              rw [Nat.add_zero] at c0
              have hpr := HR.out.2.2 p (List.mem_of_getElem? hp)
              obtain ⟨an, han⟩ : ∃ an : Nat, p.1 = an := ⟨p.1.toNat, by omega⟩
              have hal : an < n := by omega
              have hcg := HB2.out.cell (i := an) (by rw [HG.out.1]; exact hal)
              rw [han] at c0
              have hga : Ev.goneAt G' p.1 = G'.getD an false := by unfold Ev.goneAt; rw [han]; simp
              have hani : (an : Int) < (n : Int) := by omega
              obtain ⟨gv, hgv⟩ : ∃ b, G'.getD an false = b := ⟨_, rfl⟩
              rw [hgv] at hcg hga
              have hany : (ps.take (m + 1)).any (Ev.ledAt G' (k : Int)) = ((ps.take m).any (Ev.ledAt G' (k : Int)) || (p.2 == (k : Int) && !gv)) := by
                rw [htk, List.any_append]; simp [Ev.ledAt, hga]
              obtain ⟨led, hled⟩ : ∃ b, (ps.take m).any (Ev.ledAt G' (k : Int)) = b := ⟨_, rfl⟩
              rw [hled] at hany ⊢
              have HANY := Lib.hid hany
              clear hp htk hcx hpr hga hgv hled hany han
              rw [ea]; clear ea
              cases led
              · by_cases hpk : p.2 = (k : Int)
                · have hq : (p.2 == (k : Int)) = true := by simp [hpk]
                  have HQ := Lib.hid hq
                  clear hpk
                  go_wp2
                  go_round
                  case rel => exact ⟨m + 1, by omega, by go_num, by rw [HANY.out, HQ.out]; rfl⟩
                  case measure => simp [intOf]; omega
                · have hq : (p.2 == (k : Int)) = false := by simpa using hpk
                  have HQ := Lib.hid hq
                  clear hpk
                  go_wp2
                  go_round
                  case rel => exact ⟨m + 1, by omega, by go_num, by rw [HANY.out, HQ.out]; rfl⟩
                  case measure => simp [intOf]; omega
              · go_wp2
                go_round
                case rel => exact ⟨m + 1, by omega, by go_num, by rw [HANY.out]; rfl⟩
                case measure => simp [intOf]; omega
            · have hme : m = ps.length := by omega
              have hmi : ¬ (m : Int) < (ps.length : Int) := by omega
              rw [hme, List.take_length]
              obtain ⟨led, hled⟩ : ∃ b, ps.any (Ev.ledAt G' (k : Int)) = b := ⟨_, rfl⟩
              rw [hled]
              have HLED := Lib.hid hled
              clear hled hme
              cases led
              · have hfree : ∀ q, (q, (k : Int)) ∈ ps → Ev.goneAt G' q = true := fun q hq => by
                  have := HLED.out
                  rw [List.any_eq_false] at this
                  have := this _ hq
                  unfold Ev.ledAt at this
                  simpa using this
                have HFREE := Lib.hid hfree
                have hcell := HB2.out.cell (i := k) (by rw [HG.out.1]; exact hkn)
                have hfz := HB2.out.frozen k
                clear hfree
                go_wp2
                go_roundw
                case rel =>
                  refine ⟨k + 1, by omega, by go_num, G'.set k true, HG.out.take HR.out hkn HFREE.out, fun i hi => ?_, fun j hj hq => ?_, HB2.out.set_ k, Ev.below_set HBR2.out (Nat.le_refl _) _⟩
                  · have h1 := HSUB.out i hi
                    by_cases hik : i = k
                    · subst hik; simp [List.getD, show i < G'.length by rw [HG.out.1]; exact hkn]
                    · simp only [List.getD, List.getElem?_set_ne (Ne.symm hik)]; simpa [List.getD] using h1
                  · by_cases hjk : j = k
                    · subst hjk; simp [List.getD, show j < G'.length by rw [HG.out.1]; exact hkn]
                    · have h1 := HDONE.out j (by omega) hq
                      simp only [List.getD, List.getElem?_set_ne (Ne.symm hjk)]; simpa [List.getD] using h1
                case measure => simp [intOf]; omega
              · have hno : ¬ ∀ q, (q, (k : Int)) ∈ ps → Ev.goneAt G q = true := fun h => by
                  obtain ⟨p, hp, hl⟩ := List.any_eq_true.1 HLED.out
                  unfold Ev.ledAt at hl
                  simp only [Bool.and_eq_true, beq_iff_eq] at hl
                  have h1 := h p.1 (by rw [← hl.1]; exact hp)
                  have h2 : Ev.goneAt G' p.1 = true := HSUB.out _ h1
                  rw [h2] at hl; cases hl.2
                have HNO := Lib.hid hno
                clear hno
                go_wp2
                go_roundw
                case rel =>
                  refine ⟨k + 1, by omega, by go_num, G', HG.out, HSUB.out, fun j hj hq => ?_, HB2.out, HBR2.out⟩
                  by_cases hjk : j = k
                  · subst hjk; exact absurd hq HNO.out
                  · exact HDONE.out j (by omega) hq
                case measure => simp [intOf]; omega
        · have hke : k = n := by omega
          have hki : ¬ (k : Int) < (n : Int) := by omega
          have HRN := Lib.hid (Ev.round_next HR.out HRE.out HG.out HSUB.out (fun j hj hq => HDONE.out j (by omega) hq))
          clear hke
          go_wp2
          go_roundw
          case rel => exact ⟨r + 1, by omega, by go_num, G', HRN.out, HB2.out, HBR2.out⟩
          case measure => simp [intOf]; omega
    · have hre : r = n := by omega
      have hri : ¬ (r : Int) < (n : Int) := by omega
      have hres := HRE.out
      rw [hre] at hres
      have HRES := Lib.hid hres
      clear hre hres
      go_wp2
      go_loop [10] (fun i => ∃ k : Nat, k ≤ n ∧ i = .int .i64 (k : Int) ∧ ∀ j, j < k → G.getD j false = true) (fun i => n - (intOf i).toNat)
      case atStart => exact ⟨0, Nat.zero_le _, rfl, fun j hj => absurd hj (by omega)⟩
      case round =>
        obtain ⟨k, hk, rfl, hall⟩ := hrel
        have HALL := Lib.hid hall; clear hall
        by_cases hkn : k < n
        · have hki : (k : Int) < (n : Int) := by omega
          have hcell := HBLK.out.cell (i := k) (by rw [HRES.out.1.1]; exact hkn)
          obtain ⟨gv, hgv⟩ : ∃ b, G.getD k false = b := ⟨_, rfl⟩
          rw [hgv] at hcell
          have HGV := Lib.hid hgv; clear hgv
          cases gv
          · go_wp2
            go_ret
            refine Ev.CPost.mk true rfl ?_ HBR.out
            refine ⟨fun h => (by cases h), fun hA => ?_⟩
            exfalso
            rcases HRES.out.2 hA with h | h
            · have := h k hkn; rw [HGV.out] at this; cases this
            · have := Ev.all_of_cnt (by rw [HRES.out.1.1]; exact h) k (by rw [HRES.out.1.1]; exact hkn)
              rw [HGV.out] at this; cases this
          · go_wp2
            go_round
            case rel =>
              refine ⟨k + 1, by omega, by go_num, fun j hj => ?_⟩
              by_cases hjk : j = k
              · subst hjk; exact HGV.out
              · exact HALL.out j (by omega)
            case measure => simp [intOf]; omega
        · have hki : ¬ (k : Int) < (n : Int) := by omega
          have hke : k = n := by omega
          have HKE := Lib.hid hke; clear hke
          go_wp2
          go_ret
          refine Ev.CPost.mk false rfl ?_ HBR.out
          refine ⟨fun _ => ?_, fun _ => rfl⟩
          obtain ⟨hl, L, ht, hL⟩ := HRES.out.1
          exact ⟨L, ht, fun x h0 hn => (hL x h0 hn).1 (HALL.out x.toNat (by rw [HKE.out]; omega))⟩
end Go.Proofs.YtecnnkidalkmfaaGreat
end
