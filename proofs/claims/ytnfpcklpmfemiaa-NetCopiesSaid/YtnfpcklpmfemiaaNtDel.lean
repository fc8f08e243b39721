/-
  The contract of Deliver.
-/
import Derived.Test.YtnfpcklpmfemiaaNtReady
namespace Go.Proofs.Ytnfpcklpmfemiaa
open Go.RowKit
set_option linter.unusedVariables false
set_option linter.unusedSimpArgs false
namespace Nt
/-- which message a choice says -/
def dix (l : List E) (pick : Int) : Nat := (pick % (l.length : Int)).toNat
def delL (l : List E) (pick : Int) : List E := l.eraseIdx (dix l pick)
def delO (l : List E) (pick : Int) : Option E := l[dix l pick]?
def optV : Option E → Value
  | some e => .tuple #[EV e, .bool true]
  | none => .tuple #[EV E0, .bool false]
theorem delO_nil (pick : Int) : delO [] pick = none := rfl
theorem delL_nil (pick : Int) : delL [] pick = [] := rfl
theorem dix_lt {l : List E} (h : l ≠ []) (pick : Int) : dix l pick < l.length ∧ pick % (l.length : Int) = (dix l pick : Int) := by
  have hp : 0 < l.length := List.length_pos_iff.2 h
  unfold dix
  have h1 := Int.emod_nonneg pick (by omega : (l.length : Int) ≠ 0)
  have h2 := Int.emod_lt_of_pos pick (by omega : 0 < (l.length : Int))
  omega
theorem delL_at {l : List E} {pick : Int} {k : Nat} (h : dix l pick = k) : delL l pick = l.take k ++ l.drop (k + 1) := by
  unfold delL
  rw [h, List.eraseIdx_eq_take_drop_succ]
theorem Turns.late {w w1 w2 w3 : World} {F : Nat → Prop} {p most : Nat} {l : List E} (hb : Below w.heap.size w w1) (ht : Turns F w1 w2 p most l) {rb : Nat} {t : TypeId} {cs : Array Value} (hs : Ev.Set1 w2 w3 rb t cs)
    (h1 : w.heap.size ≤ rb) (h2 : rb < w1.heap.size) (h3 : ∀ k, F k → k < w.heap.size) : Turns F w w3 p most l := by
  obtain ⟨F', hc, hf, hk⟩ := ht
  have hn : ¬ F' rb := fun h => by
    rcases hk rb h with h | h
    · have := h3 rb h; omega
    · omega
  refine ⟨F', hc.kept (by rw [hs.size]; exact Nat.le_refl _) (fun k hk => hs.block k (fun e => hn (e ▸ hk))), ⟨?_, ?_, ?_, ?_, fun k hkl hkf => ?_⟩, fun k h => (hk k h).imp id (fun h => Nat.le_trans hb.size h)⟩
  · exact hs.below.os.trans (hf.os.trans hb.os)
  · exact hs.below.tape.trans (hf.tape.trans hb.tape)
  · exact hs.below.output.trans (hf.output.trans hb.output)
  · have := hs.size; have := hf.size; have := hb.size; omega
  · rw [hs.block k (by omega), hf.block k (Nat.lt_of_lt_of_le hkl hb.size) hkf, hb.block k hkl]
theorem res2 {P : Program} {fn : Func} {p u : Tmp} {ty : TypeId} (h : fn.results = #[.cell p ty, .tmp u]) (tmps : Array Value) (w : World) (g : Nat) (t : TypeId) (cs : Array Value) (fr : Nat × Nat) (d : TypeDesc)
    (hp : tmps.getD p undef = .pointer (some ⟨g, 0, none⟩)) (hg : w.heap[g]? = some (.cells cs t fr))
    (hu : P.underlying ty = some d) (hd : (match d with | .struct _ | .array _ _ => true | _ => false) = true) (hi : (P.info? ty).map (·.size) = some cs.size) :
    (results fn tmps).run P w = .ok (.tuple #[.agg cs, tmps.getD u undef]) w := by
  rw [results_cell_tmp h, hp]
  simp only [asAddr, Sem.run_pure, Result.andThen_ok]
  rw [run_loadVar_row w g t ty cs fr d hg hu hd hi]
  rfl
set_option maxRecDepth 100000 in
set_option maxHeartbeats 8000000 in
theorem deliver_nil (pick : Int) (w : World) : Calls Try.prog 30 #[.pointer none, .int .i64 pick] w fun e w' => e = .returned (optV none) ∧ Below w.heap.size w w' := by
  obtain ⟨B, hB⟩ : ∃ B, B = w.alloc (.cells #[.int .i64 0, .int .i64 0, .int .i64 0, .int .u32 0, .int .u8 0, .int .u8 0, .int .u8 0, .int .u8 0, .int .u8 0, .int .u8 0, .int .u8 0, .int .u8 0, .int .u8 0, .int .u8 0, .int .u8 0, .int .u8 0, .int .u8 0, .int .u8 0, .int .u8 0, .int .u8 0] 57) := ⟨_, rfl⟩
  obtain ⟨rb, hrb⟩ : ∃ rb, rb = w.heap.size := ⟨_, rfl⟩
  have HB := Lib.hid hB; have HRB := Lib.hid hrb
  have B0 := Lib.hid (show Below w.heap.size w B by rw [hB]; exact (Below.refl w.heap.size w).alloc (Nat.le_refl _) _)
  have R0 := Lib.hid (show B.heap[rb]? = some (.cells #[.int .i64 0, .int .i64 0, .int .i64 0, .int .u32 0, .int .u8 0, .int .u8 0, .int .u8 0, .int .u8 0, .int .u8 0, .int .u8 0, .int .u8 0, .int .u8 0, .int .u8 0, .int .u8 0, .int .u8 0, .int .u8 0, .int .u8 0, .int .u8 0, .int .u8 0, .int .u8 0] 57 (0, 0)) by rw [hB, hrb]; exact heap_alloc_new _ _)
  clear hB hrb
  go_enter Try.func30, Try.ntmps30
  go_wp2_with (first
    | (go_at_call 32; rw [← HB.out, ← HRB.out]; (with_reducible refine (len_nil _).mono ?_); rintro e W2 ⟨rfl, hw⟩; subst hw)
    | ((with_reducible show wpList _ _ _ (Oper.mk none (Op.store 57 _ _) _ _ _ _ :: _) _ _); refine wpList_store_own rfl 57 (.tmp 4) (.tmp 11) rfl rb (cells E0).toArray rfl rfl 57 _ R0.out (by kernel_rfl) rfl (cells_all E0) ?_
       intro W3 HW3
       have S3 := Lib.hid HW3
       clear HW3))
  refine bodyPost_ret (res2 (fn := Try.f30) rfl _ _ rb 57 _ (0, 0) _ rfl S3.out.row Try.underlying57 rfl (by kernel_rfl)) rfl ⟨rfl, B0.out.trans (S3.out.below.mono (by rw [HRB.out]; exact Nat.le_refl _))⟩
set_option maxRecDepth 100000 in
set_option maxHeartbeats 8000000 in
theorem deliver_none (pick : Int) (w : World) {F p most} (h : Net w F p most []) : Calls Try.prog 30 #[.pointer (some ⟨p, 0, none⟩), .int .i64 pick] w fun e w' => e = .returned (optV none) ∧ Turns F w w' p most [] := by
  obtain ⟨B, hB⟩ : ∃ B, B = w.alloc (.cells #[.int .i64 0, .int .i64 0, .int .i64 0, .int .u32 0, .int .u8 0, .int .u8 0, .int .u8 0, .int .u8 0, .int .u8 0, .int .u8 0, .int .u8 0, .int .u8 0, .int .u8 0, .int .u8 0, .int .u8 0, .int .u8 0, .int .u8 0, .int .u8 0, .int .u8 0, .int .u8 0] 57) := ⟨_, rfl⟩
  obtain ⟨rb, hrb⟩ : ∃ rb, rb = w.heap.size := ⟨_, rfl⟩
  have HB := Lib.hid hB; have HRB := Lib.hid hrb
  have B0 := Lib.hid (show Below w.heap.size w B by rw [hB]; exact (Below.refl w.heap.size w).alloc (Nat.le_refl _) _)
  have R0 := Lib.hid (show B.heap[rb]? = some (.cells #[.int .i64 0, .int .i64 0, .int .i64 0, .int .u32 0, .int .u8 0, .int .u8 0, .int .u8 0, .int .u8 0, .int .u8 0, .int .u8 0, .int .u8 0, .int .u8 0, .int .u8 0, .int .u8 0, .int .u8 0, .int .u8 0, .int .u8 0, .int .u8 0, .int .u8 0, .int .u8 0] 57 (0, 0)) by rw [hB, hrb]; exact heap_alloc_new _ _)
  have KL := Lib.hid (len_any B (h.kp B0.out))
  have HW := Lib.hid h
  clear hB hrb h
  go_enter Try.func30, Try.ntmps30
  go_wp2_with (first
    | (go_at_call 32; rw [← HB.out, ← HRB.out]; (with_reducible refine KL.out.mono ?_); rintro e W2 ⟨rfl, hw⟩; subst hw)
    | ((with_reducible show wpList _ _ _ (Oper.mk none (Op.store 57 _ _) _ _ _ _ :: _) _ _); refine wpList_store_own rfl 57 (.tmp 4) (.tmp 11) rfl rb (cells E0).toArray rfl rfl 57 _ R0.out (by kernel_rfl) rfl (cells_all E0) ?_
       intro W3 HW3
       have S3 := Lib.hid HW3
       clear HW3))
  refine bodyPost_ret (res2 (fn := Try.f30) rfl _ _ rb 57 _ (0, 0) _ rfl S3.out.row Try.underlying57 rfl (by kernel_rfl)) rfl ⟨rfl, Turns.same HW.out (B0.out.trans (S3.out.below.mono (by rw [HRB.out]; exact Nat.le_refl _)))⟩
set_option maxRecDepth 100000 in
set_option maxHeartbeats 8000000 in
theorem deliver_some (pick : Int) (hp : Ev.i64B pick) (w : World) {F p most l} (h : Net w F p most l) (hl : l ≠ []) : Calls Try.prog 30 #[.pointer (some ⟨p, 0, none⟩), .int .i64 pick] w fun r w' => r = .returned (optV (delO l pick)) ∧ Turns F w w' p most (delL l pick) := by
  obtain ⟨B, hB⟩ : ∃ B, B = w.alloc (.cells #[.int .i64 0, .int .i64 0, .int .i64 0, .int .u32 0, .int .u8 0, .int .u8 0, .int .u8 0, .int .u8 0, .int .u8 0, .int .u8 0, .int .u8 0, .int .u8 0, .int .u8 0, .int .u8 0, .int .u8 0, .int .u8 0, .int .u8 0, .int .u8 0, .int .u8 0, .int .u8 0] 57) := ⟨_, rfl⟩
  obtain ⟨rb, hrb⟩ : ∃ rb, rb = w.heap.size := ⟨_, rfl⟩
  have HB := Lib.hid hB; have HRB := Lib.hid hrb
  have B0 := Lib.hid (show Below w.heap.size w B by rw [hB]; exact (Below.refl w.heap.size w).alloc (Nat.le_refl _) _)
  have R0 := Lib.hid (show B.heap[rb]? = some (.cells #[.int .i64 0, .int .i64 0, .int .i64 0, .int .u32 0, .int .u8 0, .int .u8 0, .int .u8 0, .int .u8 0, .int .u8 0, .int .u8 0, .int .u8 0, .int .u8 0, .int .u8 0, .int .u8 0, .int .u8 0, .int .u8 0, .int .u8 0, .int .u8 0, .int .u8 0, .int .u8 0] 57 (0, 0)) by rw [hB, hrb]; exact heap_alloc_new _ _)
  have KL := Lib.hid (len_any B (h.kp B0.out))
  have HFL := Lib.hid h.lt
  obtain ⟨a, c, hn⟩ := h
  have hpos : 0 < l.length := List.length_pos_iff.2 hl
  have hmx := hn.max; have hln := hn.len
  have N0 := Lib.hid (hn.kp B0.out)
  have KC := Lib.hid (chosen_any pick (l.length : Int) hp (by omega) (by omega) B)
  obtain ⟨hk1, hk2⟩ := dix_lt hl pick
  obtain ⟨k, hk⟩ : ∃ k, dix l pick = k := ⟨_, rfl⟩
  rw [hk] at hk1 hk2
  have KC' := KC.out
  rw [hk2] at KC'
  have KC2 := Lib.hid KC'
  clear KC KC'
  obtain ⟨e, he⟩ : ∃ e, l[k]? = some e := ⟨_, List.getElem?_eq_getElem hk1⟩
  have HOK := Lib.hid (N0.out.ls.ok_ he)
  have HDO := Lib.hid (show delO l pick = some e from by unfold delO; rw [hk, he])
  have HDL := Lib.hid (delL_at hk)
  have HW := Lib.hid hn
  obtain ⟨g, o, ea, hc⟩ := N0.out.ls.at_ he
  subst ea
  have HC := Lib.hid hc
  have hne : ¬ ((l.length : Int) = 0) := by omega
  have c1 := N0.out.c1
  have hki : (k : Int) < (l.length : Int) := by omega
  clear hB hrb hn hc he hk hk2 hl
  go_enter Try.func30, Try.ntmps30
  go_wp2_with (first
    | (go_at_call 32; rw [← HB.out, ← HRB.out]; (with_reducible refine KL.out.mono ?_); rintro e W2 ⟨rfl, hw⟩; subst hw)
    | (go_at_call 62; (with_reducible refine KC2.out.mono ?_); rintro e W2 ⟨rfl, hw⟩; subst hw)
    | ((with_reducible show wpList _ _ _ (Oper.mk (some 25) _ _ _ _ _ :: _) _ _); refine wpList_load_at rfl 57 (.tmp 24) rfl g (o + k * 20) rfl (cells e) _ HC.out Try.underlying57 rfl (by rw [HOK.out.len]; exact size_msg) ?_)
    | ((with_reducible show wpList _ _ _ (Oper.mk none (Op.store 57 _ _) _ _ _ _ :: _) _ _); refine wpList_store_own rfl 57 (.tmp 7) (.tmp 25) rfl B.heap.size (cells e).toArray rfl rfl 57 #[.int .i64 0, .int .i64 0, .int .i64 0, .int .u32 0, .int .u8 0, .int .u8 0, .int .u8 0, .int .u8 0, .int .u8 0, .int .u8 0, .int .u8 0, .int .u8 0, .int .u8 0, .int .u8 0, .int .u8 0, .int .u8 0, .int .u8 0, .int .u8 0, .int .u8 0, .int .u8 0] (heap_alloc_new B _) (by rw [HOK.out.size]; exact size_msg) (by rw [HOK.out.size]; rfl) (cells_all e) ?_
       intro V HV
       have BV := Lib.hid (show Below B.heap.size B V from ((Below.refl B.heap.size B).alloc (Nat.le_refl _) _).trans HV.below)
       have RE := Lib.hid HV.row
       clear HV
       refine Stop.out ?_))
  refine ⟨?_⟩
  obtain ⟨eb, heb⟩ : ∃ eb, eb = B.heap.size := ⟨_, rfl⟩
  have HEB := Lib.hid heb
  rw [← heb] at RE ⊢
  have NV := Lib.hid (N0.out.kp BV.out)
  have RV := Lib.hid ((BV.out.block _ (Array.getElem?_eq_some_iff.1 R0.out).1).trans R0.out)
  clear c1 heb
  go_wp2_with fail
  obtain ⟨wq, hwq⟩ : ∃ wq, wq = { V with drawn := V.drawn + 1 } := ⟨_, rfl⟩
  have BQ := Lib.hid (show Below V.heap.size V wq by rw [hwq]; exact ⟨rfl, rfl, rfl, Nat.le_refl _, fun _ _ => rfl⟩)
  have HWQ := Lib.hid hwq
  clear hwq
  have NQ := Lib.hid (NV.out.kp BQ.out)
  have HFA := Lib.hid (show (fun x : World => x.cell? ⟨p, 1, none⟩ = some (.slice (some ⟨g, o, none⟩) l.length c)) wq from NQ.out.c1)
  refine Og.region_S (S := Og.SF 8 (fun x : World => x.cell? ⟨p, 1, none⟩ = some (.slice (some ⟨g, o, none⟩) l.length c))) (by kernel_rfl) ?_
  rw [← HWQ.out]
  refine Og.s_take 0 { dst := some 26, op := Go.Op.move (Go.Operand.tmp 0), type := 62, pos := "net.go:70", after := #[], guard := none } (.pointer (some ⟨p, 0, none⟩)) _ (by kernel_rfl) (by kernel_rfl) (by kernel_rfl) (by kernel_rfl) (by kernel_rfl) (fun _ _ _ h => h) (fun _ => HFA.out) (fun x' hx => ?_) (by simp only [Act.put, List.setIfInBounds_toArray, List.set_cons_zero, List.set_cons_succ]; rfl) ?_
  · go_simp; try (with_reducible rfl)
  refine Og.s_take 1 { dst := some 27, op := Go.Op.move (Go.Operand.tmp 0), type := 62, pos := "net.go:70", after := #[], guard := none } (.pointer (some ⟨p, 0, none⟩)) _ (by kernel_rfl) (by kernel_rfl) (by kernel_rfl) (by kernel_rfl) (by kernel_rfl) (fun _ _ _ h => h) (fun _ => HFA.out) (fun x' hx => ?_) (by simp only [Act.put, List.setIfInBounds_toArray, List.set_cons_zero, List.set_cons_succ]; rfl) ?_
  · go_simp; try (with_reducible rfl)
  refine Og.s_take 2 { dst := some 28, op := Go.Op.move (Go.Operand.tmp 6), type := 3, pos := "net.go:70", after := #[], guard := none } (.int .i64 (k : Int)) _ (by kernel_rfl) (by kernel_rfl) (by kernel_rfl) (by kernel_rfl) (by kernel_rfl) (fun _ _ _ h => h) (fun _ => HFA.out) (fun x' hx => ?_) (by simp only [Act.put, List.setIfInBounds_toArray, List.set_cons_zero, List.set_cons_succ]; rfl) ?_
  · go_simp; try (with_reducible rfl)
  refine Og.s_take 4 { dst := some 30, op := Go.Op.move (Go.Operand.tmp 0), type := 62, pos := "net.go:70", after := #[], guard := none } (.pointer (some ⟨p, 0, none⟩)) _ (by kernel_rfl) (by kernel_rfl) (by kernel_rfl) (by kernel_rfl) (by kernel_rfl) (fun _ _ _ h => h) (fun _ => HFA.out) (fun x' hx => ?_) (by simp only [Act.put, List.setIfInBounds_toArray, List.set_cons_zero, List.set_cons_succ]; rfl) ?_
  · go_simp; try (with_reducible rfl)
  refine Og.s_take 5 { dst := some 31, op := Go.Op.nilCheck (Go.Operand.tmp 30), type := 0, pos := "net.go:70", after := #[{ on := 4, ground := Go.Ground.data }], guard := none } (.pointer (some ⟨p, 0, none⟩)) _ (by kernel_rfl) (by kernel_rfl) (by kernel_rfl) (by kernel_rfl) (by kernel_rfl) (fun _ _ _ h => h) (fun _ => HFA.out) (fun x' hx => ?_) (by simp only [Act.put, List.setIfInBounds_toArray, List.set_cons_zero, List.set_cons_succ]; rfl) ?_
  · go_simp; try (with_reducible rfl)
  refine Og.s_take 6 { dst := some 32, op := Go.Op.fieldAddr 110 (Go.Operand.tmp 31) 1, type := 0, pos := "net.go:70", after := #[{ on := 5, ground := Go.Ground.data }], guard := none } (.pointer (some ⟨p, 1, none⟩)) _ (by kernel_rfl) (by kernel_rfl) (by kernel_rfl) (by kernel_rfl) (by kernel_rfl) (fun _ _ _ h => h) (fun _ => HFA.out) (fun x' hx => ?_) (by simp only [Act.put, List.setIfInBounds_toArray, List.set_cons_zero, List.set_cons_succ]; rfl) ?_
  · go_simp; try (with_reducible rfl)
  refine Og.s_take 7 { dst := some 33, op := Go.Op.load 68 (Go.Operand.tmp 32), type := 68, pos := "net.go:70", after := #[{ on := 6, ground := Go.Ground.data }], guard := none } (.slice (some ⟨g, o, none⟩) l.length c) _ (by kernel_rfl) (by kernel_rfl) (by kernel_rfl) (by kernel_rfl) (by kernel_rfl) (fun _ _ _ h => h) (fun _ => HFA.out) (fun x' hx => ?_) (by simp only [Act.put, List.setIfInBounds_toArray, List.set_cons_zero, List.set_cons_succ]; rfl) ?_
  · have hx1 := hx (by decide); go_simp; try (with_reducible rfl)
  refine Og.s_take 8 { dst := some 34, op := Go.Op.move (Go.Operand.tmp 6), type := 3, pos := "net.go:70", after := #[], guard := none } (.int .i64 (k : Int)) _ (by kernel_rfl) (by kernel_rfl) (by kernel_rfl) (by kernel_rfl) (by kernel_rfl) (fun _ _ _ h => h) (fun _ => HFA.out) (fun x' hx => ?_) (by simp only [Act.put, List.setIfInBounds_toArray, List.set_cons_zero, List.set_cons_succ]; rfl) ?_
  · go_simp; try (with_reducible rfl)
  refine Og.s_take 9 { dst := some 35, op := Go.Op.binOp Go.BinOp.add 3 (Go.Operand.tmp 34) (Go.Operand.const (Go.Value.int Go.IntKind.i64 1)) 3, type := 3, pos := "net.go:70", after := #[{ on := 8, ground := Go.Ground.data }], guard := none } (.int .i64 ((k : Int) + 1)) _ (by kernel_rfl) (by kernel_rfl) (by kernel_rfl) (by kernel_rfl) (by kernel_rfl) (fun _ _ _ h => h) (fun _ => HFA.out) (fun x' hx => ?_) (by simp only [Act.put, List.setIfInBounds_toArray, List.set_cons_zero, List.set_cons_succ]; rfl) ?_
  · go_simp; rw [IntKind.wrap_i64]; omega
  refine Og.s_take 10 { dst := some 36, op := Go.Op.slice 68 (Go.Operand.tmp 33) (some (Go.Operand.tmp 35)) none none, type := 68, pos := "net.go:70", after := #[{ on := 7, ground := Go.Ground.data }, { on := 9, ground := Go.Ground.data }], guard := none } (.slice (srcA (some ⟨g, o, none⟩) (k + 1) c) (l.drop (k + 1)).length (c - (k + 1))) _ (by kernel_rfl) (by kernel_rfl) (by kernel_rfl) (by kernel_rfl) (by kernel_rfl) (fun _ _ _ h => h) (fun _ => HFA.out) (fun x' hx => ?_) (by simp only [Act.put, List.setIfInBounds_toArray, List.set_cons_zero, List.set_cons_succ]; rfl) ?_
  · exact from_to (.tmp 33) (.tmp 35) rfl (k := k + 1) hk1 rfl rfl
  refine Og.s_one 3 { dst := some 29, op := Go.Op.call { callee := Go.Callee.value (Go.Operand.func 63), args := #[Go.Operand.tmp 27, Go.Operand.tmp 28], argTypes := #[62, 3] }, type := 68, pos := "net.go:70", after := #[{ on := 1, ground := Go.Ground.data }, { on := 2, ground := Go.Ground.data }], guard := none } (by kernel_rfl) (by kernel_rfl) (by kernel_rfl) ?_
  refine Og.call_to (w1 := wq) (f := 63) (args := #[.pointer (some ⟨p, 0, none⟩), .int .i64 (k : Int)]) (by go_simp) ?_
  refine (ahead_any wq NQ.out (k := k) (Nat.le_of_lt hk1)).mono ?_
  rintro e' W3 ⟨rfl, hw3⟩
  subst hw3
  refine ⟨_, rfl, Og.keep_sf (fun h => h), ?_⟩
  have htk : (l.take k).length = k := by rw [List.length_take]; omega
  obtain ⟨a', c', W5, hr5, ho5, hf5⟩ := append_any (NQ.out.own_ne.cut NQ.out.ok (Nat.le_of_lt hk1)) (fun x hx => NQ.out.ok x (List.mem_of_mem_take hx)) (NQ.out.ls.drop (k := k + 1) hk1) (by rw [List.length_take, List.length_drop]; omega)
  rw [htk] at hr5
  have HR5 := Lib.hid hr5
  have C5 := Lib.hid (show W5.cell? ⟨p, 1, none⟩ = some (.slice (some ⟨g, o, none⟩) l.length c) from by rw [cell_of_row _ _ _ _ _ _ ((hf5.block p (NQ.out.lt p NQ.out.fp) (fun h => h.2 rfl)).trans NQ.out.box)]; rfl)
  have hsq : V.heap.size ≤ wq.heap.size := BQ.out.size
  have hbs : w.heap.size ≤ B.heap.size := B0.out.size
  have hbv : B.heap.size ≤ V.heap.size := BV.out.size
  have hebl : eb < V.heap.size := (Array.getElem?_eq_some_iff.1 RE.out).1
  have hrbl : rb < V.heap.size := (Array.getElem?_eq_some_iff.1 RV.out).1
  have hrw : rb = w.heap.size := HRB.out
  have heB : eb = B.heap.size := HEB.out
  have hnf : ∀ j, w.heap.size ≤ j → ¬ (F j ∧ j ≠ p) := fun j hj h => by have := HFL.out j h.1; omega
  have hpn : p < w.heap.size := HFL.out p NQ.out.fp
  obtain ⟨hbx, htn⟩ := NQ.out.put (Below.refl _ _) ho5 hf5 (fun x hx => by
    rcases List.mem_append.1 hx with hx | hx
    · exact NQ.out.ok x (List.mem_of_mem_take hx)
    · exact NQ.out.ok x (List.mem_of_mem_drop hx)) (by rw [List.length_append, List.length_take, List.length_drop]; omega)
  obtain ⟨W6, hW6⟩ : ∃ W6, W6 = W5.setCell ⟨p, 1, none⟩ (.slice a' (l.take k ++ l.drop (k + 1)).length c') := ⟨_, rfl⟩
  have hk6 : ∀ j, j ≠ p → W6.heap[j]? = W5.heap[j]? := fun j hj => by rw [hW6]; exact Below.heap_setCell _ _ _ j hj
  have E6 := Lib.hid (show W6.heap[eb]? = some (.cells (cells e).toArray 57 (0, 0)) from ((hk6 eb (by omega)).trans ((hf5.block eb (by omega) (hnf eb (by omega))).trans ((BQ.out.block eb hebl).trans RE.out))))
  have Z6 := Lib.hid (show W6.heap[rb]? = some (.cells #[.int .i64 0, .int .i64 0, .int .i64 0, .int .u32 0, .int .u8 0, .int .u8 0, .int .u8 0, .int .u8 0, .int .u8 0, .int .u8 0, .int .u8 0, .int .u8 0, .int .u8 0, .int .u8 0, .int .u8 0, .int .u8 0, .int .u8 0, .int .u8 0, .int .u8 0, .int .u8 0] 57 (0, 0)) from ((hk6 rb (by omega)).trans ((hf5.block rb (by omega) (hnf rb (by omega))).trans ((BQ.out.block rb hrbl).trans RV.out))))
  rw [← hW6] at htn
  have BX := Lib.hid hbx; have TN := Lib.hid htn; have HW6 := Lib.hid hW6
  clear ho5 hf5 hbx htn hr5 hW6 hk6
  refine Og.s_one 11 { dst := some 37, op := Go.Op.call { callee := Go.Callee.builtin Go.Builtin.append, args := #[Go.Operand.tmp 29, Go.Operand.tmp 36], argTypes := #[68, 68] }, type := 68, pos := "net.go:70", after := #[{ on := 3, ground := Go.Ground.data }, { on := 10, ground := Go.Ground.data }, { on := 3, ground := Go.Ground.chain }], guard := none } (by kernel_rfl) (by kernel_rfl) (by kernel_rfl) ?_
  refine Og.run_to (v := .slice a' (l.take k ++ l.drop (k + 1)).length c') (w' := W5) (Og.append_to (.tmp 29) (.tmp 36) 68 rfl rfl rfl HR5.out) ⟨Og.keep_sf (fun h => C5.out), ?_⟩
  refine Og.s_take 12 { dst := some 38, op := Go.Op.nilCheck (Go.Operand.tmp 26), type := 0, pos := "net.go:70", after := #[{ on := 0, ground := Go.Ground.data }, { on := 0, ground := Go.Ground.phase }, { on := 1, ground := Go.Ground.phase }, { on := 2, ground := Go.Ground.phase }, { on := 3, ground := Go.Ground.phase }, { on := 4, ground := Go.Ground.phase }, { on := 5, ground := Go.Ground.phase }, { on := 6, ground := Go.Ground.phase }, { on := 7, ground := Go.Ground.phase }, { on := 8, ground := Go.Ground.phase }, { on := 9, ground := Go.Ground.phase }, { on := 10, ground := Go.Ground.phase }, { on := 11, ground := Go.Ground.phase }], guard := none } (.pointer (some ⟨p, 0, none⟩)) _ (by kernel_rfl) (by kernel_rfl) (by kernel_rfl) (by kernel_rfl) (by kernel_rfl) (fun _ _ _ h => h) (fun h => absurd h (by decide)) (fun x' hx => ?_) (by simp only [Act.put, List.setIfInBounds_toArray, List.set_cons_zero, List.set_cons_succ]; rfl) ?_
  · go_simp; try (with_reducible rfl)
  refine Og.s_take 13 { dst := some 39, op := Go.Op.fieldAddr 110 (Go.Operand.tmp 38) 1, type := 0, pos := "net.go:70", after := #[{ on := 12, ground := Go.Ground.data }, { on := 0, ground := Go.Ground.phase }, { on := 1, ground := Go.Ground.phase }, { on := 2, ground := Go.Ground.phase }, { on := 3, ground := Go.Ground.phase }, { on := 4, ground := Go.Ground.phase }, { on := 5, ground := Go.Ground.phase }, { on := 6, ground := Go.Ground.phase }, { on := 7, ground := Go.Ground.phase }, { on := 8, ground := Go.Ground.phase }, { on := 9, ground := Go.Ground.phase }, { on := 10, ground := Go.Ground.phase }, { on := 11, ground := Go.Ground.phase }], guard := none } (.pointer (some ⟨p, 1, none⟩)) _ (by kernel_rfl) (by kernel_rfl) (by kernel_rfl) (by kernel_rfl) (by kernel_rfl) (fun _ _ _ h => h) (fun h => absurd h (by decide)) (fun x' hx => ?_) (by simp only [Act.put, List.setIfInBounds_toArray, List.set_cons_zero, List.set_cons_succ]; rfl) ?_
  · go_simp; try (with_reducible rfl)
  refine Og.s_one 14 { dst := none, op := Go.Op.store 68 (Go.Operand.tmp 39) (Go.Operand.tmp 37), type := 0, pos := "net.go:70", after := #[{ on := 13, ground := Go.Ground.data }, { on := 11, ground := Go.Ground.data }, { on := 11, ground := Go.Ground.chain }, { on := 0, ground := Go.Ground.phase }, { on := 1, ground := Go.Ground.phase }, { on := 2, ground := Go.Ground.phase }, { on := 3, ground := Go.Ground.phase }, { on := 4, ground := Go.Ground.phase }, { on := 5, ground := Go.Ground.phase }, { on := 6, ground := Go.Ground.phase }, { on := 7, ground := Go.Ground.phase }, { on := 8, ground := Go.Ground.phase }, { on := 9, ground := Go.Ground.phase }, { on := 10, ground := Go.Ground.phase }, { on := 11, ground := Go.Ground.phase }], guard := none } (by kernel_rfl) (by kernel_rfl) (by kernel_rfl) ?_
  refine Og.skip_to (w' := W6) (by rw [HW6.out]; exact Og.store_to 68 (.tmp 39) (.tmp 37) rfl rfl rfl (by kernel_rfl) C5.out (free_row BX.out)) ⟨Og.keep_last (o := { dst := none, op := Go.Op.store 68 (Go.Operand.tmp 39) (Go.Operand.tmp 37), type := 0, pos := "net.go:70", after := #[{ on := 13, ground := Go.Ground.data }, { on := 11, ground := Go.Ground.data }, { on := 11, ground := Go.Ground.chain }, { on := 0, ground := Go.Ground.phase }, { on := 1, ground := Go.Ground.phase }, { on := 2, ground := Go.Ground.phase }, { on := 3, ground := Go.Ground.phase }, { on := 4, ground := Go.Ground.phase }, { on := 5, ground := Go.Ground.phase }, { on := 6, ground := Go.Ground.phase }, { on := 7, ground := Go.Ground.phase }, { on := 8, ground := Go.Ground.phase }, { on := 9, ground := Go.Ground.phase }, { on := 10, ground := Go.Ground.phase }, { on := 11, ground := Go.Ground.phase }], guard := none }) (by kernel_rfl) (by kernel_rfl), ?_⟩
  refine Og.s_done (by kernel_rfl) ?_ _
  try simp only [Act.put, List.setIfInBounds_toArray, List.set_cons_zero, List.set_cons_succ]
  clear hrw heB
  go_wp2_with (first
    | ((with_reducible show wpList _ _ _ (Oper.mk (some 40) _ _ _ _ _ :: _) _ _); refine wpList_load_row rfl 57 (.tmp 7) rfl eb rfl 57 _ (0, 0) _ E6.out Try.underlying57 rfl (by rw [HOK.out.size]; exact size_msg) ?_)
    | ((with_reducible show wpList _ _ _ (Oper.mk none (Op.store 57 _ _) _ _ _ _ :: _) _ _); refine wpList_store_own rfl 57 (.tmp 4) (.tmp 40) rfl rb (cells e).toArray rfl rfl 57 _ Z6.out (by rw [HOK.out.size]; exact size_msg) (by rw [HOK.out.size]; rfl) (cells_all e) ?_
       intro W7 HW7
       have S7 := Lib.hid HW7
       clear HW7))
  refine bodyPost_ret (res2 (fn := Try.f30) rfl _ _ rb 57 _ (0, 0) _ rfl S7.out.row Try.underlying57 rfl (by rw [HOK.out.size]; exact size_msg)) rfl ⟨by rw [HDO.out]; rfl, ?_⟩
  rw [HDL.out]
  exact Turns.late (B0.out.trans ((BV.out.mono hbs).trans (BQ.out.mono (by omega)))) TN.out S7.out (by have := HRB.out; omega) (by omega) HFL.out
theorem deliver_any (pick : Int) (hp : Ev.i64B pick) (w : World) {F p most l} (h : Net w F p most l) : Calls Try.prog 30 #[.pointer (some ⟨p, 0, none⟩), .int .i64 pick] w fun r w' => r = .returned (optV (delO l pick)) ∧ Turns F w w' p most (delL l pick) := by
  by_cases hl : l = []
  · subst hl
    rw [delO_nil, delL_nil]
    exact deliver_none pick w h
  · exact deliver_some pick hp w h hl
end Nt
end Go.Proofs.Ytnfpcklpmfemiaa
