/-
  Stretches of plain operations, run by the kernel: what a frame becomes, which tests were asked.
-/
import Derived.Test.YtianojbdabeoeaaDoorIsForm
import Derived.Test.YtianojbdabeoeaaDoorIsPure
import Derived.BigGuardPart
import Derived.Laws.Rows
namespace Go.Proofs.YtianojbdabeoeaaDoor
open Go.RowKit
set_option linter.unusedVariables false
set_option linter.unusedSimpArgs false
namespace Ex
def cmpB (op : BinOp) (n m : Int) : Bool := match op with
  | .eql => n == m | .neq => !(n == m) | .lss => decide (n < m) | .leq => decide (n ≤ m) | .gtr => decide (n > m) | .geq => decide (n ≥ m) | _ => false
/-- an operator on numbers of one kind, of a type that has it -/
def okT (op : BinOp) (t : TypeId) (k k' : IntKind) : Bool := match op, t, k, k' with
  | .lss, _, .i64, .i64 => true
  | .gtr, _, .i64, .i64 => true
  | .neq, 3, .i64, .i64 => true
  | .eql, 5, .u8, .u8 => true
  | .neq, 5, .u8, .u8 => true
  | _, _, _, _ => false
def fits (t : TypeId) (v : Value) : Bool := match t, v with
  | 3, .int .i64 _ => true
  | 4, .bool _ => true
  | _, _ => false
structure St where
  a : Act
  ps : List Nat
  ts : List (BinOp × Int × Int × Bool)
abbrev Got := Value × List Nat × List (BinOp × Int × Int × Bool)
def val (row : Array Value) (tests : List (Nat × Bool)) (a : Act) (o : Oper) : Option Got :=
  match o.op with
  | .move x => some (a.eval x, [], [])
  | .assign x => some (a.eval x, [], [])
  | .pick c x y => match a.eval c with
    | .bool true => some (a.eval x, [], [])
    | .bool false => some (a.eval y, [], [])
    | _ => none
  | .unOp .not _ x => match a.eval x with
    | .bool b => some (.bool (!b), [], [])
    | _ => none
  | .fieldAddr 30 x j => match a.eval x with
    | .pointer (some ⟨b, 0, none⟩) => match Nat.blt j 7 with
      | true => some (.pointer (some ⟨b, j, none⟩), [], [])
      | false => none
    | _ => none
  | .load t x => match a.eval x with
    | .pointer (some ⟨b, j, none⟩) => match row[j]? with
      | some v => match fits t v with
        | true => some (v, [b], [])
        | false => none
      | none => none
    | _ => none
  | .binOp op t x y _ => match a.eval x, a.eval y with
    | .int k n, .int k' m => match okT op t k k' with
      | true => match o.dst.bind (fun d => tests.lookup d) with
        | some b => some (.bool b, [], [(op, n, m, b)])
        | none => some (.bool (cmpB op n m), [], [])
      | false => none
    | _, _ => none
  | _ => none
def run (row : Array Value) (tests : List (Nat × Bool)) (ops : Array Oper) : List Oper → St → Option St
  | [], s => some s
  | o :: l, s => match Region.wanted o (yielded ops s.a.tmps) with
    | false => run row tests ops l ⟨s.a.put o.dst undef, s.ps, s.ts⟩
    | true => match val row tests s.a o with
      | some (v, p, t) => run row tests ops l ⟨s.a.put o.dst v, p ++ s.ps, t ++ s.ts⟩
      | none => none
theorem cmp_run (op : BinOp) (t : TypeId) (x y : Operand) (k k' : IntKind) (n m : Int) (w : World) (h : okT op t k k' = true) :
    (do eqGuard op t x y (.int k n) (.int k' m); binOp op t (.int k n) (.int k' m) : Sem Value).run Tryd.prog w = .ok (.bool (cmpB op n m)) w := by
  unfold okT at h
  split at h
  · simp [go_sem, cmpB]
  · simp [go_sem, cmpB]
  · simp [go_sem, cmpB, bne]
  · simp [go_sem, cmpB]
  · simp [go_sem, cmpB, bne]
  · cases h
theorem val_ok {row : Array Value} {g : Nat} {t0 : TypeId} {fr : Nat × Nat} {w : World} (hg : w.heap[g]? = some (.cells row t0 fr)) {tests : List (Nat × Bool)} {a : Act} {o : Oper}
    {v : Value} {p : List Nat} {ts : List (BinOp × Int × Int × Bool)} (h : val row tests a o = some (v, p, ts)) (hp : ∀ b ∈ p, b = g) (ht : ∀ t ∈ ts, cmpB t.1 t.2.1 t.2.2.1 = t.2.2.2) :
    (execOp a.eval o).run Tryd.prog w = .ok (.value v) w := by
  unfold val at h
  unfold execOp
  split at h <;> rename_i ho <;> simp only [ho]
  · cases h; rfl
  · cases h; rfl
  · split at h <;> rename_i hc
    · cases h; simp [hc, asBool]
    · cases h; simp [hc, asBool]
    · cases h
  · split at h <;> rename_i hc
    · cases h; simp [hc, Op.unary]
    · cases h
  · rename_i x j
    split at h <;> rename_i hc
    · rename_i b
      split at h <;> rename_i hj
      · cases h
        have hj' : j < 7 := by simpa using hj
        rw [hc]
        rcases (show j = 0 ∨ j = 1 ∨ j = 2 ∨ j = 3 ∨ j = 4 ∨ j = 5 ∨ j = 6 by omega) with rfl | rfl | rfl | rfl | rfl | rfl | rfl <;> simp [go_sem]
      · cases h
    · cases h
  · split at h <;> rename_i hc
    · split at h <;> rename_i hv
      · split at h <;> rename_i hf
        · cases h
          have hb := hp _ (List.mem_singleton_self _)
          subst hb
          rename_i b j x1 x2
          have e := cell_of_row w b j row t0 fr hg
          rw [hv] at e
          rw [hc]
          unfold fits at hf
          split at hf
          · simp [go_sem, e]
          · simp [go_sem, e]
          · cases hf
        · cases h
      · cases h
    · cases h
  · split at h <;> rename_i hx hy
    · split at h <;> rename_i hk
      · rw [hx, hy]
        split at h <;> rename_i hd
        · cases h
          have e := ht _ (List.mem_singleton_self _)
          simp only at e
          rw [← e]
          simp only [Sem.run_bind, cmp_run _ _ _ _ _ _ _ _ w hk]
          simp [go_sem, cmp_run _ _ _ _ _ _ _ _ w hk]
        · cases h
          simp only [Sem.run_bind, cmp_run _ _ _ _ _ _ _ _ w hk]
          simp [go_sem, cmp_run _ _ _ _ _ _ _ _ w hk]
      · cases h
    · cases h
  · cases h
theorem run_mono {row : Array Value} {tests : List (Nat × Bool)} {ops : Array Oper} : ∀ (l : List Oper) (s s' : St), run row tests ops l s = some s' → (∀ b ∈ s.ps, b ∈ s'.ps) ∧ (∀ t ∈ s.ts, t ∈ s'.ts)
  | [], s, s', h => by cases h; exact ⟨fun _ h => h, fun _ h => h⟩
  | o :: l, s, s', h => by
    unfold run at h
    split at h
    · have m := run_mono l _ s' h
      exact m
    · split at h
      · rename_i v p t hv
        have ⟨m1, m2⟩ := run_mono l _ s' h
        exact ⟨fun b hb => m1 b (List.mem_append_right _ hb), fun b hb => m2 b (List.mem_append_right _ hb)⟩
      · cases h
theorem run_ok {row : Array Value} {g : Nat} {t0 : TypeId} {fr : Nat × Nat} {w : World} (hg : w.heap[g]? = some (.cells row t0 fr)) {tests : List (Nat × Bool)} {ops : Array Oper} {Q : Exit → Act → World → Prop} (rest : List Oper) :
    ∀ (l : List Oper) (s s' : St), run row tests ops l s = some s' → (∀ b ∈ s'.ps, b = g) → (∀ t ∈ s'.ts, cmpB t.1 t.2.1 t.2.2.1 = t.2.2.2) → wpList Tryd.prog ops Q rest s'.a w → wpList Tryd.prog ops Q (l ++ rest) s.a w
  | [], s, s', h, hp, ht, k => by cases h; exact k
  | o :: l, s, s', h, hp, ht, k => by
    unfold run at h
    rw [List.cons_append]
    unfold wpList
    split at h <;> rename_i hw
    · rw [if_neg (by rw [hw]; exact Bool.false_ne_true)]
      exact run_ok hg rest l _ s' h hp ht k
    · rw [if_pos hw]
      split at h
      · rename_i v p t hv
        have ⟨m1, m2⟩ := run_mono l _ s' h
        refine .inl ?_
        unfold Oper.wp
        rw [val_ok hg hv (fun b hb => hp b (m1 b (List.mem_append_left _ hb))) (fun b hb => ht b (m2 b (List.mem_append_left _ hb))), Oper.upon_value]
        exact run_ok hg rest l _ s' h hp ht k
      · cases h
/-- a whole region -/
theorem region {row : Array Value} {g : Nat} {t0 : TypeId} {fr : Nat × Nat} {w : World} (hg : w.heap[g]? = some (.cells row t0 fr)) (tests : List (Nat × Bool)) {Q : Exit → Act → World → Prop} {l : List Oper} {a : Act}
    (n : Nat) (ts : List (BinOp × Int × Int × Bool)) (k : Nat) (v : Value)
    (h : (run row tests l.toArray l ⟨a, [], []⟩).map (fun s => (s.a.tmps.size, s.a.defers.length, s.ps, s.ts, s.a.tmps.getD k undef)) = some (a.tmps.size, a.defers.length, List.replicate n g, ts, v))
    (ht : ∀ t ∈ ts, cmpB t.1 t.2.1 t.2.2.1 = t.2.2.2)
    (next : ∀ a' : Act, a'.tmps.size = a.tmps.size → a'.defers.length = a.defers.length → a'.tmps.getD k undef = v → Q .normal a' w) : wpList Tryd.prog l.toArray Q l a w := by
  cases e : run row tests l.toArray l ⟨a, [], []⟩ with
  | none => rw [e] at h; cases h
  | some s =>
    rw [e] at h
    simp only [Option.map_some, Option.some.injEq, Prod.mk.injEq] at h
    obtain ⟨h1, h2, h3, h4, h5⟩ := h
    have := run_ok (Q := Q) hg [] l _ s e (fun b hb => by rw [h3] at hb; exact (List.mem_replicate.1 hb).2) (fun t hb => by rw [h4] at hb; exact ht t hb) (next s.a h1 h2 h5)
    rwa [List.append_nil] at this
structure Stop (p : Prop) : Prop where
  h : p
theorem stopL {P : Program} {ops : Array Oper} {Q : Exit → Act → World → Prop} {d : Option Tmp} {t t' ty : TypeId} {x y : Operand} {pos : String} {af : Array Edge} {g : Option (Nat × Bool)} {l : List Oper} {a : Act} {w : World}
    (h : Stop (wpList P ops Q (⟨d, .binOp .neq t x y t', ty, pos, af, g⟩ :: l) a w)) : wpList P ops Q (⟨d, .binOp .neq t x y t', ty, pos, af, g⟩ :: l) a w := h.h
/-- three regions run by the kernel, then a test that holds: the answer is false -/
theorem unfit {fn : Func} {R : Ending → World → Prop} {row : Array Value} {g : Nat} {t0 : TypeId} {fr : Nat × Nat} {w : World} (hg : w.heap[g]? = some (.cells row t0 fr)) (tests : List (Nat × Bool)) (n : Nat) (ts : List (BinOp × Int × Int × Bool))
    {ops3 : Array Oper} {l3 l4 l5 l6 : List Oper} {i4 i5 i6 i7 : Nat} {o7 : Oper} {c : Tmp} {rest : Code} {K : Act → World → Prop} {a : Act}
    (hK : ∀ a w, Code.wp Tryd.prog (.seq (.region i4 l4.toArray false) (.seq (.region i5 l5.toArray false) (.seq (.seq (.region i6 l6.toArray false) (.cond (.tmp c) (.seq (.region i7 [o7].toArray false) .ret) .skip)) rest))) (bodyPost Tryd.prog fn R) a w → K a w)
    (h : ((((run row tests ops3 l3 ⟨a, [], []⟩).bind (run row tests l4.toArray l4)).bind (run row tests l5.toArray l5)).bind (run row tests l6.toArray l6)).map (fun s => (decide (2 < s.a.tmps.size), s.a.defers.isEmpty, s.ps, s.ts, s.a.tmps.getD c undef)) = some (true, true, List.replicate n g, ts, .bool true))
    (ht : ∀ t ∈ ts, cmpB t.1 t.2.1 t.2.2.1 = t.2.2.2) (hr : fn.results = #[.tmp 2]) (h7 : o7.op = .assign (.const (.bool false)) ∧ o7.dst = some 2 ∧ o7.guard = none)
    (hR : R (.returned (.bool false)) w) : wpList Tryd.prog ops3 (Exit.then K (bodyPost Tryd.prog fn R)) l3 a w := by
  cases e3 : run row tests ops3 l3 ⟨a, [], []⟩ with
  | none => rw [e3] at h; cases h
  | some s3 =>
  rw [e3, Option.bind_some] at h
  cases e4 : run row tests l4.toArray l4 s3 with
  | none => rw [e4] at h; cases h
  | some s4 =>
  rw [e4, Option.bind_some] at h
  cases e5 : run row tests l5.toArray l5 s4 with
  | none => rw [e5] at h; cases h
  | some s5 =>
  rw [e5, Option.bind_some] at h
  cases e6 : run row tests l6.toArray l6 s5 with
  | none => rw [e6] at h; cases h
  | some s6 =>
  rw [e6] at h
  simp only [Option.map_some, Option.some.injEq, Prod.mk.injEq] at h
  obtain ⟨h1, h2, h3, h4, h5⟩ := h
  have p6 : ∀ b ∈ s6.ps, b = g := fun b hb => by rw [h3] at hb; exact (List.mem_replicate.1 hb).2
  have t6 : ∀ t ∈ s6.ts, cmpB t.1 t.2.1 t.2.2.1 = t.2.2.2 := fun t hb => by rw [h4] at hb; exact ht t hb
  have m6 := run_mono _ _ _ e6
  have p5 : ∀ b ∈ s5.ps, b = g := fun b hb => p6 b (m6.1 b hb)
  have t5 : ∀ t ∈ s5.ts, cmpB t.1 t.2.1 t.2.2.1 = t.2.2.2 := fun t hb => t6 t (m6.2 t hb)
  have m5 := run_mono _ _ _ e5
  have p4 : ∀ b ∈ s4.ps, b = g := fun b hb => p5 b (m5.1 b hb)
  have t4 : ∀ t ∈ s4.ts, cmpB t.1 t.2.1 t.2.2.1 = t.2.2.2 := fun t hb => t5 t (m5.2 t hb)
  have m4 := run_mono _ _ _ e4
  have p3 : ∀ b ∈ s3.ps, b = g := fun b hb => p4 b (m4.1 b hb)
  have t3 : ∀ t ∈ s3.ts, cmpB t.1 t.2.1 t.2.2.1 = t.2.2.2 := fun t hb => t4 t (m4.2 t hb)
  have q3 := run_ok (Q := Exit.then K (bodyPost Tryd.prog fn R)) hg [] l3 _ s3 e3 p3 t3
  rw [List.append_nil] at q3
  refine q3 (wpList_nil (hK _ _ (wp_seq (wp_region_lit ?_))))
  have q4 := run_ok (ops := l4.toArray) (Q := Exit.then (fun a w => Code.wp Tryd.prog (.seq (.region i5 l5.toArray false) (.seq (.seq (.region i6 l6.toArray false) (.cond (.tmp c) (.seq (.region i7 [o7].toArray false) .ret) .skip)) rest)) (bodyPost Tryd.prog fn R) a w) (bodyPost Tryd.prog fn R)) hg [] l4 _ s4 e4 p4 t4
  rw [List.append_nil] at q4
  refine q4 (wpList_nil (wp_seq (wp_region_lit ?_)))
  have q5 := run_ok (ops := l5.toArray) (Q := Exit.then (fun a w => Code.wp Tryd.prog (.seq (.seq (.region i6 l6.toArray false) (.cond (.tmp c) (.seq (.region i7 [o7].toArray false) .ret) .skip)) rest) (bodyPost Tryd.prog fn R) a w) (bodyPost Tryd.prog fn R)) hg [] l5 _ s5 e5 p5 t5
  rw [List.append_nil] at q5
  refine q5 (wpList_nil (wp_seq (wp_seq (wp_region_lit ?_))))
  have q6 := fun Q => run_ok (ops := l6.toArray) (Q := Q) hg [] l6 _ s6 e6 p6 t6
  simp only [List.append_nil] at q6
  refine q6 _ (wpList_nil (wp_cond (t := true) h5 (wp_seq (wp_region_lit ?_))))
  refine wpList_plain h7.2.2 (fun K hK => ?_)
  unfold Oper.wp
  have er : (execOp s6.a.eval o7).run Tryd.prog w = .ok (.value (.bool false)) w := by
    unfold execOp
    simp only [h7.1]
    rfl
  rw [er, Oper.upon_value]
  refine hK _ _ (wpList_nil (wp_ret ?_))
  refine bodyPost_ret (v := .bool false) ?_ ?_ hR
  · rw [results_tmp hr]
    have : 2 < s6.a.tmps.size := of_decide_eq_true h1
    simp [Act.put, h7.2.1, this, Array.getD]
  · simpa [Act.put, h7.2.1] using h2
end Ex
end Go.Proofs.YtianojbdabeoeaaDoor
