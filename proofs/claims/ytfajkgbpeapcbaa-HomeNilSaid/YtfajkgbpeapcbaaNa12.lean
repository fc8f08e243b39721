import Derived.Test.YtfajkgbpeapcbaaNa11
set_option linter.unusedVariables false
set_option linter.unusedSimpArgs false

section
namespace Go.Proofs.Ytfajkgbpeapcbaa
open Go.RowKit
namespace Hm
open Nt
set_option maxRecDepth 100000
def z16 : List Int := [0, 0, 0, 0, 0, 0, 0, 0, 0, 0, 0, 0, 0, 0, 0, 0]
def nobody : Nat → Bool := fun _ => false
def setB (s : Nat → Bool) (r : Nat) (v : Bool) : Nat → Bool := fun i => if i = r then v else s i
def sendP (T : Tg) (k to : Int) (b : List Int) : Tg := { T with sent := T.sent ++ [⟨k, 4, to, T.n, b⟩] }
def incP (T : Tg) : Tg := { T with e := ⟨T.e.o, T.e.s, T.e.b, T.e.a, T.e.k, T.e.wt + 1, T.e.td, T.e.q⟩ }
def askP (T : Tg) (k c : Int) : Tg := incP (sendP T k c z16)
def toldP (T : Tg) : Tg := { T with e := ⟨T.e.o, T.e.s, T.e.b, T.e.a, T.e.k, 0, true, T.e.q⟩ }
def tellP (T : Tg) (k : Int) : Tg := toldP (sendP T k T.e.a (Im.win T.bs (T.n * 16) 16))
def ownP (T : Tg) : Tg := { T with e := ⟨T.e.a, nobody, T.e.b, T.e.a, T.e.k, T.e.wt, T.e.td, T.e.q⟩ }
def giveP (T : Tg) (k : Int) : Tg := tellP (ownP T) k
def gidP (T : Tg) : Tg := if T.e.wt = 0 then giveP T 10 else T
def keepP (T : Tg) (m : E) : Tg := { T with bs := Im.sets T.bs (T.n * 16) (Im.nth m.b) 16 }
def noOwn (T : Tg) : Tg := { T with e := ⟨-1, T.e.s, T.e.b, T.e.a, T.e.k, T.e.wt, T.e.td, T.e.q⟩ }
def busyP (T : Tg) (m : E) : Tg := { T with e := ⟨T.e.o, T.e.s, true, m.f, m.k, T.e.wt, T.e.td, T.e.q⟩ }
def openP (T : Tg) (m : E) : Tg := if T.e.o = m.f then noOwn (busyP T m) else busyP T m
def shareP (T : Tg) (r : Nat) (v : Bool) : Tg := { T with e := ⟨T.e.o, setB T.e.s r v, T.e.b, T.e.a, T.e.k, T.e.wt, T.e.td, T.e.q⟩ }
def oth (e : En) : Nat → List Int
  | 0 => []
  | i + 1 => if e.s i && decide ((i : Int) ≠ e.a) then oth e i ++ [(i : Int)] else oth e i
def getSP (T : Tg) (m : E) : Tg :=
  let T1 := openP T m
  if T1.e.o ≠ -1 then askP T1 4 T1.e.o else if 0 < (oth T1.e 4).length then tellP (shareP T1 T1.e.a.toNat true) 8 else giveP T1 9
def askAll (T : Tg) : List Int → Tg
  | [] => T
  | c :: l => askAll (askP T 6 c) l
def getMP (T : Tg) (m : E) : Tg :=
  let T1 := openP T m
  if T1.e.o ≠ -1 then askP T1 5 T1.e.o else gidP (askAll T1 (oth T1.e 4))
def putP (T : Tg) (m : E) : Tg := sendP (if T.e.o = m.f then noOwn (keepP T m) else T) 7 m.f z16
def reqP (T : Tg) (m : E) : Tg := if m.k = 1 then getSP T m else if m.k = 2 then getMP T m else putP T m
def popP (T : Tg) : Tg := { T with e := ⟨T.e.o, T.e.s, T.e.b, T.e.a, T.e.k, T.e.wt, T.e.td, T.e.q.tail⟩ }
def pushP (T : Tg) (m : E) : Tg := { T with e := ⟨T.e.o, T.e.s, T.e.b, T.e.a, T.e.k, T.e.wt, T.e.td, T.e.q ++ [m]⟩ }
def goP : Nat → Tg → Tg
  | 0, T => T
  | f + 1, T => if T.e.b then T else match T.e.q with
    | [] => T
    | m :: _ => goP f (reqP (popP T) m)
def backOk (T : Tg) (m : E) : Bool := decide (0 < T.e.wt) && decide (T.e.o = m.f)
def ackOk (T : Tg) (m : E) : Bool := decide (0 < T.e.wt) && decide (T.e.o = -1) && T.e.s m.f.toNat && decide (T.e.a ≠ m.f)
def doneOk (T : Tg) (m : E) : Bool := T.e.td && decide (T.e.a = m.f)
def backP (T : Tg) (m : E) : Tg :=
  let T1 := keepP T m
  if T1.e.k = 2 then giveP T1 10 else tellP (shareP (shareP (noOwn T1) m.f.toNat true) T1.e.a.toNat true) 8
def decP (T : Tg) : Tg := { T with e := ⟨T.e.o, T.e.s, T.e.b, T.e.a, T.e.k, T.e.wt - 1, T.e.td, T.e.q⟩ }
def ackP (T : Tg) (m : E) : Tg := gidP (decP (shareP T m.f.toNat false))
def clearP (T : Tg) : Tg := { T with e := ⟨T.e.o, T.e.s, false, 0, 0, 0, false, T.e.q⟩ }
def doneP (T : Tg) (m : E) : Tg := goP T.e.q.length (clearP T)
def takeOk (T : Tg) (m : E) : Bool := if m.k = 11 then backOk T m else if m.k = 12 then ackOk T m else if m.k = 13 then doneOk T m else true
def takeP (T : Tg) (m : E) : Tg := if m.k = 11 then backP T m else if m.k = 12 then ackP T m else if m.k = 13 then doneP T m else goP (T.e.q.length + 1) (pushP T m)
theorem Tw.ta {w W : World} {tp ep mp g : Nat} {S0 Q0 S Q : Nat → Prop} {sa : Option Addr} {sc : Nat} {qa : Option Addr} {qc : Nat} {T : Tg} (h : Tw w W tp ep mp g S0 Q0 S Q sa sc qa qc T) : Ta W tp ep mp g S Q T := ⟨sa, sc, qa, qc, h.tk⟩
theorem sh_cells {w : World} {ep : Nat} {e : En} {qa : Option Addr} {qc : Nat} (h : w.heap[ep]? = some (.cells (ecells e qa qc) 84 (0, 0))) : ∀ i v, ([.bool (e.s 0), .bool (e.s 1), .bool (e.s 2), .bool (e.s 3)] : List Value)[i]? = some v → w.cell? ⟨ep, 1 + i, none⟩ = some v := by
  intro i v hv
  rw [cell_of_row _ _ _ _ _ _ h]
  match i, hv with
  | 0, hv => exact hv
  | 1, hv => exact hv
  | 2, hv => exact hv
  | 3, hv => exact hv
  | i + 4, hv => simp at hv
theorem sh_put (o : Int) (s : Nat → Bool) (b : Bool) (a k wt : Int) (td : Bool) (q : List E) (qa : Option Addr) (qc : Nat) {r : Nat} (hr : r < 4) (v : Bool) :
    ((ecells ⟨o, s, b, a, k, wt, td, q⟩ qa qc).toList.take (1 + r) ++ (Value.bool v).cells.toList ++ (ecells ⟨o, s, b, a, k, wt, td, q⟩ qa qc).toList.drop (1 + r + (Value.bool v).cells.size)).toArray = ecells ⟨o, setB s r v, b, a, k, wt, td, q⟩ qa qc := by
  match r, hr with
  | 0, _ => rfl
  | 1, _ => rfl
  | 2, _ => rfl
  | 3, _ => rfl
theorem sh_le (e : En) (qa : Option Addr) (qc : Nat) {r : Nat} (hr : r < 4) (v : Bool) : 1 + r + (Value.bool v).cells.size ≤ (ecells e qa qc).size := by
  show 1 + r + 1 ≤ 11
  omega
theorem open_a (T : Tg) (m : E) : (openP T m).e.a = m.f := by unfold openP; split <;> rfl
theorem open_sent (T : Tg) (m : E) : (openP T m).sent = T.sent := by unfold openP; split <;> rfl
theorem open_wt (T : Tg) (m : E) : (openP T m).e.wt = T.e.wt := by unfold openP; split <;> rfl
theorem open_o (T : Tg) (m : E) : (openP T m).e.o = -1 ∨ (openP T m).e.o = T.e.o := by
  unfold openP
  split
  · exact .inl rfl
  · exact .inr rfl
theorem own_form {w : World} {base : Nat} {e : TypeId} {size : Nat} {v : Value} {n : Nat} {xs : List Value} (h : w.ownsRow base e size v n xs) : ∃ x c, v = .slice x n c := by
  rcases h.2 with ⟨rfl, rfl⟩ | ⟨g, cap, cur, rfl, hb, _⟩
  · exact ⟨none, 0, rfl⟩
  · exact ⟨_, _, rfl⟩
theorem cell_block {w : World} {p : Addr} {v : Value} (h : w.cell? p = some v) : ∃ o, w.heap[p.block]? = some o := by
  cases hq : w.heap[p.block]? with
  | some o => exact ⟨o, rfl⟩
  | none => simp [World.cell?, hq] at h
theorem int_at {w : World} {base : Nat} {x : Option Addr} {c : Nat} {l : List Int} (h : w.ownsRow base 3 1 (.slice x l.length c) l.length (l.map (Value.int .i64))) {j : Nat} {z : Int} (hj : l[j]? = some z) :
    ∃ g, x = some ⟨g, 0, none⟩ ∧ w.cell? ⟨g, j, none⟩ = some (.int .i64 z) ∧ base ≤ g := by
  have hlt := (List.getElem?_eq_some_iff.1 hj).1
  rcases h.2 with ⟨_, h2⟩ | ⟨g, cap, cur, h1, hb, hg, h2, h3, h4, h5⟩
  · omega
  · injection h1 with h1
    refine ⟨g, h1, ?_, hb⟩
    rw [cell_of_row _ _ _ _ _ _ hg]
    have h6 : (l.map (Value.int .i64))[j]? = some (.int .i64 z) := by rw [List.getElem?_map, hj]; rfl
    have := take_at h5 h6
    simpa using this
theorem oth_mem (e : En) : ∀ i, ∀ c ∈ oth e i, 0 ≤ c ∧ c < (i : Int)
  | 0 => fun c hc => by cases hc
  | i + 1 => fun c hc => by
    have ih := oth_mem e i
    unfold oth at hc
    split at hc
    · rcases List.mem_append.1 hc with h | h
      · have := ih c h; omega
      · have := List.mem_singleton.1 h; omega
    · have := ih c hc; omega
theorem oth_len (e : En) : ∀ i, (oth e i).length ≤ i
  | 0 => Nat.le_refl _
  | i + 1 => by
    have := oth_len e i
    unfold oth
    split
    · rw [List.length_append, List.length_singleton]; omega
    · omega
theorem askAll_snoc (T : Tg) (l : List Int) (c : Int) : askAll T (l ++ [c]) = askP (askAll T l) 6 c := by
  induction l generalizing T with
  | nil => rfl
  | cons x l ih => exact ih _
theorem askAll_facts (T : Tg) (l : List Int) : (askAll T l).sent.length = T.sent.length + l.length ∧ (askAll T l).e.wt = T.e.wt + l.length ∧ (askAll T l).e.a = T.e.a := by
  induction l generalizing T with
  | nil => exact ⟨rfl, by simp [askAll], rfl⟩
  | cons x l ih =>
    obtain ⟨h1, h2, h3⟩ := ih (askP T 6 x)
    refine ⟨by show (askAll (askP T 6 x) l).sent.length = _; rw [h1]; show (T.sent ++ [_]).length + _ = _; simp; omega, by show (askAll (askP T 6 x) l).e.wt = _; rw [h2]; show T.e.wt + 1 + _ = _; simp; omega, h3⟩
theorem msg_box (w : World) (m : E) : ∃ (mb : Nat) (B : World), mb = w.heap.size ∧ B = w.alloc (.cells (cells m).toArray 67) ∧ Below w.heap.size w B ∧ B.heap[mb]? = some (.cells (cells m).toArray 67 (0, 0)) :=
  ⟨_, _, rfl, rfl, (Below.refl w.heap.size w).alloc (Nat.le_refl _) _, heap_alloc_new _ _⟩
theorem build_msg {o : Oper} {ρ : Operand → Value} {w : World} {kk to n : Int} {bb : List Int} (hb : bb.length = 16) (ho : o.op = .build 67 #[(0, .tmp 13), (1, .const (.int .i64 4)), (2, .tmp 14), (3, .tmp 18), (4, .tmp 19)])
    (h4 : ρ (.const (.int .i64 4)) = .int .i64 4) (h13 : ρ (.tmp 13) = .int .i64 kk) (h14 : ρ (.tmp 14) = .int .i64 to) (h18 : ρ (.tmp 18) = .int .u32 n) (h19 : ρ (.tmp 19) = .agg (Im.vals bb).toArray) : (execOp ρ o).run Try.prog w = .ok (.value (.agg (cells ⟨kk, 4, to, n, bb⟩).toArray)) w := by
  obtain ⟨b0, b1, b2, b3, b4, b5, b6, b7, b8, b9, b10, b11, b12, b13, b14, b15, rfl⟩ := sixteen hb
  simp only [Im.vals, List.map_cons, List.map_nil] at h19
  unfold execOp
  simp only [ho, List.map_toArray, List.map_cons, List.map_nil, h4, h13, h14, h18, h19]
  kernel_rfl
end Hm
end Go.Proofs.Ytfajkgbpeapcbaa
end
