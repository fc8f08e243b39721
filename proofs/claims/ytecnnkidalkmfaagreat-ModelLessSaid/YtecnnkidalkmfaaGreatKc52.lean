import Derived.Test.YtecnnkidalkmfaaGreatKc44
import Derived.BigGuardPart
import Derived.Deep.QuietTactic
import Derived.BigQuiet
import Derived.Test.YtecnnkidalkmfaaGreatKc19
import Derived.Test.YtecnnkidalkmfaaGreatKc51
import Derived.Test.YtecnnkidalkmfaaGreatKc35
import Derived.Test.YtecnnkidalkmfaaGreatKc45
import Derived.Laws.Tables
import Derived.Test.YtecnnkidalkmfaaGreatKc47
import Derived.Laws.MakeOwn
import Derived.Test.YtecnnkidalkmfaaGreatKc48
import Derived.Test.YtecnnkidalkmfaaGreatKc50
import Derived.Test.YtecnnkidalkmfaaGreatKc07
import Derived.Laws.AppendOwnNone
import Derived.Test.YtecnnkidalkmfaaGreatKc01
set_option linter.unusedVariables false
set_option linter.unusedSimpArgs false

section
namespace Go.Proofs.YtecnnkidalkmfaaGreat
open Go.RowKit
set_option maxRecDepth 100000 in
set_option maxHeartbeats 8000000 in
theorem wide8_any (x : Ev.X) (w : World) (hin : Ev.XIn w x) : Calls Tryz.prog 11 #[Ev.exV x] w (Ev.CPost (fun b => b = false → x.ev.length ≤ 20 ∧ x.fr.l.length ≤ 200 ∧ x.od.length ≤ 200) w) := by
  have HIN := Lib.hid hin
  have e1 := hin.ev.le; have e2 := hin.ev.max; have e3 := hin.fr.2.1; have e4 := hin.fr.2.2.1; have e5 := hin.od.le; have e6 := hin.od.max
  clear hin
  have R0 := Lib.hid (heap_alloc_new w (.cells (Ev.xcells x).toArray 26))
  have B0 := Lib.hid ((Below.refl w.heap.size w).alloc (Nat.le_refl _) (.cells (Ev.xcells x).toArray 26))
  have c0 : (w.alloc (.cells (Ev.xcells x).toArray 26)).cell? ⟨w.heap.size, 0, none⟩ = some (.slice x.ae x.ev.length x.ce) := by rw [cell_of_row _ _ _ _ _ _ R0.out]; rfl
  have c1 : (w.alloc (.cells (Ev.xcells x).toArray 26)).cell? ⟨w.heap.size, 1, none⟩ = some (.slice x.fr.a x.fr.l.length x.fr.c) := by rw [cell_of_row _ _ _ _ _ _ R0.out]; rfl
  have c2 : (w.alloc (.cells (Ev.xcells x).toArray 26)).cell? ⟨w.heap.size, 2, none⟩ = some (.slice x.ao x.od.length x.co) := by rw [cell_of_row _ _ _ _ _ _ R0.out]; rfl
  have C0 := Lib.hid c0; have C2 := Lib.hid c2
  unfold Ev.xcells at c0 c1 c2
  unfold Ev.exV Ev.xcells
  have FIN := Lib.hid (show ∀ (e : Ending) (w' : World), e = .returned (.bool true) → Below w.heap.size w w' → Ev.CPost (fun b => b = false → x.ev.length ≤ 20 ∧ x.fr.l.length ≤ 200 ∧ x.od.length ≤ 200) w e w' from fun _ _ h1 h2 => Ev.CPost.mk true h1 (fun h => by cases h) h2)
  by_cases t0 : 20 < x.ev.length
  · have hi : (20 : Int) < (x.ev.length : Int) := by omega
    clear t0
    go_enter Tryz.func11, Tryz.ntmps11
    go_wp2
    try (go_step3; go_wp2)
    try rw [Exit.noGoto_ret]
    go_ret
    exact FIN.out _ _ rfl B0.out
  have hi0 : ¬ (20 : Int) < (x.ev.length : Int) := by omega
  by_cases t1 : 200 < x.fr.l.length
  · have hi : (200 : Int) < (x.fr.l.length : Int) := by omega
    clear t1 t0
    go_enter Tryz.func11, Tryz.ntmps11
    go_wp2
    try (go_step3; go_wp2)
    try rw [Exit.noGoto_ret]
    go_ret
    exact FIN.out _ _ rfl B0.out
  have hi1 : ¬ (200 : Int) < (x.fr.l.length : Int) := by omega
  by_cases t2 : 200 < x.od.length
  · have hi : (200 : Int) < (x.od.length : Int) := by omega
    clear t2 t1 t0
    go_enter Tryz.func11, Tryz.ntmps11
    go_wp2
    try (go_step3; go_wp2)
    try rw [Exit.noGoto_ret]
    go_ret
    exact FIN.out _ _ rfl B0.out
  have hi2 : ¬ (200 : Int) < (x.od.length : Int) := by omega
  go_enter Tryz.func11, Tryz.ntmps11
  go_wp2
  try (go_step3; go_wp2)
  clear c0 c1 c2
  go_loopw [3, 4] (fun m i wr => ∃ (n : Int) (k : Nat), k ≤ x.od.length ∧ m = .int .i64 n ∧ i = .int .i64 (k : Int) ∧ wr.cell? ⟨w.heap.size, 0, none⟩ = some (.slice x.ae x.ev.length x.ce) ∧ wr.cell? ⟨w.heap.size, 2, none⟩ = some (.slice x.ao x.od.length x.co) ∧ Below w.heap.size w wr) (fun _ i _ => x.od.length - (intOf i).toNat)
  case atStart => exact ⟨_, 0, Nat.zero_le _, rfl, rfl, C0.out, C2.out, B0.out⟩
  case round =>
    obtain ⟨n, k, hk, rfl, rfl, c0, c2, hbr⟩ := hrel
    have HBR := Lib.hid hbr; have D0 := Lib.hid c0; have D2 := Lib.hid c2
    clear hbr
    by_cases hlt : k < x.od.length
    · have hki : (k : Int) < (x.od.length : Int) := by omega
      obtain ⟨s, hs⟩ : ∃ s, x.od[k]? = some s := ⟨_, List.getElem?_eq_getElem hlt⟩
      obtain ⟨g, o, ea, cs⟩ := (HIN.out.od.kp (Ev.kp_below HBR.out)).at_ hs
      rw [ea] at c2
      clear ea hs c0
      go_wp2
      · try rw [Exit.noGoto_ret]
        go_ret
        exact FIN.out _ _ rfl HBR.out
      · exact ⟨⟨_, k + 1, by omega, rfl, by go_num, D0.out, D2.out, HBR.out⟩, by simp [intOf]; omega⟩
    · have hki : ¬ (k : Int) < (x.od.length : Int) := by omega
      go_wp2
      clear c2 c0 D2
      go_loopw [3, 5] (fun m i w2 => ∃ (n : Int) (k : Nat), k ≤ x.ev.length ∧ m = .int .i64 n ∧ i = .int .i64 (k : Int) ∧ w2.cell? ⟨w.heap.size, 0, none⟩ = some (.slice x.ae x.ev.length x.ce) ∧ Below w.heap.size w w2) (fun _ i _ => x.ev.length - (intOf i).toNat)
      case atStart => exact ⟨_, 0, Nat.zero_le _, rfl, rfl, D0.out, HBR.out⟩
      case round =>
        obtain ⟨m, j, hj, rfl, rfl, c0, hb2⟩ := hrel
        have HB2 := Lib.hid hb2; have D0 := Lib.hid c0
        clear hb2
        by_cases hlj : j < x.ev.length
        · have hji : (j : Int) < (x.ev.length : Int) := by omega
          obtain ⟨y, hy⟩ : ∃ y, x.ev[j]? = some y := ⟨_, List.getElem?_eq_getElem hlj⟩
          obtain ⟨g, o, ea, cs⟩ := (HIN.out.ev.kp (Ev.kp_below HB2.out)).at_ hy
          have l1 := cs 10 _ rfl; have l2 := cs 11 _ rfl; have l3 := cs 12 _ rfl
          rw [ea] at c0
          clear ea hy cs
          go_wp2
          go_quiet ((fail))
          go_wp2
          · try rw [Exit.noGoto_ret]
            go_ret
            exact FIN.out _ _ rfl (below_drewN HB2.out _)
          · exact ⟨⟨_, j + 1, by omega, rfl, by go_num, D0.out, below_drewN HB2.out _⟩, by simp [intOf]; omega⟩
        · have hji : ¬ (j : Int) < (x.ev.length : Int) := by omega
          go_wp2
          try rw [Exit.noGoto_ret]
          go_ret
          exact Ev.CPost.mk false rfl (fun _ => ⟨by omega, by omega, by omega⟩) HB2.out
end Go.Proofs.YtecnnkidalkmfaaGreat
end

section
namespace Go.Proofs.YtecnnkidalkmfaaGreat
open Go.RowKit
end Go.Proofs.YtecnnkidalkmfaaGreat
end

section
namespace Go.Proofs.YtecnnkidalkmfaaGreat
namespace Og
open Go.RowKit
variable {P : Program}
end Og
end Go.Proofs.YtecnnkidalkmfaaGreat
end

section
namespace Go.Proofs.YtecnnkidalkmfaaGreat
namespace Og
open Go.RowKit
variable {P : Program}
inductive Sq where
  | is (v : Value)
  | new (o : Obj)
  | sl (o : Obj) (n m : Nat)
  | sat (p : Value → Prop)
def Sq.holds (B : Nat) : Sq → Value → World → Prop
  | .is u, v, _ => v = u
  | .new o, v, w => ∃ b, v = .pointer (some ⟨b, 0, none⟩) ∧ B ≤ b ∧ w.heap[b]? = some o
  | .sl o n m, v, w => ∃ b, v = .slice (some ⟨b, 0, none⟩) n m ∧ B ≤ b ∧ w.heap[b]? = some o
  | .sat p, v, _ => p v
theorem Sq.stab {B : Nat} (s : Sq) {v : Value} {w w' : World} (h : s.holds B v w) (hb : Below w.heap.size w w') : s.holds B v w' := by
  cases s with
  | is u => exact h
  | sat p => exact h
  | new o => obtain ⟨b, h1, h2, h3⟩ := h; exact ⟨b, h1, h2, (hb.block b (Array.getElem?_eq_some_iff.1 h3).1).trans h3⟩
  | sl o n m => obtain ⟨b, h1, h2, h3⟩ := h; exact ⟨b, h1, h2, (hb.block b (Array.getElem?_eq_some_iff.1 h3).1).trans h3⟩
def PhS (w : World) (g : Nat) (cs : Array Value) : Bool → World → Prop
  | false, x => Below w.heap.size w x
  | true, x => ∃ y, Below w.heap.size w y ∧ Below (y.setRow g cs).heap.size (y.setRow g cs) x
theorem PhS.old {w x : World} {g : Nat} {cs : Array Value} {b : Bool} (h : PhS w g cs b x) {k : Nat} {o : Obj} (hk : k ≠ g) (ho : w.heap[k]? = some o) : x.heap[k]? = some o := by
  have hlt := (Array.getElem?_eq_some_iff.1 ho).1
  cases b with
  | false => exact (Below.block h k hlt).trans ho
  | true =>
    obtain ⟨y, h1, h2⟩ := h
    have h3 : (y.setRow g cs).heap[k]? = some o := (setRow_other y g k cs hk).trans ((h1.block k hlt).trans ho)
    exact (h2.block k (Array.getElem?_eq_some_iff.1 h3).1).trans h3
theorem PhS.cell {w x : World} {g : Nat} {cs : Array Value} {b : Bool} (h : PhS w g cs b x) {k j : Nat} {cells : Array Value} {t : TypeId} {fr : Nat × Nat} (hk : k ≠ g) (ho : w.heap[k]? = some (.cells cells t fr)) : x.cell? ⟨k, j, none⟩ = cells[j]? := by
  rw [cell_of_row x k j _ _ _ (h.old hk ho)]
theorem PhS.below {w0 w x : World} {g B : Nat} {cs : Array Value} (h : PhS w g cs true x) (h0 : Below B w0 w) (hB : B ≤ w.heap.size) (hg : B ≤ g) : Below B w0 x := by
  obtain ⟨y, h1, h2⟩ := h
  have h3 : Below B w0 (y.setRow g cs) := (h0.trans (h1.mono hB)).trans ⟨rfl, rfl, rfl, by simp [World.setRow], fun k hk => setRow_other y g k cs (by omega)⟩
  exact h3.trans (h2.mono (by have := h3.size; have := h0.size; have := h1.size; simp [World.setRow] at *; omega))
theorem PhS.new {w x : World} {g : Nat} {cs old : Array Value} {t : TypeId} {fr : Nat × Nat} (h : PhS w g cs true x) (ho : w.heap[g]? = some (.cells old t fr)) : x.heap[g]? = some (.cells cs t fr) := by
  obtain ⟨y, h1, h2⟩ := h
  have h3 : y.heap[g]? = some (.cells old t fr) := (h1.block g (Array.getElem?_eq_some_iff.1 ho).1).trans ho
  have h4 : (y.setRow g cs).heap[g]? = some (.cells cs t fr) := setRow_heap _ _ _ _ _ _ h3
  exact (h2.block g (Array.getElem?_eq_some_iff.1 h4).1).trans h4
structure Kept (q g : Nat) (w w' : World) : Prop where
  os : w'.os = w.os
  tape : w'.tape = w.tape
  output : w'.output = w.output
  size : w.heap.size ≤ w'.heap.size
  block : ∀ k, k < w.heap.size → k ≠ q → k ≠ g → w'.heap[k]? = w.heap[k]?
theorem Kept.refl (q g : Nat) (w : World) : Kept q g w w := ⟨rfl, rfl, rfl, Nat.le_refl _, fun _ _ _ _ => rfl⟩
theorem Kept.trans {q g : Nat} {a b c : World} (h : Kept q g a b) (k : Kept q g b c) : Kept q g a c :=
  ⟨k.os.trans h.os, k.tape.trans h.tape, k.output.trans h.output, Nat.le_trans h.size k.size, fun i hi h1 h2 => (k.block i (Nat.lt_of_lt_of_le hi h.size) h1 h2).trans (h.block i hi h1 h2)⟩
theorem Kept.of_below {q g : Nat} {w w' : World} (h : Below w.heap.size w w') : Kept q g w w' := ⟨h.os, h.tape, h.output, h.size, fun k hk _ _ => h.block k hk⟩
theorem Kept.setCell {q g : Nat} {a w : World} (h : Kept q g a w) (j : Nat) (u : Value) : Kept q g a (w.setCell ⟨q, j, none⟩ u) :=
  h.trans ⟨rfl, rfl, rfl, by simp [World.setCell], fun k hk h1 _ => Below.heap_setCell _ _ _ _ (by simpa using h1)⟩
theorem Kept.below {q g : Nat} {a b c : World} (h : Kept q g a b) (k : Below b.heap.size b c) : Kept q g a c := h.trans (Kept.of_below k)
theorem Kept.setRow {q g r : Nat} {a w : World} (h : Kept q g a w) (hr : a.heap.size ≤ r) (cs : Array Value) : Kept q g a (w.setRow r cs) :=
  ⟨h.os, h.tape, h.output, by simpa [World.setRow] using h.size, fun k hk h1 h2 => (setRow_other w r k cs (by omega)).trans (h.block k hk h1 h2)⟩
def PhK (w : World) (q g : Nat) (Post : World → Prop) : Bool → World → Prop
  | false, x => Below w.heap.size w x
  | true, x => ∃ y z, Below w.heap.size w y ∧ Kept q g y z ∧ Post z ∧ Below z.heap.size z x
theorem PhK.old {w x : World} {q g : Nat} {Post : World → Prop} {b : Bool} (h : PhK w q g Post b x) {k : Nat} {o : Obj} (h1 : k ≠ q) (h2 : k ≠ g) (ho : w.heap[k]? = some o) : x.heap[k]? = some o := by
  have hlt := (Array.getElem?_eq_some_iff.1 ho).1
  cases b with
  | false => exact (Below.block h k hlt).trans ho
  | true =>
    obtain ⟨y, z, hy, hz, _, hx⟩ := h
    have e1 : y.heap[k]? = some o := (hy.block k hlt).trans ho
    have e2 : z.heap[k]? = some o := (hz.block k (Array.getElem?_eq_some_iff.1 e1).1 h1 h2).trans e1
    exact (hx.block k (Array.getElem?_eq_some_iff.1 e2).1).trans e2
theorem PhK.size {w x : World} {q g : Nat} {Post : World → Prop} {b : Bool} (h : PhK w q g Post b x) : w.heap.size ≤ x.heap.size := by
  cases b with
  | false => exact Below.size h
  | true => obtain ⟨y, z, hy, hz, _, hx⟩ := h; exact Nat.le_trans hy.size (Nat.le_trans hz.size hx.size)
theorem PhK.kept {w x : World} {q g : Nat} {Post : World → Prop} {b : Bool} (h : PhK w q g Post b x) : Kept q g w x := by
  cases b with
  | false => exact Kept.of_below h
  | true => obtain ⟨y, z, hy, hz, _, hx⟩ := h; exact ((Kept.of_below hy).trans hz).below hx
end Og
end Go.Proofs.YtecnnkidalkmfaaGreat
end

section
namespace Go.Proofs.YtecnnkidalkmfaaGreat
open Go.RowKit
end Go.Proofs.YtecnnkidalkmfaaGreat
end

section
namespace Go.Proofs.YtecnnkidalkmfaaGreat
open Go.RowKit
namespace Ev
def GBlk (w : World) (g : Nat) (G : List Bool) : Prop := w.heap[g]? = some (.cells (G.map Value.bool).toArray 4 (0, 0))
theorem GBlk.cell {w : World} {g : Nat} {G : List Bool} (h : GBlk w g G) {i : Nat} (hi : i < G.length) : w.cell? ⟨g, i, none⟩ = some (.bool (G.getD i false)) := by
  rw [cell_of_row w g i _ _ _ h]
  simp [List.getD, hi]
theorem GBlk.set_ {w : World} {g : Nat} {G : List Bool} (h : GBlk w g G) (i : Nat) : GBlk (w.setCell ⟨g, i, none⟩ (.bool true)) g (G.set i true) := by
  unfold GBlk at h ⊢
  simp [World.setCell, Array.getElem?_modify, h, List.map_set]
theorem GBlk.frozen {w : World} {g : Nat} {G : List Bool} (h : GBlk w g G) (i : Nat) : w.frozen? ⟨g, i, none⟩ = false := by
  unfold GBlk at h
  simp [World.frozen?, h]
end Ev
end Go.Proofs.YtecnnkidalkmfaaGreat
end

section
namespace Go.Proofs.YtecnnkidalkmfaaGreat
open Go.RowKit
namespace Md
open Ev
def loadI (x : X) (n : Nat) : Int := if (nth x.ev (n : Int)).k = 3 then (n : Int) else paired x n
def spoilB (x : X) (m n : Nat) (r : Int) : Bool := !((nth x.ev (m : Int)).h == (nth x.ev (n : Int)).h) && isCo x (frAt x r.toNat) (m : Int) && isCo x (m : Int) (n : Int)
def rowB (x : X) (n : Nat) : Bool := decide (loadI x n < 0) || (List.range x.ev.length).all fun m : Nat => !(spoilB x m n (loadI x n))
end Md
end Go.Proofs.YtecnnkidalkmfaaGreat
end

section
namespace Go.Proofs.YtecnnkidalkmfaaGreat
open Go.RowKit
end Go.Proofs.YtecnnkidalkmfaaGreat
end

section
namespace Go.Proofs.YtecnnkidalkmfaaGreat
open Go.RowKit
end Go.Proofs.YtecnnkidalkmfaaGreat
end

section
namespace Go.Proofs.YtecnnkidalkmfaaGreat
namespace Md
structure Exe where
  n : Nat
  ac : Nat → Prop
  st : Nat → Prop
  ld : Nat → Prop
  h : Nat → Int
  ad : Nat → Int
  pl : Nat → Int
  rf : Nat → Nat
  ppo : Nat → Nat → Prop
variable {E : Exe}
def Exe.po (E : Exe) (a b : Nat) : Prop := a < b ∧ 0 ≤ E.h a ∧ E.h a = E.h b
def Exe.co (E : Exe) (a b : Nat) : Prop := E.st a ∧ E.st b ∧ E.ad a = E.ad b ∧ E.pl a < E.pl b
def Exe.fr (E : Exe) (a b : Nat) : Prop := a ≠ b ∧ E.ld a ∧ E.co (E.rf a) b
def Exe.rfe (E : Exe) (a b : Nat) : Prop := E.ld b ∧ E.rf b = a ∧ E.h a ≠ E.h b
def Exe.loc (E : Exe) (a b : Nat) : Prop := E.po a b ∧ E.ac a ∧ E.ac b ∧ E.ad a = E.ad b
def Exe.G (E : Exe) (a b : Nat) : Prop := E.ppo a b ∨ E.rfe a b ∨ E.co a b ∨ E.fr a b
def Exe.C (E : Exe) (a b : Nat) : Prop := E.loc a b ∨ (E.ld b ∧ E.rf b = a) ∨ E.co a b ∨ E.fr a b
structure Exe.Ok (E : Exe) : Prop where
  stac : ∀ {a}, E.st a → E.ac a
  ldac : ∀ {a}, E.ld a → E.ac a
  some_ : ∀ {a}, E.ac a → E.st a ∨ E.ld a
  lt : ∀ {a}, E.ac a → a < E.n
  inj : ∀ {a b}, E.st a → E.st b → E.ad a = E.ad b → E.pl a = E.pl b → a = b
  rfst : ∀ {a}, E.ld a → E.st (E.rf a) ∧ E.ad (E.rf a) = E.ad a ∧ E.rf a ≠ a
  beg0 : ∀ {b m}, E.st b → E.h b < 0 → E.st m → E.ad m = E.ad b → m ≠ b → E.pl b < E.pl m
  ldh : ∀ {a}, E.ld a → 0 ≤ E.h a
  mid : ∀ {a b m}, a < m → m < b → b < E.n → E.h a = E.h b → E.h m = E.h a
  ppo_po : ∀ {a b}, E.ppo a b → E.po a b ∧ E.ac a ∧ E.ac b
  r1 : ∀ {a b}, E.po a b → E.ac a → E.st b → E.ad a = E.ad b → E.ppo a b
  r2 : ∀ {a b}, E.po a b → E.ld a → E.ld b → E.ad a = E.ad b → E.rf a ≠ E.rf b → (∀ m, a < m → m < b → ¬ (E.st m ∧ E.ad m = E.ad a)) → E.ppo a b
def Exe.cand (E : Exe) (pos : Nat → Nat) (n m : Nat) : Prop := m ≠ n ∧ E.st m ∧ E.ad m = E.ad n ∧ (pos m < pos n ∨ E.po m n)
structure Exe.Right (E : Exe) (pos : Nat → Nat) : Prop where
  inj : ∀ {a b}, E.ac a → E.ac b → pos a = pos b → a = b
  up : ∀ {a b}, E.ac a → E.ac b → pos a < pos b → ¬ E.ppo b a ∧ ¬ E.co b a
  sees : ∀ {n}, E.ld n → E.cand pos n (E.rf n) ∧ ∀ m, E.cand pos n m → pos m ≤ pos (E.rf n)
theorem Exe.Ok.tot (H : E.Ok) {a b : Nat} (ha : E.st a) (hb : E.st b) (he : E.ad a = E.ad b) (hne : a ≠ b) : E.co a b ∨ E.co b a := by
  have hp : E.pl a ≠ E.pl b := fun e => hne (H.inj ha hb he e)
  rcases Int.lt_or_gt_of_ne hp with h | h
  · exact .inl ⟨ha, hb, he, h⟩
  · exact .inr ⟨hb, ha, he.symm, h⟩
section
variable {pos : Nat → Nat}
theorem Right.ppo (H : E.Ok) (R : E.Right pos) {a b : Nat} (h : E.ppo a b) : pos a < pos b := by
  obtain ⟨hp, ha, hb⟩ := H.ppo_po h
  rcases Nat.lt_trichotomy (pos a) (pos b) with h1 | h1 | h1
  · exact h1
  · have := R.inj ha hb h1; have := hp.1; omega
  · exact absurd h (R.up hb ha h1).1
theorem Right.co (H : E.Ok) (R : E.Right pos) {a b : Nat} (h : E.co a b) : pos a < pos b := by
  rcases Nat.lt_trichotomy (pos a) (pos b) with h1 | h1 | h1
  · exact h1
  · have e := R.inj (H.stac h.1) (H.stac h.2.1) h1
    have := h.2.2.2; rw [e] at this; omega
  · exact absurd h (R.up (H.stac h.2.1) (H.stac h.1) h1).2
theorem Right.fr (H : E.Ok) (R : E.Right pos) {n m : Nat} (h : E.fr n m) : pos n < pos m := by
  obtain ⟨hne, hl, hc⟩ := h
  rcases Nat.lt_trichotomy (pos n) (pos m) with h1 | h1 | h1
  · exact h1
  · exact absurd (R.inj (H.ldac hl) (H.stac hc.2.1) h1) hne
  · have := (R.sees hl).2 m ⟨Ne.symm hne, hc.2.1, hc.2.2.1.symm.trans (H.rfst hl).2.1, .inl h1⟩
    have := Right.co H R hc; omega
theorem Right.G (H : E.Ok) (R : E.Right pos) {a b : Nat} (h : E.G a b) : pos a < pos b := by
  rcases h with h | h | h | h
  · exact Right.ppo H R h
  · obtain ⟨hl, rfl, hh⟩ := h
    rcases (R.sees hl).1.2.2.2 with h | h
    · exact h
    · exact absurd h.2.2 hh
  · exact Right.co H R h
  · exact Right.fr H R h
open Classical in
noncomputable def wt (E : Exe) (a : Nat) : Int := if E.st a then 2 * E.pl a else 2 * E.pl (E.rf a) + 1
theorem wt_st {a : Nat} (h : E.st a) : wt E a = 2 * E.pl a := if_pos h
theorem wt_ld {a : Nat} (h : ¬ E.st a) : wt E a = 2 * E.pl (E.rf a) + 1 := if_neg h
theorem po_trans {a b c : Nat} (h : E.po a b) (k : E.po b c) : E.po a c := ⟨Nat.lt_trans h.1 k.1, h.2.1, h.2.2.trans k.2.2⟩
theorem Right.before (H : E.Ok) (R : E.Right pos) {a b : Nat} (hl : E.ld a) (hb : E.st b) (hp : E.po a b) (he : E.ad a = E.ad b) : E.co (E.rf a) b := by
  obtain ⟨hs, hae, hne⟩ := H.rfst hl
  have hab := Right.ppo H R (H.r1 hp (H.ldac hl) hb he)
  have hc := (R.sees hl).1.2.2.2
  have hn : E.rf a ≠ b := fun e => by
    rw [e] at hc
    rcases hc with h | h
    · omega
    · have := h.1; have := hp.1; omega
  rcases H.tot hs hb (hae.trans he) hn with h | h
  · exact h
  · have h1 := Right.co H R h
    rcases hc with h2 | h2
    · omega
    · have := Right.ppo H R (H.r1 (po_trans h2 hp) (H.stac hs) hb (hae.trans he)); omega
theorem Right.behind (H : E.Ok) (R : E.Right pos) {a b : Nat} (ha : E.st a) (hl : E.ld b) (hp : E.po a b) (he : E.ad a = E.ad b) : a = E.rf b ∨ E.co a (E.rf b) := by
  obtain ⟨hs, hae, hne⟩ := H.rfst hl
  by_cases h : a = E.rf b
  · exact .inl h
  · refine .inr ?_
    have h1 := (R.sees hl).2 a ⟨by have := hp.1; omega, ha, he, .inr hp⟩
    rcases H.tot ha hs (he.trans hae.symm) h with h2 | h2
    · exact h2
    · have := Right.co H R h2; omega
theorem Right.C (H : E.Ok) (R : E.Right pos) {a b : Nat} (h : E.C a b) : wt E a < wt E b ∨ (wt E a = wt E b ∧ a < b) := by
  rcases h with ⟨hp, ha, hb, he⟩ | ⟨hl, rfl⟩ | h | h
  · by_cases sa : E.st a
    · by_cases sb : E.st b
      · rw [wt_st sa, wt_st sb]
        have h1 := Right.ppo H R (H.r1 hp ha sb he)
        rcases H.tot sa sb he (by have := hp.1; omega) with h | h
        · have := h.2.2.2; left; omega
        · have := Right.co H R h; omega
      · have hl : E.ld b := (H.some_ hb).resolve_left sb
        rw [wt_st sa, wt_ld sb]
        rcases Right.behind H R sa hl hp he with h | h
        · rw [← h]; left; omega
        · have := h.2.2.2; left; omega
    · have la : E.ld a := (H.some_ ha).resolve_left sa
      by_cases sb : E.st b
      · rw [wt_ld sa, wt_st sb]
        have := (Right.before H R la sb hp he).2.2.2; left; omega
      · have lb : E.ld b := (H.some_ hb).resolve_left sb
        rw [wt_ld sa, wt_ld sb]
        by_cases hf : E.rf a = E.rf b
        · right; rw [hf]; exact ⟨rfl, hp.1⟩
        · left
          suffices hs : E.pl (E.rf a) < E.pl (E.rf b) by omega
          by_cases hm : ∃ m, a < m ∧ m < b ∧ E.st m ∧ E.ad m = E.ad a
          · obtain ⟨m, h1, h2, h3, h4⟩ := hm
            have hh := H.mid h1 h2 (H.lt hb) hp.2.2
            have p1 : E.po a m := ⟨h1, hp.2.1, hh.symm⟩
            have p2 : E.po m b := ⟨h2, by rw [hh]; exact hp.2.1, hh.trans hp.2.2⟩
            have e1 := (Right.before H R la h3 p1 h4.symm).2.2.2
            rcases Right.behind H R h3 lb p2 (h4.trans he) with h | h
            · rw [← h]; exact e1
            · have := h.2.2.2; omega
          · have h1 := Right.ppo H R (H.r2 hp la lb he hf fun m k1 k2 k3 => hm ⟨m, k1, k2, k3⟩)
            obtain ⟨hs, hae, _⟩ := H.rfst la
            obtain ⟨hsb, hbe, _⟩ := H.rfst lb
            have hc : E.cand pos b (E.rf a) := by
              refine ⟨fun e => sb (e ▸ hs), hs, hae.trans he, ?_⟩
              rcases (R.sees la).1.2.2.2 with h | h
              · left; omega
              · exact .inr (po_trans h hp)
            have h2 := (R.sees lb).2 _ hc
            rcases H.tot hs hsb ((hae.trans he).trans hbe.symm) hf with h | h
            · exact h.2.2.2
            · have := Right.co H R h; omega
  · obtain ⟨hs, hae, hne⟩ := H.rfst hl
    left
    by_cases sb : E.st b
    · rw [wt_st hs, wt_st sb]
      rcases H.tot hs sb hae hne with h | h
      · have := h.2.2.2; omega
      · have h1 := Right.co H R h
        rcases (R.sees hl).1.2.2.2 with h2 | h2
        · omega
        · have := Right.ppo H R (H.r1 h2 (H.stac hs) sb hae); omega
    · rw [wt_st hs, wt_ld sb]; omega
  · left; rw [wt_st h.1, wt_st h.2.1]; have := h.2.2.2; omega
  · obtain ⟨hne, hl, hc⟩ := h
    left
    by_cases sa : E.st a
    · rw [wt_st sa, wt_st hc.2.1]
      have h1 := Right.fr H R ⟨hne, hl, hc⟩
      rcases H.tot sa hc.2.1 ((H.rfst hl).2.1.symm.trans hc.2.2.1) hne with h | h
      · have := h.2.2.2; omega
      · have := Right.co H R h; omega
    · rw [wt_ld sa, wt_st hc.2.1]; have := hc.2.2.2; omega
end
end Md
end Go.Proofs.YtecnnkidalkmfaaGreat
end

section
namespace Go.Proofs.YtecnnkidalkmfaaGreat
namespace Md
variable {E : Exe}
end Md
end Go.Proofs.YtecnnkidalkmfaaGreat
end
