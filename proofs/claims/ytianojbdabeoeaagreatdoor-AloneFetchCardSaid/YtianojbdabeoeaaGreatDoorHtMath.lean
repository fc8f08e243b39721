/-
  Layer 4's meanings as plain functions: what an instruction makes of a hart. No program is named here.
-/
import Derived.Test.YtianojbdabeoeaaGreatDoorMath
import Derived.Test.YtianojbdabeoeaaGreatDoorIsMath
import Derived.WalkSpells
namespace Go.Proofs.YtianojbdabeoeaaGreatDoor
namespace Ht
/-- n's lowest w bytes -/
def low (n : Int) (w : Nat) : Int := if w = 1 then n % 256 else if w = 2 then n % 65536 else n
def b01 (b : Bool) : Int := if b then 1 else 0
/-- a hart, as far as an instruction sees it -/
structure H where
  id : Int
  pc : Int
  R : Nat → Int
  cause : Int
/-- an instruction -/
structure I where
  op : Nat
  rd : Nat
  rs1 : Nat
  rs2 : Nat
  imm : Int
  aq : Bool
  rl : Bool
/-- an access -/
structure A where
  kind : Int
  addr : Int
  width : Int
  value : Int
  op : Int
  aq : Bool
  rl : Bool
def A0 : A := ⟨0, 0, 0, 0, 0, false, false⟩
/-- a step -/
structure S where
  h : H
  i : I
  size : Int
  tv : Int
  tok : Bool
  a : A
  next : Int
def upd (R : Nat → Int) (k : Nat) (n : Int) : Nat → Int := fun j => if j = k then n else R j
/-- Rd written -/
def put (h : H) (rd : Nat) (n : Int) : H := if rd = 0 then h else { h with R := upd h.R rd n }
def S.first (s : S) : Int := s.h.R s.i.rs1
def S.second (s : S) : Int := s.h.R s.i.rs2
def S.put (s : S) (n : Int) : S := { s with h := Ht.put s.h s.i.rd n }
def width (op : Nat) : Nat := match op with
  | 11 | 14 | 16 => 1 | 12 | 15 | 17 => 2 | 13 | 18 => 4 | 48 | 49 => 4 | 50 | 51 | 52 | 53 | 54 | 55 | 56 | 57 | 58 => 4 | _ => 0
def kind (op : Nat) : Int := match op with
  | 11 | 12 | 13 | 14 | 15 => 1 | 16 | 17 | 18 => 2 | 48 => 3 | 49 => 4 | 50 | 51 | 52 | 53 | 54 | 55 | 56 | 57 | 58 => 5 | 38 => 6 | _ => 0
/-- what is made of two -/
def two (op : Nat) (a b : Int) : Int := match op with
  | 19 | 28 => Ar.add a b
  | 29 => Ar.sub a b
  | 20 | 31 => b01 (Ar.less a b)
  | 21 | 32 => b01 (Ar.lessu a b)
  | 22 | 33 => bits .xor .u32 a b
  | 23 | 36 => bits .or .u32 a b
  | 24 | 37 => bits .and .u32 a b
  | 25 | 30 => Ar.shl a b
  | 26 | 34 => Ar.shr a b
  | 27 | 35 => Ar.sar a b
  | 40 => Ar.mul a b
  | 41 => Ar.mulh a b
  | 42 => Ar.mulhsu a b
  | 43 => Ar.mulhu a b
  | 44 => Ar.div a b
  | 45 => Ar.divu a b
  | 46 => Ar.rem a b
  | _ => Ar.remu a b
def taken (op : Nat) (a b : Int) : Bool := match op with
  | 5 => a == b
  | 6 => !(a == b)
  | 7 => Ar.less a b
  | 8 => !Ar.less a b
  | 9 => Ar.lessu a b
  | 10 => !Ar.lessu a b
  | _ => false
/-- has Rd a value? -/
def has (op : Nat) : Bool := !((5 ≤ op && op ≤ 10) || (16 ≤ op && op ≤ 18) || op == 38 || op == 39)
/-- what Rd gets -/
def val (op : Nat) (pc id a b imm tv : Int) (tok : Bool) : Int := match op with
  | 1 => imm
  | 2 => Ar.add pc imm
  | 3 | 4 => Ar.add pc 4
  | 11 => Ar.ext (low tv 1) 8
  | 12 => Ar.ext (low tv 2) 16
  | 13 => low tv 4
  | 14 => low tv 1
  | 15 => low tv 2
  | 19 | 20 | 21 | 22 | 23 | 24 | 25 | 26 | 27 => two op a imm
  | 28 | 29 | 30 | 31 | 32 | 33 | 34 | 35 | 36 | 37 | 40 | 41 | 42 | 43 | 44 | 45 | 46 | 47 => two op a b
  | 48 | 50 | 51 | 52 | 53 | 54 | 55 | 56 | 57 | 58 => tv
  | 49 => b01 (!tok)
  | 59 => id
  | _ => 0
def even (n : Int) : Int := n - n % 2
/-- where it goes on, if it jumps -/
def place (op : Nat) (pc a imm : Int) : Int := if op = 4 then even (Ar.add a imm) else Ar.add pc imm
/-- does it jump? -/
def jumps (op : Nat) (a b : Int) : Bool := op == 3 || op == 4 || taken op a b
def next (op : Nat) (pc a b imm : Int) : Int := if jumps op a b then place op pc a imm else Ar.add pc 4
def acc (op : Nat) (a b imm : Int) (aq rl : Bool) : A :=
  if op = 38 then ⟨6, 0, 0, imm, 0, false, false⟩
  else if 11 ≤ op ∧ op ≤ 15 then ⟨1, Ar.add a imm, width op, 0, 0, false, false⟩
  else if 16 ≤ op ∧ op ≤ 18 then ⟨2, Ar.add a imm, width op, low b (width op), 0, false, false⟩
  else if op = 48 then ⟨3, Ar.add a imm, 4, 0, 0, aq, rl⟩
  else if op = 49 then ⟨4, Ar.add a imm, 4, b, 0, aq, rl⟩
  else if 50 ≤ op ∧ op ≤ 58 then ⟨5, Ar.add a imm, 4, b, op, aq, rl⟩
  else A0
/-- why it halts; 0: it goes on -/
def why (op : Nat) (pc a b imm size : Int) : Int :=
  if op = 39 then 1
  else if width op ≠ 0 ∧ Ar.add a imm % (width op : Int) ≠ 0 then 3
  else if width op ≠ 0 ∧ size < Ar.add a imm + (width op : Int) then 4
  else if jumps op a b ∧ place op pc a imm % 4 ≠ 0 then 3
  else 0
/-- a hart behind an instruction that goes on -/
def done (s : S) : H :=
  { (if has s.i.op then put s.h s.i.rd (val s.i.op s.h.pc s.h.id s.first s.second s.i.imm s.tv s.tok) else s.h) with pc := next s.i.op s.h.pc s.first s.second s.i.imm }
def HOk (h : H) : Prop := 0 ≤ h.id ∧ h.id ≤ 3 ∧ Ar.Wd h.pc ∧ (∀ k, Ar.Wd (h.R k)) ∧ h.R 0 = 0 ∧ h.cause = 0
def IOk (i : I) : Prop := 1 ≤ i.op ∧ i.op ≤ 59 ∧ i.rd ≤ 31 ∧ i.rs1 ≤ 31 ∧ i.rs2 ≤ 31 ∧ Ar.Wd i.imm
end Ht
end Go.Proofs.YtianojbdabeoeaaGreatDoor
