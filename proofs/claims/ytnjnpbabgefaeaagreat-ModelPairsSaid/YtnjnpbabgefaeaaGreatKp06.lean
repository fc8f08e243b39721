import Derived.Test.YtnjnpbabgefaeaaGreatKp04
import Derived.Laws.BitsAllLaws
import Derived.Laws.BitsLemmas
import Derived.Deep.QuietTactic
import Derived.BigQuiet
import Derived.IntWalk
import Derived.WalkKit
import Derived.Test.YtnjnpbabgefaeaaGreatKpH
set_option maxRecDepth 100000
set_option maxHeartbeats 4000000
set_option linter.unusedVariables false
set_option linter.unusedSimpArgs false
section
namespace Go.Proofs.YtnjnpbabgefaeaaGreat
open Go.RowKit
namespace Ev
def fl (x:R):List (Nat × Bool):=[(1,x.a != 0),(2,x.v != 0),(4,x.r != 0),(8,x.q),(16,x.l),(32,x.p != 0),(64,x.s != 0),(128,x.z),(256,(x.d1.l.length:Int) != 0),(512,(x.d2.l.length:Int) != 0),(1024,(x.d3.l.length:Int) != 0)]
def filled (x:R):Nat:=(fl x).foldl (fun m y=>m ||| bit y.2 y.1) 0
theorem or_lt (m p:Nat) (hm:m < 2048) (hp:p < 2048):m ||| p < 2048:=Nat.or_lt_two_pow (n:=11) hm hp
theorem bit_lt (b:Bool) (p:Nat) (hp:p < 2048):bit b p < 2048:=by unfold bit;split <;> omega
theorem ofInt_i64 (a:Nat) (ha:a < 9223372036854775808):(BitVec.ofInt 64 (a:Int)).toNat=a:=by
 rw [BitVec.ofInt_natCast,BitVec.toNat_ofNat];exact Nat.mod_eq_of_lt (by omega)
theorem i64_or_nat (a b:Nat) (ha:a < 9223372036854775808) (hb:b < 9223372036854775808):bits .or .i64 (a:Int) (b:Int)=((a ||| b:Nat):Int):=by
 have hx:a ||| b < 2 ^ 63:=Nat.or_lt_two_pow (by omega) (by omega)
 show IntKind.i64.wrap ((BitVec.ofInt 64 (a:Int) ||| BitVec.ofInt 64 (b:Int)).toNat:Int)=_
 rw [BitVec.toNat_or,ofInt_i64 a ha,ofInt_i64 b hb,IntKind.wrap_i64]
 omega
structure Two (W:World) (n:Nat) (row:Array Value) (m:Nat):Prop where
 box:W.heap[n]?=some (.cells row 48 (0,0))
 cell:W.heap[n+1]?=some (.cells #[.int .i64 (m:Int)] 146 (0,0))
end Ev
theorem note_any (g m p:Nat) (b:Bool) (w:World) (hm:m < 2048) (hp:p < 2048) (hg:w.heap[g]?=some (.cells #[.int .i64 (m:Int)] 146 (0,0))) :
 Calls Tryz.prog 148 #[.int .i64 (p:Int),.bool b,.pointer (some ⟨g,0,none⟩)] w fun e w'=>e=.returned (.tuple #[])∧Ev.Set1 w w' g 146 #[.int .i64 ((m ||| Ev.bit b p:Nat):Int)]:=by
 have hc:w.cell? ⟨g,0,none⟩=some (.int .i64 (m:Int)):=by rw [cell_of_row w g 0 _ _ _ hg];rfl
 have hf:w.frozen? ⟨g,0,none⟩=false:=by simp [World.frozen?,hg]
 have HG:=qH hg;clear hg
 cases b
 ·go_enter Tryz.func148,Tryz.ntmps148
  go_wp2
  go_end0
  refine⟨rfl,?_⟩
  have h0:m ||| Ev.bit false p=m:=by simp [Ev.bit]
  rw [h0]
  exact⟨HG.out,rfl,Below.refl _ _,fun _ _=>rfl⟩
 ·have ho:=Ev.i64_or_nat m p (by omega) (by omega)
  go_enter Tryz.func148,Tryz.ntmps148
  go_wp2
  go_end0
  refine⟨rfl,?_⟩
  have e:w.setCell ⟨g,0,none⟩ (.int .i64 ((m ||| p:Nat):Int))=w.setRow g #[.int .i64 ((m ||| p:Nat):Int)]:=by
   simp only [World.setCell,World.setRow]
   congr 1
   apply Array.ext
   ·simp
   ·intro i h1 h2
    simp only [Array.getElem_modify]
    split
    ·rename_i hi
     have h3:=Array.getElem?_eq_some_iff.1 HG.out
     obtain⟨h4,h5⟩:=h3
     subst hi
     rw [h5]
     rfl
    ·rfl
  have e2:Ev.bit true p=p:=rfl
  rw [e2]
  first | rw [e] | (simp only [ho] at *;rw [e])
  exact Ev.set1 HG.out rfl
theorem Ev.two_next {W W':World} {n:Nat} {row:Array Value} {m m':Nat} (h:Ev.Two W n row m) (s:Ev.Set1 W W' (n+1) 146 #[.int .i64 (m':Int)]):Ev.Two W' n row m' :=
 ⟨(s.block n (by omega)).trans h.box,s.row⟩
theorem filled_any (x:Ev.R) (w:World):Calls Tryz.prog 117 #[Ev.evV x] w fun e w'=>e=.returned (.int .i64 ((Ev.filled x:Nat):Int))∧Ev.filled x < 2048∧Below w.heap.size w w':=by
 unfold Ev.evV Ev.cells
 obtain⟨m0,hm0⟩:∃ m:Nat,m=0:=⟨_,rfl⟩
 obtain⟨m1,hm1⟩:∃ m:Nat,m=m0 ||| Ev.bit (x.a != 0) 1:=⟨_,rfl⟩
 obtain⟨m2,hm2⟩:∃ m:Nat,m=m1 ||| Ev.bit (x.v != 0) 2:=⟨_,rfl⟩
 obtain⟨m3,hm3⟩:∃ m:Nat,m=m2 ||| Ev.bit (x.r != 0) 4:=⟨_,rfl⟩
 obtain⟨m4,hm4⟩:∃ m:Nat,m=m3 ||| Ev.bit (x.q) 8:=⟨_,rfl⟩
 obtain⟨m5,hm5⟩:∃ m:Nat,m=m4 ||| Ev.bit (x.l) 16:=⟨_,rfl⟩
 obtain⟨m6,hm6⟩:∃ m:Nat,m=m5 ||| Ev.bit (x.p != 0) 32:=⟨_,rfl⟩
 obtain⟨m7,hm7⟩:∃ m:Nat,m=m6 ||| Ev.bit (x.s != 0) 64:=⟨_,rfl⟩
 obtain⟨m8,hm8⟩:∃ m:Nat,m=m7 ||| Ev.bit (x.z) 128:=⟨_,rfl⟩
 obtain⟨m9,hm9⟩:∃ m:Nat,m=m8 ||| Ev.bit ((x.d1.l.length:Int) != 0) 256:=⟨_,rfl⟩
 obtain⟨m10,hm10⟩:∃ m:Nat,m=m9 ||| Ev.bit ((x.d2.l.length:Int) != 0) 512:=⟨_,rfl⟩
 obtain⟨m11,hm11⟩:∃ m:Nat,m=m10 ||| Ev.bit ((x.d3.l.length:Int) != 0) 1024:=⟨_,rfl⟩
 have hres:Ev.filled x=m11:=by rw [hm11,hm10,hm9,hm8,hm7,hm6,hm5,hm4,hm3,hm2,hm1,hm0];rfl
 have l0:m0 < 2048:=by omega
 have l1:m1 < 2048:=by rw [hm1];exact Ev.or_lt _ _ l0 (Ev.bit_lt _ _ (by omega))
 have l2:m2 < 2048:=by rw [hm2];exact Ev.or_lt _ _ l1 (Ev.bit_lt _ _ (by omega))
 have l3:m3 < 2048:=by rw [hm3];exact Ev.or_lt _ _ l2 (Ev.bit_lt _ _ (by omega))
 have l4:m4 < 2048:=by rw [hm4];exact Ev.or_lt _ _ l3 (Ev.bit_lt _ _ (by omega))
 have l5:m5 < 2048:=by rw [hm5];exact Ev.or_lt _ _ l4 (Ev.bit_lt _ _ (by omega))
 have l6:m6 < 2048:=by rw [hm6];exact Ev.or_lt _ _ l5 (Ev.bit_lt _ _ (by omega))
 have l7:m7 < 2048:=by rw [hm7];exact Ev.or_lt _ _ l6 (Ev.bit_lt _ _ (by omega))
 have l8:m8 < 2048:=by rw [hm8];exact Ev.or_lt _ _ l7 (Ev.bit_lt _ _ (by omega))
 have l9:m9 < 2048:=by rw [hm9];exact Ev.or_lt _ _ l8 (Ev.bit_lt _ _ (by omega))
 have l10:m10 < 2048:=by rw [hm10];exact Ev.or_lt _ _ l9 (Ev.bit_lt _ _ (by omega))
 have l11:m11 < 2048:=by rw [hm11];exact Ev.or_lt _ _ l10 (Ev.bit_lt _ _ (by omega))
 rw [hres]
 have HM0:=qH hm0;clear hm0
 have HM1:=qH hm1;clear hm1
 have HM2:=qH hm2;clear hm2
 have HM3:=qH hm3;clear hm3
 have HM4:=qH hm4;clear hm4
 have HM5:=qH hm5;clear hm5
 have HM6:=qH hm6;clear hm6
 have HM7:=qH hm7;clear hm7
 have HM8:=qH hm8;clear hm8
 have HM9:=qH hm9;clear hm9
 have HM10:=qH hm10;clear hm10
 have HM11:=qH hm11;clear hm11
 clear hres
 have T0:Ev.Two (((w.alloc (.cells #[.int .i64 x.h,.int .i64 x.k,.int .u32 x.a,.int .u32 x.v,.int .u32 x.r,.bool x.q,.bool x.l,.int .i64 x.p,.int .i64 x.s,.bool x.z,.slice x.d1.a x.d1.l.length x.d1.c,.slice x.d2.a x.d2.l.length x.d2.c,.slice x.d3.a x.d3.l.length x.d3.c] 48)).alloc (.cells #[.int .i64 0] 146))) w.heap.size #[.int .i64 x.h,.int .i64 x.k,.int .u32 x.a,.int .u32 x.v,.int .u32 x.r,.bool x.q,.bool x.l,.int .i64 x.p,.int .i64 x.s,.bool x.z,.slice x.d1.a x.d1.l.length x.d1.c,.slice x.d2.a x.d2.l.length x.d2.c,.slice x.d3.a x.d3.l.length x.d3.c] m0:=by
  rw [HM0.out]
  exact⟨(Below.heap_alloc _ _ _ (by simp)).trans (heap_alloc_new _ _),heap_alloc2_new w _ _⟩
 have B0:Below w.heap.size w ((w.alloc (.cells #[.int .i64 x.h,.int .i64 x.k,.int .u32 x.a,.int .u32 x.v,.int .u32 x.r,.bool x.q,.bool x.l,.int .i64 x.p,.int .i64 x.s,.bool x.z,.slice x.d1.a x.d1.l.length x.d1.c,.slice x.d2.a x.d2.l.length x.d2.c,.slice x.d3.a x.d3.l.length x.d3.c] 48)).alloc (.cells #[.int .i64 0] 146)):=((Below.refl _ _).alloc (Nat.le_refl _) _).alloc (by simp only [World.size_alloc];omega) _
 have HT0:=qH T0;have HB0:=qH B0;clear T0 B0
 go_enter Tryz.func117,Tryz.ntmps117
 go_wp2_with fail
 refine(note_any (w.heap.size+1) m0 1 (x.a != 0) _ l0 (by omega) HT0.out.cell).mono ?_
 rintro e W1 ⟨rfl,hs1⟩
 rw [← HM1.out] at hs1
 have HT1:=qH (Ev.two_next HT0.out hs1)
 have HB1:=qH (HB0.out.trans (hs1.below.mono (Nat.le_succ _)))
 clear hs1
 have c1:W1.cell? ⟨w.heap.size,3,none⟩=some (.int .u32 x.v):=by rw [qC HT1.out.box];rfl
 go_wp2_with fail
 clear c1
 refine(note_any (w.heap.size+1) m1 2 (x.v != 0) _ l1 (by omega) HT1.out.cell).mono ?_
 rintro e W2 ⟨rfl,hs2⟩
 rw [← HM2.out] at hs2
 have HT2:=qH (Ev.two_next HT1.out hs2)
 have HB2:=qH (HB1.out.trans (hs2.below.mono (Nat.le_succ _)))
 clear hs2
 have c2:W2.cell? ⟨w.heap.size,4,none⟩=some (.int .u32 x.r):=by rw [qC HT2.out.box];rfl
 go_wp2_with fail
 clear c2
 refine(note_any (w.heap.size+1) m2 4 (x.r != 0) _ l2 (by omega) HT2.out.cell).mono ?_
 rintro e W3 ⟨rfl,hs3⟩
 rw [← HM3.out] at hs3
 have HT3:=qH (Ev.two_next HT2.out hs3)
 have HB3:=qH (HB2.out.trans (hs3.below.mono (Nat.le_succ _)))
 clear hs3
 have c3:W3.cell? ⟨w.heap.size,5,none⟩=some (.bool x.q):=by rw [qC HT3.out.box];rfl
 go_wp2_with fail
 clear c3
 refine(note_any (w.heap.size+1) m3 8 (x.q) _ l3 (by omega) HT3.out.cell).mono ?_
 rintro e W4 ⟨rfl,hs4⟩
 rw [← HM4.out] at hs4
 have HT4:=qH (Ev.two_next HT3.out hs4)
 have HB4:=qH (HB3.out.trans (hs4.below.mono (Nat.le_succ _)))
 clear hs4
 have c4:W4.cell? ⟨w.heap.size,6,none⟩=some (.bool x.l):=by rw [qC HT4.out.box];rfl
 go_wp2_with fail
 clear c4
 refine(note_any (w.heap.size+1) m4 16 (x.l) _ l4 (by omega) HT4.out.cell).mono ?_
 rintro e W5 ⟨rfl,hs5⟩
 rw [← HM5.out] at hs5
 have HT5:=qH (Ev.two_next HT4.out hs5)
 have HB5:=qH (HB4.out.trans (hs5.below.mono (Nat.le_succ _)))
 clear hs5
 have c5:W5.cell? ⟨w.heap.size,7,none⟩=some (.int .i64 x.p):=by rw [qC HT5.out.box];rfl
 go_wp2_with fail
 clear c5
 refine(note_any (w.heap.size+1) m5 32 (x.p != 0) _ l5 (by omega) HT5.out.cell).mono ?_
 rintro e W6 ⟨rfl,hs6⟩
 rw [← HM6.out] at hs6
 have HT6:=qH (Ev.two_next HT5.out hs6)
 have HB6:=qH (HB5.out.trans (hs6.below.mono (Nat.le_succ _)))
 clear hs6
 have c6:W6.cell? ⟨w.heap.size,8,none⟩=some (.int .i64 x.s):=by rw [qC HT6.out.box];rfl
 go_wp2_with fail
 clear c6
 refine(note_any (w.heap.size+1) m6 64 (x.s != 0) _ l6 (by omega) HT6.out.cell).mono ?_
 rintro e W7 ⟨rfl,hs7⟩
 rw [← HM7.out] at hs7
 have HT7:=qH (Ev.two_next HT6.out hs7)
 have HB7:=qH (HB6.out.trans (hs7.below.mono (Nat.le_succ _)))
 clear hs7
 have c7:W7.cell? ⟨w.heap.size,9,none⟩=some (.bool x.z):=by rw [qC HT7.out.box];rfl
 go_wp2_with fail
 clear c7
 refine(note_any (w.heap.size+1) m7 128 (x.z) _ l7 (by omega) HT7.out.cell).mono ?_
 rintro e W8 ⟨rfl,hs8⟩
 rw [← HM8.out] at hs8
 have HT8:=qH (Ev.two_next HT7.out hs8)
 have HB8:=qH (HB7.out.trans (hs8.below.mono (Nat.le_succ _)))
 clear hs8
 have c8:W8.cell? ⟨w.heap.size,10,none⟩=some (.slice x.d1.a x.d1.l.length x.d1.c):=by rw [qC HT8.out.box];rfl
 go_wp2_with fail
 clear c8
 refine(note_any (w.heap.size+1) m8 256 ((x.d1.l.length:Int) != 0) _ l8 (by omega) HT8.out.cell).mono ?_
 rintro e W9 ⟨rfl,hs9⟩
 rw [← HM9.out] at hs9
 have HT9:=qH (Ev.two_next HT8.out hs9)
 have HB9:=qH (HB8.out.trans (hs9.below.mono (Nat.le_succ _)))
 clear hs9
 have c9:W9.cell? ⟨w.heap.size,11,none⟩=some (.slice x.d2.a x.d2.l.length x.d2.c):=by rw [qC HT9.out.box];rfl
 go_wp2_with fail
 clear c9
 refine(note_any (w.heap.size+1) m9 512 ((x.d2.l.length:Int) != 0) _ l9 (by omega) HT9.out.cell).mono ?_
 rintro e W10 ⟨rfl,hs10⟩
 rw [← HM10.out] at hs10
 have HT10:=qH (Ev.two_next HT9.out hs10)
 have HB10:=qH (HB9.out.trans (hs10.below.mono (Nat.le_succ _)))
 clear hs10
 have c10:W10.cell? ⟨w.heap.size,12,none⟩=some (.slice x.d3.a x.d3.l.length x.d3.c):=by rw [qC HT10.out.box];rfl
 go_wp2_with fail
 clear c10
 refine(note_any (w.heap.size+1) m10 1024 ((x.d3.l.length:Int) != 0) _ l10 (by omega) HT10.out.cell).mono ?_
 rintro e W11 ⟨rfl,hs11⟩
 rw [← HM11.out] at hs11
 have HT11:=qH (Ev.two_next HT10.out hs11)
 have HB11:=qH (HB10.out.trans (hs11.below.mono (Nat.le_succ _)))
 clear hs11
 have c11:W11.cell? ⟨w.heap.size+1,0,none⟩=some (.int .i64 (m11:Int)):=by rw [qC HT11.out.cell];rfl
 go_wp2
 go_ret
 exact⟨rfl,l11,HB11.out⟩
end Go.Proofs.YtnjnpbabgefaeaaGreat
end
section
namespace Go.Proofs.YtnjnpbabgefaeaaGreat
open Go.RowKit
theorem below_drewN {B:Nat} {a w:World} (h:Below B a w) (n:Nat):Below B a (w.drewN n):=⟨h.os,h.tape,h.output,h.size,h.block⟩
end Go.Proofs.YtnjnpbabgefaeaaGreat
end
section
namespace Go.Proofs.YtnjnpbabgefaeaaGreat
open Go.RowKit
namespace Ev
def atGo (n:Int):Int→List Int→Int
 | _,[]=>-1
 | i,v :: r=>if v=n then i else atGo n (i+1) r
def at_ (l:List Int) (n:Int):Int:=atGo n 0 l
theorem atGo_neg {n:Int}:∀ {l:List Int} {i:Int},n ∉ l→atGo n i l=-1
 | [],_,_=>rfl
 | v :: r,i,h=>by
   unfold atGo
   rw [if_neg (fun e=>h (by rw [e];exact List.mem_cons_self))]
   exact atGo_neg fun hm=>h (List.mem_cons_of_mem _ hm)
theorem atGo_pos {n:Int}:∀ {l:List Int} {i:Int},n ∈ l→i≤atGo n i l
 | v :: r,i,h=>by
   unfold atGo
   by_cases e:v=n
   ·rw [if_pos e];exact Int.le_refl _
   ·rw [if_neg e]
    have:=atGo_pos (i:=i+1) (List.mem_of_ne_of_mem (Ne.symm e) h)
    omega
theorem at_neg (l:List Int) (n:Int):at_ l n < 0↔n ∉ l:=by
 constructor
 ·intro h hm
  have:=atGo_pos (i:=0) hm
  unfold at_ at h;omega
 ·intro h
  unfold at_;rw [atGo_neg h];omega
end Ev
theorem rat_any (S:Ev.Sl) (n:Int) (w:World) (hS:Ev.IntsIn w S) :
 Calls Tryz.prog 33 #[.slice S.a S.l.length S.c,.int .i64 n] w fun e w'=>e=.returned (.int .i64 (Ev.at_ S.l n))∧w=w':=by
 have hsm:=hS.2.2.1;have hsl:=hS.2.1
 have HS:=qH hS;clear hS
 go_enter Tryz.func33,Tryz.ntmps33
 go_wp2
 go_loopw [5] (fun i wr=>∃ k:Nat,k≤S.l.length∧i=.int .i64 (k:Int)∧Ev.at_ S.l n=Ev.atGo n k (S.l.drop k)∧wr=w) (fun i _=>S.l.length - (intOf i).toNat)
 case atStart=>exact⟨0,Nat.zero_le _,rfl,rfl,rfl⟩
 case round =>
  obtain⟨k,hk,rfl,hgo,rfl⟩:=hrel
  have HGO:=qH hgo;clear hgo
  by_cases hlt:k < S.l.length
  ·obtain⟨d,hd⟩:∃ d,S.l[k]?=some d:=⟨_,List.getElem?_eq_getElem hlt⟩
   have hdrop:S.l.drop k=d :: S.l.drop (k+1):=by
    rw [List.drop_eq_getElem_cons hlt];congr 1;rw [List.getElem?_eq_getElem hlt] at hd;exact Option.some.inj hd
   obtain⟨g,o,e,c⟩:=HS.out.at_ hd
   have hki:(k:Int) < (S.l.length:Int):=by omega
   rw [e]
   by_cases hq:d=n
   ·have HR:=qH (show Ev.at_ S.l n=(k:Int) by rw [HGO.out,hdrop];unfold Ev.atGo;rw [if_pos hq])
    have tq:(d==n)=true:=by simpa using hq
    clear hd hdrop e hq
    go_wp2
    go_ret
    refine⟨?_,rfl⟩
    rw [HR.out];rfl
   ·have HR:=qH (show Ev.at_ S.l n=Ev.atGo n ((k+1:Nat):Int) (S.l.drop (k+1)) by rw [HGO.out,hdrop];simp only [Ev.atGo];rw [if_neg hq];rfl)
    have tq:(d==n)=false:=by simpa using hq
    clear hd hdrop e hq
    go_wp2
    try go_roundw
    first
    | exact⟨⟨k+1,by omega,by go_num,HR.out,by first | rfl | trivial⟩,by simp [intOf];omega⟩
    | (case rel=>exact⟨k+1,by omega,by go_num,HR.out,by first | rfl | trivial⟩
       case measure=>simp [intOf];omega)
  ·have hki:¬ (k:Int) < (S.l.length:Int):=by omega
   have HR:=qH (show Ev.at_ S.l n=-1 by rw [HGO.out,List.drop_eq_nil_of_le (by omega)];rfl)
   go_wp2
   go_ret
   refine⟨?_,rfl⟩
   rw [HR.out];rfl
end Go.Proofs.YtnjnpbabgefaeaaGreat
end
section
namespace Go.Proofs.YtnjnpbabgefaeaaGreat
open Go.RowKit
theorem oloads_is {x:Ev.R} {b:Bool} (h:Ev.loads x.k=b) (w:World):Calls Tryz.prog 98 #[.agg (Ev.cells x).toArray] w fun e w'=>e=.returned (.bool b)∧Below w.heap.size w w':=h ▸ loads_any x w
theorem ostores_is {x:Ev.R} {b:Bool} (h:Ev.stores x.k=b) (w:World):Calls Tryz.prog 100 #[.agg (Ev.cells x).toArray] w fun e w'=>e=.returned (.bool b)∧Below w.heap.size w w':=h ▸ stores_any x w
namespace Or
open Ev
def acc (x:R):Bool:=x.k != 5&&(loads x.k||stores x.k)
def atom (x:R):Bool:=x.k==3||x.z
def mark (x:R):Bool:=atom x&&(x.q||x.l)
def isIn (n:Int) (x:R):Bool:=(bits .and .i64 n 1 != 0)&&stores x.k||(bits .and .i64 n 2 != 0)&&loads x.k
end Or
theorem access_any (x:Ev.R) (w:World):Calls Tryz.prog 123 #[Ev.evV x] w fun e w'=>e=.returned (.bool (Or.acc x))∧Below w.heap.size w w':=by
 obtain⟨B,hB⟩:∃ B,B=w.alloc (Obj.cells (Ev.cells x).toArray 48):=⟨_,rfl⟩
 have HB:=qH hB
 have B0:=qH (show Below w.heap.size w B by rw [hB];exact(Below.refl w.heap.size w).alloc (Nat.le_refl _) _)
 have RX:=qH (show B.heap[w.heap.size]?=some (.cells (Ev.cells x).toArray 48 (0,0)) by rw [hB];exact heap_alloc_new _ _)
 obtain⟨s,hs⟩:∃ s,Ev.stores x.k=s:=⟨_,rfl⟩
 obtain⟨l,hl⟩:∃ s,Ev.loads x.k=s:=⟨_,rfl⟩
 have HS:=qH hs;have HL:=qH hl
 have c1:B.cell? ⟨w.heap.size,1,none⟩=some (.int .i64 x.k):=by rw [qC RX.out];rfl
 have HRES:=qH (show Or.acc x=(x.k != 5&&(l||s)) by unfold Or.acc;rw [hs,hl])
 clear hB hs hl
 unfold Ev.evV
 by_cases h5:x.k=5
 ·have t5:(x.k != 5)=false:=by simp [h5]
  have HRES:=qH (show Or.acc x=false by rw [HRES.out,t5];rfl)
  clear h5
  go_enter Tryz.func123,Tryz.ntmps123
  go_wp2_with ((with_reducible refine qG 3 ?_);rw [show w.alloc (Obj.cells (Ev.cells x).toArray 48)=B from HB.out.symm])
  go_ret
  exact⟨by rw [HRES.out];try rfl,by first | exact B0.out | (rw [← HB.out];exact B0.out)⟩
 have t5:(x.k != 5)=true:=by simpa using h5
 have HRES:=qH (show Or.acc x=(l||s) by rw [HRES.out,t5];rfl)
 clear h5
 go_enter Tryz.func123,Tryz.ntmps123
 go_wp2_with (first
  | ((with_reducible refine qG 3 ?_);rw [show w.alloc (Obj.cells (Ev.cells x).toArray 48)=B from HB.out.symm])
  | ((with_reducible refine qG 7 ?_);(try rw [show w.alloc (Obj.cells (Ev.cells x).toArray 48)=B from HB.out.symm]);refine Ev.load_row_g 48 (.tmp 1) rfl rfl w.heap.size (by kernel_rfl) 48 (Ev.cells x).toArray (0,0) _ RX.out Tryz.underlying48 rfl (by kernel_rfl) ?_))
 refine(oloads_is HL.out _).mono ?_
 rintro e W1 ⟨rfl,hb⟩
 have R1:=qH ((hb.block w.heap.size (qL RX.out)).trans RX.out)
 have B1:=qH (B0.out.trans (hb.mono B0.out.size));clear hb c1
 cases l
 case true =>
  go_wp2_with fail
  go_ret
  exact⟨by rw [HRES.out];try rfl,B1.out⟩
 go_wp2_with ((with_reducible refine qG 10 ?_);(try rw [show w.alloc (Obj.cells (Ev.cells x).toArray 48)=B from HB.out.symm]);refine Ev.load_row_g 48 (.tmp 1) rfl rfl w.heap.size (by kernel_rfl) 48 (Ev.cells x).toArray (0,0) _ R1.out Tryz.underlying48 rfl (by kernel_rfl) ?_)
 refine(ostores_is HS.out _).mono ?_
 rintro e W2 ⟨rfl,hb⟩
 have B2:=qH (B1.out.trans (hb.mono B1.out.size));clear hb
 cases s
 ·go_wp2_with fail
  go_ret
  exact⟨by rw [HRES.out];try rfl,B2.out⟩
 ·go_wp2_with fail
  go_ret
  exact⟨by rw [HRES.out];try rfl,B2.out⟩
theorem atom_any (x:Ev.R) (w:World):Calls Tryz.prog 153 #[Ev.evV x] w fun e w'=>e=.returned (.bool (Or.atom x))∧Below w.heap.size w w':=by
 obtain⟨B,hB⟩:∃ B,B=w.alloc (Obj.cells (Ev.cells x).toArray 48):=⟨_,rfl⟩
 have HB:=qH hB
 have B0:=qH (show Below w.heap.size w B by rw [hB];exact(Below.refl w.heap.size w).alloc (Nat.le_refl _) _)
 have RX:=qH (show B.heap[w.heap.size]?=some (.cells (Ev.cells x).toArray 48 (0,0)) by rw [hB];exact heap_alloc_new _ _)
 obtain⟨z,hz⟩:∃ s,x.z=s:=⟨_,rfl⟩
 have c1:B.cell? ⟨w.heap.size,1,none⟩=some (.int .i64 x.k):=by rw [qC RX.out];rfl
 have c9:B.cell? ⟨w.heap.size,9,none⟩=some (.bool z):=by rw [qC RX.out,← hz];rfl
 have HRES:=qH (show Or.atom x=(x.k==3||z) by unfold Or.atom;rw [hz])
 clear hB hz
 unfold Ev.evV
 by_cases h5:x.k=3
 ·have t5:(x.k==3)=true:=by simp [h5]
  have HRES:=qH (show Or.atom x=true by rw [HRES.out,t5];rfl)
  clear h5
  go_enter Tryz.func153,Tryz.ntmps153
  go_wp2_with ((with_reducible refine qG 3 ?_);rw [show w.alloc (Obj.cells (Ev.cells x).toArray 48)=B from HB.out.symm])
  go_ret
  exact⟨by rw [HRES.out];try rfl,by first | exact B0.out | (rw [← HB.out];exact B0.out)⟩
 have t5:(x.k==3)=false:=by simpa using h5
 have HRES:=qH (show Or.atom x=z by rw [HRES.out,t5];rfl)
 clear h5
 go_enter Tryz.func153,Tryz.ntmps153
 go_wp2_with ((with_reducible refine qG 3 ?_);rw [show w.alloc (Obj.cells (Ev.cells x).toArray 48)=B from HB.out.symm])
 go_ret
 exact⟨by rw [HRES.out];try rfl,by first | exact B0.out | (rw [← HB.out];exact B0.out)⟩
theorem atom_is {x:Ev.R} {b:Bool} (h:Or.atom x=b) (w:World):Calls Tryz.prog 153 #[.agg (Ev.cells x).toArray] w fun e w'=>e=.returned (.bool b)∧Below w.heap.size w w':=h ▸ atom_any x w
theorem access_is {x:Ev.R} {b:Bool} (h:Or.acc x=b) (w:World):Calls Tryz.prog 123 #[.agg (Ev.cells x).toArray] w fun e w'=>e=.returned (.bool b)∧Below w.heap.size w w':=h ▸ access_any x w
theorem mark_any (x:Ev.R) (w:World):Calls Tryz.prog 156 #[Ev.evV x] w fun e w'=>e=.returned (.bool (Or.mark x))∧Below w.heap.size w w':=by
 obtain⟨B,hB⟩:∃ B,B=w.alloc (Obj.cells (Ev.cells x).toArray 48):=⟨_,rfl⟩
 have HB:=qH hB
 have B0:=qH (show Below w.heap.size w B by rw [hB];exact(Below.refl w.heap.size w).alloc (Nat.le_refl _) _)
 have RX:=qH (show B.heap[w.heap.size]?=some (.cells (Ev.cells x).toArray 48 (0,0)) by rw [hB];exact heap_alloc_new _ _)
 obtain⟨a,ha⟩:∃ s,Or.atom x=s:=⟨_,rfl⟩
 obtain⟨q,hq⟩:∃ s,x.q=s:=⟨_,rfl⟩
 obtain⟨l,hl⟩:∃ s,x.l=s:=⟨_,rfl⟩
 have HA:=qH ha
 have C5:=qH (show ∀ W,Below B.heap.size B W→W.cell? ⟨w.heap.size,5,none⟩=some (.bool q) from fun W h=>by rw [qC ((h.block w.heap.size (qL RX.out)).trans RX.out),← hq];rfl)
 have C6:=qH (show ∀ W,Below B.heap.size B W→W.cell? ⟨w.heap.size,6,none⟩=some (.bool l) from fun W h=>by rw [qC ((h.block w.heap.size (qL RX.out)).trans RX.out),← hl];rfl)
 have HRES:=qH (show Or.mark x=(a&&(q||l)) by unfold Or.mark;rw [ha,hq,hl])
 clear hB ha hq hl
 unfold Ev.evV
 go_enter Tryz.func156,Tryz.ntmps156
 go_wp2_with ((with_reducible refine qG 3 ?_);(try rw [show w.alloc (Obj.cells (Ev.cells x).toArray 48)=B from HB.out.symm]);refine wpList_load_row rfl 48 (.tmp 1) rfl w.heap.size (by kernel_rfl) 48 (Ev.cells x).toArray (0,0) _ RX.out Tryz.underlying48 rfl (by kernel_rfl) ?_)
 refine(atom_is HA.out _).mono ?_
 rintro e W1 ⟨rfl,hb⟩
 have c5:=C5.out W1 hb;have c6:=C6.out W1 hb
 have B1:=qH (B0.out.trans (hb.mono B0.out.size));clear hb
 cases a
 ·go_wp2_with fail
  go_ret
  exact⟨by rw [HRES.out];try rfl,B1.out⟩
 cases q
 ·go_wp2_with fail
  go_ret
  exact⟨by rw [HRES.out];try rfl,B1.out⟩
 ·go_wp2_with fail
  go_ret
  exact⟨by rw [HRES.out];try rfl,B1.out⟩
theorem mark_is {x:Ev.R} {b:Bool} (h:Or.mark x=b) (w:World):Calls Tryz.prog 156 #[.agg (Ev.cells x).toArray] w fun e w'=>e=.returned (.bool b)∧Below w.heap.size w w':=h ▸ mark_any x w
theorem isIn_any (n:Int) (x:Ev.R) (w:World):Calls Tryz.prog 155 #[.int .i64 n,Ev.evV x] w fun e w'=>e=.returned (.bool (Or.isIn n x))∧Below w.heap.size w w':=by
 obtain⟨B,hB⟩:∃ B,B=w.alloc (Obj.cells (Ev.cells x).toArray 48):=⟨_,rfl⟩
 have HB:=qH hB
 have B0:=qH (show Below w.heap.size w B by rw [hB];exact(Below.refl w.heap.size w).alloc (Nat.le_refl _) _)
 have RX:=qH (show B.heap[w.heap.size]?=some (.cells (Ev.cells x).toArray 48 (0,0)) by rw [hB];exact heap_alloc_new _ _)
 obtain⟨s,hs⟩:∃ s,Ev.stores x.k=s:=⟨_,rfl⟩
 obtain⟨l,hl⟩:∃ s,Ev.loads x.k=s:=⟨_,rfl⟩
 obtain⟨t,ht⟩:∃ t,(bits .and .i64 n 1 != 0)=t:=⟨_,rfl⟩
 obtain⟨u,hu⟩:∃ t,(bits .and .i64 n 2 != 0)=t:=⟨_,rfl⟩
 have HS:=qH hs;have HL:=qH hl
 have HRES:=qH (show Or.isIn n x=(t&&s||u&&l) by unfold Or.isIn;rw [hs,hl,ht,hu])
 clear hB hs hl
 unfold Ev.evV
 cases t
 ·go_enter Tryz.func155,Tryz.ntmps155
  cases u
  ·go_wp2_with ((with_reducible refine qG 5 ?_);rw [show w.alloc (Obj.cells (Ev.cells x).toArray 48)=B from HB.out.symm])
   go_ret
   exact⟨by rw [HRES.out];try rfl,by first | exact B0.out | (rw [← HB.out];exact B0.out)⟩
  ·go_wp2_with ((with_reducible refine qG 17 ?_);(try rw [show w.alloc (Obj.cells (Ev.cells x).toArray 48)=B from HB.out.symm]);refine Ev.load_row_g 48 (.tmp 3) rfl rfl w.heap.size (by kernel_rfl) 48 (Ev.cells x).toArray (0,0) _ RX.out Tryz.underlying48 rfl (by kernel_rfl) ?_)
   refine(oloads_is HL.out _).mono ?_
   rintro e W9 ⟨rfl,hb⟩
   have HEND:=qH ((B0.out).trans (hb.mono (B0.out).size));clear hb
   go_wp2_with fail
   go_ret
   exact⟨by rw [HRES.out];try rfl,HEND.out⟩
 ·go_enter Tryz.func155,Tryz.ntmps155
  go_wp2_with ((with_reducible refine qG 9 ?_);(try rw [show w.alloc (Obj.cells (Ev.cells x).toArray 48)=B from HB.out.symm]);refine Ev.load_row_g 48 (.tmp 3) rfl rfl w.heap.size (by kernel_rfl) 48 (Ev.cells x).toArray (0,0) _ RX.out Tryz.underlying48 rfl (by kernel_rfl) ?_)
  refine(ostores_is HS.out _).mono ?_
  rintro e W1 ⟨rfl,hb⟩
  have R1:=qH ((hb.block w.heap.size (qL RX.out)).trans RX.out)
  have B1:=qH (B0.out.trans (hb.mono B0.out.size));clear hb
  cases s
  ·cases u
   ·go_wp2_with ((with_reducible refine qG 5 ?_);rw [show w.alloc (Obj.cells (Ev.cells x).toArray 48)=B from HB.out.symm])
    go_ret
    exact⟨by rw [HRES.out];try rfl,B1.out⟩
   ·go_wp2_with ((with_reducible refine qG 17 ?_);(try rw [show w.alloc (Obj.cells (Ev.cells x).toArray 48)=B from HB.out.symm]);refine Ev.load_row_g 48 (.tmp 3) rfl rfl w.heap.size (by kernel_rfl) 48 (Ev.cells x).toArray (0,0) _ R1.out Tryz.underlying48 rfl (by kernel_rfl) ?_)
    refine(oloads_is HL.out _).mono ?_
    rintro e W9 ⟨rfl,hb⟩
    have HEND:=qH ((B1.out).trans (hb.mono (B1.out).size));clear hb
    go_wp2_with fail
    go_ret
    exact⟨by rw [HRES.out];try rfl,HEND.out⟩
  ·go_wp2_with fail
   go_ret
   exact⟨by rw [HRES.out];try rfl,B1.out⟩
theorem isIn_is {n:Int} {x:Ev.R} {b:Bool} (h:Or.isIn n x=b) (w:World):Calls Tryz.prog 155 #[.int .i64 n,.agg (Ev.cells x).toArray] w fun e w'=>e=.returned (.bool b)∧Below w.heap.size w w':=h ▸ isIn_any n x w
end Go.Proofs.YtnjnpbabgefaeaaGreat
end
section
namespace Go.Proofs.YtnjnpbabgefaeaaGreat
open Go.RowKit
namespace Og
structure One (w W:World) (g:Nat) (t:TypeId) (c:Array Value):Prop where
 row:W.heap[g]?=some (.cells c t (0,0))
 ge:w.heap.size≤g
 below:Below w.heap.size w W
structure OneF (P:Program) (ops:Array Oper) (listed:Array Bool) (a:Act) (p s q dp x1 dq:Nat) (T:TypeId) (Z c:Array Value) (v:Value):Prop where
 ap:∃ o,ops[p]?=some o∧o.guard=none∧o.dst=some dp∧∀ ρ w,(execOp ρ o).run P w=.ok (.value (.pointer (some ⟨w.heap.size,0,none⟩))) (w.alloc (.cells Z T))
 a1:∃ o,ops[s]?=some o∧o.guard=none∧o.dst=none∧o.op=.store T (.tmp dp) (.tmp x1)
 aq:∃ o x,ops[q]?=some o∧o.guard=none∧o.dst=some dq∧o.op=.assign (.tmp x)∧x≠dp∧a.tmps.getD x undef=v
 r0:Region.ready .any ops listed=[p]
 r1:Region.ready .any ops (listed.setIfInBounds p true)=[s]
 r2:Region.ready .any ops ((listed.setIfInBounds p true).setIfInBounds s true)=[q]
 r3:Region.ready .any ops (((listed.setIfInBounds p true).setIfInBounds s true).setIfInBounds q true)=[]
 v1:a.tmps.getD x1 undef=.agg c
 hdp:dp < a.tmps.size
 n1:x1≠dp
 z1:Z.size=c.size
 i1:(P.info? T).map (·.size)=some c.size
 o1:c.all (·.oneCell')=true
theorem oneA {P:Program} {ops:Array Oper} {Q:Exit→Act→World→Prop} {w w1:World} {listed:Array Bool} {a:Act} {fuel p s q dp x1 dq:Nat} {T:TypeId} {Z c:Array Value} {v:Value} (F:OneF P ops listed a p s q dp x1 dq T Z c v) (S0:Std w w1)
 (h:∀ W g,One w W g T c→Q .normal ((a.put (some dp) (.pointer (some ⟨g,0,none⟩))).put (some dq) v) W) :
 wpAnyH P .any ops Q (Std w) (fuel+3) listed a w1:=by
 obtain⟨op,hp,gp,dpe,rp⟩:=F.ap
 obtain⟨b1,hb1,gb1,db1,ob1⟩:=F.a1
 obtain⟨oq,x,hq,gq,dqe,oqe,hx,hv⟩:=F.aq
 have s0:w.heap.size≤w1.heap.size:=Below.size S0
 have A1:Std w (w1.alloc (.cells Z T)):=Below.alloc S0 s0 _
 have m1:(w1.alloc (.cells Z T)).heap[w1.heap.size]?=some (.cells Z T (0,0)):=heap_alloc_new _ _
 refine held_one p F.r0 (held_op p op _ _ _ hp gp (rp _ _) rfl A1 ?_)
 rw [dpe]
 have t1:=Ev.set1 m1 F.z1
 have B1:Std w ((w1.alloc (.cells Z T)).setRow w1.heap.size c):=Below.trans A1 (t1.below.mono s0)
 refine store_step s b1 hb1 gb1 db1 T dp x1 ob1 F.r1 w1.heap.size c Z ?_ ?_ m1 F.i1 F.z1 F.o1 B1 ?_
 ·rw [dget_put _ _ _ _ F.hdp,if_pos rfl]
 ·rw [dget_put _ _ _ _ F.hdp,if_neg F.n1];exact F.v1
 refine held_one q F.r2 (held_op q oq v _ _ hq gq ?_ rfl B1 ?_)
 ·unfold execOp
  simp only [oqe]
  have:(a.put (some dp) (.pointer (some ⟨w1.heap.size,0,none⟩))).eval (.tmp x)=v:=by
   show(a.put (some dp) _).tmps.getD x undef=v
   rw [dget_put _ _ _ _ F.hdp,if_neg hx];exact hv
  rw [this];rfl
 ·rw [dqe]
  exact wpAnyH_done F.r3 (h _ _ ⟨t1.row,s0,B1⟩) _
end Og
end Go.Proofs.YtnjnpbabgefaeaaGreat
end
section
namespace Go.Proofs.YtnjnpbabgefaeaaGreat
open Go.RowKit
namespace Og
section
variable {P:Program} {ops:Array Oper} {Q:Exit→Act→World→Prop} {md:Region.Mode} {S:Nat→World→Prop}
def Keep (md:Region.Mode) (ops:Array Oper) (S:Nat→World→Prop) (j:Nat) (w w':World):Prop:=∀ oj,ops[j]?=some oj→∀ i,i≠j→(∀ e ∈ oj.after,Region.binds md e=true→e.on≠i)→S i w→S i w'
def wpAnyS (P:Program) (md:Region.Mode) (ops:Array Oper) (Q:Exit→Act→World→Prop) (S:Nat→World→Prop):Nat→Array Bool→Act→World→Prop
 | 0,listed,a,w=>Region.ready md ops listed=[]∧Q .normal a w
 | fuel+1,listed,a,w =>
   (Region.ready md ops listed=[]→Q .normal a w) ∧
   ∀ i ∈ Region.ready md ops listed,wpOp P ops Q i (fun a' w'=>Keep md ops S i w w'∧wpAnyS P md ops Q S fuel (listed.setIfInBounds i true) a' w') a w
theorem wpAny_of_S:∀ (fuel:Nat) (listed:Array Bool) (a:Act) (w:World),wpAnyS P md ops Q S fuel listed a w→wpAny P md ops Q fuel listed a w
 | 0,_,_,_,h=>h
 | fuel+1,_,_,_,h=>⟨h.1,fun i hi=>wpOp_mono (fun a' w' h'=>wpAny_of_S fuel _ a' w' h'.2) (h.2 i hi)⟩
theorem wpAnyS_first {i:Nat} {oi:Oper} {v:Value} (hi:ops[i]?=some oi) (hsel:∀ (j:Nat) (o:Oper) cs b,ops[j]?=some o→o.op≠.select cs b)
 (hQ:∀ c a w,Q (.panic c) (a.put oi.dst v) w→Q (.panic c) a w) :
 ∀ (fuel:Nat) (listed:Array Bool) (a:Act) (w:World),
   (∀ j oj,ops[j]?=some oj→j≠i→listed.getD j true=false→(∀ e ∈ oj.after,Region.binds md e=true→e.on≠i)→oi.apart ops oj=true) →
   i ∈ Region.ready md ops listed→YieldsIf P ops (S i) oi v a→S i w →
   wpAnyS P md ops Q S fuel (listed.setIfInBounds i true) (a.put oi.dst v) w→wpAnyS P md ops Q S (fuel+1) listed a w:=by
 intro fuel
 induction fuel with
 | zero =>
   intro listed a w _ hr hy hS H
   refine⟨fun h=>(by rw [h] at hr;cases hr),fun j hj=>?_⟩
   by_cases hji:j=i
   ·subst hji;exact hy.wpOp hi hS ⟨fun _ _ _ _ _ h=>h,H⟩
   ·have:=ready_mono hj hji
    rw [H.1] at this
    cases this
 | succ fuel ih =>
   intro listed a w hfree hr hy hS H
   refine⟨fun h=>(by rw [h] at hr;cases hr),fun j hj=>?_⟩
   by_cases hji:j=i
   ·subst hji;exact hy.wpOp hi hS ⟨fun _ _ _ _ _ h=>h,H⟩
   ·have h1:=H.2 j (ready_mono hj hji)
    obtain⟨hjun,oj,hoj,hall⟩:=mem_ready.1 hj
    have hnot:∀ e ∈ oj.after,Region.binds md e=true→e.on≠i:=fun e he hb heq=>by
     have h1:=hall e he hb
     have h0:=(mem_ready.1 hr).1
     rw [heq] at h1
     rcases Nat.lt_or_ge i listed.size with h' | h'
     ·simp [h'] at h0 h1;rw [h0] at h1;cases h1
     ·simp [Array.getElem?_eq_none h'] at h1
    have h2:=wpOp_putIf hoj (hfree j oj hoj hji hjun hnot) (fun cs b=>hsel i oi cs b hi) (fun cs b=>hsel j oj cs b hoj) hQ hy h1
    have hfree':∀ k ok,ops[k]?=some ok→k≠i→(listed.setIfInBounds j true).getD k true=false →
     (∀ e ∈ ok.after,Region.binds md e=true→e.on≠i)→oi.apart ops ok=true:=fun k ok hk hki hun hno=>by
     refine hfree k ok hk hki ?_ hno
     by_cases hjk:j=k
     ·subst hjk;exact hjun
     ·rw [getD_set_ne true hjk] at hun;exact hun
    refine wpOp_mono (fun a' w' h3=>?_) h2
    obtain⟨hy',hKj,H'⟩:=h3
    have hSi:S i w':=hKj oj hoj i (Ne.symm hji) hnot hS
    rw [Array.setIfInBounds_comm _ _ (Ne.symm hji)] at H'
    exact⟨hKj,ih (listed.setIfInBounds j true) a' w' hfree' (ready_mono hr (Ne.symm hji)) hy' hSi H'⟩
theorem s_take {fuel:Nat} {listed:Array Bool} {a:Act} {w:World} (i:Nat) (o:Oper) (v:Value) (a':Act) (hi:ops[i]?=some o) (hg:o.guard=none)
 (hs:Region.noSelect ops=true) (hf:Region.free md ops listed i=true) (hr:(Region.ready md ops listed).contains i=true)
 (hQ:∀ c a w,Q (.panic c) (a.put o.dst v) w→Q (.panic c) a w) (hS:S i w)
 (hrun:∀ x,S i x→(execOp a.eval o).run P x=.ok (.value v) x) (ha:a.put o.dst v=a')
 (h:wpAnyS P md ops Q S fuel (listed.setIfInBounds i true) a' w):wpAnyS P md ops Q S (fuel+1) listed a w :=
 wpAnyS_first hi (Region.noSelect_spec hs) hQ fuel listed a w (Region.free_spec hi hf) (by simpa using hr) (Or.inl ⟨by unfold Region.wanted;rw [hg],hrun⟩) hS (by rw [ha];exact h)
theorem s_one {fuel:Nat} {listed:Array Bool} {a:Act} {w:World} (i:Nat) (o:Oper) (hi:ops[i]?=some o) (hg:o.guard=none) (hr:Region.ready md ops listed=[i])
 (h:o.wp P a w (fun a' w'=>Keep md ops S i w w'∧wpAnyS P md ops Q S fuel (listed.setIfInBounds i true) a' w') Q):wpAnyS P md ops Q S (fuel+1) listed a w :=
 ⟨fun h0=>absurd (hr ▸ h0) (by simp),fun j hj=>by
   rw [hr] at hj
   obtain rfl:j=i:=by simpa using hj
   unfold wpOp
   rw [hi]
   have hw:Region.wanted o (yielded ops a.tmps)=true:=by unfold Region.wanted;rw [hg]
   simp only [hw,if_true]
   exact .inl h⟩
theorem s_done {listed:Array Bool} {a:Act} {w:World} (hr:Region.ready md ops listed=[]) (h:Q .normal a w):∀ fuel,wpAnyS P md ops Q S fuel listed a w
 | 0=>⟨hr,h⟩
 | _+1=>⟨fun _=>h,by rw [hr];simp⟩
theorem region_S {id:Nat} {a:Act} {w:World} (hm:P.follows .mixedOrders=true)
 (h:wpAnyS P .any ops Q S ops.size (Array.replicate ops.size false) a { w with drawn:=w.drawn+1 }):(Code.region id ops true).wp P Q a w :=
 wp_region_any hm (wpAny_of_S _ _ _ _ h)
end
end Og
end Go.Proofs.YtnjnpbabgefaeaaGreat
end
