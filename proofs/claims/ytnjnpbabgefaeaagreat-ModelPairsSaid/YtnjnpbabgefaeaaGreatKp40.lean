import Derived.Test.YtnjnpbabgefaeaaGreatKp39
import Derived.Test.YtnjnpbabgefaeaaGreatKp18
import Derived.RangeFuncBox
import Derived.Deep.AppendLies
import Derived.Test.YtnjnpbabgefaeaaGreatKp17
import Derived.Test.YtnjnpbabgefaeaaGreatKp27
import Derived.Test.YtnjnpbabgefaeaaGreatKpH
set_option maxRecDepth 100000
set_option maxHeartbeats 8000000
set_option linter.unusedVariables false
set_option linter.unusedSimpArgs false
section
namespace Go.Proofs.YtnjnpbabgefaeaaGreat
open Go.RowKit
namespace Or
open Ev
theorem inR_nat {x:X} {n:Int} (h:inR x n):n.toNat < x.ev.length∧(n.toNat:Int)=n:=by unfold inR at h;omega
def pairsWith (x:X) (b:Nat):Nat→Nat→Option Nat
 | 0,_=>none
 | n+1,a=>if (kept x a b&&R x 8 a b)=true then some a else pairsWith x b n (a+1)
def pairOf (x:X) (b:Nat):Option Nat:=pairsWith x b b 0
def PairR (x:X) (b:Int) (w:World) (r:Ending) (w':World):Prop:=Below w.heap.size w w' ∧
 (((check x≠0∨¬ inR x b)∧r=.returned (.tuple #[.int .i64 0,.bool false])) ∨
  (check x=0∧inR x b∧r=.returned (.tuple (match pairOf x b.toNat with | none=>#[.int .i64 0,.bool false] | some a=>#[.int .i64 (a:Int),.bool true]))))
theorem ints1 {w:World} {g:Nat} {t:TypeId} {a:Int} (h:w.heap[g]?=some (.cells #[.int .i64 a] t (0,0))) (ha:i64B a):IntsIn w ⟨some ⟨g,0,none⟩,1,[a]⟩ :=
 ints_of_block (l:=[a]) h (fun v hv=>by rw [List.mem_singleton.1 hv];exact ha) (by simp)
end Or
theorem Or.pairs_succ (x:Ev.X) (b n a:Nat):Or.pairsWith x b (n+1) a=if (Or.kept x a b&&Or.R x 8 a b)=true then some a else Or.pairsWith x b n (a+1):=rfl
theorem opaired_any (x:Ev.X) (b:Int) (hbb:Ev.i64B b) (w:World) (hin:Ev.XIn w x) :
 Calls Tryz.prog 104 #[.agg (Ev.xcells x).toArray,.int .i64 b] w (Or.PairR x b w):=by
 obtain⟨B,hB⟩:∃ B,B=w.alloc (.cells (Ev.xcells x).toArray 26):=⟨_,rfl⟩
 have HB:=qH hB
 have RX:=qH (show B.heap[w.heap.size]?=some (.cells (Ev.xcells x).toArray 26 (0,0)) by rw [hB];exact heap_alloc_new _ _)
 have B0:=qH (show Below w.heap.size w B by rw [hB];exact(Below.refl w.heap.size w).alloc (Nat.le_refl _) _)
 obtain⟨C,hC⟩:∃ C,C=B.alloc (.cells #[.int .i64 b] 3):=⟨_,rfl⟩
 have HC:=qH hC
 have C0:=qH (show Below B.heap.size B C by rw [hC];exact(Below.refl _ _).alloc (Nat.le_refl _) _)
 have HNS:=qH (show Ev.IntsIn C ⟨some ⟨B.heap.size,0,none⟩,1,[b]⟩ from Or.ints1 (by rw [hC];exact heap_alloc_new _ _) hbb)
 have HIN:=qH hin
 have BC:=qH (B0.out.trans (C0.out.mono B0.out.size))
 have hle:=hin.ev.le;have hmax:=hin.ev.max
 clear hB hC hin
 go_enter Tryz.func104,Tryz.ntmps104
 go_wp2_with (first
  | ((with_reducible refine qG 10 ?_);(try rw [show w.alloc (Obj.cells (Ev.xcells x).toArray 26)=B from HB.out.symm]);refine wpList_load_row rfl 26 (.tmp 2) rfl w.heap.size (by kernel_rfl) 26 (Ev.xcells x).toArray (0,0) _ RX.out Tryz.underlying26 rfl (by kernel_rfl) ?_))
 rw [show B.alloc (Obj.cells #[.int .i64 b] 3)=C from HC.out.symm]
 refine(ask_any x ⟨some ⟨B.heap.size,0,none⟩,1,[b]⟩ C (HIN.out.kp (Ev.kp_below BC.out)) HNS.out).mono ?_
 rintro r W1 ⟨hb1,(⟨h1,rfl⟩ | ⟨h1,h2,rfl⟩ | ⟨h1,h2,q,rfl,hq⟩)⟩
 ·have B1:=qH (BC.out.trans (hb1.mono BC.out.size));have H1:=qH h1
  have t0:(Ev.check x != 0)=true:=by simpa using h1
  clear h1 hb1
  go_wp2_with fail
  go_ret2
  exact⟨B1.out,.inl ⟨.inl H1.out,rfl⟩⟩
 ·have B1:=qH (BC.out.trans (hb1.mono BC.out.size));have H1:=qH h1
  have HNO:=qH (show ¬ Or.inR x b from fun hh=>by
   obtain⟨n,hn,hno⟩:=h2
   rw [List.mem_singleton.1 hn] at hno;exact hno hh)
  clear h1 h2 hb1
  go_wp2_with fail
  go_ret2
  exact⟨B1.out,.inl ⟨.inr HNO.out,rfl⟩⟩
 have B1:=qH (BC.out.trans (hb1.mono BC.out.size));have H1:=qH h1;have HQ:=qH hq
 have HBB:=qH (h2 b (List.mem_cons_self))
 obtain⟨nb,hnb⟩:∃ nb:Nat,nb=b.toNat:=⟨_,rfl⟩
 have NB:=qH (show nb < x.ev.length∧(nb:Int)=b∧b.toNat=nb by have:=Or.inR_nat HBB.out;omega)
 have hnl:=NB.out.1
 clear h1 h2 hb1 hq hnb
 rw [← NB.out.2.1]
 go_wp2_with fail
 go_loopw [8,19] (fun _ i wr=>∃ a:Nat,a≤nb∧i=.int .i64 (a:Int)∧Or.pairOf x nb=Or.pairsWith x nb (nb - a) a∧Below W1.heap.size W1 wr) (fun _ i _=>nb - (intOf i).toNat)
 case atStart=>exact⟨0,Nat.zero_le _,rfl,rfl,Below.refl _ _⟩
 case round =>
  obtain⟨a,ha,rfl,hgo,hbr⟩:=hrel
  have HGO:=qH hgo;have HBR:=qH hbr
  clear hgo hbr
  by_cases hlt:a < nb
  ·have hai:(a:Int) < (nb:Int):=by omega
   obtain⟨v,hv⟩:∃ v,(Or.kept x a nb&&Or.R x 8 a nb)=v:=⟨_,rfl⟩
   have HV:=qH hv
   have HG2:=qH (show Or.pairOf x nb=if v=true then some a else Or.pairsWith x nb (nb - (a+1)) (a+1) by
    rw [HGO.out,show nb - a=nb - (a+1)+1 by omega,Or.pairs_succ,hv])
   clear hv
   go_wp2_with fail
   refine(holds_is HV.out q (by omega) NB.out.1 (check_from H1.out) (by decide) (by decide) _ (HQ.out.kp HBR.out)).mono ?_
   rintro r W2 ⟨rfl,hb2⟩
   have HB2:=qH (HBR.out.trans (hb2.mono HBR.out.size));clear hb2
   cases v
   ·have HG3:=qH (show Or.pairOf x nb=Or.pairsWith x nb (nb - (a+1)) (a+1) by rw [HG2.out];rfl)
    go_wp2_with fail
    go_roundw
    case rel=>exact⟨a+1,by omega,by go_num,HG3.out,HB2.out⟩
    case measure=>simp [intOf];omega
   ·have HG3:=qH (show Or.pairOf x nb=some a by rw [HG2.out];rfl)
    go_wp2_with fail
    go_ret2
    exact⟨B1.out.trans (HB2.out.mono B1.out.size),.inr ⟨H1.out,HBB.out,by rw [NB.out.2.2,HG3.out];rfl⟩⟩
  ·have hai:¬ (a:Int) < (nb:Int):=by omega
   have HG3:=qH (show Or.pairOf x nb=none by rw [HGO.out,show nb - a=0 by omega];rfl)
   go_wp2_with fail
   go_ret2
   exact⟨B1.out.trans (HBR.out.mono B1.out.size),.inr ⟨H1.out,HBB.out,by rw [NB.out.2.2,HG3.out];rfl⟩⟩
end Go.Proofs.YtnjnpbabgefaeaaGreat
end
section
namespace Go.Og
open Go.RowKit
def marks (Ds:List Nat):List Deferred:=Ds.map fun D=>{ target:=.collected D,args:=#[] }
theorem leaves_marks {F:Fence} {n:Nat} {P:Program} {fn:Func} {tmps:Array Value} {R:Ending→World→Prop}:∀ (Ds:List Nat) (W:World),Ds.Nodup→(∀ D ∈ Ds,W.heap[D]?=some (.deferred (some []))) →
 (∀ W',W'.os=W.os→W'.tape=W.tape→W'.output=W.output→W'.heap.size=W.heap.size→(∀ k,k ∉ Ds→W'.heap[k]?=W.heap[k]?)→∃ v,(results fn tmps).run P W'=.ok v W'∧R (.returned v) W')→LeavesInM F n P fn tmps R (marks Ds) .returning W
 | [],W,_,_,h=>h W rfl rfl rfl rfl (fun _ _=>rfl)
 | D :: Ds,W,hn,hd,h=>by
   refine⟨by simp,.inl ⟨_,_,rfl,run_takeDeferred (hd D List.mem_cons_self),?_⟩⟩
   refine leaves_marks Ds (W.putObj D (.deferred none)) (List.nodup_cons.1 hn).2 (fun E hE=>?_) (fun W' h1 h2 h3 h4 h5=>?_)
   ·rw [World.putObj_heap_other (fun (e:E=D)=>(List.nodup_cons.1 hn).1 (by rw [← e];exact hE))]
    exact hd E (List.mem_cons_of_mem _ hE)
   ·refine h W' h1 h2 h3 (by rw [h4];simp) (fun k hk=>?_)
    rw [h5 k (fun hm=>hk (List.mem_cons_of_mem _ hm)),World.putObj_heap_other (fun (e:k=D)=>hk (by rw [e];exact List.mem_cons_self))]
end Go.Og
namespace Go.Proofs.YtnjnpbabgefaeaaGreat
open Go.RowKit
attribute [local go_sem] or_store_func
attribute [local go_sem] Oper.semAt_some
namespace Or
open Ev
structure Acc (w:World) (B:Nat) (T E:TypeId) (sz k:Nat) (xs:List Value) (W:World):Prop where
 bel:Below w.heap.size w W
 out:∃ v,Boxed W B T v∧W.ownsRow w.heap.size E sz v k xs
variable {w:World} {B:Nat} {T E:TypeId} {sz k:Nat} {xs:List Value} {W:World}
theorem Acc.kp (h:Acc w B T E sz k xs W) {W':World} (hb:Below W.heap.size W W'):Acc w B T E sz k xs W':=by
 obtain⟨v,h1,h2⟩:=h.out
 exact⟨h.bel.trans (hb.mono h.bel.size),v,(hb.block B h1.lt).trans h1,Ev.row_below h2 hb⟩
theorem Acc.putObj (h:Acc w B T E sz k xs W) {l:Nat} {o:Obj} (o':Obj) (hl:w.heap.size≤l) (ho:W.heap[l]?=some o) (hc:o.isCells=false):Acc w B T E sz k xs (W.putObj l o'):=by
 obtain⟨v,h1,h2⟩:=h.out
 have hk:∀ (j:Nat) (x:Obj),W.heap[j]?=some x→x.isCells=true→(W.putObj l o').heap[j]?=some x:=fun j x hx hxc=>(World.putObj_heap_other (fun e=>by subst e;rw [ho] at hx;cases hx;rw [hc] at hxc;cases hxc)).trans hx
 exact⟨below_putObj h.bel hl,v,hk B _ h1 rfl,⟨h2.1,h2.2.imp id fun ⟨g,cap,cur,e1,e2,e3,r⟩=>⟨g,cap,cur,e1,e2,hk g _ e3 rfl,r⟩⟩⟩
theorem Acc.form (h:Acc w B T E sz k xs W):∃ a c,Boxed W B T (.slice a k c)∧W.ownsRow w.heap.size E sz (.slice a k c) k xs:=by
 obtain⟨v,h1,h2⟩:=h.out
 rcases h2.2 with ⟨rfl,rfl⟩ | ⟨g,cap,cur,rfl,r⟩
 ·exact⟨_,_,h1,h2⟩
 ·exact⟨_,_,h1,h2⟩
theorem box_putObj {p l:Nat} {t:TypeId} {v:Value} (h:Boxed W p t v) {o:Obj} (o':Obj) (ho:W.heap[l]?=some o) (hc:o.isCells=false):Boxed (W.putObj l o') p t v :=
 (World.putObj_heap_other (fun e=>by subst e;rw [show W.heap[p]?=_ from h] at ho;cases ho;cases hc)).trans h
theorem row_succ {base:Nat} {v:Value} (h:W.ownsRow base E sz v (k+1) xs):∃ g c,v=.slice (some ⟨g,0,none⟩) (k+1) c:=by
 rcases h.2 with ⟨_,h⟩ | ⟨g,cap,cur,rfl,_⟩
 ·cases h
 ·exact⟨_,_,rfl⟩
end Or
end Go.Proofs.YtnjnpbabgefaeaaGreat
end
section
namespace Go.Proofs.YtnjnpbabgefaeaaGreat
open Go.RowKit
namespace Ev
theorem chk_evs {x:X} (h:check x=0):evsOk x.ev=true:=by
 unfold check at h
 split at h
 ·cases h
 split at h
 ·cases h
 ·rename_i h1 h2;simpa using h2
structure EvOk (e:R):Prop where
 k:1≤e.k∧e.k≤5
 h5:e.k=5→e.h=-1
 h0:e.k≠5→0≤e.h
 p:0≤e.p∧e.p < 4
 s:0≤e.s∧e.s < 4
 z:e.z=true→e.k=1∨e.k=2
theorem ev_ok {x:X} (hc:check x=0) {i:Nat} (hi:i < x.ev.length):EvOk (nth x.ev i):=by
 have h:=evs_all (chk_evs hc) i hi
 unfold evAt at h
 simp only [Bool.and_eq_true] at h
 have hp:=h.1.1
 generalize nth x.ev (i:Int)=e at hp
 unfold partsOk hartOk inB at hp
 simp only [Bool.and_eq_true,bne_iff_ne,Bool.not_eq_true',decide_eq_true_eq,beq_iff_eq] at hp
 obtain⟨⟨⟨⟨⟨h1,h2⟩,h3⟩,h4⟩,h5⟩,h6⟩:=hp
 have hk:e.k=1∨e.k=2∨e.k=3∨e.k=4∨e.k=5:=by
  apply Classical.byContradiction;intro hn
  exact h1 (parts_no (fun e=>hn (.inl e)) (fun e=>hn (.inr (.inl e))) (fun e=>hn (.inr (.inr (.inl e)))) (fun e=>hn (.inr (.inr (.inr (.inl e))))) (fun e=>hn (.inr (.inr (.inr (.inr e))))))
 refine⟨by omega,fun e5=>?_,fun e5=>?_,h5,h6,fun hz=>?_⟩
 ·rw [if_pos e5] at h3;simpa using h3
 ·rw [if_neg e5] at h3
  simp only [Bool.and_eq_true,decide_eq_true_eq] at h3
  exact h3.1
 ·rcases hk with h | h | h | h | h
  ·exact .inl h
  ·exact .inr h
  ·rw [extra3 h,hz] at h2;simp at h2
  ·rw [extra4 h,hz] at h2;simp at h2
  ·rw [extra5 h,hz] at h2;simp at h2
theorem hart_le {x:X} (hc:check x=0) {i:Nat}:∀ j:Nat,i≤j→j < x.ev.length→(nth x.ev i).h≤(nth x.ev j).h
 | 0,hij,hj=>by rw [show i=0 by omega];exact Int.le_refl _
 | j+1,hij,hj=>by
   by_cases e:i=j+1
   ·rw [e];exact Int.le_refl _
   ·have ih:=hart_le hc (i:=i) j (by omega) (by omega)
    have h:=evs_all (chk_evs hc) (j+1) hj
    unfold evAt at h
    simp only [Bool.and_eq_true,Bool.or_eq_true] at h
    have hf:follow (nth x.ev (j:Int)) (nth x.ev ((j+1:Nat):Int))=true:=by
     rcases h.2 with h | h
     ·simp at h
     ·rw [show (((j+1:Nat):Int) - 1)=(j:Int) by omega] at h;exact h
    unfold follow at hf
    split at hf
    ·rename_i h5
     have h1:=(ev_ok hc hj).h5 h5.1
     have h2:=(ev_ok hc (show j < x.ev.length by omega)).h5 h5.2
     rw [h1];rw [h2] at ih;exact ih
    ·have:=of_decide_eq_true hf
     omega
theorem fr_ok {x:X} (hc:check x=0) {b:Nat} (hb:b < x.ev.length):(loads (nth x.ev b).k=true∧∃ f:Nat,f < x.ev.length∧frAt x b=f∧stores (nth x.ev f).k=true)∨(loads (nth x.ev b).k=false∧frAt x b=-1):=by
 obtain⟨_,h2,_⟩:=check_order hc
 unfold fromOk at h2
 simp only [Bool.and_eq_true,beq_iff_eq,List.all_eq_true] at h2
 have h:=h2.2 b (List.mem_range.2 hb)
 unfold fromAt at h
 cases hl:loads (nth x.ev b).k with
 | true =>
   rw [if_pos hl] at h
   unfold readOk inB at h
   simp only [Bool.and_eq_true,decide_eq_true_eq] at h
   obtain⟨⟨⟨⟨⟨h1,h2⟩,h3⟩,h4⟩,h5⟩,h6⟩:=h
   refine .inl ⟨rfl,(x.fr.l.getD b 0).toNat,by omega,by unfold frAt;omega,?_⟩
   rw [show (((x.fr.l.getD b 0).toNat:Nat):Int)=x.fr.l.getD b 0 by omega];exact h4
 | false =>
   rw [if_neg (by rw [hl];simp)] at h
   exact .inr ⟨rfl,by unfold frAt;simpa using h⟩
theorem pairGo_iff (xs:List R) (e:R) (a:Nat):∀ b:Nat,pairGo xs e b=(a:Int)↔(a < b∧(∀ m:Nat,a < m→m < b→(nth xs m).h=e.h∧(nth xs m).z=false)∧(nth xs a).h=e.h∧(nth xs a).z=true∧(nth xs a).k≠2∧(nth xs a).a=e.a)
 | 0=>by
   constructor
   ·intro h;unfold pairGo at h;omega
   ·intro h;omega
 | b+1=>by
   have ih:=pairGo_iff xs e a b
   unfold pairGo
   have no:((-1:Int)=(a:Int))↔False:=⟨fun h=>by omega,fun h=>h.elim⟩
   have two:a < b+1→a=b∨a < b:=fun h=>by omega
   by_cases h1:(nth xs b).h≠e.h
   ·rw [if_pos h1,no]
    refine⟨False.elim,fun h=>?_⟩
    rcases two h.1 with rfl | h2
    ·exact h1 h.2.2.1
    ·exact h1 (h.2.1 b h2 (by omega)).1
   rw [if_neg h1]
   have h1:(nth xs b).h=e.h:=Classical.not_not.1 h1
   by_cases h2:((nth xs b).z&&(nth xs b).k==2)=true
   ·rw [if_pos h2,no]
    simp only [Bool.and_eq_true,beq_iff_eq] at h2
    refine⟨False.elim,fun h=>?_⟩
    rcases two h.1 with rfl | h3
    ·exact h.2.2.2.2.1 h2.2
    ·have:=(h.2.1 b h3 (Nat.lt_succ_self b)).2
     rw [h2.1] at this;cases this
   rw [if_neg h2]
   by_cases h3:(nth xs b).z=true
   ·rw [if_pos h3]
    have hk:(nth xs b).k≠2:=fun e=>h2 (by rw [h3,e];rfl)
    by_cases h4:(nth xs b).a=e.a
    ·rw [if_pos h4]
     constructor
     ·intro h
      obtain rfl:b=a:=by omega
      exact⟨by omega,fun m _ _=>by omega,h1,h3,hk,h4⟩
     ·intro h
      rcases two h.1 with rfl | h5
      ·rfl
      ·have:=(h.2.1 b h5 (by omega)).2
       rw [h3] at this;cases this
    ·rw [if_neg h4,no]
     refine⟨False.elim,fun h=>?_⟩
     rcases two h.1 with rfl | h5
     ·exact h4 h.2.2.2.2.2
     ·have:=(h.2.1 b h5 (by omega)).2
      rw [h3] at this;cases this
   ·rw [if_neg h3,ih]
    have h3:(nth xs b).z=false:=by simpa using h3
    constructor
    ·intro h
     refine⟨by omega,fun m hm1 hm2=>?_,h.2.2⟩
     rcases Nat.lt_succ_iff_lt_or_eq.1 hm2 with h5 | rfl
     ·exact h.2.1 m hm1 h5
     ·exact⟨h1,h3⟩
    ·intro h
     refine⟨?_,fun m hm1 hm2=>h.2.1 m hm1 (by omega),h.2.2⟩
     rcases two h.1 with rfl | h5
     ·have:=h.2.2.2.1;rw [h3] at this;cases this
     ·exact h5
theorem paired_iff (x:X) (a b:Nat):paired x b=(a:Int)↔((nth x.ev b).k=2∧(nth x.ev b).z=true∧pairGo x.ev (nth x.ev b) b=(a:Int)):=by
 unfold paired
 by_cases h:((nth x.ev b).k != 2||!(nth x.ev b).z)=true
 ·rw [if_pos h]
  simp only [Bool.or_eq_true,bne_iff_ne,Bool.not_eq_true'] at h
  constructor
  ·intro h2;omega
  ·rintro⟨h1,h2,_⟩
   rcases h with h | h
   ·exact absurd h1 h
   ·rw [h2] at h;cases h
 ·rw [if_neg h]
  have h:((nth x.ev b).k != 2||!(nth x.ev b).z)=false:=by simpa using h
  simp only [Bool.or_eq_false_iff,bne_eq_false_iff_eq,Bool.not_eq_false'] at h
  exact⟨fun h2=>⟨h.1,h.2,h2⟩,fun h2=>h2.2.2⟩
theorem paired_lo (x:X) (b:Nat):paired x b=-1∨∃ a:Nat,a < b∧paired x b=a:=by
 unfold paired
 split
 ·exact .inl rfl
 ·have:∀ n,pairGo x.ev (nth x.ev b) n=-1∨∃ a:Nat,a < n∧pairGo x.ev (nth x.ev b) n=a:=by
   intro n
   induction n with
   | zero=>exact .inl rfl
   | succ n ih =>
     unfold pairGo
     split
     ·exact .inl rfl
     split
     ·exact .inl rfl
     split
     ·split
      ·exact .inr ⟨n,by omega,rfl⟩
      ·exact .inl rfl
     ·rcases ih with h | ⟨a,h1,h2⟩
      ·exact .inl h
      ·exact .inr ⟨a,by omega,h2⟩
  exact this b
end Ev
namespace Or
open Ev
theorem ms_upTo (a b:Nat):ms a b=upTo a b:=rfl
structure Two (x:X) (a b:Nat):Prop where
 lt:a < b
 h:(nth x.ev a).h=(nth x.ev b).h
 ka:(nth x.ev a).k=1∨(nth x.ev a).k=2∨(nth x.ev a).k=3
 kb:(nth x.ev b).k=1∨(nth x.ev b).k=2∨(nth x.ev b).k=3
theorem acc_iff {e:Ev.R} (h:EvOk e):acc e=true↔(e.k=1∨e.k=2∨e.k=3):=by
 have hk:=h.k
 have:e.k=1∨e.k=2∨e.k=3∨e.k=4∨e.k=5:=by omega
 unfold acc loads stores
 rcases this with h | h | h | h | h <;> rw [h] <;> decide
theorem two_of {x:X} (hc:check x=0) {a b:Nat} (ha:a < x.ev.length) (hb:b < x.ev.length) (h:kept x a b=true):Two x a b:=by
 unfold kept at h
 simp only [Bool.and_eq_true,decide_eq_true_eq,beq_iff_eq] at h
 exact⟨h.1.1.1,h.1.1.2,(acc_iff (ev_ok hc ha)).1 h.1.2,(acc_iff (ev_ok hc hb)).1 h.2⟩
theorem kept_of {x:X} (hc:check x=0) {a b:Nat} (ha:a < x.ev.length) (hb:b < x.ev.length) (h1:isPo x a b=true) (h2:(nth x.ev a).k≠4) (h3:(nth x.ev b).k≠4):kept x a b=true:=by
 unfold isPo at h1
 simp only [Bool.and_eq_true,decide_eq_true_eq,beq_iff_eq] at h1
 have ea:=ev_ok hc ha;have eb:=ev_ok hc hb
 have n5:(nth x.ev a).k≠5:=fun e=>by have:=ea.h5 e;omega
 have m5:(nth x.ev b).k≠5:=fun e=>by have:=eb.h5 e;omega
 have ka:=ea.k;have kb:=eb.k
 unfold kept
 rw [(acc_iff ea).2 (by omega),(acc_iff eb).2 (by omega)]
 simp [h1.1.1,h1.2]
theorem Two.po {x:X} (hc:check x=0) {a b:Nat} (ha:a < x.ev.length) (h:Two x a b):isPo x a b=true∧(nth x.ev a).k≠4∧(nth x.ev b).k≠4:=by
 have h0:=(ev_ok hc ha).h0 (by have:=h.ka;omega)
 refine⟨?_,by have:=h.ka;omega,by have:=h.kb;omega⟩
 unfold isPo
 rw [← h.h]
 simp [h.lt,h0]
theorem Two.mid {x:X} (hc:check x=0) {a b m:Nat} (hb:b < x.ev.length) (h:Two x a b) (h1:a < m) (h2:m < b):(nth x.ev m).h=(nth x.ev b).h:=by
 have e1:=hart_le hc (i:=a) m (by omega) (by omega)
 have e2:=hart_le hc (i:=m) b (by omega) hb
 have:=h.h
 omega
theorem isIn_eq {n:Int} {e:Ev.R} (h:0≤n∧n < 4):isIn n e=inSet n e:=by
 have:n=0∨n=1∨n=2∨n=3:=by omega
 unfold isIn inSet
 rcases this with rfl | rfl | rfl | rfl
 ·rw [show (bits .and .i64 0 1 != 0)=false by decide,show(bits .and .i64 0 2 != 0)=false by decide,show((0:Int).tmod 2==1)=false by decide,show decide ((2:Int)≤0)=false by decide]
 ·rw [show (bits .and .i64 1 1 != 0)=true by decide,show(bits .and .i64 1 2 != 0)=false by decide,show((1:Int).tmod 2==1)=true by decide,show decide ((2:Int)≤1)=false by decide]
 ·rw [show (bits .and .i64 2 1 != 0)=false by decide,show(bits .and .i64 2 2 != 0)=true by decide,show((2:Int).tmod 2==1)=false by decide,show decide ((2:Int)≤2)=true by decide]
 ·rw [show (bits .and .i64 3 1 != 0)=true by decide,show(bits .and .i64 3 2 != 0)=true by decide,show((3:Int).tmod 2==1)=true by decide,show decide ((2:Int)≤3)=true by decide]
theorem any_congr {α:Type} {l:List α} {p q:α→Bool} (h:∀ m ∈ l,p m=q m):l.any p=l.any q:=by
 induction l with
 | nil=>rfl
 | cons a r ih=>rw [List.any_cons,List.any_cons,h a List.mem_cons_self,ih fun m hm=>h m (List.mem_cons_of_mem _ hm)]
theorem any_and {α:Type} {l:List α} {c:Bool} {p:α→Bool}:(c&&l.any p)=l.any fun m=>c&&p m:=by
 cases c
 ·simp
 ·simp
theorem ms_lt {a b m:Nat} (h:m ∈ ms a b):a < m∧m < b:=ms_mem.1 h
theorem eq1 (x:X) (a b:Nat):r1 x a b=ruleOf x 1 a b:=by
 show(stores (nth x.ev b).k&&(nth x.ev a).a==(nth x.ev b).a)=((nth x.ev a).a==(nth x.ev b).a&&stores (nth x.ev b).k)
 exact Bool.and_comm _ _
theorem eq2 (x:X) (a b:Nat):r2 x a b=ruleOf x 2 a b:=by
 rw [rule2_is]
 unfold r2 oneW
 congr 1
 rw [ms_upTo,List.not_any_eq_all_not]
 congr 1
 funext m
 unfold p2 cl oneW
 congr 2
 rw [Bool.eq_iff_iff];simp only [beq_iff_eq];exact⟨Eq.symm,Eq.symm⟩
theorem eq3 {x:X} (hc:check x=0) {a b:Nat} (ha:a < x.ev.length) (hb:b < x.ev.length) (h:Two x a b):r3 x a b=ruleOf x 3 a b:=by
 show(atom (nth x.ev a)&&frAt x b==(a:Int))=(((nth x.ev a).k==3||((nth x.ev a).k==2&&(nth x.ev a).z))&&frAt x b==(a:Int))
 unfold atom
 cases hf:frAt x b==(a:Int) with
 | false=>simp
 | true =>
   have hf:frAt x b=(a:Int):=by simpa using hf
   rcases fr_ok hc hb with ⟨_,f,hfl,e,hs⟩ | ⟨_,e⟩
   ·obtain rfl:f=a:=by omega
    have hk:(nth x.ev f).k=2∨(nth x.ev f).k=3:=by
     rcases h.ka with k | k | k
     ·rw [k] at hs;cases hs
     ·exact .inl k
     ·exact .inr k
    rcases hk with k | k <;> rw [k] <;> simp
   ·omega
theorem eq4 {x:X} (hc:check x=0) {a b:Nat} (hb:b < x.ev.length):r4 x a b=ruleOf x 4 a b:=by
 rw [rule4_is]
 unfold r4
 rw [ms_upTo]
 refine any_congr fun m hm=>?_
 have hm:=ms_lt hm
 have em:=ev_ok hc (show m < x.ev.length by omega)
 show p4 x a b m=((nth x.ev m).k==4&&inSet (nth x.ev m).p (nth x.ev a)&&inSet (nth x.ev m).s (nth x.ev b))
 unfold p4
 rw [isIn_eq em.p,isIn_eq em.s]
theorem eq7 (x:X) (a b:Nat):r7 x a b=ruleOf x 7 a b:=by
 show(mark (nth x.ev a)&&mark (nth x.ev b))=(strong (nth x.ev a)&&strong (nth x.ev b))
 have:∀ e:Ev.R,mark e=strong e:=fun e=>by unfold mark strong atom;exact Bool.and_comm _ _
 rw [this,this]
theorem eq8 {x:X} (hc:check x=0) {a b:Nat} (ha:a < x.ev.length) (hb:b < x.ev.length) (h:Two x a b):r8 x a b=ruleOf x 8 a b:=by
 show r8 x a b=(paired x b==(a:Int))
 rw [Bool.eq_iff_iff,beq_iff_eq,paired_iff,pairGo_iff]
 unfold r8 oneW
 simp only [Bool.and_eq_true,beq_iff_eq,Bool.not_eq_true',List.any_eq_false]
 have ea:=ev_ok hc ha;have eb:=ev_ok hc hb
 constructor
 ·rintro⟨⟨⟨⟨⟨h1,h2⟩,h3⟩,h4⟩,h5⟩,h6⟩
  refine⟨?_,h3,h.lt,fun m hm1 hm2=>⟨h.mid hc hb hm1 hm2,?_⟩,h.h,h1,?_,h5⟩
  ·rcases eb.z h3 with k | k
   ·rw [k] at h4;cases h4
   ·exact k
  ·have:=h6 m (ms_mem.2 ⟨hm1,hm2⟩)
   simpa [p8] using this
  ·intro k;rw [k] at h2;cases h2
 ·rintro⟨h1,h2,h3,h4,h5,h6,h7,h8⟩
  refine⟨⟨⟨⟨⟨h6,?_⟩,h2⟩,by rw [h1];rfl⟩,h8⟩,fun m hm=>?_⟩
  ·rcases ea.z h6 with k | k
   ·rw [k];rfl
   ·exact absurd k h7
  ·have hm:=ms_lt hm
   have:=(h4 m hm.1 hm.2).2
   unfold p8;rw [this];simp
theorem eq12 {x:X} (hc:check x=0) {a b:Nat} (hb:b < x.ev.length):r12 x a b=ruleOf x 12 a b:=by
 rw [rule12_is]
 unfold r12
 rw [ms_upTo]
 refine any_congr fun m hm=>?_
 have hm:=ms_lt hm
 show(frAt x b==(m:Int)&&(r9 x a m||r10 x a m))=(loads (nth x.ev b).k&&stores (nth x.ev m).k&&frAt x b==(m:Int)&&(decide (0≤at_ (nth x.ev m).d1.l (a:Int))||decide (0≤at_ (nth x.ev m).d2.l (a:Int))))
 cases hf:frAt x b==(m:Int) with
 | false=>simp
 | true =>
   have hf:frAt x b=(m:Int):=by simpa using hf
   rcases fr_ok hc hb with ⟨hl,f,hfl,e,hs⟩ | ⟨_,e⟩
   ·obtain rfl:f=m:=by omega
    rw [hl,hs];rfl
   ·omega
theorem eq13 (x:X) (a b:Nat):r13 x a b=ruleOf x 13 a b:=by
 rw [rule13_is]
 unfold r13
 rw [any_and,ms_upTo]
 rfl
theorem rule_eq {x:X} (hc:check x=0) {a b:Nat} (ha:a < x.ev.length) (hb:b < x.ev.length) (i:Nat) (h1:1≤i) (h2:i≤13):(kept x a b&&R x i a b)=rule x (i:Int) a b:=by
 cases hk:kept x a b with
 | false =>
   have:rule x (i:Int) a b=false:=by
    unfold rule
    by_cases hno:isPo x a b=false∨(nth x.ev a).k=4∨(nth x.ev b).k=4
    ·rw [if_pos hno]
    ·have hp:isPo x a b=true:=by
      cases h:isPo x a b with
      | true=>rfl
      | false=>exact absurd (.inl h) hno
     have:=kept_of hc ha hb hp (fun h=>hno (.inr (.inl h))) (fun h=>hno (.inr (.inr h)))
     rw [hk] at this;cases this
   rw [this];rfl
 | true =>
   have h:=two_of hc ha hb hk
   obtain⟨p1,p2,p3⟩:=h.po hc ha
   have hr:rule x (i:Int) a b=ruleOf x (i:Int) a b:=by
    unfold rule;rw [if_neg];rintro(h | h | h)
    ·rw [p1] at h;cases h
    ·exact p2 h
    ·exact p3 h
   rw [hr,Bool.true_and]
   match i,h1,h2 with
   | 1,_,_=>exact eq1 x a b
   | 2,_,_=>exact eq2 x a b
   | 3,_,_=>exact eq3 hc ha hb h
   | 4,_,_=>exact eq4 hc hb
   | 5,_,_=>rfl
   | 6,_,_=>rfl
   | 7,_,_=>exact eq7 x a b
   | 8,_,_=>exact eq8 hc ha hb h
   | 9,_,_=>rfl
   | 10,_,_=>rfl
   | 11,_,_=>rfl
   | 12,_,_=>exact eq12 hc hb
   | 13,_,_=>exact eq13 x a b
   | i+14,_,h=>exact absurd h (by omega)
theorem hold_eq {x:X} (hc:check x=0) {a b:Nat} (ha:a < x.ev.length) (hb:b < x.ev.length):hold x a b=(List.range 14).filter fun (i:Nat)=>decide (1≤i)&&rule x (i:Int) a b:=by
 unfold hold holdTo
 cases hk:kept x a b with
 | false =>
   rw [if_neg (by simp)]
   refine(List.filter_eq_nil_iff.2 fun i hi=>?_).symm
   have hi:=List.mem_range.1 hi
   by_cases h1:1≤i
   ·have:=rule_eq hc ha hb i h1 (by omega)
    rw [hk] at this
    rw [← this];simp
   ·simp [h1]
 | true =>
   rw [if_pos rfl]
   refine List.filter_congr fun i hi=>?_
   have hi:=List.mem_range.1 hi
   by_cases h1:1≤i
   ·have:=rule_eq hc ha hb i h1 (by omega)
    rw [hk,Bool.true_and] at this
    rw [this]
   ·simp [h1]
theorem pairsWith_none {x:X} {b:Nat}:∀ {n a:Nat},(∀ c,a≤c→c < a+n→(kept x c b&&R x 8 c b)=false)→pairsWith x b n a=none
 | 0,a,_=>rfl
 | n+1,a,h=>by
   rw [pairs_succ,h a (Nat.le_refl _) (by omega)]
   exact pairsWith_none fun c h1 h2=>h c (by omega) (by omega)
theorem pairsWith_some {x:X} {b c:Nat} (hc:(kept x c b&&R x 8 c b)=true):∀ {n a:Nat},a≤c→c < a+n→(∀ d,a≤d→d < c→(kept x d b&&R x 8 d b)=false)→pairsWith x b n a=some c
 | 0,a,h1,h2,_=>by omega
 | n+1,a,h1,h2,h=>by
   rw [pairs_succ]
   by_cases e:a=c
   ·subst e;rw [if_pos hc]
   ·rw [h a (Nat.le_refl _) (by omega)]
    exact pairsWith_some hc (by omega) (by omega) fun d h3 h4=>h d (by omega) h4
theorem rule8_iff {x:X} (hc:check x=0) {a b:Nat} (ha:a < x.ev.length) (hb:b < x.ev.length):(kept x a b&&R x 8 a b)=true↔paired x b=(a:Int):=by
 have e:=rule_eq hc ha hb 8 (by decide) (by decide)
 rw [e]
 constructor
 ·intro h
  unfold rule at h
  split at h
  ·cases h
  ·have h:(paired x b==(a:Int))=true:=h
   simpa using h
 ·intro h
  have hp:=(paired_iff x a b).1 h
  have hg:=(pairGo_iff x.ev (nth x.ev b) a b).1 hp.2.2
  have eb:=ev_ok hc hb;have ea:=ev_ok hc ha
  have hb0:=eb.h0 (by rw [hp.1];decide)
  have ka:(nth x.ev a).k=1:=by
   rcases ea.z hg.2.2.2.1 with k | k
   ·exact k
   ·exact absurd k hg.2.2.2.2.1
  have hpo:isPo x a b=true:=by
   unfold isPo
   rw [hg.2.2.1]
   simp [hg.1,hb0]
  unfold rule
  rw [if_neg]
  ·show(paired x b==(a:Int))=true
   simpa using h
  ·rintro(h | h | h)
   ·rw [hpo] at h;cases h
   ·rw [ka] at h;cases h
   ·rw [hp.1] at h;cases h
theorem pairOf_eq {x:X} (hc:check x=0) {b:Nat} (hb:b < x.ev.length):(paired x b=-1∧pairOf x b=none)∨(∃ a:Nat,paired x b=a∧pairOf x b=some a):=by
 rcases paired_lo x b with h | ⟨a,h1,h2⟩
 ·refine .inl ⟨h,pairsWith_none fun c _ h2=>?_⟩
  cases hh:kept x c b&&R x 8 c b with
  | false=>rfl
  | true=>have:=(rule8_iff hc (show c < x.ev.length by omega) hb).1 hh;omega
 ·refine .inr ⟨a,h2,pairsWith_some ((rule8_iff hc (by omega) hb).2 h2) (Nat.zero_le _) (by omega) fun d _ h4=>?_⟩
  cases hh:kept x d b&&R x 8 d b with
  | false=>rfl
  | true=>have:=(rule8_iff hc (show d < x.ev.length by omega) hb).1 hh;omega
theorem pl_congr {p q:Nat→Nat→Bool} {n:Nat}:∀ {k:Nat},(∀ a b,a < k→b < n→p a b=q a b)→pl p n k=pl q n k
 | 0,_=>rfl
 | k+1,h=>by
   rw [pl_succ,pl_succ,pl_congr fun a b ha hb=>h a b (by omega) hb]
   congr 1
   unfold rowL
   rw [List.filter_congr fun b hb=>h k b (by omega) (List.mem_range.1 hb)]
end Or
end Go.Proofs.YtnjnpbabgefaeaaGreat
end
