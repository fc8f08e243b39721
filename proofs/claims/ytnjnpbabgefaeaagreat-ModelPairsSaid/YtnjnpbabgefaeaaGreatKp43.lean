import Derived.Test.YtnjnpbabgefaeaaGreatKp42
import Derived.Test.YtnjnpbabgefaeaaGreatKp03
import Derived.Test.YtnjnpbabgefaeaaGreatKp38
import Derived.Test.YtnjnpbabgefaeaaGreatKp17
import Derived.RangeFuncBox
import Derived.Deep.AppendLies
import Derived.Test.YtnjnpbabgefaeaaGreatKp19
import Derived.StillTailTactics
import Derived.Shelf.SlSortCmp.NoneTotal
import Derived.Test.YtnjnpbabgefaeaaGreatKpH
set_option maxRecDepth 100000
set_option maxHeartbeats 8000000
set_option linter.unusedVariables false
set_option linter.unusedSimpArgs false
section
namespace Go.Proofs.YtnjnpbabgefaeaaGreat
open Go.RowKit Go.Maps Go.WideElems
namespace Md
structure KIn (cb b n:Nat) (S:List (Nat × Nat)) (W:World):Prop where
 box:W.cell? ⟨cb,0,none⟩=some (.map (some b))
 set:PSet W b n S
def kst (S:List (Nat × Nat)) (ss:List (Nat × Nat)) (p:Nat × Nat) (ss':List (Nat × Nat)):Prop:=p ∈ S∧p ∉ ss∧ss.Nodup∧(∀ q ∈ ss,q ∈ S)∧ss'=ss++[p]
def kfin (S:List (Nat × Nat)) (ss:List (Nat × Nat)):Prop:=ss.Nodup∧∀ p,p ∈ ss↔p ∈ S
theorem lit_of {S:List (Nat × Nat)} {D:DataW Unit} (h:∀ l,Maps.has D l=true→∃ p ∈ S,l=plit p) (hlt:∀ p ∈ S,p.1 < 64∧p.2 < 64) {x:Int × Int} {kl:Lit} {y:DataW Unit}
 (hk:keyOf Tryz.prog 72 (.agg #[.int .i64 x.1,.int .i64 x.2])=some kl) (ha:∀ zd,D.atKey kl zd=y):∃ p ∈ S,kl=plit p∧x=((p.1:Int),(p.2:Int)):=by
 obtain⟨p,hp,rfl⟩:=h kl (Maps.has_true_of_atKey ha)
 have e:=law_pair.inj hk (key_mk (hlt p hp))
 simp [pkV] at e
 exact⟨p,hp,rfl,Prod.ext e.1 e.2⟩
end Md
theorem keys_iter (m:Nat) (hm:1≤m) (cb b n:Nat) (S:List (Nat × Nat)) :
 Og.IterS Fence.wide m Tryz.prog 89 #[.pointer (some ⟨cb,0,none⟩)] (Md.KIn cb b n S) (fun p:Nat × Nat=>#[Md.pkV p]) (Md.kst S) [] (Md.kfin S):=by
 intro l J Jx W hst hgr hgx hR hL hY h0
 have hk0:=hR _ _ h0
 obtain⟨D,ho,hD⟩:=hk0.set.ex
 have hlt:=hk0.set.lt
 have c1:=hk0.box
 obtain⟨lq,hlq⟩:=hL
 have hbl:b≠l:=fun e=>by
  obtain⟨es,clock,hb,_⟩:=ho
  rw [e,hlq] at hb;cases hb
 have hll:l < W.heap.size:=(qL hlq)
 have HST:=qH hst;have HG:=qH hgr;have HGX:=qH hgx;have HY:=qH hY;have H0:=qH h0;have HD:=qH hD;have HO:=qH ho;have HLT:=qH hlt;have HBL:=qH hbl;have HLL:=qH hll
 clear hst hgr hgx hR hlq hY h0 hk0 hD ho hlt hbl hll
 refine callsIn_of_wp Tryz.func89 rfl trivial ?_ rfl
 simp only [Tryz.ntmps89,List.size_toArray,List.length_cons,List.length_nil,Nat.reduceAdd,Nat.reduceSub,Array.replicate_succ,Array.replicate_zero,List.push_toArray,List.append_toArray,List.nil_append,List.cons_append]
 gi_wp2_with (gi_at_range;refine wpListIn_range_own _ rfl _ 77 rfl 72 94 Md.law_pair Tryz.underlying77 unitElem b n D rfl HO.out ?_;intro w0 hrg0 hg0 hs0;have HRG0:=qH hrg0;have HG0:=qH hg0;clear hrg0 hg0 hs0)
 try go_frame
 clear c1
 gi_loopw [3] (fun _ wr=>∃ (left:Lit→Bool) (cnt:Nat) (ss:List (Nat × Nat)),wr.ranges Tryz.prog 72 unitElem b W.heap.size n D left cnt∧Md.Met S left ss∧J ss wr) (fun _ wr=>wr.rangeLeft b W.heap.size)
 case atStart =>
  exact⟨_,_,[],HRG0.out,Md.Met.start HD.out.1 HLT.out,HST.out _ _ _ H0.out ⟨HG0.out.os,HG0.out.tape,HG0.out.output,HG0.out.size,fun i hi=>HG0.out.block i hi (by simp)⟩⟩
 case round =>
  obtain⟨left,cnt,ss,hrg,hM,hJs⟩:=hrel
  have HRG:=qH hrg;have HM:=qH hM;have HJ:=qH hJs
  clear hrg hM hJs
  gi_wp2_with (gi_at_next;refine wpListIn_next_ranges _ rfl _ rfl 72 Md.law_pair unitElem (fun x:Int × Int=>.agg #[.int .i64 x.1,.int .i64 x.2]) (fun _:Unit=>.agg #[]) (fun key kl hk=>Md.key_inv hk) (fun v y hv=>⟨(),(unitElem_inv hv).1⟩) b W.heap.size n _ _ _ rfl HRG.out ?_ ?_)
  ·intro hc0 hl0
   have HL0:=qH hl0
   clear hc0 hl0
   gi_wp2_with fail
   go_end0
   exact⟨⟨_,rfl⟩,.inl ⟨ss,⟨HM.out.nd,HM.out.all HL0.out⟩,HJ.out⟩⟩
  ·intro x1 x2 kl yd yp w2 cnt2 hkey hlk hv hat hrg2 hlt2 hg2 hs2 hen
   obtain⟨p,hp,rfl,hxe⟩:=Md.lit_of (x:=(x1,x2)) HD.out.2 HLT.out hkey hat
   obtain⟨rfl,rfl⟩:=Prod.mk.inj hxe
   have HM2:=qH (HM.out.step HLT.out hp hlk)
   obtain⟨oit,hoit,hoc⟩:∃ o,wr.heap[W.heap.size]?=some o∧o.isCells=false:=by
    obtain⟨es,clock,since,seen,c0,_,_,_,_,hr,_⟩:=HRG.out
    exact⟨_,hr,rfl⟩
   have HJ2:=qH (HG.out ss wr w2 W.heap.size oit HJ.out (Nat.le_refl _) hoit hoc hg2)
   have HPS:=qH hp
   have HRG2:=qH hrg2;have HLT2:=qH hlt2;have HG2:=qH hg2
   clear hkey hlk hv hat hrg2 hlt2 hg2 hs2 hoit hoc hp
   obtain⟨W1,hW1⟩:∃ W1,W1=w2.alloc (.cells #[.int .i64 (p.1:Int),.int .i64 (p.2:Int)] 72):=⟨_,rfl⟩
   obtain⟨fn,tmps,assign,body,hy,hRd⟩:=HY.out ss p _ W1 ⟨HPS.out,HM2.out.1,HM.out.nd,HM.out.sub,rfl⟩ (HST.out _ _ _ HJ2.out (by rw [hW1];exact(Below.refl _ _).alloc (Nat.le_refl _) _))
   rw [hW1] at hy
   have HW1:=qH hW1;clear hW1
   have hy:Sem.run Tryz.prog (Instr.yield l #[.agg #[.int .i64 (p.1:Int),.int .i64 (p.2:Int)]]) (w2.alloc (.cells #[.int .i64 (p.1:Int),.int .i64 (p.2:Int)] 72))=Result.ok (Next.round l fn tmps assign body) (w2.alloc (.cells #[.int .i64 (p.1:Int),.int .i64 (p.2:Int)] 72)):=hy
   gi_wp2_with fail
   rw [← HW1.out]
   refine hRd.mono ?_
   rintro e W3 ⟨hkb,hsz,(⟨rfl,hJ3⟩ | ⟨rfl,hJx3⟩)⟩
   ·have HRG3:=qH (show W3.ranges Tryz.prog 72 unitElem b W.heap.size n D (fun z=>left z&&!z.sameKey (Md.plit p)) cnt2 by
     have hrg:=HRG2.out.alloc (.cells #[.int .i64 (p.1:Int),.int .i64 (p.2:Int)] 72)
     rw [← HW1.out] at hrg
     obtain⟨es,clock,since,seen,c0,hb,F,hs,hDD,hr,rest⟩:=hrg
     exact⟨es,clock,since,seen,c0,hkb b _ HBL.out hb rfl,F,hs,hDD,hkb _ _ (by have:=HLL.out;omega) hr rfl,rest⟩)
    have HJ3:=qH hJ3;clear hJ3 hy hRd hkb hsz
    gi_wp2_with fail
    go_roundw
    case rel=>exact⟨_,cnt2,ss++[p],HRG3.out,HM2.out.2,HJ3.out⟩
    case measure=>rw [HRG3.out.left_eq,HRG.out.left_eq];exact HLT2.out
   ·have HJ3:=qH hJx3;clear hJx3 hy hRd hkb hsz
    gi_wp2_with fail
    refine bodyPost_ret (results_none rfl _ _ _) rfl ?_
    exact⟨⟨_,rfl⟩,.inr HJ3.out⟩
end Go.Proofs.YtnjnpbabgefaeaaGreat
end
section
namespace Go.Proofs.YtnjnpbabgefaeaaGreat
open Go.RowKit
namespace Md
open Ev
def gI (ps:List (Nat × Nat)):List (Int × Int):=ps.map fun p=>((p.1:Int),(p.2:Int))
theorem mem_gI {ps:List (Nat × Nat)} {a b:Int}:(a,b) ∈ gI ps↔∃ i j:Nat,(i,j) ∈ ps∧(i:Int)=a∧(j:Int)=b:=by
 unfold gI
 simp only [List.mem_map,Prod.mk.injEq,Prod.exists]
theorem rk_gI {ps:List (Nat × Nat)}:Rk (gI ps)↔∃ gr:Nat→Int,∀ p ∈ ps,gr p.1 < gr p.2:=by
 constructor
 ·rintro⟨rank,h⟩
  exact⟨fun a=>rank a,fun p hp=>h (p.1,p.2) (mem_gI.2 ⟨p.1,p.2,hp,rfl,rfl⟩)⟩
 ·rintro⟨gr,h⟩
  refine⟨fun a=>gr a.toNat,fun p hp=>?_⟩
  obtain⟨i,j,hm,e1,e2⟩:=mem_gI.1 (show(p.1,p.2) ∈ gI ps from hp)
  rw [← e1,← e2]
  simpa using h (i,j) hm
theorem mem_pl {is:Nat→Nat→Bool} {n a b:Nat}:(a,b) ∈ pl is n n↔a < n∧b < n∧is a b=true:=pl_mem (p:=(a,b))
def oneA (x:X) (p:Nat × Nat):Bool:=!((nth x.ev (p.1:Int)).k==4)&&!((nth x.ev (p.2:Int)).k==4)&&(nth x.ev (p.1:Int)).a==(nth x.ev (p.2:Int)).a
def cohL (x:X):List (Nat × Nat):=let n:=x.ev.length
 pl (isRf x) n n++pl (fun a b:Nat=>isCo x (a:Int) (b:Int)) n n++pl (isFr x) n n++(pl (isPo x) n n).filter (oneA x)
theorem inR_pl {n:Nat} (hn:n≤64) {ps:List (Nat × Nat)} (h:∀ p ∈ ps,p.1 < n∧p.2 < n):InR n (gI ps):=by
 refine⟨by omega,by omega,fun p hp=>?_⟩
 obtain⟨i,j,hm,e1,e2⟩:=mem_gI.1 (show(p.1,p.2) ∈ gI ps from hp)
 have:=h _ hm
 simp only at this;omega
end Md
end Go.Proofs.YtnjnpbabgefaeaaGreat
end
section
namespace Go.Proofs.YtnjnpbabgefaeaaGreat
open Go.RowKit
namespace Md
open Ev
def Allow (x:X):Prop:=atomB x=true∧(∃ gr:Nat→Int,∀ a b,(exe x).G a b→gr a < gr b)∧(∃ gc:Nat→Int,∀ a b,(exe x).C a b→gc a < gc b)
theorem allow_ax {x:X} (hc:check x=0):Allow x↔(atomB x&&byOrd x)=true:=by
 unfold Allow
 rw [Bool.and_eq_true,byOrd_iff hc]
end Md
end Go.Proofs.YtnjnpbabgefaeaaGreat
end
section
namespace Go.Proofs.YtnjnpbabgefaeaaGreat
open Go.RowKit
attribute [local go_sem] or_store_func
attribute [local go_sem] Oper.semAt_some
theorem Md.wpListIn_load_row {F:Fence} {n:Nat} {P:Program} {ops:Array Oper} {rest:List Oper} {o:Oper} {a:Act} {w:World} {Q:Exit→Act→World→Prop} (hgd:o.guard=none) (ty:TypeId) (x:Operand) (ho:o.op=.load ty x)
 (g:Nat) (hx:a.eval x=.pointer (some ⟨g,0,none⟩)) (t:TypeId) (cs:Array Value) (fr:Nat × Nat) (d:TypeDesc) (hg:w.heap[g]?=some (.cells cs t fr))
 (hu:P.underlying ty=some d) (hd:(match d with | .struct _ | .array _ _=>true | _=>false)=true) (hi:(P.info? ty).map (·.size)=some cs.size)
 (h:wpListIn F n P ops Q rest (a.put o.dst (.agg cs)) w):wpListIn F n P ops Q (o :: rest) a w:=by
 refine wpListIn_plain hgd fun K' hK'=>?_
 unfold Oper.wpIn
 refine⟨by simp [Oper.about,ho],?_⟩
 rw [Oper.semAt_plain F _ _ (by rw [ho];intro c hc';cases hc')]
 unfold execOp
 simp only [ho,hx,Instr.loadAt,Instr.sureAddr,Sem.run_bind,Sem.run_pure,Result.andThen_ok,run_loadVar_row w g t ty cs fr d hg hu hd hi]
 exact hK' _ _ h
theorem Or.Acc.grown {w:World} {B:Nat} {T E:TypeId} {sz k:Nat} {xs:List Value} {W W':World} (h:Or.Acc w B T E sz k xs W) {r:Nat} {o:Obj} (hr:w.heap.size≤r) (ho:W.heap[r]?=some o) (hc:o.isCells=false) (hg:W.grownBy W' (some r)):Or.Acc w B T E sz k xs W':=by
 obtain⟨v,h1,h2⟩:=h.out
 refine⟨h.bel.grown hg h.bel.size (fun j hj=>by cases hj;exact hr),v,(hg.block B h1.lt (fun e=>?_)).trans h1,h2.kept hg ?_⟩
 ·cases e;rw [show W.heap[B]?=_ from h1] at ho;cases ho;cases hc
 ·rcases h2.2 with ⟨rfl,_⟩ | ⟨g,cap,cur,rfl,_,hh,_⟩
  ·exact .inl rfl
  ·refine .inr fun e=>?_
   have:g=r:=by simpa [Value.ownBlock] using e
   subst this;rw [hh] at ho;cases ho;cases hc
theorem pappendSeq_any (G:FuncId) (caps:Array Value) (R:World→Prop) (S:List (Nat × Nat)) (hS:S.length≤65536) (w:World) (hE:∀ args w,(callFunc G args).run Tryz.prog w=.ok (.enter G args) w) (hR:∀ (ss:List (Nat × Nat)) (W:World),Below w.heap.size w W→R W)
 (hit:Og.IterS Fence.wide 4 Tryz.prog G caps R (fun p:Nat × Nat=>#[Md.pkV p]) (Md.kst S) [] (Md.kfin S)) :
 Calls Tryz.prog 113 #[.slice none 0 0,.func (.func G) #[] caps] w fun r w'=>∃ v ss,r=.returned v∧Md.kfin S ss∧w'.ownsRow w.heap.size 72 2 v ss.length (ss.flatMap Ev.pv)∧Below w.heap.size w w':=by
 obtain⟨W0,hW0⟩:∃ W0,w.alloc (.cells #[.slice none 0 0] 37)=W0:=⟨_,rfl⟩
 have hsz:W0.heap.size=w.heap.size+1:=by rw [← hW0];simp
 have hA:Or.Acc w w.heap.size 37 72 2 0 [] W0:=by
  rw [← hW0];exact⟨(Below.refl _ w).alloc (Nat.le_refl _) _,_,Boxed.new w _ _,World.ownsRow_nil _ _ _ _⟩
 have HA:=qH hA;have HSZ:=qH hsz;have HW0:=qH hW0;have HR:=qH hR
 have HIT:=qH hit;have HE:=qH hE
 obtain⟨i0,hi,hz0,hz1,hz2⟩:=info_pair
 have HI:=qH hi;have HZ0:=qH hz0;have HZ1:=qH hz1;have HZ2:=qH hz2
 clear hA hsz hW0 hit hR hE hi hz0 hz1 hz2
 refine(callsIn_wide (n:=5)).1 ?_
 refine callsIn_of_wp_marks Tryz.func113 rfl trivial ?_ rfl
 simp only [Tryz.ntmps113,List.size_toArray,List.length_cons,List.length_nil,Nat.reduceAdd,Nat.reduceSub,Array.replicate_succ,Array.replicate_zero,List.push_toArray,List.append_toArray,List.nil_append,List.cons_append]
 refine wpIn_wide.2 ?_
 go_wp2_with fail
 rw [HW0.out]
 clear HW0
 refine(wpIn_wide (n:=5)).1 ?_
 refine Og.wpIn_rangeFunc_sts (α:=Nat × Nat) (σ:=List (Nat × Nat)) rfl (by decide) (gf:=G) (lb:=caps) rfl trivial HE.out
  HIT.out (fun _=>rfl)
  (fun ss W=>Or.Acc w w.heap.size 37 72 2 ss.length (ss.flatMap Ev.pv) W) (fun c W=>False)
  (fun k A A' h hb=>h.kp hb) (fun k A l o o' h hl ho hc=>h.putObj o' (by have:=HSZ.out;omega) ho hc)
  (fun k A A' r o h hr ho hc hg=>h.grown (by have:=HSZ.out;omega) ho hc hg) (fun c A A' r o h _ _ _ _=>h) (fun c A l o o' h hl ho hc=>h)
  (fun k A h=>HR.out k A h.bel) HA.out
  (fun p U=>{ tmps:=#[.slice none 0 0,.func (.func G) #[] caps,.pointer (some ⟨w.heap.size,0,none⟩),undef,.slice none 0 0,.pointer (some ⟨U.heap.size,0,none⟩),.func (.func G) #[] caps,Md.pkV p,undef,undef,undef,undef,undef],defers:=[] })
  (fun p U=>U.alloc (.cells #[.int .i64 (p.1:Int),.int .i64 (p.2:Int)] 72)) (fun p U=>(Below.refl _ _).alloc (Nat.le_refl _) _) ?assign ?body ?done ?stop
 case assign =>
  rintro l m W K hK
  have HK:=qH hK;clear hK
  unfold Md.pkV
  gi_wp2_with fail
  exact HK.out
 case body =>
  rintro l ss ss2 p U W hs hAU hA hcl hsz
  obtain⟨hp,hn,hnd,hsub,rfl⟩:=hs
  have hlen:ss.length≤65536:=Nat.le_trans (Ev.nodup_le hnd hsub) hS
  have RWP:=qH (hcl U.heap.size _ (heap_alloc_new _ _) rfl)
  obtain⟨ad,cc,hv,hr⟩:=hA.form
  have c2:=hv.cell
  have HV:=qH hv;have HRR:=qH hr;have HB:=qH hA.bel
  clear hA hAU hv hr hp hn hnd hsub hcl hsz
  unfold Md.pkV
  gi_wp2_with (first
   | ((with_reducible show wpListIn _ _ _ _ _ (Oper.mk (some 9) _ _ _ _ _ :: _) _ _);refine Md.wpListIn_load_row rfl 72 (.tmp 5) rfl U.heap.size (by kernel_rfl) 72 #[.int .i64 (p.1:Int),.int .i64 (p.2:Int)] (0,0) _ RWP.out Tryz.underlying72 rfl (by kernel_rfl) ?_)
   | ((with_reducible show wpListIn _ _ _ _ _ (Oper.mk (some 11) _ _ _ _ _ :: _) _ _);refine wpListIn_append_own (W.alloc (.cells #[.int .i64 (p.1:Int),.int .i64 (p.2:Int)] 72)) rfl (.tmp 8) (.tmp 10) 37 rfl w.heap.size 72 i0 (.agg #[.int .i64 0,.int .i64 0]) 2 16 Tryz.underlying37 HI.out HZ0.out HZ1.out HZ2.out rfl (by decide) _ _ _ rfl (HRR.out.alloc _) ⟨W.heap.size,0,none⟩ 1 1 (Ev.pv p) rfl rfl (fun j u hu=>World.news_of_block (heap_alloc_new W _) j u hu) (Ev.pv_one _) (by unfold maxLen;omega) (by omega) (by have:=HB.out.size;simp only [World.size_alloc];omega) ?_
      intro v' w3 hown hgrow _
      obtain⟨gb,cp',rfl⟩:=Or.row_succ hown
      obtain⟨f1,f2,f3,f4,f5⟩:=Boxed.appended HV.out (by decide) HRR.out HB.out.size (Nat.le_refl _) hown hgrow
      have hf1:=f1.cell;have hf2:=f1.frozen
      have F4:=qH f4;have F5:=qH (HB.out.trans f5)
      have FA:=qH (And.intro f2 f3)
      clear f1 f2 f3 f4 f5 hown hgrow c2))
  refine⟨F4.out,F5.out,_,FA.out.1,?_⟩
  have h:=FA.out.2
  rw [List.length_append,List.flatMap_append]
  simpa using h
 case done =>
  rintro D ss W hD hf hA hK
  obtain⟨ad,cc,hv,hr⟩:=hA.form
  have c2:=hv.cell
  have HRR:=qH hr;have HB:=qH hA.bel;have HK:=qH hK;have HDD:=qH hD;have HAA:=qH hA;have HF:=qH hf
  clear hv hr hA hK hD hf
  go_wp2_with fail
  refine⟨by simp,.inl ⟨_,_,rfl,run_takeDeferred HK.out,?_⟩⟩
  refine⟨_,results_tmp (fn:=Tryz.f113) rfl _ _ _,⟨_,ss,rfl,HF.out,?_,Or.below_putObj HB.out (by have:=HDD.out;have:=HSZ.out;omega)⟩⟩
  have hr:=HRR.out
  have hk:∀ (j:Nat) (x:Obj),W.heap[j]?=some x→x.isCells=true→(W.putObj D (.deferred none)).heap[j]?=some x:=fun j x hx hxc=>(World.putObj_heap_other (fun e=>by subst e;rw [HK.out] at hx;cases hx;cases hxc)).trans hx
  exact⟨hr.1,hr.2.imp id fun ⟨g,cap,cur,e1,e2,e3,r⟩=>⟨g,cap,cur,e1,e2,hk g _ e3 rfl,r⟩⟩
 case stop =>
  rintro D c W hD h hK
  exact h.elim
end Go.Proofs.YtnjnpbabgefaeaaGreat
end
section
namespace Go.Proofs.YtnjnpbabgefaeaaGreat
open Go.RowKit
namespace Md
open Ev
structure One (xs:List R) (fr:List Int) (od:List (List Int)):Prop where
 b:Bl2 xs fr od
 ol:od.length=4
 h0:∀ i:Nat,4≤i→i < xs.length→(nth xs (i:Int)).h=0∧(nth xs (i:Int)).z=false∧((nth xs (i:Int)).k=1∨(nth xs (i:Int)).k=2)
 rd:∀ i:Nat,4≤i→i < xs.length→(nth xs (i:Int)).k=1→∃ f:Nat,fr.getD i 0=f∧f < i∧∀ s:Nat,f < s→s < i→¬ (stores (nth xs (s:Int)).k=true∧(nth xs (s:Int)).a=(nth xs (i:Int)).a)
 srt:∀ (b:Nat) l,od[b]?=some l→l.Pairwise (· < ·)
 cmp:∀ (b:Nat) l,od[b]?=some l→∀ s:Nat,s < xs.length→stores (nth xs (s:Int)).k=true→(nth xs (s:Int)).a=4 * b→(s:Int) ∈ l
theorem srt_place {x:X} (hc:check x=0) (hs:∀ (b:Nat) s,x.od[b]?=some s→s.l.Pairwise (· < ·)) {a b:Nat} (ha:a < x.ev.length) (hb:b < x.ev.length) (sa:stores (nth x.ev a).k=true) (sb:stores (nth x.ev b).k=true) (he:(nth x.ev a).a=(nth x.ev b).a):place x a < place x b↔a < b:=by
 obtain⟨i,s,v,h1,h2,h3,h4,hp⟩:=place_at hc ha sa
 obtain⟨j,t,u,k1,k2,k3,k4,kp⟩:=place_at hc hb sb
 have hij:i=j:=beg_inj (ev_all hc) h2 k2 (by rw [h3,k3,he])
 rw [← hij,h1] at k1
 obtain rfl:s=t:=Option.some.inj k1
 have hpw:=List.pairwise_iff_getElem.1 (hs i s h1)
 obtain⟨l1,e1⟩:=List.getElem?_eq_some_iff.1 h4
 obtain⟨l2,e2⟩:=List.getElem?_eq_some_iff.1 k4
 rw [hp,kp]
 constructor
 ·intro h
  have:=hpw v u l1 l2 (by omega);rw [e1,e2] at this;omega
 ·intro h
  rcases Nat.lt_trichotomy v u with k | k | k
  ·omega
  ·subst k;rw [e1] at e2;omega
  ·have:=hpw u v l2 l1 k;rw [e1,e2] at this;omega
variable {x:X}
theorem One.sorted (h:One x.ev x.fr.l (x.od.map (·.l))):∀ (b:Nat) s,x.od[b]?=some s→s.l.Pairwise (· < ·):=fun b s hs=>h.srt b s.l (by rw [List.getElem?_map,hs];rfl)
theorem One.ld (h:One x.ev x.fr.l (x.od.map (·.l))) {n:Nat} (hl:(exe x).ld n):4≤n∧(nth x.ev (n:Int)).k=1:=by
 have hn:4≤n:=by
  apply Classical.byContradiction;intro hn
  have:=(h.b.beg n (by rw [h.ol];omega)).1
  have hk:=hl.2;rw [this] at hk;cases hk
 refine⟨hn,?_⟩
 rcases(h.h0 n hn hl.1).2.2 with k | k
 ·exact k
 ·have hk:=hl.2;rw [k] at hk;cases hk
theorem One.fr (hc:check x=0) (h:One x.ev x.fr.l (x.od.map (·.l))) {n m:Nat} (hf:(exe x).fr n m):n < m:=by
 obtain⟨hne,hl,hco⟩:=hf
 obtain⟨hn,hk⟩:=h.ld hl
 obtain⟨f,e,hfn,hno⟩:=h.rd n hn hl.1 hk
 have hrf:(exe x).rf n=f:=by show(frAt x n).toNat=f;unfold frAt;rw [e];simp
 rw [hrf] at hco
 have hfm:=(srt_place hc h.sorted hco.1.1 hco.2.1.1 hco.1.2 hco.2.1.2 hco.2.2.1).1 hco.2.2.2
 have hr:=(exe_ok hc).rfst hl
 rw [hrf] at hr
 rcases Nat.lt_trichotomy n m with k | k | k
 ·exact k
 ·exact absurd k hne
 ·exact absurd ⟨hco.2.1.2,hco.2.2.1.symm.trans hr.2.1⟩ (hno m hfm k)
theorem One.rf (h:One x.ev x.fr.l (x.od.map (·.l))) {n:Nat} (hl:(exe x).ld n):(exe x).rf n < n:=by
 obtain⟨hn,hk⟩:=h.ld hl
 obtain⟨f,e,hfn,hno⟩:=h.rd n hn hl.1 hk
 have hrf:(exe x).rf n=f:=by show(frAt x n).toNat=f;unfold frAt;rw [e];simp
 omega
end Md
end Go.Proofs.YtnjnpbabgefaeaaGreat
end
section
namespace Go.Proofs.YtnjnpbabgefaeaaGreat
open Go.RowKit
def Md.cmpI (a b:Int):Int:=if a < b then -1 else if b < a then 1 else 0
def Md.orI (a b:Int):Int:=if a=0 then b else a
def Md.cmpP (p q:Nat × Nat):Int:=Md.orI (Md.cmpI (p.1:Int) (q.1:Int)) (Md.cmpI (p.2:Int) (q.2:Int))
theorem isNaN_any (a:Int) (w:World):Calls Tryz.prog 90 #[.int .i64 a] w fun e w'=>e=.returned (.bool false)∧w=w':=by
 go_enter Tryz.func90,Tryz.ntmps90
 go_wp2
 go_ret
 exact⟨rfl,rfl⟩
theorem compare_any (a b:Int) (w:World):Calls Tryz.prog 64 #[.int .i64 a,.int .i64 b] w fun e w'=>e=.returned (.int .i64 (Md.cmpI a b))∧w=w':=by
 obtain⟨r,hr⟩:∃ r,Md.cmpI a b=r:=⟨_,rfl⟩
 have HR:=qH hr
 rw [hr]
 clear hr
 have hc:a < b∨(¬ a < b∧b < a)∨(¬ a < b∧¬ b < a):=by omega
 rcases hc with h | ⟨h1,h2⟩ | ⟨h1,h2⟩
 ·have HV:=qH (show r=-1 by rw [← HR.out];unfold Md.cmpI;rw [if_pos h])
  go_enter Tryz.func64,Tryz.ntmps64
  go_wp2_with (go_at_call 90;refine(isNaN_any _ _).mono ?_;rintro e w' ⟨rfl,rfl⟩)
  go_ret
  exact⟨by rw [HV.out];rfl,rfl⟩
 ·have HV:=qH (show r=1 by rw [← HR.out];unfold Md.cmpI;rw [if_neg h1,if_pos h2])
  go_enter Tryz.func64,Tryz.ntmps64
  go_wp2_with (go_at_call 90;refine(isNaN_any _ _).mono ?_;rintro e w' ⟨rfl,rfl⟩)
  go_ret
  exact⟨by rw [HV.out];rfl,rfl⟩
 ·have HV:=qH (show r=0 by rw [← HR.out];unfold Md.cmpI;rw [if_neg h1,if_neg h2])
  go_enter Tryz.func64,Tryz.ntmps64
  go_wp2_with (go_at_call 90;refine(isNaN_any _ _).mono ?_;rintro e w' ⟨rfl,rfl⟩)
  go_ret
  exact⟨by rw [HV.out];rfl,rfl⟩
theorem cmpOr_any (g:Nat) (a b:Int) (w:World) (h0:w.cell? ⟨g,0,none⟩=some (.int .i64 a)) (h1:w.cell? ⟨g,1,none⟩=some (.int .i64 b)) :
 Calls Tryz.prog 63 #[.slice (some ⟨g,0,none⟩) 2 2] w fun e w'=>e=.returned (.int .i64 (Md.orI a b))∧w=w':=by
 obtain⟨r,hr⟩:∃ r,Md.orI a b=r:=⟨_,rfl⟩
 have HR:=qH hr
 rw [hr]
 clear hr
 by_cases ha:a=0
 ·subst ha
  by_cases hb:b=0
  ·subst hb
   have HV:=qH (show r=0 by rw [← HR.out];rfl)
   go_enter Tryz.func63,Tryz.ntmps63
   go_wp2
   refine wp_loop_rounds 3 ?_
   rw [rounds_succ]
   go_wp2
   rw [rounds_succ]
   go_wp2
   rw [rounds_succ]
   go_wp2
   go_ret
   exact⟨by rw [HV.out];rfl,rfl⟩
  ·have HV:=qH (show r=b by rw [← HR.out];rfl)
   have hb':(b != 0)=true:=by simpa using hb
   go_enter Tryz.func63,Tryz.ntmps63
   go_wp2
   refine wp_loop_rounds 3 ?_
   rw [rounds_succ]
   go_wp2
   rw [rounds_succ]
   go_wp2
   go_ret
   exact⟨by rw [HV.out];rfl,rfl⟩
 ·have HV:=qH (show r=a by rw [← HR.out];unfold Md.orI;rw [if_neg ha])
  have ha':(a != 0)=true:=by simpa using ha
  go_enter Tryz.func63,Tryz.ntmps63
  go_wp2
  refine wp_loop_rounds 3 ?_
  rw [rounds_succ]
  go_wp2
  go_ret
  exact⟨by rw [HV.out];rfl,rfl⟩
theorem Md.grow3 (w:World) (a b c:Obj):World.alloc { (w.alloc a).alloc b with drawn:=((w.alloc a).alloc b).drawn+1 } c=Sort.grow (w.drewN 1) #[a,b,c]:=by
 have h:((w.heap.push a).push b).push c=w.heap++#[a,b,c]:=by apply Array.ext';simp
 unfold Sort.grow World.drewN
 rw [← h]
 rfl
theorem cmpP_any (p q:Nat × Nat) (w:World):Calls Tryz.prog 62 #[Md.pkV p,Md.pkV q] w fun e w'=>e=.returned (.int .i64 (Md.cmpP p q))∧∃ n os',w'=Sort.grow (w.drewN n) os':=by
 unfold Md.pkV
 obtain⟨r,hr⟩:∃ r,Md.cmpP p q=r:=⟨_,rfl⟩
 have HR:=qH hr
 rw [hr]
 clear hr
 go_enter Tryz.func62,Tryz.ntmps62
 go_wp2
 obtain⟨B,hB⟩:∃ B,B=(w.alloc (.cells #[.int .i64 (p.1:Int),.int .i64 (p.2:Int)] 72)).alloc (.cells #[.int .i64 (q.1:Int),.int .i64 (q.2:Int)] 72):=⟨_,rfl⟩
 rw [← hB]
 obtain⟨V,hV⟩:∃ V:World,V={ B with drawn:=B.drawn+1 }:=⟨_,rfl⟩
 have r0:V.heap[w.heap.size]?=some (.cells #[.int .i64 (p.1:Int),.int .i64 (p.2:Int)] 72 (0,0)):=by
  rw [hV,hB];exact(((Below.refl _ _).alloc (Nat.le_refl _) _).block _ (by simp)).trans (heap_alloc_new w _)
 have r1:V.heap[w.heap.size+1]?=some (.cells #[.int .i64 (q.1:Int),.int .i64 (q.2:Int)] 72 (0,0)):=by
  rw [hV,hB];have h:=heap_alloc_new (w.alloc (.cells #[.int .i64 (p.1:Int),.int .i64 (p.2:Int)] 72)) (.cells #[.int .i64 (q.1:Int),.int .i64 (q.2:Int)] 72);rw [World.size_alloc] at h;exact h
 have c0:V.cell? ⟨w.heap.size,0,none⟩=some (.int .i64 (p.1:Int)):=by rw [qC r0];rfl
 have c1:V.cell? ⟨w.heap.size,1,none⟩=some (.int .i64 (p.2:Int)):=by rw [qC r0];rfl
 have c2:V.cell? ⟨w.heap.size+1,0,none⟩=some (.int .i64 (q.1:Int)):=by rw [qC r1];rfl
 have c3:V.cell? ⟨w.heap.size+1,1,none⟩=some (.int .i64 (q.2:Int)):=by rw [qC r1];rfl
 have HB:=qH hB;have HV:=qH hV;clear hB r0 r1
 refine wp_region_still_tail 10 (by kernel_rfl) (by kernel_rfl) ?_
 rw [← hV]
 clear hV
 simp only [List.take_succ_cons,List.take_zero,List.drop_succ_cons,List.drop_zero]
 still_step
 still_step
 still_step
 still_step
 still_call ((compare_any _ _ _).mono fun _ _ h=>⟨h.1,h.2.symm⟩)
 still_step
 still_step
 still_step
 still_step
 still_call ((compare_any _ _ _).mono fun _ _ h=>⟨h.1,h.2.symm⟩)
 refine wpStill_nil ?_
 clear c0 c1 c2 c3
 obtain⟨d1,hd1⟩:∃ d,Md.cmpI (p.1:Int) (q.1:Int)=d:=⟨_,rfl⟩
 obtain⟨d2,hd2⟩:∃ d,Md.cmpI (p.2:Int) (q.2:Int)=d:=⟨_,rfl⟩
 rw [hd1,hd2]
 have HD1:=qH hd1;have HD2:=qH hd2
 clear hd1 hd2
 go_wp2_with (go_at_call 63;refine(cmpOr_any V.heap.size d1 d2 _ (by rw [qC (heap_alloc_new V _)];rfl) (by rw [qC (heap_alloc_new V _)];rfl)).mono ?_;rintro e w' ⟨rfl,rfl⟩)
 go_ret
 refine⟨?_,1,#[.cells #[.int .i64 (p.1:Int),.int .i64 (p.2:Int)] 72,.cells #[.int .i64 (q.1:Int),.int .i64 (q.2:Int)] 72,.cells #[.int .i64 d1,.int .i64 d2] 3],?_⟩
 ·rw [← HR.out,← HD1.out,← HD2.out];rfl
 ·rw [HV.out,HB.out]
  exact Md.grow3 w _ _ _
end Go.Proofs.YtnjnpbabgefaeaaGreat
end
section
namespace Go.Proofs.YtnjnpbabgefaeaaGreat
open Go.RowKit
namespace Md
open Ev
theorem fr_iff {x:X} (hc:check x=0) {a b:Nat} (ha:a < x.ev.length) (hb:b < x.ev.length):isFr x a b=true↔(exe x).fr a b:=by
 unfold isFr Exe.fr
 simp only [Bool.and_eq_true,Bool.not_eq_true',decide_eq_false_iff_not]
 constructor
 ·rintro⟨⟨h1,h2⟩,h3⟩
  obtain⟨f,hf,e,_⟩:=from_ok hc ha h2
  have hrf:(exe x).rf a=f:=by show(frAt x a).toNat=f;omega
  rw [e] at h3
  exact⟨h1,⟨ha,h2⟩,by rw [hrf];exact(co_iff hf hb).1 h3⟩
 ·rintro⟨h1,h2,h3⟩
  obtain⟨f,hf,e,_⟩:=from_ok hc ha h2.2
  have hrf:(exe x).rf a=f:=by show(frAt x a).toNat=f;omega
  rw [hrf] at h3
  exact⟨⟨h1,h2.2⟩,by rw [e];exact(co_iff hf hb).2 h3⟩
theorem rf_iff {x:X} (hc:check x=0) {a b:Nat} (hb:b < x.ev.length):isRf x a b=true↔(exe x).ld b∧(exe x).rf b=a:=by
 unfold isRf
 simp only [Bool.and_eq_true,beq_iff_eq]
 constructor
 ·rintro⟨h1,h2⟩
  exact⟨⟨hb,h1⟩,by show(frAt x b).toNat=a;omega⟩
 ·rintro⟨h1,h2⟩
  obtain⟨f,hf,e,_⟩:=from_ok hc hb h1.2
  have hrf:(exe x).rf b=f:=by show(frAt x b).toNat=f;omega
  exact⟨h1.2,by omega⟩
theorem G_iff {x:X} (hc:check x=0) {a b:Nat} (ha:a < x.ev.length) (hb:b < x.ev.length):isG6 x a b=true↔(exe x).G a b:=by
 unfold isG6 Exe.G
 simp only [Bool.or_eq_true,Bool.and_eq_true,bne_iff_ne]
 rw [co_iff ha hb,fr_iff hc ha hb,rf_iff hc hb]
 constructor
 ·rintro(((h | h) | h) | h)
  ·exact .inl ⟨ha,hb,h⟩
  ·exact .inr (.inr (.inl h))
  ·exact .inr (.inr (.inr h))
  ·exact .inr (.inl ⟨h.1.1,h.1.2,h.2⟩)
 ·rintro(h | h | h | h)
  ·exact .inl (.inl (.inl h.2.2))
  ·exact .inr ⟨⟨h.1,h.2.1⟩,h.2.2⟩
  ·exact .inl (.inl (.inr h))
  ·exact .inl (.inr h)
theorem G_in {x:X} (hc:check x=0) {a b:Nat} (h:(exe x).G a b):a < x.ev.length∧b < x.ev.length:=by
 have H:=exe_ok hc
 rcases h with h | h | h | h
 ·exact⟨h.1,h.2.1⟩
 ·obtain⟨hl,rfl,_⟩:=h
  exact⟨(H.rfst hl).1.1,hl.1⟩
 ·exact⟨h.1.1,h.2.1.1⟩
 ·exact⟨h.2.1.1,h.2.2.2.1.1⟩
theorem C_in {x:X} (hc:check x=0) {a b:Nat} (h:(exe x).C a b):a < x.ev.length∧b < x.ev.length:=by
 have H:=exe_ok hc
 rcases h with h | h | h | h
 ·exact⟨h.2.1.1,h.2.2.1.1⟩
 ·obtain⟨hl,rfl⟩:=h
  exact⟨(H.rfst hl).1.1,hl.1⟩
 ·exact⟨h.1.1,h.2.1.1⟩
 ·exact⟨h.2.1.1,h.2.2.2.1.1⟩
theorem rk_G {x:X} (hc:check x=0):Rk (gI (pl (isG6 x) x.ev.length x.ev.length))↔∃ gr:Nat→Int,∀ a b,(exe x).G a b→gr a < gr b:=by
 rw [rk_gI]
 constructor
 ·rintro⟨gr,h⟩
  exact⟨gr,fun a b k=>h (a,b) (mem_pl.2 ⟨(G_in hc k).1,(G_in hc k).2,(G_iff hc (G_in hc k).1 (G_in hc k).2).2 k⟩)⟩
 ·rintro⟨gr,h⟩
  refine⟨gr,fun p hp=>?_⟩
  obtain⟨h1,h2,h3⟩:=mem_pl.1 (show(p.1,p.2) ∈ _ from hp)
  exact h _ _ ((G_iff hc h1 h2).1 h3)
theorem mem_cohL {x:X} (hc:check x=0) {a b:Nat}:(a,b) ∈ cohL x↔(exe x).C a b:=by
 unfold cohL
 simp only [List.mem_append,List.mem_filter,mem_pl]
 constructor
 ·rintro(((⟨h1,h2,h⟩ | ⟨h1,h2,h⟩) | ⟨h1,h2,h⟩) | ⟨⟨h1,h2,h⟩,h'⟩)
  ·exact .inr (.inl ((rf_iff hc h2).1 h))
  ·exact .inr (.inr (.inl ((co_iff h1 h2).1 h)))
  ·exact .inr (.inr (.inr ((fr_iff hc h1 h2).1 h)))
  ·unfold oneA at h'
   simp only [Bool.and_eq_true,Bool.not_eq_true',beq_eq_false_iff_ne,beq_iff_eq] at h'
   exact .inl ⟨po_iff.1 h,⟨h1,h'.1.1⟩,⟨h2,h'.1.2⟩,h'.2⟩
 ·intro h
  obtain⟨h1,h2⟩:=C_in hc h
  rcases h with h | h | h | h
  ·refine .inr ⟨⟨h1,h2,po_iff.2 h.1⟩,?_⟩
   unfold oneA
   simp only [Bool.and_eq_true,Bool.not_eq_true',beq_eq_false_iff_ne,beq_iff_eq]
   exact⟨⟨h.2.1.2,h.2.2.1.2⟩,h.2.2.2⟩
  ·exact .inl (.inl (.inl ⟨h1,h2,(rf_iff hc h2).2 h⟩))
  ·exact .inl (.inl (.inr ⟨h1,h2,(co_iff h1 h2).2 h⟩))
  ·exact .inl (.inr ⟨h1,h2,(fr_iff hc h1 h2).2 h⟩)
theorem rk_C {x:X} (hc:check x=0):Rk (gI (cohL x))↔∃ gc:Nat→Int,∀ a b,(exe x).C a b→gc a < gc b:=by
 rw [rk_gI]
 constructor
 ·rintro⟨gr,h⟩
  exact⟨gr,fun a b k=>h (a,b) ((mem_cohL hc).2 k)⟩
 ·rintro⟨gr,h⟩
  exact⟨gr,fun p hp=>h _ _ ((mem_cohL hc).1 (show(p.1,p.2) ∈ _ from hp))⟩
end Md
end Go.Proofs.YtnjnpbabgefaeaaGreat
end
