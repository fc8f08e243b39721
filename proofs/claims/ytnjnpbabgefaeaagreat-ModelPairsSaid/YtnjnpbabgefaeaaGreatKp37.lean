import Derived.Test.YtnjnpbabgefaeaaGreatKp36
import Derived.Test.YtnjnpbabgefaeaaGreatKp35
import Derived.Test.YtnjnpbabgefaeaaGreatKp18
import Derived.Test.YtnjnpbabgefaeaaGreatKp27
import Derived.Test.YtnjnpbabgefaeaaGreatKp28
import Derived.Test.YtnjnpbabgefaeaaGreatKpH
set_option maxRecDepth 100000
set_option maxHeartbeats 4000000
set_option linter.unusedVariables false
set_option linter.unusedSimpArgs false
section
namespace Go.Proofs.YtnjnpbabgefaeaaGreat
open Go.RowKit
namespace Or
open Ev
def p2 (x:X) (a m:Nat):Bool:=stores (nth x.ev m).k&&oneW x a m
def p4 (x:X) (a b m:Nat):Bool:=(nth x.ev m).k==4&&isIn (nth x.ev m).p (nth x.ev a)&&isIn (nth x.ev m).s (nth x.ev b)
def p8 (x:X) (m:Nat):Bool:=(nth x.ev m).z
def p12 (x:X) (a b m:Nat):Bool:=frAt x b==(m:Int)&&(r9 x a m||r10 x a m)
def p13 (x:X) (a m:Nat):Bool:=r9 x a m
end Or
theorem c2_any (x:Ev.X) (q a m cq ca:Nat) (ha:a < x.ev.length) (hm:m < x.ev.length) (w:World) (hq:Or.As w q x) (hcq:Or.Box w cq 112 (.pointer (some ⟨q,0,none⟩))) (hca:Or.Box w ca 3 (.int .i64 (a:Int))) :
 Calls Tryz.prog 152 #[.int .i64 (m:Int),.pointer (some ⟨cq,0,none⟩),.pointer (some ⟨ca,0,none⟩)] w fun r w'=>r=.returned (.bool (Or.p2 x a m))∧Below w.heap.size w w':=by
 have hl1:=hq.xin.ev.le;have hl2:=hq.xin.ev.max
 obtain⟨e,he⟩:∃ e,x.ev[m]?=some e:=⟨_,List.getElem?_eq_getElem hm⟩
 obtain⟨g',o',eg,hce⟩:=hq.xin.ev.at_ he
 have HE:=qH (Ev.nth_some he)
 have HQ:=qH hq
 have HCE:=qH (show ∀ W,Below w.heap.size w W→∀ i c,(Ev.cells e)[i]?=some c→W.cell? ⟨g',o'+m * 13+i,none⟩=some c from fun W h i c hi=>Ev.kp_below h _ _ (hce i c hi))
 have hmi:(m:Int) < (x.ev.length:Int):=by omega
 have CX:=qH (show ∀ W,Below w.heap.size w W→W.cell? ⟨q,0,none⟩=some (.slice (some ⟨g',o',none⟩) x.ev.length x.ce) from fun W h=>by
  rw [← eg];exact(hq.kp h).c0)
 have cx:=CX.out w (Below.refl _ _)
 have W0:=qH (Below.refl w.heap.size w)
 have HEG:=qH eg
 clear he eg hce
 have KCq:=qH hcq;have kq:=hcq.cell
 have KCa:=qH hca;have ka:=hca.cell
 clear hcq hca
 obtain⟨s,hs⟩:∃ s,Ev.stores e.k=s:=⟨_,rfl⟩
 have HS:=qH hs
 obtain⟨o1,ho1⟩:∃ s,Or.oneW x a m=s:=⟨_,rfl⟩
 have HO:=qH ho1
 have HRES:=qH (show Or.p2 x a m=(s&&o1) by unfold Or.p2;rw [HE.out,hs,ho1])
 clear hs ho1 hq
 go_enter Tryz.func152,Tryz.ntmps152
 go_wp2_with ((with_reducible refine qG 12 ?_);refine wpList_load_at rfl 48 (.tmp 11) rfl g' (o'+m * 13) (by kernel_rfl) (Ev.cells e) _ (HCE.out _ (W0.out)) Tryz.underlying48 rfl (by kernel_rfl) ?_)
 refine(ostores_is HS.out _).mono ?_
 rintro r W1 ⟨rfl,hb1⟩
 have B1:=qH (W0.out.trans (hb1.mono (W0.out).size))
 clear hb1
 have kq1:=(KCq.out.kp B1.out).cell;have ka1:=(KCa.out.kp B1.out).cell
 clear kq ka cx
 cases s
 ·go_wp2_with fail
  go_ret
  exact⟨by rw [HRES.out];try rfl,B1.out⟩
 go_wp2_with fail
 refine(oneW_is HO.out ha hm _ (HQ.out.kp B1.out)).mono ?_
 rintro r W2 ⟨rfl,hb2⟩
 have B2:=qH (B1.out.trans (hb2.mono (B1.out).size))
 clear hb2
 go_wp2_with fail
 go_ret
 exact⟨by rw [HRES.out];try rfl,B2.out⟩
theorem c8_any (x:Ev.X) (q m cq:Nat) (hm:m < x.ev.length) (w:World) (hq:Or.As w q x) (hcq:Or.Box w cq 112 (.pointer (some ⟨q,0,none⟩))) :
 Calls Tryz.prog 157 #[.int .i64 (m:Int),.pointer (some ⟨cq,0,none⟩)] w fun r w'=>r=.returned (.bool (Or.p8 x m))∧Below w.heap.size w w':=by
 have hl1:=hq.xin.ev.le;have hl2:=hq.xin.ev.max
 obtain⟨e,he⟩:∃ e,x.ev[m]?=some e:=⟨_,List.getElem?_eq_getElem hm⟩
 obtain⟨g',o',eg,hce⟩:=hq.xin.ev.at_ he
 have HE:=qH (Ev.nth_some he)
 have HQ:=qH hq
 have HCE:=qH (show ∀ W,Below w.heap.size w W→∀ i c,(Ev.cells e)[i]?=some c→W.cell? ⟨g',o'+m * 13+i,none⟩=some c from fun W h i c hi=>Ev.kp_below h _ _ (hce i c hi))
 have hmi:(m:Int) < (x.ev.length:Int):=by omega
 have CX:=qH (show ∀ W,Below w.heap.size w W→W.cell? ⟨q,0,none⟩=some (.slice (some ⟨g',o',none⟩) x.ev.length x.ce) from fun W h=>by
  rw [← eg];exact(hq.kp h).c0)
 have cx:=CX.out w (Below.refl _ _)
 have W0:=qH (Below.refl w.heap.size w)
 have HEG:=qH eg
 clear he eg hce
 have KCq:=qH hcq;have kq:=hcq.cell
 clear hcq
 have HRES:=qH (show Or.p8 x m=e.z by unfold Or.p8;rw [HE.out])
 have cc:w.cell? ⟨g',o'+m * 13+9,none⟩=some (.bool e.z):=HCE.out w W0.out 9 _ rfl
 clear hq
 go_enter Tryz.func157,Tryz.ntmps157
 go_wp2_with fail
 go_ret
 exact⟨by rw [HRES.out];try rfl,W0.out⟩
theorem c13_any (x:Ev.X) (q a m cq ca:Nat) (ha:a < x.ev.length) (hm:m < x.ev.length) (w:World) (hq:Or.As w q x) (hcq:Or.Box w cq 112 (.pointer (some ⟨q,0,none⟩))) (hca:Or.Box w ca 3 (.int .i64 (a:Int))) :
 Calls Tryz.prog 160 #[.int .i64 (m:Int),.pointer (some ⟨cq,0,none⟩),.pointer (some ⟨ca,0,none⟩)] w fun r w'=>r=.returned (.bool (Or.p13 x a m))∧Below w.heap.size w w':=by
 have KCq:=qH hcq;have kq:=hcq.cell
 have KCa:=qH hca;have ka:=hca.cell
 have HQ:=qH hq;have W0:=qH (Below.refl w.heap.size w)
 clear hcq hca
 obtain⟨p,hp⟩:∃ s,Or.r9 x a m=s:=⟨_,rfl⟩
 have HP:=qH hp
 have HRES:=qH (show Or.p13 x a m=p by unfold Or.p13;rw [hp])
 clear hp hq
 go_enter Tryz.func160,Tryz.ntmps160
 go_wp2_with fail
 refine(r9_is HP.out ha hm _ HQ.out).mono ?_
 rintro r W1 ⟨rfl,hb1⟩
 have B1:=qH (W0.out.trans (hb1.mono (W0.out).size))
 clear hb1
 go_wp2_with fail
 go_ret
 exact⟨by rw [HRES.out];try rfl,B1.out⟩
theorem c12_any (x:Ev.X) (q a b m cq cb ca:Nat) (ha:a < x.ev.length) (hb:b < x.ev.length) (hm:m < x.ev.length) (hfl:x.fr.l.length=x.ev.length) (w:World) (hq:Or.As w q x) (hcq:Or.Box w cq 112 (.pointer (some ⟨q,0,none⟩))) (hcb:Or.Box w cb 3 (.int .i64 (b:Int))) (hca:Or.Box w ca 3 (.int .i64 (a:Int))) :
 Calls Tryz.prog 159 #[.int .i64 (m:Int),.pointer (some ⟨cq,0,none⟩),.pointer (some ⟨cb,0,none⟩),.pointer (some ⟨ca,0,none⟩)] w fun r w'=>r=.returned (.bool (Or.p12 x a b m))∧Below w.heap.size w w':=by
 have hfs:=hq.xin.fr.2.1;have hfm:=hq.xin.fr.2.2.1
 obtain⟨v,hv⟩:∃ v,x.fr.l[b]?=some v:=⟨_,List.getElem?_eq_getElem (by omega)⟩
 obtain⟨gf,of,ef,hcv⟩:=hq.xin.fr.at_ hv
 have HV:=qH (show Ev.frAt x b=v by unfold Ev.frAt;simp [List.getD,hv])
 have hbf:(b:Int) < (x.fr.l.length:Int):=by omega
 have C1:=qH (show ∀ W,Below w.heap.size w W→W.cell? ⟨q,1,none⟩=some (.slice (some ⟨gf,of,none⟩) x.fr.l.length x.fr.c) from fun W h=>by
  rw [← ef];exact(hq.kp h).c1)
 have CV:=qH (show ∀ W,Below w.heap.size w W→W.cell? ⟨gf,of+b,none⟩=some (.int .i64 v) from fun W h=>Ev.kp_below h _ _ hcv)
 clear hv ef hcv
 have HQ:=qH hq;have W0:=qH (Below.refl w.heap.size w)
 have cx:∀ z:Og.On w.heap.size w,z.x.cell? ⟨q,1,none⟩=some (.slice (some ⟨gf,of,none⟩) x.fr.l.length x.fr.c):=fun z=>C1.out z.x z.b
 have cv:∀ z:Og.On w.heap.size w,z.x.cell? ⟨gf,of+b,none⟩=some (.int .i64 v):=fun z=>CV.out z.x z.b
 have kq:∀ z:Og.On w.heap.size w,z.x.cell? ⟨cq,0,none⟩=some (.pointer (some ⟨q,0,none⟩)):=fun z=>(hcq.kp z.b).cell
 have ka:∀ z:Og.On w.heap.size w,z.x.cell? ⟨ca,0,none⟩=some (.int .i64 (a:Int)):=fun z=>(hca.kp z.b).cell
 have kb:∀ z:Og.On w.heap.size w,z.x.cell? ⟨cb,0,none⟩=some (.int .i64 (b:Int)):=fun z=>(hcb.kp z.b).cell
 obtain⟨p,hp⟩:∃ s,Or.r9 x a m=s:=⟨_,rfl⟩
 have HP:=qH hp
 obtain⟨s,hs⟩:∃ s,Or.r10 x a m=s:=⟨_,rfl⟩
 have HS:=qH hs
 have HRES:=qH (show Or.p12 x a b m=(v==(m:Int)&&(p||s)) by unfold Or.p12;rw [hp,hs,HV.out])
 clear hp hs hq hcq hca hcb hfl
 by_cases hq:v=(m:Int)
 case neg =>
  have tq:(v==(m:Int))=false:=by simpa using hq
  have HRES:=qH (show Or.p12 x a b m=false by rw [HRES.out,tq];rfl)
  clear hq
  go_enter Tryz.func159,Tryz.ntmps159
  go_wp2_with fail
  refine Og.regionB (by kernel_rfl) (by kernel_rfl) ?_
  repeat (first
   | go_big_quiet_skip
   | (go_big_quiet_want
      first
       | (go_big_quiet_op
          first
           | go_big_quiet_on)))
  refine wpQuiet_nil ?_
  intro _ hw'
  obtain⟨q9,hw''⟩:=hw'
  subst hw''
  go_wp2_with fail
  go_ret
  exact⟨by rw [HRES.out];try rfl,q9.b⟩
 have tq:(v==(m:Int))=true:=by simpa using hq
 have HRES:=qH (show Or.p12 x a b m=(p||s) by rw [HRES.out,tq];rfl)
 clear hq
 cases p
 ·go_enter Tryz.func159,Tryz.ntmps159
  go_wp2_with fail
  refine Og.regionB (by kernel_rfl) (by kernel_rfl) ?_
  repeat (first
   | go_big_quiet_skip
   | (go_big_quiet_want
      first
       | (go_big_quiet_op
          first
           | go_big_quiet_on
           | (apply Exists.intro
              refine⟨fun z=>?_,?_⟩
              ·first
                | (with_reducible exact Og.callB (r9_is HP.out ha hm _ (HQ.out.kp z.b)))
                | (with_reducible exact Og.callB (r10_is HS.out ha hm _ (HQ.out.kp z.b)))
              go_big_quiet_on))))
  refine wpQuiet_nil ?_
  intro _ hw'
  obtain⟨q9,hw''⟩:=hw'
  subst hw''
  go_wp2_with fail
  go_ret
  exact⟨by rw [HRES.out];try rfl,q9.b⟩
 ·go_enter Tryz.func159,Tryz.ntmps159
  go_wp2_with fail
  refine Og.regionB (by kernel_rfl) (by kernel_rfl) ?_
  repeat (first
   | go_big_quiet_skip
   | (go_big_quiet_want
      first
       | (go_big_quiet_op
          first
           | go_big_quiet_on
           | (apply Exists.intro
              refine⟨fun z=>?_,?_⟩
              ·first
                | (with_reducible exact Og.callB (r9_is HP.out ha hm _ (HQ.out.kp z.b)))
              go_big_quiet_on))))
  refine wpQuiet_nil ?_
  intro _ hw'
  obtain⟨q9,hw''⟩:=hw'
  subst hw''
  go_wp2_with fail
  go_ret
  exact⟨by rw [HRES.out];try rfl,q9.b⟩
theorem c4_any (x:Ev.X) (q a b m cq ca cb:Nat) (ha:a < x.ev.length) (hb:b < x.ev.length) (hm:m < x.ev.length) (w:World) (hq:Or.As w q x) (hcq:Or.Box w cq 112 (.pointer (some ⟨q,0,none⟩))) (hca:Or.Box w ca 3 (.int .i64 (a:Int))) (hcb:Or.Box w cb 3 (.int .i64 (b:Int))) :
 Calls Tryz.prog 154 #[.int .i64 (m:Int),.pointer (some ⟨cq,0,none⟩),.pointer (some ⟨ca,0,none⟩),.pointer (some ⟨cb,0,none⟩)] w fun r w'=>r=.returned (.bool (Or.p4 x a b m))∧Below w.heap.size w w':=by
 have hl1:=hq.xin.ev.le;have hl2:=hq.xin.ev.max
 obtain⟨g,hg⟩:∃ e,x.ev[m]?=some e:=⟨_,List.getElem?_eq_getElem hm⟩
 obtain⟨e,he⟩:∃ e,x.ev[a]?=some e:=⟨_,List.getElem?_eq_getElem ha⟩
 obtain⟨f,hf⟩:∃ f,x.ev[b]?=some f:=⟨_,List.getElem?_eq_getElem hb⟩
 obtain⟨g1,o1,eg1,hcg⟩:=hq.xin.ev.at_ hg
 obtain⟨g2,o2,eg2,hce⟩:=hq.xin.ev.at_ he
 obtain⟨g',o',eg,hcf⟩:=hq.xin.ev.at_ hf
 obtain⟨rfl,rfl⟩:g1=g'∧o1=o':=by rw [eg] at eg1;cases eg1;exact⟨rfl,rfl⟩
 obtain⟨rfl,rfl⟩:g2=g1∧o2=o1:=by rw [eg] at eg2;cases eg2;exact⟨rfl,rfl⟩
 have HG:=qH (Ev.nth_some hg);have HE:=qH (Ev.nth_some he);have HF:=qH (Ev.nth_some hf)
 have HQ:=qH hq
 have HCG:=qH hcg;have HCE:=qH hce;have HCF:=qH hcf
 have hmi:(m:Int) < (x.ev.length:Int):=by omega
 have hai:(a:Int) < (x.ev.length:Int):=by omega
 have hbi:(b:Int) < (x.ev.length:Int):=by omega
 have CX:=qH (show ∀ W,Below w.heap.size w W→W.cell? ⟨q,0,none⟩=some (.slice (some ⟨g2,o2,none⟩) x.ev.length x.ce) from fun W h=>by
  rw [← eg];exact(hq.kp h).c0)
 have cx:=CX.out w (Below.refl _ _)
 clear hg he hf eg eg1 eg2 hcg hce hcf
 have kq0:=hcq.cell
 obtain⟨s,hs⟩:∃ s,Or.isIn g.p e=s:=⟨_,rfl⟩
 have HS:=qH hs
 obtain⟨t,ht⟩:∃ s,Or.isIn g.s f=s:=⟨_,rfl⟩
 have HT:=qH ht
 have HRES:=qH (show Or.p4 x a b m=(g.k==4&&s&&t) by unfold Or.p4;rw [HG.out,HE.out,HF.out,hs,ht])
 have KCq:=qH hcq;have KCa:=qH hca;have KCb:=qH hcb
 clear hs ht hq hcq hca hcb
 by_cases hk:g.k=4
 case neg =>
  have tk:(g.k==4)=false:=by simpa using hk
  have HRES:=qH (show Or.p4 x a b m=false by rw [HRES.out,tk];rfl)
  clear hk
  go_enter Tryz.func154,Tryz.ntmps154
  go_wp2_with (first
   | ((with_reducible refine qG 14 ?_);refine wpList_load_at rfl 48 (.tmp 13) rfl g2 (o2+m * 13) (by kernel_rfl) (Ev.cells g) _ HCG.out Tryz.underlying48 rfl (by kernel_rfl) ?_)
   | ((with_reducible show wpList _ _ _ (Oper.mk none (Op.store 48 (Operand.tmp 6) _) _ _ _ _ :: _) _ _);refine wpList_store_own rfl 48 (.tmp 6) (.tmp 14) rfl w.heap.size (Ev.cells g).toArray rfl rfl 48 (Ev.cells Ev.R0).toArray (heap_alloc_new _ _) (by kernel_rfl) (by kernel_rfl) (by kernel_rfl) ?_
      intro W1 HW1
      have B1:=qH (((Below.refl w.heap.size w).alloc (Nat.le_refl _) _).trans HW1.below)
      have RG:=qH HW1.row
      clear HW1))
  clear cx kq0
  have cx:∀ z:Og.On W1.heap.size W1,z.x.cell? ⟨q,0,none⟩=some (.slice (some ⟨g2,o2,none⟩) x.ev.length x.ce):=fun z=>CX.out z.x (B1.out.trans (z.b.mono B1.out.size))
  have kq:∀ z:Og.On W1.heap.size W1,z.x.cell? ⟨cq,0,none⟩=some (.pointer (some ⟨q,0,none⟩)):=fun z=>(KCq.out.kp (B1.out.trans (z.b.mono B1.out.size))).cell
  have ka:∀ z:Og.On W1.heap.size W1,z.x.cell? ⟨ca,0,none⟩=some (.int .i64 (a:Int)):=fun z=>(KCa.out.kp (B1.out.trans (z.b.mono B1.out.size))).cell
  have kb:∀ z:Og.On W1.heap.size W1,z.x.cell? ⟨cb,0,none⟩=some (.int .i64 (b:Int)):=fun z=>(KCb.out.kp (B1.out.trans (z.b.mono B1.out.size))).cell
  have r1:∀ z:Og.On W1.heap.size W1,z.x.cell? ⟨w.heap.size,1,none⟩=some (.int .i64 g.k):=fun z=>Og.cellB z (by rw [qC RG.out];rfl)
  have r7:∀ z:Og.On W1.heap.size W1,z.x.cell? ⟨w.heap.size,7,none⟩=some (.int .i64 g.p):=fun z=>Og.cellB z (by rw [qC RG.out];rfl)
  have r8:∀ z:Og.On W1.heap.size W1,z.x.cell? ⟨w.heap.size,8,none⟩=some (.int .i64 g.s):=fun z=>Og.cellB z (by rw [qC RG.out];rfl)
  have LA:=qH (fun z:Og.On W1.heap.size W1=>Ev.ld (w:=z.x) (g:=g2) (o:=o2+a * 13) (x:=e) (fun i c hi=>Og.cellB z (Ev.kp_below B1.out _ _ (HCE.out i c hi))))
  have LB:=qH (fun z:Og.On W1.heap.size W1=>Ev.ld (w:=z.x) (g:=g2) (o:=o2+b * 13) (x:=f) (fun i c hi=>Og.cellB z (Ev.kp_below B1.out _ _ (HCF.out i c hi))))
  simp only [Act.put]
  refine Og.regionB (by kernel_rfl) (by kernel_rfl) ?_
  repeat (first
   | go_big_quiet_skip
   | (go_big_quiet_want
      first
       | (go_big_quiet_op
          first
           | go_big_quiet_on)))
  refine wpQuiet_nil ?_
  intro _ hw'
  obtain⟨q9,hw''⟩:=hw'
  subst hw''
  go_wp2_with fail
  go_ret
  exact⟨by rw [HRES.out];try rfl,B1.out.trans (q9.b.mono B1.out.size)⟩
 have tk:(g.k==4)=true:=by simpa using hk
 have HRES:=qH (show Or.p4 x a b m=(s&&t) by rw [HRES.out,tk];rfl)
 clear hk
 cases s
 ·go_enter Tryz.func154,Tryz.ntmps154
  go_wp2_with (first
   | ((with_reducible refine qG 14 ?_);refine wpList_load_at rfl 48 (.tmp 13) rfl g2 (o2+m * 13) (by kernel_rfl) (Ev.cells g) _ HCG.out Tryz.underlying48 rfl (by kernel_rfl) ?_)
   | ((with_reducible show wpList _ _ _ (Oper.mk none (Op.store 48 (Operand.tmp 6) _) _ _ _ _ :: _) _ _);refine wpList_store_own rfl 48 (.tmp 6) (.tmp 14) rfl w.heap.size (Ev.cells g).toArray rfl rfl 48 (Ev.cells Ev.R0).toArray (heap_alloc_new _ _) (by kernel_rfl) (by kernel_rfl) (by kernel_rfl) ?_
      intro W1 HW1
      have B1:=qH (((Below.refl w.heap.size w).alloc (Nat.le_refl _) _).trans HW1.below)
      have RG:=qH HW1.row
      clear HW1))
  clear cx kq0
  have cx:∀ z:Og.On W1.heap.size W1,z.x.cell? ⟨q,0,none⟩=some (.slice (some ⟨g2,o2,none⟩) x.ev.length x.ce):=fun z=>CX.out z.x (B1.out.trans (z.b.mono B1.out.size))
  have kq:∀ z:Og.On W1.heap.size W1,z.x.cell? ⟨cq,0,none⟩=some (.pointer (some ⟨q,0,none⟩)):=fun z=>(KCq.out.kp (B1.out.trans (z.b.mono B1.out.size))).cell
  have ka:∀ z:Og.On W1.heap.size W1,z.x.cell? ⟨ca,0,none⟩=some (.int .i64 (a:Int)):=fun z=>(KCa.out.kp (B1.out.trans (z.b.mono B1.out.size))).cell
  have kb:∀ z:Og.On W1.heap.size W1,z.x.cell? ⟨cb,0,none⟩=some (.int .i64 (b:Int)):=fun z=>(KCb.out.kp (B1.out.trans (z.b.mono B1.out.size))).cell
  have r1:∀ z:Og.On W1.heap.size W1,z.x.cell? ⟨w.heap.size,1,none⟩=some (.int .i64 g.k):=fun z=>Og.cellB z (by rw [qC RG.out];rfl)
  have r7:∀ z:Og.On W1.heap.size W1,z.x.cell? ⟨w.heap.size,7,none⟩=some (.int .i64 g.p):=fun z=>Og.cellB z (by rw [qC RG.out];rfl)
  have r8:∀ z:Og.On W1.heap.size W1,z.x.cell? ⟨w.heap.size,8,none⟩=some (.int .i64 g.s):=fun z=>Og.cellB z (by rw [qC RG.out];rfl)
  have LA:=qH (fun z:Og.On W1.heap.size W1=>Ev.ld (w:=z.x) (g:=g2) (o:=o2+a * 13) (x:=e) (fun i c hi=>Og.cellB z (Ev.kp_below B1.out _ _ (HCE.out i c hi))))
  have LB:=qH (fun z:Og.On W1.heap.size W1=>Ev.ld (w:=z.x) (g:=g2) (o:=o2+b * 13) (x:=f) (fun i c hi=>Og.cellB z (Ev.kp_below B1.out _ _ (HCF.out i c hi))))
  simp only [Act.put]
  refine Og.regionB (by kernel_rfl) (by kernel_rfl) ?_
  repeat (first
   | go_big_quiet_skip
   | (go_big_quiet_want
      first
       | ((with_reducible show Oper.quiet _ (Oper.mk (some 28) _ _ _ _ _) _ _ _);refine Og.quiet_load 48 (.tmp 27) rfl (.agg (Ev.cells e).toArray) ⟨g2,o2+a * 13,none⟩ _ rfl (by rintro _ ⟨z,rfl⟩;exact LA.out z) (by simp only [Act.put,qa,qb,qc];rfl) ?_
          go_big_quiet_on)
       | (go_big_quiet_op
          first
           | go_big_quiet_on
           | (apply Exists.intro
              refine⟨fun z=>?_,?_⟩
              ·first
                | (with_reducible exact Og.callB (isIn_is HS.out _))
              go_big_quiet_on))))
  refine wpQuiet_nil ?_
  intro _ hw'
  obtain⟨q9,hw''⟩:=hw'
  subst hw''
  go_wp2_with fail
  go_ret
  exact⟨by rw [HRES.out];try rfl,B1.out.trans (q9.b.mono B1.out.size)⟩
 ·go_enter Tryz.func154,Tryz.ntmps154
  go_wp2_with (first
   | ((with_reducible refine qG 14 ?_);refine wpList_load_at rfl 48 (.tmp 13) rfl g2 (o2+m * 13) (by kernel_rfl) (Ev.cells g) _ HCG.out Tryz.underlying48 rfl (by kernel_rfl) ?_)
   | ((with_reducible show wpList _ _ _ (Oper.mk none (Op.store 48 (Operand.tmp 6) _) _ _ _ _ :: _) _ _);refine wpList_store_own rfl 48 (.tmp 6) (.tmp 14) rfl w.heap.size (Ev.cells g).toArray rfl rfl 48 (Ev.cells Ev.R0).toArray (heap_alloc_new _ _) (by kernel_rfl) (by kernel_rfl) (by kernel_rfl) ?_
      intro W1 HW1
      have B1:=qH (((Below.refl w.heap.size w).alloc (Nat.le_refl _) _).trans HW1.below)
      have RG:=qH HW1.row
      clear HW1))
  clear cx kq0
  have cx:∀ z:Og.On W1.heap.size W1,z.x.cell? ⟨q,0,none⟩=some (.slice (some ⟨g2,o2,none⟩) x.ev.length x.ce):=fun z=>CX.out z.x (B1.out.trans (z.b.mono B1.out.size))
  have kq:∀ z:Og.On W1.heap.size W1,z.x.cell? ⟨cq,0,none⟩=some (.pointer (some ⟨q,0,none⟩)):=fun z=>(KCq.out.kp (B1.out.trans (z.b.mono B1.out.size))).cell
  have ka:∀ z:Og.On W1.heap.size W1,z.x.cell? ⟨ca,0,none⟩=some (.int .i64 (a:Int)):=fun z=>(KCa.out.kp (B1.out.trans (z.b.mono B1.out.size))).cell
  have kb:∀ z:Og.On W1.heap.size W1,z.x.cell? ⟨cb,0,none⟩=some (.int .i64 (b:Int)):=fun z=>(KCb.out.kp (B1.out.trans (z.b.mono B1.out.size))).cell
  have r1:∀ z:Og.On W1.heap.size W1,z.x.cell? ⟨w.heap.size,1,none⟩=some (.int .i64 g.k):=fun z=>Og.cellB z (by rw [qC RG.out];rfl)
  have r7:∀ z:Og.On W1.heap.size W1,z.x.cell? ⟨w.heap.size,7,none⟩=some (.int .i64 g.p):=fun z=>Og.cellB z (by rw [qC RG.out];rfl)
  have r8:∀ z:Og.On W1.heap.size W1,z.x.cell? ⟨w.heap.size,8,none⟩=some (.int .i64 g.s):=fun z=>Og.cellB z (by rw [qC RG.out];rfl)
  have LA:=qH (fun z:Og.On W1.heap.size W1=>Ev.ld (w:=z.x) (g:=g2) (o:=o2+a * 13) (x:=e) (fun i c hi=>Og.cellB z (Ev.kp_below B1.out _ _ (HCE.out i c hi))))
  have LB:=qH (fun z:Og.On W1.heap.size W1=>Ev.ld (w:=z.x) (g:=g2) (o:=o2+b * 13) (x:=f) (fun i c hi=>Og.cellB z (Ev.kp_below B1.out _ _ (HCF.out i c hi))))
  simp only [Act.put]
  refine Og.regionB (by kernel_rfl) (by kernel_rfl) ?_
  repeat (first
   | go_big_quiet_skip
   | (go_big_quiet_want
      first
       | ((with_reducible show Oper.quiet _ (Oper.mk (some 28) _ _ _ _ _) _ _ _);refine Og.quiet_load 48 (.tmp 27) rfl (.agg (Ev.cells e).toArray) ⟨g2,o2+a * 13,none⟩ _ rfl (by rintro _ ⟨z,rfl⟩;exact LA.out z) (by simp only [Act.put,qa,qb,qc];rfl) ?_
          go_big_quiet_on)
       | ((with_reducible show Oper.quiet _ (Oper.mk (some 41) _ _ _ _ _) _ _ _);refine Og.quiet_load 48 (.tmp 40) rfl (.agg (Ev.cells f).toArray) ⟨g2,o2+b * 13,none⟩ _ rfl (by rintro _ ⟨z,rfl⟩;exact LB.out z) (by simp only [Act.put,qa,qb,qc];rfl) ?_
          go_big_quiet_on)
       | (go_big_quiet_op
          first
           | go_big_quiet_on
           | (apply Exists.intro
              refine⟨fun z=>?_,?_⟩
              ·first
                | (with_reducible exact Og.callB (isIn_is HS.out _))
                | (with_reducible exact Og.callB (isIn_is HT.out _))
              go_big_quiet_on))))
  refine wpQuiet_nil ?_
  intro _ hw'
  obtain⟨q9,hw''⟩:=hw'
  subst hw''
  go_wp2_with fail
  go_ret
  exact⟨by rw [HRES.out];try rfl,B1.out.trans (q9.b.mono B1.out.size)⟩
end Go.Proofs.YtnjnpbabgefaeaaGreat
end
section
namespace Go.Proofs.YtnjnpbabgefaeaaGreat
end Go.Proofs.YtnjnpbabgefaeaaGreat
end
section
namespace Go.Proofs.YtnjnpbabgefaeaaGreat
open Go.RowKit
namespace Ev
theorem rk_place {x:X} (hc:check x=0) {n:Nat} (hn:n < x.ev.length) (hs:stores (nth x.ev n).k=true):rk x n=place x n:=by
 have he:=ev_all hc
 obtain⟨h1,_,_⟩:=check_order hc
 obtain⟨i,hi,ha⟩:=beg_of he hn hs
 have hod:x.od.length=beg x.ev:=by
  unfold orderOk at h1
  simp only [Bool.and_eq_true,beq_iff_eq] at h1
  exact h1.1
 obtain⟨s,hsi⟩:∃ s,x.od[i]?=some s:=⟨_,List.getElem?_eq_getElem (by omega)⟩
 obtain⟨_,hr,hd,_⟩:=od_at hc hsi
 have hm:(n:Int) ∈ s.l:=hr.1 n hn hs ha.symm
 obtain⟨v,hv⟩:=List.mem_iff_getElem?.1 hm
 have hat:=at_at hd hv
 have key:∀ t ∈ x.od,(n:Int) ∈ t.l→t=s:=fun t ht hnt=>by
  obtain⟨k,hk⟩:=List.mem_iff_getElem?.1 ht
  obtain⟨hkb,_,_,hka⟩:=od_at hc hk
  have hki:k=i:=beg_inj he hkb hi (by rw [ha];exact(hka _ hnt).symm)
  subst hki
  rw [hk] at hsi
  exact Option.some.inj hsi
 have hp:place x n=v:=by
  unfold place
  refine place_of ⟨s,List.mem_of_getElem? hsi,hm⟩ (fun t ht hnt=>?_)
  rw [key t ht hnt,hat]
 rw [hp]
 unfold rk rkL
 refine rk_fold (fun p hp hpn=>?_) (.inr ⟨((n:Int),v),?_,rfl⟩)
 ·unfold zall at hp
  rw [List.mem_flatMap] at hp
  obtain⟨t,ht,hpt⟩:=hp
  rw [List.take_length] at ht
  unfold zs at hpt
  rw [List.mem_map] at hpt
  obtain⟨j,hj,rfl⟩:=hpt
  have hjl:=List.mem_range.1 hj
  have hg:=List.getElem?_eq_getElem hjl
  have e:t.l.getD j 0=t.l[j]:=by simp [List.getD,hg]
  have hpn':t.l[j]=(n:Int):=by rw [← e];exact hpn
  rw [hpn'] at hg
  have hts:=key t ht (List.mem_of_getElem? hg)
  subst hts
  have:=at_at hd hg
  show j=v
  omega
 ·unfold zall
  rw [List.mem_flatMap,List.take_length]
  refine⟨s,List.mem_of_getElem? hsi,?_⟩
  unfold zs
  rw [List.mem_map]
  have hvl:=(List.getElem?_eq_some_iff.1 hv).1
  exact⟨v,List.mem_range.2 hvl,by simp [List.getD,hv]⟩
theorem bh_co {x:X} (hc:check x=0) {a b:Nat} (ha:a < x.ev.length) (hb:b < x.ev.length) (hs:stores (nth x.ev a).k=true):bh x a b=isCo x a b:=by
 unfold bh isCo
 rw [hs,Bool.true_and]
 cases hsb:stores (nth x.ev (b:Int)).k
 ·rfl
 ·rw [rk_place hc ha hs,rk_place hc hb hsb,Bool.true_and,Bool.true_and]
  congr 1
  rw [Bool.eq_iff_iff]
  simp only [beq_iff_eq]
  exact eq_comm
theorem co_eq {x:X} (hc:check x=0):told (bondCo x) x.ev.length x.ev.length=pl (fun a b:Nat=>isCo x (a:Int) (b:Int)) x.ev.length x.ev.length:=by
 refine told_pl (fun a b ha hb=>?_) (fun a b ha hb h2 c hbc hcn=>?_)
 ·unfold bondCo bnd
  by_cases h:stores (nth x.ev (a:Int)).k=false
  ·rw [if_pos h]
   constructor
   ·intro e;omega
   ·intro e
    unfold isCo at e
    rw [h] at e
    simp at e
  ·have h':stores (nth x.ev (a:Int)).k=true:=by simpa using h
   rw [if_neg h,← bh_co hc ha hb h']
   cases bh x a b <;> simp
 ·unfold bondCo bnd at h2
  by_cases h:stores (nth x.ev (a:Int)).k=false
  ·unfold isCo
   rw [h];rfl
  ·rw [if_neg h] at h2
   split at h2 <;> omega
theorem fr_eq {x:X} (hc:check x=0):told (bondFr x) x.ev.length x.ev.length=pl (isFr x) x.ev.length x.ev.length:=by
 have key:∀ a b:Nat,a < x.ev.length→b < x.ev.length→loads (nth x.ev (a:Int)).k=true→bh x (frAt x a) b=isCo x (frAt x a) b:=fun a b ha hb hl=>by
  obtain⟨f,hf,hfa,hfr⟩:=from_in hc ha hl
  obtain⟨_,h2,_⟩:=check_order hc
  unfold fromOk at h2
  simp only [Bool.and_eq_true,beq_iff_eq,List.all_eq_true] at h2
  have:=h2.2 a (List.mem_range.2 ha)
  unfold fromAt at this
  have e2:x.fr.l.getD a 0=(f:Int):=hfr
  rw [if_pos hl,e2] at this
  unfold readOk at this
  simp only [Bool.and_eq_true] at this
  rw [hfr]
  exact bh_co hc hf hb this.1.1.2
 refine told_pl (fun a b ha hb=>?_) (fun a b ha hb h2 c hbc hcn=>?_)
 ·unfold bondFr isFr bnd
  by_cases h:loads (nth x.ev (a:Int)).k=false
  ·rw [if_pos h,h]
   simp
  ·have h':loads (nth x.ev (a:Int)).k=true:=by simpa using h
   rw [if_neg h,h',key a b ha hb h',Bool.and_true]
   cases (!decide (a=b)&&isCo x (frAt x a) b) <;> simp
 ·unfold bondFr bnd at h2
  by_cases h:loads (nth x.ev (a:Int)).k=false
  ·unfold isFr
   rw [h];simp
  ·rw [if_neg h] at h2
   split at h2 <;> omega
end Ev
end Go.Proofs.YtnjnpbabgefaeaaGreat
end
