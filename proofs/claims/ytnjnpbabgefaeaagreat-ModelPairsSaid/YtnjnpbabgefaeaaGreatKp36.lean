import Derived.Test.YtnjnpbabgefaeaaGreatKp35
import Derived.Test.YtnjnpbabgefaeaaGreatKp08
import Derived.Test.YtnjnpbabgefaeaaGreatKpH
set_option maxRecDepth 100000
set_option maxHeartbeats 4000000
set_option linter.unusedVariables false
set_option linter.unusedSimpArgs false
section
namespace Go.Proofs.YtnjnpbabgefaeaaGreat
open Go.RowKit
theorem Ev.load_at_g {P:Program} {ops:Array Oper} {rest:List Oper} {o:Oper} {a:Act} {w:World} {Q:Exit→Act→World→Prop} (ty:TypeId) (x:Operand) (ho:o.op=.load ty x) (hw:Region.wanted o (yielded ops a.tmps)=true)
 (g off:Nat) (hx:a.eval x=.pointer (some ⟨g,off,none⟩)) (cs:List Value) (d:TypeDesc) (hc:∀ i v,cs[i]?=some v→w.cell? ⟨g,off+i,none⟩=some v)
 (hu:P.underlying ty=some d) (hd:(match d with | .struct _ | .array _ _=>true | _=>false)=true) (hi:(P.info? ty).map (·.size)=some cs.length)
 (h:wpList P ops Q rest (a.put o.dst (.agg cs.toArray)) w):wpList P ops Q (o :: rest) a w:=by
 unfold wpList
 rw [if_pos hw]
 refine .inl ?_
 unfold Oper.wp execOp
 simp only [ho,hx,Instr.loadAt,Instr.sureAddr,Sem.run_bind,Sem.run_pure,Result.andThen_ok,run_loadVar_at w g off ty cs d hc hu hd hi]
 exact h
namespace Or
open Ev
def r1 (x:X) (a b:Nat):Bool:=stores (nth x.ev b).k&&oneW x a b
def r3 (x:X) (a b:Nat):Bool:=atom (nth x.ev a)&&frAt x b==(a:Int)
def r5 (x:X) (a _b:Nat):Bool:=(nth x.ev a).q
def r6 (x:X) (_a b:Nat):Bool:=(nth x.ev b).l
def r7 (x:X) (a b:Nat):Bool:=mark (nth x.ev a)&&mark (nth x.ev b)
def r9 (x:X) (a b:Nat):Bool:=has (nth x.ev b).d1.l (a:Int)
def r10 (x:X) (a b:Nat):Bool:=has (nth x.ev b).d2.l (a:Int)
def r11 (x:X) (a b:Nat):Bool:=stores (nth x.ev b).k&&has (nth x.ev b).d3.l (a:Int)
end Or
theorem r1_any (x:Ev.X) (q a b:Nat) (ha:a < x.ev.length) (hb:b < x.ev.length) (w:World) (hq:Or.As w q x) :
 Calls Tryz.prog 124 #[.pointer (some ⟨q,0,none⟩),.int .i64 (a:Int),.int .i64 (b:Int)] w fun r w'=>r=.returned (.bool (Or.r1 x a b))∧Below w.heap.size w w':=by
 have hl1:=hq.xin.ev.le;have hl2:=hq.xin.ev.max
 obtain⟨e,he⟩:∃ e,x.ev[a]?=some e:=⟨_,List.getElem?_eq_getElem ha⟩
 obtain⟨f,hf⟩:∃ f,x.ev[b]?=some f:=⟨_,List.getElem?_eq_getElem hb⟩
 obtain⟨g,o,eg,hce⟩:=hq.xin.ev.at_ he
 obtain⟨g',o',eg',hcf⟩:=hq.xin.ev.at_ hf
 obtain⟨rfl,rfl⟩:g'=g∧o'=o:=by rw [eg] at eg';cases eg';exact⟨rfl,rfl⟩
 have HE:=qH (Ev.nth_some he);have HF:=qH (Ev.nth_some hf)
 have HEO:=qH (hq.xin.ev.ok_ he);have HFO:=qH (hq.xin.ev.ok_ hf)
 have HQ:=qH hq
 have HCE:=qH (show ∀ W,Below w.heap.size w W→∀ i c,(Ev.cells e)[i]?=some c→W.cell? ⟨g',o'+a * 13+i,none⟩=some c from fun W h i c hi=>Ev.kp_below h _ _ (hce i c hi))
 have HCF:=qH (show ∀ W,Below w.heap.size w W→∀ i c,(Ev.cells f)[i]?=some c→W.cell? ⟨g',o'+b * 13+i,none⟩=some c from fun W h i c hi=>Ev.kp_below h _ _ (hcf i c hi))
 have hai:(a:Int) < (x.ev.length:Int):=by omega
 have hbi:(b:Int) < (x.ev.length:Int):=by omega
 have CX:=qH (show ∀ W,Below w.heap.size w W→W.cell? ⟨q,0,none⟩=some (.slice (some ⟨g',o',none⟩) x.ev.length x.ce) from fun W h=>by
  rw [← eg];exact(hq.kp h).c0)
 have cx:=CX.out w (Below.refl _ _)
 have W0:=qH (Below.refl w.heap.size w)
 clear hq he hf eg eg' hce hcf
 obtain⟨s,hs⟩:∃ s,Ev.stores f.k=s:=⟨_,rfl⟩
 have HS:=qH hs
 obtain⟨o1,ho1⟩:∃ s,Or.oneW x a b=s:=⟨_,rfl⟩
 have HO:=qH ho1
 have HRES:=qH (show Or.r1 x a b=(s&&o1) by unfold Or.r1;rw [HF.out,hs,ho1])
 clear hs ho1
 go_enter Tryz.func124,Tryz.ntmps124
 go_wp2_with ((with_reducible refine qG 14 ?_);refine wpList_load_at rfl 48 (.tmp 13) rfl g' (o'+b * 13) (by kernel_rfl) (Ev.cells f) _ (HCF.out _ (W0.out)) Tryz.underlying48 rfl (by kernel_rfl) ?_)
 refine(ostores_is HS.out _).mono ?_
 rintro r W1 ⟨rfl,hb1⟩
 have B1:=qH (W0.out.trans (hb1.mono (W0.out).size))
 clear hb1
 cases s
 ·go_wp2_with fail
  go_ret
  exact⟨by rw [HRES.out];try rfl,B1.out⟩
 go_wp2_with fail
 refine(oneW_is HO.out ha hb _ (HQ.out.kp B1.out)).mono ?_
 rintro r W2 ⟨rfl,hb2⟩
 have B2:=qH (B1.out.trans (hb2.mono (B1.out).size))
 clear hb2
 go_wp2_with fail
 go_ret
 exact⟨by rw [HRES.out];try rfl,B2.out⟩
theorem r3_any (x:Ev.X) (q a b:Nat) (ha:a < x.ev.length) (hb:b < x.ev.length) (hfl:x.fr.l.length=x.ev.length) (w:World) (hq:Or.As w q x) :
 Calls Tryz.prog 126 #[.pointer (some ⟨q,0,none⟩),.int .i64 (a:Int),.int .i64 (b:Int)] w fun r w'=>r=.returned (.bool (Or.r3 x a b))∧Below w.heap.size w w':=by
 have hl1:=hq.xin.ev.le;have hl2:=hq.xin.ev.max
 obtain⟨e,he⟩:∃ e,x.ev[a]?=some e:=⟨_,List.getElem?_eq_getElem ha⟩
 obtain⟨f,hf⟩:∃ f,x.ev[b]?=some f:=⟨_,List.getElem?_eq_getElem hb⟩
 obtain⟨g,o,eg,hce⟩:=hq.xin.ev.at_ he
 obtain⟨g',o',eg',hcf⟩:=hq.xin.ev.at_ hf
 obtain⟨rfl,rfl⟩:g'=g∧o'=o:=by rw [eg] at eg';cases eg';exact⟨rfl,rfl⟩
 have HE:=qH (Ev.nth_some he);have HF:=qH (Ev.nth_some hf)
 have HEO:=qH (hq.xin.ev.ok_ he);have HFO:=qH (hq.xin.ev.ok_ hf)
 have HQ:=qH hq
 have HCE:=qH (show ∀ W,Below w.heap.size w W→∀ i c,(Ev.cells e)[i]?=some c→W.cell? ⟨g',o'+a * 13+i,none⟩=some c from fun W h i c hi=>Ev.kp_below h _ _ (hce i c hi))
 have HCF:=qH (show ∀ W,Below w.heap.size w W→∀ i c,(Ev.cells f)[i]?=some c→W.cell? ⟨g',o'+b * 13+i,none⟩=some c from fun W h i c hi=>Ev.kp_below h _ _ (hcf i c hi))
 have hai:(a:Int) < (x.ev.length:Int):=by omega
 have hbi:(b:Int) < (x.ev.length:Int):=by omega
 have CX:=qH (show ∀ W,Below w.heap.size w W→W.cell? ⟨q,0,none⟩=some (.slice (some ⟨g',o',none⟩) x.ev.length x.ce) from fun W h=>by
  rw [← eg];exact(hq.kp h).c0)
 have cx:=CX.out w (Below.refl _ _)
 have W0:=qH (Below.refl w.heap.size w)
 clear hq he hf eg eg' hce hcf
 have hfs:=HQ.out.xin.fr.2.1;have hfm:=HQ.out.xin.fr.2.2.1
 obtain⟨v,hv⟩:∃ v,x.fr.l[b]?=some v:=⟨_,List.getElem?_eq_getElem (by omega)⟩
 obtain⟨gf,of,ef,hcv⟩:=HQ.out.xin.fr.at_ hv
 have HV:=qH (show Ev.frAt x b=v by unfold Ev.frAt;simp [List.getD,hv])
 have hbf:(b:Int) < (x.fr.l.length:Int):=by omega
 have C1:=qH (show ∀ W,Below w.heap.size w W→W.cell? ⟨q,1,none⟩=some (.slice (some ⟨gf,of,none⟩) x.fr.l.length x.fr.c) from fun W h=>by
  rw [← ef];exact(HQ.out.kp h).c1)
 have CV:=qH (show ∀ W,Below w.heap.size w W→W.cell? ⟨gf,of+b,none⟩=some (.int .i64 v) from fun W h=>Ev.kp_below h _ _ hcv)
 clear hv ef hcv
 obtain⟨s,hs⟩:∃ s,Or.atom e=s:=⟨_,rfl⟩
 have HS:=qH hs
 have HRES:=qH (show Or.r3 x a b=(s&&v==(a:Int)) by unfold Or.r3;rw [HE.out,hs,HV.out])
 clear hs hfl
 go_enter Tryz.func126,Tryz.ntmps126
 go_wp2_with ((with_reducible refine qG 14 ?_);refine wpList_load_at rfl 48 (.tmp 13) rfl g' (o'+a * 13) (by kernel_rfl) (Ev.cells e) _ (HCE.out _ (W0.out)) Tryz.underlying48 rfl (by kernel_rfl) ?_)
 refine(atom_is HS.out _).mono ?_
 rintro r W1 ⟨rfl,hb1⟩
 have B1:=qH (W0.out.trans (hb1.mono (W0.out).size))
 clear hb1
 have c1:=C1.out W1 B1.out;have cv:=CV.out W1 B1.out
 cases s
 ·go_wp2_with fail
  go_ret
  exact⟨by rw [HRES.out];try rfl,B1.out⟩
 by_cases hq:v=(a:Int)
 ·have tq:(v==(a:Int))=true:=by simpa using hq
  have HRES:=qH (show Or.r3 x a b=true by rw [HRES.out,tq];rfl)
  clear hq
  go_wp2_with fail
  go_ret
  exact⟨by rw [HRES.out];try rfl,B1.out⟩
 ·have tq:(v==(a:Int))=false:=by simpa using hq
  have HRES:=qH (show Or.r3 x a b=false by rw [HRES.out,tq];rfl)
  clear hq
  go_wp2_with fail
  go_ret
  exact⟨by rw [HRES.out];try rfl,B1.out⟩
theorem r5_any (x:Ev.X) (q a b:Nat) (ha:a < x.ev.length) (hb:b < x.ev.length) (w:World) (hq:Or.As w q x) :
 Calls Tryz.prog 128 #[.pointer (some ⟨q,0,none⟩),.int .i64 (a:Int),.int .i64 (b:Int)] w fun r w'=>r=.returned (.bool (Or.r5 x a b))∧Below w.heap.size w w':=by
 have hl1:=hq.xin.ev.le;have hl2:=hq.xin.ev.max
 obtain⟨e,he⟩:∃ e,x.ev[a]?=some e:=⟨_,List.getElem?_eq_getElem ha⟩
 obtain⟨f,hf⟩:∃ f,x.ev[b]?=some f:=⟨_,List.getElem?_eq_getElem hb⟩
 obtain⟨g,o,eg,hce⟩:=hq.xin.ev.at_ he
 obtain⟨g',o',eg',hcf⟩:=hq.xin.ev.at_ hf
 obtain⟨rfl,rfl⟩:g'=g∧o'=o:=by rw [eg] at eg';cases eg';exact⟨rfl,rfl⟩
 have HE:=qH (Ev.nth_some he);have HF:=qH (Ev.nth_some hf)
 have HEO:=qH (hq.xin.ev.ok_ he);have HFO:=qH (hq.xin.ev.ok_ hf)
 have HQ:=qH hq
 have HCE:=qH (show ∀ W,Below w.heap.size w W→∀ i c,(Ev.cells e)[i]?=some c→W.cell? ⟨g',o'+a * 13+i,none⟩=some c from fun W h i c hi=>Ev.kp_below h _ _ (hce i c hi))
 have HCF:=qH (show ∀ W,Below w.heap.size w W→∀ i c,(Ev.cells f)[i]?=some c→W.cell? ⟨g',o'+b * 13+i,none⟩=some c from fun W h i c hi=>Ev.kp_below h _ _ (hcf i c hi))
 have hai:(a:Int) < (x.ev.length:Int):=by omega
 have hbi:(b:Int) < (x.ev.length:Int):=by omega
 have CX:=qH (show ∀ W,Below w.heap.size w W→W.cell? ⟨q,0,none⟩=some (.slice (some ⟨g',o',none⟩) x.ev.length x.ce) from fun W h=>by
  rw [← eg];exact(hq.kp h).c0)
 have cx:=CX.out w (Below.refl _ _)
 have W0:=qH (Below.refl w.heap.size w)
 clear hq he hf eg eg' hce hcf
 have HRES:=qH (show Or.r5 x a b=e.q by unfold Or.r5;rw [HE.out])
 have cc:w.cell? ⟨g',o'+a * 13+5,none⟩=some (.bool e.q):=HCE.out w W0.out 5 _ rfl
 go_enter Tryz.func128,Tryz.ntmps128
 go_wp2_with fail
 go_ret
 exact⟨by rw [HRES.out];try rfl,W0.out⟩
theorem r6_any (x:Ev.X) (q a b:Nat) (ha:a < x.ev.length) (hb:b < x.ev.length) (w:World) (hq:Or.As w q x) :
 Calls Tryz.prog 129 #[.pointer (some ⟨q,0,none⟩),.int .i64 (a:Int),.int .i64 (b:Int)] w fun r w'=>r=.returned (.bool (Or.r6 x a b))∧Below w.heap.size w w':=by
 have hl1:=hq.xin.ev.le;have hl2:=hq.xin.ev.max
 obtain⟨e,he⟩:∃ e,x.ev[a]?=some e:=⟨_,List.getElem?_eq_getElem ha⟩
 obtain⟨f,hf⟩:∃ f,x.ev[b]?=some f:=⟨_,List.getElem?_eq_getElem hb⟩
 obtain⟨g,o,eg,hce⟩:=hq.xin.ev.at_ he
 obtain⟨g',o',eg',hcf⟩:=hq.xin.ev.at_ hf
 obtain⟨rfl,rfl⟩:g'=g∧o'=o:=by rw [eg] at eg';cases eg';exact⟨rfl,rfl⟩
 have HE:=qH (Ev.nth_some he);have HF:=qH (Ev.nth_some hf)
 have HEO:=qH (hq.xin.ev.ok_ he);have HFO:=qH (hq.xin.ev.ok_ hf)
 have HQ:=qH hq
 have HCE:=qH (show ∀ W,Below w.heap.size w W→∀ i c,(Ev.cells e)[i]?=some c→W.cell? ⟨g',o'+a * 13+i,none⟩=some c from fun W h i c hi=>Ev.kp_below h _ _ (hce i c hi))
 have HCF:=qH (show ∀ W,Below w.heap.size w W→∀ i c,(Ev.cells f)[i]?=some c→W.cell? ⟨g',o'+b * 13+i,none⟩=some c from fun W h i c hi=>Ev.kp_below h _ _ (hcf i c hi))
 have hai:(a:Int) < (x.ev.length:Int):=by omega
 have hbi:(b:Int) < (x.ev.length:Int):=by omega
 have CX:=qH (show ∀ W,Below w.heap.size w W→W.cell? ⟨q,0,none⟩=some (.slice (some ⟨g',o',none⟩) x.ev.length x.ce) from fun W h=>by
  rw [← eg];exact(hq.kp h).c0)
 have cx:=CX.out w (Below.refl _ _)
 have W0:=qH (Below.refl w.heap.size w)
 clear hq he hf eg eg' hce hcf
 have HRES:=qH (show Or.r6 x a b=f.l by unfold Or.r6;rw [HF.out])
 have cc:w.cell? ⟨g',o'+b * 13+6,none⟩=some (.bool f.l):=HCF.out w W0.out 6 _ rfl
 go_enter Tryz.func129,Tryz.ntmps129
 go_wp2_with fail
 go_ret
 exact⟨by rw [HRES.out];try rfl,W0.out⟩
theorem r7_any (x:Ev.X) (q a b:Nat) (ha:a < x.ev.length) (hb:b < x.ev.length) (w:World) (hq:Or.As w q x) :
 Calls Tryz.prog 130 #[.pointer (some ⟨q,0,none⟩),.int .i64 (a:Int),.int .i64 (b:Int)] w fun r w'=>r=.returned (.bool (Or.r7 x a b))∧Below w.heap.size w w':=by
 have hl1:=hq.xin.ev.le;have hl2:=hq.xin.ev.max
 obtain⟨e,he⟩:∃ e,x.ev[a]?=some e:=⟨_,List.getElem?_eq_getElem ha⟩
 obtain⟨f,hf⟩:∃ f,x.ev[b]?=some f:=⟨_,List.getElem?_eq_getElem hb⟩
 obtain⟨g,o,eg,hce⟩:=hq.xin.ev.at_ he
 obtain⟨g',o',eg',hcf⟩:=hq.xin.ev.at_ hf
 obtain⟨rfl,rfl⟩:g'=g∧o'=o:=by rw [eg] at eg';cases eg';exact⟨rfl,rfl⟩
 have HE:=qH (Ev.nth_some he);have HF:=qH (Ev.nth_some hf)
 have HEO:=qH (hq.xin.ev.ok_ he);have HFO:=qH (hq.xin.ev.ok_ hf)
 have HQ:=qH hq
 have HCE:=qH (show ∀ W,Below w.heap.size w W→∀ i c,(Ev.cells e)[i]?=some c→W.cell? ⟨g',o'+a * 13+i,none⟩=some c from fun W h i c hi=>Ev.kp_below h _ _ (hce i c hi))
 have HCF:=qH (show ∀ W,Below w.heap.size w W→∀ i c,(Ev.cells f)[i]?=some c→W.cell? ⟨g',o'+b * 13+i,none⟩=some c from fun W h i c hi=>Ev.kp_below h _ _ (hcf i c hi))
 have hai:(a:Int) < (x.ev.length:Int):=by omega
 have hbi:(b:Int) < (x.ev.length:Int):=by omega
 have CX:=qH (show ∀ W,Below w.heap.size w W→W.cell? ⟨q,0,none⟩=some (.slice (some ⟨g',o',none⟩) x.ev.length x.ce) from fun W h=>by
  rw [← eg];exact(hq.kp h).c0)
 have cx:=CX.out w (Below.refl _ _)
 have W0:=qH (Below.refl w.heap.size w)
 clear hq he hf eg eg' hce hcf
 obtain⟨s,hs⟩:∃ s,Or.mark e=s:=⟨_,rfl⟩
 have HS:=qH hs
 obtain⟨t,ht⟩:∃ s,Or.mark f=s:=⟨_,rfl⟩
 have HT:=qH ht
 have HRES:=qH (show Or.r7 x a b=(s&&t) by unfold Or.r7;rw [HE.out,HF.out,hs,ht])
 clear hs ht
 go_enter Tryz.func130,Tryz.ntmps130
 go_wp2_with ((with_reducible refine qG 14 ?_);refine wpList_load_at rfl 48 (.tmp 13) rfl g' (o'+a * 13) (by kernel_rfl) (Ev.cells e) _ (HCE.out _ (W0.out)) Tryz.underlying48 rfl (by kernel_rfl) ?_)
 refine(mark_is HS.out _).mono ?_
 rintro r W1 ⟨rfl,hb1⟩
 have B1:=qH (W0.out.trans (hb1.mono (W0.out).size))
 clear hb1
 have c1:=CX.out W1 B1.out
 clear cx
 cases s
 ·go_wp2_with fail
  go_ret
  exact⟨by rw [HRES.out];try rfl,B1.out⟩
 go_wp2_with ((with_reducible refine qG 24 ?_);refine Ev.load_at_g 48 (.tmp 23) rfl rfl g' (o'+b * 13) (by kernel_rfl) (Ev.cells f) _ (HCF.out _ (B1.out)) Tryz.underlying48 rfl (by kernel_rfl) ?_)
 refine(mark_is HT.out _).mono ?_
 rintro r W2 ⟨rfl,hb2⟩
 have B2:=qH (B1.out.trans (hb2.mono (B1.out).size))
 clear hb2
 go_wp2_with fail
 go_ret
 exact⟨by rw [HRES.out];try rfl,B2.out⟩
theorem r9_any (x:Ev.X) (q a b:Nat) (ha:a < x.ev.length) (hb:b < x.ev.length) (w:World) (hq:Or.As w q x) :
 Calls Tryz.prog 132 #[.pointer (some ⟨q,0,none⟩),.int .i64 (a:Int),.int .i64 (b:Int)] w fun r w'=>r=.returned (.bool (Or.r9 x a b))∧Below w.heap.size w w':=by
 have hl1:=hq.xin.ev.le;have hl2:=hq.xin.ev.max
 obtain⟨e,he⟩:∃ e,x.ev[a]?=some e:=⟨_,List.getElem?_eq_getElem ha⟩
 obtain⟨f,hf⟩:∃ f,x.ev[b]?=some f:=⟨_,List.getElem?_eq_getElem hb⟩
 obtain⟨g,o,eg,hce⟩:=hq.xin.ev.at_ he
 obtain⟨g',o',eg',hcf⟩:=hq.xin.ev.at_ hf
 obtain⟨rfl,rfl⟩:g'=g∧o'=o:=by rw [eg] at eg';cases eg';exact⟨rfl,rfl⟩
 have HE:=qH (Ev.nth_some he);have HF:=qH (Ev.nth_some hf)
 have HEO:=qH (hq.xin.ev.ok_ he);have HFO:=qH (hq.xin.ev.ok_ hf)
 have HQ:=qH hq
 have HCE:=qH (show ∀ W,Below w.heap.size w W→∀ i c,(Ev.cells e)[i]?=some c→W.cell? ⟨g',o'+a * 13+i,none⟩=some c from fun W h i c hi=>Ev.kp_below h _ _ (hce i c hi))
 have HCF:=qH (show ∀ W,Below w.heap.size w W→∀ i c,(Ev.cells f)[i]?=some c→W.cell? ⟨g',o'+b * 13+i,none⟩=some c from fun W h i c hi=>Ev.kp_below h _ _ (hcf i c hi))
 have hai:(a:Int) < (x.ev.length:Int):=by omega
 have hbi:(b:Int) < (x.ev.length:Int):=by omega
 have CX:=qH (show ∀ W,Below w.heap.size w W→W.cell? ⟨q,0,none⟩=some (.slice (some ⟨g',o',none⟩) x.ev.length x.ce) from fun W h=>by
  rw [← eg];exact(hq.kp h).c0)
 have cx:=CX.out w (Below.refl _ _)
 have W0:=qH (Below.refl w.heap.size w)
 clear hq he hf eg eg' hce hcf
 obtain⟨p,hp⟩:∃ s,Or.has f.d1.l (a:Int)=s:=⟨_,rfl⟩
 have HP:=qH hp
 have HRES:=qH (show Or.r9 x a b=p by unfold Or.r9;rw [HF.out,hp])
 have cd:w.cell? ⟨g',o'+b * 13+10,none⟩=some (.slice f.d1.a f.d1.l.length f.d1.c):=HCF.out w W0.out 10 _ rfl
 clear hp
 go_enter Tryz.func132,Tryz.ntmps132
 go_wp2_with fail
 refine(contains_is HP.out _ HFO.out.d1).mono ?_
 rintro r W1 ⟨rfl,rfl⟩
 go_wp2_with fail
 go_ret
 exact⟨by rw [HRES.out];try rfl,W0.out⟩
theorem r10_any (x:Ev.X) (q a b:Nat) (ha:a < x.ev.length) (hb:b < x.ev.length) (w:World) (hq:Or.As w q x) :
 Calls Tryz.prog 133 #[.pointer (some ⟨q,0,none⟩),.int .i64 (a:Int),.int .i64 (b:Int)] w fun r w'=>r=.returned (.bool (Or.r10 x a b))∧Below w.heap.size w w':=by
 have hl1:=hq.xin.ev.le;have hl2:=hq.xin.ev.max
 obtain⟨e,he⟩:∃ e,x.ev[a]?=some e:=⟨_,List.getElem?_eq_getElem ha⟩
 obtain⟨f,hf⟩:∃ f,x.ev[b]?=some f:=⟨_,List.getElem?_eq_getElem hb⟩
 obtain⟨g,o,eg,hce⟩:=hq.xin.ev.at_ he
 obtain⟨g',o',eg',hcf⟩:=hq.xin.ev.at_ hf
 obtain⟨rfl,rfl⟩:g'=g∧o'=o:=by rw [eg] at eg';cases eg';exact⟨rfl,rfl⟩
 have HE:=qH (Ev.nth_some he);have HF:=qH (Ev.nth_some hf)
 have HEO:=qH (hq.xin.ev.ok_ he);have HFO:=qH (hq.xin.ev.ok_ hf)
 have HQ:=qH hq
 have HCE:=qH (show ∀ W,Below w.heap.size w W→∀ i c,(Ev.cells e)[i]?=some c→W.cell? ⟨g',o'+a * 13+i,none⟩=some c from fun W h i c hi=>Ev.kp_below h _ _ (hce i c hi))
 have HCF:=qH (show ∀ W,Below w.heap.size w W→∀ i c,(Ev.cells f)[i]?=some c→W.cell? ⟨g',o'+b * 13+i,none⟩=some c from fun W h i c hi=>Ev.kp_below h _ _ (hcf i c hi))
 have hai:(a:Int) < (x.ev.length:Int):=by omega
 have hbi:(b:Int) < (x.ev.length:Int):=by omega
 have CX:=qH (show ∀ W,Below w.heap.size w W→W.cell? ⟨q,0,none⟩=some (.slice (some ⟨g',o',none⟩) x.ev.length x.ce) from fun W h=>by
  rw [← eg];exact(hq.kp h).c0)
 have cx:=CX.out w (Below.refl _ _)
 have W0:=qH (Below.refl w.heap.size w)
 clear hq he hf eg eg' hce hcf
 obtain⟨p,hp⟩:∃ s,Or.has f.d2.l (a:Int)=s:=⟨_,rfl⟩
 have HP:=qH hp
 have HRES:=qH (show Or.r10 x a b=p by unfold Or.r10;rw [HF.out,hp])
 have cd:w.cell? ⟨g',o'+b * 13+11,none⟩=some (.slice f.d2.a f.d2.l.length f.d2.c):=HCF.out w W0.out 11 _ rfl
 clear hp
 go_enter Tryz.func133,Tryz.ntmps133
 go_wp2_with fail
 refine(contains_is HP.out _ HFO.out.d2).mono ?_
 rintro r W1 ⟨rfl,rfl⟩
 go_wp2_with fail
 go_ret
 exact⟨by rw [HRES.out];try rfl,W0.out⟩
theorem r11_any (x:Ev.X) (q a b:Nat) (ha:a < x.ev.length) (hb:b < x.ev.length) (w:World) (hq:Or.As w q x) :
 Calls Tryz.prog 134 #[.pointer (some ⟨q,0,none⟩),.int .i64 (a:Int),.int .i64 (b:Int)] w fun r w'=>r=.returned (.bool (Or.r11 x a b))∧Below w.heap.size w w':=by
 have hl1:=hq.xin.ev.le;have hl2:=hq.xin.ev.max
 obtain⟨e,he⟩:∃ e,x.ev[a]?=some e:=⟨_,List.getElem?_eq_getElem ha⟩
 obtain⟨f,hf⟩:∃ f,x.ev[b]?=some f:=⟨_,List.getElem?_eq_getElem hb⟩
 obtain⟨g,o,eg,hce⟩:=hq.xin.ev.at_ he
 obtain⟨g',o',eg',hcf⟩:=hq.xin.ev.at_ hf
 obtain⟨rfl,rfl⟩:g'=g∧o'=o:=by rw [eg] at eg';cases eg';exact⟨rfl,rfl⟩
 have HE:=qH (Ev.nth_some he);have HF:=qH (Ev.nth_some hf)
 have HEO:=qH (hq.xin.ev.ok_ he);have HFO:=qH (hq.xin.ev.ok_ hf)
 have HQ:=qH hq
 have HCE:=qH (show ∀ W,Below w.heap.size w W→∀ i c,(Ev.cells e)[i]?=some c→W.cell? ⟨g',o'+a * 13+i,none⟩=some c from fun W h i c hi=>Ev.kp_below h _ _ (hce i c hi))
 have HCF:=qH (show ∀ W,Below w.heap.size w W→∀ i c,(Ev.cells f)[i]?=some c→W.cell? ⟨g',o'+b * 13+i,none⟩=some c from fun W h i c hi=>Ev.kp_below h _ _ (hcf i c hi))
 have hai:(a:Int) < (x.ev.length:Int):=by omega
 have hbi:(b:Int) < (x.ev.length:Int):=by omega
 have CX:=qH (show ∀ W,Below w.heap.size w W→W.cell? ⟨q,0,none⟩=some (.slice (some ⟨g',o',none⟩) x.ev.length x.ce) from fun W h=>by
  rw [← eg];exact(hq.kp h).c0)
 have cx:=CX.out w (Below.refl _ _)
 have W0:=qH (Below.refl w.heap.size w)
 clear hq he hf eg eg' hce hcf
 obtain⟨s,hs⟩:∃ s,Ev.stores f.k=s:=⟨_,rfl⟩
 have HS:=qH hs
 obtain⟨p,hp⟩:∃ s,Or.has f.d3.l (a:Int)=s:=⟨_,rfl⟩
 have HP:=qH hp
 have HRES:=qH (show Or.r11 x a b=(s&&p) by unfold Or.r11;rw [HF.out,hs,hp])
 clear hs hp
 go_enter Tryz.func134,Tryz.ntmps134
 go_wp2_with ((with_reducible refine qG 14 ?_);refine wpList_load_at rfl 48 (.tmp 13) rfl g' (o'+b * 13) (by kernel_rfl) (Ev.cells f) _ (HCF.out _ (W0.out)) Tryz.underlying48 rfl (by kernel_rfl) ?_)
 refine(ostores_is HS.out _).mono ?_
 rintro r W1 ⟨rfl,hb1⟩
 have B1:=qH (W0.out.trans (hb1.mono (W0.out).size))
 clear hb1
 have c1:=CX.out W1 B1.out
 have cd:W1.cell? ⟨g',o'+b * 13+12,none⟩=some (.slice f.d3.a f.d3.l.length f.d3.c):=HCF.out W1 B1.out 12 _ rfl
 clear cx
 cases s
 ·go_wp2_with fail
  go_ret
  exact⟨by rw [HRES.out];try rfl,B1.out⟩
 go_wp2_with fail
 refine(contains_is HP.out _ (HFO.out.d3.kp (Ev.kp_below B1.out))).mono ?_
 rintro r W2 ⟨rfl,rfl⟩
 go_wp2_with fail
 go_ret
 exact⟨by rw [HRES.out];try rfl,B1.out⟩
theorem r9_is {x:Ev.X} {q a b:Nat} {v:Bool} (h:Or.r9 x a b=v) (ha:a < x.ev.length) (hb:b < x.ev.length) (w:World) (hq:Or.As w q x) :
 Calls Tryz.prog 132 #[.pointer (some ⟨q,0,none⟩),.int .i64 (a:Int),.int .i64 (b:Int)] w fun r w'=>r=.returned (.bool v)∧Below w.heap.size w w':=h ▸ r9_any x q a b ha hb w hq
theorem r10_is {x:Ev.X} {q a b:Nat} {v:Bool} (h:Or.r10 x a b=v) (ha:a < x.ev.length) (hb:b < x.ev.length) (w:World) (hq:Or.As w q x) :
 Calls Tryz.prog 133 #[.pointer (some ⟨q,0,none⟩),.int .i64 (a:Int),.int .i64 (b:Int)] w fun r w'=>r=.returned (.bool v)∧Below w.heap.size w w':=h ▸ r10_any x q a b ha hb w hq
end Go.Proofs.YtnjnpbabgefaeaaGreat
end
section
namespace Go.Proofs.YtnjnpbabgefaeaaGreat
open Go.RowKit
namespace Ev
theorem pl_mem {is:Nat→Nat→Bool} {n k:Nat} {p:Nat × Nat}:p ∈ pl is n k↔p.1 < k∧p.2 < n∧is p.1 p.2=true:=by
 unfold pl rowL
 rw [List.mem_flatMap]
 constructor
 ·rintro⟨a,ha,hp⟩
  rw [List.mem_map] at hp
  obtain⟨b,hb,rfl⟩:=hp
  rw [List.mem_filter,List.mem_range] at hb
  exact⟨List.mem_range.1 ha,hb.1,hb.2⟩
 ·rintro⟨h1,h2,h3⟩
  exact⟨p.1,List.mem_range.2 h1,List.mem_map.2 ⟨p.2,List.mem_filter.2 ⟨List.mem_range.2 h2,h3⟩,rfl⟩⟩
theorem place_at {x:X} (hc:check x=0) {n:Nat} (hn:n < x.ev.length) (hs:stores (nth x.ev n).k=true) :
 ∃ (i:Nat) (s:Sl) (v:Nat),x.od[i]?=some s∧i < beg x.ev∧(nth x.ev i).a=(nth x.ev n).a∧s.l[v]?=some (n:Int)∧place x n=v:=by
 have he:=ev_all hc
 obtain⟨h1,_,_⟩:=check_order hc
 obtain⟨i,hi,ha⟩:=beg_of he hn hs
 have hod:x.od.length=beg x.ev:=by
  unfold orderOk at h1
  simp only [Bool.and_eq_true,beq_iff_eq] at h1
  exact h1.1
 obtain⟨s,hsi⟩:∃ s,x.od[i]?=some s:=⟨_,List.getElem?_eq_getElem (by omega)⟩
 obtain⟨_,hr,hd,_⟩:=od_at hc hsi
 have hm:(n:Int) ∈ s.l:=hr.1 n hn hs ha.symm
 obtain⟨v,hv⟩:=List.mem_iff_getElem?.1 hm
 have hat:=at_at hd hv
 refine⟨i,s,v,hsi,hi,ha,hv,?_⟩
 unfold place
 refine place_of ⟨s,List.mem_of_getElem? hsi,hm⟩ (fun t ht hnt=>?_)
 obtain⟨k,hk⟩:=List.mem_iff_getElem?.1 ht
 obtain⟨hkb,_,_,hka⟩:=od_at hc hk
 have hki:k=i:=beg_inj he hkb hi (by rw [ha];exact(hka _ hnt).symm)
 subst hki
 rw [hk] at hsi
 rw [Option.some.inj hsi,hat]
theorem place_inj {x:X} (hc:check x=0) {a b:Nat} (ha:a < x.ev.length) (hb:b < x.ev.length) (hsa:stores (nth x.ev a).k=true) (hsb:stores (nth x.ev b).k=true) (he:(nth x.ev a).a=(nth x.ev b).a) (hp:place x a=place x b):a=b:=by
 obtain⟨i,s,v,h1,h2,h3,h4,h5⟩:=place_at hc ha hsa
 obtain⟨j,t,u,k1,k2,k3,k4,k5⟩:=place_at hc hb hsb
 have hij:i=j:=beg_inj (ev_all hc) h2 k2 (by rw [h3,k3,he])
 subst hij
 rw [h1] at k1
 cases k1
 have huv:v=u:=by omega
 subst huv
 rw [h4] at k4
 have:=Option.some.inj k4
 omega
end Ev
end Go.Proofs.YtnjnpbabgefaeaaGreat
end
