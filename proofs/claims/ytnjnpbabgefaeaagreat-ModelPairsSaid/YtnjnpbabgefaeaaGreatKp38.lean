import Derived.Test.YtnjnpbabgefaeaaGreatKp37
import Derived.Test.YtnjnpbabgefaeaaGreatKp23
import Derived.Test.YtnjnpbabgefaeaaGreatKp01
import Derived.Test.YtnjnpbabgefaeaaGreatKpH
set_option maxRecDepth 100000
set_option maxHeartbeats 4000000
set_option linter.unusedVariables false
set_option linter.unusedSimpArgs false
section
namespace Go.Proofs.YtnjnpbabgefaeaaGreat
open Go.RowKit
namespace Or
open Ev
def r2 (x:X) (a b:Nat):Bool:=loads (nth x.ev a).k&&loads (nth x.ev b).k&&oneW x a b&&!(frAt x a==frAt x b)&&!((ms a b).any (p2 x a))
def r4 (x:X) (a b:Nat):Bool:=(ms a b).any (p4 x a b)
def r8 (x:X) (a b:Nat):Bool:=(nth x.ev a).z&&loads (nth x.ev a).k&&(nth x.ev b).z&&stores (nth x.ev b).k&&oneW x a b&&!((ms a b).any (p8 x))
def r12 (x:X) (a b:Nat):Bool:=(ms a b).any (p12 x a b)
def r13 (x:X) (a b:Nat):Bool:=stores (nth x.ev b).k&&(ms a b).any (p13 x a)
end Or
theorem Or.Such.later {w W:World} {n:Nat→Prop} {G:FuncId} {caps:Array Value} {p:Nat→Bool} (h:Or.Such w n G caps p) (hb:Below w.heap.size w W):Or.Such W n G caps p:=fun m hm W2 hz=>h m hm W2 (hb.trans (hz.mono hb.size))
theorem some_is {p:Nat→Bool} {a b:Nat} {v:Bool} (h:(Or.ms a b).any p=v) (q:Nat) (ha:a < 9223372036854775807) (hb:b≤9223372036854775807) (G:FuncId) (caps:Array Value) (w:World) (hE:∀ args w,(callFunc G args).run Tryz.prog w=.ok (.enter G args) w) (hS:Or.Such w (fun m=>a < m∧m < b) G caps p) :
 Calls Tryz.prog 151 #[.pointer (some ⟨q,0,none⟩),.int .i64 (a:Int),.int .i64 (b:Int),.func (.func G) #[] caps] w fun r w'=>r=.returned (.bool v)∧Below w.heap.size w w':=h ▸ some_any q a b ha hb G caps p w hE hS
theorem r4_any (x:Ev.X) (q a b:Nat) (ha:a < x.ev.length) (hb:b < x.ev.length) (w:World) (hq:Or.As w q x) :
 Calls Tryz.prog 127 #[.pointer (some ⟨q,0,none⟩),.int .i64 (a:Int),.int .i64 (b:Int)] w fun r w'=>r=.returned (.bool (Or.r4 x a b))∧Below w.heap.size w w':=by
 have al:∀ (y:World) (o:Obj),Below y.heap.size y (y.alloc o):=fun y o=>(Below.refl _ _).alloc (Nat.le_refl _) _
 obtain⟨B,hB⟩:∃ B,B=((w.alloc (.cells #[.pointer (some ⟨q,0,none⟩)] 112)).alloc (.cells #[.int .i64 (a:Int)] 3)).alloc (.cells #[.int .i64 (b:Int)] 3):=⟨_,rfl⟩
 have HB:=qH hB
 have B0:=qH (show Below w.heap.size w B by rw [hB];exact(((Below.refl w.heap.size w).alloc (Nat.le_refl _) _).alloc (by simp;try omega) _).alloc (by simp;try omega) _)
 have Kq:=qH (show Or.Box B (w.heap.size) 112 (.pointer (some ⟨q,0,none⟩)) by rw [hB];have h:=((Or.box_new w 112 (.pointer (some ⟨q,0,none⟩))).kp (al _ (.cells #[.int .i64 (a:Int)] 3))).kp (al _ (.cells #[.int .i64 (b:Int)] 3));exact h)
 have Ka:=qH (show Or.Box B (w.heap.size+1) 3 (.int .i64 (a:Int)) by rw [hB];have h:=(Or.box_new (w.alloc (.cells #[.pointer (some ⟨q,0,none⟩)] 112)) 3 (.int .i64 (a:Int))).kp (al _ (.cells #[.int .i64 (b:Int)] 3));simp only [World.size_alloc] at h;exact h)
 have Kb:=qH (show Or.Box B (w.heap.size+1+1) 3 (.int .i64 (b:Int)) by rw [hB];have h:=Or.box_new ((w.alloc (.cells #[.pointer (some ⟨q,0,none⟩)] 112)).alloc (.cells #[.int .i64 (a:Int)] 3)) 3 (.int .i64 (b:Int));simp only [World.size_alloc] at h;exact h)
 clear hB al
 have hl1:=hq.xin.ev.le;have hl2:=hq.xin.ev.max
 have HQ:=qH (hq.kp B0.out)
 have HS:=qH (show Or.Such B (fun m=>a < m∧m < b) 154 #[.pointer (some ⟨w.heap.size,0,none⟩),.pointer (some ⟨w.heap.size+1,0,none⟩),.pointer (some ⟨w.heap.size+1+1,0,none⟩)] (Or.p4 x a b) from fun m hm W hz=>c4_any x q a b m (w.heap.size) (w.heap.size+1) (w.heap.size+1+1) ha hb (by omega) W (HQ.out.kp hz) (Kq.out.kp hz) (Ka.out.kp hz) (Kb.out.kp hz))
 have ha':a < 9223372036854775807:=by omega
 have hb':b≤9223372036854775807:=by omega
 have kq:=Kq.out.cell;have ka:=Ka.out.cell;have kb:=Kb.out.cell
 go_enter Tryz.func127,Tryz.ntmps127
 go_wp2_with (first
  | ((with_reducible refine qG 7 ?_);rw [show ((w.alloc (Obj.cells #[Value.pointer (some ⟨q,0,none⟩)] 112)).alloc (Obj.cells #[Value.int .i64 (a:Int)] 3)).alloc (Obj.cells #[Value.int .i64 (b:Int)] 3)=B from HB.out.symm]))
 refine(some_is (v:=(Or.ms a b).any (Or.p4 x a b)) rfl q ha' hb' _ _ B (enters_of Tryz.func154 (by kernel_rfl) rfl) HS.out).mono ?_
 rintro r W1 ⟨rfl,hb1⟩
 have B1:=qH (B0.out.trans (hb1.mono B0.out.size));clear hb1
 go_wp2_with fail
 go_ret
 exact⟨rfl,B1.out⟩
theorem r12_any (x:Ev.X) (q a b:Nat) (ha:a < x.ev.length) (hb:b < x.ev.length) (hfl:x.fr.l.length=x.ev.length) (w:World) (hq:Or.As w q x) :
 Calls Tryz.prog 135 #[.pointer (some ⟨q,0,none⟩),.int .i64 (a:Int),.int .i64 (b:Int)] w fun r w'=>r=.returned (.bool (Or.r12 x a b))∧Below w.heap.size w w':=by
 have al:∀ (y:World) (o:Obj),Below y.heap.size y (y.alloc o):=fun y o=>(Below.refl _ _).alloc (Nat.le_refl _) _
 obtain⟨B,hB⟩:∃ B,B=((w.alloc (.cells #[.pointer (some ⟨q,0,none⟩)] 112)).alloc (.cells #[.int .i64 (a:Int)] 3)).alloc (.cells #[.int .i64 (b:Int)] 3):=⟨_,rfl⟩
 have HB:=qH hB
 have B0:=qH (show Below w.heap.size w B by rw [hB];exact(((Below.refl w.heap.size w).alloc (Nat.le_refl _) _).alloc (by simp;try omega) _).alloc (by simp;try omega) _)
 have Kq:=qH (show Or.Box B (w.heap.size) 112 (.pointer (some ⟨q,0,none⟩)) by rw [hB];have h:=((Or.box_new w 112 (.pointer (some ⟨q,0,none⟩))).kp (al _ (.cells #[.int .i64 (a:Int)] 3))).kp (al _ (.cells #[.int .i64 (b:Int)] 3));exact h)
 have Ka:=qH (show Or.Box B (w.heap.size+1) 3 (.int .i64 (a:Int)) by rw [hB];have h:=(Or.box_new (w.alloc (.cells #[.pointer (some ⟨q,0,none⟩)] 112)) 3 (.int .i64 (a:Int))).kp (al _ (.cells #[.int .i64 (b:Int)] 3));simp only [World.size_alloc] at h;exact h)
 have Kb:=qH (show Or.Box B (w.heap.size+1+1) 3 (.int .i64 (b:Int)) by rw [hB];have h:=Or.box_new ((w.alloc (.cells #[.pointer (some ⟨q,0,none⟩)] 112)).alloc (.cells #[.int .i64 (a:Int)] 3)) 3 (.int .i64 (b:Int));simp only [World.size_alloc] at h;exact h)
 clear hB al
 have hl1:=hq.xin.ev.le;have hl2:=hq.xin.ev.max
 have HQ:=qH (hq.kp B0.out)
 have HS:=qH (show Or.Such B (fun m=>a < m∧m < b) 159 #[.pointer (some ⟨w.heap.size,0,none⟩),.pointer (some ⟨w.heap.size+1+1,0,none⟩),.pointer (some ⟨w.heap.size+1,0,none⟩)] (Or.p12 x a b) from fun m hm W hz=>c12_any x q a b m (w.heap.size) (w.heap.size+1+1) (w.heap.size+1) ha hb (by omega) hfl W (HQ.out.kp hz) (Kq.out.kp hz) (Kb.out.kp hz) (Ka.out.kp hz))
 have ha':a < 9223372036854775807:=by omega
 have hb':b≤9223372036854775807:=by omega
 have kq:=Kq.out.cell;have ka:=Ka.out.cell;have kb:=Kb.out.cell
 go_enter Tryz.func135,Tryz.ntmps135
 go_wp2_with (first
  | ((with_reducible refine qG 7 ?_);rw [show ((w.alloc (Obj.cells #[Value.pointer (some ⟨q,0,none⟩)] 112)).alloc (Obj.cells #[Value.int .i64 (a:Int)] 3)).alloc (Obj.cells #[Value.int .i64 (b:Int)] 3)=B from HB.out.symm]))
 refine(some_is (v:=(Or.ms a b).any (Or.p12 x a b)) rfl q ha' hb' _ _ B (enters_of Tryz.func159 (by kernel_rfl) rfl) HS.out).mono ?_
 rintro r W1 ⟨rfl,hb1⟩
 have B1:=qH (B0.out.trans (hb1.mono B0.out.size));clear hb1
 go_wp2_with fail
 go_ret
 exact⟨rfl,B1.out⟩
theorem r13_any (x:Ev.X) (q a b:Nat) (ha:a < x.ev.length) (hb:b < x.ev.length) (w:World) (hq:Or.As w q x) :
 Calls Tryz.prog 136 #[.pointer (some ⟨q,0,none⟩),.int .i64 (a:Int),.int .i64 (b:Int)] w fun r w'=>r=.returned (.bool (Or.r13 x a b))∧Below w.heap.size w w':=by
 have al:∀ (y:World) (o:Obj),Below y.heap.size y (y.alloc o):=fun y o=>(Below.refl _ _).alloc (Nat.le_refl _) _
 obtain⟨B,hB⟩:∃ B,B=(w.alloc (.cells #[.pointer (some ⟨q,0,none⟩)] 112)).alloc (.cells #[.int .i64 (a:Int)] 3):=⟨_,rfl⟩
 have HB:=qH hB
 have B0:=qH (show Below w.heap.size w B by rw [hB];exact((Below.refl w.heap.size w).alloc (Nat.le_refl _) _).alloc (by simp;try omega) _)
 have Kq:=qH (show Or.Box B (w.heap.size) 112 (.pointer (some ⟨q,0,none⟩)) by rw [hB];have h:=(Or.box_new w 112 (.pointer (some ⟨q,0,none⟩))).kp (al _ (.cells #[.int .i64 (a:Int)] 3));exact h)
 have Ka:=qH (show Or.Box B (w.heap.size+1) 3 (.int .i64 (a:Int)) by rw [hB];have h:=Or.box_new (w.alloc (.cells #[.pointer (some ⟨q,0,none⟩)] 112)) 3 (.int .i64 (a:Int));simp only [World.size_alloc] at h;exact h)
 clear hB al
 have ha0:=ha;have hb0:=hb
 have hl1:=hq.xin.ev.le;have hl2:=hq.xin.ev.max
 obtain⟨e,he⟩:∃ e,x.ev[a]?=some e:=⟨_,List.getElem?_eq_getElem ha⟩
 obtain⟨f,hf⟩:∃ f,x.ev[b]?=some f:=⟨_,List.getElem?_eq_getElem hb⟩
 obtain⟨g,o,eg,hce⟩:=hq.xin.ev.at_ he
 obtain⟨g',o',eg',hcf⟩:=hq.xin.ev.at_ hf
 obtain⟨rfl,rfl⟩:g'=g∧o'=o:=by rw [eg] at eg';cases eg';exact⟨rfl,rfl⟩
 have HE:=qH (Ev.nth_some he);have HF:=qH (Ev.nth_some hf)
 have HEO:=qH (hq.xin.ev.ok_ he);have HFO:=qH (hq.xin.ev.ok_ hf)
 have HQ:=qH hq
 have HCE:=qH (show ∀ W,Below w.heap.size w W→∀ i c,(Ev.cells e)[i]?=some c→W.cell? ⟨g',o'+a * 13+i,none⟩=some c from fun W h i c hi=>Ev.kp_below h _ _ (hce i c hi))
 have HCF:=qH (show ∀ W,Below w.heap.size w W→∀ i c,(Ev.cells f)[i]?=some c→W.cell? ⟨g',o'+b * 13+i,none⟩=some c from fun W h i c hi=>Ev.kp_below h _ _ (hcf i c hi))
 have hai:(a:Int) < (x.ev.length:Int):=by omega
 have hbi:(b:Int) < (x.ev.length:Int):=by omega
 have CX:=qH (show ∀ W,Below w.heap.size w W→W.cell? ⟨q,0,none⟩=some (.slice (some ⟨g',o',none⟩) x.ev.length x.ce) from fun W h=>by
  rw [← eg];exact(hq.kp h).c0)
 have cx:=CX.out B B0.out
 have W0:=qH (Below.refl w.heap.size w)
 have HQB:=qH (hq.kp B0.out)
 clear hq he hf eg eg' hce hcf
 have HS:=qH (show Or.Such B (fun m=>a < m∧m < b) 160 #[.pointer (some ⟨w.heap.size,0,none⟩),.pointer (some ⟨w.heap.size+1,0,none⟩)] (Or.p13 x a) from fun m hm W hz=>c13_any x q a m (w.heap.size) (w.heap.size+1) ha (by omega) W (HQB.out.kp hz) (Kq.out.kp hz) (Ka.out.kp hz))
 have ha':a < 9223372036854775807:=by omega
 have hb':b≤9223372036854775807:=by omega
 have kq:=Kq.out.cell;have ka:=Ka.out.cell
 obtain⟨s,hs⟩:∃ s,Ev.stores f.k=s:=⟨_,rfl⟩
 have HST:=qH hs
 obtain⟨t,ht⟩:∃ s,(Or.ms a b).any (Or.p13 x a)=s:=⟨_,rfl⟩
 have HT:=qH ht
 have HRES:=qH (show Or.r13 x a b=(s&&t) by unfold Or.r13;rw [HF.out,hs,ht])
 clear hs ht
 go_enter Tryz.func136,Tryz.ntmps136
 go_wp2_with (first
  | ((with_reducible refine qG 7 ?_);rw [show (w.alloc (Obj.cells #[Value.pointer (some ⟨q,0,none⟩)] 112)).alloc (Obj.cells #[Value.int .i64 (a:Int)] 3)=B from HB.out.symm])
  | ((with_reducible refine qG 14 ?_);refine wpList_load_at rfl 48 (.tmp 13) rfl g' (o'+b * 13) (by kernel_rfl) (Ev.cells f) _ (HCF.out _ (B0.out)) Tryz.underlying48 rfl (by kernel_rfl) ?_))
 refine(ostores_is HST.out _).mono ?_
 rintro r W1 ⟨rfl,hb1⟩
 have Z1:=qH hb1
 have B1:=qH (B0.out.trans (hb1.mono B0.out.size))
 have kq1:=(Kq.out.kp hb1).cell;have ka1:=(Ka.out.kp hb1).cell
 clear hb1 kq ka cx
 cases s
 ·go_wp2_with fail
  go_ret
  exact⟨by rw [HRES.out];try rfl,B1.out⟩
 go_wp2_with fail
 refine(some_is HT.out q ha' hb' _ _ W1 (enters_of Tryz.func160 (by kernel_rfl) rfl) (fun m hm W hz=>HS.out m hm W (Z1.out.trans (hz.mono Z1.out.size)))).mono ?_
 rintro r W2 ⟨rfl,hb2⟩
 have B2:=qH (B1.out.trans (hb2.mono (B1.out).size))
 clear hb2
 go_wp2_with fail
 go_ret
 exact⟨by rw [HRES.out];try rfl,B2.out⟩
theorem r2_any (x:Ev.X) (q a b:Nat) (ha:a < x.ev.length) (hb:b < x.ev.length) (hfl:x.fr.l.length=x.ev.length) (w:World) (hq:Or.As w q x) :
 Calls Tryz.prog 125 #[.pointer (some ⟨q,0,none⟩),.int .i64 (a:Int),.int .i64 (b:Int)] w fun r w'=>r=.returned (.bool (Or.r2 x a b))∧Below w.heap.size w w':=by
 have al:∀ (y:World) (o:Obj),Below y.heap.size y (y.alloc o):=fun y o=>(Below.refl _ _).alloc (Nat.le_refl _) _
 obtain⟨B,hB⟩:∃ B,B=(w.alloc (.cells #[.pointer (some ⟨q,0,none⟩)] 112)).alloc (.cells #[.int .i64 (a:Int)] 3):=⟨_,rfl⟩
 have HB:=qH hB
 have B0:=qH (show Below w.heap.size w B by rw [hB];exact((Below.refl w.heap.size w).alloc (Nat.le_refl _) _).alloc (by simp;try omega) _)
 have Kq:=qH (show Or.Box B (w.heap.size) 112 (.pointer (some ⟨q,0,none⟩)) by rw [hB];have h:=(Or.box_new w 112 (.pointer (some ⟨q,0,none⟩))).kp (al _ (.cells #[.int .i64 (a:Int)] 3));exact h)
 have Ka:=qH (show Or.Box B (w.heap.size+1) 3 (.int .i64 (a:Int)) by rw [hB];have h:=Or.box_new (w.alloc (.cells #[.pointer (some ⟨q,0,none⟩)] 112)) 3 (.int .i64 (a:Int));simp only [World.size_alloc] at h;exact h)
 clear hB al
 have hl1:=hq.xin.ev.le;have hl2:=hq.xin.ev.max
 obtain⟨e,he⟩:∃ e,x.ev[a]?=some e:=⟨_,List.getElem?_eq_getElem ha⟩
 obtain⟨f,hf⟩:∃ f,x.ev[b]?=some f:=⟨_,List.getElem?_eq_getElem hb⟩
 obtain⟨g,o,eg,hce⟩:=hq.xin.ev.at_ he
 obtain⟨g',o',eg',hcf⟩:=hq.xin.ev.at_ hf
 obtain⟨rfl,rfl⟩:g'=g∧o'=o:=by rw [eg] at eg';cases eg';exact⟨rfl,rfl⟩
 have HE:=qH (Ev.nth_some he);have HF:=qH (Ev.nth_some hf)
 have HEO:=qH (hq.xin.ev.ok_ he);have HFO:=qH (hq.xin.ev.ok_ hf)
 have HQ:=qH hq
 have HCE:=qH (show ∀ W,Below w.heap.size w W→∀ i c,(Ev.cells e)[i]?=some c→W.cell? ⟨g',o'+a * 13+i,none⟩=some c from fun W h i c hi=>Ev.kp_below h _ _ (hce i c hi))
 have HCF:=qH (show ∀ W,Below w.heap.size w W→∀ i c,(Ev.cells f)[i]?=some c→W.cell? ⟨g',o'+b * 13+i,none⟩=some c from fun W h i c hi=>Ev.kp_below h _ _ (hcf i c hi))
 have hai:(a:Int) < (x.ev.length:Int):=by omega
 have hbi:(b:Int) < (x.ev.length:Int):=by omega
 have CX:=qH (show ∀ W,Below w.heap.size w W→W.cell? ⟨q,0,none⟩=some (.slice (some ⟨g',o',none⟩) x.ev.length x.ce) from fun W h=>by
  rw [← eg];exact(hq.kp h).c0)
 skip
 have W0:=qH (Below.refl w.heap.size w)
 have HQB:=qH (hq.kp B0.out)
 clear hq he hf eg eg' hce hcf
 have hfs:=HQ.out.xin.fr.2.1;have hfm:=HQ.out.xin.fr.2.2.1
 obtain⟨v,hv⟩:∃ v,x.fr.l[b]?=some v:=⟨_,List.getElem?_eq_getElem (by omega)⟩
 obtain⟨gf,of,ef,hcv⟩:=HQ.out.xin.fr.at_ hv
 have HV:=qH (show Ev.frAt x b=v by unfold Ev.frAt;simp [List.getD,hv])
 have hbf:(b:Int) < (x.fr.l.length:Int):=by omega
 have C1:=qH (show ∀ W,Below w.heap.size w W→W.cell? ⟨q,1,none⟩=some (.slice (some ⟨gf,of,none⟩) x.fr.l.length x.fr.c) from fun W h=>by
  rw [← ef];exact(HQ.out.kp h).c1)
 have CV:=qH (show ∀ W,Below w.heap.size w W→W.cell? ⟨gf,of+b,none⟩=some (.int .i64 v) from fun W h=>Ev.kp_below h _ _ hcv)
 have ef0:=ef
 clear hv hcv
 obtain⟨u,hu⟩:∃ v,x.fr.l[a]?=some v:=⟨_,List.getElem?_eq_getElem (by omega)⟩
 obtain⟨gf2,of2,ef2,hcu⟩:=HQ.out.xin.fr.at_ hu
 obtain⟨rfl,rfl⟩:gf2=gf∧of2=of:=by rw [ef0] at ef2;cases ef2;exact⟨rfl,rfl⟩
 have HU:=qH (show Ev.frAt x a=u by unfold Ev.frAt;simp [List.getD,hu])
 have haf:(a:Int) < (x.fr.l.length:Int):=by omega
 have C2:=qH (show ∀ W,Below w.heap.size w W→W.cell? ⟨q,1,none⟩=some (.slice (some ⟨gf2,of2,none⟩) x.fr.l.length x.fr.c) from fun W h=>by
  rw [← ef2];exact(HQ.out.kp h).c1)
 have CU:=qH (show ∀ W,Below w.heap.size w W→W.cell? ⟨gf2,of2+a,none⟩=some (.int .i64 u) from fun W h=>Ev.kp_below h _ _ hcu)
 clear hu hcu ef ef0
 have HS:=qH (show Or.Such B (fun m=>a < m∧m < b) 152 #[.pointer (some ⟨w.heap.size,0,none⟩),.pointer (some ⟨w.heap.size+1,0,none⟩)] (Or.p2 x a) from fun m hm W hz=>c2_any x q a m (w.heap.size) (w.heap.size+1) ha (by omega) W (HQB.out.kp hz) (Kq.out.kp hz) (Ka.out.kp hz))
 have ha':a < 9223372036854775807:=by omega
 have hb':b≤9223372036854775807:=by omega
 obtain⟨s,hs⟩:∃ s,Ev.loads e.k=s:=⟨_,rfl⟩
 have HL1:=qH hs
 obtain⟨t,ht⟩:∃ s,Ev.loads f.k=s:=⟨_,rfl⟩
 have HL2:=qH ht
 obtain⟨o1,ho1⟩:∃ s,Or.oneW x a b=s:=⟨_,rfl⟩
 have HO:=qH ho1
 obtain⟨n1,hn1⟩:∃ s,(Or.ms a b).any (Or.p2 x a)=s:=⟨_,rfl⟩
 have HN:=qH hn1
 have HRES:=qH (show Or.r2 x a b=(s&&t&&o1&&!(u==v)&&!n1) by unfold Or.r2;rw [HE.out,HF.out,hs,ht,ho1,hn1,HU.out,HV.out])
 have bz:∀ z:Og.On B.heap.size B,Below w.heap.size w z.x:=fun z=>B0.out.trans (z.b.mono B0.out.size)
 have BZ:=qH bz
 have cx:∀ z:Og.On B.heap.size B,z.x.cell? ⟨q,0,none⟩=some (.slice (some ⟨g',o',none⟩) x.ev.length x.ce):=fun z=>CX.out z.x (bz z)
 have c1:∀ z:Og.On B.heap.size B,z.x.cell? ⟨q,1,none⟩=some (.slice (some ⟨gf2,of2,none⟩) x.fr.l.length x.fr.c):=fun z=>C1.out z.x (bz z)
 have cv:∀ z:Og.On B.heap.size B,z.x.cell? ⟨gf2,of2+b,none⟩=some (.int .i64 v):=fun z=>CV.out z.x (bz z)
 have cu:∀ z:Og.On B.heap.size B,z.x.cell? ⟨gf2,of2+a,none⟩=some (.int .i64 u):=fun z=>CU.out z.x (bz z)
 have kq:∀ z:Og.On B.heap.size B,z.x.cell? ⟨w.heap.size,0,none⟩=some (.pointer (some ⟨q,0,none⟩)):=fun z=>(Kq.out.kp z.b).cell
 have ka:∀ z:Og.On B.heap.size B,z.x.cell? ⟨w.heap.size+1,0,none⟩=some (.int .i64 (a:Int)):=fun z=>(Ka.out.kp z.b).cell
 have LA:=qH (fun z:Og.On B.heap.size B=>Ev.ld (w:=z.x) (g:=g') (o:=o'+a * 13) (x:=e) (HCE.out z.x (bz z)))
 have LB:=qH (fun z:Og.On B.heap.size B=>Ev.ld (w:=z.x) (g:=g') (o:=o'+b * 13) (x:=f) (HCF.out z.x (bz z)))
 clear hs ht ho1 hn1 hfl bz
 cases s
 case false =>
  go_enter Tryz.func125,Tryz.ntmps125
  go_wp2_with fail
  rw [show (w.alloc (Obj.cells #[Value.pointer (some ⟨q,0,none⟩)] 112)).alloc (Obj.cells #[Value.int .i64 (a:Int)] 3)=B from HB.out.symm]
  refine Og.regionB (by kernel_rfl) (by kernel_rfl) ?_
  repeat (first
   | go_big_quiet_skip
   | (go_big_quiet_want
      first
       | ((with_reducible show Oper.quiet _ (Oper.mk (some 14) _ _ _ _ _) _ _ _);refine Og.quiet_load 48 (.tmp 13) rfl (.agg (Ev.cells e).toArray) ⟨g',o'+a * 13,none⟩ _ rfl (by rintro _ ⟨z,rfl⟩;exact LA.out z) (by simp only [Act.put,qa,qb,qc];rfl) ?_
          go_big_quiet_on)
       | (go_big_quiet_op
          first
           | go_big_quiet_on
           | (apply Exists.intro
              refine⟨fun z=>?_,?_⟩
              ·first
                | (with_reducible exact Og.callB (oloads_is HL1.out _))
              go_big_quiet_on))))
  refine wpQuiet_nil ?_
  intro _ hw'
  obtain⟨q9,hw''⟩:=hw'
  subst hw''
  go_wp2_with fail
  go_ret
  exact⟨by rw [HRES.out];try rfl,B0.out.trans (q9.b.mono B0.out.size)⟩
 cases t
 case false =>
  go_enter Tryz.func125,Tryz.ntmps125
  go_wp2_with fail
  rw [show (w.alloc (Obj.cells #[Value.pointer (some ⟨q,0,none⟩)] 112)).alloc (Obj.cells #[Value.int .i64 (a:Int)] 3)=B from HB.out.symm]
  refine Og.regionB (by kernel_rfl) (by kernel_rfl) ?_
  repeat (first
   | go_big_quiet_skip
   | (go_big_quiet_want
      first
       | ((with_reducible show Oper.quiet _ (Oper.mk (some 14) _ _ _ _ _) _ _ _);refine Og.quiet_load 48 (.tmp 13) rfl (.agg (Ev.cells e).toArray) ⟨g',o'+a * 13,none⟩ _ rfl (by rintro _ ⟨z,rfl⟩;exact LA.out z) (by simp only [Act.put,qa,qb,qc];rfl) ?_
          go_big_quiet_on)
       | ((with_reducible show Oper.quiet _ (Oper.mk (some 24) _ _ _ _ _) _ _ _);refine Og.quiet_load 48 (.tmp 23) rfl (.agg (Ev.cells f).toArray) ⟨g',o'+b * 13,none⟩ _ rfl (by rintro _ ⟨z,rfl⟩;exact LB.out z) (by simp only [Act.put,qa,qb,qc];rfl) ?_
          go_big_quiet_on)
       | (go_big_quiet_op
          first
           | go_big_quiet_on
           | (apply Exists.intro
              refine⟨fun z=>?_,?_⟩
              ·first
                | (with_reducible exact Og.callB (oloads_is HL1.out _))
                | (with_reducible exact Og.callB (oloads_is HL2.out _))
              go_big_quiet_on))))
  refine wpQuiet_nil ?_
  intro _ hw'
  obtain⟨q9,hw''⟩:=hw'
  subst hw''
  go_wp2_with fail
  go_ret
  exact⟨by rw [HRES.out];try rfl,B0.out.trans (q9.b.mono B0.out.size)⟩
 cases o1
 case false =>
  go_enter Tryz.func125,Tryz.ntmps125
  go_wp2_with fail
  rw [show (w.alloc (Obj.cells #[Value.pointer (some ⟨q,0,none⟩)] 112)).alloc (Obj.cells #[Value.int .i64 (a:Int)] 3)=B from HB.out.symm]
  refine Og.regionB (by kernel_rfl) (by kernel_rfl) ?_
  repeat (first
   | go_big_quiet_skip
   | (go_big_quiet_want
      first
       | ((with_reducible show Oper.quiet _ (Oper.mk (some 14) _ _ _ _ _) _ _ _);refine Og.quiet_load 48 (.tmp 13) rfl (.agg (Ev.cells e).toArray) ⟨g',o'+a * 13,none⟩ _ rfl (by rintro _ ⟨z,rfl⟩;exact LA.out z) (by simp only [Act.put,qa,qb,qc];rfl) ?_
          go_big_quiet_on)
       | ((with_reducible show Oper.quiet _ (Oper.mk (some 24) _ _ _ _ _) _ _ _);refine Og.quiet_load 48 (.tmp 23) rfl (.agg (Ev.cells f).toArray) ⟨g',o'+b * 13,none⟩ _ rfl (by rintro _ ⟨z,rfl⟩;exact LB.out z) (by simp only [Act.put,qa,qb,qc];rfl) ?_
          go_big_quiet_on)
       | (go_big_quiet_op
          first
           | go_big_quiet_on
           | (apply Exists.intro
              refine⟨fun z=>?_,?_⟩
              ·first
                | (with_reducible exact Og.callB (oloads_is HL1.out _))
                | (with_reducible exact Og.callB (oloads_is HL2.out _))
                | (with_reducible exact Og.callB (oneW_is HO.out ha hb _ (HQB.out.kp z.b)))
              go_big_quiet_on))))
  refine wpQuiet_nil ?_
  intro _ hw'
  obtain⟨q9,hw''⟩:=hw'
  subst hw''
  go_wp2_with fail
  go_ret
  exact⟨by rw [HRES.out];try rfl,B0.out.trans (q9.b.mono B0.out.size)⟩
 by_cases hq:u=v
 case pos =>
  have tq:(u==v)=true:=by simpa using hq
  have tq':(u != v)=false:=by simpa using hq
  have HRES:=qH (show Or.r2 x a b=false by rw [HRES.out,tq];rfl)
  clear hq
  go_enter Tryz.func125,Tryz.ntmps125
  go_wp2_with fail
  rw [show (w.alloc (Obj.cells #[Value.pointer (some ⟨q,0,none⟩)] 112)).alloc (Obj.cells #[Value.int .i64 (a:Int)] 3)=B from HB.out.symm]
  refine Og.regionB (by kernel_rfl) (by kernel_rfl) ?_
  repeat (first
   | go_big_quiet_skip
   | (go_big_quiet_want
      first
       | ((with_reducible show Oper.quiet _ (Oper.mk (some 14) _ _ _ _ _) _ _ _);refine Og.quiet_load 48 (.tmp 13) rfl (.agg (Ev.cells e).toArray) ⟨g',o'+a * 13,none⟩ _ rfl (by rintro _ ⟨z,rfl⟩;exact LA.out z) (by simp only [Act.put,qa,qb,qc];rfl) ?_
          go_big_quiet_on)
       | ((with_reducible show Oper.quiet _ (Oper.mk (some 24) _ _ _ _ _) _ _ _);refine Og.quiet_load 48 (.tmp 23) rfl (.agg (Ev.cells f).toArray) ⟨g',o'+b * 13,none⟩ _ rfl (by rintro _ ⟨z,rfl⟩;exact LB.out z) (by simp only [Act.put,qa,qb,qc];rfl) ?_
          go_big_quiet_on)
       | (go_big_quiet_op
          first
           | go_big_quiet_on
           | (apply Exists.intro
              refine⟨fun z=>?_,?_⟩
              ·first
                | (with_reducible exact Og.callB (oloads_is HL1.out _))
                | (with_reducible exact Og.callB (oloads_is HL2.out _))
                | (with_reducible exact Og.callB (oneW_is HO.out ha hb _ (HQB.out.kp z.b)))
              go_big_quiet_on))))
  refine wpQuiet_nil ?_
  intro _ hw'
  obtain⟨q9,hw''⟩:=hw'
  subst hw''
  go_wp2_with fail
  go_ret
  exact⟨by rw [HRES.out];try rfl,B0.out.trans (q9.b.mono B0.out.size)⟩
 have tq:(u==v)=false:=by simpa using hq
 have tq':(u != v)=true:=by simpa using hq
 have HRES:=qH (show Or.r2 x a b=!n1 by rw [HRES.out,tq];rfl)
 clear hq
 cases n1
 ·go_enter Tryz.func125,Tryz.ntmps125
  go_wp2_with fail
  rw [show (w.alloc (Obj.cells #[Value.pointer (some ⟨q,0,none⟩)] 112)).alloc (Obj.cells #[Value.int .i64 (a:Int)] 3)=B from HB.out.symm]
  refine Og.regionB (by kernel_rfl) (by kernel_rfl) ?_
  repeat (first
   | go_big_quiet_skip
   | (go_big_quiet_want
      first
       | ((with_reducible show Oper.quiet _ (Oper.mk (some 14) _ _ _ _ _) _ _ _);refine Og.quiet_load 48 (.tmp 13) rfl (.agg (Ev.cells e).toArray) ⟨g',o'+a * 13,none⟩ _ rfl (by rintro _ ⟨z,rfl⟩;exact LA.out z) (by simp only [Act.put,qa,qb,qc];rfl) ?_
          go_big_quiet_on)
       | ((with_reducible show Oper.quiet _ (Oper.mk (some 24) _ _ _ _ _) _ _ _);refine Og.quiet_load 48 (.tmp 23) rfl (.agg (Ev.cells f).toArray) ⟨g',o'+b * 13,none⟩ _ rfl (by rintro _ ⟨z,rfl⟩;exact LB.out z) (by simp only [Act.put,qa,qb,qc];rfl) ?_
          go_big_quiet_on)
       | (go_big_quiet_op
          first
           | go_big_quiet_on
           | (apply Exists.intro
              refine⟨fun z=>?_,?_⟩
              ·first
                | (with_reducible exact Og.callB (oloads_is HL1.out _))
                | (with_reducible exact Og.callB (oloads_is HL2.out _))
                | (with_reducible exact Og.callB (oneW_is HO.out ha hb _ (HQB.out.kp z.b)))
                | (exact Og.callB (some_is HN.out q ha' hb' _ _ _ (enters_of Tryz.func152 (by kernel_rfl) rfl) (HS.out.later z.b)))
              go_big_quiet_on))))
  refine wpQuiet_nil ?_
  intro _ hw'
  obtain⟨q9,hw''⟩:=hw'
  subst hw''
  go_wp2_with fail
  go_ret
  exact⟨by rw [HRES.out];try rfl,B0.out.trans (q9.b.mono B0.out.size)⟩
 ·go_enter Tryz.func125,Tryz.ntmps125
  go_wp2_with fail
  rw [show (w.alloc (Obj.cells #[Value.pointer (some ⟨q,0,none⟩)] 112)).alloc (Obj.cells #[Value.int .i64 (a:Int)] 3)=B from HB.out.symm]
  refine Og.regionB (by kernel_rfl) (by kernel_rfl) ?_
  repeat (first
   | go_big_quiet_skip
   | (go_big_quiet_want
      first
       | ((with_reducible show Oper.quiet _ (Oper.mk (some 14) _ _ _ _ _) _ _ _);refine Og.quiet_load 48 (.tmp 13) rfl (.agg (Ev.cells e).toArray) ⟨g',o'+a * 13,none⟩ _ rfl (by rintro _ ⟨z,rfl⟩;exact LA.out z) (by simp only [Act.put,qa,qb,qc];rfl) ?_
          go_big_quiet_on)
       | ((with_reducible show Oper.quiet _ (Oper.mk (some 24) _ _ _ _ _) _ _ _);refine Og.quiet_load 48 (.tmp 23) rfl (.agg (Ev.cells f).toArray) ⟨g',o'+b * 13,none⟩ _ rfl (by rintro _ ⟨z,rfl⟩;exact LB.out z) (by simp only [Act.put,qa,qb,qc];rfl) ?_
          go_big_quiet_on)
       | (go_big_quiet_op
          first
           | go_big_quiet_on
           | (apply Exists.intro
              refine⟨fun z=>?_,?_⟩
              ·first
                | (with_reducible exact Og.callB (oloads_is HL1.out _))
                | (with_reducible exact Og.callB (oloads_is HL2.out _))
                | (with_reducible exact Og.callB (oneW_is HO.out ha hb _ (HQB.out.kp z.b)))
                | (exact Og.callB (some_is HN.out q ha' hb' _ _ _ (enters_of Tryz.func152 (by kernel_rfl) rfl) (HS.out.later z.b)))
              go_big_quiet_on))))
  refine wpQuiet_nil ?_
  intro _ hw'
  obtain⟨q9,hw''⟩:=hw'
  subst hw''
  go_wp2_with fail
  go_ret
  exact⟨by rw [HRES.out];try rfl,B0.out.trans (q9.b.mono B0.out.size)⟩
end Go.Proofs.YtnjnpbabgefaeaaGreat
end
section
namespace Go.Proofs.YtnjnpbabgefaeaaGreat
open Go.RowKit
namespace Ev
def isG6 (x:X) (a b:Nat):Bool:=isPpo x a b||isCo x (a:Int) (b:Int)||isFr x a b||(isRf x a b&&(nth x.ev (a:Int)).h != (nth x.ev (b:Int)).h)
end Ev
end Go.Proofs.YtnjnpbabgefaeaaGreat
end
