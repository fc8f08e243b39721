import Derived.Test.YtnjnpbabgefaeaaGreatKp06
import Derived.Test.YtnjnpbabgefaeaaGreatKp18
import Derived.Test.YtnjnpbabgefaeaaGreatKp04
import Derived.Test.YtnjnpbabgefaeaaGreatKp01
import Derived.Test.YtnjnpbabgefaeaaGreatKp19
import Derived.Test.YtnjnpbabgefaeaaGreatKpH
set_option maxRecDepth 100000
set_option maxHeartbeats 4000000
set_option linter.unusedVariables false
set_option linter.unusedSimpArgs false
section
namespace Go.Proofs.YtnjnpbabgefaeaaGreat
open Go.RowKit
namespace Or
open Ev
structure As (w:World) (q:Nat) (x:X):Prop where
 row:w.heap[q]?=some (.cells (xcells x).toArray 115 (0,0))
 xin:XIn w x
theorem As.kp {w w':World} {q:Nat} {x:X} (h:As w q x) (hb:Below w.heap.size w w'):As w' q x :=
 ⟨(hb.block q (qL h.row)).trans h.row,h.xin.kp (kp_below hb)⟩
theorem As.c0 {w:World} {q:Nat} {x:X} (h:As w q x):w.cell? ⟨q,0,none⟩=some (.slice x.ae x.ev.length x.ce):=by rw [qC h.row];rfl
theorem As.c1 {w:World} {q:Nat} {x:X} (h:As w q x):w.cell? ⟨q,1,none⟩=some (.slice x.fr.a x.fr.l.length x.fr.c):=by rw [qC h.row];rfl
theorem As.alloc {w:World} {q:Nat} {x:X} (h:As w q x) (o:Obj):As (w.alloc o) q x:=h.kp ((Below.refl _ _).alloc (Nat.le_refl _) _)
def kept (x:X) (a b:Nat):Bool:=decide (a < b)&&(nth x.ev a).h==(nth x.ev b).h&&acc (nth x.ev a)&&acc (nth x.ev b)
def oneW (x:X) (a b:Nat):Bool:=(nth x.ev a).a==(nth x.ev b).a
def kV (F:Nat):Value:=.func (.func F) #[] #[]
def rulesA:Array Value:=#[.nilFunc,kV 124,kV 125,kV 126,kV 127,kV 128,kV 129,kV 130,kV 131,kV 132,kV 133,kV 134,kV 135,kV 136]
def rulesV:Value:=.agg rulesA
end Or
theorem kept_any (x:Ev.X) (q a b:Nat) (ha:a < x.ev.length) (hb:b < x.ev.length) (w:World) (hq:Or.As w q x) :
 Calls Tryz.prog 106 #[.pointer (some ⟨q,0,none⟩),.int .i64 (a:Int),.int .i64 (b:Int)] w fun r w'=>r=.returned (.bool (Or.kept x a b))∧Below w.heap.size w w':=by
 have hl1:=hq.xin.ev.le;have hl2:=hq.xin.ev.max
 obtain⟨e,he⟩:∃ e,x.ev[a]?=some e:=⟨_,List.getElem?_eq_getElem ha⟩
 obtain⟨f,hf⟩:∃ f,x.ev[b]?=some f:=⟨_,List.getElem?_eq_getElem hb⟩
 obtain⟨g,o,eg,hce⟩:=hq.xin.ev.at_ he
 obtain⟨g',o',eg',hcf⟩:=hq.xin.ev.at_ hf
 obtain⟨rfl,rfl⟩:g'=g∧o'=o:=by rw [eg] at eg';cases eg';exact⟨rfl,rfl⟩
 have HE:=qH (Ev.nth_some he);have HF:=qH (Ev.nth_some hf)
 have HQ:=qH hq;have HCE:=qH hce;have HCF:=qH hcf
 have hai:(a:Int) < (x.ev.length:Int):=by omega
 have hbi:(b:Int) < (x.ev.length:Int):=by omega
 have CX:=qH (show ∀ W,Below w.heap.size w W→W.cell? ⟨q,0,none⟩=some (.slice (some ⟨g',o',none⟩) x.ev.length x.ce) from fun W h=>by
  rw [← eg];exact(hq.kp h).c0)
 clear hq he hf eg eg' hce hcf
 obtain⟨p,hp⟩:∃ p,Or.acc e=p:=⟨_,rfl⟩
 obtain⟨s,hs⟩:∃ p,Or.acc f=p:=⟨_,rfl⟩
 have HP:=qH hp;have HS:=qH hs
 have HRES:=qH (show Or.kept x a b=(decide ((a:Int) < (b:Int))&&e.h==f.h&&p&&s) by unfold Or.kept;rw [HE.out,HF.out,hp,hs];congr 3;simp only [decide_eq_decide];omega)
 clear hp hs
 go_enter Tryz.func106,Tryz.ntmps106
 go_wp2_with fail
 have cx:=CX.out w (Below.refl _ _)
 have LA:=qH (fun (z:World) (hz:Og.Std w z)=>Ev.ld (w:=z) (g:=g') (o:=o'+a * 13) (x:=e) (fun i c hi=>Og.std_cell hz (Ev.kp_below (Below.refl _ _) _ _ (HCE.out i c hi))))
 have LF:=qH (fun (z:World) (hz:Og.Std w z)=>Ev.ld (w:=z) (g:=g') (o:=o'+b * 13) (x:=f) (fun i c hi=>Og.std_cell hz (Ev.kp_below (Below.refl _ _) _ _ (HCF.out i c hi))))
 refine wp_region_held (S:=Og.Std w) (by kernel_rfl) ?_
 have S0:Og.Std w { w with drawn:=w.drawn+1 }:=⟨rfl,rfl,rfl,Nat.le_refl _,fun _ _=>rfl⟩
 refine Og.held_take 0 _ (.pointer (some ⟨q,0,none⟩)) _ rfl rfl (by kernel_rfl) (by kernel_rfl) (by kernel_rfl) (fun _ _ _ h=>h) S0 (fun z hz=>?_) (by simp only [Act.put,qa,qb,qc];rfl) ?_
 ·go_simp;try (with_reducible rfl)
 refine Og.held_take 1 _ (.pointer (some ⟨q,0,none⟩)) _ rfl rfl (by kernel_rfl) (by kernel_rfl) (by kernel_rfl) (fun _ _ _ h=>h) S0 (fun z hz=>?_) (by simp only [Act.put,qa,qb,qc];rfl) ?_
 ·go_simp;try (with_reducible rfl)
 refine Og.held_take 2 _ (.pointer (some ⟨q,0,none⟩)) _ rfl rfl (by kernel_rfl) (by kernel_rfl) (by kernel_rfl) (fun _ _ _ h=>h) S0 (fun z hz=>?_) (by simp only [Act.put,qa,qb,qc];rfl) ?_
 ·go_simp;try (with_reducible rfl)
 refine Og.held_take 3 _ (.pointer (some ⟨q,0,none⟩)) _ rfl rfl (by kernel_rfl) (by kernel_rfl) (by kernel_rfl) (fun _ _ _ h=>h) S0 (fun z hz=>?_) (by simp only [Act.put,qa,qb,qc];rfl) ?_
 ·go_simp;try (with_reducible rfl)
 refine Og.held_take 4 _ (.slice (some ⟨g',o',none⟩) x.ev.length x.ce) _ rfl rfl (by kernel_rfl) (by kernel_rfl) (by kernel_rfl) (fun _ _ _ h=>h) S0 (fun z hz=>?_) (by simp only [Act.put,qa,qb,qc];rfl) ?_
 ·exact Og.load_run 22 (.tmp 12) rfl ⟨q,0,none⟩ (by kernel_rfl) (run_load_slice Tryz.underlying22 (Og.std_cell hz cx))
 refine Og.held_take 5 _ (.int .i64 (a:Int)) _ rfl rfl (by kernel_rfl) (by kernel_rfl) (by kernel_rfl) (fun _ _ _ h=>h) S0 (fun z hz=>?_) (by simp only [Act.put,qa,qb,qc];rfl) ?_
 ·go_simp;try (with_reducible rfl)
 refine Og.held_take 6 _ (.pointer (some ⟨g',o'+a * 13,none⟩)) _ rfl rfl (by kernel_rfl) (by kernel_rfl) (by kernel_rfl) (fun _ _ _ h=>h) S0 (fun z hz=>?_) (by simp only [Act.put,qa,qb,qc];rfl) ?_
 ·go_simp;try (with_reducible rfl)
 refine Og.held_take 7 _ (.agg (Ev.cells e).toArray) _ rfl rfl (by kernel_rfl) (by kernel_rfl) (by kernel_rfl) (fun _ _ _ h=>h) S0 (fun z hz=>?_) (by simp only [Act.put,qa,qb,qc];rfl) ?_
 ·exact Og.load_run 48 (.tmp 15) rfl ⟨g',o'+a * 13,none⟩ (by kernel_rfl) (LA.out z hz)
 refine Og.held_take 8 _ (.pointer (some ⟨q,0,none⟩)) _ rfl rfl (by kernel_rfl) (by kernel_rfl) (by kernel_rfl) (fun _ _ _ h=>h) S0 (fun z hz=>?_) (by simp only [Act.put,qa,qb,qc];rfl) ?_
 ·go_simp;try (with_reducible rfl)
 refine Og.held_take 9 _ (.pointer (some ⟨q,0,none⟩)) _ rfl rfl (by kernel_rfl) (by kernel_rfl) (by kernel_rfl) (fun _ _ _ h=>h) S0 (fun z hz=>?_) (by simp only [Act.put,qa,qb,qc];rfl) ?_
 ·go_simp;try (with_reducible rfl)
 refine Og.held_take 10 _ (.pointer (some ⟨q,0,none⟩)) _ rfl rfl (by kernel_rfl) (by kernel_rfl) (by kernel_rfl) (fun _ _ _ h=>h) S0 (fun z hz=>?_) (by simp only [Act.put,qa,qb,qc];rfl) ?_
 ·go_simp;try (with_reducible rfl)
 refine Og.held_take 11 _ (.pointer (some ⟨q,0,none⟩)) _ rfl rfl (by kernel_rfl) (by kernel_rfl) (by kernel_rfl) (fun _ _ _ h=>h) S0 (fun z hz=>?_) (by simp only [Act.put,qa,qb,qc];rfl) ?_
 ·go_simp;try (with_reducible rfl)
 refine Og.held_take 12 _ (.slice (some ⟨g',o',none⟩) x.ev.length x.ce) _ rfl rfl (by kernel_rfl) (by kernel_rfl) (by kernel_rfl) (fun _ _ _ h=>h) S0 (fun z hz=>?_) (by simp only [Act.put,qa,qb,qc];rfl) ?_
 ·exact Og.load_run 22 (.tmp 20) rfl ⟨q,0,none⟩ (by kernel_rfl) (run_load_slice Tryz.underlying22 (Og.std_cell hz cx))
 refine Og.held_take 13 _ (.int .i64 (b:Int)) _ rfl rfl (by kernel_rfl) (by kernel_rfl) (by kernel_rfl) (fun _ _ _ h=>h) S0 (fun z hz=>?_) (by simp only [Act.put,qa,qb,qc];rfl) ?_
 ·go_simp;try (with_reducible rfl)
 refine Og.held_take 14 _ (.pointer (some ⟨g',o'+b * 13,none⟩)) _ rfl rfl (by kernel_rfl) (by kernel_rfl) (by kernel_rfl) (fun _ _ _ h=>h) S0 (fun z hz=>?_) (by simp only [Act.put,qa,qb,qc];rfl) ?_
 ·go_simp;try (with_reducible rfl)
 refine Og.held_take 15 _ (.agg (Ev.cells f).toArray) _ rfl rfl (by kernel_rfl) (by kernel_rfl) (by kernel_rfl) (fun _ _ _ h=>h) S0 (fun z hz=>?_) (by simp only [Act.put,qa,qb,qc];rfl) ?_
 ·exact Og.load_run 48 (.tmp 23) rfl ⟨g',o'+b * 13,none⟩ (by kernel_rfl) (LF.out z hz)
 refine Og.four (p:=16) (q:=17) (s1:=18) (s2:=19) (dp:=7) (dq:=8) (x1:=16) (x2:=24) (T:=48) (Z:=(Ev.cells Ev.R0).toArray) (c1:=(Ev.cells e).toArray) (c2:=(Ev.cells f).toArray)
  ⟨⟨_,rfl,rfl,rfl,fun ρ w=>by kernel_rfl⟩,⟨_,rfl,rfl,rfl,fun ρ w=>by kernel_rfl⟩,⟨_,rfl,rfl,rfl,rfl⟩,⟨_,rfl,rfl,rfl,rfl⟩,(by kernel_rfl),(by kernel_rfl),(by kernel_rfl),(by kernel_rfl),(by kernel_rfl),(by kernel_rfl),(by kernel_rfl),(by kernel_rfl),(by kernel_rfl),(by kernel_rfl),(by kernel_rfl),of_decide_eq_true (by kernel_rfl),of_decide_eq_true (by kernel_rfl),(by decide),rfl,rfl,(by kernel_rfl),(by kernel_rfl),(by kernel_rfl),(by kernel_rfl)⟩ S0 ?_
 intro W g1 g2 HT
 simp only [Act.put,qa,qb,qc]
 have R1:=qH HT.r1;have R2:=qH HT.r2;have BW:=qH (HT.below)
 clear HT S0 cx
 have c1:W.cell? ⟨g1,0,none⟩=some (.int .i64 e.h):=by rw [qC R1.out];rfl
 have c2:W.cell? ⟨g2,0,none⟩=some (.int .i64 f.h):=by rw [qC R2.out];rfl
 by_cases h1:(a:Int) < (b:Int)
 case neg =>
  have t1:decide ((a:Int) < (b:Int))=false:=decide_eq_false h1
  have t1':decide (a < b)=false:=decide_eq_false (by omega)
  have HRES:=qH (show Or.kept x a b=false by rw [HRES.out,t1];rfl)
  clear h1
  go_wp2_with fail
  go_ret
  exact⟨by rw [HRES.out];try rfl,BW.out⟩
 have t1:decide ((a:Int) < (b:Int))=true:=decide_eq_true h1
 have t1':decide (a < b)=true:=decide_eq_true (by omega)
 by_cases h2:e.h=f.h
 case neg =>
  have t2:(e.h==f.h)=false:=by simpa using h2
  have HRES:=qH (show Or.kept x a b=false by rw [HRES.out,t1,t2];rfl)
  clear h1 h2
  go_wp2_with fail
  go_ret
  exact⟨by rw [HRES.out];try rfl,BW.out⟩
 have t2:(e.h==f.h)=true:=by simpa using h2
 have HRES:=qH (show Or.kept x a b=(p&&s) by rw [HRES.out,t1,t2];rfl)
 clear h1 h2
 go_wp2_with ((with_reducible refine qG 36 ?_);refine Ev.load_row_g 48 (.tmp 7) rfl rfl g1 (by kernel_rfl) 48 (Ev.cells e).toArray (0,0) _ R1.out Tryz.underlying48 rfl (by kernel_rfl) ?_)
 refine(access_is HP.out _).mono ?_
 rintro r W2 ⟨rfl,hb2⟩
 have R22:=qH ((hb2.block g2 (qL R2.out)).trans R2.out)
 have B2:=qH (BW.out.trans (hb2.mono BW.out.size));clear hb2 c1 c2
 cases p
 case false =>
  go_wp2_with fail
  go_ret
  exact⟨by rw [HRES.out];try rfl,B2.out⟩
 go_wp2_with ((with_reducible refine qG 40 ?_);refine Ev.load_row_g 48 (.tmp 8) rfl rfl g2 (by kernel_rfl) 48 (Ev.cells f).toArray (0,0) _ R22.out Tryz.underlying48 rfl (by kernel_rfl) ?_)
 refine(access_is HS.out _).mono ?_
 rintro r W3 ⟨rfl,hb3⟩
 have B3:=qH (B2.out.trans (hb3.mono B2.out.size));clear hb3
 cases s
 ·go_wp2_with fail
  go_ret
  exact⟨by rw [HRES.out];try rfl,B3.out⟩
 ·go_wp2_with fail
  go_ret
  exact⟨by rw [HRES.out];try rfl,B3.out⟩
theorem kept_is {x:Ev.X} {q a b:Nat} {v:Bool} (h:Or.kept x a b=v) (ha:a < x.ev.length) (hb:b < x.ev.length) (w:World) (hq:Or.As w q x) :
 Calls Tryz.prog 106 #[.pointer (some ⟨q,0,none⟩),.int .i64 (a:Int),.int .i64 (b:Int)] w fun r w'=>r=.returned (.bool v)∧Below w.heap.size w w':=h ▸ kept_any x q a b ha hb w hq
theorem oneW_any (x:Ev.X) (q a b:Nat) (ha:a < x.ev.length) (hb:b < x.ev.length) (w:World) (hq:Or.As w q x) :
 Calls Tryz.prog 150 #[.pointer (some ⟨q,0,none⟩),.int .i64 (a:Int),.int .i64 (b:Int)] w fun r w'=>r=.returned (.bool (Or.oneW x a b))∧Below w.heap.size w w':=by
 have hl1:=hq.xin.ev.le;have hl2:=hq.xin.ev.max
 obtain⟨e,he⟩:∃ e,x.ev[a]?=some e:=⟨_,List.getElem?_eq_getElem ha⟩
 obtain⟨f,hf⟩:∃ f,x.ev[b]?=some f:=⟨_,List.getElem?_eq_getElem hb⟩
 obtain⟨g,o,eg,hce⟩:=hq.xin.ev.at_ he
 obtain⟨g',o',eg',hcf⟩:=hq.xin.ev.at_ hf
 obtain⟨rfl,rfl⟩:g'=g∧o'=o:=by rw [eg] at eg';cases eg';exact⟨rfl,rfl⟩
 have HE:=qH (Ev.nth_some he);have HF:=qH (Ev.nth_some hf)
 have HQ:=qH hq;have HCE:=qH hce;have HCF:=qH hcf
 have hai:(a:Int) < (x.ev.length:Int):=by omega
 have hbi:(b:Int) < (x.ev.length:Int):=by omega
 have CX:=qH (show ∀ W,Below w.heap.size w W→W.cell? ⟨q,0,none⟩=some (.slice (some ⟨g',o',none⟩) x.ev.length x.ce) from fun W h=>by
  rw [← eg];exact(hq.kp h).c0)
 clear hq he hf eg eg' hce hcf
 have HRES:=qH (show Or.oneW x a b=(e.a==f.a) by unfold Or.oneW;rw [HE.out,HF.out])
 have cx:∀ z:Og.On w.heap.size w,z.x.cell? ⟨q,0,none⟩=some (.slice (some ⟨g',o',none⟩) x.ev.length x.ce):=fun z=>CX.out z.x z.b
 have ce:∀ z:Og.On w.heap.size w,z.x.cell? ⟨g',o'+a * 13+2,none⟩=some (.int .u32 e.a):=fun z=>Og.cellB z (HCE.out 2 _ rfl)
 have cf:∀ z:Og.On w.heap.size w,z.x.cell? ⟨g',o'+b * 13+2,none⟩=some (.int .u32 f.a):=fun z=>Og.cellB z (HCF.out 2 _ rfl)
 by_cases h2:e.a=f.a
 case neg =>
  have t2:(e.a==f.a)=false:=by simpa using h2
  have HRES:=qH (show Or.oneW x a b=false by rw [HRES.out,t2])
  clear h2
  go_enter Tryz.func150,Tryz.ntmps150
  go_wp2_with fail
  refine Og.regionB (by kernel_rfl) (by kernel_rfl) ?_
  repeat (first
   | go_big_quiet_skip
   | (go_big_quiet_want
      first
       | (go_big_quiet_op
          first
           | go_big_quiet_on)))
  refine wpQuiet_nil ?_
  intro _ hw'
  obtain⟨q9,hw''⟩:=hw'
  subst hw''
  go_wp2_with fail
  go_ret
  exact⟨by rw [HRES.out];try rfl,q9.b⟩
 have t2:(e.a==f.a)=true:=by simpa using h2
 have HRES:=qH (show Or.oneW x a b=true by rw [HRES.out,t2])
 clear h2
 go_enter Tryz.func150,Tryz.ntmps150
 go_wp2_with fail
 refine Og.regionB (by kernel_rfl) (by kernel_rfl) ?_
 repeat (first
  | go_big_quiet_skip
  | (go_big_quiet_want
     first
      | (go_big_quiet_op
         first
          | go_big_quiet_on)))
 refine wpQuiet_nil ?_
 intro _ hw'
 obtain⟨q9,hw''⟩:=hw'
 subst hw''
 go_wp2_with fail
 go_ret
 exact⟨by rw [HRES.out];try rfl,q9.b⟩
theorem oneW_is {x:Ev.X} {q a b:Nat} {v:Bool} (h:Or.oneW x a b=v) (ha:a < x.ev.length) (hb:b < x.ev.length) (w:World) (hq:Or.As w q x) :
 Calls Tryz.prog 150 #[.pointer (some ⟨q,0,none⟩),.int .i64 (a:Int),.int .i64 (b:Int)] w fun r w'=>r=.returned (.bool v)∧Below w.heap.size w w':=h ▸ oneW_any x q a b ha hb w hq
end Go.Proofs.YtnjnpbabgefaeaaGreat
end
section
namespace Go.Proofs.YtnjnpbabgefaeaaGreat
open Go.RowKit
theorem po1_any (x:Ev.X) (q a b:Nat) (ha:a < x.ev.length) (hb:b < x.ev.length) (w:World) (hbx:Ev.Bx w q x) :
 Calls Tryz.prog 121 #[.int .i64 (a:Int),.int .i64 (b:Int),.pointer (some ⟨q,0,none⟩)] w fun e w'=>e=.returned (.int .i64 (Ev.bondPo x a b))∧Below w.heap.size w w':=by
 obtain⟨ea,hea⟩:∃ e,x.ev[a]?=some e:=⟨_,List.getElem?_eq_getElem ha⟩
 obtain⟨eb,heb⟩:∃ e,x.ev[b]?=some e:=⟨_,List.getElem?_eq_getElem hb⟩
 obtain⟨g,o,eg,hcx⟩:=hbx.xin.ev.at_ hea
 obtain⟨g',o',eg',hcy⟩:=hbx.xin.ev.at_ heb
 obtain⟨rfl,rfl⟩:g'=g∧o'=o:=by rw [eg] at eg';cases eg';exact⟨rfl,rfl⟩
 have hl1:=hbx.xin.ev.le;have hl2:=hbx.xin.ev.max
 have hna:=Ev.nth_some hea;have hnb:=Ev.nth_some heb
 have HRES:=qH (show Ev.bondPo x a b=if ea.k=5∨ea.h < eb.h then 2 else Ev.bnd (decide ((a:Int) < (b:Int))) by unfold Ev.bondPo;rw [hna,hnb])
 have c0:=hbx.c0
 rw [eg] at c0
 have HX:=qH hcx;have HY:=qH hcy
 have LX:=qH (fun (z:World) (hz:Og.Std w z)=>Ev.ld (w:=z) (g:=g') (o:=o'+a * 13) (x:=ea) (fun i c hi=>Og.std_cell hz (HX.out i c hi)))
 have LY:=qH (fun (z:World) (hz:Og.Std w z)=>Ev.ld (w:=z) (g:=g') (o:=o'+b * 13) (x:=eb) (fun i c hi=>Og.std_cell hz (HY.out i c hi)))
 have LB:=qH (fun (z:World) (hz:Og.Std w z)=>run_load_slice (P:=Tryz.prog) Tryz.underlying22 (Og.std_cell hz c0))
 have hai:(a:Int) < (x.ev.length:Int):=by omega
 have hbi:(b:Int) < (x.ev.length:Int):=by omega
 clear hea heb eg eg' hcx hcy hna hnb hbx c0
 go_enter Tryz.func121,Tryz.ntmps121
 go_wp2
 refine wp_region_held (S:=Og.Std w) (by kernel_rfl) ?_
 have S0:Og.Std w { w with drawn:=w.drawn+1 }:=⟨rfl,rfl,rfl,Nat.le_refl _,fun _ _=>rfl⟩
 refine Og.held_take 0 _ (.pointer (some ⟨q,0,none⟩)) _ rfl rfl (by kernel_rfl) (by kernel_rfl) (by kernel_rfl) (fun _ _ _ h=>h) S0 (fun x hx=>?_) (by simp only [Act.put,qa,qb,qc];rfl) ?_
 ·go_simp;try (with_reducible rfl)
 refine Og.held_take 1 _ (.slice (some ⟨g',o',none⟩) x.ev.length x.ce) _ rfl rfl (by kernel_rfl) (by kernel_rfl) (by kernel_rfl) (fun _ _ _ h=>h) S0 (fun x hx=>?_) (by simp only [Act.put,qa,qb,qc];rfl) ?_
 ·exact Og.load_run 22 (.tmp 8) rfl ⟨q,0,none⟩ (by kernel_rfl) (LB.out _ hx)
 refine Og.held_take 2 _ (.int .i64 (a:Int)) _ rfl rfl (by kernel_rfl) (by kernel_rfl) (by kernel_rfl) (fun _ _ _ h=>h) S0 (fun x hx=>?_) (by simp only [Act.put,qa,qb,qc];rfl) ?_
 ·go_simp;try (with_reducible rfl)
 refine Og.held_take 3 _ (.pointer (some ⟨g',o'+a * 13,none⟩)) _ rfl rfl (by kernel_rfl) (by kernel_rfl) (by kernel_rfl) (fun _ _ _ h=>h) S0 (fun x hx=>?_) (by simp only [Act.put,qa,qb,qc];rfl) ?_
 ·go_simp;try (with_reducible rfl)
 refine Og.held_take 4 _ (.agg (Ev.cells ea).toArray) _ rfl rfl (by kernel_rfl) (by kernel_rfl) (by kernel_rfl) (fun _ _ _ h=>h) S0 (fun x hx=>?_) (by simp only [Act.put,qa,qb,qc];rfl) ?_
 ·exact Og.load_run 48 (.tmp 11) rfl ⟨g',o'+a * 13,none⟩ (by kernel_rfl) (LX.out _ hx)
 refine Og.held_take 5 _ (.pointer (some ⟨q,0,none⟩)) _ rfl rfl (by kernel_rfl) (by kernel_rfl) (by kernel_rfl) (fun _ _ _ h=>h) S0 (fun x hx=>?_) (by simp only [Act.put,qa,qb,qc];rfl) ?_
 ·go_simp;try (with_reducible rfl)
 refine Og.held_take 6 _ (.slice (some ⟨g',o',none⟩) x.ev.length x.ce) _ rfl rfl (by kernel_rfl) (by kernel_rfl) (by kernel_rfl) (fun _ _ _ h=>h) S0 (fun x hx=>?_) (by simp only [Act.put,qa,qb,qc];rfl) ?_
 ·exact Og.load_run 22 (.tmp 13) rfl ⟨q,0,none⟩ (by kernel_rfl) (LB.out _ hx)
 refine Og.held_take 7 _ (.int .i64 (b:Int)) _ rfl rfl (by kernel_rfl) (by kernel_rfl) (by kernel_rfl) (fun _ _ _ h=>h) S0 (fun x hx=>?_) (by simp only [Act.put,qa,qb,qc];rfl) ?_
 ·go_simp;try (with_reducible rfl)
 refine Og.held_take 8 _ (.pointer (some ⟨g',o'+b * 13,none⟩)) _ rfl rfl (by kernel_rfl) (by kernel_rfl) (by kernel_rfl) (fun _ _ _ h=>h) S0 (fun x hx=>?_) (by simp only [Act.put,qa,qb,qc];rfl) ?_
 ·go_simp;try (with_reducible rfl)
 refine Og.held_take 9 _ (.agg (Ev.cells eb).toArray) _ rfl rfl (by kernel_rfl) (by kernel_rfl) (by kernel_rfl) (fun _ _ _ h=>h) S0 (fun x hx=>?_) (by simp only [Act.put,qa,qb,qc];rfl) ?_
 ·exact Og.load_run 48 (.tmp 16) rfl ⟨g',o'+b * 13,none⟩ (by kernel_rfl) (LY.out _ hx)
 refine Og.four (p:=10) (q:=11) (s1:=12) (s2:=13) (dp:=6) (dq:=7) (x1:=12) (x2:=17) (T:=48) (Z:=(Ev.cells Ev.R0).toArray) (c1:=(Ev.cells ea).toArray) (c2:=(Ev.cells eb).toArray)
  ⟨⟨_,rfl,rfl,rfl,fun ρ w=>by kernel_rfl⟩,⟨_,rfl,rfl,rfl,fun ρ w=>by kernel_rfl⟩,⟨_,rfl,rfl,rfl,rfl⟩,⟨_,rfl,rfl,rfl,rfl⟩,(by kernel_rfl),(by kernel_rfl),(by kernel_rfl),(by kernel_rfl),(by kernel_rfl),(by kernel_rfl),(by kernel_rfl),(by kernel_rfl),(by kernel_rfl),(by kernel_rfl),(by kernel_rfl),of_decide_eq_true (by kernel_rfl),of_decide_eq_true (by kernel_rfl),(by decide),rfl,rfl,(by kernel_rfl),(by kernel_rfl),(by kernel_rfl),(by kernel_rfl)⟩ S0 ?_
 intro W g1 g2 HT
 simp only [Act.put,qa,qb,qc]
 have R1:=qH HT.r1;have R2:=qH HT.r2;have BW:=qH HT.below
 clear HT S0
 have c1:W.cell? ⟨g1,1,none⟩=some (.int .i64 ea.k):=by rw [qC R1.out];rfl
 have c2:W.cell? ⟨g1,0,none⟩=some (.int .i64 ea.h):=by rw [qC R1.out];rfl
 have c3:W.cell? ⟨g2,0,none⟩=some (.int .i64 eb.h):=by rw [qC R2.out];rfl
 by_cases h5:ea.k=5
 ·have q5:(ea.k==5)=true:=by simp [h5]
  have HE:=qH (show Ev.bondPo x a b=2 by rw [HRES.out,if_pos (.inl h5)])
  clear h5
  go_wp2_with fail
  go_ret
  exact⟨by rw [HE.out];rfl,BW.out⟩
 have q5:(ea.k==5)=false:=by simpa using h5
 by_cases hh:ea.h < eb.h
 ·have HE:=qH (show Ev.bondPo x a b=2 by rw [HRES.out,if_pos (.inr hh)])
  clear h5
  go_wp2_with fail
  go_ret
  exact⟨by rw [HE.out];rfl,BW.out⟩
 have HE:=qH (show Ev.bondPo x a b=Ev.bnd (decide ((a:Int) < (b:Int))) by rw [HRES.out,if_neg (by intro h;rcases h with h | h;exact h5 h;exact hh h)])
 clear h5
 go_wp2_with (go_at_call 109;refine(bond_is _ _).mono ?_;rintro e w' ⟨rfl,rfl⟩)
 go_ret
 exact⟨by rw [HE.out];first | rfl | (simp;done),BW.out⟩
theorem po_makes (x:Ev.X) (w:World):Ev.Makes w x 103 (Ev.bondPo x):=by
 intro W hin
 have HIN:=qH hin;clear hin
 have HBX:=qH (Ev.bx_new HIN.out)
 have B0:=qH ((Below.refl W.heap.size W).alloc (Nat.le_refl _) (.cells (Ev.xcells x).toArray 26))
 unfold Ev.exV Ev.xcells
 go_enter Tryz.func103,Tryz.ntmps103
 go_wp2
 go_ret
 refine⟨121,#[.pointer (some ⟨W.heap.size,0,none⟩)],rfl,Ev.enters_of _ (fun args w=>by kernel_rfl),B0.out,fun W2 hb a b ha hb'=>?_⟩
 exact po1_any x W.heap.size a b ha hb' W2 (HBX.out.kp hb)
end Go.Proofs.YtnjnpbabgefaeaaGreat
end
