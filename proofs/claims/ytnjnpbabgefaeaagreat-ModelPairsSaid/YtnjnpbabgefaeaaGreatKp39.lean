import Derived.Test.YtnjnpbabgefaeaaGreatKp38
import Derived.Test.YtnjnpbabgefaeaaGreatKp15
import Derived.Test.YtnjnpbabgefaeaaGreatKp16
import Derived.Test.YtnjnpbabgefaeaaGreatKp11
import Derived.Test.YtnjnpbabgefaeaaGreatKpH
set_option maxRecDepth 100000
set_option maxHeartbeats 8000000
set_option linter.unusedVariables false
set_option linter.unusedSimpArgs false
section
namespace Go.Proofs.YtnjnpbabgefaeaaGreat
open Go.RowKit
theorem Or.load_ptr {P:Program} {w:World} {ty e:TypeId} {p:Addr} {v:Value} (hu:P.underlying ty=some (.pointer e)) (hc:w.cell? p=some v):(loadVar ty p).run P w=.ok v w:=by
 unfold loadVar isAgg
 simp only [Sem.run_bind,run_underlying hu w,Sem.run_pure,Result.andThen_ok]
 go_simp
 first | done | rw [hc]
theorem r8_any (x:Ev.X) (q a b:Nat) (ha:a < x.ev.length) (hb:b < x.ev.length) (w:World) (hq:Or.As w q x) :
 Calls Tryz.prog 131 #[.pointer (some ⟨q,0,none⟩),.int .i64 (a:Int),.int .i64 (b:Int)] w fun r w'=>r=.returned (.bool (Or.r8 x a b))∧Below w.heap.size w w':=by
 have al:∀ (y:World) (o:Obj),Below y.heap.size y (y.alloc o):=fun y o=>(Below.refl _ _).alloc (Nat.le_refl _) _
 obtain⟨B,hB⟩:∃ B,B=w.alloc (.cells #[.pointer (some ⟨q,0,none⟩)] 112):=⟨_,rfl⟩
 have HB:=qH hB
 have B0:=qH (show Below w.heap.size w B by rw [hB];exact(Below.refl w.heap.size w).alloc (Nat.le_refl _) _)
 have Kq:=qH (show Or.Box B (w.heap.size) 112 (.pointer (some ⟨q,0,none⟩)) by rw [hB];have h:=Or.box_new w 112 (.pointer (some ⟨q,0,none⟩));exact h)
 clear hB al
 have hl1:=hq.xin.ev.le;have hl2:=hq.xin.ev.max
 obtain⟨e,he⟩:∃ e,x.ev[a]?=some e:=⟨_,List.getElem?_eq_getElem ha⟩
 obtain⟨f,hf⟩:∃ f,x.ev[b]?=some f:=⟨_,List.getElem?_eq_getElem hb⟩
 obtain⟨g,o,eg,hce⟩:=hq.xin.ev.at_ he
 obtain⟨g',o',eg',hcf⟩:=hq.xin.ev.at_ hf
 obtain⟨rfl,rfl⟩:g'=g∧o'=o:=by rw [eg] at eg';cases eg';exact⟨rfl,rfl⟩
 have HE:=qH (Ev.nth_some he);have HF:=qH (Ev.nth_some hf)
 have HQ:=qH hq;have HCE:=qH hce;have HCF:=qH hcf
 have hai:(a:Int) < (x.ev.length:Int):=by omega
 have hbi:(b:Int) < (x.ev.length:Int):=by omega
 have CX:=qH (show ∀ W,Below w.heap.size w W→W.cell? ⟨q,0,none⟩=some (.slice (some ⟨g',o',none⟩) x.ev.length x.ce) from fun W h=>by
  rw [← eg];exact(hq.kp h).c0)
 have HQB:=qH (hq.kp B0.out)
 clear hq he hf eg eg' hce hcf
 have CXB:=qH (show ∀ W,Below B.heap.size B W→W.cell? ⟨q,0,none⟩=some (.slice (some ⟨g',o',none⟩) x.ev.length x.ce) from fun W h=>CX.out W (B0.out.trans (h.mono B0.out.size)))
 have HCEB:=qH (show ∀ i c,(Ev.cells e)[i]?=some c→B.cell? ⟨g',o'+a * 13+i,none⟩=some c from fun i c hi=>Ev.kp_below B0.out _ _ (HCE.out i c hi))
 have HCFB:=qH (show ∀ i c,(Ev.cells f)[i]?=some c→B.cell? ⟨g',o'+b * 13+i,none⟩=some c from fun i c hi=>Ev.kp_below B0.out _ _ (HCF.out i c hi))
 have LBX:=qH (fun (z:World) (hz:Og.Std B z)=>Or.load_ptr (P:=Tryz.prog) Tryz.underlying112 (Og.std_cell hz Kq.out.cell))
 have HS:=qH (show Or.Such B (fun m=>a < m∧m < b) 157 #[.pointer (some ⟨w.heap.size,0,none⟩)] (Or.p8 x) from fun m hm W hz=>c8_any x q m (w.heap.size) (by omega) W (HQB.out.kp hz) (Kq.out.kp hz))
 have ha':a < 9223372036854775807:=by omega
 have hb':b≤9223372036854775807:=by omega
 obtain⟨z1,hz1⟩:∃ s,e.z=s:=⟨_,rfl⟩
 have HZ1:=qH hz1
 obtain⟨s,hs⟩:∃ s,Ev.loads e.k=s:=⟨_,rfl⟩
 have HL:=qH hs
 obtain⟨z2,hz2⟩:∃ s,f.z=s:=⟨_,rfl⟩
 have HZ2:=qH hz2
 obtain⟨t,ht⟩:∃ s,Ev.stores f.k=s:=⟨_,rfl⟩
 have HST:=qH ht
 obtain⟨o1,ho1⟩:∃ s,Or.oneW x a b=s:=⟨_,rfl⟩
 have HO:=qH ho1
 obtain⟨n1,hn1⟩:∃ s,(Or.ms a b).any (Or.p8 x)=s:=⟨_,rfl⟩
 have HN:=qH hn1
 have HRES:=qH (show Or.r8 x a b=(z1&&s&&z2&&t&&o1&&!n1) by unfold Or.r8;rw [HE.out,HF.out,hz1,hs,hz2,ht,ho1,hn1])
 clear hz1 hs hz2 ht ho1 hn1
 go_enter Tryz.func131,Tryz.ntmps131
 go_wp2_with fail
 rw [show w.alloc (Obj.cells #[Value.pointer (some ⟨q,0,none⟩)] 112)=B from HB.out.symm]
 have cx:=CXB.out B (Below.refl _ _)
 have LA:=qH (fun (z:World) (hz:Og.Std B z)=>Ev.ld (w:=z) (g:=g') (o:=o'+a * 13) (x:=e) (fun i c hi=>Og.std_cell hz (HCEB.out i c hi)))
 have LF:=qH (fun (z:World) (hz:Og.Std B z)=>Ev.ld (w:=z) (g:=g') (o:=o'+b * 13) (x:=f) (fun i c hi=>Og.std_cell hz (HCFB.out i c hi)))
 refine wp_region_held (S:=Og.Std B) (by kernel_rfl) ?_
 have S0:Og.Std B { B with drawn:=B.drawn+1 }:=⟨rfl,rfl,rfl,Nat.le_refl _,fun _ _=>rfl⟩
 refine Og.held_take 0 _ (.pointer (some ⟨q,0,none⟩)) _ rfl rfl (by kernel_rfl) (by kernel_rfl) (by kernel_rfl) (fun _ _ _ h=>h) S0 (fun z hz=>?_) (by simp only [Act.put,qa,qb,qc];rfl) ?_
 ·exact Og.load_run 112 (.tmp 3) rfl ⟨w.heap.size,0,none⟩ (by kernel_rfl) (LBX.out z hz)
 refine Og.held_take 1 _ (.pointer (some ⟨q,0,none⟩)) _ rfl rfl (by kernel_rfl) (by kernel_rfl) (by kernel_rfl) (fun _ _ _ h=>h) S0 (fun z hz=>?_) (by simp only [Act.put,qa,qb,qc];rfl) ?_
 ·go_simp;try (with_reducible rfl)
 refine Og.held_take 2 _ (.pointer (some ⟨q,0,none⟩)) _ rfl rfl (by kernel_rfl) (by kernel_rfl) (by kernel_rfl) (fun _ _ _ h=>h) S0 (fun z hz=>?_) (by simp only [Act.put,qa,qb,qc];rfl) ?_
 ·go_simp;try (with_reducible rfl)
 refine Og.held_take 3 _ (.pointer (some ⟨q,0,none⟩)) _ rfl rfl (by kernel_rfl) (by kernel_rfl) (by kernel_rfl) (fun _ _ _ h=>h) S0 (fun z hz=>?_) (by simp only [Act.put,qa,qb,qc];rfl) ?_
 ·go_simp;try (with_reducible rfl)
 refine Og.held_take 4 _ (.slice (some ⟨g',o',none⟩) x.ev.length x.ce) _ rfl rfl (by kernel_rfl) (by kernel_rfl) (by kernel_rfl) (fun _ _ _ h=>h) S0 (fun z hz=>?_) (by simp only [Act.put,qa,qb,qc];rfl) ?_
 ·exact Og.load_run 22 (.tmp 12) rfl ⟨q,0,none⟩ (by kernel_rfl) (run_load_slice Tryz.underlying22 (Og.std_cell hz cx))
 refine Og.held_take 5 _ (.int .i64 (a:Int)) _ rfl rfl (by kernel_rfl) (by kernel_rfl) (by kernel_rfl) (fun _ _ _ h=>h) S0 (fun z hz=>?_) (by simp only [Act.put,qa,qb,qc];rfl) ?_
 ·go_simp;try (with_reducible rfl)
 refine Og.held_take 6 _ (.pointer (some ⟨g',o'+a * 13,none⟩)) _ rfl rfl (by kernel_rfl) (by kernel_rfl) (by kernel_rfl) (fun _ _ _ h=>h) S0 (fun z hz=>?_) (by simp only [Act.put,qa,qb,qc];rfl) ?_
 ·go_simp;try (with_reducible rfl)
 refine Og.held_take 7 _ (.agg (Ev.cells e).toArray) _ rfl rfl (by kernel_rfl) (by kernel_rfl) (by kernel_rfl) (fun _ _ _ h=>h) S0 (fun z hz=>?_) (by simp only [Act.put,qa,qb,qc];rfl) ?_
 ·exact Og.load_run 48 (.tmp 15) rfl ⟨g',o'+a * 13,none⟩ (by kernel_rfl) (LA.out z hz)
 refine Og.held_take 8 _ (.pointer (some ⟨q,0,none⟩)) _ rfl rfl (by kernel_rfl) (by kernel_rfl) (by kernel_rfl) (fun _ _ _ h=>h) S0 (fun z hz=>?_) (by simp only [Act.put,qa,qb,qc];rfl) ?_
 ·exact Og.load_run 112 (.tmp 3) rfl ⟨w.heap.size,0,none⟩ (by kernel_rfl) (LBX.out z hz)
 refine Og.held_take 9 _ (.pointer (some ⟨q,0,none⟩)) _ rfl rfl (by kernel_rfl) (by kernel_rfl) (by kernel_rfl) (fun _ _ _ h=>h) S0 (fun z hz=>?_) (by simp only [Act.put,qa,qb,qc];rfl) ?_
 ·go_simp;try (with_reducible rfl)
 refine Og.held_take 10 _ (.pointer (some ⟨q,0,none⟩)) _ rfl rfl (by kernel_rfl) (by kernel_rfl) (by kernel_rfl) (fun _ _ _ h=>h) S0 (fun z hz=>?_) (by simp only [Act.put,qa,qb,qc];rfl) ?_
 ·go_simp;try (with_reducible rfl)
 refine Og.held_take 11 _ (.pointer (some ⟨q,0,none⟩)) _ rfl rfl (by kernel_rfl) (by kernel_rfl) (by kernel_rfl) (fun _ _ _ h=>h) S0 (fun z hz=>?_) (by simp only [Act.put,qa,qb,qc];rfl) ?_
 ·go_simp;try (with_reducible rfl)
 refine Og.held_take 12 _ (.slice (some ⟨g',o',none⟩) x.ev.length x.ce) _ rfl rfl (by kernel_rfl) (by kernel_rfl) (by kernel_rfl) (fun _ _ _ h=>h) S0 (fun z hz=>?_) (by simp only [Act.put,qa,qb,qc];rfl) ?_
 ·exact Og.load_run 22 (.tmp 20) rfl ⟨q,0,none⟩ (by kernel_rfl) (run_load_slice Tryz.underlying22 (Og.std_cell hz cx))
 refine Og.held_take 13 _ (.int .i64 (b:Int)) _ rfl rfl (by kernel_rfl) (by kernel_rfl) (by kernel_rfl) (fun _ _ _ h=>h) S0 (fun z hz=>?_) (by simp only [Act.put,qa,qb,qc];rfl) ?_
 ·go_simp;try (with_reducible rfl)
 refine Og.held_take 14 _ (.pointer (some ⟨g',o'+b * 13,none⟩)) _ rfl rfl (by kernel_rfl) (by kernel_rfl) (by kernel_rfl) (fun _ _ _ h=>h) S0 (fun z hz=>?_) (by simp only [Act.put,qa,qb,qc];rfl) ?_
 ·go_simp;try (with_reducible rfl)
 refine Og.held_take 15 _ (.agg (Ev.cells f).toArray) _ rfl rfl (by kernel_rfl) (by kernel_rfl) (by kernel_rfl) (fun _ _ _ h=>h) S0 (fun z hz=>?_) (by simp only [Act.put,qa,qb,qc];rfl) ?_
 ·exact Og.load_run 48 (.tmp 23) rfl ⟨g',o'+b * 13,none⟩ (by kernel_rfl) (LF.out z hz)
 refine Og.four (p:=16) (q:=17) (s1:=18) (s2:=19) (dp:=7) (dq:=8) (x1:=16) (x2:=24) (T:=48) (Z:=(Ev.cells Ev.R0).toArray) (c1:=(Ev.cells e).toArray) (c2:=(Ev.cells f).toArray)
  ⟨⟨_,rfl,rfl,rfl,fun ρ w=>by kernel_rfl⟩,⟨_,rfl,rfl,rfl,fun ρ w=>by kernel_rfl⟩,⟨_,rfl,rfl,rfl,rfl⟩,⟨_,rfl,rfl,rfl,rfl⟩,(by kernel_rfl),(by kernel_rfl),(by kernel_rfl),(by kernel_rfl),(by kernel_rfl),(by kernel_rfl),(by kernel_rfl),(by kernel_rfl),(by kernel_rfl),(by kernel_rfl),(by kernel_rfl),of_decide_eq_true (by kernel_rfl),of_decide_eq_true (by kernel_rfl),(by decide),rfl,rfl,(by kernel_rfl),(by kernel_rfl),(by kernel_rfl),(by kernel_rfl)⟩ S0 ?_
 intro W g1 g2 HT
 simp only [Act.put,qa,qb,qc]
 have R1:=qH HT.r1;have R2:=qH HT.r2;have BW:=qH (HT.below)
 clear HT S0 cx
 have WB:=qH (B0.out.trans (BW.out.mono B0.out.size))
 have c1:W.cell? ⟨g1,9,none⟩=some (.bool z1):=by rw [qC R1.out,← HZ1.out];rfl
 cases z1
 case false =>
  go_wp2_with fail
  go_ret
  exact⟨by rw [HRES.out];try rfl,WB.out⟩
 go_wp2_with ((with_reducible refine qG 28 ?_);refine Ev.load_row_g 48 (.tmp 7) rfl rfl g1 (by kernel_rfl) 48 (Ev.cells e).toArray (0,0) _ R1.out Tryz.underlying48 rfl (by kernel_rfl) ?_)
 refine(oloads_is HL.out _).mono ?_
 rintro r W2 ⟨rfl,hb2⟩
 have R22:=qH ((hb2.block g2 (qL R2.out)).trans R2.out)
 have V2:=qH (BW.out.trans (hb2.mono BW.out.size))
 have B2:=qH (WB.out.trans (hb2.mono WB.out.size));clear hb2 c1
 have c2:W2.cell? ⟨g2,9,none⟩=some (.bool z2):=by rw [qC R22.out,← HZ2.out];rfl
 cases s
 case false =>
  go_wp2_with fail
  go_ret
  exact⟨by rw [HRES.out];try rfl,B2.out⟩
 cases z2
 case false =>
  go_wp2_with fail
  go_ret
  exact⟨by rw [HRES.out];try rfl,B2.out⟩
 go_wp2_with ((with_reducible refine qG 36 ?_);refine Ev.load_row_g 48 (.tmp 8) rfl rfl g2 (by kernel_rfl) 48 (Ev.cells f).toArray (0,0) _ R22.out Tryz.underlying48 rfl (by kernel_rfl) ?_)
 refine(ostores_is HST.out _).mono ?_
 rintro r W3 ⟨rfl,hb3⟩
 have V3:=qH (V2.out.trans (hb3.mono V2.out.size))
 have B3:=qH (B2.out.trans (hb3.mono B2.out.size));clear hb3 c2
 have kq3:=(Kq.out.kp V3.out).cell
 cases t
 case false =>
  go_wp2_with fail
  go_ret
  exact⟨by rw [HRES.out];try rfl,B3.out⟩
 go_wp2_with fail
 refine(oneW_is HO.out ha hb _ (HQB.out.kp V3.out)).mono ?_
 rintro r W4 ⟨rfl,hb4⟩
 have V4:=qH (V3.out.trans (hb4.mono V3.out.size))
 have B4:=qH (B3.out.trans (hb4.mono B3.out.size));clear hb4 kq3
 have kq4:=(Kq.out.kp V4.out).cell
 cases o1
 case false =>
  go_wp2_with fail
  go_ret
  exact⟨by rw [HRES.out];try rfl,B4.out⟩
 go_wp2_with fail
 refine(some_is HN.out q ha' hb' _ _ W4 (enters_of Tryz.func157 (by kernel_rfl) rfl) (HS.out.later V4.out)).mono ?_
 rintro r W5 ⟨rfl,hb5⟩
 have B5:=qH (B4.out.trans (hb5.mono B4.out.size));clear hb5 kq4
 cases n1
 ·go_wp2_with fail
  go_ret
  exact⟨by rw [HRES.out];try rfl,B5.out⟩
 ·go_wp2_with fail
  go_ret
  exact⟨by rw [HRES.out];try rfl,B5.out⟩
end Go.Proofs.YtnjnpbabgefaeaaGreat
end
section
namespace Go.Proofs.YtnjnpbabgefaeaaGreat
open Go.RowKit
attribute [local go_sem] Oper.semAt_some
namespace Or
open Ev
def R (x:X) (i a b:Nat):Bool:=match i with
 | 1=>r1 x a b
 | 2=>r2 x a b
 | 3=>r3 x a b
 | 4=>r4 x a b
 | 5=>r5 x a b
 | 6=>r6 x a b
 | 7=>r7 x a b
 | 8=>r8 x a b
 | 9=>r9 x a b
 | 10=>r10 x a b
 | 11=>r11 x a b
 | 12=>r12 x a b
 | 13=>r13 x a b
 | _=>false
def holdTo (x:X) (a b n:Nat):List Nat:=(List.range n).filter fun i=>decide (1≤i)&&R x i a b
def hold (x:X) (a b:Nat):List Nat:=if kept x a b=true then holdTo x a b 14 else []
theorem holdTo_succ (x:X) (a b n:Nat):holdTo x a b (n+1)=if (decide (1≤n)&&R x n a b)=true then holdTo x a b n++[n] else holdTo x a b n:=by
 unfold holdTo;rw [List.range_succ,List.filter_append]
 have e:([n].filter fun i=>decide (1≤i)&&R x i a b)=if (decide (1≤n)&&R x n a b)=true then [n] else []:=by rw [List.filter_cons];rfl
 rw [e]
 split
 ·rfl
 ·simp
theorem holdTo_get {x:X} {a b i:Nat} (h:(decide (1≤i)&&R x i a b)=true):∀ n,i < n→(holdTo x a b n)[(holdTo x a b i).length]?=some i∧(holdTo x a b i).length < (holdTo x a b n).length
 | 0,hn=>absurd hn (Nat.not_lt_zero _)
 | n+1,hn=>by
   rw [holdTo_succ]
   by_cases e:i=n
   ·subst e
    rw [if_pos h]
    refine⟨?_,by simp⟩
    rw [List.getElem?_append_right (Nat.le_refl _)];simp
   ·have ih:=holdTo_get h n (by omega)
    split
    ·refine⟨?_,by rw [List.length_append];omega⟩
     rw [List.getElem?_append_left ih.2];exact ih.1
    ·exact ih
end Or
theorem rule_fn (x:Ev.X) (q a b:Nat) (ha:a < x.ev.length) (hb:b < x.ev.length) (hfl:x.fr.l.length=x.ev.length):∀ (i:Nat),1≤i→i≤13 →
 ∃ F:FuncId,(∀ w,(Instr.index 135 (.agg Or.rulesA) (.int .i64 (i:Int))).run Tryz.prog w=.ok (.func (.func F) #[] #[]) w)∧(∀ args w,(callFunc F args).run Tryz.prog w=.ok (.enter F args) w) ∧
   ∀ W,Or.As W q x→Calls Tryz.prog F #[.pointer (some ⟨q,0,none⟩),.int .i64 (a:Int),.int .i64 (b:Int)] W fun r w'=>r=.returned (.bool (Or.R x i a b))∧Below W.heap.size W w'
 | 1,_,_=>⟨124,fun w=>by as_aux_lemma=>kernel_rfl,enters_of Tryz.func124 (by kernel_rfl) rfl,fun W h=>r1_any x q a b ha hb W h⟩
 | 2,_,_=>⟨125,fun w=>by as_aux_lemma=>kernel_rfl,enters_of Tryz.func125 (by kernel_rfl) rfl,fun W h=>r2_any x q a b ha hb hfl W h⟩
 | 3,_,_=>⟨126,fun w=>by as_aux_lemma=>kernel_rfl,enters_of Tryz.func126 (by kernel_rfl) rfl,fun W h=>r3_any x q a b ha hb hfl W h⟩
 | 4,_,_=>⟨127,fun w=>by as_aux_lemma=>kernel_rfl,enters_of Tryz.func127 (by kernel_rfl) rfl,fun W h=>r4_any x q a b ha hb W h⟩
 | 5,_,_=>⟨128,fun w=>by as_aux_lemma=>kernel_rfl,enters_of Tryz.func128 (by kernel_rfl) rfl,fun W h=>r5_any x q a b ha hb W h⟩
 | 6,_,_=>⟨129,fun w=>by as_aux_lemma=>kernel_rfl,enters_of Tryz.func129 (by kernel_rfl) rfl,fun W h=>r6_any x q a b ha hb W h⟩
 | 7,_,_=>⟨130,fun w=>by as_aux_lemma=>kernel_rfl,enters_of Tryz.func130 (by kernel_rfl) rfl,fun W h=>r7_any x q a b ha hb W h⟩
 | 8,_,_=>⟨131,fun w=>by as_aux_lemma=>kernel_rfl,enters_of Tryz.func131 (by kernel_rfl) rfl,fun W h=>r8_any x q a b ha hb W h⟩
 | 9,_,_=>⟨132,fun w=>by as_aux_lemma=>kernel_rfl,enters_of Tryz.func132 (by kernel_rfl) rfl,fun W h=>r9_any x q a b ha hb W h⟩
 | 10,_,_=>⟨133,fun w=>by as_aux_lemma=>kernel_rfl,enters_of Tryz.func133 (by kernel_rfl) rfl,fun W h=>r10_any x q a b ha hb W h⟩
 | 11,_,_=>⟨134,fun w=>by as_aux_lemma=>kernel_rfl,enters_of Tryz.func134 (by kernel_rfl) rfl,fun W h=>r11_any x q a b ha hb W h⟩
 | 12,_,_=>⟨135,fun w=>by as_aux_lemma=>kernel_rfl,enters_of Tryz.func135 (by kernel_rfl) rfl,fun W h=>r12_any x q a b ha hb hfl W h⟩
 | 13,_,_=>⟨136,fun w=>by as_aux_lemma=>kernel_rfl,enters_of Tryz.func136 (by kernel_rfl) rfl,fun W h=>r13_any x q a b ha hb W h⟩
 | i+14,_,h=>absurd h (by omega)
theorem index_nil (w:World):(Instr.index 135 (.agg Or.rulesA) (.int .i64 0)).run Tryz.prog w=.ok .nilFunc w:=by kernel_rfl
theorem rules_is (w:World):Calls Tryz.prog 107 #[] w fun r w'=>r=.returned (.agg Or.rulesA)∧Below w.heap.size w w':=rules_any w
theorem holds_any (x:Ev.X) (q i a b:Nat) (ha:a < x.ev.length) (hb:b < x.ev.length) (hfl:x.fr.l.length=x.ev.length) (h1:1≤i) (h2:i≤13) (w:World) (hq:Or.As w q x) :
 Calls Tryz.prog 122 #[.pointer (some ⟨q,0,none⟩),.int .i64 (i:Int),.int .i64 (a:Int),.int .i64 (b:Int)] w fun r w'=>r=.returned (.bool (Or.kept x a b&&Or.R x i a b))∧Below w.heap.size w w':=by
 obtain⟨F,hi,he,hF⟩:=rule_fn x q a b ha hb hfl i h1 h2
 have HQ:=qH hq;have HFF:=qH hF;have HI:=qH hi;have HEN:=qH he
 obtain⟨k,hk⟩:∃ k,Or.kept x a b=k:=⟨_,rfl⟩
 have HK:=qH hk
 rw [hk]
 clear hq hF hi he hk hfl
 go_enter Tryz.func122,Tryz.ntmps122
 go_wp2_with fail
 refine(kept_is HK.out ha hb _ HQ.out).mono ?_
 rintro r W1 ⟨rfl,hb1⟩
 have B1:=qH hb1;clear hb1
 cases k
 ·go_wp2_with fail
  go_ret
  exact⟨rfl,B1.out⟩
 go_wp2_with fail
 refine(rules_is _).mono ?_
 rintro r W2 ⟨rfl,hb2⟩
 have B2:=qH (B1.out.trans (hb2.mono B1.out.size));clear hb2
 have hi:=HI.out;have he:=HEN.out
 go_wp2_with fail
 clear hi he
 refine(HFF.out _ (HQ.out.kp B2.out)).mono ?_
 rintro r W3 ⟨rfl,hb3⟩
 have B3:=qH (B2.out.trans (hb3.mono B2.out.size));clear hb3
 go_wp2_with fail
 go_ret
 exact⟨rfl,B3.out⟩
theorem holds_is {x:Ev.X} {i a b:Nat} {v:Bool} (h:(Or.kept x a b&&Or.R x i a b)=v) (q:Nat) (ha:a < x.ev.length) (hb:b < x.ev.length) (hfl:x.fr.l.length=x.ev.length) (h1:1≤i) (h2:i≤13) (w:World) (hq:Or.As w q x) :
 Calls Tryz.prog 122 #[.pointer (some ⟨q,0,none⟩),.int .i64 (i:Int),.int .i64 (a:Int),.int .i64 (b:Int)] w fun r w'=>r=.returned (.bool v)∧Below w.heap.size w w':=h ▸ holds_any x q i a b ha hb hfl h1 h2 w hq
structure Or.Hin (x:Ev.X) (q a b c0 c1 c2:Nat) (W:World):Prop where
 as_:Or.As W q x
 k0:Or.Box W c0 112 (.pointer (some ⟨q,0,none⟩))
 k1:Or.Box W c1 3 (.int .i64 (a:Int))
 k2:Or.Box W c2 3 (.int .i64 (b:Int))
theorem holding_iter (m:Nat) (hm:1≤m) (x:Ev.X) (q a b c0 c1 c2:Nat) (ha:a < x.ev.length) (hb:b < x.ev.length) (hfl:x.fr.l.length=x.ev.length) :
 Og.IterL Fence.wide m Tryz.prog 105 #[.pointer (some ⟨c0,0,none⟩),.pointer (some ⟨c1,0,none⟩),.pointer (some ⟨c2,0,none⟩)] (Or.Hin x q a b c0 c1 c2) (fun k:Nat=>#[.int .i64 (k:Int)]) (Or.hold x a b):=by
 intro l J Jx W hst hR hY h0
 have HST:=qH hst;have HR:=qH hR;have HY:=qH hY;have H0:=qH h0
 have k0:=(hR _ _ h0).k0.cell;have k1:=(hR _ _ h0).k1.cell;have k2:=(hR _ _ h0).k2.cell
 obtain⟨k,hk⟩:∃ k,Or.kept x a b=k:=⟨_,rfl⟩
 have HK:=qH hk
 have HFL:=qH hfl
 clear hst hR hY h0 hk hfl
 refine callsIn_of_wp Tryz.func105 rfl trivial ?_ rfl
 simp only [Tryz.ntmps105,List.size_toArray,List.length_cons,List.length_nil,Nat.reduceAdd,Nat.reduceSub,Array.replicate_succ,Array.replicate_zero,List.push_toArray,List.append_toArray,List.nil_append,List.cons_append]
 gi_wp2_with fail
 refine⟨trivial,(callsIn_wide.2 (kept_is HK.out ha hb _ (HR.out _ _ H0.out).as_)).mono ?_⟩
 rintro r W1 ⟨rfl,hb1⟩
 have H1:=qH (HST.out _ _ _ H0.out hb1)
 clear hb1 k0 k1 k2
 cases k
 ·have HH:=qH (show Or.hold x a b=[] by unfold Or.hold;rw [HK.out];rfl)
  gi_wp2_with fail
  refine bodyPost_ret (results_none rfl _ _ _) rfl ?_
  exact⟨⟨_,rfl⟩,.inl (by rw [HH.out];exact H1.out)⟩
 have HH:=qH (show Or.hold x a b=Or.holdTo x a b 14 by unfold Or.hold;rw [HK.out];rfl)
 gi_wp2_with fail
 refine⟨trivial,(callsIn_wide.2 (rules_is _)).mono ?_⟩
 rintro r W2 ⟨rfl,hb2⟩
 have H2:=qH (HST.out _ _ _ H1.out hb2)
 clear hb2
 gi_wp2_with fail
 gi_loopw [5,6,13] (fun _ _ n wr=>∃ i:Nat,i≤14∧n=.int .i64 (i:Int)∧J (Or.holdTo x a b i).length wr) (fun _ _ n _=>14 - (intOf n).toNat)
 case atStart=>exact⟨0,by omega,rfl,H2.out⟩
 case round =>
  obtain⟨i,hi,rfl,hj⟩:=hrel
  have HJ:=qH hj
  have k0:=(HR.out _ _ hj).k0.cell;have k1:=(HR.out _ _ hj).k1.cell;have k2:=(HR.out _ _ hj).k2.cell
  clear hj
  by_cases hlt:i < 14
  ·have hlti:(i:Int) < 14:=by omega
   by_cases h0:i=0
   ·subst h0
    have hx:=index_nil
    have HS:=qH (show Or.holdTo x a b (0+1)=Or.holdTo x a b 0 by rw [Or.holdTo_succ];rfl)
    gi_wp2_with fail
    repeat (refine⟨fun f h=>(by cases h),?_⟩;gi_wp2_with fail)
    go_roundw
    case rel=>exact⟨0+1,by omega,by go_num,by rw [HS.out];exact HJ.out⟩
    case measure=>simp [intOf]
   have hge:(1:Int)≤(i:Int):=by omega
   obtain⟨F,hx,he,hF⟩:=rule_fn x q a b ha hb HFL.out i (by omega) (by omega)
   have HFF:=qH hF
   obtain⟨v,hv⟩:∃ v,Or.R x i a b=v:=⟨_,rfl⟩
   have HV:=qH hv
   have HP:=qH (show(decide (1≤i)&&Or.R x i a b)=v by rw [hv,decide_eq_true (by omega:1≤i)];rfl)
   clear hF hv
   gi_wp2_with fail
   refine⟨trivial,(callsIn_wide.2 (HFF.out _ (HR.out _ _ HJ.out).as_)).mono ?_⟩
   rintro r W3 ⟨rfl,hb3⟩
   have H3:=qH (HST.out _ _ _ HJ.out hb3)
   rw [HV.out]
   clear hb3 k0 k1 k2 hx he
   cases v
   ·have HS:=qH (show Or.holdTo x a b (i+1)=Or.holdTo x a b i by rw [Or.holdTo_succ,HP.out];rfl)
    gi_wp2_with fail
    repeat (refine⟨fun f h=>(by cases h),?_⟩;gi_wp2_with fail)
    go_roundw
    case rel=>exact⟨i+1,by omega,by go_num,by rw [HS.out];exact H3.out⟩
    case measure=>simp [intOf];omega
   have HS:=qH (show(Or.holdTo x a b (i+1)).length=(Or.holdTo x a b i).length+1 by rw [Or.holdTo_succ,HP.out];simp)
   have HG:=qH (show(Or.hold x a b)[(Or.holdTo x a b i).length]?=some i by rw [HH.out];exact(Or.holdTo_get HP.out 14 hlt).1)
   obtain⟨fn,tmps,assign,body,hy,hRd⟩:=HY.out _ _ W3 HG.out H3.out
   have hy:Sem.run Tryz.prog (Instr.yield l #[.int .i64 (i:Int)]) W3=Result.ok (Next.round l fn tmps assign body) W3:=hy
   gi_wp2_with fail
   refine hRd.mono ?_
   rintro e W4 (⟨rfl,hJ3⟩ | ⟨rfl,hJx3⟩)
   ·have HJ3:=qH hJ3;clear hJ3 hy hRd
    gi_wp2_with fail
    go_roundw
    case rel=>exact⟨i+1,by omega,by go_num,by rw [HS.out];exact HJ3.out⟩
    case measure=>simp [intOf];omega
   ·have HJ3:=qH hJx3;clear hJx3 hy hRd
    gi_wp2_with fail
    refine bodyPost_ret (results_none rfl _ _ _) rfl ?_
    exact⟨⟨_,rfl⟩,.inr HJ3.out⟩
  ·have hlti:¬ (i:Int) < 14:=by omega
   have HI:=qH (show i=14 by omega)
   clear hlt k0 k1 k2
   gi_wp2_with fail
   refine bodyPost_end (results_none rfl _ _ _) rfl ?_
   exact⟨⟨_,rfl⟩,.inl (by rw [HH.out,← HI.out];exact HJ.out)⟩
end Go.Proofs.YtnjnpbabgefaeaaGreat
end
section
namespace Go.Proofs.YtnjnpbabgefaeaaGreat
open Go.RowKit
namespace Or
open Ev
def inR (x:X) (n:Int):Prop:=0≤n∧n < (x.ev.length:Int)
def AskR (x:X) (ns:List Int) (w:World) (r:Ending) (w':World):Prop:=Below w.heap.size w w' ∧
 ((check x≠0∧r=.returned (.tuple #[.pointer none,.int .i64 (check x)]))∨(check x=0∧(∃ n ∈ ns,¬ inR x n)∧r=.returned (.tuple #[.pointer none,.int .i64 4])) ∨
  (check x=0∧(∀ n ∈ ns,inR x n)∧∃ q,r=.returned (.tuple #[.pointer (some ⟨q,0,none⟩),.int .i64 0])∧As w' q x))
theorem AskR.bad {x:X} {ns:List Int} {w w':World} {r:Ending} (hb:Below w.heap.size w w') {v:Int} (hv:check x=v) (h:v≠0) (hr:r=.returned (.tuple #[.pointer none,.int .i64 v])):AskR x ns w r w':=⟨hb,.inl ⟨hv ▸ h,hv ▸ hr⟩⟩
theorem AskR.no {x:X} {ns:List Int} {w w':World} {r:Ending} (hb:Below w.heap.size w w') (hv:check x=0) {n:Int} (hn:n ∈ ns) (h:¬ inR x n) (hr:r=.returned (.tuple #[.pointer none,.int .i64 4])):AskR x ns w r w':=⟨hb,.inr (.inl ⟨hv,⟨n,hn,h⟩,hr⟩)⟩
theorem AskR.yes {x:X} {ns:List Int} {w w':World} {r:Ending} (hb:Below w.heap.size w w') (hv:check x=0) (h:∀ n ∈ ns,inR x n) (q:Nat) (hr:r=.returned (.tuple #[.pointer (some ⟨q,0,none⟩),.int .i64 0])) (ha:As w' q x):AskR x ns w r w':=⟨hb,.inr (.inr ⟨hv,h,q,hr,ha⟩)⟩
end Or
theorem ask_any (x:Ev.X) (s:Ev.Sl) (w:World) (hin:Ev.XIn w x) (hs:Ev.IntsIn w s) :
 Calls Tryz.prog 81 #[.agg (Ev.xcells x).toArray,.slice s.a s.l.length s.c] w (Or.AskR x s.l w):=by
 have hle:=hin.ev.le;have hmax:=hin.ev.max
 have hsl:=hs.2.1;have hsm:=hs.2.2.1
 have HIN:=qH hin;have HS:=qH hs;clear hin hs
 obtain⟨B,hB⟩:∃ B,B=w.alloc (.cells (Ev.xcells x).toArray 26):=⟨_,rfl⟩
 have HB:=qH hB
 have RX:=qH (show B.heap[w.heap.size]?=some (.cells (Ev.xcells x).toArray 26 (0,0)) by rw [hB];exact heap_alloc_new _ _)
 have B0:=qH (show Below w.heap.size w B by rw [hB];exact(Below.refl w.heap.size w).alloc (Nat.le_refl _) _)
 obtain⟨v,hv⟩:∃ v,Ev.check x=v:=⟨_,rfl⟩
 have HV:=qH hv
 clear hB hv
 go_enter Tryz.func81,Tryz.ntmps81
 go_wp2_with (first
  | ((with_reducible refine qG 9 ?_);(try rw [show w.alloc (Obj.cells (Ev.xcells x).toArray 26)=B from HB.out.symm]);refine wpList_load_row rfl 26 (.tmp 2) rfl w.heap.size (by kernel_rfl) 26 (Ev.xcells x).toArray (0,0) _ RX.out Tryz.underlying26 rfl (by kernel_rfl) ?_))
 refine(check_is HV.out _ (HIN.out.kp (Ev.kp_below B0.out))).mono ?_
 rintro r W1 ⟨rfl,hb1⟩
 have R1:=qH ((hb1.block w.heap.size (qL RX.out)).trans RX.out)
 have B1:=qH (B0.out.trans (hb1.mono B0.out.size));clear hb1
 by_cases h0:v=0
 case neg =>
  have t0:(v != 0)=true:=by simpa using h0
  have H0:=qH h0
  clear h0
  go_wp2_with fail
  go_ret2
  exact Or.AskR.bad B1.out HV.out H0.out rfl
 subst h0
 have t0:((0:Int) != 0)=false:=by decide
 go_wp2_with fail
 go_loopw [8,16] (fun _ i wr=>∃ k:Nat,k≤s.l.length∧i=.int .i64 (k:Int)∧(∀ j n,j < k→s.l[j]?=some n→Or.inR x n)∧wr=W1) (fun _ i _=>s.l.length - (intOf i).toNat)
 case atStart=>exact⟨0,Nat.zero_le _,rfl,fun j n hj=>absurd hj (Nat.not_lt_zero j),rfl⟩
 case round =>
  obtain⟨k,hk,rfl,hall,rfl⟩:=hrel
  have HALL:=qH hall;clear hall
  by_cases hlt:k < s.l.length
  ·have hki:(k:Int) < (s.l.length:Int):=by omega
   obtain⟨n,hn⟩:∃ n,s.l[k]?=some n:=⟨_,List.getElem?_eq_getElem hlt⟩
   obtain⟨g,o,ea,hc⟩:=(HS.out.kp (Ev.kp_below B1.out)).at_ hn
   have hnb:=HS.out.b_ hn
   unfold Ev.i64B at hnb
   have HN:=qH hn
   have cx:wr.cell? ⟨w.heap.size,0,none⟩=some (.slice x.ae x.ev.length x.ce):=Ev.xcell0 R1.out
   rw [ea]
   clear ea hn
   by_cases h1:n < 0
   ·have t1:decide (n < 0)=true:=decide_eq_true h1
    have HNO:=qH (show ¬ Or.inR x n by unfold Or.inR;omega)
    go_wp2_with fail
    go_ret2
    exact Or.AskR.no B1.out HV.out (List.mem_of_getElem? HN.out) HNO.out rfl
   have t1:decide (n < 0)=false:=decide_eq_false h1
   by_cases h2:(x.ev.length:Int)≤n
   ·have t2:decide ((x.ev.length:Int)≤n)=true:=decide_eq_true h2
    have HNO:=qH (show ¬ Or.inR x n by unfold Or.inR;omega)
    go_wp2_with fail
    go_ret2
    exact Or.AskR.no B1.out HV.out (List.mem_of_getElem? HN.out) HNO.out rfl
   have t2:decide ((x.ev.length:Int)≤n)=false:=decide_eq_false h2
   have HYES:=qH (show Or.inR x n by unfold Or.inR;omega)
   go_wp2_with fail
   go_roundw
   case rel =>
    refine⟨k+1,by omega,by go_num,fun j m hj hm=>?_,by first | rfl | trivial⟩
    rcases Nat.lt_succ_iff_lt_or_eq.1 hj with h | h
    ·exact HALL.out j m h hm
    ·subst h;rw [HN.out] at hm;cases hm;exact HYES.out
   case measure=>simp [intOf];omega
  ·have hki:¬ (k:Int) < (s.l.length:Int):=by omega
   have HALL2:=qH (show ∀ n ∈ s.l,Or.inR x n from fun n hn=>by
    obtain⟨j,hj⟩:=List.mem_iff_getElem?.1 hn
    have:=(List.getElem?_eq_some_iff.1 hj).1
    exact HALL.out j n (by omega) hj)
   go_wp2_with (first
    | ((with_reducible refine qG 30 ?_);refine wpList_load_row rfl 26 (.tmp 2) rfl w.heap.size (by kernel_rfl) 26 (Ev.xcells x).toArray (0,0) _ R1.out Tryz.underlying26 rfl (by kernel_rfl) ?_;unfold Ev.xcells))
   go_ret2
   refine Or.AskR.yes (B1.out.trans (((Below.refl _ _).alloc (Nat.le_refl _) _).mono B1.out.size)) HV.out HALL2.out wr.heap.size rfl ⟨heap_alloc_new _ _,(HIN.out.kp (Ev.kp_below B1.out)).kp (Ev.kp_below ((Below.refl _ _).alloc (Nat.le_refl _) _))⟩
end Go.Proofs.YtnjnpbabgefaeaaGreat
end
