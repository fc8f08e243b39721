import Derived.Test.YtnjnpbabgefaeaaGreatKp27
import Derived.Test.YtnjnpbabgefaeaaGreatKp17
import Derived.Test.YtnjnpbabgefaeaaGreatKp06
import Derived.Test.YtnjnpbabgefaeaaGreatKpH
set_option maxRecDepth 100000
set_option maxHeartbeats 4000000
set_option linter.unusedVariables false
set_option linter.unusedSimpArgs false
section
namespace Go.Proofs.YtnjnpbabgefaeaaGreat
open Go.RowKit
theorem rule_1 (x:Ev.X) (a b:Nat) (ha:a < x.ev.length) (hb:b < x.ev.length) (hpo:Ev.isPo x a b=true) (hk1:(Ev.nth x.ev a).k≠4) (hk2:(Ev.nth x.ev b).k≠4) (w:World) (hin:Ev.XIn w x) :
 Calls Tryz.prog 65 #[Ev.exV x,.int .i64 1,.int .i64 (a:Int),.int .i64 (b:Int)] w fun e w'=>e=.returned (.bool (Ev.ruleOf x 1 a b))∧Below w.heap.size w w':=by
 have hl1:=hin.ev.le;have hl2:=hin.ev.max
 obtain⟨B,hB⟩:∃ B,B=w.alloc (Obj.cells (Ev.xcells x).toArray 26):=⟨_,rfl⟩
 have HB:=qH hB
 have B0:=qH (show Below w.heap.size w B by rw [hB];exact(Below.refl w.heap.size w).alloc (Nat.le_refl _) _)
 have HX:=qH (show Ev.XIn B x from hin.kp (Ev.kp_below B0.out))
 have RX:=qH (show B.heap[w.heap.size]?=some (.cells (Ev.xcells x).toArray 26 (0,0)) by rw [hB];exact heap_alloc_new _ _)
 obtain⟨e,he⟩:∃ e,x.ev[a]?=some e:=⟨_,List.getElem?_eq_getElem ha⟩
 obtain⟨f,hf⟩:∃ f,x.ev[b]?=some f:=⟨_,List.getElem?_eq_getElem hb⟩
 obtain⟨g,o,eg,hce⟩:=HX.out.ev.at_ he
 obtain⟨g',o',eg',hcf⟩:=HX.out.ev.at_ hf
 obtain⟨rfl,rfl⟩:g'=g∧o'=o:=by rw [eg] at eg';cases eg';exact⟨rfl,rfl⟩
 have HEO:=qH (HX.out.ev.ok_ he);have HFO:=qH (HX.out.ev.ok_ hf)
 have HE:=qH (Ev.nth_some he);have HF:=qH (Ev.nth_some hf)
 have HCE:=qH hce;have HCF:=qH hcf
 have hai:(a:Int) < (x.ev.length:Int):=by omega
 have hbi:(b:Int) < (x.ev.length:Int):=by omega
 have CX:=qH (show ∀ W,Below B.heap.size B W→W.cell? ⟨w.heap.size,0,none⟩=some (.slice (some ⟨g',o',none⟩) x.ev.length x.ce) from fun W h=>by
  rw [← eg];exact Ev.xcell0 ((h.block w.heap.size (qL RX.out)).trans RX.out))
 clear hin hB he hf eg eg' hce hcf
 have HPO:=qH hpo
 rw [HE.out] at hk1;rw [HF.out] at hk2
 have t1:(e.k==4)=false:=by simpa using hk1
 have t2:(f.k==4)=false:=by simpa using hk2
 clear hpo hk1 hk2
 obtain⟨bx0⟩:Nonempty (B.cell? ⟨w.heap.size,0,none⟩=some (.slice (some ⟨g',o',none⟩) x.ev.length x.ce)):=⟨CX.out B (Below.refl _ _)⟩
 unfold Ev.exV Ev.xcells
 go_enter Tryz.func65,Tryz.ntmps65
 go_wp2_with (first
  | ((with_reducible refine qG 16 ?_);(try rw [show w.alloc (Obj.cells #[Value.slice x.ae x.ev.length x.ce,Value.slice x.fr.a x.fr.l.length x.fr.c,Value.slice x.ao x.od.length x.co] 26)=B from HB.out.symm]);refine wpList_load_row rfl 26 (.tmp 4) rfl w.heap.size (by kernel_rfl) 26 (Ev.xcells x).toArray (0,0) _ RX.out Tryz.underlying26 rfl (by kernel_rfl) ?_))
 refine(rpo_is HPO.out ha hb _ HX.out).mono ?_
 rintro q W1 ⟨rfl,hb1⟩
 have B1:=qH hb1
 have cx:=CX.out W1 hb1
 have cek:W1.cell? ⟨g',o'+a * 13+1,none⟩=some (.int .i64 e.k):=Ev.kp_below hb1 _ _ (HCE.out 1 _ rfl)
 have cfk:W1.cell? ⟨g',o'+b * 13+1,none⟩=some (.int .i64 f.k):=Ev.kp_below hb1 _ _ (HCF.out 1 _ rfl)
 clear hb1 bx0
 go_wp2_with fail
 clear cek cfk
 have LA:=qH (fun (z:World) (hz:Og.Std W1 z)=>Ev.ld (w:=z) (g:=g') (o:=o'+a * 13) (x:=e) (fun i c hi=>Og.std_cell hz (Ev.kp_below B1.out _ _ (HCE.out i c hi))))
 have LF:=qH (fun (z:World) (hz:Og.Std W1 z)=>Ev.ld (w:=z) (g:=g') (o:=o'+b * 13) (x:=f) (fun i c hi=>Og.std_cell hz (Ev.kp_below B1.out _ _ (HCF.out i c hi))))
 refine wp_region_held (S:=Og.Std W1) (by kernel_rfl) ?_
 have S0:Og.Std W1 { W1 with drawn:=W1.drawn+1 }:=⟨rfl,rfl,rfl,Nat.le_refl _,fun _ _=>rfl⟩
 refine Og.held_take 0 _ (.pointer (some ⟨w.heap.size,0,none⟩)) _ rfl rfl (by kernel_rfl) (by kernel_rfl) (by kernel_rfl) (fun _ _ _ h=>h) S0 (fun z hz=>?_) (by simp only [Act.put,qa,qb,qc];rfl) ?_
 ·go_simp;try (with_reducible rfl)
 refine Og.held_take 1 _ (.slice (some ⟨g',o',none⟩) x.ev.length x.ce) _ rfl rfl (by kernel_rfl) (by kernel_rfl) (by kernel_rfl) (fun _ _ _ h=>h) S0 (fun z hz=>?_) (by simp only [Act.put,qa,qb,qc];rfl) ?_
 ·exact Og.load_run 22 (.tmp 39) rfl ⟨w.heap.size,0,none⟩ (by kernel_rfl) (run_load_slice Tryz.underlying22 (Og.std_cell hz cx))
 refine Og.held_take 2 _ (.int .i64 (a:Int)) _ rfl rfl (by kernel_rfl) (by kernel_rfl) (by kernel_rfl) (fun _ _ _ h=>h) S0 (fun z hz=>?_) (by simp only [Act.put,qa,qb,qc];rfl) ?_
 ·go_simp;try (with_reducible rfl)
 refine Og.held_take 3 _ (.pointer (some ⟨g',o'+a * 13,none⟩)) _ rfl rfl (by kernel_rfl) (by kernel_rfl) (by kernel_rfl) (fun _ _ _ h=>h) S0 (fun z hz=>?_) (by simp only [Act.put,qa,qb,qc];rfl) ?_
 ·go_simp;try (with_reducible rfl)
 refine Og.held_take 4 _ (.agg (Ev.cells e).toArray) _ rfl rfl (by kernel_rfl) (by kernel_rfl) (by kernel_rfl) (fun _ _ _ h=>h) S0 (fun z hz=>?_) (by simp only [Act.put,qa,qb,qc];rfl) ?_
 ·exact Og.load_run 48 (.tmp 42) rfl ⟨g',o'+a * 13,none⟩ (by kernel_rfl) (LA.out z hz)
 refine Og.held_take 5 _ (.pointer (some ⟨w.heap.size,0,none⟩)) _ rfl rfl (by kernel_rfl) (by kernel_rfl) (by kernel_rfl) (fun _ _ _ h=>h) S0 (fun z hz=>?_) (by simp only [Act.put,qa,qb,qc];rfl) ?_
 ·go_simp;try (with_reducible rfl)
 refine Og.held_take 6 _ (.slice (some ⟨g',o',none⟩) x.ev.length x.ce) _ rfl rfl (by kernel_rfl) (by kernel_rfl) (by kernel_rfl) (fun _ _ _ h=>h) S0 (fun z hz=>?_) (by simp only [Act.put,qa,qb,qc];rfl) ?_
 ·exact Og.load_run 22 (.tmp 44) rfl ⟨w.heap.size,0,none⟩ (by kernel_rfl) (run_load_slice Tryz.underlying22 (Og.std_cell hz cx))
 refine Og.held_take 7 _ (.int .i64 (b:Int)) _ rfl rfl (by kernel_rfl) (by kernel_rfl) (by kernel_rfl) (fun _ _ _ h=>h) S0 (fun z hz=>?_) (by simp only [Act.put,qa,qb,qc];rfl) ?_
 ·go_simp;try (with_reducible rfl)
 refine Og.held_take 8 _ (.pointer (some ⟨g',o'+b * 13,none⟩)) _ rfl rfl (by kernel_rfl) (by kernel_rfl) (by kernel_rfl) (fun _ _ _ h=>h) S0 (fun z hz=>?_) (by simp only [Act.put,qa,qb,qc];rfl) ?_
 ·go_simp;try (with_reducible rfl)
 refine Og.held_take 9 _ (.agg (Ev.cells f).toArray) _ rfl rfl (by kernel_rfl) (by kernel_rfl) (by kernel_rfl) (fun _ _ _ h=>h) S0 (fun z hz=>?_) (by simp only [Act.put,qa,qb,qc];rfl) ?_
 ·exact Og.load_run 48 (.tmp 47) rfl ⟨g',o'+b * 13,none⟩ (by kernel_rfl) (LF.out z hz)
 refine Og.four (p:=10) (q:=11) (s1:=12) (s2:=13) (dp:=9) (dq:=10) (x1:=43) (x2:=48) (T:=48) (Z:=(Ev.cells Ev.R0).toArray) (c1:=(Ev.cells e).toArray) (c2:=(Ev.cells f).toArray)
  ⟨⟨_,rfl,rfl,rfl,fun ρ w=>by kernel_rfl⟩,⟨_,rfl,rfl,rfl,fun ρ w=>by kernel_rfl⟩,⟨_,rfl,rfl,rfl,rfl⟩,⟨_,rfl,rfl,rfl,rfl⟩,(by kernel_rfl),(by kernel_rfl),(by kernel_rfl),(by kernel_rfl),(by kernel_rfl),(by kernel_rfl),(by kernel_rfl),(by kernel_rfl),(by kernel_rfl),(by kernel_rfl),(by kernel_rfl),of_decide_eq_true (by kernel_rfl),of_decide_eq_true (by kernel_rfl),(by decide),rfl,rfl,(by kernel_rfl),(by kernel_rfl),(by kernel_rfl),(by kernel_rfl)⟩ S0 ?_
 intro W g1 g2 HT
 simp only [Act.put,qa,qb,qc]
 have R1:=qH HT.r1;have R2:=qH HT.r2;have BW:=qH (B1.out.trans (HT.below.mono B1.out.size))
 clear HT S0 cx
 have c1a:W.cell? ⟨g1,2,none⟩=some (.int .u32 e.a):=by rw [qC R1.out];rfl
 have c2a:W.cell? ⟨g2,2,none⟩=some (.int .u32 f.a):=by rw [qC R2.out];rfl
 obtain⟨s,hs⟩:∃ s,Ev.stores f.k=s:=⟨_,rfl⟩
 have HS:=qH hs
 by_cases hq:e.a=f.a
 case neg =>
  have tq:(e.a==f.a)=false:=by simpa using hq
  have HRES:=qH (show Ev.ruleOf x 1 a b=false by unfold Ev.ruleOf;rw [HE.out,HF.out];show(e.a==f.a&&Ev.stores f.k)=false;rw [tq];rfl)
  clear hq hs
  go_wp2
  go_ret
  exact⟨by rw [HRES.out];try rfl,B0.out.trans ((BW.out).mono B0.out.size)⟩
 have tq:(e.a==f.a)=true:=by simpa using hq
 have HRES:=qH (show Ev.ruleOf x 1 a b=s by unfold Ev.ruleOf;rw [HE.out,HF.out];show(e.a==f.a&&Ev.stores f.k)=s;rw [tq,hs];rfl)
 clear hq hs
 go_wp2_with ((with_reducible refine qG 59 ?_);refine Ev.load_row_g 48 (.tmp 10) rfl rfl g2 (by kernel_rfl) 48 (Ev.cells f).toArray (0,0) _ R2.out Tryz.underlying48 rfl (by kernel_rfl) ?_)
 refine(rstores_is HS.out _).mono ?_
 rintro q W9 ⟨rfl,hb⟩
 have B9:=qH (BW.out.trans (hb.mono BW.out.size));clear hb
 go_wp2_with fail
 go_ret
 exact⟨by rw [HRES.out];try rfl,B0.out.trans ((B9.out).mono B0.out.size)⟩
theorem rule_7 (x:Ev.X) (a b:Nat) (ha:a < x.ev.length) (hb:b < x.ev.length) (hpo:Ev.isPo x a b=true) (hk1:(Ev.nth x.ev a).k≠4) (hk2:(Ev.nth x.ev b).k≠4) (w:World) (hin:Ev.XIn w x) :
 Calls Tryz.prog 65 #[Ev.exV x,.int .i64 7,.int .i64 (a:Int),.int .i64 (b:Int)] w fun e w'=>e=.returned (.bool (Ev.ruleOf x 7 a b))∧Below w.heap.size w w':=by
 have hl1:=hin.ev.le;have hl2:=hin.ev.max
 obtain⟨B,hB⟩:∃ B,B=w.alloc (Obj.cells (Ev.xcells x).toArray 26):=⟨_,rfl⟩
 have HB:=qH hB
 have B0:=qH (show Below w.heap.size w B by rw [hB];exact(Below.refl w.heap.size w).alloc (Nat.le_refl _) _)
 have HX:=qH (show Ev.XIn B x from hin.kp (Ev.kp_below B0.out))
 have RX:=qH (show B.heap[w.heap.size]?=some (.cells (Ev.xcells x).toArray 26 (0,0)) by rw [hB];exact heap_alloc_new _ _)
 obtain⟨e,he⟩:∃ e,x.ev[a]?=some e:=⟨_,List.getElem?_eq_getElem ha⟩
 obtain⟨f,hf⟩:∃ f,x.ev[b]?=some f:=⟨_,List.getElem?_eq_getElem hb⟩
 obtain⟨g,o,eg,hce⟩:=HX.out.ev.at_ he
 obtain⟨g',o',eg',hcf⟩:=HX.out.ev.at_ hf
 obtain⟨rfl,rfl⟩:g'=g∧o'=o:=by rw [eg] at eg';cases eg';exact⟨rfl,rfl⟩
 have HEO:=qH (HX.out.ev.ok_ he);have HFO:=qH (HX.out.ev.ok_ hf)
 have HE:=qH (Ev.nth_some he);have HF:=qH (Ev.nth_some hf)
 have HCE:=qH hce;have HCF:=qH hcf
 have hai:(a:Int) < (x.ev.length:Int):=by omega
 have hbi:(b:Int) < (x.ev.length:Int):=by omega
 have CX:=qH (show ∀ W,Below B.heap.size B W→W.cell? ⟨w.heap.size,0,none⟩=some (.slice (some ⟨g',o',none⟩) x.ev.length x.ce) from fun W h=>by
  rw [← eg];exact Ev.xcell0 ((h.block w.heap.size (qL RX.out)).trans RX.out))
 clear hin hB he hf eg eg' hce hcf
 have HPO:=qH hpo
 rw [HE.out] at hk1;rw [HF.out] at hk2
 have t1:(e.k==4)=false:=by simpa using hk1
 have t2:(f.k==4)=false:=by simpa using hk2
 clear hpo hk1 hk2
 obtain⟨bx0⟩:Nonempty (B.cell? ⟨w.heap.size,0,none⟩=some (.slice (some ⟨g',o',none⟩) x.ev.length x.ce)):=⟨CX.out B (Below.refl _ _)⟩
 unfold Ev.exV Ev.xcells
 go_enter Tryz.func65,Tryz.ntmps65
 go_wp2_with (first
  | ((with_reducible refine qG 16 ?_);(try rw [show w.alloc (Obj.cells #[Value.slice x.ae x.ev.length x.ce,Value.slice x.fr.a x.fr.l.length x.fr.c,Value.slice x.ao x.od.length x.co] 26)=B from HB.out.symm]);refine wpList_load_row rfl 26 (.tmp 4) rfl w.heap.size (by kernel_rfl) 26 (Ev.xcells x).toArray (0,0) _ RX.out Tryz.underlying26 rfl (by kernel_rfl) ?_))
 refine(rpo_is HPO.out ha hb _ HX.out).mono ?_
 rintro q W1 ⟨rfl,hb1⟩
 have B1:=qH hb1
 have cx:=CX.out W1 hb1
 have cek:W1.cell? ⟨g',o'+a * 13+1,none⟩=some (.int .i64 e.k):=Ev.kp_below hb1 _ _ (HCE.out 1 _ rfl)
 have cfk:W1.cell? ⟨g',o'+b * 13+1,none⟩=some (.int .i64 f.k):=Ev.kp_below hb1 _ _ (HCF.out 1 _ rfl)
 clear hb1 bx0
 go_wp2_with fail
 clear cek cfk
 have LA:=qH (fun (z:World) (hz:Og.Std W1 z)=>Ev.ld (w:=z) (g:=g') (o:=o'+a * 13) (x:=e) (fun i c hi=>Og.std_cell hz (Ev.kp_below B1.out _ _ (HCE.out i c hi))))
 have LF:=qH (fun (z:World) (hz:Og.Std W1 z)=>Ev.ld (w:=z) (g:=g') (o:=o'+b * 13) (x:=f) (fun i c hi=>Og.std_cell hz (Ev.kp_below B1.out _ _ (HCF.out i c hi))))
 refine wp_region_held (S:=Og.Std W1) (by kernel_rfl) ?_
 have S0:Og.Std W1 { W1 with drawn:=W1.drawn+1 }:=⟨rfl,rfl,rfl,Nat.le_refl _,fun _ _=>rfl⟩
 refine Og.held_take 0 _ (.pointer (some ⟨w.heap.size,0,none⟩)) _ rfl rfl (by kernel_rfl) (by kernel_rfl) (by kernel_rfl) (fun _ _ _ h=>h) S0 (fun z hz=>?_) (by simp only [Act.put,qa,qb,qc];rfl) ?_
 ·go_simp;try (with_reducible rfl)
 refine Og.held_take 1 _ (.slice (some ⟨g',o',none⟩) x.ev.length x.ce) _ rfl rfl (by kernel_rfl) (by kernel_rfl) (by kernel_rfl) (fun _ _ _ h=>h) S0 (fun z hz=>?_) (by simp only [Act.put,qa,qb,qc];rfl) ?_
 ·exact Og.load_run 22 (.tmp 39) rfl ⟨w.heap.size,0,none⟩ (by kernel_rfl) (run_load_slice Tryz.underlying22 (Og.std_cell hz cx))
 refine Og.held_take 2 _ (.int .i64 (a:Int)) _ rfl rfl (by kernel_rfl) (by kernel_rfl) (by kernel_rfl) (fun _ _ _ h=>h) S0 (fun z hz=>?_) (by simp only [Act.put,qa,qb,qc];rfl) ?_
 ·go_simp;try (with_reducible rfl)
 refine Og.held_take 3 _ (.pointer (some ⟨g',o'+a * 13,none⟩)) _ rfl rfl (by kernel_rfl) (by kernel_rfl) (by kernel_rfl) (fun _ _ _ h=>h) S0 (fun z hz=>?_) (by simp only [Act.put,qa,qb,qc];rfl) ?_
 ·go_simp;try (with_reducible rfl)
 refine Og.held_take 4 _ (.agg (Ev.cells e).toArray) _ rfl rfl (by kernel_rfl) (by kernel_rfl) (by kernel_rfl) (fun _ _ _ h=>h) S0 (fun z hz=>?_) (by simp only [Act.put,qa,qb,qc];rfl) ?_
 ·exact Og.load_run 48 (.tmp 42) rfl ⟨g',o'+a * 13,none⟩ (by kernel_rfl) (LA.out z hz)
 refine Og.held_take 5 _ (.pointer (some ⟨w.heap.size,0,none⟩)) _ rfl rfl (by kernel_rfl) (by kernel_rfl) (by kernel_rfl) (fun _ _ _ h=>h) S0 (fun z hz=>?_) (by simp only [Act.put,qa,qb,qc];rfl) ?_
 ·go_simp;try (with_reducible rfl)
 refine Og.held_take 6 _ (.slice (some ⟨g',o',none⟩) x.ev.length x.ce) _ rfl rfl (by kernel_rfl) (by kernel_rfl) (by kernel_rfl) (fun _ _ _ h=>h) S0 (fun z hz=>?_) (by simp only [Act.put,qa,qb,qc];rfl) ?_
 ·exact Og.load_run 22 (.tmp 44) rfl ⟨w.heap.size,0,none⟩ (by kernel_rfl) (run_load_slice Tryz.underlying22 (Og.std_cell hz cx))
 refine Og.held_take 7 _ (.int .i64 (b:Int)) _ rfl rfl (by kernel_rfl) (by kernel_rfl) (by kernel_rfl) (fun _ _ _ h=>h) S0 (fun z hz=>?_) (by simp only [Act.put,qa,qb,qc];rfl) ?_
 ·go_simp;try (with_reducible rfl)
 refine Og.held_take 8 _ (.pointer (some ⟨g',o'+b * 13,none⟩)) _ rfl rfl (by kernel_rfl) (by kernel_rfl) (by kernel_rfl) (fun _ _ _ h=>h) S0 (fun z hz=>?_) (by simp only [Act.put,qa,qb,qc];rfl) ?_
 ·go_simp;try (with_reducible rfl)
 refine Og.held_take 9 _ (.agg (Ev.cells f).toArray) _ rfl rfl (by kernel_rfl) (by kernel_rfl) (by kernel_rfl) (fun _ _ _ h=>h) S0 (fun z hz=>?_) (by simp only [Act.put,qa,qb,qc];rfl) ?_
 ·exact Og.load_run 48 (.tmp 47) rfl ⟨g',o'+b * 13,none⟩ (by kernel_rfl) (LF.out z hz)
 refine Og.four (p:=10) (q:=11) (s1:=12) (s2:=13) (dp:=9) (dq:=10) (x1:=43) (x2:=48) (T:=48) (Z:=(Ev.cells Ev.R0).toArray) (c1:=(Ev.cells e).toArray) (c2:=(Ev.cells f).toArray)
  ⟨⟨_,rfl,rfl,rfl,fun ρ w=>by kernel_rfl⟩,⟨_,rfl,rfl,rfl,fun ρ w=>by kernel_rfl⟩,⟨_,rfl,rfl,rfl,rfl⟩,⟨_,rfl,rfl,rfl,rfl⟩,(by kernel_rfl),(by kernel_rfl),(by kernel_rfl),(by kernel_rfl),(by kernel_rfl),(by kernel_rfl),(by kernel_rfl),(by kernel_rfl),(by kernel_rfl),(by kernel_rfl),(by kernel_rfl),of_decide_eq_true (by kernel_rfl),of_decide_eq_true (by kernel_rfl),(by decide),rfl,rfl,(by kernel_rfl),(by kernel_rfl),(by kernel_rfl),(by kernel_rfl)⟩ S0 ?_
 intro W g1 g2 HT
 simp only [Act.put,qa,qb,qc]
 have R1:=qH HT.r1;have R2:=qH HT.r2;have BW:=qH (B1.out.trans (HT.below.mono B1.out.size))
 clear HT S0 cx
 have c1a:W.cell? ⟨g1,2,none⟩=some (.int .u32 e.a):=by rw [qC R1.out];rfl
 have c2a:W.cell? ⟨g2,2,none⟩=some (.int .u32 f.a):=by rw [qC R2.out];rfl
 obtain⟨s,hs⟩:∃ s,Ev.strong e=s:=⟨_,rfl⟩
 obtain⟨t,ht⟩:∃ s,Ev.strong f=s:=⟨_,rfl⟩
 have HS:=qH hs;have HTT:=qH ht
 have HRES:=qH (show Ev.ruleOf x 7 a b=(s&&t) by unfold Ev.ruleOf;rw [HE.out,HF.out,← hs,← ht];rfl)
 clear hs ht
 go_wp2_with ((with_reducible refine qG 95 ?_);refine wpList_load_row rfl 48 (.tmp 9) rfl g1 (by kernel_rfl) 48 (Ev.cells e).toArray (0,0) _ R1.out Tryz.underlying48 rfl (by kernel_rfl) ?_)
 refine(rstrong_is HS.out _).mono ?_
 rintro q W9 ⟨rfl,hb⟩
 have B9:=qH (BW.out.trans (hb.mono BW.out.size))
 have R29:=qH ((hb.block g2 (qL R2.out)).trans R2.out)
 clear hb
 cases s
 ·go_wp2_with fail
  go_ret
  exact⟨by rw [HRES.out];try rfl,B0.out.trans ((B9.out).mono B0.out.size)⟩
 go_wp2_with ((with_reducible refine qG 98 ?_);refine Ev.load_row_g 48 (.tmp 10) rfl rfl g2 (by kernel_rfl) 48 (Ev.cells f).toArray (0,0) _ R29.out Tryz.underlying48 rfl (by kernel_rfl) ?_)
 refine(rstrong_is HTT.out _).mono ?_
 rintro q W8 ⟨rfl,hb⟩
 have B8:=qH (B9.out.trans (hb.mono B9.out.size));clear hb
 go_wp2_with fail
 go_ret
 exact⟨by rw [HRES.out];try rfl,B0.out.trans ((B8.out).mono B0.out.size)⟩
theorem rule_8 (x:Ev.X) (a b:Nat) (ha:a < x.ev.length) (hb:b < x.ev.length) (hpo:Ev.isPo x a b=true) (hk1:(Ev.nth x.ev a).k≠4) (hk2:(Ev.nth x.ev b).k≠4) (w:World) (hin:Ev.XIn w x) :
 Calls Tryz.prog 65 #[Ev.exV x,.int .i64 8,.int .i64 (a:Int),.int .i64 (b:Int)] w fun e w'=>e=.returned (.bool (Ev.ruleOf x 8 a b))∧Below w.heap.size w w':=by
 have hl1:=hin.ev.le;have hl2:=hin.ev.max
 obtain⟨B,hB⟩:∃ B,B=w.alloc (Obj.cells (Ev.xcells x).toArray 26):=⟨_,rfl⟩
 have HB:=qH hB
 have B0:=qH (show Below w.heap.size w B by rw [hB];exact(Below.refl w.heap.size w).alloc (Nat.le_refl _) _)
 have HX:=qH (show Ev.XIn B x from hin.kp (Ev.kp_below B0.out))
 have RX:=qH (show B.heap[w.heap.size]?=some (.cells (Ev.xcells x).toArray 26 (0,0)) by rw [hB];exact heap_alloc_new _ _)
 obtain⟨e,he⟩:∃ e,x.ev[a]?=some e:=⟨_,List.getElem?_eq_getElem ha⟩
 obtain⟨f,hf⟩:∃ f,x.ev[b]?=some f:=⟨_,List.getElem?_eq_getElem hb⟩
 obtain⟨g,o,eg,hce⟩:=HX.out.ev.at_ he
 obtain⟨g',o',eg',hcf⟩:=HX.out.ev.at_ hf
 obtain⟨rfl,rfl⟩:g'=g∧o'=o:=by rw [eg] at eg';cases eg';exact⟨rfl,rfl⟩
 have HEO:=qH (HX.out.ev.ok_ he);have HFO:=qH (HX.out.ev.ok_ hf)
 have HE:=qH (Ev.nth_some he);have HF:=qH (Ev.nth_some hf)
 have HCE:=qH hce;have HCF:=qH hcf
 have hai:(a:Int) < (x.ev.length:Int):=by omega
 have hbi:(b:Int) < (x.ev.length:Int):=by omega
 have CX:=qH (show ∀ W,Below B.heap.size B W→W.cell? ⟨w.heap.size,0,none⟩=some (.slice (some ⟨g',o',none⟩) x.ev.length x.ce) from fun W h=>by
  rw [← eg];exact Ev.xcell0 ((h.block w.heap.size (qL RX.out)).trans RX.out))
 clear hin hB he hf eg eg' hce hcf
 have HPO:=qH hpo
 rw [HE.out] at hk1;rw [HF.out] at hk2
 have t1:(e.k==4)=false:=by simpa using hk1
 have t2:(f.k==4)=false:=by simpa using hk2
 clear hpo hk1 hk2
 obtain⟨bx0⟩:Nonempty (B.cell? ⟨w.heap.size,0,none⟩=some (.slice (some ⟨g',o',none⟩) x.ev.length x.ce)):=⟨CX.out B (Below.refl _ _)⟩
 unfold Ev.exV Ev.xcells
 go_enter Tryz.func65,Tryz.ntmps65
 go_wp2_with (first
  | ((with_reducible refine qG 16 ?_);(try rw [show w.alloc (Obj.cells #[Value.slice x.ae x.ev.length x.ce,Value.slice x.fr.a x.fr.l.length x.fr.c,Value.slice x.ao x.od.length x.co] 26)=B from HB.out.symm]);refine wpList_load_row rfl 26 (.tmp 4) rfl w.heap.size (by kernel_rfl) 26 (Ev.xcells x).toArray (0,0) _ RX.out Tryz.underlying26 rfl (by kernel_rfl) ?_))
 refine(rpo_is HPO.out ha hb _ HX.out).mono ?_
 rintro q W1 ⟨rfl,hb1⟩
 have B1:=qH hb1
 have cx:=CX.out W1 hb1
 have cek:W1.cell? ⟨g',o'+a * 13+1,none⟩=some (.int .i64 e.k):=Ev.kp_below hb1 _ _ (HCE.out 1 _ rfl)
 have cfk:W1.cell? ⟨g',o'+b * 13+1,none⟩=some (.int .i64 f.k):=Ev.kp_below hb1 _ _ (HCF.out 1 _ rfl)
 clear hb1 bx0
 go_wp2_with fail
 clear cek cfk
 have LA:=qH (fun (z:World) (hz:Og.Std W1 z)=>Ev.ld (w:=z) (g:=g') (o:=o'+a * 13) (x:=e) (fun i c hi=>Og.std_cell hz (Ev.kp_below B1.out _ _ (HCE.out i c hi))))
 have LF:=qH (fun (z:World) (hz:Og.Std W1 z)=>Ev.ld (w:=z) (g:=g') (o:=o'+b * 13) (x:=f) (fun i c hi=>Og.std_cell hz (Ev.kp_below B1.out _ _ (HCF.out i c hi))))
 refine wp_region_held (S:=Og.Std W1) (by kernel_rfl) ?_
 have S0:Og.Std W1 { W1 with drawn:=W1.drawn+1 }:=⟨rfl,rfl,rfl,Nat.le_refl _,fun _ _=>rfl⟩
 refine Og.held_take 0 _ (.pointer (some ⟨w.heap.size,0,none⟩)) _ rfl rfl (by kernel_rfl) (by kernel_rfl) (by kernel_rfl) (fun _ _ _ h=>h) S0 (fun z hz=>?_) (by simp only [Act.put,qa,qb,qc];rfl) ?_
 ·go_simp;try (with_reducible rfl)
 refine Og.held_take 1 _ (.slice (some ⟨g',o',none⟩) x.ev.length x.ce) _ rfl rfl (by kernel_rfl) (by kernel_rfl) (by kernel_rfl) (fun _ _ _ h=>h) S0 (fun z hz=>?_) (by simp only [Act.put,qa,qb,qc];rfl) ?_
 ·exact Og.load_run 22 (.tmp 39) rfl ⟨w.heap.size,0,none⟩ (by kernel_rfl) (run_load_slice Tryz.underlying22 (Og.std_cell hz cx))
 refine Og.held_take 2 _ (.int .i64 (a:Int)) _ rfl rfl (by kernel_rfl) (by kernel_rfl) (by kernel_rfl) (fun _ _ _ h=>h) S0 (fun z hz=>?_) (by simp only [Act.put,qa,qb,qc];rfl) ?_
 ·go_simp;try (with_reducible rfl)
 refine Og.held_take 3 _ (.pointer (some ⟨g',o'+a * 13,none⟩)) _ rfl rfl (by kernel_rfl) (by kernel_rfl) (by kernel_rfl) (fun _ _ _ h=>h) S0 (fun z hz=>?_) (by simp only [Act.put,qa,qb,qc];rfl) ?_
 ·go_simp;try (with_reducible rfl)
 refine Og.held_take 4 _ (.agg (Ev.cells e).toArray) _ rfl rfl (by kernel_rfl) (by kernel_rfl) (by kernel_rfl) (fun _ _ _ h=>h) S0 (fun z hz=>?_) (by simp only [Act.put,qa,qb,qc];rfl) ?_
 ·exact Og.load_run 48 (.tmp 42) rfl ⟨g',o'+a * 13,none⟩ (by kernel_rfl) (LA.out z hz)
 refine Og.held_take 5 _ (.pointer (some ⟨w.heap.size,0,none⟩)) _ rfl rfl (by kernel_rfl) (by kernel_rfl) (by kernel_rfl) (fun _ _ _ h=>h) S0 (fun z hz=>?_) (by simp only [Act.put,qa,qb,qc];rfl) ?_
 ·go_simp;try (with_reducible rfl)
 refine Og.held_take 6 _ (.slice (some ⟨g',o',none⟩) x.ev.length x.ce) _ rfl rfl (by kernel_rfl) (by kernel_rfl) (by kernel_rfl) (fun _ _ _ h=>h) S0 (fun z hz=>?_) (by simp only [Act.put,qa,qb,qc];rfl) ?_
 ·exact Og.load_run 22 (.tmp 44) rfl ⟨w.heap.size,0,none⟩ (by kernel_rfl) (run_load_slice Tryz.underlying22 (Og.std_cell hz cx))
 refine Og.held_take 7 _ (.int .i64 (b:Int)) _ rfl rfl (by kernel_rfl) (by kernel_rfl) (by kernel_rfl) (fun _ _ _ h=>h) S0 (fun z hz=>?_) (by simp only [Act.put,qa,qb,qc];rfl) ?_
 ·go_simp;try (with_reducible rfl)
 refine Og.held_take 8 _ (.pointer (some ⟨g',o'+b * 13,none⟩)) _ rfl rfl (by kernel_rfl) (by kernel_rfl) (by kernel_rfl) (fun _ _ _ h=>h) S0 (fun z hz=>?_) (by simp only [Act.put,qa,qb,qc];rfl) ?_
 ·go_simp;try (with_reducible rfl)
 refine Og.held_take 9 _ (.agg (Ev.cells f).toArray) _ rfl rfl (by kernel_rfl) (by kernel_rfl) (by kernel_rfl) (fun _ _ _ h=>h) S0 (fun z hz=>?_) (by simp only [Act.put,qa,qb,qc];rfl) ?_
 ·exact Og.load_run 48 (.tmp 47) rfl ⟨g',o'+b * 13,none⟩ (by kernel_rfl) (LF.out z hz)
 refine Og.four (p:=10) (q:=11) (s1:=12) (s2:=13) (dp:=9) (dq:=10) (x1:=43) (x2:=48) (T:=48) (Z:=(Ev.cells Ev.R0).toArray) (c1:=(Ev.cells e).toArray) (c2:=(Ev.cells f).toArray)
  ⟨⟨_,rfl,rfl,rfl,fun ρ w=>by kernel_rfl⟩,⟨_,rfl,rfl,rfl,fun ρ w=>by kernel_rfl⟩,⟨_,rfl,rfl,rfl,rfl⟩,⟨_,rfl,rfl,rfl,rfl⟩,(by kernel_rfl),(by kernel_rfl),(by kernel_rfl),(by kernel_rfl),(by kernel_rfl),(by kernel_rfl),(by kernel_rfl),(by kernel_rfl),(by kernel_rfl),(by kernel_rfl),(by kernel_rfl),of_decide_eq_true (by kernel_rfl),of_decide_eq_true (by kernel_rfl),(by decide),rfl,rfl,(by kernel_rfl),(by kernel_rfl),(by kernel_rfl),(by kernel_rfl)⟩ S0 ?_
 intro W g1 g2 HT
 simp only [Act.put,qa,qb,qc]
 have R1:=qH HT.r1;have R2:=qH HT.r2;have BW:=qH (B1.out.trans (HT.below.mono B1.out.size))
 clear HT S0 cx
 have c1a:W.cell? ⟨g1,2,none⟩=some (.int .u32 e.a):=by rw [qC R1.out];rfl
 have c2a:W.cell? ⟨g2,2,none⟩=some (.int .u32 f.a):=by rw [qC R2.out];rfl
 obtain⟨p,hp⟩:∃ p,Ev.paired x b=p:=⟨_,rfl⟩
 have HP:=qH hp
 have RX2:=qH ((BW.out.block w.heap.size (qL RX.out)).trans RX.out)
 have HRES:=qH (show Ev.ruleOf x 8 a b=(p==(a:Int)) by unfold Ev.ruleOf;rw [← hp];rfl)
 clear hp
 go_wp2_with ((with_reducible refine qG 103 ?_);refine wpList_load_row rfl 26 (.tmp 4) rfl w.heap.size (by kernel_rfl) 26 (Ev.xcells x).toArray (0,0) _ RX2.out Tryz.underlying26 rfl (by kernel_rfl) ?_)
 refine(rpaired_is HP.out hb _ (HX.out.kp (Ev.kp_below BW.out))).mono ?_
 rintro q W9 ⟨rfl,hb9⟩
 have B9:=qH (BW.out.trans (hb9.mono BW.out.size));clear hb9
 go_wp2_with fail
 go_ret
 exact⟨by rw [HRES.out];try rfl,B0.out.trans ((B9.out).mono B0.out.size)⟩
end Go.Proofs.YtnjnpbabgefaeaaGreat
end
