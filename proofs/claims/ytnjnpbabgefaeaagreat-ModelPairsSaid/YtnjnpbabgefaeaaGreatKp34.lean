import Derived.Test.YtnjnpbabgefaeaaGreatKp27
import Derived.Test.YtnjnpbabgefaeaaGreatKp17
import Derived.Test.YtnjnpbabgefaeaaGreatKp06
import Derived.Deep.CutRange
import Derived.Deep.Cut
import Derived.Deep.DeepCutAuto
import Derived.Test.YtnjnpbabgefaeaaGreatKpH
set_option maxRecDepth 100000
set_option maxHeartbeats 40000000
set_option linter.unusedVariables false
set_option linter.unusedSimpArgs false
section
namespace Go.Proofs.YtnjnpbabgefaeaaGreat
open Go.RowKit
theorem rule_12 (x:Ev.X) (a b:Nat) (ha:a < x.ev.length) (hb:b < x.ev.length) (hpo:Ev.isPo x a b=true) (hk1:(Ev.nth x.ev a).k≠4) (hk2:(Ev.nth x.ev b).k≠4) (hfl:x.fr.l.length=x.ev.length) (w:World) (hin:Ev.XIn w x) :
 Calls Tryz.prog 65 #[Ev.exV x,.int .i64 12,.int .i64 (a:Int),.int .i64 (b:Int)] w fun e w'=>e=.returned (.bool (Ev.ruleOf x 12 a b))∧Below w.heap.size w w':=by
 have hl1:=hin.ev.le;have hl2:=hin.ev.max
 obtain⟨B,hB⟩:∃ B,B=w.alloc (Obj.cells (Ev.xcells x).toArray 26):=⟨_,rfl⟩
 have HB:=qH hB
 have B0:=qH (show Below w.heap.size w B by rw [hB];exact(Below.refl w.heap.size w).alloc (Nat.le_refl _) _)
 have HX:=qH (show Ev.XIn B x from hin.kp (Ev.kp_below B0.out))
 have RX:=qH (show B.heap[w.heap.size]?=some (.cells (Ev.xcells x).toArray 26 (0,0)) by rw [hB];exact heap_alloc_new _ _)
 obtain⟨e,he⟩:∃ e,x.ev[a]?=some e:=⟨_,List.getElem?_eq_getElem ha⟩
 obtain⟨f,hf⟩:∃ f,x.ev[b]?=some f:=⟨_,List.getElem?_eq_getElem hb⟩
 obtain⟨g,o,eg,hce⟩:=HX.out.ev.at_ he
 obtain⟨g',o',eg',hcf⟩:=HX.out.ev.at_ hf
 obtain⟨rfl,rfl⟩:g'=g∧o'=o:=by rw [eg] at eg';cases eg';exact⟨rfl,rfl⟩
 have HEO:=qH (HX.out.ev.ok_ he);have HFO:=qH (HX.out.ev.ok_ hf)
 have HE:=qH (Ev.nth_some he);have HF:=qH (Ev.nth_some hf)
 have HCE:=qH hce;have HCF:=qH hcf
 have hai:(a:Int) < (x.ev.length:Int):=by omega
 have hbi:(b:Int) < (x.ev.length:Int):=by omega
 have CX:=qH (show ∀ W,Below B.heap.size B W→W.cell? ⟨w.heap.size,0,none⟩=some (.slice (some ⟨g',o',none⟩) x.ev.length x.ce) from fun W h=>by
  rw [← eg];exact Ev.xcell0 ((h.block w.heap.size (qL RX.out)).trans RX.out))
 clear hin hB he hf eg eg' hce hcf
 have HPO:=qH hpo
 rw [HE.out] at hk1;rw [HF.out] at hk2
 have t1:(e.k==4)=false:=by simpa using hk1
 have t2:(f.k==4)=false:=by simpa using hk2
 clear hpo hk1 hk2
 have HFL:=qH hfl
 clear hfl
 obtain⟨bx0⟩:Nonempty (B.cell? ⟨w.heap.size,0,none⟩=some (.slice (some ⟨g',o',none⟩) x.ev.length x.ce)):=⟨CX.out B (Below.refl _ _)⟩
 unfold Ev.exV Ev.xcells
 go_enter Tryz.func65,Tryz.ntmps65
 go_wp2_with (first
  | ((with_reducible refine qG 16 ?_);(try rw [show w.alloc (Obj.cells #[Value.slice x.ae x.ev.length x.ce,Value.slice x.fr.a x.fr.l.length x.fr.c,Value.slice x.ao x.od.length x.co] 26)=B from HB.out.symm]);refine wpList_load_row rfl 26 (.tmp 4) rfl w.heap.size (by kernel_rfl) 26 (Ev.xcells x).toArray (0,0) _ RX.out Tryz.underlying26 rfl (by kernel_rfl) ?_))
 refine(rpo_is HPO.out ha hb _ HX.out).mono ?_
 rintro q W1 ⟨rfl,hb1⟩
 have B1:=qH hb1
 have cx:=CX.out W1 hb1
 have cek:W1.cell? ⟨g',o'+a * 13+1,none⟩=some (.int .i64 e.k):=Ev.kp_below hb1 _ _ (HCE.out 1 _ rfl)
 have cfk:W1.cell? ⟨g',o'+b * 13+1,none⟩=some (.int .i64 f.k):=Ev.kp_below hb1 _ _ (HCF.out 1 _ rfl)
 clear hb1 bx0
 go_wp2_with fail
 clear cek cfk
 have LA:=qH (fun (z:World) (hz:Og.Std W1 z)=>Ev.ld (w:=z) (g:=g') (o:=o'+a * 13) (x:=e) (fun i c hi=>Og.std_cell hz (Ev.kp_below B1.out _ _ (HCE.out i c hi))))
 have LF:=qH (fun (z:World) (hz:Og.Std W1 z)=>Ev.ld (w:=z) (g:=g') (o:=o'+b * 13) (x:=f) (fun i c hi=>Og.std_cell hz (Ev.kp_below B1.out _ _ (HCF.out i c hi))))
 refine wp_region_held (S:=Og.Std W1) (by kernel_rfl) ?_
 have S0:Og.Std W1 { W1 with drawn:=W1.drawn+1 }:=⟨rfl,rfl,rfl,Nat.le_refl _,fun _ _=>rfl⟩
 refine Og.held_take 0 _ (.pointer (some ⟨w.heap.size,0,none⟩)) _ rfl rfl (by kernel_rfl) (by kernel_rfl) (by kernel_rfl) (fun _ _ _ h=>h) S0 (fun z hz=>?_) (by simp only [Act.put,qa,qb,qc];rfl) ?_
 ·go_simp;try (with_reducible rfl)
 refine Og.held_take 1 _ (.slice (some ⟨g',o',none⟩) x.ev.length x.ce) _ rfl rfl (by kernel_rfl) (by kernel_rfl) (by kernel_rfl) (fun _ _ _ h=>h) S0 (fun z hz=>?_) (by simp only [Act.put,qa,qb,qc];rfl) ?_
 ·exact Og.load_run 22 (.tmp 39) rfl ⟨w.heap.size,0,none⟩ (by kernel_rfl) (run_load_slice Tryz.underlying22 (Og.std_cell hz cx))
 refine Og.held_take 2 _ (.int .i64 (a:Int)) _ rfl rfl (by kernel_rfl) (by kernel_rfl) (by kernel_rfl) (fun _ _ _ h=>h) S0 (fun z hz=>?_) (by simp only [Act.put,qa,qb,qc];rfl) ?_
 ·go_simp;try (with_reducible rfl)
 refine Og.held_take 3 _ (.pointer (some ⟨g',o'+a * 13,none⟩)) _ rfl rfl (by kernel_rfl) (by kernel_rfl) (by kernel_rfl) (fun _ _ _ h=>h) S0 (fun z hz=>?_) (by simp only [Act.put,qa,qb,qc];rfl) ?_
 ·go_simp;try (with_reducible rfl)
 refine Og.held_take 4 _ (.agg (Ev.cells e).toArray) _ rfl rfl (by kernel_rfl) (by kernel_rfl) (by kernel_rfl) (fun _ _ _ h=>h) S0 (fun z hz=>?_) (by simp only [Act.put,qa,qb,qc];rfl) ?_
 ·exact Og.load_run 48 (.tmp 42) rfl ⟨g',o'+a * 13,none⟩ (by kernel_rfl) (LA.out z hz)
 refine Og.held_take 5 _ (.pointer (some ⟨w.heap.size,0,none⟩)) _ rfl rfl (by kernel_rfl) (by kernel_rfl) (by kernel_rfl) (fun _ _ _ h=>h) S0 (fun z hz=>?_) (by simp only [Act.put,qa,qb,qc];rfl) ?_
 ·go_simp;try (with_reducible rfl)
 refine Og.held_take 6 _ (.slice (some ⟨g',o',none⟩) x.ev.length x.ce) _ rfl rfl (by kernel_rfl) (by kernel_rfl) (by kernel_rfl) (fun _ _ _ h=>h) S0 (fun z hz=>?_) (by simp only [Act.put,qa,qb,qc];rfl) ?_
 ·exact Og.load_run 22 (.tmp 44) rfl ⟨w.heap.size,0,none⟩ (by kernel_rfl) (run_load_slice Tryz.underlying22 (Og.std_cell hz cx))
 refine Og.held_take 7 _ (.int .i64 (b:Int)) _ rfl rfl (by kernel_rfl) (by kernel_rfl) (by kernel_rfl) (fun _ _ _ h=>h) S0 (fun z hz=>?_) (by simp only [Act.put,qa,qb,qc];rfl) ?_
 ·go_simp;try (with_reducible rfl)
 refine Og.held_take 8 _ (.pointer (some ⟨g',o'+b * 13,none⟩)) _ rfl rfl (by kernel_rfl) (by kernel_rfl) (by kernel_rfl) (fun _ _ _ h=>h) S0 (fun z hz=>?_) (by simp only [Act.put,qa,qb,qc];rfl) ?_
 ·go_simp;try (with_reducible rfl)
 refine Og.held_take 9 _ (.agg (Ev.cells f).toArray) _ rfl rfl (by kernel_rfl) (by kernel_rfl) (by kernel_rfl) (fun _ _ _ h=>h) S0 (fun z hz=>?_) (by simp only [Act.put,qa,qb,qc];rfl) ?_
 ·exact Og.load_run 48 (.tmp 47) rfl ⟨g',o'+b * 13,none⟩ (by kernel_rfl) (LF.out z hz)
 refine Og.four (p:=10) (q:=11) (s1:=12) (s2:=13) (dp:=9) (dq:=10) (x1:=43) (x2:=48) (T:=48) (Z:=(Ev.cells Ev.R0).toArray) (c1:=(Ev.cells e).toArray) (c2:=(Ev.cells f).toArray)
  ⟨⟨_,rfl,rfl,rfl,fun ρ w=>by kernel_rfl⟩,⟨_,rfl,rfl,rfl,fun ρ w=>by kernel_rfl⟩,⟨_,rfl,rfl,rfl,rfl⟩,⟨_,rfl,rfl,rfl,rfl⟩,(by kernel_rfl),(by kernel_rfl),(by kernel_rfl),(by kernel_rfl),(by kernel_rfl),(by kernel_rfl),(by kernel_rfl),(by kernel_rfl),(by kernel_rfl),(by kernel_rfl),(by kernel_rfl),of_decide_eq_true (by kernel_rfl),of_decide_eq_true (by kernel_rfl),(by decide),rfl,rfl,(by kernel_rfl),(by kernel_rfl),(by kernel_rfl),(by kernel_rfl)⟩ S0 ?_
 intro W g1 g2 HT
 simp only [Act.put,qa,qb,qc]
 have R1:=qH HT.r1;have R2:=qH HT.r2;have BW:=qH (B1.out.trans (HT.below.mono B1.out.size))
 clear HT S0 cx
 have c1a:W.cell? ⟨g1,2,none⟩=some (.int .u32 e.a):=by rw [qC R1.out];rfl
 have c2a:W.cell? ⟨g2,2,none⟩=some (.int .u32 f.a):=by rw [qC R2.out];rfl
 have HXW:=qH (HX.out.kp (Ev.kp_below BW.out))
 have hfl:=HFL.out
 have hfs:=HX.out.fr.2.1;have hfm:=HX.out.fr.2.2.1
 obtain⟨fv,hfv⟩:∃ v,x.fr.l[b]?=some v:=⟨_,List.getElem?_eq_getElem (by omega)⟩
 obtain⟨gf,of,ef,hcv⟩:=HX.out.fr.at_ hfv
 have HFV:=qH (show Ev.frAt x b=fv by unfold Ev.frAt;simp [List.getD,hfv])
 have hbf:(b:Int) < (x.fr.l.length:Int):=by omega
 have CFR:=qH (show ∀ W,Below B.heap.size B W→W.cell? ⟨w.heap.size,1,none⟩=some (.slice (some ⟨gf,of,none⟩) x.fr.l.length x.fr.c) from fun W h=>by
  rw [← ef];exact Ev.xcell1 ((h.block w.heap.size (qL RX.out)).trans RX.out))
 have CFB:=qH (show ∀ W,Below B.heap.size B W→W.cell? ⟨gf,of+b,none⟩=some (.int .i64 fv) from fun W h=>Ev.kp_below h _ _ hcv)
 clear hfv ef hcv hfl
 obtain⟨s2,hs2⟩:∃ s,Ev.stores f.k=s:=⟨_,rfl⟩
 obtain⟨l2,hl2⟩:∃ s,Ev.loads f.k=s:=⟨_,rfl⟩
 have HS2:=qH hs2;have HL2:=qH hl2
 clear hs2 hl2
 go_wp2
 go_loopw [12,13,14] (fun c s i wr=>∃ (m:Nat) (vc vs:Bool),a+1≤m∧m≤b∧i=.int .i64 (m:Int)∧c=.bool vc∧vc=(Ev.upTo a m).all (Ev.cl x a)∧s=.bool vs∧vs=((Ev.upTo a m).any (Ev.so x 12 a b))∧Below W.heap.size W wr) (fun _ _ i _=>b - (intOf i).toNat)
 case atStart=>exact⟨a+1,true,false,Nat.le_refl _,by have:=Ev.po_lt HPO.out;omega,by go_num,rfl,by rw [Ev.upTo_zero];rfl,rfl,by first | rfl | (rw [Ev.upTo_zero];rfl),Below.refl _ _⟩
 case round =>
  obtain⟨m,vc,vs,ham,hmb,rfl,rfl,hvc,rfl,hvs,hbr⟩:=hrel
  have HVC:=qH hvc;have HVS:=qH hvs;have HBR:=qH hbr
  have BR:=qH (BW.out.trans (hbr.mono BW.out.size))
  have cx2:=CX.out wr BR.out
  have R1r:=qH ((hbr.block g1 (qL R1.out)).trans R1.out)
  have R2r:=qH ((hbr.block g2 (qL R2.out)).trans R2.out)
  clear hvc hvs hbr c1a c2a
  by_cases hlt:m < b
  ·have hmi:(m:Int) < (b:Int):=by omega
   have hml:(m:Int) < (x.ev.length:Int):=by omega
   obtain⟨y,hy⟩:∃ y,x.ev[m]?=some y:=⟨_,List.getElem?_eq_getElem (by omega)⟩
   obtain⟨g3,o3,eg3,hcy⟩:=(HXW.out.ev.kp (Ev.kp_below HBR.out)).at_ hy
   obtain⟨rfl,rfl⟩:g3=g'∧o3=o':=by
    have e1:=CX.out B (Below.refl _ _)
    rw [Ev.xcell0 RX.out] at e1
    have e2:x.ae=some ⟨g',o',none⟩:=by injection e1 with e1;injection e1
    rw [eg3] at e2;cases e2;exact⟨rfl,rfl⟩
   have HCY:=qH hcy;have HY:=qH (Ev.nth_some hy)
   have HYO:=qH (HXW.out.ev.ok_ hy)
   clear hy eg3 hcy
   have HCL:=qH (show Ev.cl x a m=!(Ev.stores y.k&&y.a==e.a) by unfold Ev.cl;rw [HY.out,HE.out])
   obtain⟨sy,hsy⟩:∃ s,Ev.stores y.k=s:=⟨_,rfl⟩
   have HSY:=qH hsy
   rw [hsy] at HCL
   clear hsy
   go_upto_region 29 with (first
    | ((with_reducible refine qG 144 ?_);refine wpList_load_at rfl 48 (.tmp 143) rfl g3 (o3+m * 13) (by kernel_rfl) (Ev.cells y) _ HCY.out Tryz.underlying48 rfl (by kernel_rfl) ?_)
    | ((with_reducible show wpList _ _ _ (Oper.mk none (Op.store 48 (Operand.tmp 15) _) _ _ _ _ :: _) _ _);refine wpList_store_own rfl 48 (.tmp 15) (.tmp 144) rfl wr.heap.size (Ev.cells y).toArray rfl rfl 48 (Ev.cells Ev.R0).toArray (heap_alloc_new _ _) (by kernel_rfl) (by kernel_rfl) (by kernel_rfl) ?_
       intro W3 HW
       have BY:=qH (((Below.refl wr.heap.size wr).alloc (Nat.le_refl _) _).trans HW.below)
       have RY:=qH HW.row
       clear HW))
   have HBR3:=qH (HBR.out.trans (BY.out.mono HBR.out.size))
   have R13:=qH ((BY.out.block g1 (qL R1r.out)).trans R1r.out)
   have R23:=qH ((BY.out.block g2 (qL R2r.out)).trans R2r.out)
   clear cx2
   simp only [Act.put]
   go_cut [12] (fun c wx=>c=.bool (vc&&Ev.cl x a m)∧Below W3.heap.size W3 wx)
   case first =>
    have ya:W3.cell? ⟨wr.heap.size,2,none⟩=some (.int .u32 y.a):=by rw [qC RY.out];rfl
    have ea:W3.cell? ⟨g1,2,none⟩=some (.int .u32 e.a):=by rw [qC R13.out];rfl
    cases vc
    ·go_wp2_with fail
     go_meet
     case rel=>exact⟨rfl,Below.refl _ _⟩
    go_wp2_with ((with_reducible refine qG 147 ?_);refine Ev.load_row_g 48 (.tmp 15) rfl rfl wr.heap.size (by kernel_rfl) 48 (Ev.cells y).toArray (0,0) _ RY.out Tryz.underlying48 rfl (by kernel_rfl) ?_)
    refine(rstores_is HSY.out _).mono ?_
    rintro q W4 ⟨rfl,hb4⟩
    have B4:=qH hb4
    have ya4:=Ev.kp_below hb4 _ _ ya;have ea4:=Ev.kp_below hb4 _ _ ea
    clear hb4 ya ea
    cases sy
    ·go_wp2_with fail
     go_meet
     case rel=>exact⟨by rw [HCL.out];rfl,B4.out⟩
    by_cases hq:y.a=e.a
    ·have tq:(y.a==e.a)=true:=by simpa using hq
     clear hq
     go_wp2_with fail
     go_meet
     case rel=>exact⟨by rw [HCL.out,tq];rfl,B4.out⟩
    ·have tq:(y.a==e.a)=false:=by simpa using hq
     clear hq
     go_wp2_with fail
     go_meet
     case rel=>exact⟨by rw [HCL.out,tq];rfl,B4.out⟩
   case rest =>
    obtain⟨rfl,hbc⟩:=hcut
    have HBC:=qH (HBR3.out.trans (hbc.mono HBR3.out.size))
    have RYc:=qH ((hbc.block wr.heap.size (qL RY.out)).trans RY.out)
    have R1c:=qH ((hbc.block g1 (qL R13.out)).trans R13.out)
    have R2c:=qH ((hbc.block g2 (qL R23.out)).trans R23.out)
    have BC:=qH (BW.out.trans (HBC.out.mono BW.out.size))
    have HVC2:=qH (show(vc&&Ev.cl x a m)=(Ev.upTo a (m+1)).all (Ev.cl x a) by rw [Ev.all_succ ham,HVC.out])
    obtain⟨vc2,hvc2⟩:∃ v,(vc&&Ev.cl x a m)=v:=⟨_,rfl⟩
    rw [hvc2] at HVC2 ⊢
    clear hbc hvc2
    have HSS:=qH (show(Ev.upTo a (m+1)).any (Ev.so x 12 a b)=(vs||Ev.so x 12 a b m) by rw [Ev.any_succ ham,← HVS.out])
    obtain⟨p,hp⟩:∃ p,Ev.at_ y.d1.l (a:Int)=p:=⟨_,rfl⟩
    obtain⟨p2,hp2⟩:∃ p,Ev.at_ y.d2.l (a:Int)=p:=⟨_,rfl⟩
    have HP:=qH hp;have HP2:=qH hp2
    have HDEF:=qH (show Ev.so x 12 a b m=(l2&&sy&&fv==(m:Int)&&(decide (0≤p)||decide (0≤p2))) by show(Ev.loads (Ev.nth x.ev b).k&&Ev.stores (Ev.nth x.ev m).k&&Ev.frAt x b==(m:Int)&&(decide (0≤Ev.at_ (Ev.nth x.ev m).d1.l (a:Int))||decide (0≤Ev.at_ (Ev.nth x.ev m).d2.l (a:Int))))=_;rw [HF.out,HY.out,HL2.out,HSY.out,HFV.out,hp,hp2])
    clear hp hp2
    cases vs
    case true =>
     have HSO:=qH (show true=(Ev.upTo a (m+1)).any (Ev.so x 12 a b) by rw [HSS.out];rfl)
     go_wp2_with fail
     go_roundw
     case rel=>exact⟨m+1,vc2,true,by omega,by omega,by go_num,rfl,HVC2.out,rfl,HSO.out,HBC.out⟩
     case measure=>simp [intOf];omega
    go_wp2_with ((with_reducible refine qG 185 ?_);refine Ev.load_row_g 48 (.tmp 10) rfl rfl g2 (by kernel_rfl) 48 (Ev.cells f).toArray (0,0) _ R2c.out Tryz.underlying48 rfl (by kernel_rfl) ?_)
    refine(rloads_is HL2.out _).mono ?_
    rintro q W5 ⟨rfl,hb5⟩
    have HB5:=qH (HBC.out.trans (hb5.mono HBC.out.size))
    have RY5:=qH ((hb5.block _ (qL RYc.out)).trans RYc.out)
    clear hb5
    cases l2
    case false =>
     have HSO:=qH (show false=(Ev.upTo a (m+1)).any (Ev.so x 12 a b) by rw [HSS.out,HDEF.out];rfl)
     go_wp2_with fail
     go_roundw
     case rel=>exact⟨m+1,vc2,false,by omega,by omega,by go_num,rfl,HVC2.out,rfl,HSO.out,HB5.out⟩
     case measure=>simp [intOf];omega
    go_wp2_with ((with_reducible refine qG 189 ?_);refine Ev.load_row_g 48 (.tmp 15) rfl rfl wr.heap.size (by kernel_rfl) 48 (Ev.cells y).toArray (0,0) _ RY5.out Tryz.underlying48 rfl (by kernel_rfl) ?_)
    refine(rstores_is HSY.out _).mono ?_
    rintro q W6 ⟨rfl,hb6⟩
    have HB6:=qH (HB5.out.trans (hb6.mono HB5.out.size))
    have RY6:=qH ((hb6.block _ (qL RY5.out)).trans RY5.out)
    have B6:=qH (BW.out.trans (HB6.out.mono BW.out.size))
    have cfr:=CFR.out W6 B6.out;have cfb:=CFB.out W6 B6.out
    have cd:W6.cell? ⟨wr.heap.size,10,none⟩=some (.slice y.d1.a y.d1.l.length y.d1.c):=by rw [qC RY6.out];rfl
    have cd2:W6.cell? ⟨wr.heap.size,11,none⟩=some (.slice y.d2.a y.d2.l.length y.d2.c):=by rw [qC RY6.out];rfl
    clear hb6
    cases sy
    case false =>
     have HSO:=qH (show false=(Ev.upTo a (m+1)).any (Ev.so x 12 a b) by rw [HSS.out,HDEF.out];rfl)
     go_wp2_with fail
     go_roundw
     case rel=>exact⟨m+1,vc2,false,by omega,by omega,by go_num,rfl,HVC2.out,rfl,HSO.out,HB6.out⟩
     case measure=>simp [intOf];omega
    by_cases hq:fv=(m:Int)
    case neg =>
     have tq:(fv==(m:Int))=false:=by simpa using hq
     have HSO:=qH (show false=(Ev.upTo a (m+1)).any (Ev.so x 12 a b) by rw [HSS.out,HDEF.out,tq];rfl)
     clear hq
     go_wp2_with fail
     go_roundw
     case rel=>exact⟨m+1,vc2,false,by omega,by omega,by go_num,rfl,HVC2.out,rfl,HSO.out,HB6.out⟩
     case measure=>simp [intOf];omega
    have tq:(fv==(m:Int))=true:=by simpa using hq
    clear hq
    go_wp2_with fail
    refine(rat_is0 HP.out _ (HYO.out.d1.kp (Ev.kp_below HB6.out))).mono ?_
    rintro q W7 ⟨rfl,rfl⟩
    by_cases h0:0≤p
    case pos =>
     have t0:decide (0≤p)=true:=decide_eq_true h0
     have HSO:=qH (show true=(Ev.upTo a (m+1)).any (Ev.so x 12 a b) by rw [HSS.out,HDEF.out,tq,t0];rfl)
     go_wp2_with fail
     go_roundw
     case rel=>exact⟨m+1,vc2,true,by omega,by omega,by go_num,rfl,HVC2.out,rfl,HSO.out,HB6.out⟩
     case measure=>simp [intOf];omega
    have t0:decide (0≤p)=false:=decide_eq_false h0
    go_wp2_with fail
    refine(rat_is0 HP2.out _ (HYO.out.d2.kp (Ev.kp_below HB6.out))).mono ?_
    rintro q W8 ⟨rfl,rfl⟩
    by_cases h02:0≤p2
    ·have t02:decide (0≤p2)=true:=decide_eq_true h02
     have HSO:=qH (show true=(Ev.upTo a (m+1)).any (Ev.so x 12 a b) by rw [HSS.out,HDEF.out,tq,t0,t02];rfl)
     go_wp2_with fail
     go_roundw
     case rel=>exact⟨m+1,vc2,true,by omega,by omega,by go_num,rfl,HVC2.out,rfl,HSO.out,HB6.out⟩
     case measure=>simp [intOf];omega
    ·have t02:decide (0≤p2)=false:=decide_eq_false h02
     have HSO:=qH (show false=(Ev.upTo a (m+1)).any (Ev.so x 12 a b) by rw [HSS.out,HDEF.out,tq,t0,t02];rfl)
     go_wp2_with fail
     go_roundw
     case rel=>exact⟨m+1,vc2,false,by omega,by omega,by go_num,rfl,HVC2.out,rfl,HSO.out,HB6.out⟩
     case measure=>simp [intOf];omega
  ·have hmi:¬ (m:Int) < (b:Int):=by omega
   have HM:=qH (show m=b by omega)
   clear hmb
   have HRES:=qH (show Ev.ruleOf x 12 a b=vs by rw [Ev.rule12_is,HVS.out,HM.out])
   go_wp2_with fail
   go_ret
   exact⟨by rw [HRES.out];try rfl,B0.out.trans ((BR.out).mono B0.out.size)⟩
end Go.Proofs.YtnjnpbabgefaeaaGreat
end
section
namespace Go.Proofs.YtnjnpbabgefaeaaGreat
open Go.RowKit
theorem rule_13 (x:Ev.X) (a b:Nat) (ha:a < x.ev.length) (hb:b < x.ev.length) (hpo:Ev.isPo x a b=true) (hk1:(Ev.nth x.ev a).k≠4) (hk2:(Ev.nth x.ev b).k≠4) (w:World) (hin:Ev.XIn w x) :
 Calls Tryz.prog 65 #[Ev.exV x,.int .i64 13,.int .i64 (a:Int),.int .i64 (b:Int)] w fun e w'=>e=.returned (.bool (Ev.ruleOf x 13 a b))∧Below w.heap.size w w':=by
 have hl1:=hin.ev.le;have hl2:=hin.ev.max
 obtain⟨B,hB⟩:∃ B,B=w.alloc (Obj.cells (Ev.xcells x).toArray 26):=⟨_,rfl⟩
 have HB:=qH hB
 have B0:=qH (show Below w.heap.size w B by rw [hB];exact(Below.refl w.heap.size w).alloc (Nat.le_refl _) _)
 have HX:=qH (show Ev.XIn B x from hin.kp (Ev.kp_below B0.out))
 have RX:=qH (show B.heap[w.heap.size]?=some (.cells (Ev.xcells x).toArray 26 (0,0)) by rw [hB];exact heap_alloc_new _ _)
 obtain⟨e,he⟩:∃ e,x.ev[a]?=some e:=⟨_,List.getElem?_eq_getElem ha⟩
 obtain⟨f,hf⟩:∃ f,x.ev[b]?=some f:=⟨_,List.getElem?_eq_getElem hb⟩
 obtain⟨g,o,eg,hce⟩:=HX.out.ev.at_ he
 obtain⟨g',o',eg',hcf⟩:=HX.out.ev.at_ hf
 obtain⟨rfl,rfl⟩:g'=g∧o'=o:=by rw [eg] at eg';cases eg';exact⟨rfl,rfl⟩
 have HEO:=qH (HX.out.ev.ok_ he);have HFO:=qH (HX.out.ev.ok_ hf)
 have HE:=qH (Ev.nth_some he);have HF:=qH (Ev.nth_some hf)
 have HCE:=qH hce;have HCF:=qH hcf
 have hai:(a:Int) < (x.ev.length:Int):=by omega
 have hbi:(b:Int) < (x.ev.length:Int):=by omega
 have CX:=qH (show ∀ W,Below B.heap.size B W→W.cell? ⟨w.heap.size,0,none⟩=some (.slice (some ⟨g',o',none⟩) x.ev.length x.ce) from fun W h=>by
  rw [← eg];exact Ev.xcell0 ((h.block w.heap.size (qL RX.out)).trans RX.out))
 clear hin hB he hf eg eg' hce hcf
 have HPO:=qH hpo
 rw [HE.out] at hk1;rw [HF.out] at hk2
 have t1:(e.k==4)=false:=by simpa using hk1
 have t2:(f.k==4)=false:=by simpa using hk2
 clear hpo hk1 hk2
 obtain⟨bx0⟩:Nonempty (B.cell? ⟨w.heap.size,0,none⟩=some (.slice (some ⟨g',o',none⟩) x.ev.length x.ce)):=⟨CX.out B (Below.refl _ _)⟩
 unfold Ev.exV Ev.xcells
 go_enter Tryz.func65,Tryz.ntmps65
 go_wp2_with (first
  | ((with_reducible refine qG 16 ?_);(try rw [show w.alloc (Obj.cells #[Value.slice x.ae x.ev.length x.ce,Value.slice x.fr.a x.fr.l.length x.fr.c,Value.slice x.ao x.od.length x.co] 26)=B from HB.out.symm]);refine wpList_load_row rfl 26 (.tmp 4) rfl w.heap.size (by kernel_rfl) 26 (Ev.xcells x).toArray (0,0) _ RX.out Tryz.underlying26 rfl (by kernel_rfl) ?_))
 refine(rpo_is HPO.out ha hb _ HX.out).mono ?_
 rintro q W1 ⟨rfl,hb1⟩
 have B1:=qH hb1
 have cx:=CX.out W1 hb1
 have cek:W1.cell? ⟨g',o'+a * 13+1,none⟩=some (.int .i64 e.k):=Ev.kp_below hb1 _ _ (HCE.out 1 _ rfl)
 have cfk:W1.cell? ⟨g',o'+b * 13+1,none⟩=some (.int .i64 f.k):=Ev.kp_below hb1 _ _ (HCF.out 1 _ rfl)
 clear hb1 bx0
 go_wp2_with fail
 clear cek cfk
 have LA:=qH (fun (z:World) (hz:Og.Std W1 z)=>Ev.ld (w:=z) (g:=g') (o:=o'+a * 13) (x:=e) (fun i c hi=>Og.std_cell hz (Ev.kp_below B1.out _ _ (HCE.out i c hi))))
 have LF:=qH (fun (z:World) (hz:Og.Std W1 z)=>Ev.ld (w:=z) (g:=g') (o:=o'+b * 13) (x:=f) (fun i c hi=>Og.std_cell hz (Ev.kp_below B1.out _ _ (HCF.out i c hi))))
 refine wp_region_held (S:=Og.Std W1) (by kernel_rfl) ?_
 have S0:Og.Std W1 { W1 with drawn:=W1.drawn+1 }:=⟨rfl,rfl,rfl,Nat.le_refl _,fun _ _=>rfl⟩
 refine Og.held_take 0 _ (.pointer (some ⟨w.heap.size,0,none⟩)) _ rfl rfl (by kernel_rfl) (by kernel_rfl) (by kernel_rfl) (fun _ _ _ h=>h) S0 (fun z hz=>?_) (by simp only [Act.put,qa,qb,qc];rfl) ?_
 ·go_simp;try (with_reducible rfl)
 refine Og.held_take 1 _ (.slice (some ⟨g',o',none⟩) x.ev.length x.ce) _ rfl rfl (by kernel_rfl) (by kernel_rfl) (by kernel_rfl) (fun _ _ _ h=>h) S0 (fun z hz=>?_) (by simp only [Act.put,qa,qb,qc];rfl) ?_
 ·exact Og.load_run 22 (.tmp 39) rfl ⟨w.heap.size,0,none⟩ (by kernel_rfl) (run_load_slice Tryz.underlying22 (Og.std_cell hz cx))
 refine Og.held_take 2 _ (.int .i64 (a:Int)) _ rfl rfl (by kernel_rfl) (by kernel_rfl) (by kernel_rfl) (fun _ _ _ h=>h) S0 (fun z hz=>?_) (by simp only [Act.put,qa,qb,qc];rfl) ?_
 ·go_simp;try (with_reducible rfl)
 refine Og.held_take 3 _ (.pointer (some ⟨g',o'+a * 13,none⟩)) _ rfl rfl (by kernel_rfl) (by kernel_rfl) (by kernel_rfl) (fun _ _ _ h=>h) S0 (fun z hz=>?_) (by simp only [Act.put,qa,qb,qc];rfl) ?_
 ·go_simp;try (with_reducible rfl)
 refine Og.held_take 4 _ (.agg (Ev.cells e).toArray) _ rfl rfl (by kernel_rfl) (by kernel_rfl) (by kernel_rfl) (fun _ _ _ h=>h) S0 (fun z hz=>?_) (by simp only [Act.put,qa,qb,qc];rfl) ?_
 ·exact Og.load_run 48 (.tmp 42) rfl ⟨g',o'+a * 13,none⟩ (by kernel_rfl) (LA.out z hz)
 refine Og.held_take 5 _ (.pointer (some ⟨w.heap.size,0,none⟩)) _ rfl rfl (by kernel_rfl) (by kernel_rfl) (by kernel_rfl) (fun _ _ _ h=>h) S0 (fun z hz=>?_) (by simp only [Act.put,qa,qb,qc];rfl) ?_
 ·go_simp;try (with_reducible rfl)
 refine Og.held_take 6 _ (.slice (some ⟨g',o',none⟩) x.ev.length x.ce) _ rfl rfl (by kernel_rfl) (by kernel_rfl) (by kernel_rfl) (fun _ _ _ h=>h) S0 (fun z hz=>?_) (by simp only [Act.put,qa,qb,qc];rfl) ?_
 ·exact Og.load_run 22 (.tmp 44) rfl ⟨w.heap.size,0,none⟩ (by kernel_rfl) (run_load_slice Tryz.underlying22 (Og.std_cell hz cx))
 refine Og.held_take 7 _ (.int .i64 (b:Int)) _ rfl rfl (by kernel_rfl) (by kernel_rfl) (by kernel_rfl) (fun _ _ _ h=>h) S0 (fun z hz=>?_) (by simp only [Act.put,qa,qb,qc];rfl) ?_
 ·go_simp;try (with_reducible rfl)
 refine Og.held_take 8 _ (.pointer (some ⟨g',o'+b * 13,none⟩)) _ rfl rfl (by kernel_rfl) (by kernel_rfl) (by kernel_rfl) (fun _ _ _ h=>h) S0 (fun z hz=>?_) (by simp only [Act.put,qa,qb,qc];rfl) ?_
 ·go_simp;try (with_reducible rfl)
 refine Og.held_take 9 _ (.agg (Ev.cells f).toArray) _ rfl rfl (by kernel_rfl) (by kernel_rfl) (by kernel_rfl) (fun _ _ _ h=>h) S0 (fun z hz=>?_) (by simp only [Act.put,qa,qb,qc];rfl) ?_
 ·exact Og.load_run 48 (.tmp 47) rfl ⟨g',o'+b * 13,none⟩ (by kernel_rfl) (LF.out z hz)
 refine Og.four (p:=10) (q:=11) (s1:=12) (s2:=13) (dp:=9) (dq:=10) (x1:=43) (x2:=48) (T:=48) (Z:=(Ev.cells Ev.R0).toArray) (c1:=(Ev.cells e).toArray) (c2:=(Ev.cells f).toArray)
  ⟨⟨_,rfl,rfl,rfl,fun ρ w=>by kernel_rfl⟩,⟨_,rfl,rfl,rfl,fun ρ w=>by kernel_rfl⟩,⟨_,rfl,rfl,rfl,rfl⟩,⟨_,rfl,rfl,rfl,rfl⟩,(by kernel_rfl),(by kernel_rfl),(by kernel_rfl),(by kernel_rfl),(by kernel_rfl),(by kernel_rfl),(by kernel_rfl),(by kernel_rfl),(by kernel_rfl),(by kernel_rfl),(by kernel_rfl),of_decide_eq_true (by kernel_rfl),of_decide_eq_true (by kernel_rfl),(by decide),rfl,rfl,(by kernel_rfl),(by kernel_rfl),(by kernel_rfl),(by kernel_rfl)⟩ S0 ?_
 intro W g1 g2 HT
 simp only [Act.put,qa,qb,qc]
 have R1:=qH HT.r1;have R2:=qH HT.r2;have BW:=qH (B1.out.trans (HT.below.mono B1.out.size))
 clear HT S0 cx
 have c1a:W.cell? ⟨g1,2,none⟩=some (.int .u32 e.a):=by rw [qC R1.out];rfl
 have c2a:W.cell? ⟨g2,2,none⟩=some (.int .u32 f.a):=by rw [qC R2.out];rfl
 have HXW:=qH (HX.out.kp (Ev.kp_below BW.out))
 obtain⟨s2,hs2⟩:∃ s,Ev.stores f.k=s:=⟨_,rfl⟩
 obtain⟨l2,hl2⟩:∃ s,Ev.loads f.k=s:=⟨_,rfl⟩
 have HS2:=qH hs2;have HL2:=qH hl2
 clear hs2 hl2
 go_wp2
 go_loopw [12,13,14] (fun c s i wr=>∃ (m:Nat) (vc vs:Bool),a+1≤m∧m≤b∧i=.int .i64 (m:Int)∧c=.bool vc∧vc=(Ev.upTo a m).all (Ev.cl x a)∧s=.bool vs∧vs=((Ev.upTo a m).any (Ev.so x 13 a b))∧Below W.heap.size W wr) (fun _ _ i _=>b - (intOf i).toNat)
 case atStart=>exact⟨a+1,true,false,Nat.le_refl _,by have:=Ev.po_lt HPO.out;omega,by go_num,rfl,by rw [Ev.upTo_zero];rfl,rfl,by first | rfl | (rw [Ev.upTo_zero];rfl),Below.refl _ _⟩
 case round =>
  obtain⟨m,vc,vs,ham,hmb,rfl,rfl,hvc,rfl,hvs,hbr⟩:=hrel
  have HVC:=qH hvc;have HVS:=qH hvs;have HBR:=qH hbr
  have BR:=qH (BW.out.trans (hbr.mono BW.out.size))
  have cx2:=CX.out wr BR.out
  have R1r:=qH ((hbr.block g1 (qL R1.out)).trans R1.out)
  have R2r:=qH ((hbr.block g2 (qL R2.out)).trans R2.out)
  clear hvc hvs hbr c1a c2a
  by_cases hlt:m < b
  ·have hmi:(m:Int) < (b:Int):=by omega
   have hml:(m:Int) < (x.ev.length:Int):=by omega
   obtain⟨y,hy⟩:∃ y,x.ev[m]?=some y:=⟨_,List.getElem?_eq_getElem (by omega)⟩
   obtain⟨g3,o3,eg3,hcy⟩:=(HXW.out.ev.kp (Ev.kp_below HBR.out)).at_ hy
   obtain⟨rfl,rfl⟩:g3=g'∧o3=o':=by
    have e1:=CX.out B (Below.refl _ _)
    rw [Ev.xcell0 RX.out] at e1
    have e2:x.ae=some ⟨g',o',none⟩:=by injection e1 with e1;injection e1
    rw [eg3] at e2;cases e2;exact⟨rfl,rfl⟩
   have HCY:=qH hcy;have HY:=qH (Ev.nth_some hy)
   have HYO:=qH (HXW.out.ev.ok_ hy)
   clear hy eg3 hcy
   have HCL:=qH (show Ev.cl x a m=!(Ev.stores y.k&&y.a==e.a) by unfold Ev.cl;rw [HY.out,HE.out])
   obtain⟨sy,hsy⟩:∃ s,Ev.stores y.k=s:=⟨_,rfl⟩
   have HSY:=qH hsy
   rw [hsy] at HCL
   clear hsy
   go_upto_region 29 with (first
    | ((with_reducible refine qG 144 ?_);refine wpList_load_at rfl 48 (.tmp 143) rfl g3 (o3+m * 13) (by kernel_rfl) (Ev.cells y) _ HCY.out Tryz.underlying48 rfl (by kernel_rfl) ?_)
    | ((with_reducible show wpList _ _ _ (Oper.mk none (Op.store 48 (Operand.tmp 15) _) _ _ _ _ :: _) _ _);refine wpList_store_own rfl 48 (.tmp 15) (.tmp 144) rfl wr.heap.size (Ev.cells y).toArray rfl rfl 48 (Ev.cells Ev.R0).toArray (heap_alloc_new _ _) (by kernel_rfl) (by kernel_rfl) (by kernel_rfl) ?_
       intro W3 HW
       have BY:=qH (((Below.refl wr.heap.size wr).alloc (Nat.le_refl _) _).trans HW.below)
       have RY:=qH HW.row
       clear HW))
   have HBR3:=qH (HBR.out.trans (BY.out.mono HBR.out.size))
   have R13:=qH ((BY.out.block g1 (qL R1r.out)).trans R1r.out)
   have R23:=qH ((BY.out.block g2 (qL R2r.out)).trans R2r.out)
   clear cx2
   simp only [Act.put]
   go_cut [12] (fun c wx=>c=.bool (vc&&Ev.cl x a m)∧Below W3.heap.size W3 wx)
   case first =>
    have ya:W3.cell? ⟨wr.heap.size,2,none⟩=some (.int .u32 y.a):=by rw [qC RY.out];rfl
    have ea:W3.cell? ⟨g1,2,none⟩=some (.int .u32 e.a):=by rw [qC R13.out];rfl
    cases vc
    ·go_wp2_with fail
     go_meet
     case rel=>exact⟨rfl,Below.refl _ _⟩
    go_wp2_with ((with_reducible refine qG 147 ?_);refine Ev.load_row_g 48 (.tmp 15) rfl rfl wr.heap.size (by kernel_rfl) 48 (Ev.cells y).toArray (0,0) _ RY.out Tryz.underlying48 rfl (by kernel_rfl) ?_)
    refine(rstores_is HSY.out _).mono ?_
    rintro q W4 ⟨rfl,hb4⟩
    have B4:=qH hb4
    have ya4:=Ev.kp_below hb4 _ _ ya;have ea4:=Ev.kp_below hb4 _ _ ea
    clear hb4 ya ea
    cases sy
    ·go_wp2_with fail
     go_meet
     case rel=>exact⟨by rw [HCL.out];rfl,B4.out⟩
    by_cases hq:y.a=e.a
    ·have tq:(y.a==e.a)=true:=by simpa using hq
     clear hq
     go_wp2_with fail
     go_meet
     case rel=>exact⟨by rw [HCL.out,tq];rfl,B4.out⟩
    ·have tq:(y.a==e.a)=false:=by simpa using hq
     clear hq
     go_wp2_with fail
     go_meet
     case rel=>exact⟨by rw [HCL.out,tq];rfl,B4.out⟩
   case rest =>
    obtain⟨rfl,hbc⟩:=hcut
    have HBC:=qH (HBR3.out.trans (hbc.mono HBR3.out.size))
    have RYc:=qH ((hbc.block wr.heap.size (qL RY.out)).trans RY.out)
    have R1c:=qH ((hbc.block g1 (qL R13.out)).trans R13.out)
    have R2c:=qH ((hbc.block g2 (qL R23.out)).trans R23.out)
    have BC:=qH (BW.out.trans (HBC.out.mono BW.out.size))
    have HVC2:=qH (show(vc&&Ev.cl x a m)=(Ev.upTo a (m+1)).all (Ev.cl x a) by rw [Ev.all_succ ham,HVC.out])
    obtain⟨vc2,hvc2⟩:∃ v,(vc&&Ev.cl x a m)=v:=⟨_,rfl⟩
    rw [hvc2] at HVC2 ⊢
    clear hbc hvc2
    have HSS:=qH (show(Ev.upTo a (m+1)).any (Ev.so x 13 a b)=(vs||Ev.so x 13 a b m) by rw [Ev.any_succ ham,← HVS.out])
    obtain⟨p,hp⟩:∃ p,Ev.at_ y.d1.l (a:Int)=p:=⟨_,rfl⟩
    have HP:=qH hp
    have HDEF:=qH (show Ev.so x 13 a b m=(s2&&decide (0≤p)) by show(Ev.stores (Ev.nth x.ev b).k&&decide (0≤Ev.at_ (Ev.nth x.ev m).d1.l (a:Int)))=_;rw [HF.out,HY.out,HS2.out,hp])
    clear hp
    cases vs
    case true =>
     have HSO:=qH (show true=(Ev.upTo a (m+1)).any (Ev.so x 13 a b) by rw [HSS.out];rfl)
     go_wp2_with fail
     go_roundw
     case rel=>exact⟨m+1,vc2,true,by omega,by omega,by go_num,rfl,HVC2.out,rfl,HSO.out,HBC.out⟩
     case measure=>simp [intOf];omega
    go_wp2_with ((with_reducible refine qG 221 ?_);refine Ev.load_row_g 48 (.tmp 10) rfl rfl g2 (by kernel_rfl) 48 (Ev.cells f).toArray (0,0) _ R2c.out Tryz.underlying48 rfl (by kernel_rfl) ?_)
    refine(rstores_is HS2.out _).mono ?_
    rintro q W5 ⟨rfl,hb5⟩
    have HB5:=qH (HBC.out.trans (hb5.mono HBC.out.size))
    have cd:W5.cell? ⟨wr.heap.size,10,none⟩=some (.slice y.d1.a y.d1.l.length y.d1.c):=by rw [qC ((hb5.block _ (qL RYc.out)).trans RYc.out)];rfl
    have B5:=qH (BW.out.trans (HB5.out.mono BW.out.size))
    clear hb5
    cases s2
    case false =>
     have HSO:=qH (show false=(Ev.upTo a (m+1)).any (Ev.so x 13 a b) by rw [HSS.out,HDEF.out];rfl)
     go_wp2_with fail
     go_roundw
     case rel=>exact⟨m+1,vc2,false,by omega,by omega,by go_num,rfl,HVC2.out,rfl,HSO.out,HB5.out⟩
     case measure=>simp [intOf];omega
    go_wp2_with fail
    refine(rat_is0 HP.out _ (HYO.out.d1.kp (Ev.kp_below HB5.out))).mono ?_
    rintro q W6 ⟨rfl,rfl⟩
    have HSO:=qH (show decide (0≤p)=(Ev.upTo a (m+1)).any (Ev.so x 13 a b) by rw [HSS.out,HDEF.out];simp)
    obtain⟨vp,hvp⟩:∃ v,decide (0≤p)=v:=⟨_,rfl⟩
    rw [hvp] at HSO
    have hvp':=hvp
    go_wp2_with fail
    go_roundw
    case rel=>exact⟨m+1,vc2,vp,by omega,by omega,by go_num,rfl,HVC2.out,rfl,HSO.out,HB5.out⟩
    case measure=>simp [intOf];omega
  ·have hmi:¬ (m:Int) < (b:Int):=by omega
   have HM:=qH (show m=b by omega)
   clear hmb
   have HRES:=qH (show Ev.ruleOf x 13 a b=vs by rw [Ev.rule13_is,HVS.out,HM.out])
   go_wp2_with fail
   go_ret
   exact⟨by rw [HRES.out];try rfl,B0.out.trans ((BR.out).mono B0.out.size)⟩
end Go.Proofs.YtnjnpbabgefaeaaGreat
end
