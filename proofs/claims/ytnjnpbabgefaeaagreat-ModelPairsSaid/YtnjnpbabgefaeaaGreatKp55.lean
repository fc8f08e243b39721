import Derived.Test.YtnjnpbabgefaeaaGreatKp54
import Derived.Test.YtnjnpbabgefaeaaGreatKpH
set_option maxRecDepth 100000
set_option maxHeartbeats 16000000
set_option linter.unusedVariables false
set_option linter.unusedSimpArgs false
section
namespace Go.Proofs.YtnjnpbabgefaeaaGreat.modelPairs
open Go.ChangeShapes Go.WideShapes Go.ChangeAt Go.RowKit
theorem walk (w:World) (a0:Int) (w0:(Lit.int .u8 a0).wf=true) (a1:Int) (w1:(Lit.int .u8 a1).wf=true) (a2:Int) (w2:(Lit.int .u8 a2).wf=true) :
 Calls Tryz.prog 10 #[.int .u8 a0,.int .u8 a1,.int .u8 a2] w fun e w'=>e=.returned (.bool true)∧Below w.heap.size w w':=by
 have hw0:=u8_le w0;have hw1:=u8_le w1;have hw2:=u8_le w2
 obtain⟨i0,hi,hz0,hz1,hz2⟩:=info_int
 have HI:=qH hi;have HZ0:=qH hz0;have HZ1:=qH hz1;have HZ2:=qH hz2
 obtain⟨ie,hie,hye,hse,hbe⟩:=pr_info_event
 have IE:=qH hie;have IY:=qH hye;have IS:=qH hse;have IB:=qH hbe
 obtain⟨nn,hnn⟩:∃ nn:Nat,a0 % 5=(nn:Int):=⟨(a0 % 5).toNat,by omega⟩
 have hn4:nn≤4:=by omega
 obtain⟨aa,haa⟩:∃ aa:Nat,1+a1 % ((nn:Int)+1)=(aa:Int):=⟨(1+a1 % ((nn:Int)+1)).toNat,by have:=Int.emod_nonneg a1 (show(nn:Int)+1≠0 by omega);omega⟩
 have ha1:0 < aa∧aa≤nn+1:=by
  have h1:=Int.emod_nonneg a1 (show(nn:Int)+1≠0 by omega)
  have h2:=Int.emod_lt_of_pos a1 (show(0:Int) < (nn:Int)+1 by omega)
  omega
 have HNN:=qH hnn;have HAA:=qH haa;have HA1:=qH ha1;have HN4:=qH hn4
 have hst:∀ W,W=((((w.alloc (.cells ((Md.prE 0 0).map Ev.cells).flatten.toArray 48)).alloc (.cells #[.int .i64 (-1),.int .i64 0,.int .i64 (-1)] 3)).alloc (.cells (Ev.xcells (Md.prX0 w.heap.size)).toArray 26)).alloc (.cells #[.int .i64 0] 3))→Md.PrI w W (w.heap.size+1+1) (Md.prX0 w.heap.size) (.slice (some ⟨w.heap.size+1+1+1,0,none⟩) 1 1) (Md.prL 1 0):=fun W e=>Md.pr_start e
 have HST:=qH hst
 have h00:=hw0.1;have h10:=hw1.1;have h11:=hw1.2
 have hnz:¬ (nn:Int)+1=0:=by omega
 have HW2:=qH hw2;have HW0:=qH w0;have HW1:=qH w1
 clear hi hz0 hz1 hz2 hie hye hse hbe hst hnn haa ha1 hw0 hw1 hw2 w0 w1
 go_enter Tryz.func10,Tryz.ntmps10
 go_wp2_with ((with_reducible refine qG 19 ?_);rw [HNN.out])
 rw [show wrap64 (1+a1 % ((nn:Int)+1))=(aa:Int) by rw [HAA.out];have:=HA1.out;unfold wrap64;omega]
 clear h00 h10 h11 hnz
 go_loopw [9,11] (fun lv iv wr=>∃ (i:Nat) (x:Ev.X),i≤nn∧iv=.int .i64 (i:Int)∧Md.PrI w wr (w.heap.size+1+1) x lv (Md.prL aa i)∧x.ev=Md.prE 0 i∧x.fr.l=Md.prF 0 i∧x.ao=none∧x.co=0) (fun _ iv _=>nn - (intOf iv).toNat)
 case atStart=>exact⟨0,Md.prX0 w.heap.size,Nat.zero_le _,rfl,HST.out _ rfl,rfl,rfl,rfl,rfl⟩
 case round =>
  clear HST
  obtain⟨i,x,hi,rfl,hp,hev,hfr,hao,hco⟩:=hrel
  obtain⟨al,cl,hal⟩:=Md.IntRow.form hp.row
  obtain⟨ln,hln⟩:∃ ln,(Md.prL aa i).length=ln:=⟨_,rfl⟩
  rw [hln] at hal
  subst hal
  have HLN:=qH hln;have HP0:=qH hp;have HEV:=qH hev;have HFR:=qH hfr;have HAO:=qH hao;have HCO:=qH hco
  have HL6:=qH (show ln≤6 by rw [← hln,Md.prL_len HA1.out.1];have:=HN4.out;split <;> omega)
  have NX:=qH (show x.ev.length≤7 by rw [hev,Md.prE_len];have:=HN4.out;omega)
  have NF:=qH (show x.fr.l.length≤7 by rw [hfr,Md.prF_len];have:=HN4.out;omega)
  have hi4:i≤4:=Nat.le_trans hi HN4.out
  clear hln hp hev hfr hao hco
  by_cases hlt:i < nn
  case neg =>
   have hii:¬ (i:Int) < (nn:Int):=by omega
   obtain rfl:i=nn:=by omega
   have HO1:=qH (show ln=if i < aa then i+1 else i+2 by rw [← HLN.out];exact Md.prL_len HA1.out.1 i)
   obtain⟨jj,hjj⟩:∃ jj:Nat,a2 % ((i:Int)+2)=(jj:Int):=⟨(a2 % ((i:Int)+2)).toNat,by have:=Int.emod_nonneg a2 (show(i:Int)+2≠0 by omega);omega⟩
   have hjl:jj < i+2:=by have:=Int.emod_lt_of_pos a2 (show(0:Int) < (i:Int)+2 by omega);omega
   have HJJ:=qH hjj;have HJL:=qH hjl
   clear hjj hjl
   have HOL:=qH (show(Md.prO i aa).length=i+2 from Md.prO_len HA1.out.1 HA1.out.2)
   by_cases hq:i < aa
   case' pos =>
    have hl1:ln=i+1:=by rw [HO1.out,if_pos hq]
    have hlt2:(ln:Int) < (i:Int)+2:=by omega
    have HOO:=qH (show Md.prL aa i++[2]=Md.prO i aa by unfold Md.prO;rw [if_pos (by rw [HLN.out];omega)])
    have HB1:=qH (show(Md.prL aa i).length≤8 by rw [HLN.out];have:=HL6.out;omega)
    clear hq
    go_wp2_with (first
     | ((with_reducible refine qG 71 ?_);refine wpList_append_own_at _ rfl (.tmp 69) (.tmp 70) 23 rfl w.heap.size 3 i0 (.int .i64 0) 1 8 Tryz.underlying23 HI.out HZ0.out HZ1.out HZ2.out rfl (by decide) _ _ _ rfl (Ev.row_kp HP0.out.row ((Below.refl _ _).alloc (Nat.le_refl _) _)) ⟨_,0,none⟩ 1 1 [.int .i64 2] rfl rfl (World.news_of_block (heap_alloc_new _ _)) (nv_one' _) (by have:=HB1.out;unfold maxLen;omega) (by have:=HB1.out;omega) (by have:=HP0.out.lay.bel.size;simp only [World.size_alloc];omega) ?_
        intro v1 W1 hown hgrow _ hat
        have P1:=qH (Md.PrI.pushL (k:=2) HP0.out (Md.fl_row (k:=2) (by exact hown)) hgrow hat)
        clear hown hgrow hat)
     | ((with_reducible refine qG 73 ?_);refine Og.Halt.out ?_))
    have p1:=P1.out
    rw [HOO.out] at p1
    obtain⟨a1',c1',e1'⟩:=Md.IntRow.form p1.row
    rw [HOL.out] at e1'
    subst e1'
    obtain⟨b1,rfl⟩:∃ b:Option Addr,b=a1':=⟨_,rfl⟩
    obtain⟨d1,rfl⟩:∃ b:Nat,b=c1':=⟨_,rfl⟩
    clear P1 HB1 hlt2 hl1
   case' neg =>
    have hl1:ln=i+2:=by rw [HO1.out,if_neg hq]
    have hlt2:¬ (ln:Int) < (i:Int)+2:=by omega
    have HOO:=qH (show Md.prL aa i=Md.prO i aa by unfold Md.prO;rw [if_neg (by rw [HLN.out];omega)])
    clear hq
    go_wp2_with ((with_reducible refine qG 73 ?_);refine Og.Halt.out ?_)
    have p1:=HP0.out
    rw [HOO.out,hl1] at p1
    obtain⟨W1,rfl⟩:∃ W1:World,W1=wr:=⟨_,rfl⟩
    obtain⟨b1,rfl⟩:∃ b:Option Addr,b=al:=⟨_,rfl⟩
    obtain⟨d1,rfl⟩:∃ b:Nat,b=cl:=⟨_,rfl⟩
    clear hlt2 hl1
   all_goals
    obtain⟨g1,hb1,hg11,hg12⟩:=Md.prow_addr p1.row (by rw [HOL.out];omega)
    subst hb1
    obtain⟨U,hU⟩:∃ U,U=W1.alloc (.cells #[.slice (some ⟨g1,0,none⟩) (i+2) d1] 23):=⟨_,rfl⟩
    have hbU:Below W1.heap.size W1 U:=by rw [hU];exact(Below.refl _ _).alloc (Nat.le_refl _) _
    have pU:=p1.kp hbU
    have kU:=Ev.xcell2 pU.lay.box
    rw [HAO.out,HCO.out,pU.od] at kU
    have fU:=Ev.box_free (i:=2) pU.lay.box
    obtain⟨W6,hW6⟩:∃ W6,W6=U.setCell ⟨w.heap.size+1+1,2,none⟩ (.slice (some ⟨W1.heap.size,0,none⟩) 1 1):=⟨_,rfl⟩
    have l6:Ev.Lay w W6 (w.heap.size+1+1) ⟨x.ae,x.ce,x.ev,x.fr,some ⟨W1.heap.size,0,none⟩,1,[⟨(some ⟨g1,0,none⟩),d1,Md.cI (Md.prO i aa)⟩]⟩:=by
     rw [hW6,hU];exact p1.close (by rw [HOL.out]) (fun q hq=>by have:=Md.prO_mem q hq;have:=HN4.out;omega)
    have HU:=qH hU;have HW6:=qH hW6;have L6:=qH l6
    obtain⟨qv,hqv⟩:∃ qv,(Md.prO i aa)[jj]?=some qv:=⟨_,List.getElem?_eq_getElem (by rw [HOL.out];exact HJL.out)⟩
    have HQM:=qH (Md.prO_mem qv (List.mem_of_getElem? hqv))
    have hix:=Md.IntRow.ints (Md.PrI.row p1) (fun q hq=>by have:=Md.prO_mem q hq;have:=HN4.out;omega)
    have kq:W6.cell? ⟨g1,jj,none⟩=some (.int .i64 (qv:Int)):=by
     obtain⟨g',o',e',hc'⟩:=(l6.xin.od.ok ⟨some ⟨g1,0,none⟩,d1,Md.cI (Md.prO i aa)⟩ (by simp)).at_ (k:=jj) (v:=(qv:Int)) (by show(Md.cI (Md.prO i aa))[jj]?=_;unfold Md.cI;rw [List.getElem?_map,hqv];rfl)
     have e2:g1=g'∧0=o':=by
      injection e' with e1
      injection e1 with e1 e2
      exact⟨e1,e2⟩
     obtain⟨rfl,rfl⟩:=e2
     simpa using hc'
    have HKQ:=qH kq
    have h20:0≤a2:=HW2.out.1
    have h21:a2≤255:=HW2.out.2
    have hnz2:¬ (i:Int)+2=0:=by omega
    have hjb:(jj:Int) < (i:Int)+2:=by have:=HJL.out;omega
    clear hU hbU pU hW6 l6 hix kq hqv p1
    refine⟨?_⟩
    go_wp2_with (first
     | ((with_reducible refine qG 74 ?_);rw [← HU.out])
     | ((with_reducible refine qG 79 ?_);rw [show U.setCell ⟨w.heap.size+1+1,2,none⟩ (.slice (some ⟨W1.heap.size,0,none⟩) 1 1)=W6 from HW6.out.symm];have kq:=HKQ.out)
     | ((with_reducible refine qG 81 ?_);rw [HJJ.out])
     | ((with_reducible refine qG 84 ?_);refine Og.Halt.out ?_))
    refine⟨?_⟩
    have hgf0:=L6.out.frSome (by show 0 < x.fr.l.length;rw [HFR.out,Md.prF_len];omega)
    obtain⟨gf,hgf⟩:=hgf0
    have hge0:=L6.out.evSome (by show 0 < x.ev.length;rw [HEV.out,Md.prE_len];omega)
    obtain⟨ge,hge⟩:=hge0
    have hgf:x.fr.a=some ⟨gf,0,none⟩:=hgf
    have hge:x.ae=some ⟨ge,0,none⟩:=hge
    have HGF:=qH hgf;have HGE:=qH hge
    have kf1:=Ev.xcell1 L6.out.box
    have kf1:W6.cell? ⟨w.heap.size+1+1,1,none⟩=some (.slice x.fr.a x.fr.l.length x.fr.c):=kf1
    rw [hgf] at kf1
    have hc1:=L6.out.frCell (k:=1) (v:=0) hgf (by show x.fr.l[1]?=_;rw [HFR.out];rfl)
    have hc11:=hc1.1;have hc12:=hc1.2
    have hfl1:(1:Int) < (x.fr.l.length:Int):=by rw [HFR.out,Md.prF_len];omega
    have hel1:(1:Int) < (x.ev.length:Int):=by rw [HEV.out,Md.prE_len];omega
    have HEL:=qH (show x.ev.length=3+i by rw [HEV.out,Md.prE_len])
    clear hgf hge hc1 h20 h21 hnz2 hjb
    by_cases hq2:qv=2
    ·have te2:((qv:Int)==2)=true:=by rw [hq2];rfl
     have HFQ:=qH (show 0=0∨(3≤0∧0 < 3+i) by exact .inl rfl)
     have HFN:=qH (show 0 < x.ev.length by rw [HEL.out];have:=HFQ.out;omega)
     have HFI2:=qH (show Ev.i64B 0 by have:=HFN.out;have:=NX.out;unfold Ev.i64B;omega)
     obtain⟨W7,hW7⟩:∃ W7,W7=W6.setCell ⟨gf,1,none⟩ (.int .i64 0):=⟨_,rfl⟩
     have l7:=L6.out.setFr (k:=1) HGF.out HFI2.out
     rw [← hW7] at l7
     have HW7:=qH hW7;have L7:=qH l7
     have ke:=Ev.xcell0 L7.out.box
     have ke:W7.cell? ⟨w.heap.size+1+1,0,none⟩=some (.slice x.ae x.ev.length x.ce):=ke
     rw [HGE.out] at ke
     obtain⟨yf,hyf,hyv⟩:=Md.prE_at (r:=0) HFQ.out
     have kv:=(L7.out.evCell (k:=0) (i:=3) (y:=yf) (v:=.int .u32 (Md.prV 0)) HGE.out (by show x.ev[0]?=_;rw [HEV.out];exact hyf) (by rw [← hyv];rfl)).1
     have kv:W7.cell? ⟨ge,3,none⟩=some (.int .u32 (Md.prV 0)):=kv
     have k17:=L7.out.evCell (k:=1) (i:=4) (y:=Md.lrE 0) (v:=.int .u32 0) HGE.out (by show x.ev[1]?=_;rw [HEV.out];rfl) rfl
     have k171:=k17.1;have k172:=k17.2
     have KE:=qH ke;have KV:=qH kv;have K171:=qH k171;have K172:=qH k172
     have hfnl:0 < (x.ev.length:Int):=by have:=HFN.out;omega
     have hfn0:0 < x.ev.length:=HFN.out
     have hfn1:¬ x.ev.length=0:=by omega
     clear hq2 hW7 l7 ke kv k17 k171 k172 hyf hyv
     go_wp2_with fail
     rw [← HW7.out]
     have ke:=KE.out;have kv:=KV.out;have k171:=K171.out;have k172:=K172.out
     go_still_tail 10,(by kernel_rfl)
     change wpList _ _ _ _ _ (W7.drewN 1)
     clear ke kv k171 k172
     obtain⟨Q,hQ⟩:∃ Q,Q=W7.drewN 1:=⟨_,rfl⟩
     rw [← hQ]
     have lq:=L7.out.kp (show Below W7.heap.size W7 Q by rw [hQ];exact below_drewN (Below.refl _ _) 1)
     have kq1:=lq.evCell (k:=1) (i:=4) (y:=Md.lrE 0) (v:=.int .u32 0) HGE.out (by show x.ev[1]?=_;rw [HEV.out];rfl) rfl
     have kq11:=kq1.1;have kq12:=kq1.2
     obtain⟨W8,hW8⟩:∃ W8,W8=Q.setCell ⟨ge,17,none⟩ (.int .u32 (Md.prV 0)):=⟨_,rfl⟩
     obtain⟨X8,hX8⟩:∃ X8,X8=Md.prX x.ae x.ce x.fr.a x.fr.c (some ⟨W1.heap.size,0,none⟩) 1 (some ⟨g1,0,none⟩) d1 i aa 0:=⟨_,rfl⟩
     have l8:Ev.Lay w W8 (w.heap.size+1+1) X8:=by
      have h:=lq.setEv (k:=1) (i:=4) (y:=Md.lrE 0) (y':=Md.lrE (Md.prV 0)) (v:=.int .u32 (Md.prV 0)) HGE.out (by show x.ev[1]?=_;rw [HEV.out];rfl) (by decide) rfl (fun V=>Md.prE_ok (Md.prV_u32 (f:=0) (.inl rfl) HN4.out) i HN4.out _ (List.mem_of_getElem? (Md.prE_one _ i)) V)
      rw [hW8,hX8]
      have h2:Ev.Lay w (Q.setCell ⟨ge,17,none⟩ (.int .u32 (Md.prV 0))) (w.heap.size+1+1) ⟨x.ae,x.ce,x.ev.set 1 (Md.lrE (Md.prV 0)),⟨x.fr.a,x.fr.c,x.fr.l.set 1 0⟩,some ⟨W1.heap.size,0,none⟩,1,[⟨some ⟨g1,0,none⟩,d1,Md.cI (Md.prO i aa)⟩]⟩:=h
      rw [HEV.out,HFR.out,Md.prE_set,Md.prF_set] at h2
      exact h2
     have HC8:=qH (show Ev.check X8=0 by rw [hX8];exact Md.prX_check HN4.out HA1.out.1 HA1.out.2 (.inl rfl))
     have HMV:=qH (show(X8.ev.filter fun r=>decide (r.k < 4)).length=i+2 by rw [hX8];exact Md.prE_mv _ i)
     have HN8:=qH (show X8.ev.length≤1000 by rw [hX8];show(Md.prE _ i).length≤1000;rw [Md.prE_len];omega)
     have HW8:=qH hW8
     have B8:=qH l8.bel;have R8:=qH l8.box;have I8:=qH l8.xin
     clear hQ lq kq1 hW8 hX8 l8
     go_wp2_with (first
      | ((with_reducible refine qG 100 ?_);rw [show Q.setCell ⟨ge,17,none⟩ (.int .u32 (Md.prV 0))=W8 from HW8.out.symm])
      | ((with_reducible refine qG 100 ?_);refine wpList_load_row rfl 26 (.tmp 8) rfl (w.heap.size+1+1) (by kernel_rfl) 26 (Ev.xcells X8).toArray (0,0) _ R8.out Tryz.underlying26 rfl (by kernel_rfl) ?_))
     refine(judge_any X8 W8 I8.out).mono ?_
     rintro e W9 ⟨hb,(⟨hc,_⟩ | ⟨_,b1,b2,b3,rfl,k1,k2,k3⟩)⟩
     ·exact absurd HC8.out hc
     have B9:=qH (B8.out.trans (hb.mono B8.out.size))
     have R9:=qH ((hb.block _ (qL R8.out)).trans R8.out)
     have I9:=qH (I8.out.kp (Ev.kp_below hb))
     have K1:=qH k1;have K2:=qH k2;have K3:=qH k3
     obtain⟨gv,hgv⟩:∃ g,g=W9.heap.size:=⟨_,rfl⟩
     obtain⟨V,hV⟩:∃ V,V=W9.alloc (.cells #[.bool b1,.bool b2,.bool b3] 34):=⟨_,rfl⟩
     have hbu:Below W9.heap.size W9 V:=by rw [hV];exact(Below.refl _ _).alloc (Nat.le_refl _) _
     have BV:=qH (B9.out.trans (hbu.mono B9.out.size))
     have RV:=qH ((hbu.block _ (qL R9.out)).trans R9.out)
     have IV:=qH (I9.out.kp (Ev.kp_below hbu))
     have VV:=qH (show V.heap[gv]?=some (.cells #[.bool b1,.bool b2,.bool b3] 34 (0,0)) by rw [hV,hgv];exact heap_alloc_new _ _)
     have HV:=qH hV;have HGV:=qH hgv
     clear hb k1 k2 k3 hgv hV hbu
     go_wp2_with (first
      | ((with_reducible refine qG 105 ?_);rw [← HV.out,← HGV.out])
      | ((with_reducible refine qG 105 ?_);refine wpList_load_row rfl 26 (.tmp 8) rfl (w.heap.size+1+1) (by kernel_rfl) 26 (Ev.xcells X8).toArray (0,0) _ RV.out Tryz.underlying26 rfl (by kernel_rfl) ?_))
     refine(allowed_any X8 V IV.out).mono ?_
     rintro e WE ⟨hb,(⟨hc,_⟩ | ⟨_,b4,rfl,k4⟩)⟩
     ·exact absurd HC8.out hc
     have BE:=qH (BV.out.trans (hb.mono BV.out.size))
     have RE:=qH ((hb.block _ (qL RV.out)).trans RV.out)
     have VE:=qH ((hb.block _ (qL VV.out)).trans VV.out)
     have IE8:=qH (IV.out.kp (Ev.kp_below hb))
     have HAX:=qH (show(Md.atomB X8&&Md.byOrd X8)=b4 from Md.same_bool ((Md.allow_ax HC8.out).symm.trans (Md.all3_allow HC8.out).symm) k4)
     have H3:=qH (show Md.atomB X8=b3 by rw [← Md.atom_eq HC8.out,K3.out])
     clear hb k4
     have LX:=qH (fun z:Og.On WE.heap.size WE=>Og.rowB (P:=Tryz.prog) z 26 _ RE.out Tryz.underlying26 rfl (by kernel_rfl))
     have XI:=qH (fun z:Og.On WE.heap.size WE=>IE8.out.kp (Ev.kp_below z.b))
     have AT3:=qH (fun (W:World) (h:Ev.XIn W X8)=>(show Calls Tryz.prog 20 #[.agg (Ev.xcells X8).toArray] W fun e w'=>e=.returned (.bool b3)∧Below W.heap.size W w' by have:=ratomic_any X8 W h HC8.out;rw [H3.out] at this;exact this))
     have CO1:=qH (fun (W:World) (h:Ev.XIn W X8)=>show Calls Tryz.prog 18 #[.agg (Ev.xcells X8).toArray] W fun e w'=>e=.returned (.bool b1)∧Below W.heap.size W w' from (rcoherent_any X8 W h HC8.out).mono fun e w' h=>Md.bool_is K1.out h)
     have MVI:=qH (fun (W:World) (h:Ev.XIn W X8)=>(show Calls Tryz.prog 13 #[.agg (Ev.xcells X8).toArray] W fun e w'=>e=.returned (.int .i64 ((i:Int)+2))∧Below W.heap.size W w' by have:=rmoving_is X8 W HN8.out h;rw [HMV.out] at this;exact this))
     have BYA:=qH (fun (W:World) (h:Ev.XIn W X8)=>(show Calls Tryz.prog 16 #[.agg (Ev.xcells X8).toArray] W fun e w'=>e=.returned (.bool b4)∧Below W.heap.size W w' by have:=rbyax_any X8 HC8.out W h;rw [HAX.out] at this;exact this))
     have v0:∀ z:Og.On WE.heap.size WE,z.x.cell? ⟨gv,0,none⟩=some (.bool b1):=fun z=>Og.cellB z (by rw [qC VE.out];rfl)
     have v2:∀ z:Og.On WE.heap.size WE,z.x.cell? ⟨gv,2,none⟩=some (.bool b3):=fun z=>Og.cellB z (by rw [qC VE.out];rfl)
     by_cases h5:(5:Int) < (i:Int)+2
     ·have t5:decide ((5:Int) < (i:Int)+2)=true:=decide_eq_true h5
      go_wp2_with fail
      refine Og.regionB (by kernel_rfl) (by kernel_rfl) ?_
      repeat (first
       | go_big_quiet_skip
       | (go_big_quiet_want
          first
         | ((with_reducible show Oper.quiet _ (Oper.mk (some 109) _ _ _ _ _) _ _ _);refine Og.quiet_load 26 (.tmp 8) rfl (.agg (Ev.xcells X8).toArray) ⟨w.heap.size+1+1,0,none⟩ _ rfl (by rintro _ ⟨z,rfl⟩;exact LX.out z) (by simp only [Act.put,qa,qb,qc];rfl) ?_
            go_big_quiet_on)
         | ((with_reducible show Oper.quiet _ (Oper.mk (some 123) _ _ _ _ _) _ _ _);refine Og.quiet_load 26 (.tmp 8) rfl (.agg (Ev.xcells X8).toArray) ⟨w.heap.size+1+1,0,none⟩ _ rfl (by rintro _ ⟨z,rfl⟩;exact LX.out z) (by simp only [Act.put,qa,qb,qc];rfl) ?_
            go_big_quiet_on)
         | ((with_reducible show Oper.quiet _ (Oper.mk (some 130) _ _ _ _ _) _ _ _);refine Og.quiet_load 26 (.tmp 8) rfl (.agg (Ev.xcells X8).toArray) ⟨w.heap.size+1+1,0,none⟩ _ rfl (by rintro _ ⟨z,rfl⟩;exact LX.out z) (by simp only [Act.put,qa,qb,qc];rfl) ?_
            go_big_quiet_on)
         | ((with_reducible show Oper.quiet _ (Oper.mk (some 135) _ _ _ _ _) _ _ _);refine Og.quiet_load 26 (.tmp 8) rfl (.agg (Ev.xcells X8).toArray) ⟨w.heap.size+1+1,0,none⟩ _ rfl (by rintro _ ⟨z,rfl⟩;exact LX.out z) (by simp only [Act.put,qa,qb,qc];rfl) ?_
            go_big_quiet_on)
         | ((with_reducible show Oper.quiet _ (Oper.mk (some 140) _ _ _ _ _) _ _ _);refine Og.quiet_load 26 (.tmp 8) rfl (.agg (Ev.xcells X8).toArray) ⟨w.heap.size+1+1,0,none⟩ _ rfl (by rintro _ ⟨z,rfl⟩;exact LX.out z) (by simp only [Act.put,qa,qb,qc];rfl) ?_
            go_big_quiet_on)
         | (go_big_quiet_op
            first
             | go_big_quiet_on
             | (apply Exists.intro
                refine⟨fun z=>?_,?_⟩
                ·first
                  | (with_reducible exact Og.callB (rcheck_is HC8.out _ (XI.out z)))
                  | (with_reducible exact Og.callB (AT3.out _ (XI.out z)))
                  | (with_reducible exact Og.callB (CO1.out _ (XI.out z)))
                  | (with_reducible exact Og.callB (MVI.out _ (XI.out z)))
                  | (with_reducible exact Og.callB (BYA.out _ (XI.out z)))
                  | (with_reducible exact Og.callB (known8_any _))
                go_big_quiet_on))))
      refine wpQuiet_nil ?_
      intro _ hw'
      obtain⟨q9,hw''⟩:=hw'
      subst hw''
      have HEND:=qH (BE.out.trans (q9.b.mono BE.out.size))
      go_wp2_with fail
      go_ret
      exact⟨rfl,HEND.out⟩
     ·have t5:decide ((5:Int) < (i:Int)+2)=false:=decide_eq_false h5
      go_wp2_with fail
      refine Og.regionB (by kernel_rfl) (by kernel_rfl) ?_
      repeat (first
       | go_big_quiet_skip
       | (go_big_quiet_want
          first
         | ((with_reducible show Oper.quiet _ (Oper.mk (some 109) _ _ _ _ _) _ _ _);refine Og.quiet_load 26 (.tmp 8) rfl (.agg (Ev.xcells X8).toArray) ⟨w.heap.size+1+1,0,none⟩ _ rfl (by rintro _ ⟨z,rfl⟩;exact LX.out z) (by simp only [Act.put,qa,qb,qc];rfl) ?_
            go_big_quiet_on)
         | ((with_reducible show Oper.quiet _ (Oper.mk (some 123) _ _ _ _ _) _ _ _);refine Og.quiet_load 26 (.tmp 8) rfl (.agg (Ev.xcells X8).toArray) ⟨w.heap.size+1+1,0,none⟩ _ rfl (by rintro _ ⟨z,rfl⟩;exact LX.out z) (by simp only [Act.put,qa,qb,qc];rfl) ?_
            go_big_quiet_on)
         | ((with_reducible show Oper.quiet _ (Oper.mk (some 130) _ _ _ _ _) _ _ _);refine Og.quiet_load 26 (.tmp 8) rfl (.agg (Ev.xcells X8).toArray) ⟨w.heap.size+1+1,0,none⟩ _ rfl (by rintro _ ⟨z,rfl⟩;exact LX.out z) (by simp only [Act.put,qa,qb,qc];rfl) ?_
            go_big_quiet_on)
         | ((with_reducible show Oper.quiet _ (Oper.mk (some 135) _ _ _ _ _) _ _ _);refine Og.quiet_load 26 (.tmp 8) rfl (.agg (Ev.xcells X8).toArray) ⟨w.heap.size+1+1,0,none⟩ _ rfl (by rintro _ ⟨z,rfl⟩;exact LX.out z) (by simp only [Act.put,qa,qb,qc];rfl) ?_
            go_big_quiet_on)
         | ((with_reducible show Oper.quiet _ (Oper.mk (some 140) _ _ _ _ _) _ _ _);refine Og.quiet_load 26 (.tmp 8) rfl (.agg (Ev.xcells X8).toArray) ⟨w.heap.size+1+1,0,none⟩ _ rfl (by rintro _ ⟨z,rfl⟩;exact LX.out z) (by simp only [Act.put,qa,qb,qc];rfl) ?_
            go_big_quiet_on)
         | (go_big_quiet_op
            first
             | go_big_quiet_on
             | (apply Exists.intro
                refine⟨fun z=>?_,?_⟩
                ·first
                  | (with_reducible exact Og.callB (rcheck_is HC8.out _ (XI.out z)))
                  | (with_reducible exact Og.callB (AT3.out _ (XI.out z)))
                  | (with_reducible exact Og.callB (CO1.out _ (XI.out z)))
                  | (with_reducible exact Og.callB (MVI.out _ (XI.out z)))
                  | (with_reducible exact Og.callB (BYA.out _ (XI.out z)))
                  | (with_reducible exact Og.callB (known8_any _))
                go_big_quiet_on))))
      refine wpQuiet_nil ?_
      intro _ hw'
      obtain⟨q9,hw''⟩:=hw'
      subst hw''
      have HEND:=qH (BE.out.trans (q9.b.mono BE.out.size))
      go_wp2_with fail
      go_ret
      exact⟨rfl,HEND.out⟩
    ·have te2:((qv:Int)==2)=false:=by have h:¬ (qv:Int)=2:=(by omega);simpa using h
     have HFQ:=qH (show qv=0∨(3≤qv∧qv < 3+i) by have:=HQM.out;omega)
     have HFN:=qH (show qv < x.ev.length by rw [HEL.out];have:=HFQ.out;omega)
     have HFI2:=qH (show Ev.i64B (qv:Int) by have:=HFN.out;have:=NX.out;unfold Ev.i64B;omega)
     obtain⟨W7,hW7⟩:∃ W7,W7=W6.setCell ⟨gf,1,none⟩ (.int .i64 (qv:Int)):=⟨_,rfl⟩
     have l7:=L6.out.setFr (k:=1) HGF.out HFI2.out
     rw [← hW7] at l7
     have HW7:=qH hW7;have L7:=qH l7
     have ke:=Ev.xcell0 L7.out.box
     have ke:W7.cell? ⟨w.heap.size+1+1,0,none⟩=some (.slice x.ae x.ev.length x.ce):=ke
     rw [HGE.out] at ke
     obtain⟨yf,hyf,hyv⟩:=Md.prE_at (r:=0) HFQ.out
     have kv:=(L7.out.evCell (k:=qv) (i:=3) (y:=yf) (v:=.int .u32 (Md.prV qv)) HGE.out (by show x.ev[qv]?=_;rw [HEV.out];exact hyf) (by rw [← hyv];rfl)).1
     have k17:=L7.out.evCell (k:=1) (i:=4) (y:=Md.lrE 0) (v:=.int .u32 0) HGE.out (by show x.ev[1]?=_;rw [HEV.out];rfl) rfl
     have k171:=k17.1;have k172:=k17.2
     have KE:=qH ke;have KV:=qH kv;have K171:=qH k171;have K172:=qH k172
     have hfnl:(qv:Int) < (x.ev.length:Int):=by have:=HFN.out;omega
     clear hq2 hW7 l7 ke kv k17 k171 k172 hyf hyv
     go_wp2_with fail
     rw [← HW7.out]
     have ke:=KE.out;have kv:=KV.out;have k171:=K171.out;have k172:=K172.out
     go_still_tail 10,(by kernel_rfl)
     change wpList _ _ _ _ _ (W7.drewN 1)
     clear ke kv k171 k172
     obtain⟨Q,hQ⟩:∃ Q,Q=W7.drewN 1:=⟨_,rfl⟩
     rw [← hQ]
     have lq:=L7.out.kp (show Below W7.heap.size W7 Q by rw [hQ];exact below_drewN (Below.refl _ _) 1)
     have kq1:=lq.evCell (k:=1) (i:=4) (y:=Md.lrE 0) (v:=.int .u32 0) HGE.out (by show x.ev[1]?=_;rw [HEV.out];rfl) rfl
     have kq11:=kq1.1;have kq12:=kq1.2
     obtain⟨W8,hW8⟩:∃ W8,W8=Q.setCell ⟨ge,17,none⟩ (.int .u32 (Md.prV qv)):=⟨_,rfl⟩
     obtain⟨X8,hX8⟩:∃ X8,X8=Md.prX x.ae x.ce x.fr.a x.fr.c (some ⟨W1.heap.size,0,none⟩) 1 (some ⟨g1,0,none⟩) d1 i aa qv:=⟨_,rfl⟩
     have l8:Ev.Lay w W8 (w.heap.size+1+1) X8:=by
      have h:=lq.setEv (k:=1) (i:=4) (y:=Md.lrE 0) (y':=Md.lrE (Md.prV qv)) (v:=.int .u32 (Md.prV qv)) HGE.out (by show x.ev[1]?=_;rw [HEV.out];rfl) (by decide) rfl (fun V=>Md.prE_ok (Md.prV_u32 HFQ.out HN4.out) i HN4.out _ (List.mem_of_getElem? (Md.prE_one _ i)) V)
      rw [hW8,hX8]
      have h2:Ev.Lay w (Q.setCell ⟨ge,17,none⟩ (.int .u32 (Md.prV qv))) (w.heap.size+1+1) ⟨x.ae,x.ce,x.ev.set 1 (Md.lrE (Md.prV qv)),⟨x.fr.a,x.fr.c,x.fr.l.set 1 (qv:Int)⟩,some ⟨W1.heap.size,0,none⟩,1,[⟨some ⟨g1,0,none⟩,d1,Md.cI (Md.prO i aa)⟩]⟩:=h
      rw [HEV.out,HFR.out,Md.prE_set,Md.prF_set] at h2
      exact h2
     have HC8:=qH (show Ev.check X8=0 by rw [hX8];exact Md.prX_check HN4.out HA1.out.1 HA1.out.2 HFQ.out)
     have HMV:=qH (show(X8.ev.filter fun r=>decide (r.k < 4)).length=i+2 by rw [hX8];exact Md.prE_mv _ i)
     have HN8:=qH (show X8.ev.length≤1000 by rw [hX8];show(Md.prE _ i).length≤1000;rw [Md.prE_len];omega)
     have HW8:=qH hW8
     have B8:=qH l8.bel;have R8:=qH l8.box;have I8:=qH l8.xin
     clear hQ lq kq1 hW8 hX8 l8
     go_wp2_with (first
      | ((with_reducible refine qG 100 ?_);rw [show Q.setCell ⟨ge,17,none⟩ (.int .u32 (Md.prV qv))=W8 from HW8.out.symm])
      | ((with_reducible refine qG 100 ?_);refine wpList_load_row rfl 26 (.tmp 8) rfl (w.heap.size+1+1) (by kernel_rfl) 26 (Ev.xcells X8).toArray (0,0) _ R8.out Tryz.underlying26 rfl (by kernel_rfl) ?_))
     refine(judge_any X8 W8 I8.out).mono ?_
     rintro e W9 ⟨hb,(⟨hc,_⟩ | ⟨_,b1,b2,b3,rfl,k1,k2,k3⟩)⟩
     ·exact absurd HC8.out hc
     have B9:=qH (B8.out.trans (hb.mono B8.out.size))
     have R9:=qH ((hb.block _ (qL R8.out)).trans R8.out)
     have I9:=qH (I8.out.kp (Ev.kp_below hb))
     have K1:=qH k1;have K2:=qH k2;have K3:=qH k3
     obtain⟨gv,hgv⟩:∃ g,g=W9.heap.size:=⟨_,rfl⟩
     obtain⟨V,hV⟩:∃ V,V=W9.alloc (.cells #[.bool b1,.bool b2,.bool b3] 34):=⟨_,rfl⟩
     have hbu:Below W9.heap.size W9 V:=by rw [hV];exact(Below.refl _ _).alloc (Nat.le_refl _) _
     have BV:=qH (B9.out.trans (hbu.mono B9.out.size))
     have RV:=qH ((hbu.block _ (qL R9.out)).trans R9.out)
     have IV:=qH (I9.out.kp (Ev.kp_below hbu))
     have VV:=qH (show V.heap[gv]?=some (.cells #[.bool b1,.bool b2,.bool b3] 34 (0,0)) by rw [hV,hgv];exact heap_alloc_new _ _)
     have HV:=qH hV;have HGV:=qH hgv
     clear hb k1 k2 k3 hgv hV hbu
     go_wp2_with (first
      | ((with_reducible refine qG 105 ?_);rw [← HV.out,← HGV.out])
      | ((with_reducible refine qG 105 ?_);refine wpList_load_row rfl 26 (.tmp 8) rfl (w.heap.size+1+1) (by kernel_rfl) 26 (Ev.xcells X8).toArray (0,0) _ RV.out Tryz.underlying26 rfl (by kernel_rfl) ?_))
     refine(allowed_any X8 V IV.out).mono ?_
     rintro e WE ⟨hb,(⟨hc,_⟩ | ⟨_,b4,rfl,k4⟩)⟩
     ·exact absurd HC8.out hc
     have BE:=qH (BV.out.trans (hb.mono BV.out.size))
     have RE:=qH ((hb.block _ (qL RV.out)).trans RV.out)
     have VE:=qH ((hb.block _ (qL VV.out)).trans VV.out)
     have IE8:=qH (IV.out.kp (Ev.kp_below hb))
     have HAX:=qH (show(Md.atomB X8&&Md.byOrd X8)=b4 from Md.same_bool ((Md.allow_ax HC8.out).symm.trans (Md.all3_allow HC8.out).symm) k4)
     have H3:=qH (show Md.atomB X8=b3 by rw [← Md.atom_eq HC8.out,K3.out])
     clear hb k4
     have LX:=qH (fun z:Og.On WE.heap.size WE=>Og.rowB (P:=Tryz.prog) z 26 _ RE.out Tryz.underlying26 rfl (by kernel_rfl))
     have XI:=qH (fun z:Og.On WE.heap.size WE=>IE8.out.kp (Ev.kp_below z.b))
     have AT3:=qH (fun (W:World) (h:Ev.XIn W X8)=>(show Calls Tryz.prog 20 #[.agg (Ev.xcells X8).toArray] W fun e w'=>e=.returned (.bool b3)∧Below W.heap.size W w' by have:=ratomic_any X8 W h HC8.out;rw [H3.out] at this;exact this))
     have CO1:=qH (fun (W:World) (h:Ev.XIn W X8)=>show Calls Tryz.prog 18 #[.agg (Ev.xcells X8).toArray] W fun e w'=>e=.returned (.bool b1)∧Below W.heap.size W w' from (rcoherent_any X8 W h HC8.out).mono fun e w' h=>Md.bool_is K1.out h)
     have MVI:=qH (fun (W:World) (h:Ev.XIn W X8)=>(show Calls Tryz.prog 13 #[.agg (Ev.xcells X8).toArray] W fun e w'=>e=.returned (.int .i64 ((i:Int)+2))∧Below W.heap.size W w' by have:=rmoving_is X8 W HN8.out h;rw [HMV.out] at this;exact this))
     have BYA:=qH (fun (W:World) (h:Ev.XIn W X8)=>(show Calls Tryz.prog 16 #[.agg (Ev.xcells X8).toArray] W fun e w'=>e=.returned (.bool b4)∧Below W.heap.size W w' by have:=rbyax_any X8 HC8.out W h;rw [HAX.out] at this;exact this))
     have v0:∀ z:Og.On WE.heap.size WE,z.x.cell? ⟨gv,0,none⟩=some (.bool b1):=fun z=>Og.cellB z (by rw [qC VE.out];rfl)
     have v2:∀ z:Og.On WE.heap.size WE,z.x.cell? ⟨gv,2,none⟩=some (.bool b3):=fun z=>Og.cellB z (by rw [qC VE.out];rfl)
     by_cases h5:(5:Int) < (i:Int)+2
     ·have t5:decide ((5:Int) < (i:Int)+2)=true:=decide_eq_true h5
      go_wp2_with fail
      refine Og.regionB (by kernel_rfl) (by kernel_rfl) ?_
      repeat (first
       | go_big_quiet_skip
       | (go_big_quiet_want
          first
         | ((with_reducible show Oper.quiet _ (Oper.mk (some 109) _ _ _ _ _) _ _ _);refine Og.quiet_load 26 (.tmp 8) rfl (.agg (Ev.xcells X8).toArray) ⟨w.heap.size+1+1,0,none⟩ _ rfl (by rintro _ ⟨z,rfl⟩;exact LX.out z) (by simp only [Act.put,qa,qb,qc];rfl) ?_
            go_big_quiet_on)
         | ((with_reducible show Oper.quiet _ (Oper.mk (some 123) _ _ _ _ _) _ _ _);refine Og.quiet_load 26 (.tmp 8) rfl (.agg (Ev.xcells X8).toArray) ⟨w.heap.size+1+1,0,none⟩ _ rfl (by rintro _ ⟨z,rfl⟩;exact LX.out z) (by simp only [Act.put,qa,qb,qc];rfl) ?_
            go_big_quiet_on)
         | ((with_reducible show Oper.quiet _ (Oper.mk (some 130) _ _ _ _ _) _ _ _);refine Og.quiet_load 26 (.tmp 8) rfl (.agg (Ev.xcells X8).toArray) ⟨w.heap.size+1+1,0,none⟩ _ rfl (by rintro _ ⟨z,rfl⟩;exact LX.out z) (by simp only [Act.put,qa,qb,qc];rfl) ?_
            go_big_quiet_on)
         | ((with_reducible show Oper.quiet _ (Oper.mk (some 135) _ _ _ _ _) _ _ _);refine Og.quiet_load 26 (.tmp 8) rfl (.agg (Ev.xcells X8).toArray) ⟨w.heap.size+1+1,0,none⟩ _ rfl (by rintro _ ⟨z,rfl⟩;exact LX.out z) (by simp only [Act.put,qa,qb,qc];rfl) ?_
            go_big_quiet_on)
         | ((with_reducible show Oper.quiet _ (Oper.mk (some 140) _ _ _ _ _) _ _ _);refine Og.quiet_load 26 (.tmp 8) rfl (.agg (Ev.xcells X8).toArray) ⟨w.heap.size+1+1,0,none⟩ _ rfl (by rintro _ ⟨z,rfl⟩;exact LX.out z) (by simp only [Act.put,qa,qb,qc];rfl) ?_
            go_big_quiet_on)
         | (go_big_quiet_op
            first
             | go_big_quiet_on
             | (apply Exists.intro
                refine⟨fun z=>?_,?_⟩
                ·first
                  | (with_reducible exact Og.callB (rcheck_is HC8.out _ (XI.out z)))
                  | (with_reducible exact Og.callB (AT3.out _ (XI.out z)))
                  | (with_reducible exact Og.callB (CO1.out _ (XI.out z)))
                  | (with_reducible exact Og.callB (MVI.out _ (XI.out z)))
                  | (with_reducible exact Og.callB (BYA.out _ (XI.out z)))
                  | (with_reducible exact Og.callB (known8_any _))
                go_big_quiet_on))))
      refine wpQuiet_nil ?_
      intro _ hw'
      obtain⟨q9,hw''⟩:=hw'
      subst hw''
      have HEND:=qH (BE.out.trans (q9.b.mono BE.out.size))
      go_wp2_with fail
      go_ret
      exact⟨rfl,HEND.out⟩
     ·have t5:decide ((5:Int) < (i:Int)+2)=false:=decide_eq_false h5
      go_wp2_with fail
      refine Og.regionB (by kernel_rfl) (by kernel_rfl) ?_
      repeat (first
       | go_big_quiet_skip
       | (go_big_quiet_want
          first
         | ((with_reducible show Oper.quiet _ (Oper.mk (some 109) _ _ _ _ _) _ _ _);refine Og.quiet_load 26 (.tmp 8) rfl (.agg (Ev.xcells X8).toArray) ⟨w.heap.size+1+1,0,none⟩ _ rfl (by rintro _ ⟨z,rfl⟩;exact LX.out z) (by simp only [Act.put,qa,qb,qc];rfl) ?_
            go_big_quiet_on)
         | ((with_reducible show Oper.quiet _ (Oper.mk (some 123) _ _ _ _ _) _ _ _);refine Og.quiet_load 26 (.tmp 8) rfl (.agg (Ev.xcells X8).toArray) ⟨w.heap.size+1+1,0,none⟩ _ rfl (by rintro _ ⟨z,rfl⟩;exact LX.out z) (by simp only [Act.put,qa,qb,qc];rfl) ?_
            go_big_quiet_on)
         | ((with_reducible show Oper.quiet _ (Oper.mk (some 130) _ _ _ _ _) _ _ _);refine Og.quiet_load 26 (.tmp 8) rfl (.agg (Ev.xcells X8).toArray) ⟨w.heap.size+1+1,0,none⟩ _ rfl (by rintro _ ⟨z,rfl⟩;exact LX.out z) (by simp only [Act.put,qa,qb,qc];rfl) ?_
            go_big_quiet_on)
         | ((with_reducible show Oper.quiet _ (Oper.mk (some 135) _ _ _ _ _) _ _ _);refine Og.quiet_load 26 (.tmp 8) rfl (.agg (Ev.xcells X8).toArray) ⟨w.heap.size+1+1,0,none⟩ _ rfl (by rintro _ ⟨z,rfl⟩;exact LX.out z) (by simp only [Act.put,qa,qb,qc];rfl) ?_
            go_big_quiet_on)
         | ((with_reducible show Oper.quiet _ (Oper.mk (some 140) _ _ _ _ _) _ _ _);refine Og.quiet_load 26 (.tmp 8) rfl (.agg (Ev.xcells X8).toArray) ⟨w.heap.size+1+1,0,none⟩ _ rfl (by rintro _ ⟨z,rfl⟩;exact LX.out z) (by simp only [Act.put,qa,qb,qc];rfl) ?_
            go_big_quiet_on)
         | (go_big_quiet_op
            first
             | go_big_quiet_on
             | (apply Exists.intro
                refine⟨fun z=>?_,?_⟩
                ·first
                  | (with_reducible exact Og.callB (rcheck_is HC8.out _ (XI.out z)))
                  | (with_reducible exact Og.callB (AT3.out _ (XI.out z)))
                  | (with_reducible exact Og.callB (CO1.out _ (XI.out z)))
                  | (with_reducible exact Og.callB (MVI.out _ (XI.out z)))
                  | (with_reducible exact Og.callB (BYA.out _ (XI.out z)))
                  | (with_reducible exact Og.callB (known8_any _))
                go_big_quiet_on))))
      refine wpQuiet_nil ?_
      intro _ hw'
      obtain⟨q9,hw''⟩:=hw'
      subst hw''
      have HEND:=qH (BE.out.trans (q9.b.mono BE.out.size))
      go_wp2_with fail
      go_ret
      exact⟨rfl,HEND.out⟩
  have hii:(i:Int) < (nn:Int):=by omega
  obtain⟨y,hy⟩:∃ y:Ev.R,y=Md.otE i:=⟨_,rfl⟩
  have HYV:=qH (show ∀ V,Ev.ROk V y from fun V=>Md.prE_ok (r:=0) (by unfold Ev.u32B;omega) (i+1) (by have:=HN4.out;omega) y (by rw [Md.prE_succ,hy];simp) V)
  have HYC:=qH (show Ev.cells y=#[.int .i64 1,.int .i64 2,.int .u32 0,.int .u32 (1+(i:Int)),.int .u32 0,.bool false,.bool false,.int .i64 0,.int .i64 0,.bool false,.slice none 0 0,.slice none 0 0,.slice none 0 0].toList by rw [hy];rfl)
  have HY:=qH hy
  have HFI:=qH (show Ev.i64B (-1) by unfold Ev.i64B;omega)
  have HE1:=qH (show x.ev++[y]=Md.prE 0 (i+1) by rw [HEV.out,HY.out,Md.prE_succ])
  have HF1:=qH (show x.fr.l++[-1]=Md.prF 0 (i+1) by rw [HFR.out,Md.prF_succ])
  clear hy
  by_cases he:ln=aa
  case pos =>
   have te:((ln:Int)==(aa:Int))=true:=by rw [he];simp
   have HPL:=qH (show Md.prL aa (i+1)=Md.prL aa i++[2]++[3+i] by show(if (Md.prL aa i).length=aa then Md.prL aa i++[2] else Md.prL aa i)++[3+i]=_;rw [if_pos (by rw [HLN.out];exact he)])
   have HB1:=qH (show(Md.prL aa i).length≤8 by rw [HLN.out];have:=HL6.out;omega)
   have HB2:=qH (show(Md.prL aa i++[2]).length≤8 by rw [List.length_append,HLN.out];have:=HL6.out;simp;omega)
   clear he
   go_wp2_with (first
    | ((with_reducible refine qG 44 ?_);refine wpList_append_own_at _ rfl (.tmp 42) (.tmp 43) 23 rfl w.heap.size 3 i0 (.int .i64 0) 1 8 Tryz.underlying23 HI.out HZ0.out HZ1.out HZ2.out rfl (by decide) _ _ _ rfl (Ev.row_kp HP0.out.row ((Below.refl _ _).alloc (Nat.le_refl _) _)) ⟨_,0,none⟩ 1 1 [.int .i64 2] rfl rfl (World.news_of_block (heap_alloc_new _ _)) (nv_one' _) (by have:=HB1.out;unfold maxLen;omega) (by have:=HB1.out;omega) (by have:=HP0.out.lay.bel.size;simp only [World.size_alloc];omega) ?_
       intro v1 w1 hown hgrow _ hat
       have P1:=qH (Md.PrI.pushL (k:=2) HP0.out (Md.fl_row (k:=2) (by exact hown)) hgrow hat)
       clear hown hgrow hat)
    | ((with_reducible refine qG 49 ?_);refine wpList_append_own_at _ rfl (.tmp 45) (.tmp 48) 23 rfl w.heap.size 3 i0 (.int .i64 0) 1 8 Tryz.underlying23 HI.out HZ0.out HZ1.out HZ2.out rfl (by decide) _ _ _ rfl (Ev.row_kp P1.out.row ((Below.refl _ _).alloc (Nat.le_refl _) _)) ⟨_,0,none⟩ 1 1 [.int .i64 (3+(i:Int))] rfl rfl (World.news_of_block (heap_alloc_new _ _)) (nv_one' _) (by have:=HB2.out;unfold maxLen;omega) (by have:=HB2.out;omega) (by have:=P1.out.lay.bel.size;simp only [World.size_alloc];omega) ?_
       intro v2 w2 hown hgrow _ hat
       have P2:=qH (Md.PrI.pushL (k:=3+i) P1.out (Md.fl_row (k:=3+i) (by have e9:((3+i:Nat):Int)=3+(i:Int):=(by omega);rw [e9];exact hown)) hgrow hat)
       clear hown hgrow hat
       have k0:=Ev.xcell0 P2.out.lay.box)
    | ((with_reducible refine qG 57 ?_);refine wpList_append_own_at _ rfl (.tmp 51) (.tmp 56) 22 rfl w.heap.size 48 ie (.agg (Ev.cells Ev.R0).toArray) 13 128 Tryz.underlying22 IE.out IY.out IS.out IB.out rfl (by decide) (Ev.evsV x) x.ev.length (x.ev.map Ev.cells).flatten rfl (Ev.row_kp P2.out.lay.ev ((Below.refl _ _).alloc (Nat.le_refl _) _)) ⟨_,0,none⟩ 1 1 (Ev.cells y) rfl rfl (by rw [HYC.out];exact World.news_of_block (heap_alloc_new _ _)) (ev_one _) (by have:=NX.out;unfold maxLen;omega) (by have:=NX.out;omega) (by have:=P2.out.lay.bel.size;simp only [World.size_alloc];omega) ?_
       intro v3 w3 hown3 hgrow3 _ hat3
       obtain⟨a3,c3,rfl,hb3,hl3⟩:=P2.out.lay.pushEv HYV.out hown3 hgrow3
       have k1:=Ev.xcell0 hb3
       have k2:=Ev.box_free (i:=0) hb3
       obtain⟨W3,hW3⟩:∃ W3,W3=w3.setCell ⟨w.heap.size+1+1,0,none⟩ (.slice a3 (x.ev.length+1) c3):=⟨_,rfl⟩
       have HW3:=qH hW3
       have P3:=qH (show Md.PrI w W3 (w.heap.size+1+1) ⟨a3,c3,x.ev++[y],x.fr,x.ao,x.co,x.od⟩ v2 _ by rw [hW3];exact P2.out.ev hgrow3 hl3 rfl rfl)
       clear hown3 hgrow3 hat3 hb3 hl3 hW3 k0)
    | ((with_reducible refine qG 59 ?_);rw [show w3.setCell ⟨w.heap.size+1+1,0,none⟩ (.slice a3 (x.ev.length+1) c3)=W3 from HW3.out.symm];have k4:=Ev.xcell1 P3.out.lay.box)
    | ((with_reducible refine qG 62 ?_);refine wpList_append_own_at _ rfl (.tmp 60) (.tmp 61) 23 rfl w.heap.size 3 i0 (.int .i64 0) 1 8 Tryz.underlying23 HI.out HZ0.out HZ1.out HZ2.out rfl (by decide) x.fr.v x.fr.l.length (x.fr.l.map Ev.nv) rfl (Ev.row_kp P3.out.lay.fr ((Below.refl _ _).alloc (Nat.le_refl _) _)) ⟨_,0,none⟩ 1 1 [Ev.nv (-1)] rfl rfl (World.news_of_block (heap_alloc_new _ _)) (nv_one' _) (by have:=NF.out;unfold maxLen;omega) (by have:=NF.out;omega) (by have:=P3.out.lay.bel.size;simp only [World.size_alloc];omega) ?_
       intro v5 w5 hown5 hgrow5 _ hat5
       obtain⟨a5,c5,rfl,hb5,hl5⟩:=P3.out.lay.pushFr HFI.out hown5 hgrow5 hat5
       have k5:=Ev.xcell1 hb5
       have k6:=Ev.box_free (i:=1) hb5
       have P5:=qH (P3.out.fr hgrow5 hat5 hl5 (by show Ev.Sl.v ⟨a5,c5,x.fr.l++[-1]⟩=_;unfold Ev.Sl.v;rw [List.length_append];rfl) rfl)
       clear hown5 hgrow5 hat5 hb5 hl5 k4))
   go_roundw
   case rel=>exact⟨i+1,⟨a3,c3,x.ev++[y],⟨a5,c5,x.fr.l++[-1]⟩,x.ao,x.co,x.od⟩,by omega,by go_num,by rw [HPL.out];exact P5.out,HE1.out,HF1.out,HAO.out,HCO.out⟩
   case measure=>simp [intOf];omega
  have te:((ln:Int)==(aa:Int))=false:=by have h:¬ (ln:Int)=(aa:Int):=(by omega);simpa using h
  have HPL:=qH (show Md.prL aa (i+1)=Md.prL aa i++[3+i] by show(if (Md.prL aa i).length=aa then Md.prL aa i++[2] else Md.prL aa i)++[3+i]=_;rw [if_neg (by rw [HLN.out];exact he)])
  have HB2:=qH (show(Md.prL aa i).length≤8 by rw [HLN.out];have:=HL6.out;omega)
  clear he
  go_wp2_with (first
   | ((with_reducible refine qG 49 ?_);refine wpList_append_own_at _ rfl (.tmp 45) (.tmp 48) 23 rfl w.heap.size 3 i0 (.int .i64 0) 1 8 Tryz.underlying23 HI.out HZ0.out HZ1.out HZ2.out rfl (by decide) _ _ _ rfl (Ev.row_kp HP0.out.row ((Below.refl _ _).alloc (Nat.le_refl _) _)) ⟨_,0,none⟩ 1 1 [.int .i64 (3+(i:Int))] rfl rfl (World.news_of_block (heap_alloc_new _ _)) (nv_one' _) (by have:=HB2.out;unfold maxLen;omega) (by have:=HB2.out;omega) (by have:=HP0.out.lay.bel.size;simp only [World.size_alloc];omega) ?_
      intro v2 w2 hown hgrow _ hat
      have P2:=qH (Md.PrI.pushL (k:=3+i) HP0.out (Md.fl_row (k:=3+i) (by have e9:((3+i:Nat):Int)=3+(i:Int):=(by omega);rw [e9];exact hown)) hgrow hat)
      clear hown hgrow hat
      have k0:=Ev.xcell0 P2.out.lay.box)
   | ((with_reducible refine qG 57 ?_);refine wpList_append_own_at _ rfl (.tmp 51) (.tmp 56) 22 rfl w.heap.size 48 ie (.agg (Ev.cells Ev.R0).toArray) 13 128 Tryz.underlying22 IE.out IY.out IS.out IB.out rfl (by decide) (Ev.evsV x) x.ev.length (x.ev.map Ev.cells).flatten rfl (Ev.row_kp P2.out.lay.ev ((Below.refl _ _).alloc (Nat.le_refl _) _)) ⟨_,0,none⟩ 1 1 (Ev.cells y) rfl rfl (by rw [HYC.out];exact World.news_of_block (heap_alloc_new _ _)) (ev_one _) (by have:=NX.out;unfold maxLen;omega) (by have:=NX.out;omega) (by have:=P2.out.lay.bel.size;simp only [World.size_alloc];omega) ?_
      intro v3 w3 hown3 hgrow3 _ hat3
      obtain⟨a3,c3,rfl,hb3,hl3⟩:=P2.out.lay.pushEv HYV.out hown3 hgrow3
      have k1:=Ev.xcell0 hb3
      have k2:=Ev.box_free (i:=0) hb3
      obtain⟨W3,hW3⟩:∃ W3,W3=w3.setCell ⟨w.heap.size+1+1,0,none⟩ (.slice a3 (x.ev.length+1) c3):=⟨_,rfl⟩
      have HW3:=qH hW3
      have P3:=qH (show Md.PrI w W3 (w.heap.size+1+1) ⟨a3,c3,x.ev++[y],x.fr,x.ao,x.co,x.od⟩ v2 _ by rw [hW3];exact P2.out.ev hgrow3 hl3 rfl rfl)
      clear hown3 hgrow3 hat3 hb3 hl3 hW3 k0)
   | ((with_reducible refine qG 59 ?_);rw [show w3.setCell ⟨w.heap.size+1+1,0,none⟩ (.slice a3 (x.ev.length+1) c3)=W3 from HW3.out.symm];have k4:=Ev.xcell1 P3.out.lay.box)
   | ((with_reducible refine qG 62 ?_);refine wpList_append_own_at _ rfl (.tmp 60) (.tmp 61) 23 rfl w.heap.size 3 i0 (.int .i64 0) 1 8 Tryz.underlying23 HI.out HZ0.out HZ1.out HZ2.out rfl (by decide) x.fr.v x.fr.l.length (x.fr.l.map Ev.nv) rfl (Ev.row_kp P3.out.lay.fr ((Below.refl _ _).alloc (Nat.le_refl _) _)) ⟨_,0,none⟩ 1 1 [Ev.nv (-1)] rfl rfl (World.news_of_block (heap_alloc_new _ _)) (nv_one' _) (by have:=NF.out;unfold maxLen;omega) (by have:=NF.out;omega) (by have:=P3.out.lay.bel.size;simp only [World.size_alloc];omega) ?_
      intro v5 w5 hown5 hgrow5 _ hat5
      obtain⟨a5,c5,rfl,hb5,hl5⟩:=P3.out.lay.pushFr HFI.out hown5 hgrow5 hat5
      have k5:=Ev.xcell1 hb5
      have k6:=Ev.box_free (i:=1) hb5
      have P5:=qH (P3.out.fr hgrow5 hat5 hl5 (by show Ev.Sl.v ⟨a5,c5,x.fr.l++[-1]⟩=_;unfold Ev.Sl.v;rw [List.length_append];rfl) rfl)
      clear hown5 hgrow5 hat5 hb5 hl5 k4))
  go_roundw
  case rel=>exact⟨i+1,⟨a3,c3,x.ev++[y],⟨a5,c5,x.fr.l++[-1]⟩,x.ao,x.co,x.od⟩,by omega,by go_num,by rw [HPL.out];exact P5.out,HE1.out,HF1.out,HAO.out,HCO.out⟩
  case measure=>simp [intOf];omega
theorem lifted (os:Os) (started:os.Started) (H:Type) (enc:TypeId × Value→H) :
 ReturnsInHanded {} Tryz.checked os 10 .any (Rows.modelPairsSpec.pre6 enc Tryz.prog Tryz.f10 Rows.modelPairsRow.domain false) (Rows.modelPairsSpec.post enc Tryz.prog Tryz.f10 false true false false):=by
 refine returnsInHanded_of_change (C:=Tryz.checked) own started (by kernel_rfl) Tryz.func10
  (ChangeSpec.witness6 (enc:=enc) (C:=Tryz.checked) false ⟨#[],#[.int .u8 0,.int .u8 0,.int .u8 0],[]⟩ 8 (by kernel_rfl) (by kernel_rfl) (by kernel_rfl) (by kernel_rfl)) ?_
 intro W base args ds gs before hval0 hW hcnd _
 have hval:∀ (j:Nat) t v,Tryz.f10.params[j]?=some t→args[j]?=some v→Value.okWide Tryz.prog W .any base t v:=hval0
 have hW':=hW
 obtain⟨p,q,hA0,hV,rfl,hfz,hnd⟩:=hW
 have hA:DataW.TrodAll enc Tryz.prog W 0 (fun _=>true) true Tryz.f10.params.toList args.toList ds p:=hA0
 rw [Tryz.params10] at hA hval
 obtain⟨v0,vs0,d0,ds0,p0,q0,hargs,rfl,rfl,h0,r0⟩:=trodAll_cons hA
 obtain⟨v1,vs1,d1,ds1,p1,q1,rfl,rfl,rfl,h1,r1⟩:=trodAll_cons r0
 obtain⟨v2,vs2,d2,ds2,p2,q2,rfl,rfl,rfl,h2,r2⟩:=trodAll_cons r1
 obtain⟨rfl,rfl,rfl⟩:=trodAll_nil r2
 obtain rfl:args=#[v0,v1,v2]:=by cases args;simp_all
 obtain⟨rfl,rfl⟩:=trodVars_none hV
 clear hA0 hval0
 simp only [List.append_nil] at hW'
 have hlt:∀ x ∈ p0++(p1++(p2)),x.block < W.heap.size:=fun x hx=>by simpa using hW'.lt x (by simpa using hx)
 have h0k:=h0
 obtain⟨a0,rfl,rfl,rfl,w0⟩:=open_int Tryz.underlying5 (hval 0 5 v0 rfl rfl) h0
 have h1k:=h1
 obtain⟨a1,rfl,rfl,rfl,w1⟩:=open_int Tryz.underlying5 (hval 1 5 v1 rfl rfl) h1
 have h2k:=h2
 obtain⟨a2,rfl,rfl,rfl,w2⟩:=open_int Tryz.underlying5 (hval 2 5 v2 rfl rfl) h2
 refine(walk W a0 w0 a1 w1 a2 w2).mono fun e W' ⟨he,hb⟩=>?_
 subst he
 have harg0:DataW.Trod enc Tryz.prog W' 0 (fun b=>decide (b < W.heap.size)) true 5 _ _ _:=Below.trod laidOut (by kernel_rfl) (of_decide_eq_true (by kernel_rfl)) h0k hb (fun x hx=>by cases hx)
 have harg1:DataW.Trod enc Tryz.prog W' 0 (fun b=>decide (b < W.heap.size)) true 5 _ _ _:=Below.trod laidOut (by kernel_rfl) (of_decide_eq_true (by kernel_rfl)) h1k hb (fun x hx=>by cases hx)
 have harg2:DataW.Trod enc Tryz.prog W' 0 (fun b=>decide (b < W.heap.size)) true 5 _ _ _:=Below.trod laidOut (by kernel_rfl) (of_decide_eq_true (by kernel_rfl)) h2k hb (fun x hx=>by cases hx)
 exact⟨_,rfl,_,_,_,[],_,[],hW',trodAll_mk1 (shut_bool Tryz.underlying4 _),(trodAll_cons_mk harg0 (trodAll_cons_mk harg1 (trodAll_cons_mk harg2 trodAll_mk0))),rfl,hb.frame _,fun h=>by cases h⟩
theorem over:Rows.modelPairsRow.holds Tryz.pinned (OpenSpec.ofChange Rows.modelPairsSpec) :=
 OpenClaim.holds_of_wide 10 Tryz.f10 rfl rfl rfl rfl rfl rfl rfl ⟨rfl,rfl,rfl,rfl,rfl⟩ rfl rfl rfl rfl rfl (by kernel_rfl) Tryz.func10 (by kernel_rfl)
  (of_decide_eq_true (by kernel_rfl)) (by unfold Func.isWrapper;first | (rw [if_pos (by decide +kernel)];kernel_rfl) | (rw [if_neg (by decide +kernel)];exact⟨rfl,rfl⟩))
  (fun os started H enc _=>lifted os started H enc)
theorem proved:Rows.ModelPairsSaid :=
 over
end Go.Proofs.YtnjnpbabgefaeaaGreat.modelPairs
end
