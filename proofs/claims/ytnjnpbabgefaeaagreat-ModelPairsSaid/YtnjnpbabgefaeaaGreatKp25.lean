import Derived.Test.YtnjnpbabgefaeaaGreatKp21
import Derived.Test.YtnjnpbabgefaeaaGreatKp06
import Derived.Test.YtnjnpbabgefaeaaGreatKp18
import Derived.Test.YtnjnpbabgefaeaaGreatKp17
import Derived.Test.YtnjnpbabgefaeaaGreatKpH
set_option maxRecDepth 100000
set_option maxHeartbeats 16000000
set_option linter.unusedVariables false
set_option linter.unusedSimpArgs false
section
namespace Go.Proofs.YtnjnpbabgefaeaaGreat
open Go.RowKit
namespace Ev
theorem check160 {x:X} {l:List Int} (hn:x.ev.length≤64) (ha:Addrs x.ev l) {k:Nat} (hk:k < x.ev.length) (h:rAt x.ev l k=false):check x=160:=by
 unfold check
 rw [if_neg (by omega)]
 cases he:evsOk x.ev
 ·rfl
 ·rw [(r_of_evs ha he).1 k hk] at h;cases h
theorem check161 {x:X} {l:List Int} (hn:x.ev.length≤64) (he:evsOk x.ev=true) (h:fromOk x.ev x.fr.l=false):check x=161:=by
 unfold check
 rw [if_neg (by omega),he,h];rfl
theorem check162 {x:X} (hn:x.ev.length≤64) (he:evsOk x.ev=true) (hf:fromOk x.ev x.fr.l=true) (h:orderOk x.ev x.od=false):check x=162:=by
 unfold check
 rw [if_neg (by omega),he,hf,h];rfl
theorem check0 {x:X} (hn:x.ev.length≤64) (he:evsOk x.ev=true) (hf:fromOk x.ev x.fr.l=true) (h:orderOk x.ev x.od=true):check x=0:=by
 unfold check
 rw [if_neg (by omega),he,hf,h];rfl
theorem own_cells {w:World} {b n:Nat} {v:Value} {l:List Int} (h:w.ownsRow b 46 1 v l.length (uv l)):∃ (av:Option Addr) (cv:Nat),v=.slice av l.length cv∧l.length≤cv∧cv≤9223372036854775807∧∀ j,j < l.length→∃ gv,av=some ⟨gv,0,none⟩∧w.cell? ⟨gv,j,none⟩=some (.int .u32 (l.getD j 0)):=by
 have hall:=h
 obtain⟨_,⟨rfl,h0⟩ | ⟨g,cap,cur,rfl,_,_,h1,h2,_⟩⟩:=h
 ·exact⟨none,0,by rw [h0],by omega,by omega,fun j hj=>absurd hj (by omega)⟩
 ·refine⟨some ⟨g,0,none⟩,cap,rfl,h1,h2,fun j hj=>⟨g,rfl,?_⟩⟩
  have:=World.ownsRow.cells hall (g:=g) rfl j _ (uv_get hj)
  have hadd:(⟨g,0,none⟩:Addr).add j=⟨g,j,none⟩:=by unfold Addr.add;split <;> simp_all
  rwa [hadd] at this
end Ev
theorem rbare_is {x:Ev.R} {b:Bool} (h:Ev.bare x=b) (w:World):Calls Tryz.prog 29 #[.agg (Ev.cells x).toArray] w fun e w'=>e=.returned (.bool b)∧Below w.heap.size w w':=h ▸ rbare_any x w
theorem rat_is {S:Ev.Sl} {n p:Int} (h:Ev.at_ S.l n=p) (w:World) (hS:Ev.IntsIn w S):Calls Tryz.prog 33 #[.slice S.a S.l.length S.c,.int .i64 n] w fun e w'=>e=.returned (.int .i64 p)∧w=w':=h ▸ rat_any S n w hS
theorem rcheck_any (x:Ev.X) (w:World) (hin:Ev.XIn w x) :
 Calls Tryz.prog 12 #[Ev.exV x] w fun e w'=>e=.returned (.int .i64 (Ev.check x))∧Below w.heap.size w w':=by
 have HIN:=qH hin
 have hle:=hin.ev.le;have hmax:=hin.ev.max
 have hol:=hin.od.le;have hom:=hin.od.max
 have hfl:=hin.fr.2.1;have hfm:=hin.fr.2.2.1
 clear hin
 have R0:=qH (heap_alloc_new w (.cells (Ev.xcells x).toArray 26))
 have B0:=qH ((Below.refl w.heap.size w).alloc (Nat.le_refl _) (.cells (Ev.xcells x).toArray 26))
 have HSZ:=qH (show(w.alloc (.cells (Ev.xcells x).toArray 26)).heap.size=w.heap.size+1 by simp only [World.size_alloc])
 unfold Ev.exV Ev.xcells
 by_cases hl:64 < x.ev.length
 ·have HE:=qH (show Ev.check x=3 by unfold Ev.check;rw [if_pos hl])
  have hi:(64:Int) < (x.ev.length:Int):=by omega
  clear hl
  go_enter Tryz.func12,Tryz.ntmps12
  go_wp2
  try (go_step3;go_wp2)
  go_ret
  exact⟨by rw [HE.out];rfl,B0.out⟩
 have hi:¬ (64:Int) < (x.ev.length:Int):=by omega
 have hn:x.ev.length≤64:=by omega
 go_enter Tryz.func12,Tryz.ntmps12
 go_wp2_with (first
  | ((with_reducible refine qG 21 ?_);refine wpList_load_row rfl 26 (.tmp 1) rfl w.heap.size (by kernel_rfl) 26 (Ev.xcells x).toArray (0,0) _ R0.out Tryz.underlying26 rfl (by kernel_rfl) ?_))
 refine(raddrs_any x hn _ (HIN.out.ev.kp (Ev.kp_below B0.out))).mono ?_
 rintro e W1 ⟨v,l,rfl,had,hown,hb⟩
 obtain⟨av,cv,rfl,hlc,hcm,hca⟩:=Ev.own_cells (n:=0) hown
 have HAD:=qH had
 have hlx:=had.le
 have HB1:=qH (show Below (w.heap.size+1) (w.alloc (.cells (Ev.xcells x).toArray 26)) W1 by rw [← HSZ.out];exact hb)
 have CA:=qH hca
 have BX:=qH (fun W (h:Below W1.heap.size W1 W)=>HB1.out.trans (h.mono (by have:=HB1.out.size;rw [HSZ.out] at this;exact this)))
 have BW:=qH (fun W (h:Below W1.heap.size W1 W)=>B0.out.trans ((BX.out W h).mono (Nat.le_succ _)))
 clear had hown hb hca hl
 have cx:=Ev.xcell0 (Ev.exrow (BX.out W1 (Below.refl _ _)))
 go_wp2
 clear cx
 go_loopw [6,8] (fun i _ wr=>∃ k:Nat,k≤x.ev.length∧i=.int .i64 (k:Int)∧(∀ j,j < k→Ev.rAt x.ev l j=true)∧Below W1.heap.size W1 wr) (fun i _ _=>x.ev.length - (intOf i).toNat)
 case atStart=>exact⟨0,Nat.zero_le _,rfl,fun j hj=>absurd hj (by omega),Below.refl _ _⟩
 case round =>
  obtain⟨k,hk,rfl,hall,hbr⟩:=hrel
  have HALL:=qH hall;have HBR:=qH hbr;clear hall hbr
  by_cases hlt:k < x.ev.length
  ·have HF:=qH (fun h=>Ev.check160 hn HAD.out hlt h)
   obtain⟨y,hy⟩:∃ y,x.ev[k]?=some y:=⟨_,List.getElem?_eq_getElem hlt⟩
   obtain⟨g,o,ea,hcy⟩:=(HIN.out.ev.kp (Ev.kp_below (BW.out wr HBR.out))).at_ hy
   have HOK:=qH (HIN.out.ev.ok_ hy)
   have HYN:=qH (Ev.nth_some hy)
   have HC:=qH hcy;have HEA:=qH ea
   have hki:(k:Int) < (x.ev.length:Int):=by omega
   have cx:=Ev.xcell0 (Ev.exrow (BX.out wr HBR.out))
   rw [ea] at cx
   clear hy hcy ea
   have hm:y.a.tmod 4=y.a % 4:=Int.tmod_eq_emod_of_nonneg HOK.out.a.1
   obtain⟨b1,hb1⟩:∃ b,Ev.bare y=b:=⟨_,rfl⟩
   obtain⟨b2,hb2⟩:∃ b,(y.a % 4==0)=b:=⟨_,rfl⟩
   have t2:(y.a.tmod 4 != 0)=!b2:=by rw [hm,← hb2];rfl
   have HDEP:=qH (show Ev.depsOk x.ev k=(Ev.hangGo x.ev k (Ev.nth x.ev k).h (-1) y.d1.l&&Ev.hangGo x.ev k (Ev.nth x.ev k).h (-1) y.d2.l&&Ev.hangGo x.ev k (Ev.nth x.ev k).h (-1) y.d3.l) by unfold Ev.depsOk Ev.deps;rw [HYN.out];simp [Bool.and_assoc])
   obtain⟨b3,hb3⟩:∃ b,Ev.hangGo x.ev k (Ev.nth x.ev k).h (-1) y.d1.l=b:=⟨_,rfl⟩
   obtain⟨b4,hb4⟩:∃ b,Ev.hangGo x.ev k (Ev.nth x.ev k).h (-1) y.d2.l=b:=⟨_,rfl⟩
   obtain⟨b5,hb5⟩:∃ b,Ev.hangGo x.ev k (Ev.nth x.ev k).h (-1) y.d3.l=b:=⟨_,rfl⟩
   have HRA:=qH (show Ev.rAt x.ev l k=(b1&&b2&&(b3&&b4&&b5)&&(y.k==5)==decide (k < l.length)&&(!(y.k==5)||y.a==l.getD k 0)&&(y.k==5||(decide (0≤y.h)&&decide (y.h≤3)&&(!(decide (l.length < k))||!(decide (y.h < (Ev.nth x.ev ((k:Int) - 1)).h)))))) by
    unfold Ev.rAt;rw [HDEP.out,hb3,hb4,hb5,HYN.out,hb1,hb2])
   have H1:=qH hb1;have H3:=qH hb3;have H4:=qH hb4;have H5:=qH hb5
   clear hb1 hb2 hb3 hb4 hb5 hm
   by_cases hkl:k < l.length
   ·obtain⟨gv,hav,hcv⟩:=CA.out k hkl
    obtain⟨A,hA⟩:∃ A,l.getD k 0=A:=⟨_,rfl⟩
    rw [hA] at hcv
    have HA:=qH hA
    have HCV:=qH hcv
    have HKL:=qH hkl
    rw [hav]
    clear hA hcv hav hkl
    go_wp2_with (first
     | ((with_reducible refine qG 34 ?_);refine wpList_load_at rfl 48 (.tmp 33) rfl g (o+k * 13) (by kernel_rfl) (Ev.cells y) _ HC.out Tryz.underlying48 rfl (by kernel_rfl) ?_)
     | (show wpList _ _ _ (Oper.mk none (Op.store 48 _ _) _ _ _ _ :: _) _ _;refine wpList_store_own rfl 48 (.tmp 7) (.tmp 34) rfl wr.heap.size (Ev.cells y).toArray rfl rfl 48 (Ev.cells Ev.R0).toArray (heap_alloc_new _ _) (by kernel_rfl) (by kernel_rfl) (by kernel_rfl) ?_
        intro W2 HW
        have B2:=qH (((Below.refl wr.heap.size wr).alloc (Nat.le_refl _) _).trans HW.below)
        have RW:=qH HW.row
        clear HW)
     | ((with_reducible refine qG 35 ?_);refine wpList_load_row rfl 48 (.tmp 7) rfl wr.heap.size (by kernel_rfl) 48 (Ev.cells y).toArray (0,0) _ RW.out Tryz.underlying48 rfl (by kernel_rfl) ?_))
    refine(rbare_is H1.out _).mono ?_
    rintro e W3 ⟨rfl,hb⟩
    have RW3:=qH ((hb.block wr.heap.size (qL RW.out)).trans RW.out)
    have B3:=qH (B2.out.trans (hb.mono B2.out.size));clear hb
    have BR3:=qH (HBR.out.trans (B3.out.mono HBR.out.size))
    cases b1
    ·go_wp2
     go_ret
     exact⟨by rw [HF.out (by rw [HRA.out];rfl)];rfl,BW.out _ BR3.out⟩
    have c2:W3.cell? ⟨wr.heap.size,2,none⟩=some (.int .u32 y.a):=by rw [qC RW3.out];rfl
    cases b2
    ·have t2':(y.a.tmod 4 != 0)=true:=t2
     clear t2
     go_wp2
     go_ret
     exact⟨by rw [HF.out (by rw [HRA.out];rfl)];rfl,BW.out _ BR3.out⟩
    have t2':(y.a.tmod 4 != 0)=false:=t2
    clear t2
    have c10:W3.cell? ⟨wr.heap.size,10,none⟩=some (.slice y.d1.a y.d1.l.length y.d1.c):=by rw [qC RW3.out];rfl
    have RX1:=qH (Ev.exrow (BX.out W3 BR3.out))
    go_wp2_with (first
     | ((with_reducible refine qG 45 ?_);refine Ev.load_row_g 26 (.tmp 1) rfl rfl w.heap.size (by kernel_rfl) 26 (Ev.xcells x).toArray (0,0) _ RX1.out Tryz.underlying26 rfl (by kernel_rfl) ?_))
    refine(rhangs_any x k hlt y.d1 _ (HIN.out.ev.kp (Ev.kp_below (BW.out _ BR3.out))) (HOK.out.d1.kp (Ev.kp_below (BW.out _ BR3.out)))).mono ?_
    rintro e W4 ⟨rfl,hb⟩
    rw [H3.out]
    have RW4:=qH ((hb.block wr.heap.size (qL RW3.out)).trans RW3.out)
    have B4:=qH (B3.out.trans (hb.mono B3.out.size));clear hb c10
    have BR4:=qH (HBR.out.trans (B4.out.mono HBR.out.size))
    cases b3
    ·go_wp2
     go_ret
     exact⟨by rw [HF.out (by rw [HRA.out];rfl)];rfl,BW.out _ BR4.out⟩
    try clear c2
    have c11:W4.cell? ⟨wr.heap.size,11,none⟩=some (.slice y.d2.a y.d2.l.length y.d2.c):=by rw [qC RW4.out];rfl
    have RX2:=qH (Ev.exrow (BX.out W4 BR4.out))
    go_wp2_with (first
     | ((with_reducible refine qG 53 ?_);refine Ev.load_row_g 26 (.tmp 1) rfl rfl w.heap.size (by kernel_rfl) 26 (Ev.xcells x).toArray (0,0) _ RX2.out Tryz.underlying26 rfl (by kernel_rfl) ?_))
    refine(rhangs_any x k hlt y.d2 _ (HIN.out.ev.kp (Ev.kp_below (BW.out _ BR4.out))) (HOK.out.d2.kp (Ev.kp_below (BW.out _ BR4.out)))).mono ?_
    rintro e W5 ⟨rfl,hb⟩
    rw [H4.out]
    have RW5:=qH ((hb.block wr.heap.size (qL RW4.out)).trans RW4.out)
    have B5:=qH (B4.out.trans (hb.mono B4.out.size));clear hb c11
    have BR5:=qH (HBR.out.trans (B5.out.mono HBR.out.size))
    cases b4
    ·go_wp2
     go_ret
     exact⟨by rw [HF.out (by rw [HRA.out];rfl)];rfl,BW.out _ BR5.out⟩
    have c12:W5.cell? ⟨wr.heap.size,12,none⟩=some (.slice y.d3.a y.d3.l.length y.d3.c):=by rw [qC RW5.out];rfl
    have RX3:=qH (Ev.exrow (BX.out W5 BR5.out))
    go_wp2_with (first
     | ((with_reducible refine qG 61 ?_);refine Ev.load_row_g 26 (.tmp 1) rfl rfl w.heap.size (by kernel_rfl) 26 (Ev.xcells x).toArray (0,0) _ RX3.out Tryz.underlying26 rfl (by kernel_rfl) ?_))
    refine(rhangs_any x k hlt y.d3 _ (HIN.out.ev.kp (Ev.kp_below (BW.out _ BR5.out))) (HOK.out.d3.kp (Ev.kp_below (BW.out _ BR5.out)))).mono ?_
    rintro e W6 ⟨rfl,hb⟩
    rw [H5.out]
    have RW6:=qH ((hb.block wr.heap.size (qL RW5.out)).trans RW5.out)
    have B6:=qH (B5.out.trans (hb.mono B5.out.size));clear hb c12
    have BR6:=qH (HBR.out.trans (B6.out.mono HBR.out.size))
    cases b5
    ·go_wp2
     go_ret
     exact⟨by rw [HF.out (by rw [HRA.out];rfl)];rfl,BW.out _ BR6.out⟩
    have ck:W6.cell? ⟨wr.heap.size,1,none⟩=some (.int .i64 y.k):=by rw [qC RW6.out];rfl
    have ch:∀ z:Og.On W6.heap.size W6,z.x.cell? ⟨wr.heap.size,0,none⟩=some (.int .i64 y.h):=fun z=>Og.cellB z (by rw [qC RW6.out];rfl)
    have ca:∀ z:Og.On W6.heap.size W6,z.x.cell? ⟨wr.heap.size,2,none⟩=some (.int .u32 y.a):=fun z=>Og.cellB z (by rw [qC RW6.out];rfl)
    have cxz:∀ z:Og.On W6.heap.size W6,z.x.cell? ⟨w.heap.size,0,none⟩=some (.slice (some ⟨g,o,none⟩) x.ev.length x.ce):=fun z=>Og.cellB z (by rw [← HEA.out];exact Ev.xcell0 (Ev.exrow (BX.out W6 BR6.out)))
    have hkl:=HKL.out
    have tl:decide ((k:Int) < (l.length:Int))=true:=decide_eq_true (by omega)
    have tl':decide (k < l.length)=true:=decide_eq_true hkl
    have cav:∀ z:Og.On W6.heap.size W6,z.x.cell? ⟨gv,k,none⟩=some (.int .u32 A):=fun z=>Og.cellB z (Ev.kp_below BR6.out _ _ HCV.out)
    have hmin:min (k:Int) ((l.length:Int) - 1)=(k:Int):=by omega
    by_cases hk5:y.k=5
    ·as_aux_lemma =>
     have t5:(y.k==5)=true:=by simpa using hk5
     clear hk5
     by_cases hq:y.a=A
     ·as_aux_lemma =>
      have tq:(y.a != A)=false:=by simp [hq]
      have HQ:=qH hq;clear hq
      go_wp2
      refine Og.regionB (by kernel_rfl) (by kernel_rfl) ?_
      repeat (first
       | go_big_quiet_skip
       | (go_big_quiet_want
          first
           | (go_big_quiet_op
              first
               | go_big_quiet_on)))
      refine wpQuiet_nil ?_
      intro _ hw'
      obtain⟨q9,hw''⟩:=hw'
      subst hw''
      have HEND:=qH (BR6.out.trans (q9.b.mono BR6.out.size))
      go_wp2_with fail
      go_roundw
      case rel =>
       refine⟨k+1,by omega,by go_num,fun j hj=>?_,HEND.out⟩
       rcases Nat.lt_or_eq_of_le (Nat.le_of_lt_succ hj) with h | h
       ·exact HALL.out j h
       ·subst h;rw [HRA.out,t5,tl',HA.out,HQ.out];simp
      case measure=>simp [intOf];omega
     ·have tq:(y.a != A)=true:=by simpa using hq
      have HQ:=qH (show(y.a==A)=false by simpa using hq);clear hq
      go_wp2
      refine Og.regionB (by kernel_rfl) (by kernel_rfl) ?_
      repeat (first
       | go_big_quiet_skip
       | (go_big_quiet_want
          first
           | (go_big_quiet_op
              first
               | go_big_quiet_on)))
      refine wpQuiet_nil ?_
      intro _ hw'
      obtain⟨q9,hw''⟩:=hw'
      subst hw''
      have HEND:=qH (BR6.out.trans (q9.b.mono BR6.out.size))
      go_wp2_with fail
      go_ret
      exact⟨by rw [HF.out (by rw [HRA.out,t5,tl',HA.out,HQ.out];simp)];rfl,BW.out _ HEND.out⟩
    ·have t5:(y.k==5)=false:=by simpa using hk5
     clear hk5
     go_wp2
     refine Og.regionB (by kernel_rfl) (by kernel_rfl) ?_
     repeat (first
      | go_big_quiet_skip
      | (go_big_quiet_want
         first
          | (go_big_quiet_op
             first
              | go_big_quiet_on)))
     refine wpQuiet_nil ?_
     intro _ hw'
     obtain⟨q9,hw''⟩:=hw'
     subst hw''
     have HEND:=qH (BR6.out.trans (q9.b.mono BR6.out.size))
     go_wp2_with fail
     go_ret
     exact⟨by rw [HF.out (by rw [HRA.out,t5,tl'];simp)];rfl,BW.out _ HEND.out⟩
   ·have HKL:=qH hkl
    clear hkl
    go_wp2_with (first
     | ((with_reducible refine qG 34 ?_);refine wpList_load_at rfl 48 (.tmp 33) rfl g (o+k * 13) (by kernel_rfl) (Ev.cells y) _ HC.out Tryz.underlying48 rfl (by kernel_rfl) ?_)
     | (show wpList _ _ _ (Oper.mk none (Op.store 48 _ _) _ _ _ _ :: _) _ _;refine wpList_store_own rfl 48 (.tmp 7) (.tmp 34) rfl wr.heap.size (Ev.cells y).toArray rfl rfl 48 (Ev.cells Ev.R0).toArray (heap_alloc_new _ _) (by kernel_rfl) (by kernel_rfl) (by kernel_rfl) ?_
        intro W2 HW
        have B2:=qH (((Below.refl wr.heap.size wr).alloc (Nat.le_refl _) _).trans HW.below)
        have RW:=qH HW.row
        clear HW)
     | ((with_reducible refine qG 35 ?_);refine wpList_load_row rfl 48 (.tmp 7) rfl wr.heap.size (by kernel_rfl) 48 (Ev.cells y).toArray (0,0) _ RW.out Tryz.underlying48 rfl (by kernel_rfl) ?_))
    refine(rbare_is H1.out _).mono ?_
    rintro e W3 ⟨rfl,hb⟩
    have RW3:=qH ((hb.block wr.heap.size (qL RW.out)).trans RW.out)
    have B3:=qH (B2.out.trans (hb.mono B2.out.size));clear hb
    have BR3:=qH (HBR.out.trans (B3.out.mono HBR.out.size))
    cases b1
    ·go_wp2
     go_ret
     exact⟨by rw [HF.out (by rw [HRA.out];rfl)];rfl,BW.out _ BR3.out⟩
    have c2:W3.cell? ⟨wr.heap.size,2,none⟩=some (.int .u32 y.a):=by rw [qC RW3.out];rfl
    cases b2
    ·have t2':(y.a.tmod 4 != 0)=true:=t2
     clear t2
     go_wp2
     go_ret
     exact⟨by rw [HF.out (by rw [HRA.out];rfl)];rfl,BW.out _ BR3.out⟩
    have t2':(y.a.tmod 4 != 0)=false:=t2
    clear t2
    have c10:W3.cell? ⟨wr.heap.size,10,none⟩=some (.slice y.d1.a y.d1.l.length y.d1.c):=by rw [qC RW3.out];rfl
    have RX1:=qH (Ev.exrow (BX.out W3 BR3.out))
    go_wp2_with (first
     | ((with_reducible refine qG 45 ?_);refine Ev.load_row_g 26 (.tmp 1) rfl rfl w.heap.size (by kernel_rfl) 26 (Ev.xcells x).toArray (0,0) _ RX1.out Tryz.underlying26 rfl (by kernel_rfl) ?_))
    refine(rhangs_any x k hlt y.d1 _ (HIN.out.ev.kp (Ev.kp_below (BW.out _ BR3.out))) (HOK.out.d1.kp (Ev.kp_below (BW.out _ BR3.out)))).mono ?_
    rintro e W4 ⟨rfl,hb⟩
    rw [H3.out]
    have RW4:=qH ((hb.block wr.heap.size (qL RW3.out)).trans RW3.out)
    have B4:=qH (B3.out.trans (hb.mono B3.out.size));clear hb c10
    have BR4:=qH (HBR.out.trans (B4.out.mono HBR.out.size))
    cases b3
    ·go_wp2
     go_ret
     exact⟨by rw [HF.out (by rw [HRA.out];rfl)];rfl,BW.out _ BR4.out⟩
    try clear c2
    have c11:W4.cell? ⟨wr.heap.size,11,none⟩=some (.slice y.d2.a y.d2.l.length y.d2.c):=by rw [qC RW4.out];rfl
    have RX2:=qH (Ev.exrow (BX.out W4 BR4.out))
    go_wp2_with (first
     | ((with_reducible refine qG 53 ?_);refine Ev.load_row_g 26 (.tmp 1) rfl rfl w.heap.size (by kernel_rfl) 26 (Ev.xcells x).toArray (0,0) _ RX2.out Tryz.underlying26 rfl (by kernel_rfl) ?_))
    refine(rhangs_any x k hlt y.d2 _ (HIN.out.ev.kp (Ev.kp_below (BW.out _ BR4.out))) (HOK.out.d2.kp (Ev.kp_below (BW.out _ BR4.out)))).mono ?_
    rintro e W5 ⟨rfl,hb⟩
    rw [H4.out]
    have RW5:=qH ((hb.block wr.heap.size (qL RW4.out)).trans RW4.out)
    have B5:=qH (B4.out.trans (hb.mono B4.out.size));clear hb c11
    have BR5:=qH (HBR.out.trans (B5.out.mono HBR.out.size))
    cases b4
    ·go_wp2
     go_ret
     exact⟨by rw [HF.out (by rw [HRA.out];rfl)];rfl,BW.out _ BR5.out⟩
    have c12:W5.cell? ⟨wr.heap.size,12,none⟩=some (.slice y.d3.a y.d3.l.length y.d3.c):=by rw [qC RW5.out];rfl
    have RX3:=qH (Ev.exrow (BX.out W5 BR5.out))
    go_wp2_with (first
     | ((with_reducible refine qG 61 ?_);refine Ev.load_row_g 26 (.tmp 1) rfl rfl w.heap.size (by kernel_rfl) 26 (Ev.xcells x).toArray (0,0) _ RX3.out Tryz.underlying26 rfl (by kernel_rfl) ?_))
    refine(rhangs_any x k hlt y.d3 _ (HIN.out.ev.kp (Ev.kp_below (BW.out _ BR5.out))) (HOK.out.d3.kp (Ev.kp_below (BW.out _ BR5.out)))).mono ?_
    rintro e W6 ⟨rfl,hb⟩
    rw [H5.out]
    have RW6:=qH ((hb.block wr.heap.size (qL RW5.out)).trans RW5.out)
    have B6:=qH (B5.out.trans (hb.mono B5.out.size));clear hb c12
    have BR6:=qH (HBR.out.trans (B6.out.mono HBR.out.size))
    cases b5
    ·go_wp2
     go_ret
     exact⟨by rw [HF.out (by rw [HRA.out];rfl)];rfl,BW.out _ BR6.out⟩
    have ck:W6.cell? ⟨wr.heap.size,1,none⟩=some (.int .i64 y.k):=by rw [qC RW6.out];rfl
    have ch:∀ z:Og.On W6.heap.size W6,z.x.cell? ⟨wr.heap.size,0,none⟩=some (.int .i64 y.h):=fun z=>Og.cellB z (by rw [qC RW6.out];rfl)
    have ca:∀ z:Og.On W6.heap.size W6,z.x.cell? ⟨wr.heap.size,2,none⟩=some (.int .u32 y.a):=fun z=>Og.cellB z (by rw [qC RW6.out];rfl)
    have cxz:∀ z:Og.On W6.heap.size W6,z.x.cell? ⟨w.heap.size,0,none⟩=some (.slice (some ⟨g,o,none⟩) x.ev.length x.ce):=fun z=>Og.cellB z (by rw [← HEA.out];exact Ev.xcell0 (Ev.exrow (BX.out W6 BR6.out)))
    have hkl:=HKL.out
    have tl:decide ((k:Int) < (l.length:Int))=false:=decide_eq_false (by omega)
    have tl':decide (k < l.length)=false:=decide_eq_false hkl
    by_cases hk5:y.k=5
    ·have t5:(y.k==5)=true:=by simpa using hk5
     clear hk5
     go_wp2
     refine Og.regionB (by kernel_rfl) (by kernel_rfl) ?_
     repeat (first
      | go_big_quiet_skip
      | (go_big_quiet_want
         first
          | (go_big_quiet_op
             first
              | go_big_quiet_on)))
     refine wpQuiet_nil ?_
     intro _ hw'
     obtain⟨q9,hw''⟩:=hw'
     subst hw''
     have HEND:=qH (BR6.out.trans (q9.b.mono BR6.out.size))
     go_wp2_with fail
     go_ret
     exact⟨by rw [HF.out (by rw [HRA.out,t5,tl'];simp)];rfl,BW.out _ HEND.out⟩
    have t5:(y.k==5)=false:=by simpa using hk5
    clear hk5
    by_cases h0:y.h < 0
    ·as_aux_lemma =>
     have s0:decide (y.h < 0)=true:=decide_eq_true h0
     have S0:=qH (show decide (0≤y.h)=false from decide_eq_false (by omega))
     clear h0
     go_wp2
     refine Og.regionB (by kernel_rfl) (by kernel_rfl) ?_
     repeat (first
      | go_big_quiet_skip
      | (go_big_quiet_want
         first
          | (go_big_quiet_op
             first
              | go_big_quiet_on)))
     refine wpQuiet_nil ?_
     intro _ hw'
     obtain⟨q9,hw''⟩:=hw'
     subst hw''
     have HEND:=qH (BR6.out.trans (q9.b.mono BR6.out.size))
     go_wp2_with fail
     go_ret
     exact⟨by rw [HF.out (by rw [HRA.out,t5,tl',S0.out];simp)];rfl,BW.out _ HEND.out⟩
    have s0:decide (y.h < 0)=false:=decide_eq_false h0
    have S0:=qH (show decide (0≤y.h)=true from decide_eq_true (by omega))
    by_cases h3:3 < y.h
    ·as_aux_lemma =>
     have s3:decide (3 < y.h)=true:=decide_eq_true h3
     have S3:=qH (show decide (y.h≤3)=false from decide_eq_false (by omega))
     clear h0 h3
     go_wp2
     refine Og.regionB (by kernel_rfl) (by kernel_rfl) ?_
     repeat (first
      | go_big_quiet_skip
      | (go_big_quiet_want
         first
          | (go_big_quiet_op
             first
              | go_big_quiet_on)))
     refine wpQuiet_nil ?_
     intro _ hw'
     obtain⟨q9,hw''⟩:=hw'
     subst hw''
     have HEND:=qH (BR6.out.trans (q9.b.mono BR6.out.size))
     go_wp2_with fail
     go_ret
     exact⟨by rw [HF.out (by rw [HRA.out,t5,tl',S0.out,S3.out];simp)];rfl,BW.out _ HEND.out⟩
    have s3:decide (3 < y.h)=false:=decide_eq_false h3
    have S3:=qH (show decide (y.h≤3)=true from decide_eq_true (by omega))
    clear h0 h3
    by_cases hkk:l.length < k
    ·as_aux_lemma =>
     have tk:decide ((l.length:Int) < (k:Int))=true:=decide_eq_true (by omega)
     have tk':decide (l.length < k)=true:=decide_eq_true hkk
     obtain⟨p,hp⟩:∃ p,k=p+1:=⟨k - 1,by omega⟩
     have hpi:(k:Int) - 1=(p:Int):=by omega
     have hpl:p < x.ev.length:=by omega
     have hpli:(p:Int) < (x.ev.length:Int):=by omega
     obtain⟨y',hy'⟩:∃ y',x.ev[p]?=some y':=⟨_,List.getElem?_eq_getElem hpl⟩
     obtain⟨g',o',eg,hcy'⟩:=HIN.out.ev.at_ hy'
     obtain⟨rfl,rfl⟩:g'=g∧o'=o:=by rw [HEA.out] at eg;cases eg;exact⟨rfl,rfl⟩
     have HPN:=qH (show Ev.nth x.ev ((k:Int) - 1)=y' by rw [hpi];exact Ev.nth_some hy')
     have cp:∀ z:Og.On W6.heap.size W6,z.x.cell? ⟨g',o'+p * 13,none⟩=some (.int .i64 y'.h):=fun z=>Og.cellB z (Ev.kp_below (BW.out W6 BR6.out) _ _ (hcy' 0 _ rfl))
     clear hp hy' eg hcy'
     by_cases hh:y.h < y'.h
     ·have th:decide (y.h < y'.h)=true:=decide_eq_true hh
      clear hh hkk
      go_wp2
      refine Og.regionB (by kernel_rfl) (by kernel_rfl) ?_
      repeat (first
       | go_big_quiet_skip
       | (go_big_quiet_want
          first
           | (go_big_quiet_op
              first
               | go_big_quiet_on)))
      refine wpQuiet_nil ?_
      intro _ hw'
      obtain⟨q9,hw''⟩:=hw'
      subst hw''
      have HEND:=qH (BR6.out.trans (q9.b.mono BR6.out.size))
      go_wp2_with fail
      go_ret
      exact⟨by rw [HF.out (by rw [HRA.out,t5,tl',S0.out,S3.out,tk',HPN.out,th];simp)];rfl,BW.out _ HEND.out⟩
     ·as_aux_lemma =>
      have th:decide (y.h < y'.h)=false:=decide_eq_false hh
      clear hh hkk
      go_wp2
      refine Og.regionB (by kernel_rfl) (by kernel_rfl) ?_
      repeat (first
       | go_big_quiet_skip
       | (go_big_quiet_want
          first
           | (go_big_quiet_op
              first
               | go_big_quiet_on)))
      refine wpQuiet_nil ?_
      intro _ hw'
      obtain⟨q9,hw''⟩:=hw'
      subst hw''
      have HEND:=qH (BR6.out.trans (q9.b.mono BR6.out.size))
      go_wp2_with fail
      go_roundw
      case rel =>
       refine⟨k+1,by omega,by go_num,fun j hj=>?_,HEND.out⟩
       rcases Nat.lt_or_eq_of_le (Nat.le_of_lt_succ hj) with h | h
       ·exact HALL.out j h
       ·subst h;rw [HRA.out,t5,tl',S0.out,S3.out,tk',HPN.out,th];simp
      case measure=>simp [intOf];omega
    ·as_aux_lemma =>
     have tk:decide ((l.length:Int) < (k:Int))=false:=decide_eq_false (by omega)
     have tk':decide (l.length < k)=false:=decide_eq_false hkk
     clear hkk
     go_wp2
     refine Og.regionB (by kernel_rfl) (by kernel_rfl) ?_
     repeat (first
      | go_big_quiet_skip
      | (go_big_quiet_want
         first
          | (go_big_quiet_op
             first
              | go_big_quiet_on)))
     refine wpQuiet_nil ?_
     intro _ hw'
     obtain⟨q9,hw''⟩:=hw'
     subst hw''
     have HEND:=qH (BR6.out.trans (q9.b.mono BR6.out.size))
     go_wp2_with fail
     go_roundw
     case rel =>
      refine⟨k+1,by omega,by go_num,fun j hj=>?_,HEND.out⟩
      rcases Nat.lt_or_eq_of_le (Nat.le_of_lt_succ hj) with h | h
      ·exact HALL.out j h
      ·subst h;rw [HRA.out,t5,tl',S0.out,S3.out,tk'];simp
     case measure=>simp [intOf];omega
  ·have hki:¬ (k:Int) < (x.ev.length:Int):=by omega
   have hke:k=x.ev.length:=by omega
   have HEV:=qH (Ev.evs_of_r HAD.out (fun i hi=>HALL.out i (by omega)))
   have HBEG:=qH (Ev.r_of_evs HAD.out HEV.out).2.1
   have HFIVE:=qH (Ev.r_of_evs HAD.out HEV.out).2.2
   have cx1:=Ev.xcell1 (Ev.exrow (BX.out wr HBR.out))
   clear hke
   by_cases hf0:x.fr.l.length=x.ev.length
   case neg =>
    have t1:((x.fr.l.length:Int) != (x.ev.length:Int))=true:=by simp;omega
    have t1':(x.fr.l.length != x.ev.length)=true:=by simpa using hf0
    have HRES:=qH (show Ev.check x=161 from Ev.check161 (l:=l) hn HEV.out (by
     unfold Ev.fromOk
     rw [show (x.fr.l.length==x.ev.length)=false by simpa using hf0];rfl))
    clear hf0
    go_wp2
    go_ret
    exact⟨by rw [HRES.out];rfl,BW.out _ HBR.out⟩
   have t1:((x.fr.l.length:Int) != (x.ev.length:Int))=false:=by simp [hf0]
   have t1':(x.fr.l.length != x.ev.length)=false:=by simpa using hf0
   have HFL:=qH hf0
   have HB1':=HBR
   clear hf0
   go_wp2
   clear cx1 t1 t1'
   go_loopw [9,11] (fun i _ wr=>∃ m:Nat,m≤x.ev.length∧i=.int .i64 (m:Int)∧(∀ j,j < m→Ev.fromAt x.ev x.fr.l j=true)∧Below W1.heap.size W1 wr) (fun i _ _=>x.ev.length - (intOf i).toNat)
   case atStart=>exact⟨0,Nat.zero_le _,rfl,fun j hj=>absurd hj (by omega),HB1'.out⟩
   case round =>
    obtain⟨m,hm,rfl,hall2,hbr2⟩:=hrel
    have HALL2:=qH hall2;have HBR2:=qH hbr2;clear hall2 hbr2
    by_cases hlt:m < x.ev.length
    ·have HNO:=qH (show Ev.fromAt x.ev x.fr.l m=false→Ev.check x=161 from fun e=>Ev.check161 (l:=l) hn HEV.out (by
      unfold Ev.fromOk
      rw [Bool.and_eq_false_iff];right
      rw [List.all_eq_false];exact⟨m,List.mem_range.2 hlt,by rw [e];simp⟩))
     obtain⟨y,hy⟩:∃ y,x.ev[m]?=some y:=⟨_,List.getElem?_eq_getElem hlt⟩
     have hfl2:=HFL.out
     obtain⟨f,hf⟩:∃ f,x.fr.l[m]?=some f:=⟨_,List.getElem?_eq_getElem (by omega)⟩
     obtain⟨g,o,ea,hcy⟩:=(HIN.out.ev.kp (Ev.kp_below (BW.out wr HBR2.out))).at_ hy
     obtain⟨gf,of,ef,hcf⟩:=(HIN.out.fr.kp (Ev.kp_below (BW.out wr HBR2.out))).at_ hf
     have HFM:=qH (show Ev.fromAt x.ev x.fr.l m=if Ev.loads y.k then Ev.readOk x.ev m f else f==-1 by
      unfold Ev.fromAt;rw [Ev.nth_some hy,show x.fr.l.getD m 0=f by rw [List.getD_eq_getElem?_getD,hf];rfl])
     have HYN:=qH (Ev.nth_some hy)
     have HC:=qH hcy;have HEA:=qH ea;have HEF:=qH ef;have HCF:=qH hcf
     have hmi:(m:Int) < (x.ev.length:Int):=by omega
     have hmf:(m:Int) < (x.fr.l.length:Int):=by omega
     have RX:=qH (Ev.exrow (BX.out wr HBR2.out))
     have CX0:=qH (show ∀ z,Og.Std wr z→z.cell? ⟨w.heap.size,0,none⟩=some (.slice (some ⟨g,o,none⟩) x.ev.length x.ce) from fun z hz=>Og.std_cell hz (by rw [← HEA.out];exact Ev.xcell0 RX.out))
     have CX1:=qH (show ∀ z,Og.Std wr z→z.cell? ⟨w.heap.size,1,none⟩=some (.slice (some ⟨gf,of,none⟩) x.fr.l.length x.fr.c) from fun z hz=>Og.std_cell hz (by rw [← HEF.out];exact Ev.xcell1 RX.out))
     have LY:=qH (fun (z:World) (hz:Og.Std wr z)=>Ev.ld (w:=z) (g:=g) (o:=o+m * 13) (x:=y) (fun i c hi=>Og.std_cell hz (HC.out i c hi)))
     clear hy hf hcy hcf ea ef hfl2
     go_wp2
     refine wp_region_held (S:=Og.Std wr) (by kernel_rfl) ?_
     have S0:Og.Std wr { wr with drawn:=wr.drawn+1 }:=⟨rfl,rfl,rfl,Nat.le_refl _,fun _ _=>rfl⟩
     refine Og.held_take 0 _ (.pointer (some ⟨w.heap.size,0,none⟩)) _ rfl rfl (by kernel_rfl) (by kernel_rfl) (by kernel_rfl) (fun _ _ _ h=>h) S0 (fun z hz=>?_) (by simp only [Act.put,qa,qb,qc];rfl) ?_
     ·go_simp;try (with_reducible rfl)
     refine Og.held_take 1 _ (.slice (some ⟨g,o,none⟩) x.ev.length x.ce) _ rfl rfl (by kernel_rfl) (by kernel_rfl) (by kernel_rfl) (fun _ _ _ h=>h) S0 (fun z hz=>?_) (by simp only [Act.put,qa,qb,qc];rfl) ?_
     ·exact Og.load_run 22 (.tmp 132) rfl ⟨w.heap.size,0,none⟩ (by kernel_rfl) (run_load_slice Tryz.underlying22 (CX0.out z hz))
     refine Og.held_take 2 _ (.int .i64 (m:Int)) _ rfl rfl (by kernel_rfl) (by kernel_rfl) (by kernel_rfl) (fun _ _ _ h=>h) S0 (fun z hz=>?_) (by simp only [Act.put,qa,qb,qc];rfl) ?_
     ·go_simp;try (with_reducible rfl)
     refine Og.held_take 3 _ (.pointer (some ⟨g,o+m * 13,none⟩)) _ rfl rfl (by kernel_rfl) (by kernel_rfl) (by kernel_rfl) (fun _ _ _ h=>h) S0 (fun z hz=>?_) (by simp only [Act.put,qa,qb,qc];rfl) ?_
     ·go_simp;try (with_reducible rfl)
     refine Og.held_take 4 _ (.agg (Ev.cells y).toArray) _ rfl rfl (by kernel_rfl) (by kernel_rfl) (by kernel_rfl) (fun _ _ _ h=>h) S0 (fun z hz=>?_) (by simp only [Act.put,qa,qb,qc];rfl) ?_
     ·exact Og.load_run 48 (.tmp 135) rfl ⟨g,o+m * 13,none⟩ (by kernel_rfl) (LY.out z hz)
     refine Og.held_take 5 _ (.pointer (some ⟨w.heap.size,1,none⟩)) _ rfl rfl (by kernel_rfl) (by kernel_rfl) (by kernel_rfl) (fun _ _ _ h=>h) S0 (fun z hz=>?_) (by simp only [Act.put,qa,qb,qc];rfl) ?_
     ·go_simp;try (with_reducible rfl)
     refine Og.held_take 6 _ (.slice (some ⟨gf,of,none⟩) x.fr.l.length x.fr.c) _ rfl rfl (by kernel_rfl) (by kernel_rfl) (by kernel_rfl) (fun _ _ _ h=>h) S0 (fun z hz=>?_) (by simp only [Act.put,qa,qb,qc];rfl) ?_
     ·exact Og.load_run 23 (.tmp 137) rfl ⟨w.heap.size,1,none⟩ (by kernel_rfl) (run_load_slice Tryz.underlying23 (CX1.out z hz))
     refine Og.held_take 7 _ (.int .i64 (m:Int)) _ rfl rfl (by kernel_rfl) (by kernel_rfl) (by kernel_rfl) (fun _ _ _ h=>h) S0 (fun z hz=>?_) (by simp only [Act.put,qa,qb,qc];rfl) ?_
     ·go_simp;try (with_reducible rfl)
     refine Og.held_take 8 _ (.pointer (some ⟨gf,of+m,none⟩)) _ rfl rfl (by kernel_rfl) (by kernel_rfl) (by kernel_rfl) (fun _ _ _ h=>h) S0 (fun z hz=>?_) (by simp only [Act.put,qa,qb,qc];rfl) ?_
     ·go_simp;try (with_reducible rfl)
     refine Og.held_take 9 _ (.int .i64 f) _ rfl rfl (by kernel_rfl) (by kernel_rfl) (by kernel_rfl) (fun _ _ _ h=>h) S0 (fun z hz=>?_) (by simp only [Act.put,qa,qb,qc];rfl) ?_
     ·have cf:=Og.std_cell hz HCF.out;go_simp;try (with_reducible rfl)
     refine Og.oneA (p:=10) (s:=11) (q:=12) (dp:=10) (x1:=136) (dq:=11) (T:=48) (Z:=(Ev.cells Ev.R0).toArray) (c:=(Ev.cells y).toArray) (v:=.int .i64 f)
      ⟨⟨_,rfl,rfl,rfl,fun ρ w=>by kernel_rfl⟩,⟨_,rfl,rfl,rfl,rfl⟩,⟨_,141,rfl,rfl,rfl,rfl,by decide,by kernel_rfl⟩,(by kernel_rfl),(by kernel_rfl),(by kernel_rfl),(by kernel_rfl),(by kernel_rfl),of_decide_eq_true (by kernel_rfl),(by decide),rfl,(by kernel_rfl),(by kernel_rfl)⟩ S0 ?_
     intro W2 ge HT
     simp only [Act.put,qa,qb,qc]
     have RW:=qH HT.row;have B2:=qH HT.below
     clear HT S0
     obtain⟨bl,hbl⟩:∃ b,Ev.loads y.k=b:=⟨_,rfl⟩
     have HBL:=qH hbl;clear hbl
     go_wp2_with ((with_reducible refine qG 142 ?_);refine wpList_load_row rfl 48 (.tmp 10) rfl ge (by kernel_rfl) 48 (Ev.cells y).toArray (0,0) _ RW.out Tryz.underlying48 rfl (by kernel_rfl) ?_)
     refine(rloads_is HBL.out _).mono ?_
     rintro e W3 ⟨rfl,hb⟩
     have RW3:=qH ((hb.block ge (qL RW.out)).trans RW.out)
     have BR3:=qH (HBR2.out.trans ((B2.out.trans (hb.mono B2.out.size)).mono HBR2.out.size));clear hb
     cases bl
     ·by_cases hf1:f=-1
      ·subst hf1
       have HFA:=qH (show Ev.fromAt x.ev x.fr.l m=true by rw [HFM.out,HBL.out];rfl)
       have HEND:=BR3
       go_wp2
       go_roundw
       case rel =>
        refine⟨m+1,by omega,by go_num,fun j hj=>?_,HEND.out⟩
        rcases Nat.lt_or_eq_of_le (Nat.le_of_lt_succ hj) with h | h
        ·exact HALL2.out j h
        ·subst h;exact HFA.out
       case measure=>simp [intOf];omega
      ·have tf:(f != -1)=true:=by simpa using hf1
       have HFA:=qH (show Ev.fromAt x.ev x.fr.l m=false by rw [HFM.out,HBL.out];simpa using hf1)
       have HEND:=BR3
       clear hf1
       go_wp2
       go_ret
       exact⟨by rw [HNO.out HFA.out];rfl,BW.out _ HEND.out⟩
     have HFM2:=qH (show Ev.fromAt x.ev x.fr.l m=Ev.readOk x.ev m f by rw [HFM.out,HBL.out];rfl)
     have HRO:=qH (show Ev.readOk x.ev m f=(Ev.inB f x.ev.length&&!(f==m)&&Ev.stores (Ev.nth x.ev f).k&&(Ev.nth x.ev f).a==y.a&&(Ev.nth x.ev f).v==y.r) by unfold Ev.readOk;rw [HYN.out])
     have RX3:=qH (Ev.exrow (BX.out W3 BR3.out))
     have cxz:∀ z:Og.On W3.heap.size W3,z.x.cell? ⟨w.heap.size,0,none⟩=some (.slice (some ⟨g,o,none⟩) x.ev.length x.ce):=fun z=>Og.cellB z (by rw [← HEA.out];exact Ev.xcell0 RX3.out)
     have cya:∀ z:Og.On W3.heap.size W3,z.x.cell? ⟨ge,2,none⟩=some (.int .u32 y.a):=fun z=>Og.cellB z (by rw [qC RW3.out];rfl)
     have cyr:∀ z:Og.On W3.heap.size W3,z.x.cell? ⟨ge,4,none⟩=some (.int .u32 y.r):=fun z=>Og.cellB z (by rw [qC RW3.out];rfl)
     by_cases hA:f < 0
     ·as_aux_lemma =>
      have tA:decide (f < 0)=true:=decide_eq_true hA
      have HFA:=qH (show Ev.fromAt x.ev x.fr.l m=false by rw [HFM2.out,HRO.out];unfold Ev.inB;rw [decide_eq_false (show ¬ 0≤f by omega)];rfl)
      clear hA
      go_wp2
      refine Og.regionB (by kernel_rfl) (by kernel_rfl) ?_
      repeat (first
       | go_big_quiet_skip
       | (go_big_quiet_want
          first
           | (go_big_quiet_op
              first
               | go_big_quiet_on)))
      refine wpQuiet_nil ?_
      intro _ hw'
      obtain⟨q9,hw''⟩:=hw'
      subst hw''
      have HEND:=qH (BR3.out.trans (q9.b.mono BR3.out.size))
      go_wp2_with fail
      go_ret
      exact⟨by rw [HNO.out HFA.out];rfl,BW.out _ HEND.out⟩
     have tA:decide (f < 0)=false:=decide_eq_false hA
     by_cases hB:(x.ev.length:Int)≤f
     ·as_aux_lemma =>
      have tB:decide ((x.ev.length:Int)≤f)=true:=decide_eq_true hB
      have HFA:=qH (show Ev.fromAt x.ev x.fr.l m=false by rw [HFM2.out,HRO.out];unfold Ev.inB;rw [decide_eq_false (show ¬ f < (x.ev.length:Int) by omega)];simp)
      clear hA hB
      go_wp2
      refine Og.regionB (by kernel_rfl) (by kernel_rfl) ?_
      repeat (first
       | go_big_quiet_skip
       | (go_big_quiet_want
          first
           | (go_big_quiet_op
              first
               | go_big_quiet_on)))
      refine wpQuiet_nil ?_
      intro _ hw'
      obtain⟨q9,hw''⟩:=hw'
      subst hw''
      have HEND:=qH (BR3.out.trans (q9.b.mono BR3.out.size))
      go_wp2_with fail
      go_ret
      exact⟨by rw [HNO.out HFA.out];rfl,BW.out _ HEND.out⟩
     obtain⟨fn,rfl⟩:∃ fn:Nat,f=fn:=⟨f.toNat,by omega⟩
     have hfn:fn < x.ev.length:=by omega
     have hfi:(fn:Int) < (x.ev.length:Int):=by omega
     have tB:decide ((x.ev.length:Int)≤(fn:Int))=false:=decide_eq_false (by omega)
     have tB2:decide (x.ev.length≤fn)=false:=decide_eq_false (by omega)
     have HIB:=qH (show Ev.inB (fn:Int) (x.ev.length:Int)=true by unfold Ev.inB;rw [decide_eq_true hfi];simp)
     clear hA hB
     by_cases hC:fn=m
     ·as_aux_lemma =>
      have tC:(fn==m)=true:=by simpa using hC
      have tC2:((fn:Int)==(m:Int))=true:=by simp [hC]
      have HFA:=qH (show Ev.fromAt x.ev x.fr.l m=false by rw [HFM2.out,HRO.out,tC2];simp)
      clear hC
      go_wp2
      refine Og.regionB (by kernel_rfl) (by kernel_rfl) ?_
      repeat (first
       | go_big_quiet_skip
       | (go_big_quiet_want
          first
           | (go_big_quiet_op
              first
               | go_big_quiet_on)))
      refine wpQuiet_nil ?_
      intro _ hw'
      obtain⟨q9,hw''⟩:=hw'
      subst hw''
      have HEND:=qH (BR3.out.trans (q9.b.mono BR3.out.size))
      go_wp2_with fail
      go_ret
      exact⟨by rw [HNO.out HFA.out];rfl,BW.out _ HEND.out⟩
     have tC:(fn==m)=false:=by simpa using hC
     have tC2:((fn:Int)==(m:Int))=false:=by simp;omega
     clear hC
     obtain⟨yf,hyf⟩:∃ yf,x.ev[fn]?=some yf:=⟨_,List.getElem?_eq_getElem hfn⟩
     obtain⟨g',o',eg,hcf⟩:=HIN.out.ev.at_ hyf
     obtain⟨rfl,rfl⟩:g'=g∧o'=o:=by rw [HEA.out] at eg;cases eg;exact⟨rfl,rfl⟩
     have HRO2:=qH (show Ev.readOk x.ev m fn=(Ev.stores yf.k&&yf.a==y.a&&yf.v==y.r) by rw [HRO.out,HIB.out,tC2,Ev.nth_some hyf];simp)
     have hcf2:∀ z:Og.On W3.heap.size W3,∀ i c,(Ev.cells yf)[i]?=some c→z.x.cell? ⟨g',o'+fn * 13+i,none⟩=some c:=fun z i c hi=>Og.cellB z (Ev.kp_below (BW.out W3 BR3.out) _ _ (hcf i c hi))
     have LYF:=qH (fun z:Og.On W3.heap.size W3=>Ev.ld (hcf2 z))
     have cfa:∀ z:Og.On W3.heap.size W3,z.x.cell? ⟨g',o'+fn * 13+2,none⟩=some (.int .u32 yf.a):=fun z=>hcf2 z 2 _ rfl
     have cfv:∀ z:Og.On W3.heap.size W3,z.x.cell? ⟨g',o'+fn * 13+3,none⟩=some (.int .u32 yf.v):=fun z=>hcf2 z 3 _ rfl
     clear hyf eg hcf hcf2
     obtain⟨bs,hbs⟩:∃ b,Ev.stores yf.k=b:=⟨_,rfl⟩
     have HSF:=qH hbs;clear hbs
     cases bs
     ·as_aux_lemma =>
      have HFA:=qH (show Ev.fromAt x.ev x.fr.l m=false by rw [HFM2.out,HRO2.out,HSF.out];simp)
      go_wp2
      refine Og.regionB (by kernel_rfl) (by kernel_rfl) ?_
      repeat (first
       | go_big_quiet_skip
       | (go_big_quiet_want
          first
           | (refine Og.quiet_load 48 (.tmp 163) rfl (.agg (Ev.cells yf).toArray) ⟨g',o'+fn * 13,none⟩ _ rfl (by rintro _ ⟨z,rfl⟩;exact LYF.out z) (by simp only [Act.put,qa,qb,qc];rfl) ?_
              go_big_quiet_on)
           | (go_big_quiet_op
              first
               | go_big_quiet_on
               | (apply Exists.intro
                  refine⟨fun z=>?_,?_⟩
                  ·first
                    | exact Og.callB (rstores_is HSF.out _)
                  go_big_quiet_on))))
      refine wpQuiet_nil ?_
      intro _ hw'
      obtain⟨q9,hw''⟩:=hw'
      subst hw''
      have HEND:=qH (BR3.out.trans (q9.b.mono BR3.out.size))
      go_wp2_with fail
      go_ret
      exact⟨by rw [HNO.out HFA.out];rfl,BW.out _ HEND.out⟩
     by_cases hD:yf.a=y.a
     case neg =>
      as_aux_lemma =>
      have tD:(yf.a != y.a)=true:=by simpa using hD
      have HFA:=qH (show Ev.fromAt x.ev x.fr.l m=false by rw [HFM2.out,HRO2.out,show(yf.a==y.a)=false by simpa using hD];simp)
      clear hD
      go_wp2
      refine Og.regionB (by kernel_rfl) (by kernel_rfl) ?_
      repeat (first
       | go_big_quiet_skip
       | (go_big_quiet_want
          first
           | (refine Og.quiet_load 48 (.tmp 163) rfl (.agg (Ev.cells yf).toArray) ⟨g',o'+fn * 13,none⟩ _ rfl (by rintro _ ⟨z,rfl⟩;exact LYF.out z) (by simp only [Act.put,qa,qb,qc];rfl) ?_
              go_big_quiet_on)
           | (go_big_quiet_op
              first
               | go_big_quiet_on
               | (apply Exists.intro
                  refine⟨fun z=>?_,?_⟩
                  ·first
                    | exact Og.callB (rstores_is HSF.out _)
                  go_big_quiet_on))))
      refine wpQuiet_nil ?_
      intro _ hw'
      obtain⟨q9,hw''⟩:=hw'
      subst hw''
      have HEND:=qH (BR3.out.trans (q9.b.mono BR3.out.size))
      go_wp2_with fail
      go_ret
      exact⟨by rw [HNO.out HFA.out];rfl,BW.out _ HEND.out⟩
     have tD:(yf.a != y.a)=false:=by simp [hD]
     have HDE:=qH (show(yf.a==y.a)=true by simp [hD]);clear hD
     by_cases hE:yf.v=y.r
     case neg =>
      as_aux_lemma =>
      have tE:(yf.v != y.r)=true:=by simpa using hE
      have HFA:=qH (show Ev.fromAt x.ev x.fr.l m=false by rw [HFM2.out,HRO2.out,show(yf.v==y.r)=false by simpa using hE];simp)
      clear hE
      go_wp2
      refine Og.regionB (by kernel_rfl) (by kernel_rfl) ?_
      repeat (first
       | go_big_quiet_skip
       | (go_big_quiet_want
          first
           | (refine Og.quiet_load 48 (.tmp 163) rfl (.agg (Ev.cells yf).toArray) ⟨g',o'+fn * 13,none⟩ _ rfl (by rintro _ ⟨z,rfl⟩;exact LYF.out z) (by simp only [Act.put,qa,qb,qc];rfl) ?_
              go_big_quiet_on)
           | (go_big_quiet_op
              first
               | go_big_quiet_on
               | (apply Exists.intro
                  refine⟨fun z=>?_,?_⟩
                  ·first
                    | exact Og.callB (rstores_is HSF.out _)
                  go_big_quiet_on))))
      refine wpQuiet_nil ?_
      intro _ hw'
      obtain⟨q9,hw''⟩:=hw'
      subst hw''
      have HEND:=qH (BR3.out.trans (q9.b.mono BR3.out.size))
      go_wp2_with fail
      go_ret
      exact⟨by rw [HNO.out HFA.out];rfl,BW.out _ HEND.out⟩
     have tE:(yf.v != y.r)=false:=by simp [hE]
     have HFA:=qH (show Ev.fromAt x.ev x.fr.l m=true by rw [HFM2.out,HRO2.out,HSF.out,HDE.out,show(yf.v==y.r)=true by simp [hE]];rfl)
     clear hE
     go_wp2
     refine Og.regionB (by kernel_rfl) (by kernel_rfl) ?_
     repeat (first
      | go_big_quiet_skip
      | (go_big_quiet_want
         first
          | (refine Og.quiet_load 48 (.tmp 163) rfl (.agg (Ev.cells yf).toArray) ⟨g',o'+fn * 13,none⟩ _ rfl (by rintro _ ⟨z,rfl⟩;exact LYF.out z) (by simp only [Act.put,qa,qb,qc];rfl) ?_
             go_big_quiet_on)
          | (go_big_quiet_op
             first
              | go_big_quiet_on
              | (apply Exists.intro
                 refine⟨fun z=>?_,?_⟩
                 ·first
                   | exact Og.callB (rstores_is HSF.out _)
                 go_big_quiet_on))))
     refine wpQuiet_nil ?_
     intro _ hw'
     obtain⟨q9,hw''⟩:=hw'
     subst hw''
     have HEND:=qH (BR3.out.trans (q9.b.mono BR3.out.size))
     go_wp2_with fail
     go_roundw
     case rel =>
      refine⟨m+1,by omega,by go_num,fun j hj=>?_,HEND.out⟩
      rcases Nat.lt_or_eq_of_le (Nat.le_of_lt_succ hj) with h | h
      ·exact HALL2.out j h
      ·subst h;exact HFA.out
     case measure=>simp [intOf];omega
    ·have hmi:¬ (m:Int) < (x.ev.length:Int):=by omega
     have hfl2:=HFL.out
     have HFR:=qH (show Ev.fromOk x.ev x.fr.l=true by
      unfold Ev.fromOk
      rw [List.all_eq_true.2]
      ·simp [hfl2]
      ·intro j hj;exact HALL2.out j (by have:=List.mem_range.1 hj;omega))
     have cx2:=Ev.xcell2 (Ev.exrow (BX.out wr HBR2.out))
     clear hfl2
     have hbl:=HBEG.out
     by_cases hod:x.od.length=l.length
     case neg =>
      have t3:((x.od.length:Int) != (l.length:Int))=true:=by simp;omega
      have t3':(x.od.length != l.length)=true:=by simpa using hod
      have HRES:=qH (show Ev.check x=162 from Ev.check162 hn HEV.out HFR.out (by
       unfold Ev.orderOk
       rw [show (x.od.length==Ev.beg x.ev)=false by simp;omega];rfl))
      clear hod hbl
      go_wp2
      go_ret
      exact⟨by rw [HRES.out];rfl,BW.out _ HBR2.out⟩
     have t3:((x.od.length:Int) != (l.length:Int))=false:=by simp [hod]
     have t3':(x.od.length != l.length)=false:=by simpa using hod
     have HOD:=qH (show x.od.length=l.length∧l.length=Ev.beg x.ev from ⟨hod,hbl⟩)
     have HB2:=HBR2
     clear hod hbl
     go_wp2
     clear cx2 t3 t3'
     go_loopw [12,13,14,15] (fun i _ _ _ wr=>∃ a:Nat,a≤l.length∧i=.int .i64 (a:Int)∧(∀ j,j < a→Ev.orderAt x.ev x.od j=true)∧Below W1.heap.size W1 wr) (fun i _ _ _ _=>l.length - (intOf i).toNat)
     case atStart=>exact⟨0,Nat.zero_le _,rfl,fun j hj=>absurd hj (by omega),HB2.out⟩
     case round =>
      obtain⟨a,ha,rfl,hall3,hbr3⟩:=hrel
      have HALL3:=qH hall3;have HBR3:=qH hbr3;clear hall3 hbr3
      by_cases hal:a < l.length
      ·have HAL:=qH hal
       have hodl:=HOD.out
       obtain⟨s,hs⟩:∃ s,x.od[a]?=some s:=⟨_,List.getElem?_eq_getElem (by omega)⟩
       obtain⟨gv,hav,hcv⟩:=CA.out a hal
       obtain⟨A,hA⟩:∃ A,l.getD a 0=A:=⟨_,rfl⟩
       rw [hA] at hcv
       have HCV:=qH hcv
       obtain⟨k5,ka⟩:=HFIVE.out a hal
       rw [hA] at ka
       have HOR:=qH (Ev.ord_iff hs ka)
       have HNO:=qH (show ¬ Ev.rOrd x.ev A a s.l→Ev.check x=162 from fun e=>Ev.check162 hn HEV.out HFR.out (by
        unfold Ev.orderOk
        rw [Bool.and_eq_false_iff];right
        rw [List.all_eq_false];exact⟨a,List.mem_range.2 (by omega),fun h=>e ((Ev.ord_iff hs ka).1 h)⟩))
       have HSIN:=qH ((HIN.out.od.kp (Ev.kp_below (BW.out W1 (Below.refl _ _)))).ok_ hs)
       have hle2:=HAD.out.le
       have HPOS:=qH (show 0 < Ev.cnt x.ev A by
        have h1:=List.getElem?_eq_getElem (show a < x.ev.length by omega)
        have h2:=Ev.nth_some h1
        rw [h2] at k5 ka
        have:=Ev.cnt_pos h1 (by rw [k5];rfl)
        rwa [ka] at this)
       obtain⟨go,oo,eo,hco⟩:=(HIN.out.od.kp (Ev.kp_below (BW.out wr HBR3.out))).at_ hs
       have cx2:=Ev.xcell2 (Ev.exrow (BX.out wr HBR3.out))
       rw [eo] at cx2
       have hsl:=HSIN.out.2.1;have hsm:=HSIN.out.2.2.1
       have hali:(a:Int) < (l.length:Int):=by omega
       have haoi:(a:Int) < (x.od.length:Int):=by omega
       have HAV:=qH hav
       rw [hav]
       clear hs hav hcv k5 ka eo hA hodl hle2
       go_wp2
       clear cx2 hco
       go_loopw [14,15] (fun mv i w4=>∃ i':Nat,i'≤x.ev.length∧i=.int .i64 (i':Int)∧mv=.int .i64 (Ev.cnt (x.ev.take i') A:Nat)∧(∀ j:Nat,j < i'→Ev.stores (Ev.nth x.ev j).k=true→(Ev.nth x.ev j).a=A→(j:Int) ∈ s.l)∧Below W1.heap.size W1 w4) (fun _ i _=>x.ev.length - (intOf i).toNat)
       case atStart=>exact⟨0,Nat.zero_le _,rfl,rfl,fun j hj=>absurd hj (by omega),HBR3.out⟩
       case round =>
        obtain⟨i,hi,rfl,rfl,hmem,hbr4⟩:=hrel
        have HMEM:=qH hmem;have HBR4:=qH hbr4;clear hmem hbr4
        have hcl:=Ev.cnt_le (x.ev.take i) A
        rw [List.length_take] at hcl
        obtain⟨mn,hmn⟩:∃ mn:Nat,mn=Ev.cnt (x.ev.take i) A:=⟨_,rfl⟩
        have HMN:=qH hmn
        rw [← hmn] at hcl ⊢
        have hmi:(mn:Int)≤(i:Int):=by omega
        clear hmn hcl
        have BA:=qH (BW.out _ HBR4.out)
        by_cases hlt:i < x.ev.length
        ·obtain⟨y,hy⟩:∃ y,x.ev[i]?=some y:=⟨_,List.getElem?_eq_getElem hlt⟩
         obtain⟨g,o,ea,hcy⟩:=(HIN.out.ev.kp (Ev.kp_below BA.out)).at_ hy
         have HYN:=qH (Ev.nth_some hy)
         have HTK:=qH (show x.ev.take (i+1)=x.ev.take i++[y] by rw [List.take_add_one,hy];rfl)
         have hii:(i:Int) < (x.ev.length:Int):=by omega
         have RX4:=qH (Ev.exrow (BX.out wr HBR4.out))
         have cxz:∀ z:Og.On wr.heap.size wr,z.x.cell? ⟨w.heap.size,0,none⟩=some (.slice (some ⟨g,o,none⟩) x.ev.length x.ce):=fun z=>Og.cellB z (by rw [← ea];exact Ev.xcell0 RX4.out)
         have hcz:∀ z:Og.On wr.heap.size wr,∀ i' c,(Ev.cells y)[i']?=some c→z.x.cell? ⟨g,o+i * 13+i',none⟩=some c:=fun z i' c hi=>Og.cellB z (hcy i' c hi)
         have LY:=qH (fun z:Og.On wr.heap.size wr=>Ev.ld (hcz z))
         have cya:∀ z:Og.On wr.heap.size wr,z.x.cell? ⟨g,o+i * 13+2,none⟩=some (.int .u32 y.a):=fun z=>hcz z 2 _ rfl
         have cav:∀ z:Og.On wr.heap.size wr,z.x.cell? ⟨gv,a,none⟩=some (.int .u32 A):=fun z=>Og.cellB z (Ev.kp_below HBR4.out _ _ HCV.out)
         have HEQ:=qH (show ∀ j,x.ev.length=j→j=x.ev.length from fun j h=>h.symm)
         have hal:=HAL.out
         have hali:(a:Int) < (l.length:Int):=by omega
         clear hy ea hcy hcz
         obtain⟨bs,hbs⟩:∃ b,Ev.stores y.k=b:=⟨_,rfl⟩
         have HST:=qH hbs;clear hbs
         cases bs
         ·as_aux_lemma =>
          go_wp2
          refine Og.regionB (by kernel_rfl) (by kernel_rfl) ?_
          repeat (first
           | go_big_quiet_skip
           | (go_big_quiet_want
              first
               | (refine Og.quiet_load 48 (.tmp 213) rfl (.agg (Ev.cells y).toArray) ⟨g,o+i * 13,none⟩ _ rfl (by rintro _ ⟨z,rfl⟩;exact LY.out z) (by simp only [Act.put,qa,qb,qc];rfl) ?_
                  go_big_quiet_on)
               | (go_big_quiet_op
                  first
                   | go_big_quiet_on
                   | (apply Exists.intro
                      refine⟨fun z=>?_,?_⟩
                      ·first
                        | exact Og.callB (rstores_is HST.out _)
                      go_big_quiet_on))))
          refine wpQuiet_nil ?_
          intro _ hw'
          obtain⟨q9,hw''⟩:=hw'
          subst hw''
          have HEND:=qH (HBR4.out.trans (q9.b.mono HBR4.out.size))
          go_wp2_with fail
          go_roundw
          case rel =>
           refine⟨i+1,by omega,by go_num,?_,?_,HEND.out⟩
           ·rw [HTK.out,Ev.cnt_snoc,HST.out,← HMN.out];go_num
           ·intro j hj hs ha
            rcases Nat.lt_or_eq_of_le (Nat.le_of_lt_succ hj) with h | h
            ·exact HMEM.out j h hs ha
            ·subst h;rw [HYN.out] at hs ha;exact absurd hs (by rw [HST.out];simp)
          case measure=>simp [intOf];omega
         by_cases hD:y.a=A
         case neg =>
          as_aux_lemma =>
          have tD:(y.a==A)=false:=by simpa using hD
          have HND:=qH hD;clear hD
          go_wp2
          refine Og.regionB (by kernel_rfl) (by kernel_rfl) ?_
          repeat (first
           | go_big_quiet_skip
           | (go_big_quiet_want
              first
               | (refine Og.quiet_load 48 (.tmp 213) rfl (.agg (Ev.cells y).toArray) ⟨g,o+i * 13,none⟩ _ rfl (by rintro _ ⟨z,rfl⟩;exact LY.out z) (by simp only [Act.put,qa,qb,qc];rfl) ?_
                  go_big_quiet_on)
               | (go_big_quiet_op
                  first
                   | go_big_quiet_on
                   | (apply Exists.intro
                      refine⟨fun z=>?_,?_⟩
                      ·first
                        | exact Og.callB (rstores_is HST.out _)
                      go_big_quiet_on))))
          refine wpQuiet_nil ?_
          intro _ hw'
          obtain⟨q9,hw''⟩:=hw'
          subst hw''
          have HEND:=qH (HBR4.out.trans (q9.b.mono HBR4.out.size))
          go_wp2_with fail
          go_roundw
          case rel =>
           refine⟨i+1,by omega,by go_num,?_,?_,HEND.out⟩
           ·rw [HTK.out,Ev.cnt_snoc,if_neg (fun e=>HND.out e.2),← HMN.out];go_num
           ·intro j hj hs ha
            rcases Nat.lt_or_eq_of_le (Nat.le_of_lt_succ hj) with h | h
            ·exact HMEM.out j h hs ha
            ·subst h;rw [HYN.out] at hs ha;exact absurd ha HND.out
          case measure=>simp [intOf];omega
         have tD:(y.a==A)=true:=by simp [hD]
         have HD:=qH hD;clear hD
         go_wp2
         refine Og.regionB (by kernel_rfl) (by kernel_rfl) ?_
         repeat (first
          | go_big_quiet_skip
          | (go_big_quiet_want
             first
              | (refine Og.quiet_load 48 (.tmp 213) rfl (.agg (Ev.cells y).toArray) ⟨g,o+i * 13,none⟩ _ rfl (by rintro _ ⟨z,rfl⟩;exact LY.out z) (by simp only [Act.put,qa,qb,qc];rfl) ?_
                 go_big_quiet_on)
              | (go_big_quiet_op
                 first
                  | go_big_quiet_on
                  | (apply Exists.intro
                     refine⟨fun z=>?_,?_⟩
                     ·first
                       | exact Og.callB (rstores_is HST.out _)
                     go_big_quiet_on))))
         refine wpQuiet_nil ?_
         intro _ hw'
         obtain⟨q9,hw''⟩:=hw'
         subst hw''
         have HEND:=qH (HBR4.out.trans (q9.b.mono HBR4.out.size))
         obtain⟨pa,hpa⟩:∃ pa,Ev.at_ s.l (i:Int)=pa:=⟨_,rfl⟩
         have HPA:=qH hpa;clear hpa
         go_wp2_with fail
         refine(rat_is HPA.out _ (HSIN.out.kp (Ev.kp_below HEND.out))).mono ?_
         rintro e W5 ⟨rfl,rfl⟩
         by_cases hp:pa < 0
         ·have tp:decide (pa < 0)=true:=decide_eq_true hp
          have HNM:=qH ((Ev.at_neg s.l (i:Int)).1 (by rw [HPA.out];exact hp))
          clear hp
          go_wp2_with fail
          go_ret
          refine⟨by rw [HNO.out (fun hr=>HNM.out (hr.1 i hlt (by rw [HYN.out];exact HST.out) (by rw [HYN.out];exact HD.out)))];rfl,BW.out _ HEND.out⟩
         ·have tp:decide (pa < 0)=false:=decide_eq_false hp
          have HM:=qH (show(i:Int) ∈ s.l by
           apply Classical.byContradiction
           intro hno
           have:=(Ev.at_neg s.l (i:Int)).2 hno
           rw [HPA.out] at this
           exact hp this)
          clear hp
          go_wp2_with fail
          go_roundw
          case rel =>
           refine⟨i+1,by omega,by go_num,?_,?_,HEND.out⟩
           ·rw [HTK.out,Ev.cnt_snoc,if_pos ⟨HST.out,HD.out⟩,← HMN.out];go_num
           ·intro j hj hs ha
            rcases Nat.lt_or_eq_of_le (Nat.le_of_lt_succ hj) with h | h
            ·exact HMEM.out j h hs ha
            ·subst h;rw [HYN.out] at hs ha;exact HM.out
          case measure=>simp [intOf];omega
        ·as_aux_lemma =>
         have hii:¬ (i:Int) < (x.ev.length:Int):=by omega
         have hie:i=x.ev.length:=by omega
         have HR1:=qH (show ∀ j:Nat,j < x.ev.length→Ev.stores (Ev.nth x.ev j).k=true→(Ev.nth x.ev j).a=A→(j:Int) ∈ s.l from fun j hj=>HMEM.out j (by omega))
         have HMN2:=qH (show mn=Ev.cnt x.ev A by have:=HMN.out;rwa [hie,List.take_length] at this)
         clear hie
         by_cases hls:s.l.length=mn
         case neg =>
          have t1:((s.l.length:Int) != (mn:Int))=true:=by simp;omega
          have t1':(s.l.length != mn)=true:=by simpa using hls
          have HQ:=qH hls;clear hls
          go_wp2
          go_ret
          exact⟨by rw [HNO.out (fun hr=>HQ.out (by rw [hr.2.1,HMN2.out]))];rfl,BW.out _ HBR4.out⟩
         have t1:((s.l.length:Int) != (mn:Int))=false:=by simp [hls]
         have t1':(s.l.length != mn)=false:=by simpa using hls
         have hpos:=HPOS.out
         obtain⟨f,hf⟩:∃ f,s.l[0]?=some f:=⟨_,List.getElem?_eq_getElem (by have:=HMN2.out;omega)⟩
         have hl0i:(0:Int) < (s.l.length:Int):=by have:=HMN2.out;omega
         have HGD:=qH (show s.l.getD 0 0=f by simp [List.getD,hf])
         obtain⟨gs,os,es,cs⟩:=(HSIN.out.kp (Ev.kp_below HBR4.out)).at_ hf
         rw [Nat.add_zero] at cs
         have HLS:=qH hls
         have HES:=qH es
         clear hf hls hpos
         rw [es]
         clear es
         by_cases h2:f=(a:Int)
         ·have q2:(f != (a:Int))=false:=by simp [h2]
          have HOA:=qH (show Ev.orderAt x.ev x.od a=true from HOR.out.2 ⟨HR1.out,by rw [HLS.out,HMN2.out],by rw [HGD.out,h2]⟩)
          clear h2
          go_wp2
          go_roundw
          case rel =>
           refine⟨a+1,by omega,by go_num,fun j hj=>?_,HBR4.out⟩
           rcases Nat.lt_or_eq_of_le (Nat.le_of_lt_succ hj) with h | h
           ·exact HALL3.out j h
           ·subst h;exact HOA.out
          case measure=>simp [intOf];omega
         ·have q2:(f != (a:Int))=true:=by simpa using h2
          have HQ:=qH h2;clear h2
          go_wp2
          go_ret
          exact⟨by rw [HNO.out (fun hr=>HQ.out (by rw [← HGD.out];exact hr.2.2))];rfl,BW.out _ HBR4.out⟩
      ·have hali:¬ (a:Int) < (l.length:Int):=by omega
       have hodl:=HOD.out
       have HRES:=qH (show Ev.check x=0 from Ev.check0 hn HEV.out HFR.out (by
        unfold Ev.orderOk
        rw [show x.od.length=Ev.beg x.ev by omega,List.all_eq_true.2]
        ·simp
        ·intro j hj;exact HALL3.out j (by have:=List.mem_range.1 hj;omega)))
       clear hodl
       go_wp2
       go_ret
       exact⟨by rw [HRES.out];rfl,BW.out _ HBR3.out⟩
end Go.Proofs.YtnjnpbabgefaeaaGreat
end
