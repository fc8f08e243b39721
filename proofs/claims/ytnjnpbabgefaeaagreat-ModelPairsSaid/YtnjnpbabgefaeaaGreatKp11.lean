import Derived.Test.YtnjnpbabgefaeaaGreatKp10
import Derived.Test.YtnjnpbabgefaeaaGreatKp05
import Derived.Test.YtnjnpbabgefaeaaGreatKp01
import Derived.WalkKit
import Derived.Deep.QuietTactic
import Derived.Laws.Rows
import Derived.Test.YtnjnpbabgefaeaaGreatKpH
set_option maxRecDepth 100000
set_option maxHeartbeats 4000000
set_option linter.unusedVariables false
set_option linter.unusedSimpArgs false
section
namespace Go.Proofs.YtnjnpbabgefaeaaGreat
open Go.RowKit
namespace Ev
theorem exrow {w W:World} {x:X} (hb:Below (w.heap.size+1) (w.alloc (.cells (xcells x).toArray 26)) W):W.heap[w.heap.size]?=some (.cells (xcells x).toArray 26 (0,0)) :=
 (hb.block w.heap.size (by omega)).trans (heap_alloc_new w (.cells (xcells x).toArray 26))
theorem xcell0 {W:World} {g:Nat} {x:X} (h:W.heap[g]?=some (.cells (xcells x).toArray 26 (0,0))):W.cell? ⟨g,0,none⟩=some (.slice x.ae x.ev.length x.ce):=by rw [qC h];rfl
theorem xcell1 {W:World} {g:Nat} {x:X} (h:W.heap[g]?=some (.cells (xcells x).toArray 26 (0,0))):W.cell? ⟨g,1,none⟩=some (.slice x.fr.a x.fr.l.length x.fr.c):=by rw [qC h];rfl
theorem xcell2 {W:World} {g:Nat} {x:X} (h:W.heap[g]?=some (.cells (xcells x).toArray 26 (0,0))):W.cell? ⟨g,2,none⟩=some (.slice x.ao x.od.length x.co):=by rw [qC h];rfl
end Ev
theorem rhangs_any (x:Ev.X) (n:Nat) (hn:n < x.ev.length) (S:Ev.Sl) (w:World) (hin:Ev.EvsIn w x.ae x.ce x.ev) (hS:Ev.IntsIn w S) :
 Calls Tryz.prog 30 #[.agg (Ev.xcells x).toArray,.int .i64 (n:Int),.slice S.a S.l.length S.c] w fun e w'=>e=.returned (.bool (Ev.hangGo x.ev n (Ev.nth x.ev n).h (-1) S.l))∧Below w.heap.size w w':=by
 obtain⟨x0,hx0⟩:∃ x0,x.ev[n]?=some x0:=⟨_,List.getElem?_eq_getElem hn⟩
 obtain⟨g,o,ea,hc0⟩:=hin.at_ hx0
 have hn0:=Ev.nth_some hx0
 have hmax:=hin.max;have hle:=hin.le
 have hsm:=hS.2.2.1;have hsl:=hS.2.1
 have HIN:=qH hin;have HS:=qH hS;have HC0:=qH hc0;have HEA:=qH ea
 rw [hn0]
 have hni:(n:Int) < (x.ev.length:Int):=by omega
 have R0:=qH (heap_alloc_new w (.cells (Ev.xcells x).toArray 26))
 have B0:=qH ((Below.refl w.heap.size w).alloc (Nat.le_refl _) (.cells (Ev.xcells x).toArray 26))
 have hsz:(w.alloc (.cells (Ev.xcells x).toArray 26)).heap.size=w.heap.size+1:=by simp only [World.size_alloc]
 have HSZ:=qH hsz
 clear hin hS hx0 hn0 hc0 ea hsz
 unfold Ev.xcells
 go_enter Tryz.func30,Tryz.ntmps30
 go_wp2
 go_loopw [7,8] (fun i _ wr=>∃ (m:Nat) (last:Int),m≤S.l.length∧i=.int .i64 (m:Int)∧-1≤last∧(m=0→last=-1)∧(∀ p,m=p+1→S.l[p]?=some last)∧Ev.hangGo x.ev n x0.h (-1) S.l=Ev.hangGo x.ev n x0.h last (S.l.drop m)∧Below (w.heap.size+1) (w.alloc (.cells (Ev.xcells x).toArray 26)) wr) (fun i _ _=>S.l.length - (intOf i).toNat)
 case atStart=>exact⟨0,-1,Nat.zero_le _,rfl,by omega,fun _=>rfl,fun p hp=>by omega,by simp,Below.refl _ _⟩
 case round =>
  obtain⟨m,last,hm,rfl,hlast,hm0,hm1,hgo,hbr⟩:=hrel
  have HBR:=qH hbr;have HGO:=qH hgo;have HM0:=qH hm0;have HM1:=qH hm1
  have BW:=qH (B0.out.trans (hbr.mono (Nat.le_succ _)))
  clear hbr hgo hm0 hm1
  by_cases hml:m < S.l.length
  ·obtain⟨d,hd⟩:∃ d,S.l[m]?=some d:=⟨_,List.getElem?_eq_getElem hml⟩
   have hdrop:S.l.drop m=d :: S.l.drop (m+1):=by
    rw [List.drop_eq_getElem_cons hml];congr 1;rw [List.getElem?_eq_getElem hml] at hd;exact Option.some.inj hd
   have hsin:=HS.out.kp (Ev.kp_below BW.out)
   obtain⟨g2,o2,e2,c2⟩:=hsin.at_ hd
   have hmi:(m:Int) < (S.l.length:Int):=by omega
   have HD:=qH hd;have HDR:=qH hdrop;have HSIN:=qH hsin
   clear hd hdrop hsin
   have HE2:=qH e2
   have cx:∀ z:Og.On wr.heap.size wr,z.x.cell? ⟨w.heap.size,0,none⟩=some (.slice x.ae x.ev.length x.ce):=fun z=>Og.cellB z (Ev.xcell0 (Ev.exrow HBR.out))
   rw [HEA.out] at cx
   rw [e2]
   clear e2
   by_cases hA:d < 0
   ·have HF:=qH (show Ev.hangGo x.ev n x0.h (-1) S.l=false by rw [HGO.out,HDR.out];simp [Ev.hangGo,show d≤last by omega])
    have tA:decide (d < 0)=true:=decide_eq_true hA
    go_wp2
    refine Og.regionB (by kernel_rfl) (by kernel_rfl) ?_
    repeat (first
     | go_big_quiet_skip
     | (go_big_quiet_want
        first
         | (go_big_quiet_op
            first
             | go_big_quiet_on)))
    refine wpQuiet_nil ?_
    intro _ hw'
    obtain⟨q9,hw''⟩:=hw'
    subst hw''
    have HEND:=qH (BW.out.trans (q9.b.mono BW.out.size))
    go_wp2_with fail
    go_ret
    exact⟨by rw [HF.out];rfl,HEND.out⟩
   have tA:decide (d < 0)=false:=decide_eq_false (by omega)
   by_cases hB:(n:Int)≤d
   ·have HF:=qH (show Ev.hangGo x.ev n x0.h (-1) S.l=false by rw [HGO.out,HDR.out];simp [Ev.hangGo,hB])
    have tB:decide ((n:Int)≤d)=true:=decide_eq_true hB
    go_wp2
    refine Og.regionB (by kernel_rfl) (by kernel_rfl) ?_
    repeat (first
     | go_big_quiet_skip
     | (go_big_quiet_want
        first
         | (go_big_quiet_op
            first
             | go_big_quiet_on)))
    refine wpQuiet_nil ?_
    intro _ hw'
    obtain⟨q9,hw''⟩:=hw'
    subst hw''
    have HEND:=qH (BW.out.trans (q9.b.mono BW.out.size))
    go_wp2_with fail
    go_ret
    exact⟨by rw [HF.out];rfl,HEND.out⟩
   have tB0:decide ((n:Int)≤d)=false:=decide_eq_false (by omega)
   obtain⟨dn,rfl⟩:∃ dn:Nat,d=dn:=⟨d.toNat,by omega⟩
   have hdn:dn < x.ev.length:=by omega
   obtain⟨y,hy⟩:∃ y,x.ev[dn]?=some y:=⟨_,List.getElem?_eq_getElem hdn⟩
   have hyn:=Ev.nth_some hy
   obtain⟨g',o',eg,hcy⟩:=HIN.out.at_ hy
   obtain⟨rfl,rfl⟩:g'=g∧o'=o:=by rw [HEA.out] at eg;cases eg;exact⟨rfl,rfl⟩
   have hcy2:∀ z:Og.On wr.heap.size wr,∀ i c,(Ev.cells y)[i]?=some c→z.x.cell? ⟨g',o'+dn * 13+i,none⟩=some c:=fun z i c hi =>
    Og.cellB z (Ev.kp_below BW.out _ _ (hcy i c hi))
   have LY:=qH (fun z:Og.On wr.heap.size wr=>Ev.ld (hcy2 z))
   have ch:∀ z:Og.On wr.heap.size wr,z.x.cell? ⟨g',o'+dn * 13,none⟩=some (.int .i64 y.h):=fun z=>hcy2 z 0 _ rfl
   have ce:∀ z:Og.On wr.heap.size wr,z.x.cell? ⟨g',o'+n * 13,none⟩=some (.int .i64 x0.h):=fun z =>
    Og.cellB z (Ev.kp_below BW.out _ _ (HC0.out 0 _ rfl))
   have hdi:(dn:Int) < (x.ev.length:Int):=by omega
   have tB:decide (n≤dn)=false:=decide_eq_false (by omega)
   have HY:=qH hyn
   have HNB:=qH hB
   clear eg hcy hcy2 hy hyn hA hB
   have hz:m=0∨∃ p,m=p+1:=by cases m;exact .inl rfl;exact .inr ⟨_,rfl⟩
   rcases hz with h0 | ⟨p,hp⟩
   ·have tz:decide (0 < (m:Int))=false:=decide_eq_false (by omega)
    have tz':decide (0 < m)=false:=decide_eq_false (by omega)
    have HL:=qH (HM0.out h0)
    have HLT:=qH (show last < (dn:Int) by rw [HL.out];omega)
    clear h0
    by_cases hD:y.h=x0.h
    case neg =>
     have HF:=qH (show Ev.hangGo x.ev n x0.h (-1) S.l=false by rw [HGO.out,HDR.out];simp only [Ev.hangGo];rw [HY.out];simp [hD])
     have tD:(y.h != x0.h)=true:=by simpa using hD
     clear hD
     go_wp2
     refine Og.regionB (by kernel_rfl) (by kernel_rfl) ?_
     repeat (first
      | go_big_quiet_skip
      | (go_big_quiet_want
         first
          | (go_big_quiet_op
             first
              | go_big_quiet_on)))
     refine wpQuiet_nil ?_
     intro _ hw'
     obtain⟨q9,hw''⟩:=hw'
     subst hw''
     have HEND:=qH (BW.out.trans (q9.b.mono BW.out.size))
     go_wp2_with fail
     go_ret
     exact⟨by rw [HF.out];rfl,HEND.out⟩
    have tD:(y.h != x0.h)=false:=by simp [hD]
    have HDD:=qH hD
    clear hD
    by_cases hE:Ev.loads y.k=true
    case neg =>
     have hE:Ev.loads y.k=false:=by simpa using hE
     have HF:=qH (show Ev.hangGo x.ev n x0.h (-1) S.l=false by rw [HGO.out,HDR.out];simp only [Ev.hangGo];rw [HY.out,hE];simp)
     go_wp2
     refine Og.regionB (by kernel_rfl) (by kernel_rfl) ?_
     repeat (first
      | go_big_quiet_skip
      | (go_big_quiet_want
         first
          | (refine Og.quiet_load 48 (.tmp 58) rfl (.agg (Ev.cells y).toArray) ⟨g',o'+dn * 13,none⟩ _ rfl (by rintro _ ⟨z,rfl⟩;exact LY.out z) (by simp only [Act.put,qa,qb,qc];rfl) ?_
             go_big_quiet_on)
          | (go_big_quiet_op
             first
              | go_big_quiet_on
              | (apply Exists.intro
                 refine⟨fun z=>?_,?_⟩
                 ·first
                   | exact Og.callB (rloads_any y _)
                 go_big_quiet_on))))
     refine wpQuiet_nil ?_
     intro _ hw'
     obtain⟨q9,hw''⟩:=hw'
     subst hw''
     rw [hE]
     have HEND:=qH (BW.out.trans (q9.b.mono BW.out.size))
     go_wp2_with fail
     go_ret
     exact⟨by rw [HF.out];rfl,HEND.out⟩
    have HG:=qH (show Ev.hangGo x.ev n x0.h last (S.l.drop m)=Ev.hangGo x.ev n x0.h dn (S.l.drop (m+1)) by
     have h1:=HLT.out;have h2:=HNB.out
     rw [HDR.out];simp only [Ev.hangGo];rw [HY.out,HDD.out,hE];simp;intro h;omega)
    go_wp2
    refine Og.regionB (by kernel_rfl) (by kernel_rfl) ?_
    repeat (first
     | go_big_quiet_skip
     | (go_big_quiet_want
        first
         | (refine Og.quiet_load 48 (.tmp 58) rfl (.agg (Ev.cells y).toArray) ⟨g',o'+dn * 13,none⟩ _ rfl (by rintro _ ⟨z,rfl⟩;exact LY.out z) (by simp only [Act.put,qa,qb,qc];rfl) ?_
            go_big_quiet_on)
         | (go_big_quiet_op
            first
             | go_big_quiet_on
             | (apply Exists.intro
                refine⟨fun z=>?_,?_⟩
                ·first
                  | exact Og.callB (rloads_any y _)
                go_big_quiet_on))))
    refine wpQuiet_nil ?_
    intro _ hw'
    obtain⟨q9,hw''⟩:=hw'
    subst hw''
    rw [hE]
    have HEND:=qH (HBR.out.trans (q9.b.mono (by have:=HBR.out.size;rw [HSZ.out] at this;exact this)))
    go_wp2_with fail
    go_roundw
    case rel=>exact⟨m+1,dn,by omega,by go_num,by omega,fun h=>absurd h (by omega),fun p hp=>by rw [show p=m by omega];exact HD.out,by rw [HGO.out,HG.out],HEND.out⟩
    case measure=>simp [intOf];omega
   ·have tz:decide (0 < (m:Int))=true:=decide_eq_true (by omega)
    have tz':decide (0 < m)=true:=decide_eq_true (by omega)
    have hpi:(m:Int) - 1=(p:Int):=by omega
    have hpl:p < S.l.length:=by omega
    obtain⟨g3,o3,e3,c3⟩:=HSIN.out.at_ (HM1.out p hp)
    obtain⟨rfl,rfl⟩:g3=g2∧o3=o2:=by rw [HE2.out] at e3;cases e3;exact⟨rfl,rfl⟩
    have cl:∀ z:Og.On wr.heap.size wr,z.x.cell? ⟨g3,o3+p,none⟩=some (.int .i64 last):=fun z=>Og.cellB z c3
    have hpi2:(p:Int) < (S.l.length:Int):=by omega
    clear e3 c3 hp
    by_cases hC:(dn:Int)≤last
    ·have HF:=qH (show Ev.hangGo x.ev n x0.h (-1) S.l=false by rw [HGO.out,HDR.out];simp [Ev.hangGo,hC])
     have tC:decide ((dn:Int)≤last)=true:=decide_eq_true hC
     go_wp2
     refine Og.regionB (by kernel_rfl) (by kernel_rfl) ?_
     repeat (first
      | go_big_quiet_skip
      | (go_big_quiet_want
         first
          | (go_big_quiet_op
             first
              | go_big_quiet_on)))
     refine wpQuiet_nil ?_
     intro _ hw'
     obtain⟨q9,hw''⟩:=hw'
     subst hw''
     have HEND:=qH (BW.out.trans (q9.b.mono BW.out.size))
     go_wp2_with fail
     go_ret
     exact⟨by rw [HF.out];rfl,HEND.out⟩
    have tC:decide ((dn:Int)≤last)=false:=decide_eq_false hC
    have HLT:=qH (show last < (dn:Int) by omega)
    clear hC
    by_cases hD:y.h=x0.h
    case neg =>
     have HF:=qH (show Ev.hangGo x.ev n x0.h (-1) S.l=false by rw [HGO.out,HDR.out];simp only [Ev.hangGo];rw [HY.out];simp [hD])
     have tD:(y.h != x0.h)=true:=by simpa using hD
     clear hD
     go_wp2
     refine Og.regionB (by kernel_rfl) (by kernel_rfl) ?_
     repeat (first
      | go_big_quiet_skip
      | (go_big_quiet_want
         first
          | (go_big_quiet_op
             first
              | go_big_quiet_on)))
     refine wpQuiet_nil ?_
     intro _ hw'
     obtain⟨q9,hw''⟩:=hw'
     subst hw''
     have HEND:=qH (BW.out.trans (q9.b.mono BW.out.size))
     go_wp2_with fail
     go_ret
     exact⟨by rw [HF.out];rfl,HEND.out⟩
    have tD:(y.h != x0.h)=false:=by simp [hD]
    have HDD:=qH hD
    clear hD
    by_cases hE:Ev.loads y.k=true
    case neg =>
     have hE:Ev.loads y.k=false:=by simpa using hE
     have HF:=qH (show Ev.hangGo x.ev n x0.h (-1) S.l=false by rw [HGO.out,HDR.out];simp only [Ev.hangGo];rw [HY.out,hE];simp)
     go_wp2
     refine Og.regionB (by kernel_rfl) (by kernel_rfl) ?_
     repeat (first
      | go_big_quiet_skip
      | (go_big_quiet_want
         first
          | (refine Og.quiet_load 48 (.tmp 58) rfl (.agg (Ev.cells y).toArray) ⟨g',o'+dn * 13,none⟩ _ rfl (by rintro _ ⟨z,rfl⟩;exact LY.out z) (by simp only [Act.put,qa,qb,qc];rfl) ?_
             go_big_quiet_on)
          | (go_big_quiet_op
             first
              | go_big_quiet_on
              | (apply Exists.intro
                 refine⟨fun z=>?_,?_⟩
                 ·first
                   | exact Og.callB (rloads_any y _)
                 go_big_quiet_on))))
     refine wpQuiet_nil ?_
     intro _ hw'
     obtain⟨q9,hw''⟩:=hw'
     subst hw''
     rw [hE]
     have HEND:=qH (BW.out.trans (q9.b.mono BW.out.size))
     go_wp2_with fail
     go_ret
     exact⟨by rw [HF.out];rfl,HEND.out⟩
    have HG:=qH (show Ev.hangGo x.ev n x0.h last (S.l.drop m)=Ev.hangGo x.ev n x0.h dn (S.l.drop (m+1)) by
     have h1:=HLT.out;have h2:=HNB.out
     rw [HDR.out];simp only [Ev.hangGo];rw [HY.out,HDD.out,hE];simp;intro h;omega)
    go_wp2
    refine Og.regionB (by kernel_rfl) (by kernel_rfl) ?_
    repeat (first
     | go_big_quiet_skip
     | (go_big_quiet_want
        first
         | (refine Og.quiet_load 48 (.tmp 58) rfl (.agg (Ev.cells y).toArray) ⟨g',o'+dn * 13,none⟩ _ rfl (by rintro _ ⟨z,rfl⟩;exact LY.out z) (by simp only [Act.put,qa,qb,qc];rfl) ?_
            go_big_quiet_on)
         | (go_big_quiet_op
            first
             | go_big_quiet_on
             | (apply Exists.intro
                refine⟨fun z=>?_,?_⟩
                ·first
                  | exact Og.callB (rloads_any y _)
                go_big_quiet_on))))
    refine wpQuiet_nil ?_
    intro _ hw'
    obtain⟨q9,hw''⟩:=hw'
    subst hw''
    rw [hE]
    have HEND:=qH (HBR.out.trans (q9.b.mono (by have:=HBR.out.size;rw [HSZ.out] at this;exact this)))
    go_wp2_with fail
    go_roundw
    case rel=>exact⟨m+1,dn,by omega,by go_num,by omega,fun h=>absurd h (by omega),fun p hp=>by rw [show p=m by omega];exact HD.out,by rw [HGO.out,HG.out],HEND.out⟩
    case measure=>simp [intOf];omega
  ·have hmm:m=S.l.length:=by omega
   have hmi:¬ (m:Int) < (S.l.length:Int):=by omega
   have HF:=qH (show Ev.hangGo x.ev n x0.h (-1) S.l=true by rw [HGO.out,hmm];simp [Ev.hangGo])
   clear hmm
   go_wp2
   go_ret
   exact⟨by rw [HF.out];rfl,BW.out⟩
end Go.Proofs.YtnjnpbabgefaeaaGreat
end
section
namespace Go.Proofs.YtnjnpbabgefaeaaGreat
open Go.RowKit
theorem bare_k0 (w:World) (h k a v r:Int) (q l:Bool) (p s:Int) (z:Bool) (d1 d2 d3:Ev.Sl) (f0:decide (k < 1)=true):Calls Tryz.prog 29 #[Ev.evV (⟨h,k,a,v,r,q,l,p,s,z,d1,d2,d3⟩:Ev.R)] w fun e w'=>e=.returned (.bool false)∧Below w.heap.size w w':=by
 have B0:=qH ((Below.refl w.heap.size w).alloc (Nat.le_refl _) (.cells (Ev.cells (⟨h,k,a,v,r,q,l,p,s,z,d1,d2,d3⟩:Ev.R)).toArray 48))
 unfold Ev.evV Ev.cells
 go_enter Tryz.func29,Tryz.ntmps29
 go_wp2
 go_ret
 exact⟨rfl,B0.out⟩
theorem bare_k6 (w:World) (h k a v r:Int) (q l:Bool) (p s:Int) (z:Bool) (d1 d2 d3:Ev.Sl) (f0:decide (k < 1)=false) (f1:decide (5 < k)=true):Calls Tryz.prog 29 #[Ev.evV (⟨h,k,a,v,r,q,l,p,s,z,d1,d2,d3⟩:Ev.R)] w fun e w'=>e=.returned (.bool false)∧Below w.heap.size w w':=by
 have B0:=qH ((Below.refl w.heap.size w).alloc (Nat.le_refl _) (.cells (Ev.cells (⟨h,k,a,v,r,q,l,p,s,z,d1,d2,d3⟩:Ev.R)).toArray 48))
 unfold Ev.evV Ev.cells
 go_enter Tryz.func29,Tryz.ntmps29
 go_wp2
 go_ret
 exact⟨rfl,B0.out⟩
theorem bare_p0 (w:World) (h k a v r:Int) (q l:Bool) (p s:Int) (z:Bool) (d1 d2 d3:Ev.Sl) (f0:decide (k < 1)=false) (f1:decide (5 < k)=false) (f2:decide (p < 0)=true):Calls Tryz.prog 29 #[Ev.evV (⟨h,k,a,v,r,q,l,p,s,z,d1,d2,d3⟩:Ev.R)] w fun e w'=>e=.returned (.bool false)∧Below w.heap.size w w':=by
 have B0:=qH ((Below.refl w.heap.size w).alloc (Nat.le_refl _) (.cells (Ev.cells (⟨h,k,a,v,r,q,l,p,s,z,d1,d2,d3⟩:Ev.R)).toArray 48))
 unfold Ev.evV Ev.cells
 go_enter Tryz.func29,Tryz.ntmps29
 go_wp2
 go_ret
 exact⟨rfl,B0.out⟩
theorem bare_p4 (w:World) (h k a v r:Int) (q l:Bool) (p s:Int) (z:Bool) (d1 d2 d3:Ev.Sl) (f0:decide (k < 1)=false) (f1:decide (5 < k)=false) (f2:decide (p < 0)=false) (f3:decide (3 < p)=true):Calls Tryz.prog 29 #[Ev.evV (⟨h,k,a,v,r,q,l,p,s,z,d1,d2,d3⟩:Ev.R)] w fun e w'=>e=.returned (.bool false)∧Below w.heap.size w w':=by
 have B0:=qH ((Below.refl w.heap.size w).alloc (Nat.le_refl _) (.cells (Ev.cells (⟨h,k,a,v,r,q,l,p,s,z,d1,d2,d3⟩:Ev.R)).toArray 48))
 unfold Ev.evV Ev.cells
 go_enter Tryz.func29,Tryz.ntmps29
 go_wp2
 go_ret
 exact⟨rfl,B0.out⟩
theorem bare_s0 (w:World) (h k a v r:Int) (q l:Bool) (p s:Int) (z:Bool) (d1 d2 d3:Ev.Sl) (f0:decide (k < 1)=false) (f1:decide (5 < k)=false) (f2:decide (p < 0)=false) (f3:decide (3 < p)=false) (f4:decide (s < 0)=true):Calls Tryz.prog 29 #[Ev.evV (⟨h,k,a,v,r,q,l,p,s,z,d1,d2,d3⟩:Ev.R)] w fun e w'=>e=.returned (.bool false)∧Below w.heap.size w w':=by
 have B0:=qH ((Below.refl w.heap.size w).alloc (Nat.le_refl _) (.cells (Ev.cells (⟨h,k,a,v,r,q,l,p,s,z,d1,d2,d3⟩:Ev.R)).toArray 48))
 unfold Ev.evV Ev.cells
 go_enter Tryz.func29,Tryz.ntmps29
 go_wp2
 go_ret
 exact⟨rfl,B0.out⟩
theorem bare_s4 (w:World) (h k a v r:Int) (q l:Bool) (p s:Int) (z:Bool) (d1 d2 d3:Ev.Sl) (f0:decide (k < 1)=false) (f1:decide (5 < k)=false) (f2:decide (p < 0)=false) (f3:decide (3 < p)=false) (f4:decide (s < 0)=false) (f5:decide (3 < s)=true):Calls Tryz.prog 29 #[Ev.evV (⟨h,k,a,v,r,q,l,p,s,z,d1,d2,d3⟩:Ev.R)] w fun e w'=>e=.returned (.bool false)∧Below w.heap.size w w':=by
 have B0:=qH ((Below.refl w.heap.size w).alloc (Nat.le_refl _) (.cells (Ev.cells (⟨h,k,a,v,r,q,l,p,s,z,d1,d2,d3⟩:Ev.R)).toArray 48))
 unfold Ev.evV Ev.cells
 go_enter Tryz.func29,Tryz.ntmps29
 go_wp2
 go_ret
 exact⟨rfl,B0.out⟩
theorem bare1_p (w:World) (h:Int) (a:Int) (v:Int) (r:Int) (q:Bool) (l:Bool) (p:Int) (s:Int) (z:Bool) (d1:Ev.Sl) (d2:Ev.Sl) (d3:Ev.Sl) (tp:decide (p < 0)=false) (tp3:decide (3 < p)=false) (ts:decide (s < 0)=false) (ts3:decide (3 < s)=false) (t:(p != 0)=true):Calls Tryz.prog 29 #[Ev.evV (⟨h,1,a,v,r,q,l,p,s,z,d1,d2,d3⟩:Ev.R)] w fun e w'=>e=.returned (.bool false)∧Below w.heap.size w w':=by
 have R0:=qH (heap_alloc_new w (.cells (Ev.cells (⟨h,1,a,v,r,q,l,p,s,z,d1,d2,d3⟩:Ev.R)).toArray 48))
 have B0:=qH ((Below.refl w.heap.size w).alloc (Nat.le_refl _) (.cells (Ev.cells (⟨h,1,a,v,r,q,l,p,s,z,d1,d2,d3⟩:Ev.R)).toArray 48))
 unfold Ev.evV Ev.cells
 go_enter Tryz.func29,Tryz.ntmps29
 go_wp2
 go_ret
 exact⟨rfl,B0.out⟩
theorem bare1_s (w:World) (h:Int) (a:Int) (v:Int) (r:Int) (q:Bool) (l:Bool) (s:Int) (z:Bool) (d1:Ev.Sl) (d2:Ev.Sl) (d3:Ev.Sl) (ts:decide (s < 0)=false) (ts3:decide (3 < s)=false) (t:(s != 0)=true):Calls Tryz.prog 29 #[Ev.evV (⟨h,1,a,v,r,q,l,0,s,z,d1,d2,d3⟩:Ev.R)] w fun e w'=>e=.returned (.bool false)∧Below w.heap.size w w':=by
 have R0:=qH (heap_alloc_new w (.cells (Ev.cells (⟨h,1,a,v,r,q,l,0,s,z,d1,d2,d3⟩:Ev.R)).toArray 48))
 have B0:=qH ((Below.refl w.heap.size w).alloc (Nat.le_refl _) (.cells (Ev.cells (⟨h,1,a,v,r,q,l,0,s,z,d1,d2,d3⟩:Ev.R)).toArray 48))
 unfold Ev.evV Ev.cells
 go_enter Tryz.func29,Tryz.ntmps29
 go_wp2
 go_ret
 exact⟨rfl,B0.out⟩
theorem bare1_v (w:World) (h:Int) (a:Int) (v:Int) (r:Int) (q:Bool) (l:Bool) (z:Bool) (d1:Ev.Sl) (d2:Ev.Sl) (d3:Ev.Sl) (t:(v != 0)=true):Calls Tryz.prog 29 #[Ev.evV (⟨h,1,a,v,r,q,l,0,0,z,d1,d2,d3⟩:Ev.R)] w fun e w'=>e=.returned (.bool false)∧Below w.heap.size w w':=by
 have R0:=qH (heap_alloc_new w (.cells (Ev.cells (⟨h,1,a,v,r,q,l,0,0,z,d1,d2,d3⟩:Ev.R)).toArray 48))
 have B0:=qH ((Below.refl w.heap.size w).alloc (Nat.le_refl _) (.cells (Ev.cells (⟨h,1,a,v,r,q,l,0,0,z,d1,d2,d3⟩:Ev.R)).toArray 48))
 unfold Ev.evV Ev.cells
 go_enter Tryz.func29,Tryz.ntmps29
 go_wp2_with (with_reducible show wpList _ _ _ (Oper.mk (some 72) _ _ _ _ _ :: _) _ _;refine wpList_load_row rfl 48 (.tmp 1) rfl w.heap.size rfl 48 (Ev.cells (⟨h,1,a,v,r,q,l,0,0,z,d1,d2,d3⟩:Ev.R)).toArray (0,0) _ R0.out Tryz.underlying48 rfl (by kernel_rfl) ?_)
 refine(rstores_is (x:=(⟨h,1,a,v,r,q,l,0,0,z,d1,d2,d3⟩:Ev.R)) (b:=false) rfl _).mono ?_
 rintro e W2 ⟨rfl,hb⟩
 have R2:=qH ((hb.block w.heap.size (by simp only [World.size_alloc];omega)).trans R0.out)
 have B2:=qH (B0.out.trans (hb.mono (by simp only [World.size_alloc];omega)));clear hb
 have c2:W2.cell? ⟨w.heap.size,2,none⟩=some (.int .u32 a):=by rw [qC R2.out];rfl
 have c3:W2.cell? ⟨w.heap.size,3,none⟩=some (.int .u32 v):=by rw [qC R2.out];rfl
 have c4:W2.cell? ⟨w.heap.size,4,none⟩=some (.int .u32 r):=by rw [qC R2.out];rfl
 have c10:W2.cell? ⟨w.heap.size,10,none⟩=some (.slice d1.a d1.l.length d1.c):=by rw [qC R2.out];rfl
 have c11:W2.cell? ⟨w.heap.size,11,none⟩=some (.slice d2.a d2.l.length d2.c):=by rw [qC R2.out];rfl
 have c12:W2.cell? ⟨w.heap.size,12,none⟩=some (.slice d3.a d3.l.length d3.c):=by rw [qC R2.out];rfl
 have c0:W2.cell? ⟨w.heap.size,0,none⟩=some (.int .i64 h):=by rw [qC R2.out];rfl
 go_wp2
 go_ret
 exact⟨rfl,B2.out⟩
theorem bare1_d2 (w:World) (h:Int) (a:Int) (r:Int) (q:Bool) (l:Bool) (z:Bool) (d1:Ev.Sl) (d2:Ev.Sl) (d3:Ev.Sl) (t:((d2.l.length:Int)==0)=false):Calls Tryz.prog 29 #[Ev.evV (⟨h,1,a,0,r,q,l,0,0,z,d1,d2,d3⟩:Ev.R)] w fun e w'=>e=.returned (.bool false)∧Below w.heap.size w w':=by
 have R0:=qH (heap_alloc_new w (.cells (Ev.cells (⟨h,1,a,0,r,q,l,0,0,z,d1,d2,d3⟩:Ev.R)).toArray 48))
 have B0:=qH ((Below.refl w.heap.size w).alloc (Nat.le_refl _) (.cells (Ev.cells (⟨h,1,a,0,r,q,l,0,0,z,d1,d2,d3⟩:Ev.R)).toArray 48))
 unfold Ev.evV Ev.cells
 go_enter Tryz.func29,Tryz.ntmps29
 go_wp2_with (with_reducible show wpList _ _ _ (Oper.mk (some 72) _ _ _ _ _ :: _) _ _;refine wpList_load_row rfl 48 (.tmp 1) rfl w.heap.size rfl 48 (Ev.cells (⟨h,1,a,0,r,q,l,0,0,z,d1,d2,d3⟩:Ev.R)).toArray (0,0) _ R0.out Tryz.underlying48 rfl (by kernel_rfl) ?_)
 refine(rstores_is (x:=(⟨h,1,a,0,r,q,l,0,0,z,d1,d2,d3⟩:Ev.R)) (b:=false) rfl _).mono ?_
 rintro e W2 ⟨rfl,hb⟩
 have R2:=qH ((hb.block w.heap.size (by simp only [World.size_alloc];omega)).trans R0.out)
 have B2:=qH (B0.out.trans (hb.mono (by simp only [World.size_alloc];omega)));clear hb
 have c2:W2.cell? ⟨w.heap.size,2,none⟩=some (.int .u32 a):=by rw [qC R2.out];rfl
 have c3:W2.cell? ⟨w.heap.size,3,none⟩=some (.int .u32 0):=by rw [qC R2.out];rfl
 have c4:W2.cell? ⟨w.heap.size,4,none⟩=some (.int .u32 r):=by rw [qC R2.out];rfl
 have c10:W2.cell? ⟨w.heap.size,10,none⟩=some (.slice d1.a d1.l.length d1.c):=by rw [qC R2.out];rfl
 have c11:W2.cell? ⟨w.heap.size,11,none⟩=some (.slice d2.a d2.l.length d2.c):=by rw [qC R2.out];rfl
 have c12:W2.cell? ⟨w.heap.size,12,none⟩=some (.slice d3.a d3.l.length d3.c):=by rw [qC R2.out];rfl
 have c0:W2.cell? ⟨w.heap.size,0,none⟩=some (.int .i64 h):=by rw [qC R2.out];rfl
 go_wp2_with (with_reducible show wpList _ _ _ (Oper.mk (some 81) _ _ _ _ _ :: _) _ _;refine Ev.load_row_g 48 (.tmp 1) rfl rfl w.heap.size rfl 48 (Ev.cells (⟨h,1,a,0,r,q,l,0,0,z,d1,d2,d3⟩:Ev.R)).toArray (0,0) _ R2.out Tryz.underlying48 rfl (by kernel_rfl) ?_)
 refine(rloads_is (x:=(⟨h,1,a,0,r,q,l,0,0,z,d1,d2,d3⟩:Ev.R)) (b:=true) rfl _).mono ?_
 rintro e W3 ⟨rfl,hb⟩
 have R3:=qH ((hb.block w.heap.size (qL R2.out)).trans R2.out)
 have B3:=qH (B2.out.trans (hb.mono B2.out.size));clear hb c0 c2 c3 c4 c10 c11 c12
 have c2:W3.cell? ⟨w.heap.size,2,none⟩=some (.int .u32 a):=by rw [qC R3.out];rfl
 have c3:W3.cell? ⟨w.heap.size,3,none⟩=some (.int .u32 0):=by rw [qC R3.out];rfl
 have c4:W3.cell? ⟨w.heap.size,4,none⟩=some (.int .u32 r):=by rw [qC R3.out];rfl
 have c10:W3.cell? ⟨w.heap.size,10,none⟩=some (.slice d1.a d1.l.length d1.c):=by rw [qC R3.out];rfl
 have c11:W3.cell? ⟨w.heap.size,11,none⟩=some (.slice d2.a d2.l.length d2.c):=by rw [qC R3.out];rfl
 have c12:W3.cell? ⟨w.heap.size,12,none⟩=some (.slice d3.a d3.l.length d3.c):=by rw [qC R3.out];rfl
 have c0:W3.cell? ⟨w.heap.size,0,none⟩=some (.int .i64 h):=by rw [qC R3.out];rfl
 go_wp2
 go_ret
 exact⟨rfl,B3.out⟩
theorem bare1_ok (w:World) (h:Int) (a:Int) (r:Int) (q:Bool) (l:Bool) (z:Bool) (d1:Ev.Sl) (d2a:Option Addr) (d2c:Nat) (d3:Ev.Sl) :Calls Tryz.prog 29 #[Ev.evV (⟨h,1,a,0,r,q,l,0,0,z,d1,⟨d2a,d2c,[]⟩,d3⟩:Ev.R)] w fun e w'=>e=.returned (.bool true)∧Below w.heap.size w w':=by
 have R0:=qH (heap_alloc_new w (.cells (Ev.cells (⟨h,1,a,0,r,q,l,0,0,z,d1,⟨d2a,d2c,[]⟩,d3⟩:Ev.R)).toArray 48))
 have B0:=qH ((Below.refl w.heap.size w).alloc (Nat.le_refl _) (.cells (Ev.cells (⟨h,1,a,0,r,q,l,0,0,z,d1,⟨d2a,d2c,[]⟩,d3⟩:Ev.R)).toArray 48))
 unfold Ev.evV Ev.cells
 go_enter Tryz.func29,Tryz.ntmps29
 go_wp2_with (with_reducible show wpList _ _ _ (Oper.mk (some 72) _ _ _ _ _ :: _) _ _;refine wpList_load_row rfl 48 (.tmp 1) rfl w.heap.size rfl 48 (Ev.cells (⟨h,1,a,0,r,q,l,0,0,z,d1,⟨d2a,d2c,[]⟩,d3⟩:Ev.R)).toArray (0,0) _ R0.out Tryz.underlying48 rfl (by kernel_rfl) ?_)
 refine(rstores_is (x:=(⟨h,1,a,0,r,q,l,0,0,z,d1,⟨d2a,d2c,[]⟩,d3⟩:Ev.R)) (b:=false) rfl _).mono ?_
 rintro e W2 ⟨rfl,hb⟩
 have R2:=qH ((hb.block w.heap.size (by simp only [World.size_alloc];omega)).trans R0.out)
 have B2:=qH (B0.out.trans (hb.mono (by simp only [World.size_alloc];omega)));clear hb
 have c2:W2.cell? ⟨w.heap.size,2,none⟩=some (.int .u32 a):=by rw [qC R2.out];rfl
 have c3:W2.cell? ⟨w.heap.size,3,none⟩=some (.int .u32 0):=by rw [qC R2.out];rfl
 have c4:W2.cell? ⟨w.heap.size,4,none⟩=some (.int .u32 r):=by rw [qC R2.out];rfl
 have c10:W2.cell? ⟨w.heap.size,10,none⟩=some (.slice d1.a d1.l.length d1.c):=by rw [qC R2.out];rfl
 have c11:W2.cell? ⟨w.heap.size,11,none⟩=some (.slice d2a 0 d2c):=by rw [qC R2.out];rfl
 have c12:W2.cell? ⟨w.heap.size,12,none⟩=some (.slice d3.a d3.l.length d3.c):=by rw [qC R2.out];rfl
 have c0:W2.cell? ⟨w.heap.size,0,none⟩=some (.int .i64 h):=by rw [qC R2.out];rfl
 go_wp2_with (with_reducible show wpList _ _ _ (Oper.mk (some 81) _ _ _ _ _ :: _) _ _;refine Ev.load_row_g 48 (.tmp 1) rfl rfl w.heap.size rfl 48 (Ev.cells (⟨h,1,a,0,r,q,l,0,0,z,d1,⟨d2a,d2c,[]⟩,d3⟩:Ev.R)).toArray (0,0) _ R2.out Tryz.underlying48 rfl (by kernel_rfl) ?_)
 refine(rloads_is (x:=(⟨h,1,a,0,r,q,l,0,0,z,d1,⟨d2a,d2c,[]⟩,d3⟩:Ev.R)) (b:=true) rfl _).mono ?_
 rintro e W3 ⟨rfl,hb⟩
 have R3:=qH ((hb.block w.heap.size (qL R2.out)).trans R2.out)
 have B3:=qH (B2.out.trans (hb.mono B2.out.size));clear hb c0 c2 c3 c4 c10 c11 c12
 have c2:W3.cell? ⟨w.heap.size,2,none⟩=some (.int .u32 a):=by rw [qC R3.out];rfl
 have c3:W3.cell? ⟨w.heap.size,3,none⟩=some (.int .u32 0):=by rw [qC R3.out];rfl
 have c4:W3.cell? ⟨w.heap.size,4,none⟩=some (.int .u32 r):=by rw [qC R3.out];rfl
 have c10:W3.cell? ⟨w.heap.size,10,none⟩=some (.slice d1.a d1.l.length d1.c):=by rw [qC R3.out];rfl
 have c11:W3.cell? ⟨w.heap.size,11,none⟩=some (.slice d2a 0 d2c):=by rw [qC R3.out];rfl
 have c12:W3.cell? ⟨w.heap.size,12,none⟩=some (.slice d3.a d3.l.length d3.c):=by rw [qC R3.out];rfl
 have c0:W3.cell? ⟨w.heap.size,0,none⟩=some (.int .i64 h):=by rw [qC R3.out];rfl
 go_wp2
 go_ret
 exact⟨rfl,B3.out⟩
end Go.Proofs.YtnjnpbabgefaeaaGreat
end
