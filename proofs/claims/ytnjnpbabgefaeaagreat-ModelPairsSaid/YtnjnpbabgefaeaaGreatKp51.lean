import Derived.Test.YtnjnpbabgefaeaaGreatKp48
import Derived.Test.YtnjnpbabgefaeaaGreatKp42
import Derived.Test.YtnjnpbabgefaeaaGreatKp49
import Derived.Test.YtnjnpbabgefaeaaGreatKp26
import Derived.Test.YtnjnpbabgefaeaaGreatKp38
import Derived.Test.YtnjnpbabgefaeaaGreatKpH
set_option maxRecDepth 100000
set_option maxHeartbeats 8000000
set_option linter.unusedVariables false
set_option linter.unusedSimpArgs false
section
namespace Go.Proofs.YtnjnpbabgefaeaaGreat
open Go.RowKit
theorem rmoving_is (x:Ev.X) (w:World) (hn:x.ev.length≤1000) (hin:Ev.XIn w x) :
 Calls Tryz.prog 13 #[Ev.exV x] w fun e w'=>e=.returned (.int .i64 ((x.ev.filter fun r=>decide (r.k < 4)).length:Int))∧Below w.heap.size w w':=by
 have hl1:=hin.ev.le;have hl2:=hin.ev.max
 obtain⟨xb,hxb⟩:∃ xb,xb=w.heap.size:=⟨_,rfl⟩
 obtain⟨B,hB⟩:∃ B,B=w.alloc (.cells (Ev.xcells x).toArray 26):=⟨_,rfl⟩
 have HB:=qH hB;have HXB:=qH hxb
 have B0:=qH (show Below w.heap.size w B by rw [hB];exact(Below.refl w.heap.size w).alloc (Nat.le_refl _) _)
 have RX:=qH (show B.heap[xb]?=some (.cells #[.slice x.ae x.ev.length x.ce,.slice x.fr.a x.fr.l.length x.fr.c,.slice x.ao x.od.length x.co] 26 (0,0)) by rw [hB,hxb];exact heap_alloc_new _ _)
 have HX:=qH (show Ev.XIn B x from hin.kp (Ev.kp_below B0.out))
 have cx:B.cell? ⟨xb,0,none⟩=some (.slice x.ae x.ev.length x.ce):=by rw [qC RX.out];rfl
 clear hin hB hxb
 unfold Ev.exV
 go_enter Tryz.func13,Tryz.ntmps13
 go_wp2
 rw [← HB.out,← HXB.out]
 go_loopw [3,4] (fun m i wr=>∃ k q:Nat,k≤x.ev.length∧q≤k∧q=((x.ev.take k).filter fun r=>decide (r.k < 4)).length∧i=.int .i64 (k:Int)∧m=.int .i64 (q:Int)∧wr=B) (fun _ i _=>x.ev.length - (intOf i).toNat)
 case atStart=>exact⟨0,0,Nat.zero_le _,Nat.le_refl _,rfl,rfl,rfl,rfl⟩
 case round =>
  obtain⟨k,q,hk,hq,hqc,rfl,rfl,rfl⟩:=hrel
  have HQC:=qH hqc;clear hqc
  by_cases hlt:k < x.ev.length
  ·have hki:(k:Int) < (x.ev.length:Int):=by omega
   obtain⟨e1,he1⟩:∃ e,x.ev[k]?=some e:=⟨_,List.getElem?_eq_getElem hlt⟩
   obtain⟨g,o,eg,hc1⟩:=HX.out.ev.at_ he1
   rw [eg] at cx
   have ck:=hc1 1 _ rfl
   have HTS:=qH (Md.take_snoc' he1)
   clear hc1 he1 eg
   by_cases h4:e1.k < 4
   ·have HNE:=qH (show q+1=((x.ev.take (k+1)).filter fun r=>decide (r.k < 4)).length by rw [HTS.out,List.filter_append,List.length_append,← HQC.out];simp [h4])
    go_wp2_with fail
    first
     | exact⟨⟨k+1,q+1,by omega,by omega,HNE.out,by go_num,by go_num,rfl⟩,by simp [intOf];omega⟩
     | (go_roundw
        case rel=>exact⟨k+1,q+1,by omega,by omega,HNE.out,by go_num,by go_num,by first | trivial | rfl⟩
        case measure=>simp [intOf];omega)
   ·have HNE:=qH (show q=((x.ev.take (k+1)).filter fun r=>decide (r.k < 4)).length by rw [HTS.out,List.filter_append,List.length_append,← HQC.out];simp [h4])
    go_wp2_with fail
    first
     | exact⟨⟨k+1,q,by omega,by omega,HNE.out,by go_num,rfl,rfl⟩,by simp [intOf];omega⟩
     | (go_roundw
        case rel=>exact⟨k+1,q,by omega,by omega,HNE.out,by go_num,rfl,by first | trivial | rfl⟩
        case measure=>simp [intOf];omega)
  ·have hke:k=x.ev.length:=by omega
   have hki:¬ (k:Int) < (x.ev.length:Int):=by omega
   go_wp2
   go_ret
   exact⟨by rw [HQC.out,hke,List.take_length];rfl,B0.out⟩
end Go.Proofs.YtnjnpbabgefaeaaGreat
end
section
namespace Go.Proofs.YtnjnpbabgefaeaaGreat
open Go.RowKit
theorem Md.cI_len (l:List Nat):(Md.cI l).length=l.length:=by simp [Md.cI]
theorem Md.cI_at {l:List Nat} {k m:Nat} (h:l[k]?=some m):(Md.cI l)[k]?=some (m:Int):=by simp [Md.cI,h]
theorem Md.last_step {p:Nat→Nat→Bool} {l:List Nat} {k m:Nat} {u:Int} (h:l[k]?=some m):Md.lastGo p (l.drop k) k u=Md.lastGo p (l.drop (k+1)) (k+1) (if p m k=true then (m:Int) else u):=by
 obtain⟨hl,he⟩:=List.getElem?_eq_some_iff.1 h
 rw [List.drop_eq_getElem_cons hl,he];rfl
theorem rsees_any (x:Ev.X) (l:List Nat) (A:Option Addr) (cc n:Nat) (hn:n < x.ev.length) (hl:∀ a ∈ l,a < x.ev.length) (w:World) (hin:Ev.XIn w x) (hs:Ev.IntsIn w ⟨A,cc,Md.cI l⟩) :
 Calls Tryz.prog 80 #[Ev.exV x,.slice A l.length cc,.int .i64 (n:Int)] w fun e w'=>e=.returned (.int .i64 (Md.sees x l n))∧Below w.heap.size w w':=by
 have hl1:=hin.ev.le;have hl2:=hin.ev.max
 have hm1:=hs.2.1;have hm2:=hs.2.2.1
 rw [Md.cI_len] at hm1
 obtain⟨xb,hxb⟩:∃ xb,xb=w.heap.size:=⟨_,rfl⟩
 obtain⟨B,hB⟩:∃ B,B=w.alloc (.cells (Ev.xcells x).toArray 26):=⟨_,rfl⟩
 have HB:=qH hB;have HXB:=qH hxb
 have B0:=qH (show Below w.heap.size w B by rw [hB];exact(Below.refl w.heap.size w).alloc (Nat.le_refl _) _)
 have RX:=qH (show B.heap[xb]?=some (.cells #[.slice x.ae x.ev.length x.ce,.slice x.fr.a x.fr.l.length x.fr.c,.slice x.ao x.od.length x.co] 26 (0,0)) by rw [hB,hxb];exact heap_alloc_new _ _)
 have HX:=qH (show Ev.XIn B x from hin.kp (Ev.kp_below B0.out))
 have HS:=qH (show Ev.IntsIn B ⟨A,cc,Md.cI l⟩ from hs.kp (Ev.kp_below B0.out))
 have HL:=qH hl
 obtain⟨p,hp⟩:∃ p,Ev.at_ (Md.cI l) n=p:=⟨_,rfl⟩
 have KA:=qH (show ∀ W,Ev.IntsIn W ⟨A,cc,Md.cI l⟩→Calls Tryz.prog 33 #[.slice A l.length cc,.int .i64 (n:Int)] W fun e w'=>e=.returned (.int .i64 p)∧W=w' from fun W h=>by have:=rat_is0 hp W h;rwa [Md.cI_len] at this)
 have HSE:=qH (show Md.sees x l n=Md.lastGo (Md.seen x p n) l 0 (-1) by unfold Md.sees;rw [hp])
 clear hin hs hB hxb hl hp
 unfold Ev.exV
 go_enter Tryz.func80,Tryz.ntmps80
 go_wp2_with (go_at_call 33;rw [← HB.out];refine(KA.out B HS.out).mono ?_;rintro e W1 ⟨rfl,hw⟩;subst hw)
 rw [← HXB.out]
 go_loopw [8,9,10] (fun v i _ wr=>∃ (k:Nat) (u:Int),k≤l.length∧i=.int .i64 (k:Int)∧v=.int .i64 u∧Md.sees x l n=Md.lastGo (Md.seen x p n) (l.drop k) k u∧Below B.heap.size B wr) (fun _ i _ _=>l.length - (intOf i).toNat)
 case atStart=>exact⟨0,-1,Nat.zero_le _,rfl,rfl,HSE.out,Below.refl _ _⟩
 case round =>
  obtain⟨k,u,hk,rfl,rfl,hse,hbr⟩:=hrel
  have HBR:=qH hbr
  by_cases hlt:k < l.length
  ·have hki:(k:Int) < (l.length:Int):=by omega
   obtain⟨m,hm⟩:∃ m,l[k]?=some m:=⟨_,List.getElem?_eq_getElem hlt⟩
   have hmx:m < x.ev.length:=HL.out m (List.mem_of_getElem? hm)
   have hmi:(m:Int) < (x.ev.length:Int):=by omega
   have hni:(n:Int) < (x.ev.length:Int):=by omega
   rw [Md.last_step hm] at hse
   obtain⟨ga,oa,ea,hca⟩:=HS.out.at_ (Md.cI_at hm)
   have ea:A=some ⟨ga,oa,none⟩:=ea
   subst ea
   obtain⟨e1,he1⟩:∃ e,x.ev[n]?=some e:=⟨_,List.getElem?_eq_getElem hn⟩
   obtain⟨e2,he2⟩:∃ e,x.ev[m]?=some e:=⟨_,List.getElem?_eq_getElem hmx⟩
   obtain⟨g,o,eg,hc1⟩:=HX.out.ev.at_ he1
   obtain⟨g',o',eg',hc2⟩:=HX.out.ev.at_ he2
   rw [eg] at eg'
   obtain⟨rfl,rfl⟩:g=g'∧o=o':=by simpa using eg'
   have hn1:=Ev.nth_some he1;have hn2:=Ev.nth_some he2
   have k4:=Ev.kp_below hbr
   have R4:=qH ((hbr.block _ (qL RX.out)).trans RX.out)
   have ca:=k4 _ _ hca
   have cx:wr.cell? ⟨xb,0,none⟩=some (.slice (some ⟨g,o,none⟩) x.ev.length x.ce):=by rw [qC R4.out,← eg];rfl
   have q1:∀ z:Og.On wr.heap.size wr,z.x.cell? ⟨xb,0,none⟩=some (.slice (some ⟨g,o,none⟩) x.ev.length x.ce):=fun z=>Og.cellB z cx
   have q2:∀ z:Og.On wr.heap.size wr,z.x.cell? ⟨g,o+m * 13+2,none⟩=some (.int .u32 e2.a):=fun z=>Og.cellB z (k4 _ _ (hc2 2 _ rfl))
   have q3:∀ z:Og.On wr.heap.size wr,z.x.cell? ⟨g,o+n * 13+2,none⟩=some (.int .u32 e1.a):=fun z=>Og.cellB z (k4 _ _ (hc1 2 _ rfl))
   have LXX:=qH (fun z:Og.On wr.heap.size wr=>Og.rowB (P:=Tryz.prog) z 26 _ R4.out Tryz.underlying26 rfl (by kernel_rfl))
   have LE:=qH (fun z:Og.On wr.heap.size wr=>run_loadVar_at (P:=Tryz.prog) z.x g (o+m * 13) 48 (Ev.cells e2) _ (fun i c hi=>Og.cellB z (k4 _ _ (hc2 i c hi))) Tryz.underlying48 rfl (by kernel_rfl))
   obtain⟨v2,h2⟩:∃ v,Ev.stores e2.k=v:=⟨_,rfl⟩
   obtain⟨v5,h5⟩:∃ v,Ev.isPo x m n=v:=⟨_,rfl⟩
   have K1:=qH (show ∀ z:Og.On wr.heap.size wr,Calls Tryz.prog 32 #[.agg (Ev.cells e2).toArray] z.x (fun e w''=>e=.returned (.bool v2)∧Below z.x.heap.size z.x w'') from fun z=>rstores_is h2 z.x)
   have K2:=qH (show ∀ z:Og.On wr.heap.size wr,Calls Tryz.prog 42 #[.agg #[.slice x.ae x.ev.length x.ce,.slice x.fr.a x.fr.l.length x.fr.c,.slice x.ao x.od.length x.co],.int .i64 (m:Int),.int .i64 (n:Int)] z.x (fun e w''=>e=.returned (.bool v5)∧Below z.x.heap.size z.x w'') from fun z=>h5 ▸ rpo_any x m n hmx hn z.x ((HX.out.kp (Ev.kp_below HBR.out)).kp (Ev.kp_below z.b)))
   have HSN:=qH (show Md.seen x p n m k=(!(decide (m=n))&&v2&&e2.a==e1.a&&(decide ((k:Int) < p)||v5)) by unfold Md.seen;rw [hn1,hn2,h2,h5])
   have HLS:=qH hse
   clear he1 he2 eg' hn1 hn2 hca hc1 hc2 k4 h2 h5 hse hm hbr cx eg
   by_cases h1:m=n
   ·have h1i:(m:Int)=(n:Int):=by omega
    have t1:((m:Int) != (n:Int))=false:=by simpa using h1i
    have hsn:Md.seen x p n m k=false:=by rw [HSN.out];simp [*]
    have HL2:=HLS.out
    rw [hsn] at HL2
    simp only [Bool.false_eq_true,if_false] at HL2
    have HL3:=qH HL2
    clear HL2 hsn
    go_wp2_with fail
    refine Og.regionB (by kernel_rfl) (by kernel_rfl) ?_
    repeat (first
     | go_big_quiet_skip
     | (go_big_quiet_want
        first
         | ((with_reducible show Oper.quiet _ (Oper.mk (some 32) _ _ _ _ _) _ _ _);refine Og.quiet_load 48 (.tmp 31) rfl (.agg (Ev.cells e2).toArray) ⟨g,o+m * 13,none⟩ _ rfl (by rintro _ ⟨z,rfl⟩;exact LE.out z) (by simp only [Act.put,qa,qb,qc];rfl) ?_
            go_big_quiet_on)
         | ((with_reducible show Oper.quiet _ (Oper.mk (some 55) _ _ _ _ _) _ _ _);refine Og.quiet_load 26 (.tmp 3) rfl (.agg #[.slice x.ae x.ev.length x.ce,.slice x.fr.a x.fr.l.length x.fr.c,.slice x.ao x.od.length x.co]) ⟨xb,0,none⟩ _ rfl (by rintro _ ⟨z,rfl⟩;exact LXX.out z) (by simp only [Act.put,qa,qb,qc];rfl) ?_
            go_big_quiet_on)
         | (go_big_quiet_op
            first
             | go_big_quiet_on
             | (apply Exists.intro
                refine⟨fun z=>?_,?_⟩
                ·first
                  | (with_reducible exact Og.callB (K1.out z))
                  | (with_reducible exact Og.callB (K2.out z))
                go_big_quiet_on))))
    refine wpQuiet_nil ?_
    intro _ hw'
    obtain⟨q9,hw''⟩:=hw'
    subst hw''
    go_wp2_with fail
    first
     | exact⟨⟨k+1,u,by omega,by go_num,rfl,HL3.out,HBR.out.trans (q9.b.mono HBR.out.size)⟩,by simp [intOf];omega⟩
     | (go_roundw
        case rel=>exact⟨k+1,u,by omega,by go_num,rfl,HL3.out,HBR.out.trans (q9.b.mono HBR.out.size)⟩
        case measure=>simp [intOf];omega)
   ·have h1i:¬ (m:Int)=(n:Int):=by omega
    have t1:((m:Int) != (n:Int))=true:=by simpa using h1i
    cases v2
    ·have hsn:Md.seen x p n m k=false:=by rw [HSN.out];simp [*]
     have HL2:=HLS.out
     rw [hsn] at HL2
     simp only [Bool.false_eq_true,if_false] at HL2
     have HL3:=qH HL2
     clear HL2 hsn
     go_wp2_with fail
     refine Og.regionB (by kernel_rfl) (by kernel_rfl) ?_
     repeat (first
      | go_big_quiet_skip
      | (go_big_quiet_want
         first
          | ((with_reducible show Oper.quiet _ (Oper.mk (some 32) _ _ _ _ _) _ _ _);refine Og.quiet_load 48 (.tmp 31) rfl (.agg (Ev.cells e2).toArray) ⟨g,o+m * 13,none⟩ _ rfl (by rintro _ ⟨z,rfl⟩;exact LE.out z) (by simp only [Act.put,qa,qb,qc];rfl) ?_
             go_big_quiet_on)
          | ((with_reducible show Oper.quiet _ (Oper.mk (some 55) _ _ _ _ _) _ _ _);refine Og.quiet_load 26 (.tmp 3) rfl (.agg #[.slice x.ae x.ev.length x.ce,.slice x.fr.a x.fr.l.length x.fr.c,.slice x.ao x.od.length x.co]) ⟨xb,0,none⟩ _ rfl (by rintro _ ⟨z,rfl⟩;exact LXX.out z) (by simp only [Act.put,qa,qb,qc];rfl) ?_
             go_big_quiet_on)
          | (go_big_quiet_op
             first
              | go_big_quiet_on
              | (apply Exists.intro
                 refine⟨fun z=>?_,?_⟩
                 ·first
                   | (with_reducible exact Og.callB (K1.out z))
                   | (with_reducible exact Og.callB (K2.out z))
                 go_big_quiet_on))))
     refine wpQuiet_nil ?_
     intro _ hw'
     obtain⟨q9,hw''⟩:=hw'
     subst hw''
     go_wp2_with fail
     first
      | exact⟨⟨k+1,u,by omega,by go_num,rfl,HL3.out,HBR.out.trans (q9.b.mono HBR.out.size)⟩,by simp [intOf];omega⟩
      | (go_roundw
         case rel=>exact⟨k+1,u,by omega,by go_num,rfl,HL3.out,HBR.out.trans (q9.b.mono HBR.out.size)⟩
         case measure=>simp [intOf];omega)
    ·by_cases h3:e2.a=e1.a
     ·have t3:(e2.a==e1.a)=true:=by simpa using h3
      by_cases h4:(k:Int) < p
      ·have t4:decide ((k:Int) < p)=true:=by simpa using h4
       have hsn:Md.seen x p n m k=true:=by rw [HSN.out];simp [*]
       have HL2:=HLS.out
       rw [hsn] at HL2
       simp only [if_true] at HL2
       have HL3:=qH HL2
       clear HL2 hsn
       go_wp2_with fail
       refine Og.regionB (by kernel_rfl) (by kernel_rfl) ?_
       repeat (first
        | go_big_quiet_skip
        | (go_big_quiet_want
           first
            | ((with_reducible show Oper.quiet _ (Oper.mk (some 32) _ _ _ _ _) _ _ _);refine Og.quiet_load 48 (.tmp 31) rfl (.agg (Ev.cells e2).toArray) ⟨g,o+m * 13,none⟩ _ rfl (by rintro _ ⟨z,rfl⟩;exact LE.out z) (by simp only [Act.put,qa,qb,qc];rfl) ?_
               go_big_quiet_on)
            | ((with_reducible show Oper.quiet _ (Oper.mk (some 55) _ _ _ _ _) _ _ _);refine Og.quiet_load 26 (.tmp 3) rfl (.agg #[.slice x.ae x.ev.length x.ce,.slice x.fr.a x.fr.l.length x.fr.c,.slice x.ao x.od.length x.co]) ⟨xb,0,none⟩ _ rfl (by rintro _ ⟨z,rfl⟩;exact LXX.out z) (by simp only [Act.put,qa,qb,qc];rfl) ?_
               go_big_quiet_on)
            | (go_big_quiet_op
               first
                | go_big_quiet_on
                | (apply Exists.intro
                   refine⟨fun z=>?_,?_⟩
                   ·first
                     | (with_reducible exact Og.callB (K1.out z))
                     | (with_reducible exact Og.callB (K2.out z))
                   go_big_quiet_on))))
       refine wpQuiet_nil ?_
       intro _ hw'
       obtain⟨q9,hw''⟩:=hw'
       subst hw''
       go_wp2_with fail
       first
        | exact⟨⟨k+1,(m:Int),by omega,by go_num,rfl,HL3.out,HBR.out.trans (q9.b.mono HBR.out.size)⟩,by simp [intOf];omega⟩
        | (go_roundw
           case rel=>exact⟨k+1,(m:Int),by omega,by go_num,rfl,HL3.out,HBR.out.trans (q9.b.mono HBR.out.size)⟩
           case measure=>simp [intOf];omega)
      ·have t4:decide ((k:Int) < p)=false:=by simpa using h4
       cases v5
       ·have hsn:Md.seen x p n m k=false:=by rw [HSN.out];simp [*]
        have HL2:=HLS.out
        rw [hsn] at HL2
        simp only [Bool.false_eq_true,if_false] at HL2
        have HL3:=qH HL2
        clear HL2 hsn
        go_wp2_with fail
        refine Og.regionB (by kernel_rfl) (by kernel_rfl) ?_
        repeat (first
         | go_big_quiet_skip
         | (go_big_quiet_want
            first
             | ((with_reducible show Oper.quiet _ (Oper.mk (some 32) _ _ _ _ _) _ _ _);refine Og.quiet_load 48 (.tmp 31) rfl (.agg (Ev.cells e2).toArray) ⟨g,o+m * 13,none⟩ _ rfl (by rintro _ ⟨z,rfl⟩;exact LE.out z) (by simp only [Act.put,qa,qb,qc];rfl) ?_
                go_big_quiet_on)
             | ((with_reducible show Oper.quiet _ (Oper.mk (some 55) _ _ _ _ _) _ _ _);refine Og.quiet_load 26 (.tmp 3) rfl (.agg #[.slice x.ae x.ev.length x.ce,.slice x.fr.a x.fr.l.length x.fr.c,.slice x.ao x.od.length x.co]) ⟨xb,0,none⟩ _ rfl (by rintro _ ⟨z,rfl⟩;exact LXX.out z) (by simp only [Act.put,qa,qb,qc];rfl) ?_
                go_big_quiet_on)
             | (go_big_quiet_op
                first
                 | go_big_quiet_on
                 | (apply Exists.intro
                    refine⟨fun z=>?_,?_⟩
                    ·first
                      | (with_reducible exact Og.callB (K1.out z))
                      | (with_reducible exact Og.callB (K2.out z))
                    go_big_quiet_on))))
        refine wpQuiet_nil ?_
        intro _ hw'
        obtain⟨q9,hw''⟩:=hw'
        subst hw''
        go_wp2_with fail
        first
         | exact⟨⟨k+1,u,by omega,by go_num,rfl,HL3.out,HBR.out.trans (q9.b.mono HBR.out.size)⟩,by simp [intOf];omega⟩
         | (go_roundw
            case rel=>exact⟨k+1,u,by omega,by go_num,rfl,HL3.out,HBR.out.trans (q9.b.mono HBR.out.size)⟩
            case measure=>simp [intOf];omega)
       ·have hsn:Md.seen x p n m k=true:=by rw [HSN.out];simp [*]
        have HL2:=HLS.out
        rw [hsn] at HL2
        simp only [if_true] at HL2
        have HL3:=qH HL2
        clear HL2 hsn
        go_wp2_with fail
        refine Og.regionB (by kernel_rfl) (by kernel_rfl) ?_
        repeat (first
         | go_big_quiet_skip
         | (go_big_quiet_want
            first
             | ((with_reducible show Oper.quiet _ (Oper.mk (some 32) _ _ _ _ _) _ _ _);refine Og.quiet_load 48 (.tmp 31) rfl (.agg (Ev.cells e2).toArray) ⟨g,o+m * 13,none⟩ _ rfl (by rintro _ ⟨z,rfl⟩;exact LE.out z) (by simp only [Act.put,qa,qb,qc];rfl) ?_
                go_big_quiet_on)
             | ((with_reducible show Oper.quiet _ (Oper.mk (some 55) _ _ _ _ _) _ _ _);refine Og.quiet_load 26 (.tmp 3) rfl (.agg #[.slice x.ae x.ev.length x.ce,.slice x.fr.a x.fr.l.length x.fr.c,.slice x.ao x.od.length x.co]) ⟨xb,0,none⟩ _ rfl (by rintro _ ⟨z,rfl⟩;exact LXX.out z) (by simp only [Act.put,qa,qb,qc];rfl) ?_
                go_big_quiet_on)
             | (go_big_quiet_op
                first
                 | go_big_quiet_on
                 | (apply Exists.intro
                    refine⟨fun z=>?_,?_⟩
                    ·first
                      | (with_reducible exact Og.callB (K1.out z))
                      | (with_reducible exact Og.callB (K2.out z))
                    go_big_quiet_on))))
        refine wpQuiet_nil ?_
        intro _ hw'
        obtain⟨q9,hw''⟩:=hw'
        subst hw''
        go_wp2_with fail
        first
         | exact⟨⟨k+1,(m:Int),by omega,by go_num,rfl,HL3.out,HBR.out.trans (q9.b.mono HBR.out.size)⟩,by simp [intOf];omega⟩
         | (go_roundw
            case rel=>exact⟨k+1,(m:Int),by omega,by go_num,rfl,HL3.out,HBR.out.trans (q9.b.mono HBR.out.size)⟩
            case measure=>simp [intOf];omega)
     ·have t3:(e2.a==e1.a)=false:=by simpa using h3
      have hsn:Md.seen x p n m k=false:=by rw [HSN.out];simp [*]
      have HL2:=HLS.out
      rw [hsn] at HL2
      simp only [Bool.false_eq_true,if_false] at HL2
      have HL3:=qH HL2
      clear HL2 hsn
      go_wp2_with fail
      refine Og.regionB (by kernel_rfl) (by kernel_rfl) ?_
      repeat (first
       | go_big_quiet_skip
       | (go_big_quiet_want
          first
           | ((with_reducible show Oper.quiet _ (Oper.mk (some 32) _ _ _ _ _) _ _ _);refine Og.quiet_load 48 (.tmp 31) rfl (.agg (Ev.cells e2).toArray) ⟨g,o+m * 13,none⟩ _ rfl (by rintro _ ⟨z,rfl⟩;exact LE.out z) (by simp only [Act.put,qa,qb,qc];rfl) ?_
              go_big_quiet_on)
           | ((with_reducible show Oper.quiet _ (Oper.mk (some 55) _ _ _ _ _) _ _ _);refine Og.quiet_load 26 (.tmp 3) rfl (.agg #[.slice x.ae x.ev.length x.ce,.slice x.fr.a x.fr.l.length x.fr.c,.slice x.ao x.od.length x.co]) ⟨xb,0,none⟩ _ rfl (by rintro _ ⟨z,rfl⟩;exact LXX.out z) (by simp only [Act.put,qa,qb,qc];rfl) ?_
              go_big_quiet_on)
           | (go_big_quiet_op
              first
               | go_big_quiet_on
               | (apply Exists.intro
                  refine⟨fun z=>?_,?_⟩
                  ·first
                    | (with_reducible exact Og.callB (K1.out z))
                    | (with_reducible exact Og.callB (K2.out z))
                  go_big_quiet_on))))
      refine wpQuiet_nil ?_
      intro _ hw'
      obtain⟨q9,hw''⟩:=hw'
      subst hw''
      go_wp2_with fail
      first
       | exact⟨⟨k+1,u,by omega,by go_num,rfl,HL3.out,HBR.out.trans (q9.b.mono HBR.out.size)⟩,by simp [intOf];omega⟩
       | (go_roundw
          case rel=>exact⟨k+1,u,by omega,by go_num,rfl,HL3.out,HBR.out.trans (q9.b.mono HBR.out.size)⟩
          case measure=>simp [intOf];omega)
  ·have hke:k=l.length:=by omega
   have hki:¬ (k:Int) < (l.length:Int):=by omega
   have hfin:Md.sees x l n=u:=by rw [hse,hke,List.drop_length];rfl
   have HFIN:=qH hfin
   clear hse hfin hbr hke
   go_wp2
   go_ret
   exact⟨by rw [HFIN.out];rfl,B0.out.trans (HBR.out.mono B0.out.size)⟩
end Go.Proofs.YtnjnpbabgefaeaaGreat
end
section
namespace Go.Proofs.YtnjnpbabgefaeaaGreat
open Go.RowKit
end Go.Proofs.YtnjnpbabgefaeaaGreat
end
