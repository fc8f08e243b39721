import Derived.Test.YtnjnpbabgefaeaaGreatKp19
import Derived.Test.YtnjnpbabgefaeaaGreatKp16
import Derived.Test.YtnjnpbabgefaeaaGreatKp14
import Derived.Test.YtnjnpbabgefaeaaGreatKp20
import Derived.Test.YtnjnpbabgefaeaaGreatKpH
set_option maxRecDepth 100000
set_option maxHeartbeats 4000000
set_option linter.unusedVariables false
set_option linter.unusedSimpArgs false
section
namespace Go.Proofs.YtnjnpbabgefaeaaGreat
open Go.RowKit
theorem rco_any (x:Ev.X) (a b:Nat) (ha:a < x.ev.length) (hb:b < x.ev.length) (w:World) (hin:Ev.XIn w x) :
 Calls Tryz.prog 39 #[Ev.exV x,.int .i64 (a:Int),.int .i64 (b:Int)] w fun e w'=>e=.returned (.bool (Ev.isCo x a b))∧Below w.heap.size w w':=by
 have HIN:=qH hin
 have hl1:=hin.ev.le;have hl2:=hin.ev.max
 obtain⟨B,hB⟩:∃ B,B=w.alloc (Obj.cells (Ev.xcells x).toArray 26):=⟨_,rfl⟩
 have HB:=qH hB
 have B0:=qH (show Below w.heap.size w B by rw [hB];exact(Below.refl w.heap.size w).alloc (Nat.le_refl _) _)
 have HX:=qH (show Ev.XIn B x from hin.kp (Ev.kp_below B0.out))
 have RX:=qH (show B.heap[w.heap.size]?=some (.cells (Ev.xcells x).toArray 26 (0,0)) by rw [hB];exact heap_alloc_new _ _)
 clear hin hB
 obtain⟨ea,hea⟩:∃ e,x.ev[a]?=some e:=⟨_,List.getElem?_eq_getElem ha⟩
 obtain⟨ga,oa,ega,hca⟩:=HX.out.ev.at_ hea
 have hna:=Ev.nth_some hea
 have hai:(a:Int) < (x.ev.length:Int):=by omega
 obtain⟨eb,heb⟩:∃ e,x.ev[b]?=some e:=⟨_,List.getElem?_eq_getElem hb⟩
 obtain⟨gb,ob,egb,hcb⟩:=HX.out.ev.at_ heb
 have hnb:=Ev.nth_some heb
 have hbi:(b:Int) < (x.ev.length:Int):=by omega
 obtain⟨rfl,rfl⟩:gb=ga∧ob=oa:=by rw [ega] at egb;cases egb;exact⟨rfl,rfl⟩
 have LX:=qH (fun z:Og.On B.heap.size B=>Og.rowB (P:=Tryz.prog) z 26 _ RX.out Tryz.underlying26 rfl (by kernel_rfl))
 obtain⟨sa,hsa⟩:∃ s,Ev.stores ea.k=s:=⟨_,rfl⟩
 obtain⟨sb,hsb⟩:∃ s,Ev.stores eb.k=s:=⟨_,rfl⟩
 obtain⟨pa,hpa⟩:∃ s,Ev.place x (a:Int)=s:=⟨_,rfl⟩
 obtain⟨pb,hpb⟩:∃ s,Ev.place x (b:Int)=s:=⟨_,rfl⟩
 have HSA:=qH hsa;have HSB:=qH hsb;have HPA:=qH hpa;have HPB:=qH hpb
 have HRES:=qH (show Ev.isCo x a b=(sa&&sb&&ea.a==eb.a&&decide (pa < pb)) by unfold Ev.isCo;rw [hna,hnb,hsa,hsb,hpa,hpb])
 have hza:∀ z:Og.On B.heap.size B,∀ i c,(Ev.cells ea)[i]?=some c→z.x.cell? ⟨gb,ob+a * 13+i,none⟩=some c:=fun z i c hi=>Og.cellB z (hca i c hi)
 have La:=qH (fun z:Og.On B.heap.size B=>Ev.ld (hza z))
 have ca2:∀ z:Og.On B.heap.size B,z.x.cell? ⟨gb,ob+a * 13+2,none⟩=some (.int .u32 ea.a):=fun z=>hza z 2 _ rfl
 have hzb:∀ z:Og.On B.heap.size B,∀ i c,(Ev.cells eb)[i]?=some c→z.x.cell? ⟨gb,ob+b * 13+i,none⟩=some c:=fun z i c hi=>Og.cellB z (hcb i c hi)
 have Lb:=qH (fun z:Og.On B.heap.size B=>Ev.ld (hzb z))
 have cb2:∀ z:Og.On B.heap.size B,z.x.cell? ⟨gb,ob+b * 13+2,none⟩=some (.int .u32 eb.a):=fun z=>hzb z 2 _ rfl
 have cx:∀ z:Og.On B.heap.size B,z.x.cell? ⟨w.heap.size,0,none⟩=some (.slice (some ⟨gb,ob,none⟩) x.ev.length x.ce):=fun z=>Og.cellB z (by rw [← egb];exact Ev.xcell0 RX.out)
 clear hea heb ega hca hcb hna hnb hza hzb egb hsa hsb hpa hpb
 unfold Ev.exV Ev.xcells
 go_enter Tryz.func39,Tryz.ntmps39
 cases sa
 ·have HF:=qH (show Ev.isCo x a b=false by rw [HRES.out];rfl)
  go_wp2
  rw [show w.alloc (Obj.cells #[Value.slice x.ae x.ev.length x.ce,Value.slice x.fr.a x.fr.l.length x.fr.c,Value.slice x.ao x.od.length x.co] 26)=B from HB.out.symm]
  refine Og.regionB (by kernel_rfl) (by kernel_rfl) ?_
  repeat (first
   | go_big_quiet_skip
   | (go_big_quiet_want
      first
       | ((with_reducible show Oper.quiet _ (Oper.mk (some 11) _ _ _ _ _) _ _ _);refine Og.quiet_load 48 (.tmp 10) rfl (.agg (Ev.cells ea).toArray) ⟨gb,ob+a * 13,none⟩ _ rfl (by rintro _ ⟨z,rfl⟩;exact La.out z) (by simp only [Act.put,qa,qb,qc];rfl) ?_
          go_big_quiet_on)
       | (go_big_quiet_op
          first
           | go_big_quiet_on
           | (apply Exists.intro
              refine⟨fun z=>?_,?_⟩
              ·first
                | (with_reducible exact Og.callB (rstores_is HSA.out _))
              go_big_quiet_on))))
  refine wpQuiet_nil ?_
  intro _ hw'
  obtain⟨q9,hw''⟩:=hw'
  subst hw''
  have HEND:=qH (B0.out.trans (q9.b.mono B0.out.size))
  go_wp2_with fail
  go_ret
  exact⟨by rw [HF.out];rfl,HEND.out⟩
 cases sb
 ·have HF:=qH (show Ev.isCo x a b=false by rw [HRES.out];rfl)
  go_wp2
  rw [show w.alloc (Obj.cells #[Value.slice x.ae x.ev.length x.ce,Value.slice x.fr.a x.fr.l.length x.fr.c,Value.slice x.ao x.od.length x.co] 26)=B from HB.out.symm]
  refine Og.regionB (by kernel_rfl) (by kernel_rfl) ?_
  repeat (first
   | go_big_quiet_skip
   | (go_big_quiet_want
      first
       | ((with_reducible show Oper.quiet _ (Oper.mk (some 11) _ _ _ _ _) _ _ _);refine Og.quiet_load 48 (.tmp 10) rfl (.agg (Ev.cells ea).toArray) ⟨gb,ob+a * 13,none⟩ _ rfl (by rintro _ ⟨z,rfl⟩;exact La.out z) (by simp only [Act.put,qa,qb,qc];rfl) ?_
          go_big_quiet_on)
       | ((with_reducible show Oper.quiet _ (Oper.mk (some 18) _ _ _ _ _) _ _ _);refine Og.quiet_load 48 (.tmp 17) rfl (.agg (Ev.cells eb).toArray) ⟨gb,ob+b * 13,none⟩ _ rfl (by rintro _ ⟨z,rfl⟩;exact Lb.out z) (by simp only [Act.put,qa,qb,qc];rfl) ?_
          go_big_quiet_on)
       | (go_big_quiet_op
          first
           | go_big_quiet_on
           | (apply Exists.intro
              refine⟨fun z=>?_,?_⟩
              ·first
                | (with_reducible exact Og.callB (rstores_is HSA.out _))
                | (with_reducible exact Og.callB (rstores_is HSB.out _))
              go_big_quiet_on))))
  refine wpQuiet_nil ?_
  intro _ hw'
  obtain⟨q9,hw''⟩:=hw'
  subst hw''
  have HEND:=qH (B0.out.trans (q9.b.mono B0.out.size))
  go_wp2_with fail
  go_ret
  exact⟨by rw [HF.out];rfl,HEND.out⟩
 by_cases h3:ea.a=eb.a
 case neg =>
  have t3:(ea.a==eb.a)=false:=by simpa using h3
  have HF:=qH (show Ev.isCo x a b=false by rw [HRES.out,t3];rfl)
  clear h3
  go_wp2
  rw [show w.alloc (Obj.cells #[Value.slice x.ae x.ev.length x.ce,Value.slice x.fr.a x.fr.l.length x.fr.c,Value.slice x.ao x.od.length x.co] 26)=B from HB.out.symm]
  refine Og.regionB (by kernel_rfl) (by kernel_rfl) ?_
  repeat (first
   | go_big_quiet_skip
   | (go_big_quiet_want
      first
       | ((with_reducible show Oper.quiet _ (Oper.mk (some 11) _ _ _ _ _) _ _ _);refine Og.quiet_load 48 (.tmp 10) rfl (.agg (Ev.cells ea).toArray) ⟨gb,ob+a * 13,none⟩ _ rfl (by rintro _ ⟨z,rfl⟩;exact La.out z) (by simp only [Act.put,qa,qb,qc];rfl) ?_
          go_big_quiet_on)
       | ((with_reducible show Oper.quiet _ (Oper.mk (some 18) _ _ _ _ _) _ _ _);refine Og.quiet_load 48 (.tmp 17) rfl (.agg (Ev.cells eb).toArray) ⟨gb,ob+b * 13,none⟩ _ rfl (by rintro _ ⟨z,rfl⟩;exact Lb.out z) (by simp only [Act.put,qa,qb,qc];rfl) ?_
          go_big_quiet_on)
       | (go_big_quiet_op
          first
           | go_big_quiet_on
           | (apply Exists.intro
              refine⟨fun z=>?_,?_⟩
              ·first
                | (with_reducible exact Og.callB (rstores_is HSA.out _))
                | (with_reducible exact Og.callB (rstores_is HSB.out _))
              go_big_quiet_on))))
  refine wpQuiet_nil ?_
  intro _ hw'
  obtain⟨q9,hw''⟩:=hw'
  subst hw''
  have HEND:=qH (B0.out.trans (q9.b.mono B0.out.size))
  go_wp2_with fail
  go_ret
  exact⟨by rw [HF.out];rfl,HEND.out⟩
 have t3:(ea.a==eb.a)=true:=by simpa using h3
 by_cases h4:pa < pb
 ·have t4:decide (pa < pb)=true:=decide_eq_true h4
  have HF:=qH (show Ev.isCo x a b=true by rw [HRES.out,t3,t4];rfl)
  clear h3
  go_wp2
  rw [show w.alloc (Obj.cells #[Value.slice x.ae x.ev.length x.ce,Value.slice x.fr.a x.fr.l.length x.fr.c,Value.slice x.ao x.od.length x.co] 26)=B from HB.out.symm]
  refine Og.regionB (by kernel_rfl) (by kernel_rfl) ?_
  repeat (first
   | go_big_quiet_skip
   | (go_big_quiet_want
      first
       | ((with_reducible show Oper.quiet _ (Oper.mk (some 11) _ _ _ _ _) _ _ _);refine Og.quiet_load 48 (.tmp 10) rfl (.agg (Ev.cells ea).toArray) ⟨gb,ob+a * 13,none⟩ _ rfl (by rintro _ ⟨z,rfl⟩;exact La.out z) (by simp only [Act.put,qa,qb,qc];rfl) ?_
          go_big_quiet_on)
       | ((with_reducible show Oper.quiet _ (Oper.mk (some 18) _ _ _ _ _) _ _ _);refine Og.quiet_load 48 (.tmp 17) rfl (.agg (Ev.cells eb).toArray) ⟨gb,ob+b * 13,none⟩ _ rfl (by rintro _ ⟨z,rfl⟩;exact Lb.out z) (by simp only [Act.put,qa,qb,qc];rfl) ?_
          go_big_quiet_on)
       | ((with_reducible show Oper.quiet _ (Oper.mk (some 37) _ _ _ _ _) _ _ _);refine Og.quiet_load 26 (.tmp 3) rfl (.agg (Ev.xcells x).toArray) ⟨w.heap.size,0,none⟩ _ rfl (by rintro _ ⟨z,rfl⟩;exact LX.out z) (by simp only [Act.put,qa,qb,qc];rfl) ?_
          go_big_quiet_on)
       | ((with_reducible show Oper.quiet _ (Oper.mk (some 40) _ _ _ _ _) _ _ _);refine Og.quiet_load 26 (.tmp 3) rfl (.agg (Ev.xcells x).toArray) ⟨w.heap.size,0,none⟩ _ rfl (by rintro _ ⟨z,rfl⟩;exact LX.out z) (by simp only [Act.put,qa,qb,qc];rfl) ?_
          go_big_quiet_on)
       | (go_big_quiet_op
          first
           | go_big_quiet_on
           | (apply Exists.intro
              refine⟨fun z=>?_,?_⟩
              ·first
                | (with_reducible exact Og.callB (rstores_is HSA.out _))
                | (with_reducible exact Og.callB (rstores_is HSB.out _))
                | (with_reducible exact Og.callB (rplace_is HPA.out _ (HX.out.kp (Ev.kp_below z.b))))
                | (with_reducible exact Og.callB (rplace_is HPB.out _ (HX.out.kp (Ev.kp_below z.b))))
              go_big_quiet_on))))
  refine wpQuiet_nil ?_
  intro _ hw'
  obtain⟨q9,hw''⟩:=hw'
  subst hw''
  have HEND:=qH (B0.out.trans (q9.b.mono B0.out.size))
  go_wp2_with fail
  go_ret
  exact⟨by rw [HF.out];rfl,HEND.out⟩
 ·have t4:decide (pa < pb)=false:=decide_eq_false h4
  have HF:=qH (show Ev.isCo x a b=false by rw [HRES.out,t3,t4];rfl)
  clear h3
  go_wp2
  rw [show w.alloc (Obj.cells #[Value.slice x.ae x.ev.length x.ce,Value.slice x.fr.a x.fr.l.length x.fr.c,Value.slice x.ao x.od.length x.co] 26)=B from HB.out.symm]
  refine Og.regionB (by kernel_rfl) (by kernel_rfl) ?_
  repeat (first
   | go_big_quiet_skip
   | (go_big_quiet_want
      first
       | ((with_reducible show Oper.quiet _ (Oper.mk (some 11) _ _ _ _ _) _ _ _);refine Og.quiet_load 48 (.tmp 10) rfl (.agg (Ev.cells ea).toArray) ⟨gb,ob+a * 13,none⟩ _ rfl (by rintro _ ⟨z,rfl⟩;exact La.out z) (by simp only [Act.put,qa,qb,qc];rfl) ?_
          go_big_quiet_on)
       | ((with_reducible show Oper.quiet _ (Oper.mk (some 18) _ _ _ _ _) _ _ _);refine Og.quiet_load 48 (.tmp 17) rfl (.agg (Ev.cells eb).toArray) ⟨gb,ob+b * 13,none⟩ _ rfl (by rintro _ ⟨z,rfl⟩;exact Lb.out z) (by simp only [Act.put,qa,qb,qc];rfl) ?_
          go_big_quiet_on)
       | ((with_reducible show Oper.quiet _ (Oper.mk (some 37) _ _ _ _ _) _ _ _);refine Og.quiet_load 26 (.tmp 3) rfl (.agg (Ev.xcells x).toArray) ⟨w.heap.size,0,none⟩ _ rfl (by rintro _ ⟨z,rfl⟩;exact LX.out z) (by simp only [Act.put,qa,qb,qc];rfl) ?_
          go_big_quiet_on)
       | ((with_reducible show Oper.quiet _ (Oper.mk (some 40) _ _ _ _ _) _ _ _);refine Og.quiet_load 26 (.tmp 3) rfl (.agg (Ev.xcells x).toArray) ⟨w.heap.size,0,none⟩ _ rfl (by rintro _ ⟨z,rfl⟩;exact LX.out z) (by simp only [Act.put,qa,qb,qc];rfl) ?_
          go_big_quiet_on)
       | (go_big_quiet_op
          first
           | go_big_quiet_on
           | (apply Exists.intro
              refine⟨fun z=>?_,?_⟩
              ·first
                | (with_reducible exact Og.callB (rstores_is HSA.out _))
                | (with_reducible exact Og.callB (rstores_is HSB.out _))
                | (with_reducible exact Og.callB (rplace_is HPA.out _ (HX.out.kp (Ev.kp_below z.b))))
                | (with_reducible exact Og.callB (rplace_is HPB.out _ (HX.out.kp (Ev.kp_below z.b))))
              go_big_quiet_on))))
  refine wpQuiet_nil ?_
  intro _ hw'
  obtain⟨q9,hw''⟩:=hw'
  subst hw''
  have HEND:=qH (B0.out.trans (q9.b.mono B0.out.size))
  go_wp2_with fail
  go_ret
  exact⟨by rw [HF.out];rfl,HEND.out⟩
theorem rco_is {x:Ev.X} {a b:Nat} {v:Bool} (h:Ev.isCo x a b=v) (ha:a < x.ev.length) (hb:b < x.ev.length) (w:World) (hin:Ev.XIn w x) :
 Calls Tryz.prog 39 #[.agg (Ev.xcells x).toArray,.int .i64 (a:Int),.int .i64 (b:Int)] w fun e w'=>e=.returned (.bool v)∧Below w.heap.size w w':=h ▸ rco_any x a b ha hb w hin
theorem rfr_any (x:Ev.X) (a b:Nat) (ha:a < x.ev.length) (hb:b < x.ev.length) (hck:Ev.check x=0) (w:World) (hin:Ev.XIn w x) :
 Calls Tryz.prog 44 #[Ev.exV x,.int .i64 (a:Int),.int .i64 (b:Int)] w fun e w'=>e=.returned (.bool (Ev.isFr x a b))∧Below w.heap.size w w':=by
 have HIN:=qH hin
 have hl1:=hin.ev.le;have hl2:=hin.ev.max
 obtain⟨B,hB⟩:∃ B,B=w.alloc (Obj.cells (Ev.xcells x).toArray 26):=⟨_,rfl⟩
 have HB:=qH hB
 have B0:=qH (show Below w.heap.size w B by rw [hB];exact(Below.refl w.heap.size w).alloc (Nat.le_refl _) _)
 have HX:=qH (show Ev.XIn B x from hin.kp (Ev.kp_below B0.out))
 have RX:=qH (show B.heap[w.heap.size]?=some (.cells (Ev.xcells x).toArray 26 (0,0)) by rw [hB];exact heap_alloc_new _ _)
 clear hin hB
 obtain⟨ea,hea⟩:∃ e,x.ev[a]?=some e:=⟨_,List.getElem?_eq_getElem ha⟩
 obtain⟨ga,oa,ega,hca⟩:=HX.out.ev.at_ hea
 have hna:=Ev.nth_some hea
 have hai:(a:Int) < (x.ev.length:Int):=by omega
 have LX:=qH (fun z:Og.On B.heap.size B=>Og.rowB (P:=Tryz.prog) z 26 _ RX.out Tryz.underlying26 rfl (by kernel_rfl))
 obtain⟨sa,hsa⟩:∃ s,Ev.loads ea.k=s:=⟨_,rfl⟩
 have HSA:=qH hsa
 have hfs:=HX.out.fr.2.1;have hfm:=HX.out.fr.2.2.1
 have hfl:=check_from hck
 have haf:(a:Int) < (x.fr.l.length:Int):=by omega
 have HRES:=qH (show Ev.isFr x a b=(!(decide (a=b))&&sa&&Ev.isCo x (Ev.frAt x a) b) by unfold Ev.isFr;rw [hna,hsa])
 have HFI:=qH (show sa=true→∃ f:Nat,f < x.ev.length∧x.fr.l[a]?=some (f:Int)∧Ev.frAt x a=f from fun h=>Ev.from_in hck ha (by rw [hna,hsa];exact h))
 have hza:∀ z:Og.On B.heap.size B,∀ i c,(Ev.cells ea)[i]?=some c→z.x.cell? ⟨ga,oa+a * 13+i,none⟩=some c:=fun z i c hi=>Og.cellB z (hca i c hi)
 have La:=qH (fun z:Og.On B.heap.size B=>Ev.ld (hza z))
 have cx:∀ z:Og.On B.heap.size B,z.x.cell? ⟨w.heap.size,0,none⟩=some (.slice (some ⟨ga,oa,none⟩) x.ev.length x.ce):=fun z=>Og.cellB z (by rw [← ega];exact Ev.xcell0 RX.out)
 clear hea ega hca hna hza hsa hck hfl
 unfold Ev.exV Ev.xcells
 go_enter Tryz.func44,Tryz.ntmps44
 by_cases hab:a=b
 ·have tab:(a != b)=false:=by simp [hab]
  have tab2:((a:Int) != (b:Int))=false:=by simp [hab]
  have HF:=qH (show Ev.isFr x a b=false by rw [HRES.out,decide_eq_true hab];rfl)
  clear hab
  go_wp2
  rw [show w.alloc (Obj.cells #[Value.slice x.ae x.ev.length x.ce,Value.slice x.fr.a x.fr.l.length x.fr.c,Value.slice x.ao x.od.length x.co] 26)=B from HB.out.symm]
  refine Og.regionB (by kernel_rfl) (by kernel_rfl) ?_
  repeat (first
   | go_big_quiet_skip
   | (go_big_quiet_want
      first
       | (go_big_quiet_op
          first
           | go_big_quiet_on)))
  refine wpQuiet_nil ?_
  intro _ hw'
  obtain⟨q9,hw''⟩:=hw'
  subst hw''
  have HEND:=qH (B0.out.trans (q9.b.mono B0.out.size))
  go_wp2_with fail
  go_ret
  exact⟨by rw [HF.out];rfl,HEND.out⟩
 have tab:(a != b)=true:=by simpa using hab
 have tab2:((a:Int) != (b:Int))=true:=by simp;omega
 have HR2:=qH (show Ev.isFr x a b=(sa&&Ev.isCo x (Ev.frAt x a) b) by rw [HRES.out,decide_eq_false hab];rfl)
 clear hab
 cases sa
 ·have HF:=qH (show Ev.isFr x a b=false by rw [HR2.out];rfl)
  go_wp2
  rw [show w.alloc (Obj.cells #[Value.slice x.ae x.ev.length x.ce,Value.slice x.fr.a x.fr.l.length x.fr.c,Value.slice x.ao x.od.length x.co] 26)=B from HB.out.symm]
  refine Og.regionB (by kernel_rfl) (by kernel_rfl) ?_
  repeat (first
   | go_big_quiet_skip
   | (go_big_quiet_want
      first
       | ((with_reducible show Oper.quiet _ (Oper.mk (some 15) _ _ _ _ _) _ _ _);refine Og.quiet_load 48 (.tmp 14) rfl (.agg (Ev.cells ea).toArray) ⟨ga,oa+a * 13,none⟩ _ rfl (by rintro _ ⟨z,rfl⟩;exact La.out z) (by simp only [Act.put,qa,qb,qc];rfl) ?_
          go_big_quiet_on)
       | (go_big_quiet_op
          first
           | go_big_quiet_on
           | (apply Exists.intro
              refine⟨fun z=>?_,?_⟩
              ·first
                | (with_reducible exact Og.callB (rloads_is HSA.out _))
              go_big_quiet_on))))
  refine wpQuiet_nil ?_
  intro _ hw'
  obtain⟨q9,hw''⟩:=hw'
  subst hw''
  have HEND:=qH (B0.out.trans (q9.b.mono B0.out.size))
  go_wp2_with fail
  go_ret
  exact⟨by rw [HF.out];rfl,HEND.out⟩
 obtain⟨f,hf,hfa,hfr⟩:=HFI.out rfl
 obtain⟨v,hv⟩:∃ v,Ev.isCo x (f:Int) b=v:=⟨_,rfl⟩
 have HV:=qH hv
 have HF:=qH (show Ev.isFr x a b=v by rw [HR2.out,hfr,hv];rfl)
 obtain⟨gf,of,ef,hcf⟩:=HX.out.fr.at_ hfa
 have cx1:∀ z:Og.On B.heap.size B,z.x.cell? ⟨w.heap.size,1,none⟩=some (.slice (some ⟨gf,of,none⟩) x.fr.l.length x.fr.c):=fun z=>Og.cellB z (by rw [← ef];exact Ev.xcell1 RX.out)
 have cff:∀ z:Og.On B.heap.size B,z.x.cell? ⟨gf,of+a,none⟩=some (.int .i64 (f:Int)):=fun z=>Og.cellB z hcf
 clear hv hfa hfr ef hcf
 go_wp2
 rw [show w.alloc (Obj.cells #[Value.slice x.ae x.ev.length x.ce,Value.slice x.fr.a x.fr.l.length x.fr.c,Value.slice x.ao x.od.length x.co] 26)=B from HB.out.symm]
 refine Og.regionB (by kernel_rfl) (by kernel_rfl) ?_
 repeat (first
  | go_big_quiet_skip
  | (go_big_quiet_want
     first
      | ((with_reducible show Oper.quiet _ (Oper.mk (some 15) _ _ _ _ _) _ _ _);refine Og.quiet_load 48 (.tmp 14) rfl (.agg (Ev.cells ea).toArray) ⟨ga,oa+a * 13,none⟩ _ rfl (by rintro _ ⟨z,rfl⟩;exact La.out z) (by simp only [Act.put,qa,qb,qc];rfl) ?_
         go_big_quiet_on)
      | ((with_reducible show Oper.quiet _ (Oper.mk (some 19) _ _ _ _ _) _ _ _);refine Og.quiet_load 26 (.tmp 3) rfl (.agg (Ev.xcells x).toArray) ⟨w.heap.size,0,none⟩ _ rfl (by rintro _ ⟨z,rfl⟩;exact LX.out z) (by simp only [Act.put,qa,qb,qc];rfl) ?_
         go_big_quiet_on)
      | (go_big_quiet_op
         first
          | go_big_quiet_on
          | (apply Exists.intro
             refine⟨fun z=>?_,?_⟩
             ·first
               | (with_reducible exact Og.callB (rloads_is HSA.out _))
               | (with_reducible exact Og.callB (rco_is HV.out hf hb _ (HX.out.kp (Ev.kp_below z.b))))
             go_big_quiet_on))))
 refine wpQuiet_nil ?_
 intro _ hw'
 obtain⟨q9,hw''⟩:=hw'
 subst hw''
 have HEND:=qH (B0.out.trans (q9.b.mono B0.out.size))
 go_wp2_with fail
 go_ret
 exact⟨by rw [HF.out];rfl,HEND.out⟩
end Go.Proofs.YtnjnpbabgefaeaaGreat
end
section
namespace Go.Proofs.YtnjnpbabgefaeaaGreat
open Go.RowKit
namespace Ev
def ruleOf (x:X) (r:Int) (a b:Nat):Bool :=
 let e:=nth x.ev a;let f:=nth x.ev b
 if r=1 then e.a==f.a&&stores f.k
 else if r=3 then (e.k==3||(e.k==2&&e.z))&&frAt x b==(a:Int)
 else if r=5 then e.q
 else if r=6 then f.l
 else if r=7 then strong e&&strong f
 else if r=8 then paired x b==(a:Int)
 else if r=9 then decide (0≤at_ f.d1.l a)
 else if r=10 then decide (0≤at_ f.d2.l a)
 else if r=11 then stores f.k&&decide (0≤at_ f.d3.l a)
 else
  let ms:=(List.range (b - (a+1))).map fun i=>a+1+i
  let clear:=ms.all fun m=>!(stores (nth x.ev m).k&&(nth x.ev m).a==e.a)
  let some:=ms.any fun m =>
   let g:=nth x.ev m
   r==4&&g.k==4&&inSet g.p e&&inSet g.s f||r==12&&loads f.k&&stores g.k&&frAt x b==(m:Int)&&(decide (0≤at_ g.d1.l a)||decide (0≤at_ g.d2.l a))||r==13&&stores f.k&&decide (0≤at_ g.d1.l a)
  if r=2 then loads e.k&&loads f.k&&e.a==f.a&&!(frAt x a==frAt x b)&&clear else some
def rule (x:X) (r:Int) (a b:Nat):Bool:=if isPo x a b=false∨(nth x.ev a).k=4∨(nth x.ev b).k=4 then false else ruleOf x r a b
end Ev
theorem rpo_is {x:Ev.X} {a b:Nat} {v:Bool} (h:Ev.isPo x a b=v) (ha:a < x.ev.length) (hb:b < x.ev.length) (w:World) (hin:Ev.XIn w x) :
 Calls Tryz.prog 42 #[.agg (Ev.xcells x).toArray,.int .i64 (a:Int),.int .i64 (b:Int)] w fun e w'=>e=.returned (.bool v)∧Below w.heap.size w w':=h ▸ rpo_any x a b ha hb w hin
theorem rpaired_is {x:Ev.X} {b:Nat} {v:Int} (h:Ev.paired x b=v) (hb:b < x.ev.length) (w:World) (hin:Ev.XIn w x) :
 Calls Tryz.prog 38 #[.agg (Ev.xcells x).toArray,.int .i64 (b:Int)] w fun e w'=>e=.returned (.int .i64 v)∧Below w.heap.size w w':=h ▸ rpaired_any x b hb w hin
theorem rstrong_is {x:Ev.R} {v:Bool} (h:Ev.strong x=v) (w:World):Calls Tryz.prog 91 #[.agg (Ev.cells x).toArray] w fun e w'=>e=.returned (.bool v)∧Below w.heap.size w w':=h ▸ rstrong_any x w
theorem rin_is {n:Int} {x:Ev.R} {v:Bool} (h:Ev.inSet n x=v) (w:World):Calls Tryz.prog 92 #[.int .i64 n,.agg (Ev.cells x).toArray] w fun e w'=>e=.returned (.bool v)∧Below w.heap.size w w':=h ▸ rin_any n x w
end Go.Proofs.YtnjnpbabgefaeaaGreat
end
section
namespace Go.Proofs.YtnjnpbabgefaeaaGreat
open Go.RowKit
theorem or_store_func (P:Program) (w:World) (a:Addr) (m:Mode) (f:Fn) (b c:Array Value):(store a (.func f b c) m).run P w=stored P w a (.func f b c) m:=run_store P w a _ m rfl
attribute [local go_sem] or_store_func
theorem rules_any (w:World):Calls Tryz.prog 107 #[] w fun r w'=>r=.returned Or.rulesV∧Below w.heap.size w w':=by
 go_enter Tryz.func107,Tryz.ntmps107
 go_wp2_with (first
  | ((with_reducible show wpList _ _ _ (Oper.mk none (Op.store 135 _ _) _ _ _ _ :: _) _ _);refine wpList_store_own rfl 135 (.tmp 0) (.tmp 1) rfl w.heap.size Or.rulesA rfl rfl 135 _ (heap_alloc_new _ _) (by kernel_rfl) (by kernel_rfl) (by kernel_rfl) ?_
     intro W1 HW1
     have B1:=qH (((Below.refl w.heap.size w).alloc (Nat.le_refl _) _).trans HW1.below)
     have R1:=qH HW1.row
     clear HW1))
 refine bodyPost_ret (results_cell_row (fn:=Tryz.f107) rfl _ _ w.heap.size 135 Or.rulesA (0,0) _ rfl R1.out Tryz.underlying135 rfl (by kernel_rfl)) rfl ⟨rfl,B1.out⟩
def Or.Box (w:World) (p:Nat) (t:TypeId) (v:Value):Prop:=w.heap[p]?=some (.cells #[v] t (0,0))
theorem Or.Box.kp {w w':World} {p:Nat} {t:TypeId} {v:Value} (h:Or.Box w p t v) (hb:Below w.heap.size w w'):Or.Box w' p t v:=(hb.block p (qL h)).trans h
theorem Or.Box.cell {w:World} {p:Nat} {t:TypeId} {v:Value} (h:Or.Box w p t v):w.cell? ⟨p,0,none⟩=some v:=by rw [qC h];rfl
theorem Or.box_new (w:World) (t:TypeId) (v:Value):Or.Box (w.alloc (.cells #[v] t (0,0))) w.heap.size t v:=heap_alloc_new _ _
theorem between_any (q:Nat) (a b:Int) (w:World) :
 Calls Tryz.prog 166 #[.pointer (some ⟨q,0,none⟩),.int .i64 a,.int .i64 b] w fun r w'=>r=.returned (.func (.func 169) #[] #[.pointer (some ⟨w.heap.size,0,none⟩),.pointer (some ⟨w.heap.size+1,0,none⟩)]) ∧
  w'=(w.alloc (.cells #[.int .i64 a] 3)).alloc (.cells #[.int .i64 b] 3):=by
 go_enter Tryz.func166,Tryz.ntmps166
 go_wp2
 go_ret
 exact⟨rfl,rfl⟩
theorem holding_any (q:Nat) (a b:Int) (w:World) :
 Calls Tryz.prog 82 #[.pointer (some ⟨q,0,none⟩),.int .i64 a,.int .i64 b] w fun r w'=>r=.returned (.func (.func 105) #[] #[.pointer (some ⟨w.heap.size,0,none⟩),.pointer (some ⟨w.heap.size+1,0,none⟩),.pointer (some ⟨w.heap.size+1+1,0,none⟩)]) ∧
  w'=((w.alloc (.cells #[.pointer (some ⟨q,0,none⟩)] 112)).alloc (.cells #[.int .i64 a] 3)).alloc (.cells #[.int .i64 b] 3):=by
 go_enter Tryz.func82,Tryz.ntmps82
 go_wp2
 go_ret
 exact⟨rfl,rfl⟩
end Go.Proofs.YtnjnpbabgefaeaaGreat
end
