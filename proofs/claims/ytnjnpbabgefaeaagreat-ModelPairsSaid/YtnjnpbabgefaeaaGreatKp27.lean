import Derived.Test.YtnjnpbabgefaeaaGreatKp18
import Derived.Test.YtnjnpbabgefaeaaGreatKp23
import Derived.Test.YtnjnpbabgefaeaaGreatKp04
import Derived.Test.YtnjnpbabgefaeaaGreatKpH
set_option maxRecDepth 100000
set_option maxHeartbeats 4000000
set_option linter.unusedVariables false
set_option linter.unusedSimpArgs false
section
namespace Go.Proofs.YtnjnpbabgefaeaaGreat
open Go.RowKit
namespace Ev
end Ev
theorem Ev.own_mono {w:World} {B B':Nat} {e:TypeId} {size n:Nat} {v:Value} {xs:List Value} (h:w.ownsRow B e size v n xs) (hB:B'≤B):w.ownsRow B' e size v n xs :=
 ⟨h.1,h.2.imp id fun ⟨g,cap,cur,e1,e2,r⟩=>⟨g,cap,cur,e1,Nat.le_trans hB e2,r⟩⟩
theorem rpairs1_own (x:Ev.X) (w:World) (hin:Ev.XIn w x) (hck:Ev.check x=0) :
 Calls Tryz.prog 23 #[Ev.exV x,.int .i64 1] w fun e w'=>∃ a c,e=.returned (.slice a (Ev.pl (Ev.isPo x) x.ev.length x.ev.length).length c)∧w'.ownsRow w.heap.size 72 2 (.slice a (Ev.pl (Ev.isPo x) x.ev.length x.ev.length).length c) (Ev.pl (Ev.isPo x) x.ev.length x.ev.length).length ((Ev.pl (Ev.isPo x) x.ev.length x.ev.length).flatMap Ev.pv)∧Below w.heap.size w w':=by
 obtain⟨IS,hIS⟩:∃ IS:Nat→Nat→Bool,(Ev.isPo x)=IS:=⟨_,rfl⟩
 have HIS:=qH hIS
 have hn64:x.ev.length≤64:=(Ev.check_order hck).2.2
 have hl1:=hin.ev.le;have hl2:=hin.ev.max
 have HCK:=qH hck
 have HFL:=qH (check_from hck)
 obtain⟨B,hB⟩:∃ B,B=w.alloc (Obj.cells (Ev.xcells x).toArray 26):=⟨_,rfl⟩
 have HB:=qH hB
 have B0:=qH (show Below w.heap.size w B by rw [hB];exact(Below.refl w.heap.size w).alloc (Nat.le_refl _) _)
 have HX:=qH (show Ev.XIn B x from hin.kp (Ev.kp_below B0.out))
 have RX:=qH (show B.heap[w.heap.size]?=some (.cells (Ev.xcells x).toArray 26 (0,0)) by rw [hB];exact heap_alloc_new _ _)
 obtain⟨i0,hi,hz0,hz1,hz2⟩:=info_pair
 have HI:=qH hi;have HZ0:=qH hz0;have HZ1:=qH hz1;have HZ2:=qH hz2;clear hi hz0 hz1 hz2
 rw [hIS]
 clear hin hB hck hIS
 unfold Ev.exV Ev.xcells
 go_enter Tryz.func23,Tryz.ntmps23
 go_wp2
 rw [show w.alloc (Obj.cells #[Value.slice x.ae x.ev.length x.ce,Value.slice x.fr.a x.fr.l.length x.fr.c,Value.slice x.ao x.od.length x.co] 26)=B from HB.out.symm]
 go_loopw [5,7,8,9,24,30,36,42,48,54] (fun v i _ _ _ _ _ _ _ _ wr=>∃ a:Nat,a≤x.ev.length∧i=.int .i64 (a:Int)∧wr.ownsRow B.heap.size 72 2 v (Ev.pl IS x.ev.length a).length ((Ev.pl IS x.ev.length a).flatMap Ev.pv)∧Below B.heap.size B wr) (fun _ i _ _ _ _ _ _ _ _ _=>x.ev.length - (intOf i).toNat)
 case atStart=>exact⟨0,Nat.zero_le _,rfl,World.ownsRow_nil _ _ _ _,Below.refl _ _⟩
 case round =>
  obtain⟨a,ha,rfl,hrow,hbr⟩:=hrel
  have HROW:=qH hrow;have HBR:=qH hbr
  clear hrow hbr
  by_cases hlt:a < x.ev.length
  ·have hai:(a:Int) < (x.ev.length:Int):=by omega
   go_wp2
   go_loopw [5,8,9,24,30,36,42,48,54] (fun v j _ _ _ _ _ _ _ w3=>∃ q:Nat,q≤x.ev.length∧j=.int .i64 (q:Int)∧w3.ownsRow B.heap.size 72 2 v (Ev.pl IS x.ev.length a++Ev.rowL IS a (List.range q)).length ((Ev.pl IS x.ev.length a++Ev.rowL IS a (List.range q)).flatMap Ev.pv)∧Below B.heap.size B w3) (fun _ j _ _ _ _ _ _ _ _=>x.ev.length - (intOf j).toNat)
   case atStart=>exact⟨0,Nat.zero_le _,rfl,by simpa [Ev.rowL] using HROW.out,HBR.out⟩
   case round =>
    obtain⟨q,hq,rfl,hrow3,hb3⟩:=hrel
    have HR3:=qH hrow3;have HB3:=qH hb3
    clear hrow3 hb3
    by_cases hql:q < x.ev.length
    ·have hqi:(q:Int) < (x.ev.length:Int):=by omega
     obtain⟨v,hv⟩:∃ v,IS a q=v:=⟨_,rfl⟩
     have HV:=qH hv
     have HV2:=qH (show Ev.isPo x a q=v by rw [← hv,← HIS.out])
     have HRS:=qH (show Ev.rowL IS a (List.range (q+1))=Ev.rowL IS a (List.range q)++if v then [(a,q)] else [] by rw [Ev.rowL_succ,hv])
     have RX3:=qH ((HB3.out.block w.heap.size (qL RX.out)).trans RX.out)
     have hlen:(Ev.pl IS x.ev.length a++Ev.rowL IS a (List.range q)).length≤4160:=by
      have h1:=Ev.pl_len IS x.ev.length a
      have h2:=Ev.rowL_len IS a q
      have h3:a * x.ev.length≤64 * 64:=Nat.mul_le_mul (by omega) hn64
      rw [List.length_append];omega
     clear hv
     go_wp2_with ((with_reducible refine qG 26 ?_);refine wpList_load_row rfl 26 (.tmp 2) rfl w.heap.size (by kernel_rfl) 26 (Ev.xcells x).toArray (0,0) _ RX3.out Tryz.underlying26 rfl (by kernel_rfl) ?_)
     refine(rpo_any x a q hlt hql _ (HX.out.kp (Ev.kp_below HB3.out))).mono ?_
     rintro e W4 ⟨rfl,hb4⟩
     rw [HV2.out]
     have HB4:=qH (HB3.out.trans (hb4.mono HB3.out.size))
     have HR4:=qH (Ev.row_below HR3.out hb4)
     clear hb4
     cases v
     ·go_wp2_with fail
      go_roundw
      case rel=>exact⟨q+1,by omega,by go_num,by rw [HRS.out];simpa using HR4.out,HB4.out⟩
      case measure=>simp [intOf];omega
     ·go_wp2_with ((with_reducible refine qG 99 ?_);refine wpList_append_own _ rfl (.tmp 94) (.tmp 98) 37 rfl B.heap.size 72 i0 (.agg #[.int .i64 0,.int .i64 0]) 2 16 Tryz.underlying37 HI.out HZ0.out HZ1.out HZ2.out rfl (by decide) _ _ _ rfl (HR4.out.alloc _) ⟨W4.heap.size,0,none⟩ 1 1 (Ev.pv (a,q)) rfl rfl (fun j u hu=>World.news_of_block (heap_alloc_new W4 _) j u hu) (Ev.pv_one _) (by unfold maxLen;omega) (by omega) (by have:=HB4.out.size;simp only [World.size_alloc];omega) ?_
                   intro v' w5 hown hgrow _
                   have HOWN:=qH hown;have HGR:=qH hgrow;clear hown hgrow)
      have HB5:=qH (Below.grown (HB4.out.alloc HB4.out.size _) HGR.out (by have:=HB4.out.size;simp only [World.size_alloc];omega) (fun k hk=>Ev.own_ge HR4.out hk))
      go_roundw
      case rel =>
       refine⟨q+1,by omega,by go_num,?_,HB5.out⟩
       have:=HOWN.out
       have hrs:Ev.rowL IS a (List.range (q+1))=Ev.rowL IS a (List.range q)++[(a,q)]:=by have h:=HRS.out;simpa using h
       rw [hrs,← List.append_assoc,List.length_append,List.flatMap_append]
       simpa using this
      case measure=>simp [intOf];omega
    ·have hqe:q=x.ev.length:=by omega
     have hqi:¬ (q:Int) < (x.ev.length:Int):=by omega
     have HE:=qH (show wr.ownsRow B.heap.size 72 2 u5 (Ev.pl IS x.ev.length (a+1)).length ((Ev.pl IS x.ev.length (a+1)).flatMap Ev.pv) by rw [Ev.pl_succ,← hqe];have:=HR3.out;rwa [hqe] at this ⊢)
     clear hqe
     go_wp2
     go_roundw
     case rel=>exact⟨a+1,by omega,by go_num,HE.out,HB3.out⟩
     case measure=>simp [intOf];omega
  ·have han:a=x.ev.length:=by omega
   have hai:¬ (a:Int) < (x.ev.length:Int):=by omega
   have hrow:=HROW.out
   rw [han] at hrow
   obtain⟨A,c,hv,hp⟩:=Ev.pairs_of_row hrow
   subst hv
   have HP:=qH (Ev.own_mono hrow B0.out.size)
   clear hrow hp han
   go_wp2
   go_ret
   exact⟨A,c,rfl,HP.out,B0.out.trans (HBR.out.mono B0.out.size)⟩
theorem rpairs2_own (x:Ev.X) (w:World) (hin:Ev.XIn w x) (hck:Ev.check x=0) :
 Calls Tryz.prog 23 #[Ev.exV x,.int .i64 2] w fun e w'=>∃ a c,e=.returned (.slice a (Ev.pl (Ev.isRf x) x.ev.length x.ev.length).length c)∧w'.ownsRow w.heap.size 72 2 (.slice a (Ev.pl (Ev.isRf x) x.ev.length x.ev.length).length c) (Ev.pl (Ev.isRf x) x.ev.length x.ev.length).length ((Ev.pl (Ev.isRf x) x.ev.length x.ev.length).flatMap Ev.pv)∧Below w.heap.size w w':=by
 obtain⟨IS,hIS⟩:∃ IS:Nat→Nat→Bool,(Ev.isRf x)=IS:=⟨_,rfl⟩
 have HIS:=qH hIS
 have hn64:x.ev.length≤64:=(Ev.check_order hck).2.2
 have hl1:=hin.ev.le;have hl2:=hin.ev.max
 have HCK:=qH hck
 have HFL:=qH (check_from hck)
 obtain⟨B,hB⟩:∃ B,B=w.alloc (Obj.cells (Ev.xcells x).toArray 26):=⟨_,rfl⟩
 have HB:=qH hB
 have B0:=qH (show Below w.heap.size w B by rw [hB];exact(Below.refl w.heap.size w).alloc (Nat.le_refl _) _)
 have HX:=qH (show Ev.XIn B x from hin.kp (Ev.kp_below B0.out))
 have RX:=qH (show B.heap[w.heap.size]?=some (.cells (Ev.xcells x).toArray 26 (0,0)) by rw [hB];exact heap_alloc_new _ _)
 obtain⟨i0,hi,hz0,hz1,hz2⟩:=info_pair
 have HI:=qH hi;have HZ0:=qH hz0;have HZ1:=qH hz1;have HZ2:=qH hz2;clear hi hz0 hz1 hz2
 rw [hIS]
 clear hin hB hck hIS
 unfold Ev.exV Ev.xcells
 go_enter Tryz.func23,Tryz.ntmps23
 go_wp2
 rw [show w.alloc (Obj.cells #[Value.slice x.ae x.ev.length x.ce,Value.slice x.fr.a x.fr.l.length x.fr.c,Value.slice x.ao x.od.length x.co] 26)=B from HB.out.symm]
 go_loopw [5,7,8,9,24,30,36,42,48,54] (fun v i _ _ _ _ _ _ _ _ wr=>∃ a:Nat,a≤x.ev.length∧i=.int .i64 (a:Int)∧wr.ownsRow B.heap.size 72 2 v (Ev.pl IS x.ev.length a).length ((Ev.pl IS x.ev.length a).flatMap Ev.pv)∧Below B.heap.size B wr) (fun _ i _ _ _ _ _ _ _ _ _=>x.ev.length - (intOf i).toNat)
 case atStart=>exact⟨0,Nat.zero_le _,rfl,World.ownsRow_nil _ _ _ _,Below.refl _ _⟩
 case round =>
  obtain⟨a,ha,rfl,hrow,hbr⟩:=hrel
  have HROW:=qH hrow;have HBR:=qH hbr
  clear hrow hbr
  by_cases hlt:a < x.ev.length
  ·have hai:(a:Int) < (x.ev.length:Int):=by omega
   go_wp2
   go_loopw [5,8,9,24,30,36,42,48,54] (fun v j _ _ _ _ _ _ _ w3=>∃ q:Nat,q≤x.ev.length∧j=.int .i64 (q:Int)∧w3.ownsRow B.heap.size 72 2 v (Ev.pl IS x.ev.length a++Ev.rowL IS a (List.range q)).length ((Ev.pl IS x.ev.length a++Ev.rowL IS a (List.range q)).flatMap Ev.pv)∧Below B.heap.size B w3) (fun _ j _ _ _ _ _ _ _ _=>x.ev.length - (intOf j).toNat)
   case atStart=>exact⟨0,Nat.zero_le _,rfl,by simpa [Ev.rowL] using HROW.out,HBR.out⟩
   case round =>
    obtain⟨q,hq,rfl,hrow3,hb3⟩:=hrel
    have HR3:=qH hrow3;have HB3:=qH hb3
    clear hrow3 hb3
    by_cases hql:q < x.ev.length
    ·have hqi:(q:Int) < (x.ev.length:Int):=by omega
     obtain⟨v,hv⟩:∃ v,IS a q=v:=⟨_,rfl⟩
     have HV:=qH hv
     have HV2:=qH (show Ev.isRf x a q=v by rw [← hv,← HIS.out])
     have HRS:=qH (show Ev.rowL IS a (List.range (q+1))=Ev.rowL IS a (List.range q)++if v then [(a,q)] else [] by rw [Ev.rowL_succ,hv])
     have RX3:=qH ((HB3.out.block w.heap.size (qL RX.out)).trans RX.out)
     have hlen:(Ev.pl IS x.ev.length a++Ev.rowL IS a (List.range q)).length≤4160:=by
      have h1:=Ev.pl_len IS x.ev.length a
      have h2:=Ev.rowL_len IS a q
      have h3:a * x.ev.length≤64 * 64:=Nat.mul_le_mul (by omega) hn64
      rw [List.length_append];omega
     clear hv
     go_wp2_with ((with_reducible refine qG 32 ?_);refine wpList_load_row rfl 26 (.tmp 2) rfl w.heap.size (by kernel_rfl) 26 (Ev.xcells x).toArray (0,0) _ RX3.out Tryz.underlying26 rfl (by kernel_rfl) ?_)
     refine(rrf_any x a q hlt hql HFL.out _ (HX.out.kp (Ev.kp_below HB3.out))).mono ?_
     rintro e W4 ⟨rfl,hb4⟩
     rw [HV2.out]
     have HB4:=qH (HB3.out.trans (hb4.mono HB3.out.size))
     have HR4:=qH (Ev.row_below HR3.out hb4)
     clear hb4
     cases v
     ·go_wp2_with fail
      go_roundw
      case rel=>exact⟨q+1,by omega,by go_num,by rw [HRS.out];simpa using HR4.out,HB4.out⟩
      case measure=>simp [intOf];omega
     ·go_wp2_with ((with_reducible refine qG 99 ?_);refine wpList_append_own _ rfl (.tmp 94) (.tmp 98) 37 rfl B.heap.size 72 i0 (.agg #[.int .i64 0,.int .i64 0]) 2 16 Tryz.underlying37 HI.out HZ0.out HZ1.out HZ2.out rfl (by decide) _ _ _ rfl (HR4.out.alloc _) ⟨W4.heap.size,0,none⟩ 1 1 (Ev.pv (a,q)) rfl rfl (fun j u hu=>World.news_of_block (heap_alloc_new W4 _) j u hu) (Ev.pv_one _) (by unfold maxLen;omega) (by omega) (by have:=HB4.out.size;simp only [World.size_alloc];omega) ?_
                   intro v' w5 hown hgrow _
                   have HOWN:=qH hown;have HGR:=qH hgrow;clear hown hgrow)
      have HB5:=qH (Below.grown (HB4.out.alloc HB4.out.size _) HGR.out (by have:=HB4.out.size;simp only [World.size_alloc];omega) (fun k hk=>Ev.own_ge HR4.out hk))
      go_roundw
      case rel =>
       refine⟨q+1,by omega,by go_num,?_,HB5.out⟩
       have:=HOWN.out
       have hrs:Ev.rowL IS a (List.range (q+1))=Ev.rowL IS a (List.range q)++[(a,q)]:=by have h:=HRS.out;simpa using h
       rw [hrs,← List.append_assoc,List.length_append,List.flatMap_append]
       simpa using this
      case measure=>simp [intOf];omega
    ·have hqe:q=x.ev.length:=by omega
     have hqi:¬ (q:Int) < (x.ev.length:Int):=by omega
     have HE:=qH (show wr.ownsRow B.heap.size 72 2 u5 (Ev.pl IS x.ev.length (a+1)).length ((Ev.pl IS x.ev.length (a+1)).flatMap Ev.pv) by rw [Ev.pl_succ,← hqe];have:=HR3.out;rwa [hqe] at this ⊢)
     clear hqe
     go_wp2
     go_roundw
     case rel=>exact⟨a+1,by omega,by go_num,HE.out,HB3.out⟩
     case measure=>simp [intOf];omega
  ·have han:a=x.ev.length:=by omega
   have hai:¬ (a:Int) < (x.ev.length:Int):=by omega
   have hrow:=HROW.out
   rw [han] at hrow
   obtain⟨A,c,hv,hp⟩:=Ev.pairs_of_row hrow
   subst hv
   have HP:=qH (Ev.own_mono hrow B0.out.size)
   clear hrow hp han
   go_wp2
   go_ret
   exact⟨A,c,rfl,HP.out,B0.out.trans (HBR.out.mono B0.out.size)⟩
theorem rpairs3_own (x:Ev.X) (w:World) (hin:Ev.XIn w x) (hck:Ev.check x=0) :
 Calls Tryz.prog 23 #[Ev.exV x,.int .i64 3] w fun e w'=>∃ a c,e=.returned (.slice a (Ev.pl (fun a b:Nat=>Ev.isCo x (a:Int) (b:Int)) x.ev.length x.ev.length).length c)∧w'.ownsRow w.heap.size 72 2 (.slice a (Ev.pl (fun a b:Nat=>Ev.isCo x (a:Int) (b:Int)) x.ev.length x.ev.length).length c) (Ev.pl (fun a b:Nat=>Ev.isCo x (a:Int) (b:Int)) x.ev.length x.ev.length).length ((Ev.pl (fun a b:Nat=>Ev.isCo x (a:Int) (b:Int)) x.ev.length x.ev.length).flatMap Ev.pv)∧Below w.heap.size w w':=by
 obtain⟨IS,hIS⟩:∃ IS:Nat→Nat→Bool,(fun a b:Nat=>Ev.isCo x (a:Int) (b:Int))=IS:=⟨_,rfl⟩
 have HIS:=qH hIS
 have hn64:x.ev.length≤64:=(Ev.check_order hck).2.2
 have hl1:=hin.ev.le;have hl2:=hin.ev.max
 have HCK:=qH hck
 have HFL:=qH (check_from hck)
 obtain⟨B,hB⟩:∃ B,B=w.alloc (Obj.cells (Ev.xcells x).toArray 26):=⟨_,rfl⟩
 have HB:=qH hB
 have B0:=qH (show Below w.heap.size w B by rw [hB];exact(Below.refl w.heap.size w).alloc (Nat.le_refl _) _)
 have HX:=qH (show Ev.XIn B x from hin.kp (Ev.kp_below B0.out))
 have RX:=qH (show B.heap[w.heap.size]?=some (.cells (Ev.xcells x).toArray 26 (0,0)) by rw [hB];exact heap_alloc_new _ _)
 obtain⟨i0,hi,hz0,hz1,hz2⟩:=info_pair
 have HI:=qH hi;have HZ0:=qH hz0;have HZ1:=qH hz1;have HZ2:=qH hz2;clear hi hz0 hz1 hz2
 rw [hIS]
 clear hin hB hck hIS
 unfold Ev.exV Ev.xcells
 go_enter Tryz.func23,Tryz.ntmps23
 go_wp2
 rw [show w.alloc (Obj.cells #[Value.slice x.ae x.ev.length x.ce,Value.slice x.fr.a x.fr.l.length x.fr.c,Value.slice x.ao x.od.length x.co] 26)=B from HB.out.symm]
 go_loopw [5,7,8,9,24,30,36,42,48,54] (fun v i _ _ _ _ _ _ _ _ wr=>∃ a:Nat,a≤x.ev.length∧i=.int .i64 (a:Int)∧wr.ownsRow B.heap.size 72 2 v (Ev.pl IS x.ev.length a).length ((Ev.pl IS x.ev.length a).flatMap Ev.pv)∧Below B.heap.size B wr) (fun _ i _ _ _ _ _ _ _ _ _=>x.ev.length - (intOf i).toNat)
 case atStart=>exact⟨0,Nat.zero_le _,rfl,World.ownsRow_nil _ _ _ _,Below.refl _ _⟩
 case round =>
  obtain⟨a,ha,rfl,hrow,hbr⟩:=hrel
  have HROW:=qH hrow;have HBR:=qH hbr
  clear hrow hbr
  by_cases hlt:a < x.ev.length
  ·have hai:(a:Int) < (x.ev.length:Int):=by omega
   go_wp2
   go_loopw [5,8,9,24,30,36,42,48,54] (fun v j _ _ _ _ _ _ _ w3=>∃ q:Nat,q≤x.ev.length∧j=.int .i64 (q:Int)∧w3.ownsRow B.heap.size 72 2 v (Ev.pl IS x.ev.length a++Ev.rowL IS a (List.range q)).length ((Ev.pl IS x.ev.length a++Ev.rowL IS a (List.range q)).flatMap Ev.pv)∧Below B.heap.size B w3) (fun _ j _ _ _ _ _ _ _ _=>x.ev.length - (intOf j).toNat)
   case atStart=>exact⟨0,Nat.zero_le _,rfl,by simpa [Ev.rowL] using HROW.out,HBR.out⟩
   case round =>
    obtain⟨q,hq,rfl,hrow3,hb3⟩:=hrel
    have HR3:=qH hrow3;have HB3:=qH hb3
    clear hrow3 hb3
    by_cases hql:q < x.ev.length
    ·have hqi:(q:Int) < (x.ev.length:Int):=by omega
     obtain⟨v,hv⟩:∃ v,IS a q=v:=⟨_,rfl⟩
     have HV:=qH hv
     have HV2:=qH (show Ev.isCo x a q=v by rw [← hv,← HIS.out])
     have HRS:=qH (show Ev.rowL IS a (List.range (q+1))=Ev.rowL IS a (List.range q)++if v then [(a,q)] else [] by rw [Ev.rowL_succ,hv])
     have RX3:=qH ((HB3.out.block w.heap.size (qL RX.out)).trans RX.out)
     have hlen:(Ev.pl IS x.ev.length a++Ev.rowL IS a (List.range q)).length≤4160:=by
      have h1:=Ev.pl_len IS x.ev.length a
      have h2:=Ev.rowL_len IS a q
      have h3:a * x.ev.length≤64 * 64:=Nat.mul_le_mul (by omega) hn64
      rw [List.length_append];omega
     clear hv
     go_wp2_with ((with_reducible refine qG 38 ?_);refine wpList_load_row rfl 26 (.tmp 2) rfl w.heap.size (by kernel_rfl) 26 (Ev.xcells x).toArray (0,0) _ RX3.out Tryz.underlying26 rfl (by kernel_rfl) ?_)
     refine(rco_any x a q hlt hql _ (HX.out.kp (Ev.kp_below HB3.out))).mono ?_
     rintro e W4 ⟨rfl,hb4⟩
     rw [HV2.out]
     have HB4:=qH (HB3.out.trans (hb4.mono HB3.out.size))
     have HR4:=qH (Ev.row_below HR3.out hb4)
     clear hb4
     cases v
     ·go_wp2_with fail
      go_roundw
      case rel=>exact⟨q+1,by omega,by go_num,by rw [HRS.out];simpa using HR4.out,HB4.out⟩
      case measure=>simp [intOf];omega
     ·go_wp2_with ((with_reducible refine qG 99 ?_);refine wpList_append_own _ rfl (.tmp 94) (.tmp 98) 37 rfl B.heap.size 72 i0 (.agg #[.int .i64 0,.int .i64 0]) 2 16 Tryz.underlying37 HI.out HZ0.out HZ1.out HZ2.out rfl (by decide) _ _ _ rfl (HR4.out.alloc _) ⟨W4.heap.size,0,none⟩ 1 1 (Ev.pv (a,q)) rfl rfl (fun j u hu=>World.news_of_block (heap_alloc_new W4 _) j u hu) (Ev.pv_one _) (by unfold maxLen;omega) (by omega) (by have:=HB4.out.size;simp only [World.size_alloc];omega) ?_
                   intro v' w5 hown hgrow _
                   have HOWN:=qH hown;have HGR:=qH hgrow;clear hown hgrow)
      have HB5:=qH (Below.grown (HB4.out.alloc HB4.out.size _) HGR.out (by have:=HB4.out.size;simp only [World.size_alloc];omega) (fun k hk=>Ev.own_ge HR4.out hk))
      go_roundw
      case rel =>
       refine⟨q+1,by omega,by go_num,?_,HB5.out⟩
       have:=HOWN.out
       have hrs:Ev.rowL IS a (List.range (q+1))=Ev.rowL IS a (List.range q)++[(a,q)]:=by have h:=HRS.out;simpa using h
       rw [hrs,← List.append_assoc,List.length_append,List.flatMap_append]
       simpa using this
      case measure=>simp [intOf];omega
    ·have hqe:q=x.ev.length:=by omega
     have hqi:¬ (q:Int) < (x.ev.length:Int):=by omega
     have HE:=qH (show wr.ownsRow B.heap.size 72 2 u5 (Ev.pl IS x.ev.length (a+1)).length ((Ev.pl IS x.ev.length (a+1)).flatMap Ev.pv) by rw [Ev.pl_succ,← hqe];have:=HR3.out;rwa [hqe] at this ⊢)
     clear hqe
     go_wp2
     go_roundw
     case rel=>exact⟨a+1,by omega,by go_num,HE.out,HB3.out⟩
     case measure=>simp [intOf];omega
  ·have han:a=x.ev.length:=by omega
   have hai:¬ (a:Int) < (x.ev.length:Int):=by omega
   have hrow:=HROW.out
   rw [han] at hrow
   obtain⟨A,c,hv,hp⟩:=Ev.pairs_of_row hrow
   subst hv
   have HP:=qH (Ev.own_mono hrow B0.out.size)
   clear hrow hp han
   go_wp2
   go_ret
   exact⟨A,c,rfl,HP.out,B0.out.trans (HBR.out.mono B0.out.size)⟩
theorem rpairs4_own (x:Ev.X) (w:World) (hin:Ev.XIn w x) (hck:Ev.check x=0) :
 Calls Tryz.prog 23 #[Ev.exV x,.int .i64 4] w fun e w'=>∃ a c,e=.returned (.slice a (Ev.pl (Ev.isFr x) x.ev.length x.ev.length).length c)∧w'.ownsRow w.heap.size 72 2 (.slice a (Ev.pl (Ev.isFr x) x.ev.length x.ev.length).length c) (Ev.pl (Ev.isFr x) x.ev.length x.ev.length).length ((Ev.pl (Ev.isFr x) x.ev.length x.ev.length).flatMap Ev.pv)∧Below w.heap.size w w':=by
 obtain⟨IS,hIS⟩:∃ IS:Nat→Nat→Bool,(Ev.isFr x)=IS:=⟨_,rfl⟩
 have HIS:=qH hIS
 have hn64:x.ev.length≤64:=(Ev.check_order hck).2.2
 have hl1:=hin.ev.le;have hl2:=hin.ev.max
 have HCK:=qH hck
 have HFL:=qH (check_from hck)
 obtain⟨B,hB⟩:∃ B,B=w.alloc (Obj.cells (Ev.xcells x).toArray 26):=⟨_,rfl⟩
 have HB:=qH hB
 have B0:=qH (show Below w.heap.size w B by rw [hB];exact(Below.refl w.heap.size w).alloc (Nat.le_refl _) _)
 have HX:=qH (show Ev.XIn B x from hin.kp (Ev.kp_below B0.out))
 have RX:=qH (show B.heap[w.heap.size]?=some (.cells (Ev.xcells x).toArray 26 (0,0)) by rw [hB];exact heap_alloc_new _ _)
 obtain⟨i0,hi,hz0,hz1,hz2⟩:=info_pair
 have HI:=qH hi;have HZ0:=qH hz0;have HZ1:=qH hz1;have HZ2:=qH hz2;clear hi hz0 hz1 hz2
 rw [hIS]
 clear hin hB hck hIS
 unfold Ev.exV Ev.xcells
 go_enter Tryz.func23,Tryz.ntmps23
 go_wp2
 rw [show w.alloc (Obj.cells #[Value.slice x.ae x.ev.length x.ce,Value.slice x.fr.a x.fr.l.length x.fr.c,Value.slice x.ao x.od.length x.co] 26)=B from HB.out.symm]
 go_loopw [5,7,8,9,24,30,36,42,48,54] (fun v i _ _ _ _ _ _ _ _ wr=>∃ a:Nat,a≤x.ev.length∧i=.int .i64 (a:Int)∧wr.ownsRow B.heap.size 72 2 v (Ev.pl IS x.ev.length a).length ((Ev.pl IS x.ev.length a).flatMap Ev.pv)∧Below B.heap.size B wr) (fun _ i _ _ _ _ _ _ _ _ _=>x.ev.length - (intOf i).toNat)
 case atStart=>exact⟨0,Nat.zero_le _,rfl,World.ownsRow_nil _ _ _ _,Below.refl _ _⟩
 case round =>
  obtain⟨a,ha,rfl,hrow,hbr⟩:=hrel
  have HROW:=qH hrow;have HBR:=qH hbr
  clear hrow hbr
  by_cases hlt:a < x.ev.length
  ·have hai:(a:Int) < (x.ev.length:Int):=by omega
   go_wp2
   go_loopw [5,8,9,24,30,36,42,48,54] (fun v j _ _ _ _ _ _ _ w3=>∃ q:Nat,q≤x.ev.length∧j=.int .i64 (q:Int)∧w3.ownsRow B.heap.size 72 2 v (Ev.pl IS x.ev.length a++Ev.rowL IS a (List.range q)).length ((Ev.pl IS x.ev.length a++Ev.rowL IS a (List.range q)).flatMap Ev.pv)∧Below B.heap.size B w3) (fun _ j _ _ _ _ _ _ _ _=>x.ev.length - (intOf j).toNat)
   case atStart=>exact⟨0,Nat.zero_le _,rfl,by simpa [Ev.rowL] using HROW.out,HBR.out⟩
   case round =>
    obtain⟨q,hq,rfl,hrow3,hb3⟩:=hrel
    have HR3:=qH hrow3;have HB3:=qH hb3
    clear hrow3 hb3
    by_cases hql:q < x.ev.length
    ·have hqi:(q:Int) < (x.ev.length:Int):=by omega
     obtain⟨v,hv⟩:∃ v,IS a q=v:=⟨_,rfl⟩
     have HV:=qH hv
     have HV2:=qH (show Ev.isFr x a q=v by rw [← hv,← HIS.out])
     have HRS:=qH (show Ev.rowL IS a (List.range (q+1))=Ev.rowL IS a (List.range q)++if v then [(a,q)] else [] by rw [Ev.rowL_succ,hv])
     have RX3:=qH ((HB3.out.block w.heap.size (qL RX.out)).trans RX.out)
     have hlen:(Ev.pl IS x.ev.length a++Ev.rowL IS a (List.range q)).length≤4160:=by
      have h1:=Ev.pl_len IS x.ev.length a
      have h2:=Ev.rowL_len IS a q
      have h3:a * x.ev.length≤64 * 64:=Nat.mul_le_mul (by omega) hn64
      rw [List.length_append];omega
     clear hv
     go_wp2_with ((with_reducible refine qG 44 ?_);refine wpList_load_row rfl 26 (.tmp 2) rfl w.heap.size (by kernel_rfl) 26 (Ev.xcells x).toArray (0,0) _ RX3.out Tryz.underlying26 rfl (by kernel_rfl) ?_)
     refine(rfr_any x a q hlt hql HCK.out _ (HX.out.kp (Ev.kp_below HB3.out))).mono ?_
     rintro e W4 ⟨rfl,hb4⟩
     rw [HV2.out]
     have HB4:=qH (HB3.out.trans (hb4.mono HB3.out.size))
     have HR4:=qH (Ev.row_below HR3.out hb4)
     clear hb4
     cases v
     ·go_wp2_with fail
      go_roundw
      case rel=>exact⟨q+1,by omega,by go_num,by rw [HRS.out];simpa using HR4.out,HB4.out⟩
      case measure=>simp [intOf];omega
     ·go_wp2_with ((with_reducible refine qG 99 ?_);refine wpList_append_own _ rfl (.tmp 94) (.tmp 98) 37 rfl B.heap.size 72 i0 (.agg #[.int .i64 0,.int .i64 0]) 2 16 Tryz.underlying37 HI.out HZ0.out HZ1.out HZ2.out rfl (by decide) _ _ _ rfl (HR4.out.alloc _) ⟨W4.heap.size,0,none⟩ 1 1 (Ev.pv (a,q)) rfl rfl (fun j u hu=>World.news_of_block (heap_alloc_new W4 _) j u hu) (Ev.pv_one _) (by unfold maxLen;omega) (by omega) (by have:=HB4.out.size;simp only [World.size_alloc];omega) ?_
                   intro v' w5 hown hgrow _
                   have HOWN:=qH hown;have HGR:=qH hgrow;clear hown hgrow)
      have HB5:=qH (Below.grown (HB4.out.alloc HB4.out.size _) HGR.out (by have:=HB4.out.size;simp only [World.size_alloc];omega) (fun k hk=>Ev.own_ge HR4.out hk))
      go_roundw
      case rel =>
       refine⟨q+1,by omega,by go_num,?_,HB5.out⟩
       have:=HOWN.out
       have hrs:Ev.rowL IS a (List.range (q+1))=Ev.rowL IS a (List.range q)++[(a,q)]:=by have h:=HRS.out;simpa using h
       rw [hrs,← List.append_assoc,List.length_append,List.flatMap_append]
       simpa using this
      case measure=>simp [intOf];omega
    ·have hqe:q=x.ev.length:=by omega
     have hqi:¬ (q:Int) < (x.ev.length:Int):=by omega
     have HE:=qH (show wr.ownsRow B.heap.size 72 2 u5 (Ev.pl IS x.ev.length (a+1)).length ((Ev.pl IS x.ev.length (a+1)).flatMap Ev.pv) by rw [Ev.pl_succ,← hqe];have:=HR3.out;rwa [hqe] at this ⊢)
     clear hqe
     go_wp2
     go_roundw
     case rel=>exact⟨a+1,by omega,by go_num,HE.out,HB3.out⟩
     case measure=>simp [intOf];omega
  ·have han:a=x.ev.length:=by omega
   have hai:¬ (a:Int) < (x.ev.length:Int):=by omega
   have hrow:=HROW.out
   rw [han] at hrow
   obtain⟨A,c,hv,hp⟩:=Ev.pairs_of_row hrow
   subst hv
   have HP:=qH (Ev.own_mono hrow B0.out.size)
   clear hrow hp han
   go_wp2
   go_ret
   exact⟨A,c,rfl,HP.out,B0.out.trans (HBR.out.mono B0.out.size)⟩
namespace Ev
theorem PairsIn.at_ {w:World} {a:Option Addr} {c:Nat} {ps:List (Nat × Nat)} (h:PairsIn w a c ps) {k:Nat} {p:Nat × Nat} (hk:ps[k]?=some p) :
 ∃ g o,a=some ⟨g,o,none⟩∧∀ i c,(pv p)[i]?=some c→w.cell? ⟨g,o+k * 2+i,none⟩=some c:=by
 have hl:=(List.getElem?_eq_some_iff.1 hk).1
 obtain⟨g,o,e,hc⟩:=h.rows (by simp;omega)
 exact⟨g,o,e,fun i c hi=>hc k (pv p) (by rw [List.getElem?_map,hk];rfl) i c hi⟩
theorem PairsIn.kp {w w':World} {a:Option Addr} {c:Nat} {ps:List (Nat × Nat)} (h:PairsIn w a c ps) (k:Kp w w'):PairsIn w' a c ps:=⟨h.rows.kp k,h.le,h.max⟩
end Ev
end Go.Proofs.YtnjnpbabgefaeaaGreat
end
section
namespace Go.Proofs.YtnjnpbabgefaeaaGreat
open Go.RowKit
theorem rule_no (x:Ev.X) (r:Int) (a b:Nat) (ha:a < x.ev.length) (hb:b < x.ev.length) (hno:Ev.isPo x a b=false∨(Ev.nth x.ev a).k=4∨(Ev.nth x.ev b).k=4) (w:World) (hin:Ev.XIn w x) :
 Calls Tryz.prog 65 #[Ev.exV x,.int .i64 r,.int .i64 (a:Int),.int .i64 (b:Int)] w fun e w'=>e=.returned (.bool false)∧Below w.heap.size w w':=by
 have hl1:=hin.ev.le;have hl2:=hin.ev.max
 obtain⟨B,hB⟩:∃ B,B=w.alloc (Obj.cells (Ev.xcells x).toArray 26):=⟨_,rfl⟩
 have HB:=qH hB
 have B0:=qH (show Below w.heap.size w B by rw [hB];exact(Below.refl w.heap.size w).alloc (Nat.le_refl _) _)
 have HX:=qH (show Ev.XIn B x from hin.kp (Ev.kp_below B0.out))
 have RX:=qH (show B.heap[w.heap.size]?=some (.cells (Ev.xcells x).toArray 26 (0,0)) by rw [hB];exact heap_alloc_new _ _)
 obtain⟨e,he⟩:∃ e,x.ev[a]?=some e:=⟨_,List.getElem?_eq_getElem ha⟩
 obtain⟨f,hf⟩:∃ f,x.ev[b]?=some f:=⟨_,List.getElem?_eq_getElem hb⟩
 obtain⟨g,o,eg,hce⟩:=HX.out.ev.at_ he
 obtain⟨g',o',eg',hcf⟩:=HX.out.ev.at_ hf
 obtain⟨rfl,rfl⟩:g'=g∧o'=o:=by rw [eg] at eg';cases eg';exact⟨rfl,rfl⟩
 have HEO:=qH (HX.out.ev.ok_ he);have HFO:=qH (HX.out.ev.ok_ hf)
 have HE:=qH (Ev.nth_some he);have HF:=qH (Ev.nth_some hf)
 have HCE:=qH hce;have HCF:=qH hcf
 have hai:(a:Int) < (x.ev.length:Int):=by omega
 have hbi:(b:Int) < (x.ev.length:Int):=by omega
 have CX:=qH (show ∀ W,Below B.heap.size B W→W.cell? ⟨w.heap.size,0,none⟩=some (.slice (some ⟨g',o',none⟩) x.ev.length x.ce) from fun W h=>by
  rw [← eg];exact Ev.xcell0 ((h.block w.heap.size (qL RX.out)).trans RX.out))
 clear hin hB he hf eg eg' hce hcf
 obtain⟨po,hpo⟩:∃ v,Ev.isPo x a b=v:=⟨_,rfl⟩
 have HPO:=qH hpo
 rw [hpo,HE.out,HF.out] at hno
 clear hpo
 obtain⟨bx0⟩:Nonempty (B.cell? ⟨w.heap.size,0,none⟩=some (.slice (some ⟨g',o',none⟩) x.ev.length x.ce)):=⟨CX.out B (Below.refl _ _)⟩
 unfold Ev.exV Ev.xcells
 go_enter Tryz.func65,Tryz.ntmps65
 go_wp2_with (first
  | ((with_reducible refine qG 16 ?_);(try rw [show w.alloc (Obj.cells #[Value.slice x.ae x.ev.length x.ce,Value.slice x.fr.a x.fr.l.length x.fr.c,Value.slice x.ao x.od.length x.co] 26)=B from HB.out.symm]);refine wpList_load_row rfl 26 (.tmp 4) rfl w.heap.size (by kernel_rfl) 26 (Ev.xcells x).toArray (0,0) _ RX.out Tryz.underlying26 rfl (by kernel_rfl) ?_))
 refine(rpo_is HPO.out ha hb _ HX.out).mono ?_
 rintro q W1 ⟨rfl,hb1⟩
 have B1:=qH hb1
 have cx:=CX.out W1 hb1
 have cek:W1.cell? ⟨g',o'+a * 13+1,none⟩=some (.int .i64 e.k):=Ev.kp_below hb1 _ _ (HCE.out 1 _ rfl)
 have cfk:W1.cell? ⟨g',o'+b * 13+1,none⟩=some (.int .i64 f.k):=Ev.kp_below hb1 _ _ (HCF.out 1 _ rfl)
 clear hb1 bx0
 cases po
 ·clear hno
  go_wp2_with fail
  go_ret
  exact⟨rfl,B0.out.trans (B1.out.mono B0.out.size)⟩
 by_cases h1:e.k=4
 ·have t1:(e.k==4)=true:=by simpa using h1
  clear hno h1
  go_wp2_with fail
  go_ret
  exact⟨rfl,B0.out.trans (B1.out.mono B0.out.size)⟩
 have t1:(e.k==4)=false:=by simpa using h1
 have t2:(f.k==4)=true:=by simpa [h1] using hno
 clear hno h1
 go_wp2_with fail
 go_ret
 exact⟨rfl,B0.out.trans (B1.out.mono B0.out.size)⟩
end Go.Proofs.YtnjnpbabgefaeaaGreat
end
section
namespace Go.Proofs.YtnjnpbabgefaeaaGreat
open Go.RowKit
namespace Ev
def upTo (a m:Nat):List Nat:=(List.range (m - (a+1))).map fun i=>a+1+i
theorem upTo_zero (a:Nat):upTo a (a+1)=[]:=by unfold upTo;simp
theorem upTo_succ {a m:Nat} (h:a+1≤m):upTo a (m+1)=upTo a m++[m]:=by
 unfold upTo
 rw [show m+1 - (a+1)=(m - (a+1))+1 by omega,List.range_succ,List.map_append]
 simp;omega
def cl (x:X) (a m:Nat):Bool:=!(stores (nth x.ev m).k&&(nth x.ev m).a==(nth x.ev a).a)
def so (x:X) (K:Nat) (a b m:Nat):Bool :=
 if K=4 then (nth x.ev m).k==4&&inSet (nth x.ev m).p (nth x.ev a)&&inSet (nth x.ev m).s (nth x.ev b)
 else if K=12 then loads (nth x.ev b).k&&stores (nth x.ev m).k&&frAt x b==(m:Int)&&(decide (0≤at_ (nth x.ev m).d1.l a)||decide (0≤at_ (nth x.ev m).d2.l a))
 else if K=13 then stores (nth x.ev b).k&&decide (0≤at_ (nth x.ev m).d1.l a) else false
theorem all_succ {p:Nat→Bool} {a m:Nat} (h:a+1≤m):(upTo a (m+1)).all p=((upTo a m).all p&&p m):=by rw [upTo_succ h,List.all_append];simp
theorem any_succ {p:Nat→Bool} {a m:Nat} (h:a+1≤m):(upTo a (m+1)).any p=((upTo a m).any p||p m):=by rw [upTo_succ h,List.any_append];simp
theorem rule2_is (x:X) (a b:Nat):ruleOf x 2 a b=(loads (nth x.ev a).k&&loads (nth x.ev b).k&&(nth x.ev a).a==(nth x.ev b).a&&!(frAt x a==frAt x b)&&(upTo a b).all (cl x a)):=rfl
theorem rule4_is (x:X) (a b:Nat):ruleOf x 4 a b=(upTo a b).any (so x 4 a b):=by
 show(upTo a b).any _=_
 congr 1 <;> (funext m;simp [so])
theorem rule12_is (x:X) (a b:Nat):ruleOf x 12 a b=(upTo a b).any (so x 12 a b):=by
 show(upTo a b).any _=_
 congr 1 <;> (funext m;simp [so])
theorem rule13_is (x:X) (a b:Nat):ruleOf x 13 a b=(upTo a b).any (so x 13 a b):=by
 show(upTo a b).any _=_
 congr 1 <;> (funext m;simp [so])
theorem po_lt {x:X} {a b:Nat} (h:isPo x a b=true):a < b:=by
 unfold isPo at h
 simp only [Bool.and_eq_true,decide_eq_true_eq] at h
 exact h.1.1
end Ev
end Go.Proofs.YtnjnpbabgefaeaaGreat
end
