import Derived.Test.YtnjnpbabgefaeaaGreatKp51
import Derived.Test.YtnjnpbabgefaeaaGreatKp35
import Derived.Test.YtnjnpbabgefaeaaGreatKp49
import Derived.Test.YtnjnpbabgefaeaaGreatKp50
import Derived.Test.YtnjnpbabgefaeaaGreatKp42
import Derived.Test.YtnjnpbabgefaeaaGreatKp43
import Derived.Test.YtnjnpbabgefaeaaGreatKpH
set_option maxRecDepth 100000
set_option maxHeartbeats 8000000
set_option linter.unusedVariables false
set_option linter.unusedSimpArgs false
section
namespace Go.Proofs.YtnjnpbabgefaeaaGreat
open Go.RowKit
namespace Md
open Ev
def badR (x:X) (l:List Nat) (k i:Nat):Bool:=isPpo x (l.getD k 0) (l.getD i 0)||isCo x (l.getD k 0:Nat) (l.getD i 0:Nat)
def endR (x:X) (l:List Nat) (i:Nat):Bool:=!(loads (nth x.ev (l.getD i 0:Nat)).k)||sees x l (l.getD i 0)==frAt x (l.getD i 0)
def rowR (x:X) (l:List Nat) (i:Nat):Bool:=((List.range l.length).all fun k=>!(decide (i < k))||!(badR x l k i))&&endR x l i
theorem right_rows (x:X) (l:List Nat):rightB x l=(List.range l.length).all (rowR x l):=rfl
theorem right_no {x:X} {l:List Nat} {i:Nat} (hi:i < l.length) (h:rowR x l i=false):rightB x l=false:=by
 rw [right_rows,List.all_eq_false]
 exact⟨i,List.mem_range.2 hi,by rw [h];simp⟩
theorem right_yes {x:X} {l:List Nat} (h:∀ i,i < l.length→rowR x l i=true):rightB x l=true:=by
 rw [right_rows];exact List.all_eq_true.2 fun i hi=>h i (List.mem_range.1 hi)
theorem row_bad {x:X} {l:List Nat} {k i:Nat} (hk:k < l.length) (hik:i < k) (h:badR x l k i=true):rowR x l i=false:=by
 unfold rowR
 rw [Bool.and_eq_false_iff]
 refine .inl ?_
 rw [List.all_eq_false]
 exact⟨k,List.mem_range.2 hk,by simp [h,hik]⟩
theorem row_end {x:X} {l:List Nat} {i:Nat} (h:endR x l i=false):rowR x l i=false:=by
 unfold rowR;rw [h,Bool.and_false]
theorem row_yes {x:X} {l:List Nat} {i:Nat} (h:∀ k,i < k→k < l.length→badR x l k i=false) (he:endR x l i=true):rowR x l i=true:=by
 unfold rowR
 rw [Bool.and_eq_true]
 refine⟨List.all_eq_true.2 fun k hk=>?_,he⟩
 by_cases hik:i < k
 ·simp [h k hik (List.mem_range.1 hk)]
 ·simp [hik]
end Md
theorem rright_any (x:Ev.X) (l:List Nat) (A:Option Addr) (cc:Nat) (hfl:x.fr.l.length=x.ev.length) (hl:∀ a ∈ l,a < x.ev.length) (w:World) (hin:Ev.XIn w x) (hs:Ev.IntsIn w ⟨A,cc,Md.cI l⟩) :
 Calls Tryz.prog 51 #[Ev.exV x,.slice A l.length cc] w fun e w'=>e=.returned (.bool (Md.rightB x l))∧Below w.heap.size w w':=by
 have hl1:=hin.ev.le;have hl2:=hin.ev.max
 have hm1:=hs.2.1;have hm2:=hs.2.2.1
 have hf1:=hin.fr.2.1;have hf2:=hin.fr.2.2.1
 rw [Md.cI_len] at hm1
 obtain⟨xb,hxb⟩:∃ xb,xb=w.heap.size:=⟨_,rfl⟩
 obtain⟨B,hB⟩:∃ B,B=w.alloc (.cells (Ev.xcells x).toArray 26):=⟨_,rfl⟩
 have HB:=qH hB;have HXB:=qH hxb
 have B0:=qH (show Below w.heap.size w B by rw [hB];exact(Below.refl w.heap.size w).alloc (Nat.le_refl _) _)
 have RX:=qH (show B.heap[xb]?=some (.cells #[.slice x.ae x.ev.length x.ce,.slice x.fr.a x.fr.l.length x.fr.c,.slice x.ao x.od.length x.co] 26 (0,0)) by rw [hB,hxb];exact heap_alloc_new _ _)
 have HX:=qH (show Ev.XIn B x from hin.kp (Ev.kp_below B0.out))
 have HS:=qH (show Ev.IntsIn B ⟨A,cc,Md.cI l⟩ from hs.kp (Ev.kp_below B0.out))
 have HL:=qH hl;have HFL:=qH hfl
 clear hin hs hB hxb hl hfl
 unfold Ev.exV
 go_enter Tryz.func51,Tryz.ntmps51
 go_wp2
 rw [← HB.out,← HXB.out]
 go_loopw [5,6] (fun i _ wr=>∃ k:Nat,k≤l.length∧i=.int .i64 (k:Int)∧(∀ j,j < k→Md.rowR x l j=true)∧Below B.heap.size B wr) (fun i _ _=>l.length - (intOf i).toNat)
 case atStart=>exact⟨0,Nat.zero_le _,rfl,fun j hj=>absurd hj (by omega),Below.refl _ _⟩
 case round =>
  obtain⟨i,hi,rfl,hall,hbr⟩:=hrel
  obtain⟨wo,rfl⟩:∃ wo:World,wo=wr:=⟨_,rfl⟩
  have HBR:=qH hbr;have HALL:=qH hall
  clear hbr hall
  by_cases hlt:i < l.length
  ·have hii:(i:Int) < (l.length:Int):=by omega
   obtain⟨mi,hmi⟩:∃ m,l[i]?=some m:=⟨_,List.getElem?_eq_getElem hlt⟩
   have hix:mi < x.ev.length:=HL.out mi (List.mem_of_getElem? hmi)
   have hixi:(mi:Int) < (x.ev.length:Int):=by omega
   obtain⟨ga,oa,ea,hca⟩:=HS.out.at_ (Md.cI_at hmi)
   have ea:A=some ⟨ga,oa,none⟩:=ea
   subst ea
   have HMI:=qH (show l.getD i 0=mi by simp [List.getD,hmi])
   have HCA:=qH hca
   clear hca
   go_wp2
   go_loopw [6] (fun q wr3=>∃ k:Nat,i < k∧k≤l.length∧q=.int .i64 (k:Int)∧(∀ j,i < j→j < k→Md.badR x l j i=false)∧Below wo.heap.size wo wr3) (fun q _=>l.length - (intOf q).toNat)
   case atStart=>exact⟨i+1,by omega,by omega,by go_num,fun j h1 h2=>absurd h1 (by omega),Below.refl _ _⟩
   case round =>
    obtain⟨k,hik,hk,rfl,hbad,hbr2⟩:=hrel
    have HB2:=qH (HBR.out.trans (hbr2.mono HBR.out.size));have HBAD:=qH hbad;have HBR2:=qH hbr2
    clear hbad hbr2
    have R4:=qH ((HB2.out.block _ (qL RX.out)).trans RX.out)
    have LXX:=qH (fun z:Og.On wr.heap.size wr=>Og.rowB (P:=Tryz.prog) z 26 _ R4.out Tryz.underlying26 rfl (by kernel_rfl))
    have q1:∀ z:Og.On wr.heap.size wr,z.x.cell? ⟨ga,oa+i,none⟩=some (.int .i64 (mi:Int)):=fun z=>Og.cellB z (Ev.kp_below HB2.out _ _ HCA.out)
    by_cases hkl:k < l.length
    ·have hki:(k:Int) < (l.length:Int):=by omega
     obtain⟨mk,hmk⟩:∃ m,l[k]?=some m:=⟨_,List.getElem?_eq_getElem hkl⟩
     have hkx:mk < x.ev.length:=HL.out mk (List.mem_of_getElem? hmk)
     obtain⟨ga',oa',ea,hck⟩:=HS.out.at_ (Md.cI_at hmk)
     obtain⟨rfl,rfl⟩:ga=ga'∧oa=oa':=by simpa using ea
     have HMK:=qH (show l.getD k 0=mk by simp [List.getD,hmk])
     have q2:∀ z:Og.On wr.heap.size wr,z.x.cell? ⟨ga,oa+k,none⟩=some (.int .i64 (mk:Int)):=fun z=>Og.cellB z (Ev.kp_below HB2.out _ _ hck)
     obtain⟨v1,h1⟩:∃ v,Ev.isPpo x mk mi=v:=⟨_,rfl⟩
     obtain⟨v2,h2⟩:∃ v,Ev.isCo x (mk:Int) (mi:Int)=v:=⟨_,rfl⟩
     have K1:=qH (show ∀ z:Og.On wr.heap.size wr,Calls Tryz.prog 45 #[.agg #[.slice x.ae x.ev.length x.ce,.slice x.fr.a x.fr.l.length x.fr.c,.slice x.ao x.od.length x.co],.int .i64 (mk:Int),.int .i64 (mi:Int)] z.x (fun e w''=>e=.returned (.bool v1)∧Below z.x.heap.size z.x w'') from fun z=>h1 ▸ rppo_any x mk mi hkx hix HFL.out z.x ((HX.out.kp (Ev.kp_below HB2.out)).kp (Ev.kp_below z.b)))
     have K2:=qH (show ∀ z:Og.On wr.heap.size wr,Calls Tryz.prog 39 #[.agg #[.slice x.ae x.ev.length x.ce,.slice x.fr.a x.fr.l.length x.fr.c,.slice x.ao x.od.length x.co],.int .i64 (mk:Int),.int .i64 (mi:Int)] z.x (fun e w''=>e=.returned (.bool v2)∧Below z.x.heap.size z.x w'') from fun z=>rco_is h2 hkx hix z.x ((HX.out.kp (Ev.kp_below HB2.out)).kp (Ev.kp_below z.b)))
     have HBD:=qH (show Md.badR x l k i=(v1||v2) by unfold Md.badR;rw [HMK.out,HMI.out,h1,h2])
     clear h1 h2 hmk hck ea
     cases v1
     case true =>
      go_wp2_with fail
      refine Og.regionB (by kernel_rfl) (by kernel_rfl) ?_
      repeat (first
       | go_big_quiet_skip
       | (go_big_quiet_want
          first
           | ((with_reducible show Oper.quiet _ (Oper.mk (some 21) _ _ _ _ _) _ _ _);refine Og.quiet_load 26 (.tmp 2) rfl (.agg #[.slice x.ae x.ev.length x.ce,.slice x.fr.a x.fr.l.length x.fr.c,.slice x.ao x.od.length x.co]) ⟨xb,0,none⟩ _ rfl (by rintro _ ⟨z,rfl⟩;exact LXX.out z) (by simp only [Act.put,qa,qb,qc];rfl) ?_
              go_big_quiet_on)
           | ((with_reducible show Oper.quiet _ (Oper.mk (some 32) _ _ _ _ _) _ _ _);refine Og.quiet_load 26 (.tmp 2) rfl (.agg #[.slice x.ae x.ev.length x.ce,.slice x.fr.a x.fr.l.length x.fr.c,.slice x.ao x.od.length x.co]) ⟨xb,0,none⟩ _ rfl (by rintro _ ⟨z,rfl⟩;exact LXX.out z) (by simp only [Act.put,qa,qb,qc];rfl) ?_
              go_big_quiet_on)
           | (go_big_quiet_op
              first
               | go_big_quiet_on
               | (apply Exists.intro
                  refine⟨fun z=>?_,?_⟩
                  ·first
                    | (with_reducible exact Og.callB (K1.out z))
                    | (with_reducible exact Og.callB (K2.out z))
                  go_big_quiet_on))))
      refine wpQuiet_nil ?_
      intro _ hw'
      obtain⟨q9,hw''⟩:=hw'
      subst hw''
      go_wp2_with fail
      go_ret
      exact⟨by rw [Md.right_no hlt (Md.row_bad hkl hik HBD.out)];rfl,B0.out.trans ((HB2.out.trans (q9.b.mono HB2.out.size)).mono B0.out.size)⟩
     cases v2
     case true =>
      go_wp2_with fail
      refine Og.regionB (by kernel_rfl) (by kernel_rfl) ?_
      repeat (first
       | go_big_quiet_skip
       | (go_big_quiet_want
          first
           | ((with_reducible show Oper.quiet _ (Oper.mk (some 21) _ _ _ _ _) _ _ _);refine Og.quiet_load 26 (.tmp 2) rfl (.agg #[.slice x.ae x.ev.length x.ce,.slice x.fr.a x.fr.l.length x.fr.c,.slice x.ao x.od.length x.co]) ⟨xb,0,none⟩ _ rfl (by rintro _ ⟨z,rfl⟩;exact LXX.out z) (by simp only [Act.put,qa,qb,qc];rfl) ?_
              go_big_quiet_on)
           | ((with_reducible show Oper.quiet _ (Oper.mk (some 32) _ _ _ _ _) _ _ _);refine Og.quiet_load 26 (.tmp 2) rfl (.agg #[.slice x.ae x.ev.length x.ce,.slice x.fr.a x.fr.l.length x.fr.c,.slice x.ao x.od.length x.co]) ⟨xb,0,none⟩ _ rfl (by rintro _ ⟨z,rfl⟩;exact LXX.out z) (by simp only [Act.put,qa,qb,qc];rfl) ?_
              go_big_quiet_on)
           | (go_big_quiet_op
              first
               | go_big_quiet_on
               | (apply Exists.intro
                  refine⟨fun z=>?_,?_⟩
                  ·first
                    | (with_reducible exact Og.callB (K1.out z))
                    | (with_reducible exact Og.callB (K2.out z))
                  go_big_quiet_on))))
      refine wpQuiet_nil ?_
      intro _ hw'
      obtain⟨q9,hw''⟩:=hw'
      subst hw''
      go_wp2_with fail
      go_ret
      exact⟨by rw [Md.right_no hlt (Md.row_bad hkl hik HBD.out)];rfl,B0.out.trans ((HB2.out.trans (q9.b.mono HB2.out.size)).mono B0.out.size)⟩
     have HNB:=qH (show ∀ j,i < j→j < k+1→Md.badR x l j i=false from fun j hj hjk=>by
      by_cases e:j=k
      ·subst e;exact HBD.out
      ·exact HBAD.out j hj (by omega))
     go_wp2_with fail
     refine Og.regionB (by kernel_rfl) (by kernel_rfl) ?_
     repeat (first
      | go_big_quiet_skip
      | (go_big_quiet_want
         first
          | ((with_reducible show Oper.quiet _ (Oper.mk (some 21) _ _ _ _ _) _ _ _);refine Og.quiet_load 26 (.tmp 2) rfl (.agg #[.slice x.ae x.ev.length x.ce,.slice x.fr.a x.fr.l.length x.fr.c,.slice x.ao x.od.length x.co]) ⟨xb,0,none⟩ _ rfl (by rintro _ ⟨z,rfl⟩;exact LXX.out z) (by simp only [Act.put,qa,qb,qc];rfl) ?_
             go_big_quiet_on)
          | ((with_reducible show Oper.quiet _ (Oper.mk (some 32) _ _ _ _ _) _ _ _);refine Og.quiet_load 26 (.tmp 2) rfl (.agg #[.slice x.ae x.ev.length x.ce,.slice x.fr.a x.fr.l.length x.fr.c,.slice x.ao x.od.length x.co]) ⟨xb,0,none⟩ _ rfl (by rintro _ ⟨z,rfl⟩;exact LXX.out z) (by simp only [Act.put,qa,qb,qc];rfl) ?_
             go_big_quiet_on)
          | (go_big_quiet_op
             first
              | go_big_quiet_on
              | (apply Exists.intro
                 refine⟨fun z=>?_,?_⟩
                 ·first
                   | (with_reducible exact Og.callB (K1.out z))
                   | (with_reducible exact Og.callB (K2.out z))
                 go_big_quiet_on))))
     refine wpQuiet_nil ?_
     intro _ hw'
     obtain⟨q9,hw''⟩:=hw'
     subst hw''
     go_wp2_with fail
     first
      | exact⟨⟨k+1,by omega,by omega,by go_num,HNB.out,HBR2.out.trans (q9.b.mono HBR2.out.size)⟩,by simp [intOf];omega⟩
      | (go_roundw
         case rel=>exact⟨k+1,by omega,by omega,by go_num,HNB.out,HBR2.out.trans (q9.b.mono HBR2.out.size)⟩
         case measure=>simp [intOf];omega)
    ·have hke:k=l.length:=by omega
     have hki:¬ (k:Int) < (l.length:Int):=by omega
     obtain⟨e1,he1⟩:∃ e,x.ev[mi]?=some e:=⟨_,List.getElem?_eq_getElem hix⟩
     obtain⟨g,o,eg,hc1⟩:=HX.out.ev.at_ he1
     obtain⟨f,hf⟩:∃ f,x.fr.l[mi]?=some f:=⟨_,List.getElem?_eq_getElem (by have:=HFL.out;omega)⟩
     obtain⟨gf,of,ef,hcf⟩:=HX.out.fr.at_ hf
     have hfi:(mi:Int) < (x.fr.l.length:Int):=by have:=HFL.out;omega
     have hn1:=Ev.nth_some he1
     have hfa:Ev.frAt x mi=f:=by unfold Ev.frAt;simp [List.getD,hf]
     have k4:=Ev.kp_below HB2.out
     have cx:wr.cell? ⟨xb,0,none⟩=some (.slice (some ⟨g,o,none⟩) x.ev.length x.ce):=by rw [qC R4.out,← eg];rfl
     have cf:wr.cell? ⟨xb,1,none⟩=some (.slice (some ⟨gf,of,none⟩) x.fr.l.length x.fr.c):=by rw [qC R4.out,← ef];rfl
     have q2:∀ z:Og.On wr.heap.size wr,z.x.cell? ⟨xb,0,none⟩=some (.slice (some ⟨g,o,none⟩) x.ev.length x.ce):=fun z=>Og.cellB z cx
     have q3:∀ z:Og.On wr.heap.size wr,z.x.cell? ⟨xb,1,none⟩=some (.slice (some ⟨gf,of,none⟩) x.fr.l.length x.fr.c):=fun z=>Og.cellB z cf
     have q4:∀ z:Og.On wr.heap.size wr,z.x.cell? ⟨gf,of+mi,none⟩=some (.int .i64 f):=fun z=>Og.cellB z (k4 _ _ hcf)
     have LE:=qH (fun z:Og.On wr.heap.size wr=>run_loadVar_at (P:=Tryz.prog) z.x g (o+mi * 13) 48 (Ev.cells e1) _ (fun i c hi=>Og.cellB z (k4 _ _ (hc1 i c hi))) Tryz.underlying48 rfl (by kernel_rfl))
     obtain⟨v3,h3⟩:∃ v,Ev.loads e1.k=v:=⟨_,rfl⟩
     obtain⟨s,hse⟩:∃ s,Md.sees x l mi=s:=⟨_,rfl⟩
     have K3:=qH (show ∀ z:Og.On wr.heap.size wr,Calls Tryz.prog 31 #[.agg (Ev.cells e1).toArray] z.x (fun e w''=>e=.returned (.bool v3)∧Below z.x.heap.size z.x w'') from fun z=>rloads_is h3 z.x)
     have K4:=qH (show ∀ z:Og.On wr.heap.size wr,Calls Tryz.prog 80 #[.agg #[.slice x.ae x.ev.length x.ce,.slice x.fr.a x.fr.l.length x.fr.c,.slice x.ao x.od.length x.co],.slice (some ⟨ga,oa,none⟩) l.length cc,.int .i64 (mi:Int)] z.x (fun e w''=>e=.returned (.int .i64 s)∧Below z.x.heap.size z.x w'') from fun z=>hse ▸ rsees_any x l (some ⟨ga,oa,none⟩) cc mi hix HL.out z.x ((HX.out.kp (Ev.kp_below HB2.out)).kp (Ev.kp_below z.b)) ((HS.out.kp (Ev.kp_below HB2.out)).kp (Ev.kp_below z.b)))
     have HEN:=qH (show Md.endR x l i=(!v3||s==f) by unfold Md.endR;rw [HMI.out,hn1,h3,hse,hfa])
     have HYES:=qH (show Md.endR x l i=true→∀ j,j < i+1→Md.rowR x l j=true from fun he j hj=>by
      by_cases e:j=i
      ·subst e;exact Md.row_yes (fun k' h1 h2=>HBAD.out k' h1 (by omega)) he
      ·exact HALL.out j (by omega))
     clear he1 hf hn1 hfa k4 cx cf h3 hse hc1 hcf eg ef
     cases v3
     case false =>
      have HY:=qH (HYES.out (by rw [HEN.out];rfl))
      go_wp2_with fail
      refine Og.regionB (by kernel_rfl) (by kernel_rfl) ?_
      repeat (first
       | go_big_quiet_skip
       | (go_big_quiet_want
          first
           | ((with_reducible show Oper.quiet _ (Oper.mk (some 50) _ _ _ _ _) _ _ _);refine Og.quiet_load 48 (.tmp 49) rfl (.agg (Ev.cells e1).toArray) ⟨g,o+mi * 13,none⟩ _ rfl (by rintro _ ⟨z,rfl⟩;exact LE.out z) (by simp only [Act.put,qa,qb,qc];rfl) ?_
              go_big_quiet_on)
           | ((with_reducible show Oper.quiet _ (Oper.mk (some 53) _ _ _ _ _) _ _ _);refine Og.quiet_load 26 (.tmp 2) rfl (.agg #[.slice x.ae x.ev.length x.ce,.slice x.fr.a x.fr.l.length x.fr.c,.slice x.ao x.od.length x.co]) ⟨xb,0,none⟩ _ rfl (by rintro _ ⟨z,rfl⟩;exact LXX.out z) (by simp only [Act.put,qa,qb,qc];rfl) ?_
              go_big_quiet_on)
           | (go_big_quiet_op
              first
               | go_big_quiet_on
               | (apply Exists.intro
                  refine⟨fun z=>?_,?_⟩
                  ·first
                    | (with_reducible exact Og.callB (K3.out z))
                    | (with_reducible exact Og.callB (K4.out z))
                  go_big_quiet_on))))
      refine wpQuiet_nil ?_
      intro _ hw'
      obtain⟨q9,hw''⟩:=hw'
      subst hw''
      go_wp2_with fail
      first
       | exact⟨⟨i+1,by omega,by go_num,HY.out,HB2.out.trans (q9.b.mono HB2.out.size)⟩,by simp [intOf];omega⟩
       | (go_roundw
          case rel=>exact⟨i+1,by omega,by go_num,HY.out,HB2.out.trans (q9.b.mono HB2.out.size)⟩
          case measure=>simp [intOf];omega)
     by_cases hsf:s=f
     ·have t5:(s != f)=false:=by simpa using hsf
      have HY:=qH (HYES.out (by rw [HEN.out];simp [hsf]))
      go_wp2_with fail
      refine Og.regionB (by kernel_rfl) (by kernel_rfl) ?_
      repeat (first
       | go_big_quiet_skip
       | (go_big_quiet_want
          first
           | ((with_reducible show Oper.quiet _ (Oper.mk (some 50) _ _ _ _ _) _ _ _);refine Og.quiet_load 48 (.tmp 49) rfl (.agg (Ev.cells e1).toArray) ⟨g,o+mi * 13,none⟩ _ rfl (by rintro _ ⟨z,rfl⟩;exact LE.out z) (by simp only [Act.put,qa,qb,qc];rfl) ?_
              go_big_quiet_on)
           | ((with_reducible show Oper.quiet _ (Oper.mk (some 53) _ _ _ _ _) _ _ _);refine Og.quiet_load 26 (.tmp 2) rfl (.agg #[.slice x.ae x.ev.length x.ce,.slice x.fr.a x.fr.l.length x.fr.c,.slice x.ao x.od.length x.co]) ⟨xb,0,none⟩ _ rfl (by rintro _ ⟨z,rfl⟩;exact LXX.out z) (by simp only [Act.put,qa,qb,qc];rfl) ?_
              go_big_quiet_on)
           | (go_big_quiet_op
              first
               | go_big_quiet_on
               | (apply Exists.intro
                  refine⟨fun z=>?_,?_⟩
                  ·first
                    | (with_reducible exact Og.callB (K3.out z))
                    | (with_reducible exact Og.callB (K4.out z))
                  go_big_quiet_on))))
      refine wpQuiet_nil ?_
      intro _ hw'
      obtain⟨q9,hw''⟩:=hw'
      subst hw''
      go_wp2_with fail
      first
       | exact⟨⟨i+1,by omega,by go_num,HY.out,HB2.out.trans (q9.b.mono HB2.out.size)⟩,by simp [intOf];omega⟩
       | (go_roundw
          case rel=>exact⟨i+1,by omega,by go_num,HY.out,HB2.out.trans (q9.b.mono HB2.out.size)⟩
          case measure=>simp [intOf];omega)
     ·have t5:(s != f)=true:=by simpa using hsf
      have HN:=qH (Md.right_no hlt (Md.row_end (show Md.endR x l i=false by rw [HEN.out];simp [hsf])))
      go_wp2_with fail
      refine Og.regionB (by kernel_rfl) (by kernel_rfl) ?_
      repeat (first
       | go_big_quiet_skip
       | (go_big_quiet_want
          first
           | ((with_reducible show Oper.quiet _ (Oper.mk (some 50) _ _ _ _ _) _ _ _);refine Og.quiet_load 48 (.tmp 49) rfl (.agg (Ev.cells e1).toArray) ⟨g,o+mi * 13,none⟩ _ rfl (by rintro _ ⟨z,rfl⟩;exact LE.out z) (by simp only [Act.put,qa,qb,qc];rfl) ?_
              go_big_quiet_on)
           | ((with_reducible show Oper.quiet _ (Oper.mk (some 53) _ _ _ _ _) _ _ _);refine Og.quiet_load 26 (.tmp 2) rfl (.agg #[.slice x.ae x.ev.length x.ce,.slice x.fr.a x.fr.l.length x.fr.c,.slice x.ao x.od.length x.co]) ⟨xb,0,none⟩ _ rfl (by rintro _ ⟨z,rfl⟩;exact LXX.out z) (by simp only [Act.put,qa,qb,qc];rfl) ?_
              go_big_quiet_on)
           | (go_big_quiet_op
              first
               | go_big_quiet_on
               | (apply Exists.intro
                  refine⟨fun z=>?_,?_⟩
                  ·first
                    | (with_reducible exact Og.callB (K3.out z))
                    | (with_reducible exact Og.callB (K4.out z))
                  go_big_quiet_on))))
      refine wpQuiet_nil ?_
      intro _ hw'
      obtain⟨q9,hw''⟩:=hw'
      subst hw''
      go_wp2_with fail
      go_ret
      exact⟨by rw [HN.out];rfl,B0.out.trans ((HB2.out.trans (q9.b.mono HB2.out.size)).mono B0.out.size)⟩
  ·have hke:i=l.length:=by omega
   have hki:¬ (i:Int) < (l.length:Int):=by omega
   have HY:=qH (show Md.rightB x l=true from Md.right_yes fun j hj=>HALL.out j (by omega))
   go_wp2
   go_ret
   exact⟨by rw [HY.out];rfl,B0.out.trans (HBR.out.mono B0.out.size)⟩
end Go.Proofs.YtnjnpbabgefaeaaGreat
end
section
namespace Go.Proofs.YtnjnpbabgefaeaaGreat
open Go.RowKit
theorem Md.bool_is {b:Bool} {p:Prop} (hb:b=true↔p) {w w':World} {e:Ending} (h:∃ b':Bool,e=.returned (.bool b')∧(b'=true↔p)∧Below w.heap.size w w'):e=.returned (.bool b)∧Below w.heap.size w w':=by
 obtain⟨b',he,hp,hw⟩:=h
 exact⟨by rw [he,Md.same_bool hp hb],hw⟩
end Go.Proofs.YtnjnpbabgefaeaaGreat
end
section
namespace Go.Proofs.YtnjnpbabgefaeaaGreat
open Go.RowKit
namespace Md
open Ev
def EvRow (W:World) (base:Nat) (a:Option Addr) (c:Nat) (xs:List R):Prop:=W.ownsRow base 48 13 (.slice a xs.length c) xs.length (xs.map cells).flatten
theorem cells_len (y:R):(cells y).length=13:=rfl
theorem flat_at (xs:List R):∀ (k:Nat) (y:R) (i:Nat) (c:Value),xs[k]?=some y→(cells y)[i]?=some c→((xs.map cells).flatten)[k * 13+i]?=some c:=by
 induction xs with
 | nil=>intro k y i c h;simp at h
 | cons a l ih =>
   intro k y i c hk hi
   have hil:i < 13:=by have:=(List.getElem?_eq_some_iff.1 hi).1;rwa [cells_len] at this
   rw [List.map_cons,List.flatten_cons]
   cases k with
   | zero =>
     obtain rfl:a=y:=by simpa using hk
     rw [List.getElem?_append_left (by rw [cells_len];omega)]
     simpa using hi
   | succ k =>
     rw [List.getElem?_append_right (by rw [cells_len];omega)]
     have:=ih k y i c (by simpa using hk) hi
     rw [show (k+1) * 13+i - (cells a).length=k * 13+i by rw [cells_len];omega]
     exact this
theorem flat_set (xs:List R):∀ (k i:Nat) (y y':R) (c:Value),xs[k]?=some y→i < 13→cells y'=(cells y).set i c→((xs.map cells).flatten).set (k * 13+i) c=((xs.set k y').map cells).flatten:=by
 induction xs with
 | nil=>intro k i y y' c h;simp at h
 | cons a l ih =>
   intro k i y y' c hk hi hy
   cases k with
   | zero =>
     obtain rfl:a=y:=by simpa using hk
     rw [List.map_cons,List.flatten_cons,List.set_cons_zero,List.map_cons,List.flatten_cons,hy,Nat.zero_mul,Nat.zero_add,List.set_append_left _ _ (by rw [cells_len];omega)]
   | succ k =>
     rw [List.map_cons,List.flatten_cons,List.set_cons_succ,List.map_cons,List.flatten_cons,List.set_append_right _ _ (by rw [cells_len];omega)]
     rw [show (k+1) * 13+i - (cells a).length=k * 13+i by rw [cells_len];omega]
     rw [ih k i y y' c (by simpa using hk) hi hy]
theorem row_put {W:World} {base g n cap j:Nat} {e:TypeId} {sz:Nat} {ys:List Value} (c:Value) (h:W.ownsRow base e sz (.slice (some ⟨g,0,none⟩) n cap) n ys):(W.setCell ⟨g,j,none⟩ c).ownsRow base e sz (.slice (some ⟨g,0,none⟩) n cap) n (ys.set j c):=by
 refine⟨by rw [List.length_set];exact h.1,?_⟩
 rcases h.2 with ⟨e1,_⟩ | ⟨g',cap',cur,e1,hb,hh,hnc,hcm,hcs,ht⟩
 ·simp at e1
 ·obtain⟨rfl,rfl⟩:g=g'∧cap=cap':=by simpa using e1
  refine .inr ⟨g,cap,cur.setIfInBounds j c,rfl,hb,?_,hnc,hcm,by simpa using hcs,?_⟩
  ·obtain⟨hlt,hk⟩:=Array.getElem?_eq_some_iff.1 hh
   show(W.heap.modify g _)[g]?=_
   rw [Array.getElem?_eq_getElem (by rw [Array.size_modify];exact hlt),Array.getElem_modify_self,hk]
   rfl
  ·rw [Array.toList_setIfInBounds,List.take_set,ht]
theorem EvRow.form {W:World} {base:Nat} {a:Option Addr} {c:Nat} {xs:List R} (h:EvRow W base a c xs) (hp:0 < xs.length):∃ g cur,a=some ⟨g,0,none⟩∧base≤g∧W.heap[g]?=some (.cells cur 48 (0,0))∧xs.length≤c∧c≤9223372036854775807:=by
 rcases h.2 with ⟨e,hn⟩ | ⟨g,cap,cur,e,hb,hh,hnc,hcm,hcs,ht⟩
 ·omega
 ·obtain⟨rfl,rfl⟩:a=some ⟨g,0,none⟩∧c=cap:=by simpa using e
  exact⟨g,cur,rfl,hb,hh,hnc,by unfold maxLen at hcm;exact hcm⟩
theorem EvRow.cell {W:World} {base g:Nat} {c:Nat} {xs:List R} (h:EvRow W base (some ⟨g,0,none⟩) c xs) {k i:Nat} {y:R} {v:Value} (hk:xs[k]?=some y) (hi:(cells y)[i]?=some v):W.cell? ⟨g,k * 13+i,none⟩=some v:=by
 have h1:=World.ownsRow.cells (g:=g) h rfl (k * 13+i) v (flat_at xs k y i v hk hi)
 have e:(⟨g,0,none⟩:Addr).add (k * 13+i)=⟨g,k * 13+i,none⟩:=by unfold Addr.add;split <;> simp_all
 rw [e] at h1;exact h1
theorem EvRow.put {W:World} {base g:Nat} {c:Nat} {xs:List R} (h:EvRow W base (some ⟨g,0,none⟩) c xs) {k i:Nat} {y y':R} {v:Value} (hk:xs[k]?=some y) (hi:i < 13) (hy:cells y'=(cells y).set i v) :
 EvRow (W.setCell ⟨g,k * 13+i,none⟩ v) base (some ⟨g,0,none⟩) c (xs.set k y'):=by
 unfold EvRow at h ⊢
 rw [List.length_set,← flat_set xs k i y y' v hk hi hy]
 exact row_put v h
theorem put_else {W:World} {g j b:Nat} {v:Value} {o:Obj} (h:W.heap[b]?=some o) (hb:b≠g):(W.setCell ⟨g,j,none⟩ v).heap[b]?=some o :=
 (Below.heap_setCell _ _ _ b (fun e=>hb e)).trans h
def cur (f:R→R) (xs:List R) (k:Nat):List R:=(xs.take k).map f++xs.drop k
end Md
theorem append_nils {P:Program} {w:World} {ops:Array Oper} {rest:List Oper} {o:Oper} {a:Act} {Q:Exit→Act→World→Prop} (hgd:o.guard=none) (s x:Operand) (t:TypeId)
 (ho:o.op=.call { callee:=.builtin .append,args:=#[s,x],argTypes:=#[t,t] }) (e:TypeId) (i:TypeInfo) (ht:P.underlying t=some (.slice e)) (hi:P.info? e=some i) (c:Nat)
 (hs:a.eval s=.slice none 0 0) (hx:a.eval x=.slice none 0 c)
 (h:wpList P ops Q rest (a.put o.dst (.slice none 0 0)) w):wpList P ops Q (o :: rest) a w:=by
 refine wpList_plain hgd fun K hK=>?_
 unfold Oper.wp
 simp [execOp,ho,resolve,invoke,builtin,hs,hx,Builtin.append_,run_underlying ht,sizeOf,typeInfo,hi,Builtin.lenOf,Builtin.firstCells,loadCells,loadCellsFrom,Result.andThen]
 exact hK _ _ h
namespace Md
open Ev
theorem EvRow.start {W:World} {base g c k:Nat} {L:List R} {y:R} (hy:L[k]?=some y) (h:EvRow W base (some ⟨g,0,none⟩) c L):EvRow W base (some ⟨g,0,none⟩) c (L.set k y):=by
 have e:L.set k y=L:=by
  obtain⟨hl,he⟩:=List.getElem?_eq_some_iff.1 hy
  rw [← he];exact List.set_getElem_self hl
 rw [e];exact h
theorem EvRow.else {W:World} {base b i c:Nat} {a:Option Addr} {L:List R} {v:Value} (h:EvRow W base a c L) (hb:b < base):EvRow (W.setCell ⟨b,i,none⟩ v) base a c L:=by
 refine⟨h.1,?_⟩
 rcases h.2 with hn | ⟨g,cap,cur,e,hbg,hg,rest⟩
 ·exact .inl hn
 ·exact .inr ⟨g,cap,cur,e,hbg,put_else hg (by omega),rest⟩
theorem EvRow.kp {W W':World} {base c:Nat} {a:Option Addr} {L:List R} (h:EvRow W base a c L) (hb:Below W.heap.size W W'):EvRow W' base a c L:=by
 refine⟨h.1,?_⟩
 rcases h.2 with hn | ⟨g,cap,cur,e,hbg,hg,rest⟩
 ·exact .inl hn
 ·exact .inr ⟨g,cap,cur,e,hbg,(hb.block g (qL hg)).trans hg,rest⟩
theorem all3_allow {x:X} (hc:check x=0):All3 x↔Allow x:=by
 unfold All3 Allow
 rw [rk_C hc,rk_G hc,atom_eq hc]
 exact⟨fun h=>⟨h.2.2,h.2.1,h.1⟩,fun h=>⟨h.2.2,h.2.1,h.1⟩⟩
end Md
end Go.Proofs.YtnjnpbabgefaeaaGreat
end
