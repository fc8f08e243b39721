import Derived.Test.YtnjnpbabgefaeaaGreatKp05
import Derived.Test.YtnjnpbabgefaeaaGreatKp04
import Derived.Test.YtnjnpbabgefaeaaGreatKp06
import Derived.BigGuardPart
import Derived.Test.YtnjnpbabgefaeaaGreatKpH
set_option maxRecDepth 100000
set_option maxHeartbeats 4000000
set_option linter.unusedVariables false
set_option linter.unusedSimpArgs false
section
namespace Go.Proofs.YtnjnpbabgefaeaaGreat
open Go.RowKit
namespace Ev
def readOk (xs:List R) (m f:Int):Bool:=inB f xs.length&&!(f==m)&&stores (nth xs f).k&&(nth xs f).a==(nth xs m).a&&(nth xs f).v==(nth xs m).r
def fromAt (xs:List R) (fr:List Int) (m:Nat):Bool:=if loads (nth xs m).k then readOk xs m (fr.getD m 0) else fr.getD m 0==-1
def fromOk (xs:List R) (fr:List Int):Bool:=fr.length==xs.length&&(List.range xs.length).all (fromAt xs fr)
end Ev
theorem mayRead_two (g o c m f:Nat) (xs:List Ev.R) (x y:Ev.R) (hm:m < xs.length) (hf:f < xs.length) (hn:xs.length≤9223372036854775807) (hfm:f≠m) (w:World)
 (hx:∀ i c,(Ev.cells x)[i]?=some c→w.cell? ⟨g,o+m * 13+i,none⟩=some c) (hy:∀ i c,(Ev.cells y)[i]?=some c→w.cell? ⟨g,o+f * 13+i,none⟩=some c) :
  Calls Tryz.prog 99 #[.slice (some ⟨g,o,none⟩) xs.length c,.int .i64 (m:Int),.int .i64 (f:Int)] w fun e w'=>e=.returned (.bool (Ev.stores y.k&&y.a==x.a&&y.v==x.r))∧Below w.heap.size w w':=by
 have h1:(m:Int) < (xs.length:Int):=by omega
 have h2:(f:Int) < (xs.length:Int):=by omega
 have h3:((f:Int)==(m:Int))=false:=by simp;omega
 have hb:Ev.inB (f:Int) (xs.length:Int)=true:=by unfold Ev.inB;simp;omega
 have HBB:=qH hb;clear hb
 have HX:=qH hx;have HY:=qH hy;clear hx hy
 have LX:=qH (fun (z:World) (hz:Og.Std w z)=>Ev.ld (w:=z) (g:=g) (o:=o+m * 13) (x:=x) (fun i c hi=>Og.std_cell hz (HX.out i c hi)))
 have LY:=qH (fun (z:World) (hz:Og.Std w z)=>Ev.ld (w:=z) (g:=g) (o:=o+f * 13) (x:=y) (fun i c hi=>Og.std_cell hz (HY.out i c hi)))
 go_enter Tryz.func99,Tryz.ntmps99
 go_wp2_with (go_at_call 119;refine(inB_any _ _ _).mono ?_;rintro e w' ⟨rfl,rfl⟩;rw [HBB.out])
 refine wp_region_held (S:=Og.Std w) (by kernel_rfl) ?_
 have S0:Og.Std w { w with drawn:=w.drawn+1 }:=⟨rfl,rfl,rfl,Nat.le_refl _,fun _ _=>rfl⟩
 refine Og.held_take 0 _ (.slice (some ⟨g,o,none⟩) xs.length c) _ rfl rfl (by kernel_rfl) (by kernel_rfl) (by kernel_rfl) (fun _ _ _ h=>h) S0 (fun x hx=>?_) (by simp only [Act.put,qa,qb,qc];rfl) ?_
 ·go_simp;try (with_reducible rfl)
 refine Og.held_take 1 _ (.int .i64 (m:Int)) _ rfl rfl (by kernel_rfl) (by kernel_rfl) (by kernel_rfl) (fun _ _ _ h=>h) S0 (fun x hx=>?_) (by simp only [Act.put,qa,qb,qc];rfl) ?_
 ·go_simp;try (with_reducible rfl)
 refine Og.held_take 2 _ (.pointer (some ⟨g,o+m * 13,none⟩)) _ rfl rfl (by kernel_rfl) (by kernel_rfl) (by kernel_rfl) (fun _ _ _ h=>h) S0 (fun x hx=>?_) (by simp only [Act.put,qa,qb,qc];rfl) ?_
 ·go_simp;try (with_reducible rfl)
 refine Og.held_take 3 _ (.agg (Ev.cells x).toArray) _ rfl rfl (by kernel_rfl) (by kernel_rfl) (by kernel_rfl) (fun _ _ _ h=>h) S0 (fun x hx=>?_) (by simp only [Act.put,qa,qb,qc];rfl) ?_
 ·exact Og.load_run 48 (.tmp 21) rfl ⟨g,o+m * 13,none⟩ (by kernel_rfl) (LX.out _ hx)
 refine Og.held_take 4 _ (.slice (some ⟨g,o,none⟩) xs.length c) _ rfl rfl (by kernel_rfl) (by kernel_rfl) (by kernel_rfl) (fun _ _ _ h=>h) S0 (fun x hx=>?_) (by simp only [Act.put,qa,qb,qc];rfl) ?_
 ·go_simp;try (with_reducible rfl)
 refine Og.held_take 5 _ (.int .i64 (f:Int)) _ rfl rfl (by kernel_rfl) (by kernel_rfl) (by kernel_rfl) (fun _ _ _ h=>h) S0 (fun x hx=>?_) (by simp only [Act.put,qa,qb,qc];rfl) ?_
 ·go_simp;try (with_reducible rfl)
 refine Og.held_take 6 _ (.pointer (some ⟨g,o+f * 13,none⟩)) _ rfl rfl (by kernel_rfl) (by kernel_rfl) (by kernel_rfl) (fun _ _ _ h=>h) S0 (fun x hx=>?_) (by simp only [Act.put,qa,qb,qc];rfl) ?_
 ·go_simp;try (with_reducible rfl)
 refine Og.held_take 7 _ (.agg (Ev.cells y).toArray) _ rfl rfl (by kernel_rfl) (by kernel_rfl) (by kernel_rfl) (fun _ _ _ h=>h) S0 (fun x hx=>?_) (by simp only [Act.put,qa,qb,qc];rfl) ?_
 ·exact Og.load_run 48 (.tmp 25) rfl ⟨g,o+f * 13,none⟩ (by kernel_rfl) (LY.out _ hx)
 refine Og.four (p:=8) (q:=9) (s1:=10) (s2:=11) (dp:=7) (dq:=8) (x1:=22) (x2:=26) (T:=48) (Z:=(Ev.cells Ev.R0).toArray) (c1:=(Ev.cells x).toArray) (c2:=(Ev.cells y).toArray)
  ⟨⟨_,rfl,rfl,rfl,fun ρ w=>by kernel_rfl⟩,⟨_,rfl,rfl,rfl,fun ρ w=>by kernel_rfl⟩,⟨_,rfl,rfl,rfl,rfl⟩,⟨_,rfl,rfl,rfl,rfl⟩,(by kernel_rfl),(by kernel_rfl),(by kernel_rfl),(by kernel_rfl),(by kernel_rfl),(by kernel_rfl),(by kernel_rfl),(by kernel_rfl),(by kernel_rfl),(by kernel_rfl),(by kernel_rfl),of_decide_eq_true (by kernel_rfl),of_decide_eq_true (by kernel_rfl),(by decide),rfl,rfl,(by kernel_rfl),(by kernel_rfl),(by kernel_rfl),(by kernel_rfl)⟩ S0 ?_
 intro W g1 g2 HT
 simp only [Act.put,qa,qb,qc]
 have R1:=qH HT.r1;have R2:=qH HT.r2;have BW:=qH HT.below
 clear HT S0
 go_wp2_with (show wpList _ _ _ (Oper.mk (some 27) _ _ _ _ _ :: _) _ _;refine wpList_load_row rfl 48 (.tmp 8) rfl g2 (by kernel_rfl) 48 (Ev.cells y).toArray (0,0) _ R2.out Tryz.underlying48 rfl (by kernel_rfl) ?_)
 refine(stores_any y _).mono ?_
 rintro e w3 ⟨rfl,hb3⟩
 have c2:w3.cell? ⟨g2,2,none⟩=some (.int .u32 y.a):=by rw [qC ((hb3.block g2 (qL R2.out)).trans R2.out)];rfl
 have c3:w3.cell? ⟨g2,3,none⟩=some (.int .u32 y.v):=by rw [qC ((hb3.block g2 (qL R2.out)).trans R2.out)];rfl
 have c4:w3.cell? ⟨g1,2,none⟩=some (.int .u32 x.a):=by rw [qC ((hb3.block g1 (qL R1.out)).trans R1.out)];rfl
 have c5:w3.cell? ⟨g1,4,none⟩=some (.int .u32 x.r):=by rw [qC ((hb3.block g1 (qL R1.out)).trans R1.out)];rfl
 have B3:=qH (BW.out.trans (hb3.mono BW.out.size))
 clear hb3
 obtain⟨b1,hb1⟩:∃ b,Ev.stores y.k=b:=⟨_,rfl⟩
 obtain⟨b2,hb2⟩:∃ b,(y.a==x.a)=b:=⟨_,rfl⟩
 have H1:=qH hb1;have H2:=qH hb2
 rw [hb1]
 clear hb1
 cases b1
 ·clear hb2
  go_wp2_with fail
  go_ret
  exact⟨by rw [H1.out];rfl,B3.out⟩
 cases b2
 ·go_wp2_with fail
  go_ret
  exact⟨by rw [H1.out,H2.out];rfl,B3.out⟩
 ·go_wp2_with fail
  go_ret
  exact⟨by rw [H1.out,H2.out];rfl,B3.out⟩
theorem mayRead_any (a:Option Addr) (c m:Nat) (f:Int) (xs:List Ev.R) (hm:m < xs.length) (w:World) (hin:Ev.EvsIn w a c xs) :
 Calls Tryz.prog 99 #[.slice a xs.length c,.int .i64 (m:Int),.int .i64 f] w fun e w'=>e=.returned (.bool (Ev.readOk xs m f))∧Below w.heap.size w w':=by
 have hn:xs.length≤9223372036854775807:=Nat.le_trans hin.le hin.max
 obtain⟨x,hx⟩:∃ x,xs[m]?=some x:=⟨_,List.getElem?_eq_getElem hm⟩
 have hxn:=Ev.nth_some hx
 by_cases hb:Ev.inB f xs.length=true
 ·by_cases hfm:f=(m:Int)
  ·have e:Ev.readOk xs m f=false:=by unfold Ev.readOk;simp [hfm]
   have HBB:=qH hb
   subst hfm
   rw [e];clear e hb hx hxn hin
   go_enter Tryz.func99,Tryz.ntmps99
   go_wp2_with (go_at_call 119;refine(inB_any _ _ _).mono ?_;rintro e w' ⟨rfl,rfl⟩;rw [HBB.out])
   go_ret
   exact⟨rfl,Below.refl _ _⟩
  ·have hr:0≤f∧f < (xs.length:Int):=by unfold Ev.inB at hb;simpa using hb
   obtain⟨fn,rfl⟩:∃ fn:Nat,f=fn:=⟨f.toNat,by omega⟩
   have hfl:fn < xs.length:=by omega
   obtain⟨y,hy⟩:∃ y,xs[fn]?=some y:=⟨_,List.getElem?_eq_getElem hfl⟩
   have hyn:=Ev.nth_some hy
   obtain⟨g,o,rfl,hcx⟩:=hin.at_ hx
   obtain⟨g',o',eg,hcy⟩:=hin.at_ hy
   obtain⟨rfl,rfl⟩:g'=g∧o'=o:=by cases eg;exact⟨rfl,rfl⟩
   have e:Ev.readOk xs m fn=(Ev.stores y.k&&y.a==x.a&&y.v==x.r):=by unfold Ev.readOk;rw [hb,hxn,hyn];have hq:((fn:Int)==(m:Int))=false:=(by simpa using hfm);rw [hq];simp
   rw [e]
   exact mayRead_two _ _ c m fn xs x y hm hfl hn (by omega) w hcx hcy
 ·have hb:Ev.inB f xs.length=false:=by simpa using hb
  have e:Ev.readOk xs m f=false:=by unfold Ev.readOk;simp [hb]
  have HBB:=qH hb
  rw [e];clear e hb hx hxn hin
  go_enter Tryz.func99,Tryz.ntmps99
  go_wp2_with (go_at_call 119;refine(inB_any _ _ _).mono ?_;rintro e w' ⟨rfl,rfl⟩;rw [HBB.out])
  go_ret
  exact⟨rfl,Below.refl _ _⟩
theorem from_any (a:Option Addr) (c:Nat) (xs:List Ev.R) (fr:Ev.Sl) (w:World) (hin:Ev.EvsIn w a c xs) (hfr:Ev.IntsIn w fr) :
 Calls Tryz.prog 72 #[.slice a xs.length c,.slice fr.a fr.l.length fr.c] w fun e w'=>e=.returned (.bool (Ev.fromOk xs fr.l))∧Below w.heap.size w w':=by
 have hmax:=hin.max;have hle:=hin.le;have hfm:=hfr.2.2.1;have hfl:=hfr.2.1
 have HIN:=qH hin;have HFR:=qH hfr;clear hin hfr
 by_cases hl:fr.l.length=xs.length
 ·have HL:=qH hl
  have hne:((fr.l.length:Int) != (xs.length:Int))=false:=by simp [hl]
  have HRES:=qH (show Ev.fromOk xs fr.l=(List.range xs.length).all (Ev.fromAt xs fr.l) by unfold Ev.fromOk;simp [hl])
  clear hl
  rw [HRES.out];clear HRES
  go_enter Tryz.func72,Tryz.ntmps72
  go_wp2
  go_loopw [5,14] (fun _ i wr=>∃ k:Nat,k≤xs.length∧i=.int .i64 (k:Int)∧(∀ j,j < k→Ev.fromAt xs fr.l j=true)∧Below w.heap.size w wr) (fun _ i _=>xs.length - (intOf i).toNat)
  case atStart=>exact⟨0,Nat.zero_le _,rfl,fun j hj=>absurd hj (by omega),Below.refl _ _⟩
  case round =>
   obtain⟨k,hk,rfl,hall,hbr⟩:=hrel
   have HA:=qH hall;have HBR:=qH hbr;clear hall hbr
   by_cases hlt:k < xs.length
   ·obtain⟨x,hx⟩:∃ x,xs[k]?=some x:=⟨_,List.getElem?_eq_getElem hlt⟩
    obtain⟨f,hf⟩:∃ f,fr.l[k]?=some f:=⟨_,List.getElem?_eq_getElem (by have:=HL.out;omega)⟩
    have KW:=Ev.kp_below HBR.out
    obtain⟨g,o,ea,hcx⟩:=(HIN.out.kp KW).at_ hx
    obtain⟨g2,o2,ef,hcf⟩:=(HFR.out.kp KW).at_ hf
    have hxn:=Ev.nth_some hx
    have HXN:=qH hxn;have HC:=qH hcx
    have hfd:fr.l.getD k 0=f:=by simp [List.getD,hf]
    have HFD:=qH hfd
    have HEA:=qH ea;have HEF:=qH ef
    have hat:Ev.fromAt xs fr.l k=if Ev.loads x.k then Ev.readOk xs k f else f==-1:=by unfold Ev.fromAt;rw [hxn,hfd]
    have HAT:=qH hat
    have hki:(k:Int) < (xs.length:Int):=by omega
    have hkf:(k:Int) < (fr.l.length:Int):=by have:=HL.out;omega
    clear hx hf hxn hfd hat hcx KW
    rw [ea,ef]
    clear ea ef
    go_wp2_with (first
     | (show wpList _ _ _ (Oper.mk (some 18) _ _ _ _ _ :: _) _ _;refine wpList_load_at rfl 48 (.tmp 17) rfl g (o+k * 13) rfl (Ev.cells x) _ HC.out Tryz.underlying48 rfl (by kernel_rfl) ?_)
     | (show wpList _ _ _ (Oper.mk none (Op.store 48 _ _) _ _ _ _ :: _) _ _;refine wpList_store_own rfl 48 (.tmp 6) (.tmp 18) rfl wr.heap.size (Ev.cells x).toArray rfl rfl 48 (Ev.cells Ev.R0).toArray (heap_alloc_new _ _) (by kernel_rfl) (by kernel_rfl) (by kernel_rfl) ?_
        intro W1 HW1
        have B1:=qH (((Below.refl wr.heap.size wr).alloc (Nat.le_refl _) _).trans HW1.below)
        have RW:=qH HW1.row
        clear HW1)
     | (show wpList _ _ _ (Oper.mk (some 19) _ _ _ _ _ :: _) _ _;refine wpList_load_row rfl 48 (.tmp 6) rfl wr.heap.size rfl 48 (Ev.cells x).toArray (0,0) _ RW.out Tryz.underlying48 rfl (by kernel_rfl) ?_))
    refine(loads_any x _).mono ?_
    rintro e W2 ⟨rfl,hb2⟩
    have RW2:=qH ((hb2.block wr.heap.size (qL RW.out)).trans RW.out)
    have B2:=qH (B1.out.trans (hb2.mono B1.out.size));clear hb2
    have hcf2:=Ev.kp_below B2.out _ _ hcf
    clear hcf
    obtain⟨b,hb⟩:∃ b,Ev.loads x.k=b:=⟨_,rfl⟩
    have HLB:=qH hb
    rw [hb];clear hb
    cases b
    ·by_cases hf1:f=-1
     ·have hq:(f != -1)=false:=by simp [hf1]
      have HQ:=qH hf1;clear hf1
      go_wp2_with (first
       | (show wpList _ _ _ (Oper.mk (some 30) _ _ _ _ _ :: _) _ _;refine wpList_load_row rfl 48 (.tmp 6) rfl wr.heap.size rfl 48 (Ev.cells x).toArray (0,0) _ RW2.out Tryz.underlying48 rfl (by kernel_rfl) ?_)
       | (refine Ev.load_row_g 48 (.tmp 6) rfl (by kernel_rfl) wr.heap.size rfl 48 (Ev.cells x).toArray (0,0) _ RW2.out Tryz.underlying48 rfl (by kernel_rfl) ?_))
      refine(loads_any x _).mono ?_
      rintro e W3 ⟨rfl,hb3⟩
      have B3:=qH (B2.out.trans (hb3.mono B2.out.size));clear hb3
      rw [HLB.out]
      go_wp2_with fail
      go_roundw
      case rel =>
       refine⟨k+1,by omega,by go_num,fun j hj=>?_,HBR.out.trans (B3.out.mono HBR.out.size)⟩
       by_cases hjk:j=k
       ·subst hjk;rw [HAT.out,HLB.out,HQ.out];rfl
       ·exact HA.out j (by omega)
      case measure=>simp [intOf];omega
     ·have hq:(f != -1)=true:=by simpa using hf1
      have HF:=qH (show(List.range xs.length).all (Ev.fromAt xs fr.l)=false by
       rw [List.all_eq_false];exact⟨k,List.mem_range.2 hlt,by rw [HAT.out,HLB.out];simpa using hf1⟩)
      clear hf1
      go_wp2_with fail
      go_ret
      exact⟨by rw [HF.out];rfl,HBR.out.trans (B2.out.mono HBR.out.size)⟩
    ·have HINr:=qH ((HIN.out.kp (Ev.kp_below HBR.out)).kp (Ev.kp_below B2.out))
     go_wp2_with (first
      | (refine Ev.load_row_g 48 (.tmp 6) rfl (by kernel_rfl) wr.heap.size rfl 48 (Ev.cells x).toArray (0,0) _ RW2.out Tryz.underlying48 rfl (by kernel_rfl) ?_))
     refine(loads_any x _).mono ?_
     rintro e W3 ⟨rfl,hb3⟩
     have hcf3:=Ev.kp_below hb3 _ _ hcf2
     have HIN3:=qH (HINr.out.kp (Ev.kp_below hb3))
     have B3:=qH (B2.out.trans (hb3.mono B2.out.size));clear hb3 hcf2
     rw [HLB.out]
     go_wp2_with fail
     refine(mayRead_any (some ⟨g,o,none⟩) c k f xs hlt _ (by rw [← HEA.out];exact HIN3.out)).mono ?_
     rintro e W4 ⟨rfl,hb4⟩
     have B4:=qH (B3.out.trans (hb4.mono B3.out.size));clear hb4
     obtain⟨b,hb⟩:∃ b,Ev.readOk xs k f=b:=⟨_,rfl⟩
     have HRB:=qH hb
     rw [hb];clear hb
     cases b
     ·have HF:=qH (show(List.range xs.length).all (Ev.fromAt xs fr.l)=false by
       rw [List.all_eq_false];exact⟨k,List.mem_range.2 hlt,by rw [HAT.out,HLB.out,HRB.out];simp⟩)
      go_wp2_with fail
      go_ret
      exact⟨by rw [HF.out];rfl,HBR.out.trans (B4.out.mono HBR.out.size)⟩
     ·go_wp2_with fail
      go_roundw
      case rel =>
       refine⟨k+1,by omega,by go_num,fun j hj=>?_,HBR.out.trans (B4.out.mono HBR.out.size)⟩
       by_cases hjk:j=k
       ·subst hjk;rw [HAT.out,HLB.out,HRB.out];rfl
       ·exact HA.out j (by omega)
      case measure=>simp [intOf];omega
   ·have hkk:k=xs.length:=by omega
    have HF:=qH (show(List.range xs.length).all (Ev.fromAt xs fr.l)=true by
     rw [List.all_eq_true];intro j hj;exact HA.out j (by have:=List.mem_range.1 hj;omega))
    have hki:¬ (k:Int) < (xs.length:Int):=by omega
    clear hkk
    go_wp2
    go_ret
    exact⟨by rw [HF.out];rfl,HBR.out⟩
 ·have e:Ev.fromOk xs fr.l=false:=by unfold Ev.fromOk;simp [hl]
  have hne:((fr.l.length:Int) != (xs.length:Int))=true:=by simp;omega
  rw [e];clear e hl
  go_enter Tryz.func72,Tryz.ntmps72
  go_wp2
  go_ret
  exact⟨rfl,Below.refl _ _⟩
end Go.Proofs.YtnjnpbabgefaeaaGreat
end
section
namespace Go.Proofs.YtnjnpbabgefaeaaGreat
open Go.RowKit
set_option maxHeartbeats 1000000
theorem rstores_any (x:Ev.R) (w:World):Calls Tryz.prog 32 #[Ev.evV x] w fun e w'=>e=.returned (.bool (Ev.stores x.k))∧Below w.heap.size w w':=by
 unfold Ev.evV Ev.cells
 by_cases h2:x.k=2
 ·have e:Ev.stores x.k=true:=by rw [h2];rfl
  have t2:(x.k==2)=true:=by simp [h2]
  rw [e];clear e h2
  go_enter Tryz.func32,Tryz.ntmps32
  go_wp2
  go_ret
  exact⟨rfl,(Below.refl _ _).alloc (Nat.le_refl _) _⟩
 have n2:(x.k==2)=false:=by simpa using h2
 by_cases h3:x.k=3
 ·have e:Ev.stores x.k=true:=by rw [h3];rfl
  have t2:(x.k==3)=true:=by simp [h3]
  rw [e];clear e h2 h3
  go_enter Tryz.func32,Tryz.ntmps32
  go_wp2
  go_ret
  exact⟨rfl,(Below.refl _ _).alloc (Nat.le_refl _) _⟩
 have n3:(x.k==3)=false:=by simpa using h3
 by_cases h5:x.k=5
 ·have e:Ev.stores x.k=true:=by rw [h5];rfl
  have t2:(x.k==5)=true:=by simp [h5]
  rw [e];clear e h2 h3 h5
  go_enter Tryz.func32,Tryz.ntmps32
  go_wp2
  go_ret
  exact⟨rfl,(Below.refl _ _).alloc (Nat.le_refl _) _⟩
 have n5:(x.k==5)=false:=by simpa using h5
 have e:Ev.stores x.k=false:=by unfold Ev.stores;simp [n2,n3,n5]
 rw [e];clear e h2 h3 h5
 go_enter Tryz.func32,Tryz.ntmps32
 go_wp2
 go_ret
 exact⟨rfl,(Below.refl _ _).alloc (Nat.le_refl _) _⟩
theorem rloads_any (x:Ev.R) (w:World):Calls Tryz.prog 31 #[Ev.evV x] w fun e w'=>e=.returned (.bool (Ev.loads x.k))∧Below w.heap.size w w':=by
 unfold Ev.evV Ev.cells
 by_cases h2:x.k=1
 ·have e:Ev.loads x.k=true:=by rw [h2];rfl
  have t2:(x.k==1)=true:=by simp [h2]
  rw [e];clear e h2
  go_enter Tryz.func31,Tryz.ntmps31
  go_wp2
  go_ret
  exact⟨rfl,(Below.refl _ _).alloc (Nat.le_refl _) _⟩
 have n2:(x.k==1)=false:=by simpa using h2
 by_cases h3:x.k=3
 ·have e:Ev.loads x.k=true:=by rw [h3];rfl
  have t2:(x.k==3)=true:=by simp [h3]
  rw [e];clear e h2 h3
  go_enter Tryz.func31,Tryz.ntmps31
  go_wp2
  go_ret
  exact⟨rfl,(Below.refl _ _).alloc (Nat.le_refl _) _⟩
 have n3:(x.k==3)=false:=by simpa using h3
 have e:Ev.loads x.k=false:=by unfold Ev.loads;simp [n2,n3]
 rw [e];clear e h2 h3
 go_enter Tryz.func31,Tryz.ntmps31
 go_wp2
 go_ret
 exact⟨rfl,(Below.refl _ _).alloc (Nat.le_refl _) _⟩
namespace Ev
end Ev
end Go.Proofs.YtnjnpbabgefaeaaGreat
end
section
namespace Go.Proofs.YtnjnpbabgefaeaaGreat
open Go.RowKit
theorem index_any (S:Ev.Sl) (n:Int) (w:World) (hS:Ev.IntsIn w S) :
 Calls Tryz.prog 167 #[.slice S.a S.l.length S.c,.int .i64 n] w fun e w'=>e=.returned (.int .i64 (Ev.at_ S.l n))∧w=w':=by
 have hsm:=hS.2.2.1;have hsl:=hS.2.1
 have HS:=qH hS;clear hS
 go_enter Tryz.func167,Tryz.ntmps167
 go_wp2
 go_loopw [5,8] (fun _ i wr=>∃ k:Nat,k≤S.l.length∧i=.int .i64 (k:Int)∧Ev.at_ S.l n=Ev.atGo n k (S.l.drop k)∧wr=w) (fun _ i _=>S.l.length - (intOf i).toNat)
 case atStart=>exact⟨0,Nat.zero_le _,rfl,rfl,rfl⟩
 case round =>
  obtain⟨k,hk,rfl,hgo,rfl⟩:=hrel
  have HGO:=qH hgo;clear hgo
  by_cases hlt:k < S.l.length
  ·obtain⟨d,hd⟩:∃ d,S.l[k]?=some d:=⟨_,List.getElem?_eq_getElem hlt⟩
   have hdrop:S.l.drop k=d :: S.l.drop (k+1):=by
    rw [List.drop_eq_getElem_cons hlt];congr 1;rw [List.getElem?_eq_getElem hlt] at hd;exact Option.some.inj hd
   obtain⟨g,o,e,c⟩:=HS.out.at_ hd
   have hki:(k:Int) < (S.l.length:Int):=by omega
   rw [e]
   by_cases hq:d=n
   ·have HR:=qH (show Ev.at_ S.l n=(k:Int) by rw [HGO.out,hdrop];unfold Ev.atGo;rw [if_pos hq])
    have tq:(n==d)=true:=by simpa using hq.symm
    clear hd hdrop e hq
    go_wp2
    go_ret
    refine⟨?_,rfl⟩
    rw [HR.out];rfl
   ·have HR:=qH (show Ev.at_ S.l n=Ev.atGo n ((k+1:Nat):Int) (S.l.drop (k+1)) by rw [HGO.out,hdrop];simp only [Ev.atGo];rw [if_neg hq];rfl)
    have tq:(n==d)=false:=by simpa using (fun h:n=d=>hq h.symm)
    clear hd hdrop e hq
    go_wp2
    try go_roundw
    first
    | exact⟨⟨k+1,by omega,by go_num,HR.out,by first | rfl | trivial⟩,by simp [intOf];omega⟩
    | (case rel=>exact⟨k+1,by omega,by go_num,HR.out,by first | rfl | trivial⟩
       case measure=>simp [intOf];omega)
  ·have hki:¬ (k:Int) < (S.l.length:Int):=by omega
   have HR:=qH (show Ev.at_ S.l n=-1 by rw [HGO.out,List.drop_eq_nil_of_le (by omega)];rfl)
   go_wp2
   go_ret
   refine⟨?_,rfl⟩
   rw [HR.out];rfl
theorem index_is {S:Ev.Sl} {n p:Int} (h:Ev.at_ S.l n=p) (w:World) (hS:Ev.IntsIn w S):Calls Tryz.prog 167 #[.slice S.a S.l.length S.c,.int .i64 n] w fun e w'=>e=.returned (.int .i64 p)∧w=w':=h ▸ index_any S n w hS
def Or.has (l:List Int) (n:Int):Bool:=decide (0≤Ev.at_ l n)
theorem contains_any (S:Ev.Sl) (n:Int) (w:World) (hS:Ev.IntsIn w S) :
 Calls Tryz.prog 158 #[.slice S.a S.l.length S.c,.int .i64 n] w fun e w'=>e=.returned (.bool (Or.has S.l n))∧w=w':=by
 have HS:=qH hS;clear hS
 obtain⟨p,hp⟩:∃ p,Ev.at_ S.l n=p:=⟨_,rfl⟩
 have HP:=qH hp
 have HR:=qH (show Or.has S.l n=decide (0≤p) by unfold Or.has;rw [hp])
 clear hp
 go_enter Tryz.func158,Tryz.ntmps158
 go_wp2_with fail
 refine(index_is HP.out _ HS.out).mono ?_
 rintro e w1 ⟨rfl,rfl⟩
 go_wp2_with fail
 go_ret
 exact⟨by rw [HR.out];try rfl,rfl⟩
theorem contains_is {S:Ev.Sl} {n:Int} {p:Bool} (h:Or.has S.l n=p) (w:World) (hS:Ev.IntsIn w S):Calls Tryz.prog 158 #[.slice S.a S.l.length S.c,.int .i64 n] w fun e w'=>e=.returned (.bool p)∧w=w':=h ▸ contains_any S n w hS
end Go.Proofs.YtnjnpbabgefaeaaGreat
end
