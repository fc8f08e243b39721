import Derived.Test.YtnjnpbabgefaeaaGreatKp22
import Derived.Test.YtnjnpbabgefaeaaGreatKp03
import Derived.Laws.MakeOwn
import Derived.Test.YtnjnpbabgefaeaaGreatKp21
import Derived.BigGuardPart
import Derived.Deep.QuietTactic
import Derived.BigQuiet
import Derived.Test.YtnjnpbabgefaeaaGreatKp06
import Derived.Test.YtnjnpbabgefaeaaGreatKpH
set_option maxRecDepth 100000
set_option maxHeartbeats 2000000
set_option linter.unusedVariables false
set_option linter.unusedSimpArgs false
section
namespace Go.Proofs.YtnjnpbabgefaeaaGreat
open Go.RowKit
namespace Ev
def GBlk (w:World) (g:Nat) (G:List Bool):Prop:=w.heap[g]?=some (.cells (G.map Value.bool).toArray 4 (0,0))
theorem GBlk.cell {w:World} {g:Nat} {G:List Bool} (h:GBlk w g G) {i:Nat} (hi:i < G.length):w.cell? ⟨g,i,none⟩=some (.bool (G.getD i false)):=by
 rw [cell_of_row w g i _ _ _ h]
 simp [List.getD,hi]
theorem GBlk.set_ {w:World} {g:Nat} {G:List Bool} (h:GBlk w g G) (i:Nat):GBlk (w.setCell ⟨g,i,none⟩ (.bool true)) g (G.set i true):=by
 unfold GBlk at h ⊢
 simp [World.setCell,Array.getElem?_modify,h,List.map_set]
theorem GBlk.frozen {w:World} {g:Nat} {G:List Bool} (h:GBlk w g G) (i:Nat):w.frozen? ⟨g,i,none⟩=false:=by
 unfold GBlk at h
 simp [World.frozen?,h]
def CircR (n:Nat) (ps:List (Int × Int)) (b:Bool):Prop:=(b=false→∃ L,Topo (rev ps) L∧∀ x,0≤x→x < (n:Int)→x ∈ L)∧((∃ l0,Topo ps l0∧∀ x,0≤x→x < (n:Int)→x ∈ l0)→b=false)
def ledAt (G:List Bool) (p:Int) (a:Int × Int):Bool:=a.2==p&&!(goneAt G a.1)
theorem info_bool:∃ i,Tryz.prog.info? 4=some i∧i.zero=some (.bool false)∧i.size=1∧i.bytes=1:=⟨_,rfl,by kernel_rfl,by kernel_rfl,by kernel_rfl⟩
theorem below_set {B:Nat} {a w:World} (h:Below B a w) {p:Addr} (hp:B≤p.block) (v:Value):Below B a (w.setCell p v):=h.setCell hp v
end Ev
theorem circle_any (n:Nat) (a:Option Addr) (c:Nat) (ps:List (Int × Int)) (hr:Ev.InR n ps) (w:World) (hin:Ev.PsIn w a c ps) :
 Calls Tryz.prog 37 #[.int .i64 (n:Int),.slice a ps.length c] w (Ev.CPost (Ev.CircR n ps) w):=by
 have HR:=qH hr;have HIN:=qH hin
 have hn64:n≤64:=by have:=hr.2.1;omega
 have hle:=hin.le;have hmax:=hin.max
 obtain⟨i0,hi,hz0,hz1,hz2⟩:=Ev.info_bool
 have hmk:∀ W:World,(Instr.makeSlice 85 (.int .i64 (n:Int)) (.int .i64 (n:Int))).run Tryz.prog W=.ok (.slice (some ⟨W.heap.size,0,none⟩) n n) (W.alloc (.cells ((List.replicate n false).map Value.bool).toArray 4)):=by
  intro W
  have:=run_make (P:=Tryz.prog) W 85 4 i0 (.bool false) Tryz.underlying85 hi hz0 .i64 .i64 (n:Int) (n:Int) (by omega) (by omega) (by rw [hz2];omega) (by omega)
  rw [this,hz1,Int.toNat_natCast]
  congr 3
  apply Array.toList_inj.1
  show(madeCells #[Value.bool false] (n * 1)).toList=_
  rw [toList_madeCells_one]
  simp
 have hmkh:=hmk w
 clear hr hin hi hz0 hz1 hz2 hmk
 go_enter Tryz.func37,Tryz.ntmps37
 go_wp2
 clear hmkh
 go_loopw [6,7,8,9] (fun i _ _ _ wr=>∃ r:Nat,r≤n∧i=.int .i64 (r:Int)∧∃ G,Ev.RoundEnd ps n r G∧Ev.GBlk wr w.heap.size G∧Below w.heap.size w wr) (fun i _ _ _ _=>n - (intOf i).toNat)
 case atStart=>exact⟨0,Nat.zero_le _,rfl,List.replicate n false,⟨Ev.GoneIn.start,fun _=>.inr (Nat.zero_le _)⟩,by unfold Ev.GBlk;rw [heap_alloc_new];simp,(Below.refl _ _).alloc (Nat.le_refl _) _⟩
 case round =>
  obtain⟨r,hrn,rfl,G,hre,hblk,hbr⟩:=hrel
  have HRE:=qH hre;have HBLK:=qH hblk;have HBR:=qH hbr
  clear hre hblk hbr
  by_cases hlt:r < n
  ·have hri:(r:Int) < (n:Int):=by omega
   go_wp2
   go_loopw [7,8,9] (fun i _ _ w2=>∃ k:Nat,k≤n∧i=.int .i64 (k:Int)∧∃ G',Ev.GoneIn ps n G'∧(∀ i,G.getD i false=true→G'.getD i false=true)∧(∀ j,j < k→(∀ q,(q,(j:Int)) ∈ ps→Ev.goneAt G q=true)→G'.getD j false=true)∧Ev.GBlk w2 w.heap.size G'∧Below w.heap.size w w2) (fun i _ _ _=>n - (intOf i).toNat)
   case atStart=>exact⟨0,Nat.zero_le _,rfl,G,HRE.out.1,fun _ h=>h,fun j hj=>absurd hj (by omega),HBLK.out,HBR.out⟩
   case round =>
    obtain⟨k,hk,rfl,G',hg,hsub,hdone,hblk2,hbr2⟩:=hrel
    have HG:=qH hg;have HSUB:=qH hsub;have HDONE:=qH hdone;have HB2:=qH hblk2;have HBR2:=qH hbr2
    clear hg hsub hdone hblk2 hbr2
    by_cases hkn:k < n
    ·have hki:(k:Int) < (n:Int):=by omega
     have HPS:=qH (HIN.out.kp (Ev.kp_below HBR2.out))
     go_wp2
     go_loop [8,9] (fun led i=>∃ m:Nat,m≤ps.length∧i=.int .i64 (m:Int)∧led=.bool ((ps.take m).any (Ev.ledAt G' (k:Int)))) (fun _ i=>ps.length - (intOf i).toNat)
     case atStart=>exact⟨0,Nat.zero_le _,rfl,rfl⟩
     case round =>
      obtain⟨m,hm,rfl,rfl⟩:=hrel
      by_cases hml:m < ps.length
      ·have hmi:(m:Int) < (ps.length:Int):=by omega
       obtain⟨p,hp⟩:∃ p,ps[m]?=some p:=⟨_,List.getElem?_eq_getElem hml⟩
       have htk:ps.take (m+1)=ps.take m++[p]:=by rw [List.take_add_one,hp];rfl
       obtain⟨gl,ol,ea,hcx⟩:=HPS.out.at_ hp
       have c0:=hcx 0 _ rfl
       have c1:=hcx 1 _ rfl
       rw [Nat.add_zero] at c0
       have hpr:=HR.out.2.2 p (List.mem_of_getElem? hp)
       obtain⟨an,han⟩:∃ an:Nat,p.1=an:=⟨p.1.toNat,by omega⟩
       have hal:an < n:=by omega
       have hcg:=HB2.out.cell (i:=an) (by rw [HG.out.1];exact hal)
       rw [han] at c0
       have hga:Ev.goneAt G' p.1=G'.getD an false:=by unfold Ev.goneAt;rw [han];simp
       have hani:(an:Int) < (n:Int):=by omega
       obtain⟨gv,hgv⟩:∃ b,G'.getD an false=b:=⟨_,rfl⟩
       rw [hgv] at hcg hga
       have hany:(ps.take (m+1)).any (Ev.ledAt G' (k:Int))=((ps.take m).any (Ev.ledAt G' (k:Int))||(p.2==(k:Int)&&!gv)):=by
        rw [htk,List.any_append];simp [Ev.ledAt,hga]
       obtain⟨led,hled⟩:∃ b,(ps.take m).any (Ev.ledAt G' (k:Int))=b:=⟨_,rfl⟩
       rw [hled] at hany ⊢
       have HANY:=qH hany
       clear hp htk hcx hpr hga hgv hled hany han
       rw [ea];clear ea
       cases led
       ·by_cases hpk:p.2=(k:Int)
        ·have hq:(p.2==(k:Int))=true:=by simp [hpk]
         have HQ:=qH hq
         clear hpk
         go_wp2
         go_round
         case rel=>exact⟨m+1,by omega,by go_num,by rw [HANY.out,HQ.out];rfl⟩
         case measure=>simp [intOf];omega
        ·have hq:(p.2==(k:Int))=false:=by simpa using hpk
         have HQ:=qH hq
         clear hpk
         go_wp2
         go_round
         case rel=>exact⟨m+1,by omega,by go_num,by rw [HANY.out,HQ.out];rfl⟩
         case measure=>simp [intOf];omega
       ·go_wp2
        go_round
        case rel=>exact⟨m+1,by omega,by go_num,by rw [HANY.out];rfl⟩
        case measure=>simp [intOf];omega
      ·have hme:m=ps.length:=by omega
       have hmi:¬ (m:Int) < (ps.length:Int):=by omega
       rw [hme,List.take_length]
       obtain⟨led,hled⟩:∃ b,ps.any (Ev.ledAt G' (k:Int))=b:=⟨_,rfl⟩
       rw [hled]
       have HLED:=qH hled
       clear hled hme
       cases led
       ·have hfree:∀ q,(q,(k:Int)) ∈ ps→Ev.goneAt G' q=true:=fun q hq=>by
         have:=HLED.out
         rw [List.any_eq_false] at this
         have:=this _ hq
         unfold Ev.ledAt at this
         simpa using this
        have HFREE:=qH hfree
        have hcell:=HB2.out.cell (i:=k) (by rw [HG.out.1];exact hkn)
        have hfz:=HB2.out.frozen k
        clear hfree
        go_wp2
        go_roundw
        case rel =>
         refine⟨k+1,by omega,by go_num,G'.set k true,HG.out.take HR.out hkn HFREE.out,fun i hi=>?_,fun j hj hq=>?_,HB2.out.set_ k,Ev.below_set HBR2.out (Nat.le_refl _) _⟩
         ·have h1:=HSUB.out i hi
          by_cases hik:i=k
          ·subst hik;simp [List.getD,show i < G'.length by rw [HG.out.1];exact hkn]
          ·simp only [List.getD,List.getElem?_set_ne (Ne.symm hik)];simpa [List.getD] using h1
         ·by_cases hjk:j=k
          ·subst hjk;simp [List.getD,show j < G'.length by rw [HG.out.1];exact hkn]
          ·have h1:=HDONE.out j (by omega) hq
           simp only [List.getD,List.getElem?_set_ne (Ne.symm hjk)];simpa [List.getD] using h1
        case measure=>simp [intOf];omega
       ·have hno:¬ ∀ q,(q,(k:Int)) ∈ ps→Ev.goneAt G q=true:=fun h=>by
         obtain⟨p,hp,hl⟩:=List.any_eq_true.1 HLED.out
         unfold Ev.ledAt at hl
         simp only [Bool.and_eq_true,beq_iff_eq] at hl
         have h1:=h p.1 (by rw [← hl.1];exact hp)
         have h2:Ev.goneAt G' p.1=true:=HSUB.out _ h1
         rw [h2] at hl;cases hl.2
        have HNO:=qH hno
        clear hno
        go_wp2
        go_roundw
        case rel =>
         refine⟨k+1,by omega,by go_num,G',HG.out,HSUB.out,fun j hj hq=>?_,HB2.out,HBR2.out⟩
         by_cases hjk:j=k
         ·subst hjk;exact absurd hq HNO.out
         ·exact HDONE.out j (by omega) hq
        case measure=>simp [intOf];omega
    ·have hke:k=n:=by omega
     have hki:¬ (k:Int) < (n:Int):=by omega
     have HRN:=qH (Ev.round_next HR.out HRE.out HG.out HSUB.out (fun j hj hq=>HDONE.out j (by omega) hq))
     clear hke
     go_wp2
     go_roundw
     case rel=>exact⟨r+1,by omega,by go_num,G',HRN.out,HB2.out,HBR2.out⟩
     case measure=>simp [intOf];omega
  ·have hre:r=n:=by omega
   have hri:¬ (r:Int) < (n:Int):=by omega
   have hres:=HRE.out
   rw [hre] at hres
   have HRES:=qH hres
   clear hre hres
   go_wp2
   go_loop [10] (fun i=>∃ k:Nat,k≤n∧i=.int .i64 (k:Int)∧∀ j,j < k→G.getD j false=true) (fun i=>n - (intOf i).toNat)
   case atStart=>exact⟨0,Nat.zero_le _,rfl,fun j hj=>absurd hj (by omega)⟩
   case round =>
    obtain⟨k,hk,rfl,hall⟩:=hrel
    have HALL:=qH hall;clear hall
    by_cases hkn:k < n
    ·have hki:(k:Int) < (n:Int):=by omega
     have hcell:=HBLK.out.cell (i:=k) (by rw [HRES.out.1.1];exact hkn)
     obtain⟨gv,hgv⟩:∃ b,G.getD k false=b:=⟨_,rfl⟩
     rw [hgv] at hcell
     have HGV:=qH hgv;clear hgv
     cases gv
     ·go_wp2
      go_ret
      refine Ev.CPost.mk true rfl ?_ HBR.out
      refine⟨fun h=>(by cases h),fun hA=>?_⟩
      exfalso
      rcases HRES.out.2 hA with h | h
      ·have:=h k hkn;rw [HGV.out] at this;cases this
      ·have:=Ev.all_of_cnt (by rw [HRES.out.1.1];exact h) k (by rw [HRES.out.1.1];exact hkn)
       rw [HGV.out] at this;cases this
     ·go_wp2
      go_round
      case rel =>
       refine⟨k+1,by omega,by go_num,fun j hj=>?_⟩
       by_cases hjk:j=k
       ·subst hjk;exact HGV.out
       ·exact HALL.out j (by omega)
      case measure=>simp [intOf];omega
    ·have hki:¬ (k:Int) < (n:Int):=by omega
     have hke:k=n:=by omega
     have HKE:=qH hke;clear hke
     go_wp2
     go_ret
     refine Ev.CPost.mk false rfl ?_ HBR.out
     refine⟨fun _=>?_,fun _=>rfl⟩
     obtain⟨hl,L,ht,hL⟩:=HRES.out.1
     exact⟨L,ht,fun x h0 hn=>(hL x h0 hn).1 (HALL.out x.toNat (by rw [HKE.out];omega))⟩
end Go.Proofs.YtnjnpbabgefaeaaGreat
end
section
namespace Go.Proofs.YtnjnpbabgefaeaaGreat
open Go.RowKit
end Go.Proofs.YtnjnpbabgefaeaaGreat
end
