import Derived.Test.YtnjnpbabgefaeaaGreatKp18
import Derived.Test.YtnjnpbabgefaeaaGreatKp11
import Derived.Test.YtnjnpbabgefaeaaGreatKp16
import Derived.Laws.AppendOwn
import Derived.Laws.AppendOwnNone
import Derived.Deep.AppendLies
import Derived.Test.YtnjnpbabgefaeaaGreatKp19
import Derived.Lib.SmallJoins
import Derived.Test.YtnjnpbabgefaeaaGreatKpH
set_option maxRecDepth 100000
set_option maxHeartbeats 4000000
set_option linter.unusedVariables false
set_option linter.unusedSimpArgs false
section
namespace Go.Proofs.YtnjnpbabgefaeaaGreat
open Go.RowKit
namespace Ev
theorem Addrs.skip {xs:List R} {l:List Int} {x:R} (h:Addrs xs l) (hk:x.k=4):Addrs (xs++[x]) l :=
 ⟨h.up,fun y=>by
   rw [h.mem y]
   constructor
   ·rintro⟨e,he,h1,h2⟩;exact⟨e,List.mem_append_left _ he,h1,h2⟩
   ·rintro⟨e,he,h1,h2⟩
    rcases List.mem_append.1 he with he | he
    ·exact⟨e,he,h1,h2⟩
    ·rw [List.mem_singleton.1 he] at h1;exact absurd hk h1⟩
theorem Addrs.has {xs:List R} {l:List Int} {x:R} (h:Addrs xs l) (hm:x.a ∈ l):Addrs (xs++[x]) l :=
 ⟨h.up,fun y=>by
   rw [h.mem y]
   constructor
   ·rintro⟨e,he,h1,h2⟩;exact⟨e,List.mem_append_left _ he,h1,h2⟩
   ·rintro⟨e,he,h1,h2⟩
    rcases List.mem_append.1 he with he | he
    ·exact⟨e,he,h1,h2⟩
    ·rw [List.mem_singleton.1 he] at h2;subst h2;exact(h.mem _).1 hm⟩
theorem Addrs.ins {xs:List R} {l:List Int} {x:R} (h:Addrs xs l) (hk:x.k≠4) (p:Nat) (hlo:∀ j,j < p→j < l.length→l.getD j 0 < x.a) (hhi:p < l.length→x.a < l.getD p 0):Addrs (xs++[x]) (l.take p++[x.a]++l.drop p):=by
 have lo:∀ b ∈ l.take p,b < x.a:=fun b hb=>by
  obtain⟨j,hj,rfl⟩:=List.mem_take_iff_getElem.1 hb
  have:=hlo j (by omega) (by omega)
  rwa [getD_get (by omega)] at this
 have hi:∀ b ∈ l.drop p,x.a < b:=fun b hb=>by
  obtain⟨j,hj,rfl⟩:=List.mem_drop_iff_getElem.1 hb
  have h1:=hhi (by omega)
  rw [getD_get (by omega)] at h1
  by_cases h0:j=0
  ·subst h0;simpa using h1
  ·have:=List.pairwise_iff_getElem.1 h.up p (p+j) (by omega) (by omega) (by omega)
   omega
 refine⟨?_,fun y=>?_⟩
 ·rw [List.append_assoc,List.pairwise_append]
  refine⟨h.up.sublist (List.take_sublist _ _),?_,fun a ha b hb=>?_⟩
  ·rw [List.singleton_append,List.pairwise_cons]
   exact⟨hi,h.up.sublist (List.drop_sublist _ _)⟩
  ·rw [List.singleton_append,List.mem_cons] at hb
   have:=lo a ha
   rcases hb with rfl | hb
   ·exact this
   ·have:=hi b hb;omega
 ·have hm:=h.mem y
  rw [← List.take_append_drop p l,List.mem_append] at hm
  simp only [List.mem_append,List.mem_singleton]
  constructor
  ·rintro((h1 | h1) | h1)
   ·obtain⟨e,he,h2⟩:=hm.1 (.inl h1);exact⟨e,.inl he,h2⟩
   ·exact⟨x,.inr rfl,hk,h1.symm⟩
   ·obtain⟨e,he,h2⟩:=hm.1 (.inr h1);exact⟨e,.inl he,h2⟩
  ·rintro⟨e,he | he,h1,h2⟩
   ·rcases hm.2 ⟨e,he,h1,h2⟩ with h3 | h3
    ·exact .inl (.inl h3)
    ·exact .inr h3
   ·subst he;exact .inl (.inr h2.symm)
theorem Addrs.nil:Addrs [] []:=⟨List.Pairwise.nil,fun y=>by simp⟩
def uv (l:List Int):List Value:=l.map (Value.int .u32)
theorem uv_one (l:List Int):∀ u ∈ uv l,u.oneCell'=true:=by
 intro u hu;obtain⟨n,_,rfl⟩:=List.mem_map.1 hu;rfl
theorem uv_get {l:List Int} {j:Nat} (h:j < l.length):(uv l)[j]?=some (.int .u32 (l.getD j 0)):=by
 unfold uv;rw [List.getElem?_map,List.getElem?_eq_getElem h,getD_get h];rfl
theorem own_base {w:World} {b b':Nat} {e:TypeId} {size n:Nat} {v:Value} {xs:List Value} (h:w.ownsRow b e size v n xs) (hb:b'≤b):w.ownsRow b' e size v n xs:=by
 obtain⟨h1,h2⟩:=h
 refine⟨h1,h2.imp id ?_⟩
 rintro⟨g,cap,cur,e1,e2,r⟩
 exact⟨g,cap,cur,e1,Nat.le_trans hb e2,r⟩
def AdPost (x:X) (w:World) (e:Ending) (w':World):Prop:=∃ (v:Value) (l:List Int),e=.returned v∧Addrs x.ev l∧w'.ownsRow w.heap.size 46 1 v l.length (uv l)∧Below w.heap.size w w'
theorem AdPost.mk {x:X} {w w':World} {e:Ending} (v:Value) (l:List Int) (h1:e=.returned v) (h2:Addrs x.ev l) (h3:w'.ownsRow w.heap.size 46 1 v l.length (uv l)) (h4:Below w.heap.size w w'):AdPost x w e w':=⟨v,l,h1,h2,h3,h4⟩
theorem news_take {w:World} {g q:Nat} {l:List Int} (h:∀ j,j < l.length→w.cell? ⟨g,j,none⟩=some (.int .u32 (l.getD j 0))) {j:Nat} {u:Value} (hu:(uv (l.take q))[j]?=some u):w.cell? ((⟨g,0,none⟩:Addr).add j)=some u:=by
 have hadd:(⟨g,0,none⟩:Addr).add j=⟨g,j,none⟩:=by unfold Addr.add;split <;> simp_all
 have hj:=(List.getElem?_eq_some_iff.1 hu).1
 unfold uv at hj;simp at hj
 have hjl:j < l.length:=by omega
 rw [hadd,h j hjl]
 unfold uv at hu
 rw [List.getElem?_map,List.getElem?_take_of_lt (by omega),List.getElem?_eq_getElem hjl] at hu
 rw [getD_get hjl];exact hu
theorem news_drop {w:World} {g q:Nat} {l:List Int} (h:∀ j,j < l.length→w.cell? ⟨g,j,none⟩=some (.int .u32 (l.getD j 0))) {j:Nat} {u:Value} (hu:(uv (l.drop q))[j]?=some u):w.cell? ((⟨g,q,none⟩:Addr).add j)=some u:=by
 have hadd:(⟨g,q,none⟩:Addr).add j=⟨g,q+j,none⟩:=by unfold Addr.add;split <;> simp_all
 have hj:=(List.getElem?_eq_some_iff.1 hu).1
 unfold uv at hj;simp at hj
 have hjl:q+j < l.length:=by omega
 rw [hadd,h (q+j) hjl]
 unfold uv at hu
 rw [List.getElem?_map,List.getElem?_drop,List.getElem?_eq_getElem hjl] at hu
 rw [getD_get hjl];exact hu
theorem cell_two {w w3 w5:World} {v1:Value} {n:Nat} {xs:List Value} {e:TypeId} {o:Obj} {p:Addr} {c:Value} (h1:w3.ownsRow w.heap.size e 1 v1 n xs) (g1:w.grownBy w3 none) (g2:(w3.alloc o).grownBy w5 v1.ownBlock) (hp:p.block < w.heap.size) (hc:w.cell? p=some c):w5.cell? p=some c:=by
 have c3:w3.cell? p=some c:=g1.cell hc (by simp)
 have c4:(w3.alloc o).cell? p=some c:=(World.grownBy_alloc w3 o none).cell c3 (by simp)
 refine g2.cell c4 fun e=>?_
 have:=(h1.lt _ e.symm).1
 omega
end Ev
theorem info_u32:∃ i:TypeInfo,Tryz.prog.info? 46=some i∧i.zero=some (.int .u32 0)∧i.size=1∧i.bytes=4:=⟨_,rfl,by kernel_rfl,by kernel_rfl,by kernel_rfl⟩
theorem raddrs_any (x:Ev.X) (hn64:x.ev.length≤64) (w:World) (hin:Ev.EvsIn w x.ae x.ce x.ev) :
 Calls Tryz.prog 28 #[Ev.exV x] w (Ev.AdPost x w):=by
 have hmax:=hin.max;have hle:=hin.le
 have HIN:=qH hin
 have R0:=qH (heap_alloc_new w (.cells (Ev.xcells x).toArray 26))
 have B0:=qH ((Below.refl w.heap.size w).alloc (Nat.le_refl _) (.cells (Ev.xcells x).toArray 26))
 have hsz:(w.alloc (.cells (Ev.xcells x).toArray 26)).heap.size=w.heap.size+1:=by simp only [World.size_alloc]
 have HSZ:=qH hsz
 obtain⟨i0,hi,hz0,hz1,hz2⟩:=info_u32
 have HI:=qH hi;have HZ0:=qH hz0;have HZ1:=qH hz1;have HZ2:=qH hz2;clear hi hz0 hz1 hz2
 clear hin hsz
 unfold Ev.exV Ev.xcells
 go_enter Tryz.func28,Tryz.ntmps28
 go_wp2
 go_loopw [3,4,5,6,7] (fun o i _ _ _ wr=>∃ (k:Nat) (l:List Int),k≤x.ev.length∧i=.int .i64 (k:Int)∧l.length≤k∧Ev.Addrs (x.ev.take k) l∧wr.ownsRow (w.heap.size+1) 46 1 o l.length (Ev.uv l)∧Below (w.heap.size+1) (w.alloc (.cells (Ev.xcells x).toArray 26)) wr) (fun _ i _ _ _ _=>x.ev.length - (intOf i).toNat)
 case atStart=>exact⟨0,[],Nat.zero_le _,rfl,Nat.le_refl _,Ev.Addrs.nil,World.ownsRow_nil _ _ _ _,Below.refl _ _⟩
 case round =>
  obtain⟨k,l,hk,rfl,hlk,had,hown,hbr⟩:=hrel
  have HBR:=qH hbr;have HAD:=qH had;have HOW:=qH hown
  have BW:=qH (B0.out.trans (hbr.mono (Nat.le_succ _)))
  have hws:w.heap.size+1≤wr.heap.size:=by have:=hbr.size;rw [HSZ.out] at this;exact this
  have HWS:=qH hws
  have cx:=Ev.xcell0 (Ev.exrow hbr)
  have cx':=cx
  clear hbr had hown hws
  by_cases hlt:k < x.ev.length
  ·obtain⟨y,hy⟩:∃ y,x.ev[k]?=some y:=⟨_,List.getElem?_eq_getElem hlt⟩
   obtain⟨g,o,ea,hcy⟩:=(HIN.out.kp (Ev.kp_below BW.out)).at_ hy
   have hki:(k:Int) < (x.ev.length:Int):=by omega
   have cyk:wr.cell? ⟨g,o+k * 13+1,none⟩=some (.int .i64 y.k):=hcy 1 _ rfl
   have cya:wr.cell? ⟨g,o+k * 13+2,none⟩=some (.int .u32 y.a):=hcy 2 _ rfl
   have HTK:=qH (show x.ev.take (k+1)=x.ev.take k++[y] by rw [List.take_add_one,hy];rfl)
   rw [ea] at cx
   clear ea hy hcy cx'
   by_cases hk4:y.k=4
   ·have t4:(y.k==4)=true:=by simpa using hk4
    have HA2:=qH (HAD.out.skip hk4)
    clear hk4
    go_wp2
    go_roundw
    case rel=>exact⟨k+1,l,by omega,by go_num,by omega,by rw [HTK.out];exact HA2.out,HOW.out,HBR.out⟩
    case measure=>simp [intOf];omega
   have t4:(y.k==4)=false:=by simpa using hk4
   have HK4:=qH hk4
   clear hk4
   have hcase:=HOW.out.2
   rcases hcase with ⟨rfl,hl0⟩ | ⟨gb,cap,cur,rfl,hge,hgg,hcl,hcm,_⟩
   ·have hnil:l=[]:=List.eq_nil_of_length_eq_zero hl0
    subst hnil
    have HA2:=qH (show Ev.Addrs (x.ev.take k++[y]) [y.a] from HAD.out.ins HK4.out 0 (fun j hj=>absurd hj (by omega)) (fun h=>absurd h (by simp)))
    clear hl0
    go_wp2
    go_loopw [6] (fun p w2=>p=.int .i64 0∧w2=wr) (fun p _=>0)
    case atStart=>exact⟨rfl,rfl⟩
    case round =>
     obtain⟨rfl,rfl⟩:=hrel
     go_wp2_with (first
      | ((with_reducible refine qG 57 ?_);refine wpList_append_own_none rfl (.const (.slice none 0 0)) (.tmp 56) 59 rfl wr.heap.size 46 i0 1 Tryz.underlying59 HI.out (.slice none 0 0) 0 [] rfl (World.ownsRow_nil _ _ _ _) rfl ?_)
      | ((with_reducible refine qG 60 ?_);refine wpList_append_own _ rfl (.tmp 57) (.tmp 59) 59 rfl wr.heap.size 46 i0 (.int .u32 0) 1 4 Tryz.underlying59 HI.out HZ0.out HZ1.out HZ2.out rfl (by decide) (.slice none 0 0) 0 [] rfl (World.ownsRow_nil _ _ _ _) ⟨wr.heap.size,0,none⟩ 1 1 (Ev.uv [y.a]) rfl rfl (fun j u hu=>World.news_of_block (heap_alloc_new wr _) j u hu) (Ev.uv_one _) (by unfold maxLen;omega) (by omega) (by simp only [World.size_alloc];omega) ?_
         intro v' w5 hown hgrow _
         have HOWN:=qH hown;have HGR:=qH hgrow;clear hown hgrow)
      | ((with_reducible refine qG 65 ?_);refine wpList_append_own_none rfl (.tmp 61) (.tmp 64) 59 rfl wr.heap.size 46 i0 1 Tryz.underlying59 HI.out v' (0+1) ([]++Ev.uv [y.a]) rfl HOWN.out rfl ?_))
     go_roundw
     case rel =>
      exact⟨k+1,[y.a],by omega,by go_num,by simp,by rw [HTK.out];exact HA2.out,Ev.own_base HOWN.out HWS.out,Below.grown (HBR.out.alloc HWS.out _) HGR.out (by simp only [World.size_alloc];have:=HWS.out;omega) (fun k hk=>by cases hk)⟩
     case measure=>simp [intOf];omega
   ·have hq0:wr.heap[gb]?=some (.cells cur 46 (0,0)):=hgg
    have hgl:gb < wr.heap.size:=(qL hgg)
    have cells:=HOW.out.cells (g:=gb) rfl
    have CELLS:=qH (show ∀ j,j < l.length→wr.cell? ⟨gb,j,none⟩=some (.int .u32 (l.getD j 0)) from fun j hj=>by
     have h:=cells j _ (Ev.uv_get hj)
     have hadd:(⟨gb,0,none⟩:Addr).add j=⟨gb,j,none⟩:=by unfold Addr.add;split <;> simp_all
     rwa [hadd] at h)
    have hci:(l.length:Int)≤(cap:Int):=by omega
    have hcm':cap≤9223372036854775807:=hcm
    have HGB:=qH hgg
    clear cells hgg hq0 hcm
    go_wp2
    go_loopw [6] (fun p w2=>∃ q:Nat,q≤l.length∧p=.int .i64 (q:Int)∧(∀ j,j < q→l.getD j 0 < y.a)∧w2=wr) (fun p _=>l.length - (intOf p).toNat)
    case atStart=>exact⟨0,Nat.zero_le _,rfl,fun j hj=>absurd hj (by omega),rfl⟩
    case round =>
     obtain⟨q,hq,rfl,hlo,rfl⟩:=hrel
     have HLO:=qH hlo;clear hlo
     by_cases hql:q < l.length
     ·obtain⟨b,hb⟩:∃ b,l.getD q 0=b:=⟨_,rfl⟩
      have cq:=CELLS.out q hql
      rw [hb] at cq
      have HB:=qH hb;clear hb
      have hqi:(q:Int) < (l.length:Int):=by omega
      by_cases hba:b < y.a
      ·have tb:decide (b < y.a)=true:=decide_eq_true hba
       have HBA:=qH hba;clear hba
       go_wp2
       refine⟨⟨q+1,by omega,by go_num,fun j hj=>?_,by first | rfl | trivial⟩,by simp [intOf];omega⟩
       rcases Nat.lt_or_eq_of_le (Nat.le_of_lt_succ hj) with h | h
       ·exact HLO.out j h
       ·subst h;rw [HB.out];exact HBA.out
      have tb:decide (b < y.a)=false:=decide_eq_false hba
      by_cases hbe:b=y.a
      ·have te:(b==y.a)=true:=by simpa using hbe
       have HA2:=qH (HAD.out.has (by rw [← hbe,← HB.out,Ev.getD_get hql];exact List.getElem_mem hql))
       clear hbe hba
       go_wp2
       go_roundw
       case rel=>exact⟨k+1,l,by omega,by go_num,by omega,by rw [HTK.out];exact HA2.out,HOW.out,HBR.out⟩
       case measure=>simp [intOf];omega
      have te:(b==y.a)=false:=by simpa using hbe
      have HA2:=qH (HAD.out.ins HK4.out q (fun j hj _=>HLO.out j hj) (fun _=>by rw [HB.out];omega))
      clear hbe hba
      have hqc:(q:Int)≤(cap:Int):=by omega
      go_wp2_with (first
       | ((with_reducible refine qG 57 ?_);refine wpList_append_own _ rfl (.const (.slice none 0 0)) (.tmp 56) 59 rfl wr.heap.size 46 i0 (.int .u32 0) 1 4 Tryz.underlying59 HI.out HZ0.out HZ1.out HZ2.out rfl (by decide) (.slice none 0 0) 0 [] rfl (World.ownsRow_nil _ _ _ _) ⟨gb,0,none⟩ q _ (Ev.uv (l.take q)) rfl (by unfold Ev.uv;simp;omega) (fun j u hu=>Ev.news_take CELLS.out hu) (Ev.uv_one _) (by unfold maxLen;omega) (by omega) (Nat.le_refl _) ?_
          intro v1 w3 hown hgrow _
          have HOWN1:=qH hown;have HGR1:=qH hgrow;clear hown hgrow)
       | ((with_reducible refine qG 60 ?_);refine wpList_append_own _ rfl (.tmp 57) (.tmp 59) 59 rfl wr.heap.size 46 i0 (.int .u32 0) 1 4 Tryz.underlying59 HI.out HZ0.out HZ1.out HZ2.out rfl (by decide) v1 (0+q) ([]++Ev.uv (l.take q)) rfl (HOWN1.out.alloc _) ⟨w3.heap.size,0,none⟩ 1 1 (Ev.uv [y.a]) rfl rfl (fun j u hu=>World.news_of_block (heap_alloc_new w3 _) j u hu) (Ev.uv_one _) (by unfold maxLen;omega) (by omega) (by simp only [World.size_alloc];have:=HGR1.out.size;omega) ?_
          intro v2 w5 hown hgrow _
          have HOWN2:=qH hown;have HGR2:=qH hgrow;clear hown hgrow
          have C5:=qH (show ∀ j,j < l.length→w5.cell? ⟨gb,j,none⟩=some (.int .u32 (l.getD j 0)) from fun j hj=>Ev.cell_two HOWN1.out HGR1.out HGR2.out (qL HGB.out) (CELLS.out j hj)))
       | ((with_reducible refine qG 65 ?_);refine wpList_append_own _ rfl (.tmp 61) (.tmp 64) 59 rfl wr.heap.size 46 i0 (.int .u32 0) 1 4 Tryz.underlying59 HI.out HZ0.out HZ1.out HZ2.out rfl (by decide) v2 (0+q+1) ([]++Ev.uv (l.take q)++Ev.uv [y.a]) rfl HOWN2.out ⟨gb,q,none⟩ (l.length - q) (cap - q) (Ev.uv (l.drop q)) rfl (by unfold Ev.uv;simp) (fun j u hu=>Ev.news_drop C5.out hu) (Ev.uv_one _) (by unfold maxLen;omega) (by omega) (by have h1:=HGR1.out.size;have h2:=HGR2.out.size;simp only [World.size_alloc] at h2;omega) ?_
          intro v3 w6 hown hgrow _
          have HOWN3:=qH hown;have HGR3:=qH hgrow;clear hown hgrow))
      have HS3:=qH (show wr.heap.size≤w3.heap.size∧wr.heap.size≤w5.heap.size by
       have h1:=HGR1.out.size;have h2:=HGR2.out.size;simp only [World.size_alloc] at h2;constructor <;> omega)
      have HEND:=qH (show Below (w.heap.size+1) (w.alloc (.cells (Ev.xcells x).toArray 26)) w6 by
       have h0:=HWS.out;have h1:=HS3.out.1;have h2:=HS3.out.2
       have b1:=Below.grown HBR.out HGR1.out h0 (fun k hk=>by cases hk)
       have b2:=Below.grown (b1.alloc (by omega) _) HGR2.out (by simp only [World.size_alloc];omega) (fun k hk=>by have:=(HOWN1.out.lt k hk).1;omega)
       exact Below.grown b2 HGR3.out (by omega) (fun k hk=>by have:=(HOWN2.out.lt k hk).1;omega))
      have HLEN:=qH (show(l.take q++[y.a]++l.drop q).length=0+q+1+(l.length - q) by simp;omega)
      go_roundw
      case rel =>
       refine⟨k+1,l.take q++[y.a]++l.drop q,by omega,by go_num,by rw [HLEN.out];omega,by rw [HTK.out];exact HA2.out,?_,HEND.out⟩
       rw [HLEN.out]
       have:=Ev.own_base HOWN3.out HWS.out
       have e:Ev.uv (l.take q++[y.a]++l.drop q)=[]++Ev.uv (l.take q)++Ev.uv [y.a]++Ev.uv (l.drop q):=by unfold Ev.uv;simp
       rw [e];exact this
      case measure=>simp [intOf];omega
     ·have hqi:¬ (q:Int) < (l.length:Int):=by omega
      have HA2:=qH (HAD.out.ins HK4.out q (fun j hj _=>HLO.out j hj) (fun h=>absurd h hql))
      have HDN:=qH (show l.drop q=[] from List.drop_eq_nil_of_le (by omega))
      clear hql
      have hqc:(q:Int)≤(cap:Int):=by omega
      by_cases hcq:q=cap
      ·subst hcq
       go_wp2_with (first
        | ((with_reducible refine qG 57 ?_);refine wpList_append_own _ rfl (.const (.slice none 0 0)) (.tmp 56) 59 rfl wr.heap.size 46 i0 (.int .u32 0) 1 4 Tryz.underlying59 HI.out HZ0.out HZ1.out HZ2.out rfl (by decide) (.slice none 0 0) 0 [] rfl (World.ownsRow_nil _ _ _ _) ⟨gb,0,none⟩ q _ (Ev.uv (l.take q)) rfl (by unfold Ev.uv;simp;omega) (fun j u hu=>Ev.news_take CELLS.out hu) (Ev.uv_one _) (by unfold maxLen;omega) (by omega) (Nat.le_refl _) ?_
           intro v1 w3 hown hgrow _
           have HOWN1:=qH hown;have HGR1:=qH hgrow;clear hown hgrow)
        | ((with_reducible refine qG 60 ?_);refine wpList_append_own _ rfl (.tmp 57) (.tmp 59) 59 rfl wr.heap.size 46 i0 (.int .u32 0) 1 4 Tryz.underlying59 HI.out HZ0.out HZ1.out HZ2.out rfl (by decide) v1 (0+q) ([]++Ev.uv (l.take q)) rfl (HOWN1.out.alloc _) ⟨w3.heap.size,0,none⟩ 1 1 (Ev.uv [y.a]) rfl rfl (fun j u hu=>World.news_of_block (heap_alloc_new w3 _) j u hu) (Ev.uv_one _) (by unfold maxLen;omega) (by omega) (by simp only [World.size_alloc];have:=HGR1.out.size;omega) ?_
           intro v2 w5 hown hgrow _
           have HOWN2:=qH hown;have HGR2:=qH hgrow;clear hown hgrow
           have C5:=qH (show ∀ j,j < l.length→w5.cell? ⟨gb,j,none⟩=some (.int .u32 (l.getD j 0)) from fun j hj=>Ev.cell_two HOWN1.out HGR1.out HGR2.out (qL HGB.out) (CELLS.out j hj)))
        | ((with_reducible refine qG 65 ?_);refine wpList_append_own _ rfl (.tmp 61) (.tmp 64) 59 rfl wr.heap.size 46 i0 (.int .u32 0) 1 4 Tryz.underlying59 HI.out HZ0.out HZ1.out HZ2.out rfl (by decide) v2 (0+q+1) ([]++Ev.uv (l.take q)++Ev.uv [y.a]) rfl HOWN2.out ⟨gb,0,none⟩ 0 _ [] rfl rfl (fun j u hu=>absurd hu (by simp)) (fun u hu=>by cases hu) (by unfold maxLen;omega) (by omega) (by have h1:=HGR1.out.size;have h2:=HGR2.out.size;simp only [World.size_alloc] at h2;omega) ?_
           intro v3 w6 hown hgrow _
           have HOWN3:=qH hown;have HGR3:=qH hgrow;clear hown hgrow))
       have HS3:=qH (show wr.heap.size≤w3.heap.size∧wr.heap.size≤w5.heap.size by
        have h1:=HGR1.out.size;have h2:=HGR2.out.size;simp only [World.size_alloc] at h2;constructor <;> omega)
       have HEND:=qH (show Below (w.heap.size+1) (w.alloc (.cells (Ev.xcells x).toArray 26)) w6 by
        have h0:=HWS.out;have h1:=HS3.out.1;have h2:=HS3.out.2
        have b1:=Below.grown HBR.out HGR1.out h0 (fun k hk=>by cases hk)
        have b2:=Below.grown (b1.alloc (by omega) _) HGR2.out (by simp only [World.size_alloc];omega) (fun k hk=>by have:=(HOWN1.out.lt k hk).1;omega)
        exact Below.grown b2 HGR3.out (by omega) (fun k hk=>by have:=(HOWN2.out.lt k hk).1;omega))
       have HLEN:=qH (show(l.take q++[y.a]++l.drop q).length=0+q+1+0 by rw [HDN.out];simp;omega)
       go_roundw
       case rel =>
        refine⟨k+1,l.take q++[y.a]++l.drop q,by omega,by go_num,by rw [HLEN.out];omega,by rw [HTK.out];exact HA2.out,?_,HEND.out⟩
        rw [HLEN.out]
        have:=Ev.own_base HOWN3.out HWS.out
        have e:Ev.uv (l.take q++[y.a]++l.drop q)=[]++Ev.uv (l.take q)++Ev.uv [y.a]++[]:=by rw [HDN.out];unfold Ev.uv;simp
        rw [e];exact this
       case measure=>simp [intOf];omega
      ·have hqlt:(q:Int) < (cap:Int):=by omega
       go_wp2_with (first
        | ((with_reducible refine qG 57 ?_);refine wpList_append_own _ rfl (.const (.slice none 0 0)) (.tmp 56) 59 rfl wr.heap.size 46 i0 (.int .u32 0) 1 4 Tryz.underlying59 HI.out HZ0.out HZ1.out HZ2.out rfl (by decide) (.slice none 0 0) 0 [] rfl (World.ownsRow_nil _ _ _ _) ⟨gb,0,none⟩ q _ (Ev.uv (l.take q)) rfl (by unfold Ev.uv;simp;omega) (fun j u hu=>Ev.news_take CELLS.out hu) (Ev.uv_one _) (by unfold maxLen;omega) (by omega) (Nat.le_refl _) ?_
           intro v1 w3 hown hgrow _
           have HOWN1:=qH hown;have HGR1:=qH hgrow;clear hown hgrow)
        | ((with_reducible refine qG 60 ?_);refine wpList_append_own _ rfl (.tmp 57) (.tmp 59) 59 rfl wr.heap.size 46 i0 (.int .u32 0) 1 4 Tryz.underlying59 HI.out HZ0.out HZ1.out HZ2.out rfl (by decide) v1 (0+q) ([]++Ev.uv (l.take q)) rfl (HOWN1.out.alloc _) ⟨w3.heap.size,0,none⟩ 1 1 (Ev.uv [y.a]) rfl rfl (fun j u hu=>World.news_of_block (heap_alloc_new w3 _) j u hu) (Ev.uv_one _) (by unfold maxLen;omega) (by omega) (by simp only [World.size_alloc];have:=HGR1.out.size;omega) ?_
           intro v2 w5 hown hgrow _
           have HOWN2:=qH hown;have HGR2:=qH hgrow;clear hown hgrow
           have C5:=qH (show ∀ j,j < l.length→w5.cell? ⟨gb,j,none⟩=some (.int .u32 (l.getD j 0)) from fun j hj=>Ev.cell_two HOWN1.out HGR1.out HGR2.out (qL HGB.out) (CELLS.out j hj)))
        | ((with_reducible refine qG 65 ?_);refine wpList_append_own _ rfl (.tmp 61) (.tmp 64) 59 rfl wr.heap.size 46 i0 (.int .u32 0) 1 4 Tryz.underlying59 HI.out HZ0.out HZ1.out HZ2.out rfl (by decide) v2 (0+q+1) ([]++Ev.uv (l.take q)++Ev.uv [y.a]) rfl HOWN2.out ⟨gb,q,none⟩ (l.length - q) _ (Ev.uv (l.drop q)) rfl (by unfold Ev.uv;simp) (fun j u hu=>by rw [HDN.out] at hu;exact absurd hu (by simp [Ev.uv])) (Ev.uv_one _) (by unfold maxLen;omega) (by omega) (by have h1:=HGR1.out.size;have h2:=HGR2.out.size;simp only [World.size_alloc] at h2;omega) ?_
           intro v3 w6 hown hgrow _
           have HOWN3:=qH hown;have HGR3:=qH hgrow;clear hown hgrow))
       have HS3:=qH (show wr.heap.size≤w3.heap.size∧wr.heap.size≤w5.heap.size by
        have h1:=HGR1.out.size;have h2:=HGR2.out.size;simp only [World.size_alloc] at h2;constructor <;> omega)
       have HEND:=qH (show Below (w.heap.size+1) (w.alloc (.cells (Ev.xcells x).toArray 26)) w6 by
        have h0:=HWS.out;have h1:=HS3.out.1;have h2:=HS3.out.2
        have b1:=Below.grown HBR.out HGR1.out h0 (fun k hk=>by cases hk)
        have b2:=Below.grown (b1.alloc (by omega) _) HGR2.out (by simp only [World.size_alloc];omega) (fun k hk=>by have:=(HOWN1.out.lt k hk).1;omega)
        exact Below.grown b2 HGR3.out (by omega) (fun k hk=>by have:=(HOWN2.out.lt k hk).1;omega))
       have HLEN:=qH (show(l.take q++[y.a]++l.drop q).length=0+q+1+(l.length - q) by simp;omega)
       go_roundw
       case rel =>
        refine⟨k+1,l.take q++[y.a]++l.drop q,by omega,by go_num,by rw [HLEN.out];omega,by rw [HTK.out];exact HA2.out,?_,HEND.out⟩
        rw [HLEN.out]
        have:=Ev.own_base HOWN3.out HWS.out
        have e:Ev.uv (l.take q++[y.a]++l.drop q)=[]++Ev.uv (l.take q)++Ev.uv [y.a]++Ev.uv (l.drop q):=by unfold Ev.uv;simp
        rw [e];exact this
       case measure=>simp [intOf];omega
  ·have hki:¬ (k:Int) < (x.ev.length:Int):=by omega
   have HE:=qH (show Ev.Addrs x.ev l by have:=HAD.out;rwa [List.take_of_length_le (by omega)] at this)
   clear cx'
   go_wp2
   go_ret
   exact Ev.AdPost.mk _ l rfl HE.out (Ev.own_base HOW.out (Nat.le_succ _)) BW.out
end Go.Proofs.YtnjnpbabgefaeaaGreat
end
section
namespace Go.Proofs.YtnjnpbabgefaeaaGreat
open Go.Joins Go.ChangeShapes Go.WideShapes Go.ChangeAt Go.RowKit Go.Deep
section
variable {H:Type} {enc:TypeId × Value→H} {W:World}
theorem ints_in {fuel:Nat} {c:Value} {y:DataW H × List MemPlace} (h:DataW.trod enc Tryz.prog W 0 (fun _=>true) true fuel 23 [c]=some y) :
 ∃ s:Ev.Sl,c=.slice s.a s.l.length s.c∧Ev.IntsIn W s:=by
 rcases open_ints Tryz.underlying23 Tryz.underlying3 cellsInt h with ⟨hcs,_⟩ | ⟨a,len,cap,zs,hcs,_⟩
 ·obtain rfl:c=_:=by simpa using hcs
  obtain⟨xs,hl,hi⟩:=open_numbers (d0:=y.1) (p:=y.2) ⟨fuel,by simpa [Value.cells] using h⟩
  exact⟨⟨none,0,xs⟩,by simp [hl],hi⟩
 ·obtain rfl:c=_:=by simpa using hcs
  obtain⟨xs,hl,hi⟩:=open_numbers (d0:=y.1) (p:=y.2) ⟨fuel,by simpa [Value.cells] using h⟩
  exact⟨⟨some a,cap,xs⟩,by simp [hl],hi⟩
end
end Go.Proofs.YtnjnpbabgefaeaaGreat
end
