import Derived.Test.YtnjnpbabgefaeaaGreatKp07
import Derived.Test.YtnjnpbabgefaeaaGreatKp08
import Derived.Deep.QuietTactic
import Derived.Laws.Rows
import Derived.Maps.OwnRows
import Derived.Maps.Range
import Derived.Laws.AppendOwn
import Derived.Maps.AppendAt
import Derived.Test.YtnjnpbabgefaeaaGreatKp09
import Derived.Test.YtnjnpbabgefaeaaGreatKpH
set_option maxRecDepth 100000
set_option maxHeartbeats 4000000
set_option linter.unusedVariables false
set_option linter.unusedSimpArgs false
section
namespace Go.Proofs.YtnjnpbabgefaeaaGreat
open Go.RowKit Go.Maps
namespace Ev
def isSt (x:Int) (e:R):Bool:=stores e.k&&e.a==x
def cnt (xs:List R) (x:Int):Nat:=(xs.filter (isSt x)).length
def beg (xs:List R):Nat:=(xs.filter fun e=>e.k==5).length
def orderAt (xs:List R) (od:List Sl) (b:Nat):Bool:=match od[b]? with | some s=>s.l.length==cnt xs (nth xs b).a&&s.l.getD 0 0==b&&onceOk xs s.l | none=>false
def orderOk (xs:List R) (od:List Sl):Bool:=od.length==beg xs&&(List.range od.length).all (orderAt xs od)
structure CntIs (w:World) (b n:Nat) (xs:List R):Prop where
 ex:∃ D:DataW Unit,w.ownsMap Tryz.prog 46 (plainElem Tryz.prog 3) b n D∧∀ x,u32B x→D.atKey (.int .u32 x) (.lit (.int .i64 0))=.lit (.int .i64 (cnt xs x:Nat))
theorem cnt_snoc (xs:List R) (x:R) (y:Int):cnt (xs++[x]) y=cnt xs y+if stores x.k=true∧x.a=y then 1 else 0:=by
 unfold cnt isSt
 rw [List.filter_append]
 by_cases h:stores x.k=true∧x.a=y
 ·simp [h.1,h.2]
 ·rw [if_neg h]
  have:([x].filter fun e=>stores e.k&&e.a==y)=[]:=by
   simp only [List.filter_cons,List.filter_nil]
   split
   ·rename_i h2;simp at h2;exact absurd h2 h
   ·rfl
  rw [this];simp
theorem cnt_le (xs:List R) (y:Int):cnt xs y≤xs.length:=List.length_filter_le _ _
theorem beg_le (xs:List R):beg xs≤xs.length:=List.length_filter_le _ _
theorem beg_snoc (xs:List R) (x:R):beg (xs++[x])=beg xs+if x.k=5 then 1 else 0:=by
 unfold beg
 rw [List.filter_append]
 by_cases h:x.k=5 <;> simp [h,List.filter_cons]
theorem cnt_step {D:DataW Unit} {xs:List R} {x:R} (hm:IsMap D) (hs:stores x.k=true) (hD:∀ y,u32B y→D.atKey (.int .u32 y) (.lit (.int .i64 0))=.lit (.int .i64 (cnt xs y:Nat))) (y:Int) (hy:u32B y) :
 (D.put (.int .u32 x.a) (.lit (.int .i64 ((cnt xs x.a:Nat)+1:Int)))).atKey (.int .u32 y) (.lit (.int .i64 0))=.lit (.int .i64 (cnt (xs++[x]) y:Nat)):=by
 rw [cnt_snoc]
 by_cases h:y=x.a
 ·subst h
  rw [Maps.atKey_put_same hm (iskey_int _ _)];simp [hs]
 ·rw [Maps.atKey_put_other (by intro e;injection e with _ e;exact h e),hD y hy,if_neg (fun e=>h e.2.symm)];simp
theorem cnt_pos {xs:List R} {k:Nat} {x:R} (hk:xs[k]?=some x) (hs:stores x.k=true):0 < cnt xs x.a:=by
 unfold cnt
 exact List.length_pos_of_mem (List.mem_filter.2 ⟨List.mem_of_getElem? hk,by unfold isSt;simp [hs]⟩)
end Ev
theorem order_any (a:Option Addr) (c:Nat) (xs:List Ev.R) (ao:Option Addr) (co:Nat) (od:List Ev.Sl) (hpre:∀ b,b < Ev.beg xs→∃ x,xs[b]?=some x∧x.k=5) (w:World) (hin:Ev.EvsIn w a c xs) (ho:Ev.OdIn w ao co od) :
 Calls Tryz.prog 73 #[.slice a xs.length c,.slice ao od.length co] w fun e w'=>e=.returned (.bool (Ev.orderOk xs od))∧Below w.heap.size w w':=by
 have hmax:=hin.max;have hle:=hin.le;have hom:=ho.max;have hol:=ho.le
 have HIN:=qH hin;have HO:=qH ho;have HPRE:=qH hpre;clear hin ho hpre
 have hmm:=@run_makeMap Tryz.prog
 go_enter Tryz.func73,Tryz.ntmps73
 go_wp2
 go_loopw [6,14] (fun b i wr=>∃ k:Nat,k≤xs.length∧i=.int .i64 (k:Int)∧b=.int .i64 (Ev.beg (xs.take k):Int)∧Ev.CntIs wr w.heap.size k (xs.take k)∧Below w.heap.size w wr) (fun _ i _=>xs.length - (intOf i).toNat)
 case atStart=>exact⟨0,Nat.zero_le _,rfl,rfl,⟨⟨_,World.ownsMap_made _ _ _ _,fun x _=>rfl⟩⟩,(Below.refl _ _).alloc (Nat.le_refl _) _⟩
 case round =>
  obtain⟨k,hk,rfl,rfl,hcnt,hbr⟩:=hrel
  have HBR:=qH hbr;have HCNT:=qH hcnt;clear hbr hcnt
  by_cases hlt:k < xs.length
  ·obtain⟨x,hx⟩:∃ x,xs[k]?=some x:=⟨_,List.getElem?_eq_getElem hlt⟩
   have htk:xs.take (k+1)=xs.take k++[x]:=by rw [List.take_add_one,hx];rfl
   obtain⟨g,o,ea,hcx⟩:=(HIN.out.kp (Ev.kp_below HBR.out)).at_ hx
   have hxa:=(HIN.out.ok_ hx).a
   have HC:=qH hcx;have HTK:=qH htk;have HXA:=qH hxa
   have hki:(k:Int) < (xs.length:Int):=by omega
   have hbl:=Ev.beg_le (xs.take k)
   have hbl2:(Ev.beg (xs.take k):Int)≤(k:Int):=by rw [List.length_take] at hbl;omega
   obtain⟨nb,hnb⟩:∃ nb:Nat,nb=Ev.beg (xs.take k):=⟨_,rfl⟩
   rw [← hnb] at hbl2 ⊢
   have HNB:=qH hnb
   have HEA:=qH ea
   clear hx htk hcx hxa hbl hnb
   rw [ea];clear ea
   go_wp2_with (first
    | (show wpList _ _ _ (Oper.mk (some 17) _ _ _ _ _ :: _) _ _;refine wpList_load_at rfl 48 (.tmp 16) rfl g (o+k * 13) rfl (Ev.cells x) _ HC.out Tryz.underlying48 rfl (by kernel_rfl) ?_)
    | (show wpList _ _ _ (Oper.mk none (Op.store 48 _ _) _ _ _ _ :: _) _ _;refine wpList_store_own rfl 48 (.tmp 8) (.tmp 17) rfl wr.heap.size (Ev.cells x).toArray rfl rfl 48 (Ev.cells Ev.R0).toArray (heap_alloc_new _ _) (by kernel_rfl) (by kernel_rfl) (by kernel_rfl) ?_
       intro W1 HW1
       have B1:=qH (((Below.refl wr.heap.size wr).alloc (Nat.le_refl _) _).trans HW1.below)
       have RW:=qH HW1.row
       clear HW1)
    | (show wpList _ _ _ (Oper.mk (some 18) _ _ _ _ _ :: _) _ _;refine wpList_load_row rfl 48 (.tmp 8) rfl wr.heap.size (by kernel_rfl) 48 (Ev.cells x).toArray (0,0) _ RW.out Tryz.underlying48 rfl (by kernel_rfl) ?_))
   refine(stores_any x _).mono ?_
   rintro e W2 ⟨rfl,hb2⟩
   have RW2:=qH ((hb2.block wr.heap.size (qL RW.out)).trans RW.out)
   have B2:=qH (B1.out.trans (hb2.mono B1.out.size));clear hb2
   have c2:W2.cell? ⟨wr.heap.size,2,none⟩=some (.int .u32 x.a):=by rw [qC RW2.out];rfl
   obtain⟨D,hown,hD⟩:=HCNT.out.ex
   have hown2:=hown.kept (World.grownBy.but_of B2.out) (by simp)
   have HOWN:=qH hown2;have HD:=qH hD
   have HKEY:=qH (keyOf_int_mk (P:=Tryz.prog) Tryz.underlying46 (wf_of_u32 HXA.out))
   have hcl:=Ev.cnt_le (xs.take k) x.a
   have hcl2:(Ev.cnt (xs.take k) x.a:Int)≤(k:Int):=by rw [List.length_take] at hcl;omega
   clear hown hD hown2 hcl
   obtain⟨b,hb⟩:∃ b,Ev.stores x.k=b:=⟨_,rfl⟩
   have HSB:=qH hb
   rw [hb];clear hb
   cases b
   ·have h5:(x.k==5)=false:=by
     have:=HSB.out;unfold Ev.stores at this;simp at this ⊢;omega
    have c1:W2.cell? ⟨wr.heap.size,1,none⟩=some (.int .i64 x.k):=by rw [qC RW2.out];rfl
    have H5:=qH h5
    go_wp2_with fail
    go_roundw
    case rel =>
     refine⟨k+1,by omega,by go_num,?_,?_,HBR.out.trans (B2.out.mono HBR.out.size)⟩
     ·rw [HTK.out,Ev.beg_snoc,← HNB.out];have:=H5.out;simp at this;simp [this]
     ·rw [HTK.out]
      refine⟨⟨D,HOWN.out.mono (Nat.le_succ _),fun y hy=>?_⟩⟩
      rw [HD.out y hy,Ev.cnt_snoc,HSB.out];simp
    case measure=>simp [intOf];omega
   ·have STEP:=qH (Ev.cnt_step (x:=x) (HOWN.out.isMap) HSB.out HD.out)
    have HAT:=qH (HD.out x.a HXA.out)
    have hwf:(Lit.int .i64 ((Ev.cnt (xs.take k) x.a:Nat)+1:Int)).wf=true:=wf_of_i64 ⟨by omega,by omega⟩
    have HWF:=qH hwf;clear hwf
    obtain⟨n,hn⟩:∃ n:Nat,n=Ev.cnt (xs.take k) x.a:=⟨_,rfl⟩
    have HN:=qH hn
    rw [← hn] at hcl2
    clear hn
    have hlk:(Instr.lookup 130 (.map (some w.heap.size)) (.int .u32 x.a) false).run Tryz.prog W2=.ok (.int .i64 (n:Int)) W2:=by
     obtain⟨c',hrun,hat',_⟩:=HOWN.out.lookup_int law_u32 Tryz.underlying130 Tryz.underlying3 (zero_int _) HKEY.out
     rw [HAT.out] at hat'
     have e2:=(Lit.int.inj (DataW.lit.inj hat')).2
     rw [hrun,← e2,HN.out]
    have HLK:=qH hlk;clear hlk
    by_cases h5:x.k=5
    ·have h5b:(x.k==5)=true:=by simp [h5]
     have H5:=qH h5;clear h5
     have hlk:=HLK.out
     go_wp2_with (at_mapUpdate;clear hlk;refine wpList_mapUpdate_own _ rfl _ _ _ 130 rfl 46 3 law_u32 Tryz.underlying130 _ w.heap.size k D rfl HOWN.out (by unfold maxLen;omega) _ _ _ rfl rfl HKEY.out _ [] (plainElem_int Tryz.underlying3 (by rw [HN.out];exact HWF.out)) ?_
                  intro w1 hown1 hgrow1
                  have c1:w1.cell? ⟨wr.heap.size,1,none⟩=some (.int .i64 x.k):=by
                   have hlt2:=(qL RW2.out)
                   have hne:wr.heap.size≠w.heap.size:=by have:=HCNT.out.ex;obtain⟨D',h1,_⟩:=this;have:=h1.lt;omega
                   rw [qC ((hgrow1.block wr.heap.size hlt2 (by intro e;injection e with e;exact hne e)).trans RW2.out)];rfl
                  have HO1:=qH hown1
                  have HG1:=qH hgrow1
                  clear hown1 hgrow1)
     go_roundw
     case rel =>
      refine⟨k+1,by omega,by go_num,?_,?_,(HBR.out.trans (B2.out.mono HBR.out.size)).grown HG1.out (Nat.le_trans HBR.out.size B2.out.size) (fun j hj=>by cases hj;exact Nat.le_refl _)⟩
      ·rw [HTK.out,Ev.beg_snoc,← HNB.out,if_pos H5.out];go_num
      ·rw [HTK.out]
       refine⟨⟨_,HO1.out,fun y hy=>?_⟩⟩
       rw [HN.out];exact STEP.out y hy
     case measure=>simp [intOf];omega
    ·have h5b:(x.k==5)=false:=by simpa using h5
     have H5:=qH h5;clear h5
     have hlk:=HLK.out
     go_wp2_with (at_mapUpdate;clear hlk;refine wpList_mapUpdate_own _ rfl _ _ _ 130 rfl 46 3 law_u32 Tryz.underlying130 _ w.heap.size k D rfl HOWN.out (by unfold maxLen;omega) _ _ _ rfl rfl HKEY.out _ [] (plainElem_int Tryz.underlying3 (by rw [HN.out];exact HWF.out)) ?_
                  intro w1 hown1 hgrow1
                  have c1:w1.cell? ⟨wr.heap.size,1,none⟩=some (.int .i64 x.k):=by
                   have hlt2:=(qL RW2.out)
                   have hne:wr.heap.size≠w.heap.size:=by have:=HCNT.out.ex;obtain⟨D',h1,_⟩:=this;have:=h1.lt;omega
                   rw [qC ((hgrow1.block wr.heap.size hlt2 (by intro e;injection e with e;exact hne e)).trans RW2.out)];rfl
                  have HO1:=qH hown1
                  have HG1:=qH hgrow1
                  clear hown1 hgrow1)
     go_roundw
     case rel =>
      refine⟨k+1,by omega,by go_num,?_,?_,(HBR.out.trans (B2.out.mono HBR.out.size)).grown HG1.out (Nat.le_trans HBR.out.size B2.out.size) (fun j hj=>by cases hj;exact Nat.le_refl _)⟩
      ·rw [HTK.out,Ev.beg_snoc,← HNB.out,if_neg H5.out];go_num
      ·rw [HTK.out]
       refine⟨⟨_,HO1.out,fun y hy=>?_⟩⟩
       rw [HN.out];exact STEP.out y hy
     case measure=>simp [intOf];omega
  ·have hkk:k=xs.length:=by omega
   have hki:¬ (k:Int) < (xs.length:Int):=by omega
   have htl:xs.take k=xs:=by rw [hkk,List.take_length]
   have hcnt0:=HCNT.out
   rw [htl] at hcnt0 ⊢
   have HC0:=qH hcnt0
   clear htl hcnt0 HCNT
   by_cases hl:od.length=Ev.beg xs
   ·have hne:((od.length:Int) != (Ev.beg xs:Int))=false:=by simp [hl]
    have HRES:=qH (show Ev.orderOk xs od=(List.range od.length).all (Ev.orderAt xs od) by unfold Ev.orderOk;simp [hl])
    have HL:=qH hl
    clear hl hkk
    go_wp2
    go_loopw [9,10,37] (fun _ _ i w2=>∃ b:Nat,b≤od.length∧i=.int .i64 (b:Int)∧(∀ j,j < b→Ev.orderAt xs od j=true)∧Ev.CntIs w2 w.heap.size k xs∧Below w.heap.size w w2) (fun _ _ i _=>od.length - (intOf i).toNat)
    case atStart=>exact⟨0,Nat.zero_le _,rfl,fun j hj=>absurd hj (by omega),HC0.out,HBR.out⟩
    case round =>
     obtain⟨b,hb,rfl,hall,hcnt2,hbr2⟩:=hrel
     have HA:=qH hall;have HC2:=qH hcnt2;have HB2:=qH hbr2;clear hall hcnt2 hbr2
     by_cases hlt:b < od.length
     ·obtain⟨s,hs⟩:∃ s,od[b]?=some s:=⟨_,List.getElem?_eq_getElem hlt⟩
      obtain⟨x,hx,hx5⟩:=HPRE.out b (by have:=HL.out;omega)
      have hxl:=(List.getElem?_eq_some_iff.1 hx).1
      have hxn:=Ev.nth_some hx
      have hpos:=Ev.cnt_pos hx (by rw [hx5];rfl)
      have KW:=Ev.kp_below HB2.out
      obtain⟨g,o,ea,hcx⟩:=(HIN.out.kp KW).at_ hx
      obtain⟨go,oo,eo,hco⟩:=(HO.out.kp KW).at_ hs
      have hxa:=(HIN.out.ok_ hx).a
      have hsin:=(HO.out.kp KW).ok_ hs
      have c2:=hcx 2 _ rfl
      have HS:=qH hs;have HXN:=qH hxn;have HEA:=qH ea;have HEO:=qH eo;have HSIN:=qH hsin
      have HXA:=qH hxa
      have hbi:(b:Int) < (od.length:Int):=by omega
      have hbx:(b:Int) < (xs.length:Int):=by omega
      have hsl:=hsin.2.1;have hsm:=hsin.2.2.1
      obtain⟨D,hown,hD⟩:=HC2.out.ex
      have HOWN:=qH hown;have HKEY:=qH (keyOf_int_mk (P:=Tryz.prog) Tryz.underlying46 (wf_of_u32 HXA.out))
      have HAT:=qH (hD x.a hxa)
      have hcl:=Ev.cnt_le xs x.a
      obtain⟨n,hn⟩:∃ n:Nat,n=Ev.cnt xs x.a:=⟨_,rfl⟩
      have HN:=qH hn
      rw [← hn] at hpos hcl
      have hlk:(Instr.lookup 130 (.map (some w.heap.size)) (.int .u32 x.a) false).run Tryz.prog wr=.ok (.int .i64 (n:Int)) wr:=by
       obtain⟨c',hrun,hat',_⟩:=HOWN.out.lookup_int law_u32 Tryz.underlying130 Tryz.underlying3 (zero_int _) HKEY.out
       rw [HAT.out] at hat'
       have e2:=(Lit.int.inj (DataW.lit.inj hat')).2
       rw [hrun,← e2,HN.out]
      have hAt:Ev.orderAt xs od b=(s.l.length==n&&s.l.getD 0 0==b&&Ev.onceOk xs s.l):=by unfold Ev.orderAt;rw [hs];simp only [];rw [hxn,hn]
      have HORD:=qH hAt
      have fin:Ev.orderAt xs od b=false→Ev.orderOk xs od=false:=fun e=>by
       rw [HRES.out,List.all_eq_false];exact⟨b,List.mem_range.2 hlt,by rw [e];simp⟩
      have FIN:=qH fin
      have HCX:=qH hcx
      clear hs hx hxn hx5 hcx hown hD hn hAt fin hxa KW hsin
      rw [ea,eo]
      clear ea eo
      by_cases h1:s.l.length=n
      ·have q1:((s.l.length:Int) != (n:Int))=false:=by simp [h1]
       have H1:=qH h1
       obtain⟨f,hf⟩:∃ f,s.l[0]?=some f:=⟨_,List.getElem?_eq_getElem (by omega)⟩
       have hl0i:(0:Int) < (s.l.length:Int):=by omega
       have hgd:s.l.getD 0 0=f:=by simp [List.getD,hf]
       obtain⟨gs,os,es,cs⟩:=HSIN.out.at_ hf
       have HF:=qH hf;have HGD:=qH hgd;have HES:=qH es
       rw [Nat.add_zero] at cs
       clear h1 hf hgd
       rw [es] at hco;clear es
       by_cases h2:f=(b:Int)
       ·subst h2
        have q2:(((b:Nat):Int) != (b:Int))=false:=by simp
        have HONCE:=once_any (some ⟨g,o,none⟩) c xs s b HF.out (by omega) wr (by rw [← HEA.out];exact HIN.out.kp (Ev.kp_below HB2.out)) HSIN.out
        rw [HES.out] at HONCE
        have HONCE:=qH HONCE
        go_wp2_with fail
        refine HONCE.out.mono ?_
        rintro e W4 ⟨rfl,hb4⟩
        have B4:=qH hb4;clear hb4
        obtain⟨b1,hb1⟩:∃ b1,Ev.onceOk xs s.l=b1:=⟨_,rfl⟩
        have HB1:=qH hb1
        rw [hb1];clear hb1
        cases b1
        ·go_wp2_with fail
         go_ret
         exact⟨by rw [FIN.out (by rw [HORD.out,HB1.out];simp)];rfl,HB2.out.trans (B4.out.mono HB2.out.size)⟩
        ·go_wp2_with fail
         go_roundw
         case rel =>
          refine⟨b+1,by omega,by go_num,fun j hj=>?_,?_,HB2.out.trans (B4.out.mono HB2.out.size)⟩
          ·by_cases hjb:j=b
           ·subst hjb;rw [HORD.out,HB1.out,HGD.out,H1.out];simp
           ·exact HA.out j (by omega)
          ·obtain⟨D',ho',hD'⟩:=HC2.out.ex
           exact⟨⟨D',ho'.kept (World.grownBy.but_of B4.out) (by simp),hD'⟩⟩
         case measure=>simp [intOf];omega
       ·have q2:(f != (b:Int))=true:=by simpa using h2
        have HQ:=qH (show(f==(b:Int))=false by simpa using h2)
        clear h2
        go_wp2_with fail
        go_ret
        exact⟨by rw [FIN.out (by rw [HORD.out,HGD.out,HQ.out];simp)];rfl,HB2.out⟩
      ·have q1:((s.l.length:Int) != (n:Int))=true:=by simp;omega
       have HQ:=qH (show(s.l.length==n)=false by simpa using h1)
       clear h1
       go_wp2_with fail
       go_ret
       exact⟨by rw [FIN.out (by rw [HORD.out,HQ.out];rfl)];rfl,HB2.out⟩
     ·have HALL:=qH (show Ev.orderOk xs od=true by
       rw [HRES.out,List.all_eq_true];intro j hj;exact HA.out j (by have:=List.mem_range.1 hj;omega))
      have hbi:¬ (b:Int) < (od.length:Int):=by omega
      go_wp2
      go_ret
      exact⟨by rw [HALL.out];rfl,HB2.out⟩
   ·have hne:((od.length:Int) != (Ev.beg xs:Int))=true:=by simp;omega
    have HF:=qH (show Ev.orderOk xs od=false by unfold Ev.orderOk;simp [hl])
    clear hl hkk
    go_wp2
    go_ret
    exact⟨by rw [HF.out];rfl,HBR.out⟩
end Go.Proofs.YtnjnpbabgefaeaaGreat
end
section
namespace Go.Proofs.YtnjnpbabgefaeaaGreat
open Go.RowKit
theorem rstores_is {x:Ev.R} {b:Bool} (h:Ev.stores x.k=b) (w:World):Calls Tryz.prog 32 #[.agg (Ev.cells x).toArray] w fun e w'=>e=.returned (.bool b)∧Below w.heap.size w w':=h ▸ rstores_any x w
theorem rloads_is {x:Ev.R} {b:Bool} (h:Ev.loads x.k=b) (w:World):Calls Tryz.prog 31 #[.agg (Ev.cells x).toArray] w fun e w'=>e=.returned (.bool b)∧Below w.heap.size w w':=h ▸ rloads_any x w
end Go.Proofs.YtnjnpbabgefaeaaGreat
end
section
namespace Go.Proofs.YtnjnpbabgefaeaaGreat
open Go.RowKit Go.Maps Go.WideElems Go.ChangeShapes
section
variable {H:Type} {P:Program} {k E e t:TypeId} {q:IntKind} {w:World} {base b n:Nat} {D:DataW H} {key:Value} {kl:Lit}
theorem groups_look (h:w.ownsGroups P k base e q b n D) (K:Keyed P k) (ht:P.underlying t=some (.map k E)) (hz:∀ x,(zeroValue E).run P x=.ok (.slice none 0 0) x) (hn:n < maxLen) (hkey:keyOf P k key=some kl) :
 ∃ v zs,(∀ x,Below w.heap.size w x→(Instr.lookup t (.map (some b)) key false).run P x=.ok v x)∧D.atKey kl .nil=rowDatum q v zs∧w.ownsInts base e q v zs∧zs.length≤n∧w.groupBack P t k base e q b n D key kl v:=by
 obtain⟨v,zs,hrun,hat,hoi,hzl,hback⟩:=h.at (t:=t) (E:=E) K ht (hz w) hn hkey
 refine⟨v,zs,fun x hx=>?_,hat,hoi,hzl,hback⟩
 obtain⟨es,clock,hb,F,hs,hD,hbb,hlen,hap⟩:=h
 have hbx:x.heap[b]?=some (.map es clock):=(hx.block b (qL hb)).trans hb
 have ok_inj:∀ {x:World} {a c:Value},(Result.ok a x:Result Value)=Result.ok c x→a=c:=fun h=>by injection h
 rcases Maps.fit_look false K ht (hz w) hb F hkey with ⟨r1,m1,_⟩ | ⟨e0,y0,hm0,hk0,r1,_,_,_⟩
 ·rcases Maps.fit_look false K ht (hz x) hbx F hkey with ⟨r2,m2,_⟩ | ⟨e1,y1,hm1,hk1,r2,_,_,_⟩
  ·have:=ok_inj (hrun.symm.trans r1);simp at this
   rw [r2,this];rfl
  ·exact absurd hk1 (m1 e1 hm1)
 ·rcases Maps.fit_look false K ht (hz x) hbx F hkey with ⟨r2,m2,_⟩ | ⟨e1,y1,hm1,hk1,r2,_,_,_⟩
  ·exact absurd hk0 (m2 e0 hm0)
  ·have he:e0=e1:=entry_eq_of_key (List.pairwise_map.1 F.stamped.2.2) hm0 hm1 (hk0.trans hk1.symm)
   subst he
   have:=ok_inj (hrun.symm.trans r1);simp at this
   rw [r2,this];rfl
end
namespace Ev
def rd (zs:List Int):DataW Unit:=if zs=[] then .nil else .slice (lits .i64 zs) []
theorem lits_inj:∀ {a c:List Int},(lits (H:=Unit) .i64 a)=lits .i64 c→a=c:=by
 intro a c h
 have h2:=congrArg (List.map fun d:DataW Unit=>match d with | .lit (.int _ n)=>n | _=>0) h
 have h3:∀ l:List Int,(lits (H:=Unit) .i64 l).map (fun d:DataW Unit=>match d with | .lit (.int _ n)=>n | _=>0)=l:=by
  intro l;induction l with
  | nil=>rfl
  | cons x r ih=>simp only [lits,List.map_cons] at ih ⊢;rw [ih]
 rw [h3,h3] at h2;exact h2
theorem rd_of {w:World} {base:Nat} {e:TypeId} {v:Value} {zs S:List Int} (ho:w.ownsInts base e .i64 v zs) (h:rd S=rowDatum .i64 v zs):zs=S:=by
 rcases ho.datum (H:=Unit) with ⟨h1,h2⟩ | h1
 ·rw [h1] at h;unfold rd at h
  split at h
  ·rename_i e;rw [h2,e]
  ·cases h
 ·rw [h1] at h;unfold rd at h
  split at h
  ·cases h
  ·injection h with h;exact(lits_inj h).symm
def succs (ps:List (Int × Int)) (y:Int):List Int:=(ps.filter fun p=>p.1==y).map (·.2)
theorem succs_snoc (ps:List (Int × Int)) (p:Int × Int) (y:Int):succs (ps++[p]) y=if p.1=y then succs ps y++[p.2] else succs ps y:=by
 unfold succs
 rw [List.filter_append,List.map_append]
 by_cases h:p.1=y
 ·simp [h]
 ·rw [if_neg h];simp [h]
theorem mem_succs {ps:List (Int × Int)} {y z:Int}:z ∈ succs ps y↔(y,z) ∈ ps:=by
 unfold succs
 constructor
 ·intro h
  obtain⟨p,hp,rfl⟩:=List.mem_map.1 h
  obtain⟨h1,h2⟩:=List.mem_filter.1 hp
  have:p.1=y:=by simpa using h2
  subst this;exact h1
 ·intro h
  exact List.mem_map.2 ⟨(y,z),List.mem_filter.2 ⟨h,by simp⟩,rfl⟩
structure GroupsAre (w:World) (base b n:Nat) (ps:List (Int × Int)):Prop where
 ex:∃ D:DataW Unit,w.ownsGroups Tryz.prog 3 base 3 .i64 b n D∧∀ y,i64B y→D.atKey (.int .i64 y) .nil=rd (succs ps y)
theorem groups_isMap {H:Type} {P:Program} {k e:TypeId} {q:IntKind} {w:World} {base b n:Nat} {D:DataW H} (h:w.ownsGroups P k base e q b n D):IsMap D:=by
 obtain⟨es,clock,_,_,_,hD,_⟩:=h
 exact⟨_,hD⟩
theorem groups_step {D:DataW Unit} {ps:List (Int × Int)} {x z:Int} (hm:IsMap D) (hD:∀ y,i64B y→D.atKey (.int .i64 y) .nil=rd (succs ps y)) (y:Int) (hy:i64B y) :
 (D.put (.int .i64 x) (.slice (lits .i64 (succs ps x++[z])) [])).atKey (.int .i64 y) .nil=rd (succs (ps++[(x,z)]) y):=by
 rw [succs_snoc]
 by_cases h:x=y
 ·subst h
  rw [Maps.atKey_put_same hm (iskey_int _ _),if_pos rfl]
  unfold rd;rw [if_neg (by simp)]
 ·rw [Maps.atKey_put_other (by intro e;injection e with _ e;exact h e.symm),hD y hy,if_neg h]
def NextIn (w:World) (b:Nat) (F:Int→List Int):Prop :=
 ∀ w',Below w.heap.size w w'→∀ y,i64B y→∃ s:Sl,s.l=F y∧IntsIn w' s∧(Instr.lookup 152 (.map (some b)) (.int .i64 y) false).run Tryz.prog w'=.ok (.slice s.a s.l.length s.c) w'
theorem NextIn.below {w w':World} {b:Nat} {F:Int→List Int} (h:NextIn w b F) (hb:Below w.heap.size w w'):NextIn w' b F :=
 fun x hx y hy=>h x (hb.trans (hx.mono hb.size)) y hy
theorem zero_ints (w:World):(zeroValue 23).run Tryz.prog w=.ok (.slice none 0 0) w:=by kernel_rfl
theorem ints_of_own {w:World} {base:Nat} {e:TypeId} {v:Value} {zs:List Int} (h:w.ownsInts base e .i64 v zs):∃ s:Sl,v=.slice s.a s.l.length s.c∧s.l=zs∧IntsIn w s:=by
 have hb:∀ z ∈ zs,i64B z:=fun z hz=>by
  have:=h.2 z hz
  have h1:IntKind.i64.min=-9223372036854775808:=by decide
  have h2:IntKind.i64.max=9223372036854775807:=by decide
  simp only [Lit.wf,h1,h2,Bool.and_eq_true,decide_eq_true_eq] at this
  exact this
 rcases h.1.2 with ⟨rfl,hn⟩ | ⟨g,cap,cur,rfl,_,hh,hnc,hcm,_,ht⟩
 ·refine⟨⟨none,0,zs⟩,by simp [hn],rfl,fun hp=>?_,by show zs.length≤0;omega,by show(0:Nat)≤_;omega,hb⟩
  exfalso;have:0 < zs.length:=hp;omega
 ·refine⟨⟨some ⟨g,0,none⟩,cap,zs⟩,rfl,rfl,fun _=>⟨g,0,rfl,fun j v hv=>?_⟩,hnc,by unfold maxLen at hcm;exact hcm,hb⟩
  have h1:(zs.map (Value.int .i64))[j]?=some (.int .i64 v):=by rw [List.getElem?_map,hv];rfl
  rw [← ht,List.getElem?_take] at h1
  split at h1
  ·rw [cell_of_row w g _ cur e (0,0) hh];simpa using h1
  ·cases h1
theorem next_of {w:World} {base b n:Nat} {ps:List (Int × Int)} (h:GroupsAre w base b n ps) (hn:n < maxLen):NextIn w b (succs ps):=by
 obtain⟨D,ho,hD⟩:=h.ex
 intro w' hb y hy
 obtain⟨v,zs,hrun,hat,hoi,_,_⟩:=groups_look ho law_int Tryz.underlying152 zero_ints hn (keyOf_int_mk (P:=Tryz.prog) Tryz.underlying3 (wf_of_i64 hy))
 rw [hD y hy] at hat
 have hz:=rd_of hoi hat
 obtain⟨s,hv,hs,hin⟩:=ints_of_own hoi
 exact⟨s,hs.trans hz,hin.kp (kp_below hb),by rw [hrun w' hb,hv]⟩
end Ev
end Go.Proofs.YtnjnpbabgefaeaaGreat
end
section
namespace Go.Proofs.YtnjnpbabgefaeaaGreat
open Go.RowKit
namespace Ev
def evAt (xs:List R) (k:Nat):Bool:=partsOk (nth xs k)&&depsOk xs k&&(k==0||follow (nth xs ((k:Int) - 1)) (nth xs k))
def evsOk (xs:List R):Bool:=(List.range xs.length).all (evAt xs)&&begun xs
end Ev
theorem follow_is {x y:Ev.R} {b:Bool} (h:Ev.follow x y=b) (w:World):Calls Tryz.prog 96 #[.agg (Ev.cells x).toArray,.agg (Ev.cells y).toArray] w fun e w'=>e=.returned (.bool b)∧Below w.heap.size w w':=h ▸ follow_any x y w
theorem evs_any (a:Option Addr) (c:Nat) (xs:List Ev.R) (w:World) (hin:Ev.EvsIn w a c xs) :
 Calls Tryz.prog 71 #[.slice a xs.length c] w fun e w'=>e=.returned (.bool (Ev.evsOk xs))∧Below w.heap.size w w':=by
 have hmax:=hin.max;have hle:=hin.le
 have HIN:=qH hin;clear hin
 go_enter Tryz.func71,Tryz.ntmps71
 go_wp2
 go_loopw [3,7] (fun _ i wr=>∃ k:Nat,k≤xs.length∧i=.int .i64 (k:Int)∧(∀ j,j < k→Ev.evAt xs j=true)∧Below w.heap.size w wr) (fun _ i _=>xs.length - (intOf i).toNat)
 case atStart=>exact⟨0,Nat.zero_le _,rfl,fun j hj=>absurd hj (by omega),Below.refl _ _⟩
 case round =>
  obtain⟨k,hk,rfl,hall,hbr⟩:=hrel
  have HA:=qH hall;have HBR:=qH hbr;clear hall hbr
  by_cases hlt:k < xs.length
  ·obtain⟨x,hx⟩:∃ x,xs[k]?=some x:=⟨_,List.getElem?_eq_getElem hlt⟩
   have hxn:=Ev.nth_some hx
   have KW:=Ev.kp_below HBR.out
   obtain⟨g,o,ea,hcx⟩:=(HIN.out.kp KW).at_ hx
   have hxa:=(HIN.out.ok_ hx).a
   have HC:=qH hcx;have HXN:=qH hxn;have HXA:=qH hxa;have HEA:=qH ea;have HX:=qH hx
   have hki:(k:Int) < (xs.length:Int):=by omega
   have fin:Ev.evAt xs k=false→Ev.evsOk xs=false:=fun e=>by
    unfold Ev.evsOk
    have:(List.range xs.length).all (Ev.evAt xs)=false:=by rw [List.all_eq_false];exact⟨k,List.mem_range.2 hlt,by rw [e];simp⟩
    rw [this];rfl
   have FIN:=qH fin
   have HAT:=qH (show Ev.evAt xs k=(Ev.partsOk x&&Ev.depsOk xs k&&(k==0||Ev.follow (Ev.nth xs ((k:Int) - 1)) x)) by unfold Ev.evAt;rw [hxn])
   clear hx hxn hcx hxa KW fin
   rw [ea];clear ea
   go_wp2_with (first
    | (show wpList _ _ _ (Oper.mk (some 11) _ _ _ _ _ :: _) _ _;refine wpList_load_at rfl 48 (.tmp 10) rfl g (o+k * 13) rfl (Ev.cells x) _ HC.out Tryz.underlying48 rfl (by kernel_rfl) ?_)
    | (show wpList _ _ _ (Oper.mk none (Op.store 48 _ _) _ _ _ _ :: _) _ _;refine wpList_store_own rfl 48 (.tmp 4) (.tmp 11) rfl wr.heap.size (Ev.cells x).toArray rfl rfl 48 (Ev.cells Ev.R0).toArray (heap_alloc_new _ _) (by kernel_rfl) (by kernel_rfl) (by kernel_rfl) ?_
       intro W1 HW1
       have B1:=qH (((Below.refl wr.heap.size wr).alloc (Nat.le_refl _) _).trans HW1.below)
       have RW:=qH HW1.row
       clear HW1)
    | (show wpList _ _ _ (Oper.mk (some 12) _ _ _ _ _ :: _) _ _;refine wpList_load_row rfl 48 (.tmp 4) rfl wr.heap.size (by kernel_rfl) 48 (Ev.cells x).toArray (0,0) _ RW.out Tryz.underlying48 rfl (by kernel_rfl) ?_))
   refine(partsOk_any x _ HXA.out).mono ?_
   rintro e W2 ⟨rfl,hb2⟩
   have RW2:=qH ((hb2.block wr.heap.size (qL RW.out)).trans RW.out)
   have B2:=qH (B1.out.trans (hb2.mono B1.out.size));clear hb2
   obtain⟨b1,hb1⟩:∃ b,Ev.partsOk x=b:=⟨_,rfl⟩
   have H1:=qH hb1
   rw [hb1];clear hb1
   cases b1
   ·go_wp2_with fail
    go_ret
    exact⟨by rw [FIN.out (by rw [HAT.out,H1.out];rfl)];rfl,HBR.out.trans (B2.out.mono HBR.out.size)⟩
   go_wp2_with fail
   refine(deps_any (some ⟨g,o,none⟩) c xs k hlt _ (by rw [← HEA.out];exact(HIN.out.kp (Ev.kp_below HBR.out)).kp (Ev.kp_below B2.out))).mono ?_
   rintro e W3 ⟨rfl,hb3⟩
   have RW3:=qH ((hb3.block wr.heap.size (qL RW2.out)).trans RW2.out)
   have B3:=qH (B2.out.trans (hb3.mono B2.out.size));clear hb3
   obtain⟨b2,hb2⟩:∃ b,Ev.depsOk xs k=b:=⟨_,rfl⟩
   have H2:=qH hb2
   rw [hb2];clear hb2
   cases b2
   ·go_wp2_with fail
    go_ret
    exact⟨by rw [FIN.out (by rw [HAT.out,H1.out,H2.out];rfl)];rfl,HBR.out.trans (B3.out.mono HBR.out.size)⟩
   by_cases h0:k=0
   ·have HK0:=qH h0
    have hkz:decide (0 < (k:Int))=false:=decide_eq_false (by omega)
    have hkz':decide (0 < k)=false:=decide_eq_false (by omega)
    clear h0
    go_wp2_with fail
    refine Og.regionB (by kernel_rfl) (by kernel_rfl) ?_
    repeat (first
     | go_big_quiet_skip
     | (go_big_quiet_want
        first
         | (go_big_quiet_op
            first
             | go_big_quiet_on)))
    refine wpQuiet_nil ?_
    intro _ hw'
    obtain⟨q9,hw''⟩:=hw'
    subst hw''
    have HEND:=qH (B3.out.trans (q9.b.mono B3.out.size))
    go_wp2_with fail
    go_roundw
    case rel =>
     refine⟨k+1,by omega,by go_num,fun j hj=>?_,HBR.out.trans (HEND.out.mono HBR.out.size)⟩
     by_cases hjk:j=k
     ·subst hjk;rw [HAT.out,H1.out,H2.out,HK0.out];rfl
     ·exact HA.out j (by omega)
    case measure=>simp [intOf];omega
   ·have hkz:decide (0 < (k:Int))=true:=decide_eq_true (by omega)
    have hkz':decide (0 < k)=true:=decide_eq_true (by omega)
    obtain⟨p,hp⟩:∃ p,k=p+1:=⟨k - 1,by omega⟩
    have hpi:(k:Int) - 1=(p:Int):=by omega
    have hpl:p < xs.length:=by omega
    obtain⟨y,hy⟩:∃ y,xs[p]?=some y:=⟨_,List.getElem?_eq_getElem hpl⟩
    have hyn:=Ev.nth_some hy
    obtain⟨g',o',eg,hcy⟩:=(HIN.out.kp (Ev.kp_below HBR.out)).at_ hy
    obtain⟨rfl,rfl⟩:g'=g∧o'=o:=by rw [HEA.out] at eg;cases eg;exact⟨rfl,rfl⟩
    have LY:=qH (fun z:Og.On W3.heap.size W3=>Ev.ld (w:=z.x) (g:=g') (o:=o'+p * 13) (x:=y) (fun i c hi=>Og.cellB z (Ev.kp_below B3.out _ _ (hcy i c hi))))
    have LX:=qH (fun z:Og.On W3.heap.size W3=>Og.rowB (P:=Tryz.prog) z 48 _ RW3.out Tryz.underlying48 rfl (by kernel_rfl))
    obtain⟨b3,hb3⟩:∃ b,Ev.follow y x=b:=⟨_,rfl⟩
    have H3:=qH hb3
    have HAT2:=qH (show Ev.evAt xs k=b3 by rw [HAT.out,H1.out,H2.out,hpi,hyn,hb3];simp [h0])
    have hpx:(p:Int) < (xs.length:Int):=by omega
    have hw1:IntKind.i64.wrap ((k:Int) - 1)=(p:Int):=by rw [hpi];exact IntWalk.i64_in _ (by omega)
    clear hy hyn eg hcy hb3 hp h0
    have CF:=qH (fun z:Og.On W3.heap.size W3=>Og.callB (q:=z) (follow_is H3.out z.x))
    cases b3
    ·go_wp2_with fail
     refine Og.regionB (by kernel_rfl) (by kernel_rfl) ?_
     repeat (first
      | go_big_quiet_skip
      | (go_big_quiet_want
         first
          | (refine Og.quiet_load 48 (.tmp 27) rfl (.agg (Ev.cells y).toArray) ⟨g',o'+p * 13,none⟩ _ rfl (by rintro _ ⟨z,rfl⟩;exact LY.out z) (by simp only [Act.put,qa,qb,qc];rfl) ?_
             go_big_quiet_on)
          | (refine Og.quiet_load 48 (.tmp 4) rfl (.agg (Ev.cells x).toArray) ⟨wr.heap.size,0,none⟩ _ rfl (by rintro _ ⟨z,rfl⟩;exact LX.out z) (by simp only [Act.put,qa,qb,qc];rfl) ?_
             go_big_quiet_on)
          | (go_big_quiet_op
             first
              | go_big_quiet_on
              | (apply Exists.intro
                 refine⟨fun z=>?_,?_⟩
                 ·first
                   | exact CF.out z
                 go_big_quiet_on))))
     refine wpQuiet_nil ?_
     intro _ hw'
     obtain⟨q9,hw''⟩:=hw'
     subst hw''
     have HEND:=qH (B3.out.trans (q9.b.mono B3.out.size))
     go_wp2_with fail
     go_ret
     exact⟨by rw [FIN.out HAT2.out];rfl,HBR.out.trans (HEND.out.mono HBR.out.size)⟩
    ·go_wp2_with fail
     refine Og.regionB (by kernel_rfl) (by kernel_rfl) ?_
     repeat (first
      | go_big_quiet_skip
      | (go_big_quiet_want
         first
          | (refine Og.quiet_load 48 (.tmp 27) rfl (.agg (Ev.cells y).toArray) ⟨g',o'+p * 13,none⟩ _ rfl (by rintro _ ⟨z,rfl⟩;exact LY.out z) (by simp only [Act.put,qa,qb,qc];rfl) ?_
             go_big_quiet_on)
          | (refine Og.quiet_load 48 (.tmp 4) rfl (.agg (Ev.cells x).toArray) ⟨wr.heap.size,0,none⟩ _ rfl (by rintro _ ⟨z,rfl⟩;exact LX.out z) (by simp only [Act.put,qa,qb,qc];rfl) ?_
             go_big_quiet_on)
          | (go_big_quiet_op
             first
              | go_big_quiet_on
              | (apply Exists.intro
                 refine⟨fun z=>?_,?_⟩
                 ·first
                   | exact CF.out z
                 go_big_quiet_on))))
     refine wpQuiet_nil ?_
     intro _ hw'
     obtain⟨q9,hw''⟩:=hw'
     subst hw''
     have HEND:=qH (B3.out.trans (q9.b.mono B3.out.size))
     go_wp2_with fail
     go_roundw
     case rel =>
      refine⟨k+1,by omega,by go_num,fun j hj=>?_,HBR.out.trans (HEND.out.mono HBR.out.size)⟩
      by_cases hjk:j=k
      ·subst hjk;exact HAT2.out
      ·exact HA.out j (by omega)
     case measure=>simp [intOf];omega
  ·have hki:¬ (k:Int) < (xs.length:Int):=by omega
   have HF:=qH (show Ev.evsOk xs=Ev.begun xs by
    unfold Ev.evsOk
    have:(List.range xs.length).all (Ev.evAt xs)=true:=by
     rw [List.all_eq_true];intro j hj;exact HA.out j (by have:=List.mem_range.1 hj;omega)
    rw [this,Bool.true_and])
   go_wp2_with fail
   refine(begun_any a c xs _ (HIN.out.kp (Ev.kp_below HBR.out))).mono ?_
   rintro e W2 ⟨rfl,hb2⟩
   have HEND:=qH (HBR.out.trans (hb2.mono HBR.out.size));clear hb2
   go_wp2_with fail
   go_ret
   exact⟨by rw [HF.out];rfl,HEND.out⟩
end Go.Proofs.YtnjnpbabgefaeaaGreat
end
