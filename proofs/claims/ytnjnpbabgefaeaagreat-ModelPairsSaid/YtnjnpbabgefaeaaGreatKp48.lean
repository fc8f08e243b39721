import Derived.Test.YtnjnpbabgefaeaaGreatKp45
import Derived.Test.YtnjnpbabgefaeaaGreatKp26
import Derived.Test.YtnjnpbabgefaeaaGreatKp47
import Derived.Laws.EntriesVeiled
import Derived.Test.YtnjnpbabgefaeaaGreatKpH
set_option maxRecDepth 100000
set_option maxHeartbeats 8000000
set_option linter.unusedVariables false
set_option linter.unusedSimpArgs false
section
namespace Go.Proofs.YtnjnpbabgefaeaaGreat
open Go.RowKit
theorem Md.circ_no {n:Nat} {ps:List (Int × Int)} {b:Bool} (hr:Ev.InR n ps) (h:Ev.CircR n ps b):b=true↔¬ Md.Rk ps:=by
 rw [← Md.circ_rk hr h];cases b <;> simp
theorem Md.not_no {b:Bool} {p:Prop} (h:b=true↔¬ p):(!b)=true↔p:=by
 cases b with
 | true=>have:=h.1 rfl;simp [this]
 | false=>have:¬ ¬ p:=fun k=>by have:=h.2 k;cases this
          simp [Classical.not_not.1 this]
namespace Md
open Ev
def loadI (x:X) (n:Nat):Int:=if (nth x.ev (n:Int)).k=3 then (n:Int) else paired x n
def spoilB (x:X) (m n:Nat) (r:Int):Bool:=!((nth x.ev (m:Int)).h==(nth x.ev (n:Int)).h)&&isCo x (frAt x r.toNat) (m:Int)&&isCo x (m:Int) (n:Int)
def rowB (x:X) (n:Nat):Bool:=decide (loadI x n < 0)||(List.range x.ev.length).all fun m:Nat=>!(spoilB x m n (loadI x n))
theorem atomB_rows (x:X):atomB x=(List.range x.ev.length).all (rowB x):=rfl
theorem atomB_no {x:X} {n m:Nat} (hn:n < x.ev.length) (hm:m < x.ev.length) (h0:¬ loadI x n < 0) (h:spoilB x m n (loadI x n)=true):atomB x=false:=by
 rw [atomB_rows,List.all_eq_false]
 refine⟨n,List.mem_range.2 hn,?_⟩
 unfold rowB
 simp only [decide_eq_false h0,Bool.false_or,Bool.not_eq_true]
 rw [List.all_eq_false]
 exact⟨m,List.mem_range.2 hm,by rw [h];simp⟩
theorem atomB_yes {x:X} (h:∀ n,n < x.ev.length→rowB x n=true):atomB x=true:=by
 rw [atomB_rows];exact List.all_eq_true.2 fun n hn=>h n (List.mem_range.1 hn)
theorem rowB_neg {x:X} {n:Nat} (h:loadI x n < 0):rowB x n=true:=by unfold rowB;simp [h]
theorem rowB_yes {x:X} {n:Nat} (h:∀ m,m < x.ev.length→spoilB x m n (loadI x n)=false):rowB x n=true:=by
 unfold rowB
 rw [Bool.or_eq_true]
 exact .inr (List.all_eq_true.2 fun m hm=>by rw [h m (List.mem_range.1 hm)];rfl)
theorem loadI_ld {x:X} (hc:check x=0) {n:Nat} (hn:n < x.ev.length) (h:¬ loadI x n < 0):∃ r:Nat,loadI x n=(r:Int)∧r < x.ev.length∧loads (nth x.ev (r:Int)).k=true:=by
 unfold loadI at h ⊢
 split
 ·rename_i hk
  exact⟨n,rfl,hn,by rw [hk];rfl⟩
 ·rename_i hk
  rw [if_neg hk] at h
  rcases paired_lo x n with e | ⟨a,ha,e⟩
  ·rw [e] at h;omega
  ·exact⟨a,e,paired_ld hc hn e⟩
end Md
theorem ratomic_any (x:Ev.X) (w:World) (hin:Ev.XIn w x) (hc:Ev.check x=0) :
 Calls Tryz.prog 20 #[Ev.exV x] w fun e w'=>e=.returned (.bool (Md.atomB x))∧Below w.heap.size w w':=by
 have hn64:=(Ev.check_order hc).2.2
 have hl1:=hin.ev.le;have hl2:=hin.ev.max
 obtain⟨xb,hxb⟩:∃ xb,xb=w.heap.size:=⟨_,rfl⟩
 obtain⟨B,hB⟩:∃ B,B=w.alloc (.cells (Ev.xcells x).toArray 26):=⟨_,rfl⟩
 have HB:=qH hB;have HXB:=qH hxb
 have B0:=qH (show Below w.heap.size w B by rw [hB];exact(Below.refl w.heap.size w).alloc (Nat.le_refl _) _)
 have RX:=qH (show B.heap[xb]?=some (.cells #[.slice x.ae x.ev.length x.ce,.slice x.fr.a x.fr.l.length x.fr.c,.slice x.ao x.od.length x.co] 26 (0,0)) by rw [hB,hxb];exact heap_alloc_new _ _)
 have HX:=qH (show Ev.XIn B x from hin.kp (Ev.kp_below B0.out))
 have cx:B.cell? ⟨xb,0,none⟩=some (.slice x.ae x.ev.length x.ce):=by rw [qC RX.out];rfl
 have HC:=qH hc
 have HCX:=qH cx
 have HPD:=qH (fun (n:Nat) (hn:n < x.ev.length) (W:World) (hW:Ev.XIn W x)=>rpaired_any x n hn W hW)
 clear hin hc hB hxb cx
 unfold Ev.exV
 go_enter Tryz.func20,Tryz.ntmps20
 go_wp2
 rw [← HB.out,← HXB.out]
 go_loopw [3,4,5] (fun i _ _ wr=>∃ k:Nat,k≤x.ev.length∧i=.int .i64 (k:Int)∧Below B.heap.size B wr∧∀ n,n < k→Md.rowB x n=true) (fun i _ _ _=>x.ev.length - (intOf i).toNat)
 case atStart=>exact⟨0,Nat.zero_le _,rfl,Below.refl _ _,fun n hn=>absurd hn (by omega)⟩
 case round =>
  obtain⟨k,hk,rfl,hbr,hall⟩:=hrel
  obtain⟨wo,rfl⟩:∃ wo:World,wo=wr:=⟨_,rfl⟩
  have HBR:=qH hbr;have HALL:=qH hall
  have cx:=Ev.kp_below hbr _ _ HCX.out
  have RW:=qH ((hbr.block _ (qL RX.out)).trans RX.out)
  clear hbr hall
  by_cases hlt:k < x.ev.length
  ·have hki:(k:Int) < (x.ev.length:Int):=by omega
   obtain⟨e1,he1⟩:∃ e,x.ev[k]?=some e:=⟨_,List.getElem?_eq_getElem hlt⟩
   obtain⟨g,o,eg,hc1⟩:=HX.out.ev.at_ he1
   have HEG:=qH eg
   have HE1:=qH (Ev.nth_some he1)
   have HC1:=qH hc1
   clear he1 eg hc1
   go_wp2_with ((with_reducible refine qG 13 ?_);refine wpList_load_row rfl 26 (.tmp 1) rfl xb (by kernel_rfl) 26 #[.slice x.ae x.ev.length x.ce,.slice x.fr.a x.fr.l.length x.fr.c,.slice x.ao x.od.length x.co] (0,0) _ RW.out Tryz.underlying26 rfl (by kernel_rfl) ?_)
   refine(HPD.out k hlt _ (HX.out.kp (Ev.kp_below HBR.out))).mono ?_
   rintro e W2 ⟨rfl,hb⟩
   have B2:=qH (HBR.out.trans (hb.mono HBR.out.size))
   have R2:=qH ((hb.block _ (qL RW.out)).trans RW.out)
   clear hb cx
   have cx:=Ev.kp_below B2.out _ _ HCX.out
   rw [HEG.out] at cx
   have ck:=Ev.kp_below B2.out _ _ (HC1.out 1 _ rfl)
   obtain⟨pr,hpr⟩:∃ p,Ev.paired x k=p:=⟨_,rfl⟩
   have HPR:=qH hpr
   rw [hpr]
   by_cases h3:e1.k=3
   ·have t3:(e1.k==3)=true:=by simpa using h3
    have hli:Md.loadI x k=(k:Int):=by unfold Md.loadI;rw [HE1.out,if_pos h3]
    have hrl:=hlt
    have hld:Ev.loads (Ev.nth x.ev (k:Int)).k=true:=by rw [HE1.out,h3];rfl
    clear h3
    have HLI:=qH hli
    obtain⟨f,hf,hf1,hf2⟩:=Ev.from_in HC.out hrl hld
    obtain⟨gf,of,ef,hcf⟩:=HX.out.fr.at_ hf1
    have hfl:=check_from HC.out
    have hfi:(k:Int) < (x.fr.l.length:Int):=by omega
    have hm1:=HX.out.fr.2.1;have hm2:=HX.out.fr.2.2.1
    have HF2:=qH hf2;have HCF:=qH hcf;have HEF:=qH ef
    clear hli hf1 hf2 hcf ef hfl hld
    go_wp2
    go_loopw [5] (fun i wr=>∃ m:Nat,m≤x.ev.length∧i=.int .i64 (m:Int)∧Below W2.heap.size W2 wr∧∀ j,j < m→Md.spoilB x j k (Md.loadI x k)=false) (fun i _=>x.ev.length - (intOf i).toNat)
    case atStart=>exact⟨0,Nat.zero_le _,rfl,Below.refl _ _,fun n hn=>absurd hn (by omega)⟩
    case round =>
     clear cx ck
     obtain⟨m,hm,rfl,hbr,hall⟩:=hrel
     have HBR4:=qH hbr;have HALL4:=qH hall
     have B4:=qH (B2.out.trans (hbr.mono B2.out.size))
     have R4:=qH ((hbr.block _ (qL R2.out)).trans R2.out)
     have cx:=Ev.kp_below B4.out _ _ HCX.out
     rw [HEG.out] at cx
     clear hbr hall
     by_cases hml:m < x.ev.length
     ·have hmi:(m:Int) < (x.ev.length:Int):=by omega
      obtain⟨e2,he2⟩:∃ e,x.ev[m]?=some e:=⟨_,List.getElem?_eq_getElem hml⟩
      obtain⟨g',o',eg',hc2⟩:=HX.out.ev.at_ he2
      rw [HEG.out] at eg'
      obtain⟨rfl,rfl⟩:g=g'∧o=o':=by simpa using eg'
      have hn2:=Ev.nth_some he2
      have cf1:wr.cell? ⟨xb,1,none⟩=some (.slice (some ⟨gf,of,none⟩) x.fr.l.length x.fr.c):=by rw [qC R4.out,← HEF.out];rfl
      have k4:=Ev.kp_below B4.out
      have q1:∀ z:Og.On wr.heap.size wr,z.x.cell? ⟨xb,0,none⟩=some (.slice (some ⟨g,o,none⟩) x.ev.length x.ce):=fun z=>Og.cellB z cx
      have q2:∀ z:Og.On wr.heap.size wr,z.x.cell? ⟨xb,1,none⟩=some (.slice (some ⟨gf,of,none⟩) x.fr.l.length x.fr.c):=fun z=>Og.cellB z cf1
      have q3:∀ z:Og.On wr.heap.size wr,z.x.cell? ⟨gf,of+k,none⟩=some (.int .i64 (f:Int)):=fun z=>Og.cellB z (k4 _ _ HCF.out)
      have q4:∀ z:Og.On wr.heap.size wr,z.x.cell? ⟨g,o+m * 13,none⟩=some (.int .i64 e2.h):=fun z=>Og.cellB z (k4 _ _ (hc2 0 _ rfl))
      have q5:∀ z:Og.On wr.heap.size wr,z.x.cell? ⟨g,o+k * 13,none⟩=some (.int .i64 e1.h):=fun z=>Og.cellB z (k4 _ _ (HC1.out 0 _ rfl))
      have LXX:=qH (fun z:Og.On wr.heap.size wr=>Og.rowB (P:=Tryz.prog) z 26 _ R4.out Tryz.underlying26 rfl (by kernel_rfl))
      obtain⟨v1,h1⟩:∃ v,(e2.h != e1.h)=v:=⟨_,rfl⟩
      obtain⟨v2,h2⟩:∃ v,Ev.isCo x (f:Int) (m:Int)=v:=⟨_,rfl⟩
      obtain⟨v3,h3⟩:∃ v,Ev.isCo x (m:Int) (k:Int)=v:=⟨_,rfl⟩
      have K1:=qH (show ∀ z:Og.On wr.heap.size wr,Calls Tryz.prog 39 #[.agg #[.slice x.ae x.ev.length x.ce,.slice x.fr.a x.fr.l.length x.fr.c,.slice x.ao x.od.length x.co],.int .i64 (f:Int),.int .i64 (m:Int)] z.x (fun e w''=>e=.returned (.bool v2)∧Below z.x.heap.size z.x w'') from fun z=>rco_is h2 hf hml z.x ((HX.out.kp (Ev.kp_below B4.out)).kp (Ev.kp_below z.b)))
      have K2:=qH (show ∀ z:Og.On wr.heap.size wr,Calls Tryz.prog 39 #[.agg #[.slice x.ae x.ev.length x.ce,.slice x.fr.a x.fr.l.length x.fr.c,.slice x.ao x.od.length x.co],.int .i64 (m:Int),.int .i64 (k:Int)] z.x (fun e w''=>e=.returned (.bool v3)∧Below z.x.heap.size z.x w'') from fun z=>rco_is h3 hml hlt z.x ((HX.out.kp (Ev.kp_below B4.out)).kp (Ev.kp_below z.b)))
      have HSP:=qH (show Md.spoilB x m k (Md.loadI x k)=(v1&&v2&&v3) by
       unfold Md.spoilB;rw [HLI.out,Int.toNat_natCast,HF2.out,h2,h3,hn2,HE1.out,← h1];rfl)
      have h1':=h1
      clear h2 h3 hn2 he2 hc2 cf1 k4 eg' h1
      cases v1 <;> cases v2 <;> cases v3
      all_goals
       go_wp2_with fail
       refine Og.regionB (by kernel_rfl) (by kernel_rfl) ?_
       repeat (first
        | go_big_quiet_skip
        | (go_big_quiet_want
           first
            | ((with_reducible show Oper.quiet _ (Oper.mk (some 47) _ _ _ _ _) _ _ _);refine Og.quiet_load 26 (.tmp 1) rfl (.agg #[.slice x.ae x.ev.length x.ce,.slice x.fr.a x.fr.l.length x.fr.c,.slice x.ao x.od.length x.co]) ⟨xb,0,none⟩ _ rfl (by rintro _ ⟨z,rfl⟩;exact LXX.out z) (by simp only [Act.put,qa,qb,qc];rfl) ?_
               go_big_quiet_on)
            | ((with_reducible show Oper.quiet _ (Oper.mk (some 57) _ _ _ _ _) _ _ _);refine Og.quiet_load 26 (.tmp 1) rfl (.agg #[.slice x.ae x.ev.length x.ce,.slice x.fr.a x.fr.l.length x.fr.c,.slice x.ao x.od.length x.co]) ⟨xb,0,none⟩ _ rfl (by rintro _ ⟨z,rfl⟩;exact LXX.out z) (by simp only [Act.put,qa,qb,qc];rfl) ?_
               go_big_quiet_on)
            | (go_big_quiet_op
               first
                | go_big_quiet_on
                | (apply Exists.intro
                   refine⟨fun z=>?_,?_⟩
                   ·first
                     | (with_reducible exact Og.callB (K1.out z))
                     | (with_reducible exact Og.callB (K2.out z))
                   go_big_quiet_on))))
       refine wpQuiet_nil ?_
       intro _ hw'
       obtain⟨q9,hw''⟩:=hw'
       subst hw''
       have B5:=qH (HBR4.out.trans (q9.b.mono HBR4.out.size))
      all_goals first
       | (have HNO:=qH (Md.atomB_no hlt hml (by rw [HLI.out];omega) (show Md.spoilB x m k (Md.loadI x k)=true from HSP.out))
          go_wp2_with fail
          go_ret
          exact⟨by rw [HNO.out];rfl,B0.out.trans ((B2.out.trans (B5.out.mono B2.out.size)).mono B0.out.size)⟩)
       | (go_wp2_with fail
          go_roundw
          case rel=>exact⟨m+1,by omega,by go_num,B5.out,fun n h=>by rcases Nat.lt_or_eq_of_le (Nat.le_of_lt_succ h) with h | h;exact HALL4.out n h;subst h;exact HSP.out⟩
          case measure=>simp [intOf];omega)
     ·have hmi:¬ (m:Int) < (x.ev.length:Int):=by omega
      have HR:=qH (Md.rowB_yes (fun j hj=>HALL4.out j (by omega)))
      clear hml
      go_wp2_with fail
      go_roundw
      case rel=>exact⟨k+1,by omega,by go_num,B4.out,fun n h=>by rcases Nat.lt_or_eq_of_le (Nat.le_of_lt_succ h) with h | h;exact HALL.out n h;subst h;exact HR.out⟩
      case measure=>simp [intOf];omega
   ·have t3:(e1.k==3)=false:=by simpa using h3
    have hlp:Md.loadI x k=pr:=by unfold Md.loadI;rw [HE1.out,if_neg h3,HPR.out]
    by_cases hneg:pr < 0
    ·have HR:=qH (Md.rowB_neg (by rw [hlp];exact hneg))
     clear hpr h3 hlp
     go_wp2
     go_roundw
     case rel=>exact⟨k+1,by omega,by go_num,B2.out,fun n h=>by rcases Nat.lt_or_eq_of_le (Nat.le_of_lt_succ h) with h | h;exact HALL.out n h;subst h;exact HR.out⟩
     case measure=>simp [intOf];omega
    ·clear hpr
     obtain⟨r,hr,hrl,hld⟩:=Md.loadI_ld HC.out hlt (by rw [hlp];exact hneg)
     have hli:Md.loadI x k=(r:Int):=hr
     obtain rfl:pr=(r:Int):=by rw [← hlp,hr]
     clear h3 hr hlp hneg
     have HLI:=qH hli
     obtain⟨f,hf,hf1,hf2⟩:=Ev.from_in HC.out hrl hld
     obtain⟨gf,of,ef,hcf⟩:=HX.out.fr.at_ hf1
     have hfl:=check_from HC.out
     have hfi:(r:Int) < (x.fr.l.length:Int):=by omega
     have hm1:=HX.out.fr.2.1;have hm2:=HX.out.fr.2.2.1
     have HF2:=qH hf2;have HCF:=qH hcf;have HEF:=qH ef
     clear hli hf1 hf2 hcf ef hfl hld
     go_wp2
     go_loopw [5] (fun i wr=>∃ m:Nat,m≤x.ev.length∧i=.int .i64 (m:Int)∧Below W2.heap.size W2 wr∧∀ j,j < m→Md.spoilB x j k (Md.loadI x k)=false) (fun i _=>x.ev.length - (intOf i).toNat)
     case atStart=>exact⟨0,Nat.zero_le _,rfl,Below.refl _ _,fun n hn=>absurd hn (by omega)⟩
     case round =>
      clear cx ck
      obtain⟨m,hm,rfl,hbr,hall⟩:=hrel
      have HBR4:=qH hbr;have HALL4:=qH hall
      have B4:=qH (B2.out.trans (hbr.mono B2.out.size))
      have R4:=qH ((hbr.block _ (qL R2.out)).trans R2.out)
      have cx:=Ev.kp_below B4.out _ _ HCX.out
      rw [HEG.out] at cx
      clear hbr hall
      by_cases hml:m < x.ev.length
      ·have hmi:(m:Int) < (x.ev.length:Int):=by omega
       obtain⟨e2,he2⟩:∃ e,x.ev[m]?=some e:=⟨_,List.getElem?_eq_getElem hml⟩
       obtain⟨g',o',eg',hc2⟩:=HX.out.ev.at_ he2
       rw [HEG.out] at eg'
       obtain⟨rfl,rfl⟩:g=g'∧o=o':=by simpa using eg'
       have hn2:=Ev.nth_some he2
       have cf1:wr.cell? ⟨xb,1,none⟩=some (.slice (some ⟨gf,of,none⟩) x.fr.l.length x.fr.c):=by rw [qC R4.out,← HEF.out];rfl
       have k4:=Ev.kp_below B4.out
       have q1:∀ z:Og.On wr.heap.size wr,z.x.cell? ⟨xb,0,none⟩=some (.slice (some ⟨g,o,none⟩) x.ev.length x.ce):=fun z=>Og.cellB z cx
       have q2:∀ z:Og.On wr.heap.size wr,z.x.cell? ⟨xb,1,none⟩=some (.slice (some ⟨gf,of,none⟩) x.fr.l.length x.fr.c):=fun z=>Og.cellB z cf1
       have q3:∀ z:Og.On wr.heap.size wr,z.x.cell? ⟨gf,of+r,none⟩=some (.int .i64 (f:Int)):=fun z=>Og.cellB z (k4 _ _ HCF.out)
       have q4:∀ z:Og.On wr.heap.size wr,z.x.cell? ⟨g,o+m * 13,none⟩=some (.int .i64 e2.h):=fun z=>Og.cellB z (k4 _ _ (hc2 0 _ rfl))
       have q5:∀ z:Og.On wr.heap.size wr,z.x.cell? ⟨g,o+k * 13,none⟩=some (.int .i64 e1.h):=fun z=>Og.cellB z (k4 _ _ (HC1.out 0 _ rfl))
       have LXX:=qH (fun z:Og.On wr.heap.size wr=>Og.rowB (P:=Tryz.prog) z 26 _ R4.out Tryz.underlying26 rfl (by kernel_rfl))
       obtain⟨v1,h1⟩:∃ v,(e2.h != e1.h)=v:=⟨_,rfl⟩
       obtain⟨v2,h2⟩:∃ v,Ev.isCo x (f:Int) (m:Int)=v:=⟨_,rfl⟩
       obtain⟨v3,h3⟩:∃ v,Ev.isCo x (m:Int) (k:Int)=v:=⟨_,rfl⟩
       have K1:=qH (show ∀ z:Og.On wr.heap.size wr,Calls Tryz.prog 39 #[.agg #[.slice x.ae x.ev.length x.ce,.slice x.fr.a x.fr.l.length x.fr.c,.slice x.ao x.od.length x.co],.int .i64 (f:Int),.int .i64 (m:Int)] z.x (fun e w''=>e=.returned (.bool v2)∧Below z.x.heap.size z.x w'') from fun z=>rco_is h2 hf hml z.x ((HX.out.kp (Ev.kp_below B4.out)).kp (Ev.kp_below z.b)))
       have K2:=qH (show ∀ z:Og.On wr.heap.size wr,Calls Tryz.prog 39 #[.agg #[.slice x.ae x.ev.length x.ce,.slice x.fr.a x.fr.l.length x.fr.c,.slice x.ao x.od.length x.co],.int .i64 (m:Int),.int .i64 (k:Int)] z.x (fun e w''=>e=.returned (.bool v3)∧Below z.x.heap.size z.x w'') from fun z=>rco_is h3 hml hlt z.x ((HX.out.kp (Ev.kp_below B4.out)).kp (Ev.kp_below z.b)))
       have HSP:=qH (show Md.spoilB x m k (Md.loadI x k)=(v1&&v2&&v3) by
        unfold Md.spoilB;rw [HLI.out,Int.toNat_natCast,HF2.out,h2,h3,hn2,HE1.out,← h1];rfl)
       have h1':=h1
       clear h2 h3 hn2 he2 hc2 cf1 k4 eg' h1
       cases v1 <;> cases v2 <;> cases v3
       all_goals
        go_wp2_with fail
        refine Og.regionB (by kernel_rfl) (by kernel_rfl) ?_
        repeat (first
         | go_big_quiet_skip
         | (go_big_quiet_want
            first
             | ((with_reducible show Oper.quiet _ (Oper.mk (some 47) _ _ _ _ _) _ _ _);refine Og.quiet_load 26 (.tmp 1) rfl (.agg #[.slice x.ae x.ev.length x.ce,.slice x.fr.a x.fr.l.length x.fr.c,.slice x.ao x.od.length x.co]) ⟨xb,0,none⟩ _ rfl (by rintro _ ⟨z,rfl⟩;exact LXX.out z) (by simp only [Act.put,qa,qb,qc];rfl) ?_
                go_big_quiet_on)
             | ((with_reducible show Oper.quiet _ (Oper.mk (some 57) _ _ _ _ _) _ _ _);refine Og.quiet_load 26 (.tmp 1) rfl (.agg #[.slice x.ae x.ev.length x.ce,.slice x.fr.a x.fr.l.length x.fr.c,.slice x.ao x.od.length x.co]) ⟨xb,0,none⟩ _ rfl (by rintro _ ⟨z,rfl⟩;exact LXX.out z) (by simp only [Act.put,qa,qb,qc];rfl) ?_
                go_big_quiet_on)
             | (go_big_quiet_op
                first
                 | go_big_quiet_on
                 | (apply Exists.intro
                    refine⟨fun z=>?_,?_⟩
                    ·first
                      | (with_reducible exact Og.callB (K1.out z))
                      | (with_reducible exact Og.callB (K2.out z))
                    go_big_quiet_on))))
        refine wpQuiet_nil ?_
        intro _ hw'
        obtain⟨q9,hw''⟩:=hw'
        subst hw''
        have B5:=qH (HBR4.out.trans (q9.b.mono HBR4.out.size))
       all_goals first
        | (have HNO:=qH (Md.atomB_no hlt hml (by rw [HLI.out];omega) (show Md.spoilB x m k (Md.loadI x k)=true from HSP.out))
           go_wp2_with fail
           go_ret
           exact⟨by rw [HNO.out];rfl,B0.out.trans ((B2.out.trans (B5.out.mono B2.out.size)).mono B0.out.size)⟩)
        | (go_wp2_with fail
           go_roundw
           case rel=>exact⟨m+1,by omega,by go_num,B5.out,fun n h=>by rcases Nat.lt_or_eq_of_le (Nat.le_of_lt_succ h) with h | h;exact HALL4.out n h;subst h;exact HSP.out⟩
           case measure=>simp [intOf];omega)
      ·have hmi:¬ (m:Int) < (x.ev.length:Int):=by omega
       have HR:=qH (Md.rowB_yes (fun j hj=>HALL4.out j (by omega)))
       clear hml
       go_wp2_with fail
       go_roundw
       case rel=>exact⟨k+1,by omega,by go_num,B4.out,fun n h=>by rcases Nat.lt_or_eq_of_le (Nat.le_of_lt_succ h) with h | h;exact HALL.out n h;subst h;exact HR.out⟩
       case measure=>simp [intOf];omega
  ·have hki:¬ (k:Int) < (x.ev.length:Int):=by omega
   have HYES:=qH (Md.atomB_yes (fun n hn=>HALL.out n (by omega)))
   clear hlt
   go_wp2_with fail
   go_ret
   exact⟨by rw [HYES.out];rfl,B0.out.trans (HBR.out.mono B0.out.size)⟩
end Go.Proofs.YtnjnpbabgefaeaaGreat
end
section
namespace Go.Proofs.YtnjnpbabgefaeaaGreat
open Go.RowKit
theorem results_cells2 {P:Program} {fn:Func} {p s:Tmp} {ty:TypeId} (h:fn.results=#[.cell p ty,.tmp s]) (tmps:Array Value) (w:World) (g:Nat) (t:TypeId) (cs:Array Value) (fr:Nat × Nat) (d:TypeDesc)
 (hp:tmps.getD p undef=.pointer (some ⟨g,0,none⟩)) (hg:w.heap[g]?=some (.cells cs t fr))
 (hu:P.underlying ty=some d) (hd:(match d with | .struct _ | .array _ _=>true | _=>false)=true) (hi:(P.info? ty).map (·.size)=some cs.size) :
 (results fn tmps).run P w=.ok (.tuple #[.agg cs,tmps.getD s undef]) w:=by
 have hp':tmps[p]?.getD undef=.pointer (some ⟨g,0,none⟩):=by simpa using hp
 simp [results,h,hp',asAddr,run_loadVar_row w g t ty cs fr d hg hu hd hi]
namespace Md
open Ev
def All3 (x:X):Prop:=Rk (gI (cohL x))∧Rk (gI (pl (isG6 x) x.ev.length x.ev.length))∧atomA x=true
def AllowedR (x:X) (w:World) (e:Ending) (w':World):Prop:=Below w.heap.size w w' ∧
 ((check x≠0∧e=.returned (.tuple #[.bool false,.int .i64 (check x)]))∨(check x=0∧∃ b:Bool,e=.returned (.tuple #[.bool b,.int .i64 0])∧(b=true↔All3 x)))
def JudgeR (x:X) (w:World) (e:Ending) (w':World):Prop:=Below w.heap.size w w' ∧
 ((check x≠0∧e=.returned (.tuple #[.agg #[.bool false,.bool false,.bool false],.int .i64 (check x)])) ∨
  (check x=0∧∃ b1 b2 b3:Bool,e=.returned (.tuple #[.agg #[.bool b1,.bool b2,.bool b3],.int .i64 0])∧(b1=true↔Rk (gI (cohL x)))∧(b2=true↔Rk (gI (pl (isG6 x) x.ev.length x.ev.length)))∧b3=atomA x))
def ArrowsR (x:X) (w:World) (e:Ending) (w':World):Prop:=Below w.heap.size w w' ∧
 ((check x≠0∧e=.returned (.tuple #[.slice none 0 0,.int .i64 (check x)]))∨(check x=0∧∃ a c,e=.returned (.tuple #[.slice a (pl (isG6 x) x.ev.length x.ev.length).length c,.int .i64 0])∧PairsIn w' a c (pl (isG6 x) x.ev.length x.ev.length)))
theorem AllowedR.no {x:X} {w w':World} {e:Ending} (hb:Below w.heap.size w w') (h:check x≠0) (he:e=.returned (.tuple #[.bool false,.int .i64 (check x)])):AllowedR x w e w':=⟨hb,.inl ⟨h,he⟩⟩
theorem AllowedR.yes {x:X} {w w':World} {e:Ending} (hb:Below w.heap.size w w') (h:check x=0) (b:Bool) (he:e=.returned (.tuple #[.bool b,.int .i64 0])) (hr:b=true↔All3 x):AllowedR x w e w':=⟨hb,.inr ⟨h,b,he,hr⟩⟩
theorem ArrowsR.no {x:X} {w w':World} {e:Ending} (hb:Below w.heap.size w w') (h:check x≠0) (he:e=.returned (.tuple #[.slice none 0 0,.int .i64 (check x)])):ArrowsR x w e w':=⟨hb,.inl ⟨h,he⟩⟩
theorem JudgeR.no {x:X} {w w':World} {e:Ending} (hb:Below w.heap.size w w') (h:check x≠0) (he:e=.returned (.tuple #[.agg #[.bool false,.bool false,.bool false],.int .i64 (check x)])):JudgeR x w e w':=⟨hb,.inl ⟨h,he⟩⟩
theorem JudgeR.yes {x:X} {w w':World} {e:Ending} (hb:Below w.heap.size w w') (h:check x=0) (b1 b2 b3:Bool) (he:e=.returned (.tuple #[.agg #[.bool b1,.bool b2,.bool b3],.int .i64 0])) (h1:b1=true↔Rk (gI (cohL x))) (h2:b2=true↔Rk (gI (pl (isG6 x) x.ev.length x.ev.length))) (h3:b3=atomA x):JudgeR x w e w' :=
 ⟨hb,.inr ⟨h,b1,b2,b3,he,h1,h2,h3⟩⟩
theorem tells (p:Prop):∃ b:Bool,b=true↔p:=by
 rcases Classical.em p with h | h
 ·exact⟨true,by simp [h]⟩
 ·exact⟨false,by simp [h]⟩
theorem same_bool {a b:Bool} {p:Prop} (h:a=true↔p) (k:b=true↔p):a=b:=by
 cases a <;> cases b <;> simp_all
end Md
theorem isCoherent_is (x:Ev.X) (q:Nat) (hc:Ev.check x=0) (b:Bool) (hb:b=true↔Md.Rk (Md.gI (Md.cohL x))) (w:World) (hj:Md.JIn w q x):Calls Tryz.prog 48 #[.pointer (some ⟨q,0,none⟩)] w fun e w'=>e=.returned (.bool b)∧Below w.heap.size w w' :=
 (isCoherent_any x q hc w hj).mono fun e w' ⟨r,he,hr,hw⟩=>⟨by rw [he,Md.same_bool hr hb],hw⟩
theorem isOrdered_is (x:Ev.X) (q:Nat) (hc:Ev.check x=0) (b:Bool) (hb:b=true↔Md.Rk (Md.gI (Ev.pl (Ev.isG6 x) x.ev.length x.ev.length))) (w:World) (hj:Md.JIn w q x):Calls Tryz.prog 49 #[.pointer (some ⟨q,0,none⟩)] w fun e w'=>e=.returned (.bool b)∧Below w.heap.size w w' :=
 (isOrdered_any x q hc w hj).mono fun e w' ⟨r,he,hr,hw⟩=>⟨by rw [he,Md.same_bool hr hb],hw⟩
theorem isAtomic_is (x:Ev.X) (q:Nat) (hc:Ev.check x=0) (b:Bool) (hb:b=Md.atomA x) (w:World) (hj:Md.JIn w q x):Calls Tryz.prog 50 #[.pointer (some ⟨q,0,none⟩)] w fun e w'=>e=.returned (.bool b)∧Below w.heap.size w w' :=
 hb ▸ isAtomic_any x q hc w hj
theorem jparts_any (q:Nat) (w:World):Calls Tryz.prog 35 #[.pointer (some ⟨q,0,none⟩)] w fun e w'=>e=.returned (.agg #[.func (.func 48) #[.pointer (some ⟨q,0,none⟩)] #[],.func (.func 49) #[.pointer (some ⟨q,0,none⟩)] #[],.func (.func 50) #[.pointer (some ⟨q,0,none⟩)] #[]])∧Below w.heap.size w w':=by
 go_enter Tryz.func35,Tryz.ntmps35
 go_wp2
 exact bodyPost_ret (v:=.agg #[.func (.func 48) #[.pointer (some ⟨q,0,none⟩)] #[],.func (.func 49) #[.pointer (some ⟨q,0,none⟩)] #[],.func (.func 50) #[.pointer (some ⟨q,0,none⟩)] #[]]) (results_cell_row (fn:=Tryz.f35) rfl _ _ w.heap.size 68 _ (0,0) _ rfl (heap_alloc_new _ _) Tryz.underlying68 rfl (by kernel_rfl)) rfl ⟨rfl,(Below.refl _ _).alloc (Nat.le_refl _) _⟩
theorem allowed_any (x:Ev.X) (w:World) (hin:Ev.XIn w x):Calls Tryz.prog 15 #[.agg (Ev.xcells x).toArray] w (Md.AllowedR x w):=by
 have HIN:=qH hin;clear hin
 have R0:=qH (heap_alloc_new w (.cells (Ev.xcells x).toArray 26))
 have B0:=qH ((Below.refl w.heap.size w).alloc (Nat.le_refl _) (.cells (Ev.xcells x).toArray 26))
 have HB:=qH (bring_any x _ (HIN.out.kp (Ev.kp_below B0.out)))
 go_enter Tryz.func15,Tryz.ntmps15
 go_wp2_with ((with_reducible refine qG 8 ?_);refine wpList_load_row rfl 26 (.tmp 1) rfl w.heap.size (by kernel_rfl) 26 (Ev.xcells x).toArray (0,0) _ R0.out Tryz.underlying26 rfl (by kernel_rfl) ?_)
 refine HB.out.mono ?_
 rintro e W1 ⟨hb,hr⟩
 have B1:=qH (B0.out.trans (hb.mono (by simp only [World.size_alloc];omega)));clear hb HB
 rcases hr with ⟨hc,rfl⟩ | ⟨hc,q,rfl,hj⟩
 ·obtain⟨v,hv⟩:∃ v,Ev.check x=v:=⟨_,rfl⟩
  have HV:=qH hv;have HC:=qH hc
  rw [hv] at hc ⊢
  have tv:(v != 0)=true:=by simpa using hc
  clear hv hc
  go_wp2
  go_ret2
  exact Md.AllowedR.no B1.out HC.out (by rw [HV.out];rfl)
 ·have HC:=qH hc;have HJ:=qH hj
  clear hc hj
  obtain⟨b1,h1⟩:=Md.tells (Md.Rk (Md.gI (Md.cohL x)))
  obtain⟨b2,h2⟩:=Md.tells (Md.Rk (Md.gI (Ev.pl (Ev.isG6 x) x.ev.length x.ev.length)))
  obtain⟨b3,h3⟩:∃ b3,b3=Md.atomA x:=⟨_,rfl⟩
  have HALL:Hid ((b1&&b2&&b3)=true↔Md.All3 x):=qH (by unfold Md.All3;rw [Bool.and_eq_true,Bool.and_eq_true,h1,h2,h3,and_assoc])
  have K1:=qH (fun (W:World) (hj:Md.JIn W q x)=>isCoherent_is x q HC.out b1 h1 W hj)
  have K2:=qH (fun (W:World) (hj:Md.JIn W q x)=>isOrdered_is x q HC.out b2 h2 W hj)
  have K3:=qH (fun (W:World) (hj:Md.JIn W q x)=>isAtomic_is x q HC.out b3 h3 W hj)
  clear h1 h2 h3
  go_wp2_with fail
  refine(jparts_any q W1).mono ?_
  rintro e W2 ⟨rfl,hb⟩
  obtain⟨U,hU⟩:∃ U,U=W2.alloc (.cells #[.func (.func 48) #[.pointer (some ⟨q,0,none⟩)] #[],.func (.func 49) #[.pointer (some ⟨q,0,none⟩)] #[],.func (.func 50) #[.pointer (some ⟨q,0,none⟩)] #[]] 68):=⟨_,rfl⟩
  have hbu:Below W2.heap.size W2 U:=by rw [hU];exact(Below.refl _ _).alloc (Nat.le_refl _) _
  have BU:=qH (hb.trans (hbu.mono hb.size))
  have ru:U.heap[W2.heap.size]?=some (.cells #[.func (.func 48) #[.pointer (some ⟨q,0,none⟩)] #[],.func (.func 49) #[.pointer (some ⟨q,0,none⟩)] #[],.func (.func 50) #[.pointer (some ⟨q,0,none⟩)] #[]] 68 (0,0)):=by rw [hU];exact heap_alloc_new _ _
  have RU:=qH ru;have HU:=qH hU
  clear hb hbu hU ru
  have c0:U.cell? ⟨W2.heap.size,0,none⟩=some (.func (.func 48) #[.pointer (some ⟨q,0,none⟩)] #[]):=by rw [qC RU.out];rfl
  go_wp2_with ((with_reducible refine qG 18 ?_);rw [← HU.out])
  refine(K1.out U (HJ.out.kp BU.out)).mono ?_
  rintro e W3 ⟨rfl,hb⟩
  have BW:=qH (BU.out.trans (hb.mono BU.out.size))
  have RW:=qH ((hb.block _ (qL RU.out)).trans RU.out)
  clear hb c0
  cases b1
  ·have HF:=qH (show false=true↔Md.All3 x from by simpa using HALL.out)
   go_wp2_with fail
   go_ret2
   exact Md.AllowedR.yes (B1.out.trans (BW.out.mono B1.out.size)) HC.out false rfl HF.out
  have c1:W3.cell? ⟨W2.heap.size,1,none⟩=some (.func (.func 49) #[.pointer (some ⟨q,0,none⟩)] #[]):=by rw [qC RW.out];rfl
  go_wp2_with fail
  refine(K2.out W3 (HJ.out.kp BW.out)).mono ?_
  rintro e W4 ⟨rfl,hb⟩
  have BX:=qH (BW.out.trans (hb.mono BW.out.size))
  have RX:=qH ((hb.block _ (qL RW.out)).trans RW.out)
  clear hb c1
  cases b2
  ·have HF:=qH (show false=true↔Md.All3 x from by simpa using HALL.out)
   go_wp2_with fail
   go_ret2
   exact Md.AllowedR.yes (B1.out.trans (BX.out.mono B1.out.size)) HC.out false rfl HF.out
  have c2:W4.cell? ⟨W2.heap.size,2,none⟩=some (.func (.func 50) #[.pointer (some ⟨q,0,none⟩)] #[]):=by rw [qC RX.out];rfl
  go_wp2_with fail
  refine(K3.out W4 (HJ.out.kp BX.out)).mono ?_
  rintro e W5 ⟨rfl,hb⟩
  have BY:=qH (BX.out.trans (hb.mono BX.out.size))
  clear hb c2
  have HF:=qH (show b3=true↔Md.All3 x from by simpa using HALL.out)
  go_wp2_with fail
  go_ret2
  exact Md.AllowedR.yes (B1.out.trans (BY.out.mono B1.out.size)) HC.out b3 rfl HF.out
end Go.Proofs.YtnjnpbabgefaeaaGreat
end
section
namespace Go.Proofs.YtnjnpbabgefaeaaGreat
open Go.RowKit
end Go.Proofs.YtnjnpbabgefaeaaGreat
end
