import Derived.Test.YtnjnpbabgefaeaaGreatKp04
import Derived.Test.YtnjnpbabgefaeaaGreatKp36
import Derived.Test.YtnjnpbabgefaeaaGreatKp35
import Derived.Test.YtnjnpbabgefaeaaGreatKp40
import Derived.Test.YtnjnpbabgefaeaaGreatKp03
import Derived.Test.YtnjnpbabgefaeaaGreatKp41
import Derived.Test.YtnjnpbabgefaeaaGreatKp37
import Derived.Test.YtnjnpbabgefaeaaGreatKp25
import Derived.Test.YtnjnpbabgefaeaaGreatKp21
import Derived.Test.YtnjnpbabgefaeaaGreatKpH
set_option maxRecDepth 100000
set_option maxHeartbeats 4000000
set_option linter.unusedVariables false
set_option linter.unusedSimpArgs false
section
namespace Go.Proofs.YtnjnpbabgefaeaaGreat
open Go.RowKit
namespace Md
open Ev
def exe (x:X):Exe where
 n:=x.ev.length
 ac:=fun a=>a < x.ev.length∧(nth x.ev a).k≠4
 st:=fun a=>a < x.ev.length∧stores (nth x.ev a).k=true
 ld:=fun a=>a < x.ev.length∧loads (nth x.ev a).k=true
 h:=fun a=>(nth x.ev a).h
 ad:=fun a=>(nth x.ev a).a
 pl:=fun a=>place x a
 rf:=fun a=>(frAt x a).toNat
 ppo:=fun a b=>a < x.ev.length∧b < x.ev.length∧isPpo x a b=true
theorem k_some {k:Int} (h:1≤k∧k≤5) (h4:k≠4):stores k=true∨loads k=true:=by
 have:k=1∨k=2∨k=3∨k=5:=by omega
 rcases this with rfl | rfl | rfl | rfl
 ·exact .inr rfl
 ·exact .inl rfl
 ·exact .inl rfl
 ·exact .inl rfl
theorem from_ok {x:X} (hc:check x=0) {a:Nat} (ha:a < x.ev.length) (hl:loads (nth x.ev a).k=true) :
 ∃ f:Nat,f < x.ev.length∧frAt x a=f∧stores (nth x.ev f).k=true∧(nth x.ev f).a=(nth x.ev a).a∧f≠a∧(nth x.ev f).v=(nth x.ev a).r:=by
 obtain⟨_,h2,_⟩:=check_order hc
 unfold fromOk at h2
 simp only [Bool.and_eq_true,beq_iff_eq,List.all_eq_true] at h2
 have h:=h2.2 a (List.mem_range.2 ha)
 unfold fromAt at h
 rw [if_pos hl] at h
 unfold readOk inB at h
 simp only [Bool.and_eq_true,decide_eq_true_eq,beq_iff_eq,Bool.not_eq_true',beq_eq_false_iff_ne,bne_iff_ne] at h
 obtain⟨⟨⟨⟨⟨h1,h2⟩,h3⟩,h4⟩,h5⟩,h6⟩:=h
 have e:(((x.fr.l.getD a 0).toNat:Nat):Int)=x.fr.l.getD a 0:=by omega
 refine⟨(x.fr.l.getD a 0).toNat,by omega,by unfold frAt;omega,by rw [e];exact h4,by rw [e];first | exact h5 | exact h5.symm,fun e2=>?_,by rw [e];first | exact h6 | exact h6.symm⟩
 apply h3
 omega
theorem rule_1 {x:X} {a b:Nat} (hp:isPo x a b=true) (h4:(nth x.ev a).k≠4) (hs:stores (nth x.ev b).k=true) (he:(nth x.ev a).a=(nth x.ev b).a):isPpo x a b=true:=by
 unfold isPpo
 refine List.any_eq_true.2 ⟨0,by decide,?_⟩
 unfold rule
 rw [if_neg]
 ·show((nth x.ev a).a==(nth x.ev b).a&&stores (nth x.ev b).k)=true
  rw [hs,he];simp
 ·rintro(h | h | h)
  ·rw [hp] at h;cases h
  ·exact h4 h
  ·rw [h] at hs;cases hs
theorem rule_2 {x:X} {a b:Nat} (hp:isPo x a b=true) (ha:loads (nth x.ev a).k=true) (hb:loads (nth x.ev b).k=true) (he:(nth x.ev a).a=(nth x.ev b).a) (hf:frAt x a≠frAt x b)
 (hm:∀ m:Nat,a < m→m < b→¬ (stores (nth x.ev m).k=true∧(nth x.ev m).a=(nth x.ev a).a)):isPpo x a b=true:=by
 unfold isPpo
 refine List.any_eq_true.2 ⟨1,by decide,?_⟩
 unfold rule
 rw [if_neg]
 ·show ruleOf x 2 a b=true
  rw [rule2_is,ha,hb,he]
  simp only [beq_self_eq_true,Bool.true_and,Bool.and_eq_true,Bool.not_eq_true',beq_eq_false_iff_ne,List.all_eq_true]
  refine⟨hf,fun m hmm=>?_⟩
  have h2:a < m∧m < b:=by
   unfold upTo at hmm
   obtain⟨i,hi,rfl⟩:=List.mem_map.1 hmm
   have:=List.mem_range.1 hi
   omega
  have h3:=hm m h2.1 h2.2
  unfold cl
  cases hs:stores (nth x.ev m).k
  ·rfl
  ·have:((nth x.ev m).a==(nth x.ev a).a)=false:=by rw [beq_eq_false_iff_ne];exact fun e=>h3 ⟨hs,e⟩
   rw [this];rfl
 ·rintro(h | h | h)
  ·rw [hp] at h;cases h
  ·rw [h] at ha;cases ha
  ·rw [h] at hb;cases hb
theorem ppo_parts {x:X} {a b:Nat} (h:isPpo x a b=true):isPo x a b=true∧(nth x.ev a).k≠4∧(nth x.ev b).k≠4:=by
 unfold isPpo at h
 obtain⟨i,_,hi⟩:=List.any_eq_true.1 h
 unfold rule at hi
 by_cases hno:isPo x a b=false∨(nth x.ev a).k=4∨(nth x.ev b).k=4
 ·rw [if_pos hno] at hi;cases hi
 ·refine⟨?_,fun e=>hno (.inr (.inl e)),fun e=>hno (.inr (.inr e))⟩
  cases hp:isPo x a b
  ·exact absurd (.inl hp) hno
  ·rfl
theorem po_iff {x:X} {a b:Nat}:isPo x a b=true↔(exe x).po a b:=by
 unfold isPo Exe.po exe
 simp only [Bool.and_eq_true,decide_eq_true_eq,beq_iff_eq]
 exact⟨fun h=>⟨h.1.1,h.1.2,h.2⟩,fun h=>⟨⟨h.1,h.2.1⟩,h.2.2⟩⟩
theorem beg_place {x:X} (hc:check x=0) {b m:Nat} (hb:b < x.ev.length) (hm:m < x.ev.length) (h5:(nth x.ev b).k=5) (hs:stores (nth x.ev m).k=true) (he:(nth x.ev m).a=(nth x.ev b).a) (hne:m≠b):place x b < place x m:=by
 have hv:=ev_all hc
 have hsb:stores (nth x.ev b).k=true:=by rw [h5];rfl
 obtain⟨i,s,v,h1,h2,h3,h4,hp⟩:=place_at hc hb hsb
 obtain⟨j,t,u,k1,k2,k3,k4,kp⟩:=place_at hc hm hs
 have hbb:=five_lt hv hb h5
 have hib:i=b:=beg_inj hv h2 hbb h3
 have hji:j=i:=beg_inj hv k2 h2 (by rw [k3,h3,he])
 subst hib
 subst hji
 rw [h1] at k1
 obtain rfl:s=t:=Option.some.inj k1
 have hrow:s.l[0]?=some (j:Int):=by
  obtain⟨ho,_,_⟩:=check_order hc
  unfold orderOk at ho
  simp only [Bool.and_eq_true,List.all_eq_true] at ho
  have:=ho.2 j (List.mem_range.2 (List.getElem?_eq_some_iff.1 h1).1)
  unfold orderAt at this
  rw [h1] at this
  simp only [Bool.and_eq_true,beq_iff_eq] at this
  have h0:=this.1.2
  have hpos:0 < s.l.length:=by have:=(List.getElem?_eq_some_iff.1 h4).1;omega
  rw [List.getElem?_eq_getElem hpos]
  rw [List.getD_eq_getElem?_getD,List.getElem?_eq_getElem hpos] at h0
  simpa using h0
 obtain⟨_,_,hd,_⟩:=od_at hc h1
 have hv0:v=0:=((List.getElem?_inj (List.getElem?_eq_some_iff.1 h4).1 hd).1 (h4.trans hrow.symm))
 have hu0:u≠0:=fun e=>by
  rw [e,hrow] at k4
  have:=Option.some.inj k4
  omega
 rw [hp,kp];omega
theorem exe_ok {x:X} (hc:check x=0):(exe x).Ok where
 stac:=fun {a} h=>⟨h.1,fun e=>by have:=h.2;rw [e] at this;cases this⟩
 ldac:=fun {a} h=>⟨h.1,fun e=>by have:=h.2;rw [e] at this;cases this⟩
 some_:=fun {a} h=>(k_some (ev_ok hc h.1).k h.2).imp (fun e=>⟨h.1,e⟩) (fun e=>⟨h.1,e⟩)
 lt:=fun h=>h.1
 inj:=fun {a b} ha hb he hp=>place_inj hc ha.1 hb.1 ha.2 hb.2 he hp
 rfst:=fun {a} h=>by
  obtain⟨f,hf,e,hs,hae,hne,_⟩:=from_ok hc h.1 h.2
  have:(exe x).rf a=f:=by show(frAt x a).toNat=f;omega
  rw [this]
  exact⟨⟨hf,hs⟩,hae,hne⟩
 beg0:=fun {b m} hb hh hm he hne=>by
  have h5:(nth x.ev b).k=5:=by
   apply Classical.byContradiction;intro h5
   have:=(ev_ok hc hb.1).h0 h5
   have hh:(nth x.ev b).h < 0:=hh
   omega
  exact beg_place hc hb.1 hm.1 h5 hm.2 he hne
 ldh:=fun {a} h=>(ev_ok hc h.1).h0 (fun e=>by have:=h.2;rw [e] at this;cases this)
 mid:=fun {a b m} h1 h2 h3 hh=>by
  have h3:b < x.ev.length:=h3
  have hh:(nth x.ev a).h=(nth x.ev b).h:=hh
  have e1:=hart_le hc (i:=a) m (by omega) (by omega)
  have e2:=hart_le hc (i:=m) b (by omega) h3
  show(nth x.ev m).h=(nth x.ev a).h
  omega
 ppo_po:=fun {a b} h=>by
  obtain⟨h1,h2,h3⟩:=ppo_parts h.2.2
  exact⟨po_iff.1 h1,⟨h.1,h2⟩,⟨h.2.1,h3⟩⟩
 r1:=fun {a b} hp ha hb he=>⟨ha.1,hb.1,rule_1 (po_iff.2 hp) ha.2 hb.2 he⟩
 r2:=fun {a b} hp ha hb he hf hm=>⟨ha.1,hb.1,rule_2 (po_iff.2 hp) ha.2 hb.2 he (fun e=>hf (by show(frAt x a).toNat=(frAt x b).toNat;rw [e])) fun m h1 h2 h3=>hm m h1 h2 ⟨⟨by have:=hb.1;omega,h3.1⟩,h3.2⟩⟩
end Md
end Go.Proofs.YtnjnpbabgefaeaaGreat
end
section
namespace Go.Proofs.YtnjnpbabgefaeaaGreat
open Go.RowKit
namespace Md
open Ev
def Rk (ps:List (Int × Int)):Prop:=∃ rank:Int→Int,∀ p ∈ ps,rank p.1 < rank p.2
def Tp (n:Nat) (ps:List (Int × Int)):Prop:=∃ l,Topo ps l∧∀ x,0≤x→x < (n:Int)→x ∈ l
theorem topo_sorted {ps:List (Int × Int)} {rank:Int→Int} (hr:∀ p ∈ ps,rank p.1 < rank p.2):∀ {l:List Int},l.Pairwise (fun a b=>rank a≤rank b)→(∀ p ∈ l,∀ q,(p,q) ∈ ps→q ∈ l)→Topo ps l
 | [],_,_=>.nil
 | a :: l,hp,hc=>by
   have hp:=List.pairwise_cons.1 hp
   refine .cons (fun q hq=>?_) (topo_sorted hr hp.2 fun p hpl q hq=>?_)
   ·rcases List.mem_cons.1 (hc a List.mem_cons_self q hq) with rfl | h
    ·have:=hr _ hq;simp only at this;omega
    ·exact h
   ·rcases List.mem_cons.1 (hc p (List.mem_cons_of_mem _ hpl) q hq) with rfl | h
    ·have h1:=hr _ hq;have h2:=hp.1 p hpl;simp only at h1;omega
    ·exact h
theorem rk_tp {n:Nat} {ps:List (Int × Int)} (hr:InR n ps):Rk ps↔Tp n ps:=by
 constructor
 ·rintro⟨rank,h⟩
  let le:Int→Int→Bool:=fun a b=>decide (rank a≤rank b)
  let l0:=(List.range n).map fun i:Nat=>(i:Int)
  have hmem:∀ x,x ∈ l0.mergeSort le↔0≤x∧x < (n:Int):=fun x=>by
   rw [(List.mergeSort_perm l0 le).mem_iff]
   simp only [l0,List.mem_map,List.mem_range]
   constructor
   ·rintro⟨i,hi,rfl⟩;omega
   ·rintro⟨h1,h2⟩;exact⟨x.toNat,by omega,by omega⟩
  refine⟨l0.mergeSort le,topo_sorted h ?_ (fun p _ q hq=>?_),fun x h1 h2=>(hmem x).2 ⟨h1,h2⟩⟩
  ·have:=List.pairwise_mergeSort (le:=le) (fun a b c h1 h2=>by simp only [le,decide_eq_true_eq] at *;omega) (fun a b=>by simp only [le,Bool.or_eq_true,decide_eq_true_eq];omega) l0
   exact this.imp fun h=>of_decide_eq_true h
  ·have:=hr.2.2 _ hq
   exact(hmem q).2 ⟨this.2.2.1,this.2.2.2⟩
 ·rintro⟨l,ht,hl⟩
  obtain⟨rank,h⟩:=ht.rank
  refine⟨fun x=>-(rank x:Int),fun p hp=>?_⟩
  have h1:=hr.2.2 p hp
  have:=h p.1 (hl _ h1.1 h1.2.1) p.2 hp
  show -(rank p.1:Int) < -(rank p.2:Int)
  omega
theorem rk_rev {ps:List (Int × Int)}:Rk (rev ps)↔Rk ps:=by
 constructor
 ·rintro⟨rank,h⟩
  refine⟨fun x=>-(rank x),fun p hp=>?_⟩
  have:=h (p.2,p.1) (mem_rev.2 hp)
  show -(rank p.1) < -(rank p.2)
  simp only at this;omega
 ·rintro⟨rank,h⟩
  refine⟨fun x=>-(rank x),fun p hp=>?_⟩
  have:=h (p.2,p.1) (mem_rev.1 hp)
  show -(rank p.1) < -(rank p.2)
  simp only at this;omega
theorem circ_rk {n:Nat} {ps:List (Int × Int)} (hr:InR n ps) {b:Bool} (h:(b=false→∃ L,Topo (rev ps) L∧∀ x,0≤x→x < (n:Int)→x ∈ L)∧((∃ l0,Topo ps l0∧∀ x,0≤x→x < (n:Int)→x ∈ l0)→b=false)):b=false↔Rk ps :=
 ⟨fun hb=>rk_rev.1 ((rk_tp (inR_rev hr)).2 (h.1 hb)),fun hk=>h.2 ((rk_tp hr).1 hk)⟩
theorem rk_no_cyc {ps:List (Int × Int)} (h:Rk ps):¬ Cyc ps:=by
 obtain⟨rank,h⟩:=h
 exact rank_acyclic rank h
theorem rk_sub {ps qs:List (Int × Int)} (h:∀ p ∈ ps,p ∈ qs) (k:Rk qs):Rk ps:=by
 obtain⟨rank,hr⟩:=k
 exact⟨rank,fun p hp=>hr p (h p hp)⟩
def atomB (x:X):Bool:=(List.range x.ev.length).all fun n:Nat =>
 let r:Int:=if (nth x.ev n).k=3 then (n:Int) else paired x n
 decide (r < 0)||(List.range x.ev.length).all fun m:Nat=>!(!((nth x.ev m).h==(nth x.ev n).h)&&isCo x (frAt x r.toNat) m&&isCo x m n)
end Md
end Go.Proofs.YtnjnpbabgefaeaaGreat
end
section
namespace Go.Proofs.YtnjnpbabgefaeaaGreat
open Go.RowKit Go.Maps Go.WideElems
theorem only_any (a:Option Addr) (c:Nat) (ps:List (Nat × Nat)) (G:FuncId) (caps:Array Value) (f:Nat × Nat→Bool) (w:World) (hin:Ev.PairsIn w a c ps) (hlen:ps.length≤8192) (hE:Ev.Enters G)
 (hF:∀ W,Below w.heap.size w W→∀ p ∈ ps,Calls Tryz.prog G (#[Md.pkV p]++caps) W fun e w'=>e=.returned (.bool (f p))∧Below W.heap.size W w') :
 Calls Tryz.prog 56 #[.slice a ps.length c,.func (.func G) #[] caps] w fun e w'=>∃ a' c',e=.returned (.slice a' (ps.filter f).length c')∧Ev.PairsIn w' a' c' (ps.filter f)∧Below w.heap.size w w':=by
 have hmax:=hin.max;have hle:=hin.le
 have HIN:=qH hin;have HF:=qH hF;have HE:=qH hE;clear hin hF hE
 obtain⟨i0,hi,hz0,hz1,hz2⟩:=info_pair
 have HI:=qH hi;have HZ0:=qH hz0;have HZ1:=qH hz1;have HZ2:=qH hz2
 clear hi hz0 hz1 hz2
 go_enter Tryz.func56,Tryz.ntmps56
 go_wp2
 go_loopw [5,7,10] (fun v _ i wr=>∃ k:Nat,k≤ps.length∧i=.int .i64 (k:Int)∧wr.ownsRow w.heap.size 72 2 v ((ps.take k).filter f).length (((ps.take k).filter f).flatMap Ev.pv)∧Below w.heap.size w wr) (fun _ _ i _=>ps.length - (intOf i).toNat)
 case atStart =>
  exact⟨0,Nat.zero_le _,rfl,World.ownsRow_nil _ _ _ _,Below.refl _ _⟩
 case round =>
  obtain⟨k,hk,rfl,hrow,hbr⟩:=hrel
  have HROW:=qH hrow;have HBR:=qH hbr
  clear hrow hbr
  by_cases hlt:k < ps.length
  ·obtain⟨p,hp⟩:∃ p,ps[k]?=some p:=⟨_,List.getElem?_eq_getElem hlt⟩
   obtain⟨g2,o2,ea2,hc2⟩:=Md.PairsIn.at_ (Md.PairsIn.kp HIN.out (Ev.kp_below HBR.out)) hp
   have HPM:=qH (List.mem_of_getElem? hp)
   have HTS:=qH (Md.take_snoc' hp)
   have HC2:=qH hc2
   have hki:(k:Int) < (ps.length:Int):=by omega
   have hfl:((ps.take k).filter f).length≤k:=Nat.le_trans (List.length_filter_le _ _) (List.length_take_le _ _)
   have HFL:=qH hfl
   have hcf:=HE.out
   unfold Ev.Enters at hcf
   clear hp hc2 hfl
   rw [ea2];clear ea2
   go_wp2_with (first
    | ((with_reducible refine qG 13 ?_);refine wpList_load_at rfl 72 (.tmp 12) rfl g2 (o2+k * 2) (by kernel_rfl) [.int .i64 (p.1:Int),.int .i64 (p.2:Int)] _ HC2.out Tryz.underlying72 rfl (by kernel_rfl) ?_)
    | ((with_reducible show wpList _ _ _ (Oper.mk none (Op.store 72 _ _) _ _ _ _ :: _) _ _);refine wpList_store_own rfl 72 (.tmp 7) (.tmp 13) rfl wr.heap.size #[.int .i64 (p.1:Int),.int .i64 (p.2:Int)] rfl rfl 72 #[.int .i64 0,.int .i64 0] (heap_alloc_new _ _) (by kernel_rfl) (by kernel_rfl) (by kernel_rfl) ?_
       intro W1 HW1
       have B1:=qH (((Below.refl wr.heap.size wr).alloc (Nat.le_refl _) _).trans HW1.below)
       have RW1:=qH HW1.row
       clear HW1)
    | ((with_reducible refine qG 15 ?_);refine wpList_load_row rfl 72 (.tmp 7) rfl wr.heap.size (by kernel_rfl) 72 #[.int .i64 (p.1:Int),.int .i64 (p.2:Int)] (0,0) _ RW1.out Tryz.underlying72 rfl (by kernel_rfl) ?_))
   clear hcf
   obtain⟨b,hb⟩:∃ b,f p=b:=⟨_,rfl⟩
   have HFP:=HF.out W1 (HBR.out.trans (B1.out.mono HBR.out.size)) p HPM.out
   rw [hb] at HFP
   refine HFP.mono ?_
   clear HFP
   rintro e W2 ⟨rfl,hb2⟩
   have HB2:=qH ((HBR.out.trans (B1.out.mono HBR.out.size)).trans (hb2.mono (Nat.le_trans HBR.out.size B1.out.size)))
   have RW2:=qH ((hb2.block wr.heap.size (qL RW1.out)).trans RW1.out)
   have HR2:=qH (Ev.row_below (Ev.row_below HROW.out B1.out) hb2)
   have HSZ:=qH (show wr.heap.size < W2.heap.size from (qL RW2.out))
   have HWS:=qH (show w.heap.size≤wr.heap.size from HBR.out.size)
   have HB:=qH hb
   clear hb hb2
   cases b
   ·have HTF:=qH (show(ps.take (k+1)).filter f=(ps.take k).filter f by rw [HTS.out,List.filter_append];simp [HB.out])
    go_wp2_with fail
    go_roundw
    case rel=>exact⟨k+1,by omega,by go_num,by rw [HTF.out];exact HR2.out,HB2.out⟩
    case measure=>simp [intOf];omega
   ·have HTF:=qH (show(ps.take (k+1)).filter f=(ps.take k).filter f++[p] by rw [HTS.out,List.filter_append];simp [HB.out])
    obtain⟨L,hL⟩:∃ L,L=(ps.take k).filter f:=⟨_,rfl⟩
    have HL:=qH hL
    have HR3:=qH (show W2.ownsRow w.heap.size 72 2 u5 L.length (L.flatMap Ev.pv) by rw [hL];exact HR2.out)
    have hLn:L.length≤8192:=by rw [hL];have:=HFL.out;omega
    clear hL HR2
    go_wp2_with (first
     | ((with_reducible refine qG 18 ?_);refine wpList_load_row rfl 72 (.tmp 7) rfl wr.heap.size (by kernel_rfl) 72 #[.int .i64 (p.1:Int),.int .i64 (p.2:Int)] (0,0) _ RW2.out Tryz.underlying72 rfl (by kernel_rfl) ?_)
     | ((with_reducible refine qG 20 ?_);refine wpList_append_own _ rfl (.tmp 17) (.tmp 19) 37 rfl w.heap.size 72 i0 (.agg #[.int .i64 0,.int .i64 0]) 2 16 Tryz.underlying37 HI.out HZ0.out HZ1.out HZ2.out rfl (by decide) _ _ _ rfl (HR3.out.alloc _) ⟨W2.heap.size,0,none⟩ 1 1 (Ev.pv p) rfl rfl (fun j u hu=>World.news_of_block (heap_alloc_new W2 _) j u hu) (Ev.pv_one _) (by unfold maxLen;omega) (by omega) (by have:=HB2.out.size;simp only [World.size_alloc];omega) ?_
        intro v' w3 hown hgrow _
        have HOWN:=qH hown;have HGR:=qH hgrow;clear hown hgrow))
    have HB5:=qH (Below.grown (HB2.out.alloc HB2.out.size _) HGR.out (by have:=HB2.out.size;simp only [World.size_alloc];omega) (fun k hk=>Ev.own_ge HR3.out hk))
    go_roundw
    case rel =>
     refine⟨k+1,by omega,by go_num,?_,HB5.out⟩
     rw [HTF.out,← HL.out,List.length_append,List.flatMap_append]
     simpa using HOWN.out
    case measure=>simp [intOf];omega
  ·have hki:¬ (k:Int) < (ps.length:Int):=by omega
   have hrow:=HROW.out
   rw [show k=ps.length by omega,List.take_length] at hrow
   obtain⟨A,c',hv,hp⟩:=Ev.pairs_of_row hrow
   have HP:=qH hp
   subst hv
   clear hrow hp hlt
   go_wp2
   go_ret
   exact⟨A,c',rfl,HP.out,HBR.out⟩
theorem lead_any (b n:Nat) (S:List (Nat × Nat)) (p q:Nat) (hp:p < 64) (hq:q < 64) (w:World) (hin:Md.PSet w b n S) :
 Calls Tryz.prog 69 #[.map (some b),.int .i64 (p:Int),.int .i64 (q:Int)] w fun e w'=>e=.returned (.bool (decide ((p,q) ∈ S)))∧Below w.heap.size w w':=by
 obtain⟨D,ho,hD⟩:=hin.ex
 have HO:=qH ho
 have HKEY:=qH (Md.key_mk (p:=(p,q)) ⟨hp,hq⟩)
 obtain⟨r,hr⟩:∃ r,decide ((p,q) ∈ S)=r:=⟨_,rfl⟩
 have HH:=qH ((hD.1 (p,q) ⟨hp,hq⟩).trans hr)
 rw [hr]
 clear hr ho hD hin
 go_enter Tryz.func69,Tryz.ntmps69
 go_wp2_with (at_lookup;refine wpList_lookup_own_unit _ rfl _ _ 77 rfl 72 94 Md.law_pair Tryz.underlying77 (zero_unit _) b n D rfl HO.out _ _ rfl HKEY.out ?_;rw [HH.out])
 go_ret
 exact⟨rfl,(Below.refl _ _).alloc (Nat.le_refl _) _⟩
end Go.Proofs.YtnjnpbabgefaeaaGreat
end
section
namespace Go.Proofs.YtnjnpbabgefaeaaGreat
open Go.RowKit
theorem rcheck_is {x:Ev.X} {v:Int} (h:Ev.check x=v) (w:World) (hin:Ev.XIn w x):Calls Tryz.prog 12 #[.agg (Ev.xcells x).toArray] w fun e w'=>e=.returned (.int .i64 v)∧Below w.heap.size w w':=h ▸ rcheck_any x w hin
theorem ppo_pl {x:Ev.X} (hc:Ev.check x=0):Ev.pl (Or.ppo x) x.ev.length x.ev.length=Ev.pl (Ev.isPpo x) x.ev.length x.ev.length:=by
 refine Or.pl_congr fun a b ha hb=>?_
 unfold Or.ppo Ev.isPpo
 rw [Or.hold_eq hc ha hb,Bool.eq_iff_iff]
 simp only [Bool.not_eq_true',List.isEmpty_eq_false_iff_exists_mem,List.mem_filter,List.mem_range,Bool.and_eq_true,decide_eq_true_eq,List.any_eq_true]
 constructor
 ·rintro⟨i,h1,h2,h3⟩
  exact⟨i - 1,by omega,by rw [show i - 1+1=i by omega];exact h3⟩
 ·rintro⟨i,h1,h2⟩
  exact⟨i+1,by omega,by omega,h2⟩
end Go.Proofs.YtnjnpbabgefaeaaGreat
end
section
namespace Go.Proofs.YtnjnpbabgefaeaaGreat
open Go.RowKit
namespace Md
open Ev
variable {c1 c2 c3:Bool}
section
variable {x:X} {a':Option Addr} {c:Nat}
end
end Md
end Go.Proofs.YtnjnpbabgefaeaaGreat
end
section
namespace Go.Proofs.YtnjnpbabgefaeaaGreat
open Go.RowKit
namespace Md
open Ev
theorem len_le_of_sub:∀ {l m:List Nat},l.Nodup→(∀ a ∈ l,a ∈ m)→l.length≤m.length
 | [],m,_,_=>Nat.zero_le _
 | a :: r,m,hd,hs=>by
   have ha:=hs a List.mem_cons_self
   have h:=List.nodup_cons.1 hd
   have h1:=len_le_of_sub (m:=m.erase a) h.2 fun b hb=>(List.mem_erase_of_ne (show b≠a from fun e=>h.1 (e ▸ hb))).2 (hs b (List.mem_cons_of_mem _ hb))
   rw [List.length_erase_of_mem ha] at h1
   have h2:0 < m.length:=List.length_pos_of_mem ha
   rw [List.length_cons];omega
theorem all_of_len {l m:List Nat} (hd:l.Nodup) (hs:∀ a ∈ l,a ∈ m) (he:m.length≤l.length):∀ a ∈ m,a ∈ l:=fun a ha=>by
 by_cases h:a ∈ l
 ·exact h
 ·have:=len_le_of_sub (l:=a :: l) (m:=m) (List.nodup_cons.2 ⟨h,hd⟩) (fun b hb=>by
   rcases List.mem_cons.1 hb with rfl | hb
   ·exact ha
   ·exact hs b hb)
  rw [List.length_cons] at this;omega
def lastGo (p:Nat→Nat→Bool):List Nat→Nat→Int→Int
 | [],_,v=>v
 | m :: r,i,v=>lastGo p r (i+1) (if p m i=true then (m:Int) else v)
theorem lastGo_iff {p:Nat→Nat→Bool} {f:Nat}:∀ {l:List Nat} {i:Nat} {v:Int},lastGo p l i v=(f:Int) ↔
 ((∃ k,l[k]?=some f∧p f (i+k)=true∧∀ j m,k < j→l[j]?=some m→p m (i+j)=false)∨(v=f∧∀ j m,l[j]?=some m→p m (i+j)=false))
 | [],i,v=>by
   unfold lastGo
   constructor
   ·intro h;exact .inr ⟨h,fun j m h=>by simp at h⟩
   ·rintro(⟨k,h,_⟩ | ⟨h,_⟩)
    ·simp at h
    ·exact h
 | m :: r,i,v=>by
   unfold lastGo
   rw [lastGo_iff]
   constructor
   ·rintro(⟨k,h1,h2,h3⟩ | ⟨h1,h2⟩)
    ·refine .inl ⟨k+1,by simpa using h1,by rw [show i+(k+1)=i+1+k by omega];exact h2,fun j m' hj hm=>?_⟩
     match j,hj,hm with
     | j+1,hj,hm=>rw [show i+(j+1)=i+1+j by omega];exact h3 j m' (by omega) (by simpa using hm)
    ·cases hp:p m i with
     | true =>
       rw [hp,if_pos rfl] at h1
       have e:m=f:=by omega
       refine .inl ⟨0,by rw [e];rfl,by rw [← e];exact hp,fun j m' hj hm=>?_⟩
       match j,hj,hm with
       | j+1,hj,hm=>rw [show i+(j+1)=i+1+j by omega];exact h2 j m' (by simpa using hm)
     | false =>
       rw [hp,if_neg (by simp)] at h1
       refine .inr ⟨h1,fun j m' hm=>?_⟩
       match j,hm with
       | 0,hm =>
         obtain rfl:m=m':=by simpa using hm
         exact hp
       | j+1,hm=>rw [show i+(j+1)=i+1+j by omega];exact h2 j m' (by simpa using hm)
   ·rintro(⟨k,h1,h2,h3⟩ | ⟨h1,h2⟩)
    ·match k,h1,h2,h3 with
     | 0,h1,h2,h3 =>
       have e:m=f:=by simpa using h1
       refine .inr ⟨by rw [Nat.add_zero] at h2;rw [e,if_pos h2],fun j m' hm=>?_⟩
       rw [show i+1+j=i+(j+1) by omega];exact h3 (j+1) m' (by omega) (by simpa using hm)
     | k+1,h1,h2,h3 =>
       refine .inl ⟨k,by simpa using h1,by rw [show i+1+k=i+(k+1) by omega];exact h2,fun j m' hj hm=>?_⟩
       rw [show i+1+j=i+(j+1) by omega];exact h3 (j+1) m' (by omega) (by simpa using hm)
    ·refine .inr ⟨?_,fun j m' hm=>?_⟩
     ·rw [if_neg (by have:=h2 0 m rfl;simp only [Nat.add_zero] at this;rw [this];simp)];exact h1
     ·rw [show i+1+j=i+(j+1) by omega];exact h2 (j+1) m' (by simpa using hm)
def cI (l:List Nat):List Int:=l.map fun a:Nat=>(a:Int)
def seen (x:X) (at':Int) (n m i:Nat):Bool:=!(decide (m=n))&&stores (nth x.ev m).k&&(nth x.ev m).a==(nth x.ev n).a&&(decide ((i:Int) < at')||isPo x m n)
def sees (x:X) (l:List Nat) (n:Nat):Int:=lastGo (seen x (at_ (cI l) n) n) l 0 (-1)
def rightB (x:X) (l:List Nat):Bool:=(List.range l.length).all fun i =>
 ((List.range l.length).all fun k=>!(decide (i < k))||!(isPpo x (l.getD k 0) (l.getD i 0)||isCo x (l.getD k 0:Nat) (l.getD i 0:Nat)))&&(!(loads (nth x.ev (l.getD i 0:Nat)).k)||sees x l (l.getD i 0)==frAt x (l.getD i 0))
def accs (x:X):List Nat:=(List.range x.ev.length).filter fun a:Nat=>!((nth x.ev a).k==4)
def begs (x:X):List Nat:=(List.range x.ev.length).filter fun a:Nat=>(nth x.ev a).k==5
def byOrd (x:X):Bool:=someGo (rightB x) (accs x) ((accs x).length - (begs x).length) (begs x)
theorem mem_accs {x:X} {a:Nat}:a ∈ accs x↔(exe x).ac a:=by
 unfold accs exe
 simp only [List.mem_filter,List.mem_range,Bool.not_eq_true',beq_eq_false_iff_ne]
theorem mem_begs {x:X} {a:Nat}:a ∈ begs x↔a < x.ev.length∧(nth x.ev a).k=5:=by
 unfold begs
 simp only [List.mem_filter,List.mem_range,beq_iff_eq]
theorem co_iff {x:X} {a b:Nat} (ha:a < x.ev.length) (hb:b < x.ev.length):isCo x (a:Int) (b:Int)=true↔(exe x).co a b:=by
 unfold isCo Exe.co exe
 simp only [Bool.and_eq_true,decide_eq_true_eq,beq_iff_eq]
 exact⟨fun h=>⟨⟨ha,h.1.1.1⟩,⟨hb,h.1.1.2⟩,h.1.2,h.2⟩,fun h=>⟨⟨⟨h.1.2,h.2.1.2⟩,h.2.2.1⟩,h.2.2.2⟩⟩
theorem getD_of {l:List Nat} {i a:Nat} (h:l[i]?=some a):l.getD i 0=a:=by
 rw [List.getD_eq_getElem?_getD,h];rfl
theorem at_cI {l:List Nat} (hd:l.Nodup) {n:Nat} (hn:n ∈ l):at_ (cI l) n=(l.idxOf n:Nat):=by
 refine at_at ?_ ?_
 ·unfold cI
  exact List.pairwise_map.2 (hd.imp fun h e=>h (by omega))
 ·unfold cI
  rw [List.getElem?_map,at_idx hn];rfl
theorem seen_iff {x:X} {l:List Nat} (hd:l.Nodup) (hm:∀ a,a ∈ l↔(exe x).ac a) {n m i:Nat} (hn:n ∈ l) (hi:l[i]?=some m):seen x (at_ (cI l) n) n m i=true↔candAt (exe x) l n i:=by
 unfold seen candAt
 rw [at_cI hd hn]
 simp only [Bool.and_eq_true,Bool.not_eq_true',decide_eq_false_iff_not,beq_iff_eq,Bool.or_eq_true,decide_eq_true_eq]
 have hml:=((hm m).1 (List.mem_of_getElem? hi)).1
 constructor
 ·rintro⟨⟨⟨h1,h2⟩,h3⟩,h4⟩
  exact⟨m,hi,h1,⟨hml,h2⟩,h3,h4.imp (fun h=>by omega) po_iff.1⟩
 ·rintro⟨m',h0,h1,h2,h3,h4⟩
  rw [hi] at h0
  obtain rfl:=Option.some.inj h0
  exact⟨⟨⟨h1,h2.2⟩,h3⟩,h4.imp (fun h=>by omega) po_iff.2⟩
theorem rightB_iff {x:X} (hc:check x=0) {l:List Nat} (hd:l.Nodup) (hm:∀ a,a ∈ l↔(exe x).ac a):rightB x l=true↔LRight (exe x) l:=by
 have hin:∀ {i a:Nat},l[i]?=some a→a < x.ev.length:=fun h=>((hm _).1 (List.mem_of_getElem? h)).1
 have hsee:∀ {n:Nat},n ∈ l→(exe x).ld n→(sees x l n=frAt x n↔∃ i,candAt (exe x) l n i∧l[i]?=some ((exe x).rf n)∧∀ j,i < j→¬ candAt (exe x) l n j):=fun {n} hn hl=>by
  obtain⟨f,hf,e,hs,hae,hne,_⟩:=from_ok hc hl.1 hl.2
  have hrf:(exe x).rf n=f:=by show(frAt x n).toNat=f;omega
  rw [e,hrf]
  unfold sees
  rw [lastGo_iff]
  constructor
  ·rintro(⟨k,h1,h2,h3⟩ | ⟨h,_⟩)
   ·rw [Nat.zero_add] at h2
    refine⟨k,(seen_iff hd hm hn h1).1 h2,h1,fun j hj hcd=>?_⟩
    obtain⟨m,hm',_⟩:=id hcd
    have:=h3 j m hj hm'
    rw [Nat.zero_add] at this
    rw [(seen_iff hd hm hn hm').2 hcd] at this;cases this
   ·omega
  ·rintro⟨i,h1,h2,h3⟩
   refine .inl ⟨i,h2,by rw [Nat.zero_add];exact(seen_iff hd hm hn h2).2 h1,fun j m hj hjm=>?_⟩
   rw [Nat.zero_add]
   cases hp:seen x (at_ (cI l) n) n m j with
   | false=>rfl
   | true=>exact absurd ((seen_iff hd hm hn hjm).1 hp) (h3 j hj)
 unfold rightB
 simp only [List.all_eq_true,List.mem_range,Bool.and_eq_true,Bool.or_eq_true,Bool.not_eq_true',decide_eq_false_iff_not,Bool.or_eq_false_iff,beq_iff_eq]
 constructor
 ·intro h
  refine⟨fun i k a b hik ha hb=>?_,fun n hn hl=>?_⟩
  ·have hi:=(List.getElem?_eq_some_iff.1 ha).1;have hk:=(List.getElem?_eq_some_iff.1 hb).1
   have h1:=(h i hi).1 k hk
   rw [getD_of ha,getD_of hb] at h1
   rcases h1 with h1 | h1
   ·exact absurd hik h1
   ·refine⟨fun hp=>?_,fun hp=>?_⟩
    ·rw [hp.2.2] at h1;cases h1.1
    ·rw [(co_iff (hin hb) (hin ha)).2 hp] at h1;cases h1.2
  ·have ha:=at_idx hn
   have hi:=(List.getElem?_eq_some_iff.1 ha).1
   have h1:=(h _ hi).2
   rw [getD_of ha] at h1
   rcases h1 with h1 | h1
   ·rw [hl.2] at h1;cases h1
   ·exact(hsee hn hl).1 h1
 ·intro R i hi
  have ha:l[i]?=some l[i]:=List.getElem?_eq_getElem hi
  rw [getD_of ha]
  refine⟨fun k hk=>?_,?_⟩
  ·have hb:l[k]?=some l[k]:=List.getElem?_eq_getElem hk
   rw [getD_of hb]
   by_cases hik:i < k
   ·obtain⟨h1,h2⟩:=R.up i k _ _ hik ha hb
    refine .inr ⟨?_,?_⟩
    ·cases hp:isPpo x l[k] l[i] with
     | false=>rfl
     | true=>exact absurd ⟨hin hb,hin ha,hp⟩ h1
    ·cases hp:isCo x ((l[k]:Nat):Int) ((l[i]:Nat):Int) with
     | false=>rfl
     | true=>exact absurd ((co_iff (hin hb) (hin ha)).1 hp) h2
   ·exact .inl hik
  ·cases hl:loads (nth x.ev ((l[i]:Nat):Int)).k with
   | false=>exact .inl rfl
   | true =>
     have hld:(exe x).ld l[i]:=⟨hin ha,hl⟩
     exact .inr ((hsee (List.getElem_mem hi) hld).2 (R.sees _ (List.getElem_mem hi) hld))
theorem nodup_accs (x:X):(accs x).Nodup:=List.Pairwise.filter _ List.nodup_range
theorem nodup_begs (x:X):(begs x).Nodup:=List.Pairwise.filter _ List.nodup_range
theorem begs_accs {x:X} {a:Nat} (h:a ∈ begs x):a ∈ accs x:=by
 have:=mem_begs.1 h
 exact mem_accs.2 ⟨this.1,by rw [this.2];decide⟩
theorem beg_h {x:X} (hc:check x=0) {a:Nat} (h:(exe x).ac a):a ∈ begs x↔(exe x).h a < 0:=by
 rw [mem_begs]
 have e:=ev_ok hc h.1
 constructor
 ·rintro⟨_,h5⟩
  have:=e.h5 h5
  show(nth x.ev a).h < 0;omega
 ·intro hh
  have hh:(nth x.ev a).h < 0:=hh
  refine⟨h.1,?_⟩
  apply Classical.byContradiction;intro h5
  have:=e.h0 h5;omega
theorem byOrd_iff {x:X} (hc:check x=0):byOrd x=true↔(∃ gr:Nat→Int,∀ a b,(exe x).G a b→gr a < gr b)∧(∃ gc:Nat→Int,∀ a b,(exe x).C a b→gc a < gc b):=by
 have H:=exe_ok hc
 unfold byOrd
 rw [someGo_iff]
 constructor
 ·rintro⟨r,h1,h2,h3,h4⟩
  have hd:(begs x++r).Nodup:=List.nodup_append.2 ⟨nodup_begs x,h2,fun a ha b hb e=>(h3 b hb).2 (e ▸ ha)⟩
  have hs:∀ a ∈ begs x++r,a ∈ accs x:=fun a ha=>(List.mem_append.1 ha).elim begs_accs fun h=>(h3 a h).1
  have hle:=len_le_of_sub (nodup_begs x) (fun a=>begs_accs (x:=x) (a:=a))
  have hcov:=all_of_len hd hs (by rw [List.length_append];omega)
  have hm:∀ a,a ∈ begs x++r↔(exe x).ac a:=fun a=>⟨fun h=>mem_accs.1 (hs a h),fun h=>hcov a (mem_accs.2 h)⟩
  have R:=(right_iff H hd hm).1 ((rightB_iff hc hd hm).1 h4)
  refine⟨⟨fun a=>((begs x++r).idxOf a:Nat),fun a b h=>by
   have h9:(begs x++r).idxOf a < (begs x++r).idxOf b:=Right.G H R h
   show(((begs x++r).idxOf a:Nat):Int) < (((begs x++r).idxOf b:Nat):Int)
   omega⟩,⟨fun a=>wt (exe x) a * ((x.ev.length:Int)+1)+min a x.ev.length,fun a b h=>?_⟩⟩
  have ab:a < x.ev.length∧b < x.ev.length:=by
   rcases h with h | h | h | h
   ·exact⟨h.2.1.1,h.2.2.1.1⟩
   ·obtain⟨hl,rfl⟩:=h
    exact⟨(H.rfst hl).1.1,hl.1⟩
   ·exact⟨h.1.1,h.2.1.1⟩
   ·exact⟨h.2.1.1,h.2.2.2.1.1⟩
  have hb:=ab.2;have ha:=ab.1
  simp only
  rcases Right.C H R h with h | ⟨h,h'⟩
  ·have h5:(wt (exe x) a+1) * ((x.ev.length:Int)+1)≤wt (exe x) b * ((x.ev.length:Int)+1):=Int.mul_le_mul_of_nonneg_right (by omega) (by omega)
   rw [Int.add_mul] at h5
   omega
  ·rw [h];omega
 ·rintro⟨⟨gr,hG⟩,⟨gc,hC⟩⟩
  let le:Nat→Nat→Bool:=fun a b=>decide (gr a≤gr b)
  let rest:=(accs x).filter fun a=>!((begs x).contains a)
  let s:=rest.mergeSort le
  have hsp:s.Perm rest:=List.mergeSort_perm _ _
  have hsd:s.Nodup:=hsp.nodup_iff.2 (List.Pairwise.filter _ (nodup_accs x))
  have hmem:∀ a,a ∈ s↔a ∈ accs x∧a ∉ begs x:=fun a=>by
   rw [hsp.mem_iff];simp only [rest,List.mem_filter,List.contains_eq_mem,Bool.not_eq_true',decide_eq_false_iff_not]
  have hpw:s.Pairwise fun a b=>gr a≤gr b:=by
   have:=List.pairwise_mergeSort (le:=le) (fun a b c h1 h2=>by simp only [le,decide_eq_true_eq] at *;omega) (fun a b=>by simp only [le,Bool.or_eq_true,decide_eq_true_eq];omega) rest
   exact this.imp fun h=>of_decide_eq_true h
  have hd:(begs x++s).Nodup:=List.nodup_append.2 ⟨nodup_begs x,hsd,fun a ha b hb e=>((hmem b).1 hb).2 (e ▸ ha)⟩
  have hm:∀ a,a ∈ begs x++s↔(exe x).ac a:=fun a=>by
   rw [List.mem_append,hmem,← mem_accs]
   by_cases h:a ∈ begs x
   ·exact⟨fun _=>begs_accs h,fun _=>.inl h⟩
   ·exact⟨fun hh=>hh.elim (fun h'=>absurd h' h) (·.1),fun hh=>.inr ⟨hh,h⟩⟩
  have hlen:s.length=(accs x).length - (begs x).length:=by
   have e1:=len_le_of_sub hd (fun a ha=>mem_accs.2 ((hm a).1 ha))
   have e2:=len_le_of_sub (nodup_accs x) (fun a ha=>(hm a).2 (mem_accs.1 ha))
   rw [List.length_append] at e1 e2;omega
  refine⟨s,hlen,hsd,fun e he=>(hmem e).1 he,(rightB_iff hc hd hm).2 ((right_iff H hd hm).2 ?_)⟩
  have idx:∀ a,(begs x++s).idxOf a=if a ∈ begs x then (begs x).idxOf a else s.idxOf a+(begs x).length:=fun a=>List.idxOf_append
  refine right_of H hG hC (fun {a b} ha hb h=>?_) (fun {a b} ha hb h1 h2=>?_) (fun {a b} ha hb h1 h2 h=>?_)
  ·have e1:=at_idx ((hm a).2 ha);have e2:=at_idx ((hm b).2 hb)
   have h':(begs x++s).idxOf a=(begs x++s).idxOf b:=h
   rw [h',e2] at e1;exact(Option.some.inj e1).symm
  ·have b1:=(beg_h hc ha).2 h1
   have b2:b ∉ begs x:=fun hh=>by have:=(beg_h hc hb).1 hh;omega
   show(begs x++s).idxOf a < (begs x++s).idxOf b
   rw [idx,idx,if_pos b1,if_neg b2]
   have:=List.idxOf_lt_length_iff.2 b1;omega
  ·have b1:a ∉ begs x:=fun hh=>by have:=(beg_h hc ha).1 hh;omega
   have b2:b ∉ begs x:=fun hh=>by have:=(beg_h hc hb).1 hh;omega
   show(begs x++s).idxOf a < (begs x++s).idxOf b
   rw [idx,idx,if_neg b1,if_neg b2]
   have ma:a ∈ s:=(hmem a).2 ⟨mem_accs.2 ha,b1⟩
   have mb:b ∈ s:=(hmem b).2 ⟨mem_accs.2 hb,b2⟩
   rcases Nat.lt_trichotomy (s.idxOf a) (s.idxOf b) with k | k | k
   ·omega
   ·have e1:=at_idx ma;have e2:=at_idx mb
    rw [k,e2] at e1
    have:=Option.some.inj e1;subst this;omega
   ·have l1:=List.idxOf_lt_length_iff.2 ma;have l2:=List.idxOf_lt_length_iff.2 mb
    have:=List.pairwise_iff_getElem.1 hpw _ _ l2 l1 k
    rw [List.getElem_idxOf l2,List.getElem_idxOf l1] at this;omega
end Md
end Go.Proofs.YtnjnpbabgefaeaaGreat
end
