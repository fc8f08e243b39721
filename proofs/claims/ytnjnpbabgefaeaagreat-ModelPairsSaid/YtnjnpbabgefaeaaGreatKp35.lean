import Derived.Test.YtnjnpbabgefaeaaGreatKp28
import Derived.Test.YtnjnpbabgefaeaaGreatKp29
import Derived.Test.YtnjnpbabgefaeaaGreatKp30
import Derived.Test.YtnjnpbabgefaeaaGreatKp31
import Derived.Test.YtnjnpbabgefaeaaGreatKp32
import Derived.Test.YtnjnpbabgefaeaaGreatKp33
import Derived.Test.YtnjnpbabgefaeaaGreatKp34
import Derived.Test.YtnjnpbabgefaeaaGreatKpH
set_option maxRecDepth 100000
set_option maxHeartbeats 8000000
set_option linter.unusedVariables false
set_option linter.unusedSimpArgs false
section
namespace Go.Proofs.YtnjnpbabgefaeaaGreat
open Go.RowKit
attribute [local go_sem] or_store_func
attribute [local go_sem] Oper.semAt_some
namespace Or
theorem Box.putObj {w:World} {p D:Nat} {t:TypeId} {v:Value} (h:Box w p t v) (o:Obj) (hD:p < D):Box (w.putObj D o) p t v:=(World.putObj_heap_other (by omega)).trans h
theorem Box.setCell {w:World} {p r:Nat} {t:TypeId} {v u:Value} (h:Box w p t v) (hp:p≠r):Box (w.setCell ⟨r,0,none⟩ u) p t v:=(heap_setCell_other w ⟨r,0,none⟩ p u hp).trans h
theorem Box.set_ {w:World} {p:Nat} {t:TypeId} {v u:Value} (h:Box w p t v):Box (w.setCell ⟨p,0,none⟩ u) p t u:=heap_setCell_same w p 0 _ _ u h
theorem Box.frozen {w:World} {p:Nat} {t:TypeId} {v:Value} (h:Box w p t v):w.frozen? ⟨p,0,none⟩=false:=frozen_of_row _ _ _ _ _ h
theorem Box.lt {w:World} {p:Nat} {t:TypeId} {v:Value} (h:Box w p t v):p < w.heap.size:=(qL h)
theorem below_putObj {B D:Nat} {a w:World} {o:Obj} (h:Below B a w) (hD:B≤D):Below B a (w.putObj D o) :=
 ⟨h.os,h.tape,h.output,Nat.le_trans h.size (by simp),fun k hk=>(World.putObj_heap_other (by omega)).trans (h.block k hk)⟩
def Such (w:World) (n:Nat→Prop) (G:FuncId) (caps:Array Value) (p:Nat→Bool):Prop :=
 ∀ m,n m→∀ W,Below w.heap.size w W→Calls Tryz.prog G (#[.int .i64 (m:Int)]++caps) W fun r w'=>r=.returned (.bool (p m))∧Below W.heap.size W w'
structure Mid (w:World) (G:FuncId) (caps:Array Value) (a b:Nat) (q:Bool) (W:World):Prop where
 bel:Below w.heap.size w W
 fn:Box W w.heap.size 102 (.func (.func G) #[] caps)
 there:Box W (w.heap.size+1) 4 (.bool q)
 ba:Box W (w.heap.size+2) 3 (.int .i64 (a:Int))
 bb:Box W (w.heap.size+3) 3 (.int .i64 (b:Int))
theorem Mid.kp {w:World} {G:FuncId} {caps:Array Value} {a b:Nat} {q:Bool} {W W':World} (h:Mid w G caps a b q W) (hb:Below W.heap.size W W'):Mid w G caps a b q W' :=
 ⟨h.bel.trans (hb.mono h.bel.size),h.fn.kp hb,h.there.kp hb,h.ba.kp hb,h.bb.kp hb⟩
theorem Mid.putObj {w:World} {G:FuncId} {caps:Array Value} {a b:Nat} {q:Bool} {W:World} {l:Nat} (h:Mid w G caps a b q W) (o:Obj) (hl:w.heap.size+4≤l):Mid w G caps a b q (W.putObj l o) :=
 ⟨below_putObj h.bel (by omega),h.fn.putObj o (by omega),h.there.putObj o (by omega),h.ba.putObj o (by omega),h.bb.putObj o (by omega)⟩
theorem Mid.set_ {w:World} {G:FuncId} {caps:Array Value} {a b:Nat} {q:Bool} {W:World} (h:Mid w G caps a b q W) (q':Bool):Mid w G caps a b q' (W.setCell ⟨w.heap.size+1,0,none⟩ (.bool q')) :=
 ⟨h.bel.setCell (p:=⟨w.heap.size+1,0,none⟩) (by show w.heap.size≤w.heap.size+1;omega) _,h.fn.setCell (by omega),h.there.set_,h.ba.setCell (by omega),h.bb.setCell (by omega)⟩
end Or
theorem some_any (q a b:Nat) (ha:a < 9223372036854775807) (hb:b≤9223372036854775807) (G:FuncId) (caps:Array Value) (p:Nat→Bool) (w:World) (hE:∀ args w,(callFunc G args).run Tryz.prog w=.ok (.enter G args) w) (hS:Or.Such w (fun m=>a < m∧m < b) G caps p) :
 Calls Tryz.prog 151 #[.pointer (some ⟨q,0,none⟩),.int .i64 (a:Int),.int .i64 (b:Int),.func (.func G) #[] caps] w fun r w'=>r=.returned (.bool ((Or.ms a b).any p))∧Below w.heap.size w w':=by
 have HS:=qH hS
 have HEN:=qH hE
 obtain⟨W0,hW0⟩:∃ W0,(((w.alloc (.cells #[.func (.func G) #[] caps] 102)).alloc (.cells #[.bool false] 4)).alloc (.cells #[.int .i64 (a:Int)] 3)).alloc (.cells #[.int .i64 (b:Int)] 3)=W0:=⟨_,rfl⟩
 have hsz:W0.heap.size=w.heap.size+4:=by rw [← hW0];simp
 have hM:Or.Mid w G caps a b false W0:=by
  have s1:=World.size_alloc w (.cells #[.func (.func G) #[] caps] 102)
  have s2:=World.size_alloc (w.alloc (.cells #[.func (.func G) #[] caps] 102)) (.cells #[.bool false] 4)
  have s3:=World.size_alloc ((w.alloc (.cells #[.func (.func G) #[] caps] 102)).alloc (.cells #[.bool false] 4)) (.cells #[.int .i64 (a:Int)] 3)
  have al:∀ (x:World) (o:Obj),Below x.heap.size x (x.alloc o):=fun x o=>(Below.refl _ _).alloc (Nat.le_refl _) _
  refine⟨by rw [← hW0];exact((((Below.refl _ w).alloc (Nat.le_refl _) _).alloc (by simp) _).alloc (by simp;omega) _).alloc (by simp;omega) _,?_,?_,?_,?_⟩
  ·rw [← hW0];exact(((Or.box_new _ _ _).kp (al _ _)).kp (al _ _)).kp (al _ _)
  ·rw [← hW0];have:=((Or.box_new (w.alloc (.cells #[.func (.func G) #[] caps] 102)) 4 (.bool false)).kp (al _ (.cells #[.int .i64 (a:Int)] 3))).kp (al _ (.cells #[.int .i64 (b:Int)] 3));rwa [s1] at this
  ·rw [← hW0];have:=(Or.box_new ((w.alloc (.cells #[.func (.func G) #[] caps] 102)).alloc (.cells #[.bool false] 4)) 3 (.int .i64 (a:Int))).kp (al _ (.cells #[.int .i64 (b:Int)] 3));rwa [s2,s1] at this
  ·rw [← hW0];have:=Or.box_new (((w.alloc (.cells #[.func (.func G) #[] caps] 102)).alloc (.cells #[.bool false] 4)).alloc (.cells #[.int .i64 (a:Int)] 3)) 3 (.int .i64 (b:Int));rwa [s3,s2,s1] at this
 have HM:=qH hM;have HSZ:=qH hsz;have HW0:=qH hW0
 clear hM hsz hW0 hS hE
 refine(callsIn_wide (n:=5)).1 ?_
 refine callsIn_of_wp_marks Tryz.func151 rfl trivial ?_ rfl
 simp only [Tryz.ntmps151,List.size_toArray,List.length_cons,List.length_nil,Nat.reduceAdd,Nat.reduceSub,Array.replicate_succ,Array.replicate_zero,List.push_toArray,List.append_toArray,List.nil_append,List.cons_append]
 refine wpIn_wide.2 ?_
 go_wp2_with fail
 go_step3
 go_wp2_with fail
 go_step3
 go_wp2_with (go_at_call 166;refine(between_any _ _ _ _).mono ?_;rintro e w1 ⟨rfl,rfl⟩)
 rw [HW0.out]
 simp only [Nat.add_assoc,Nat.reduceAdd]
 clear HW0
 refine(wpIn_wide (n:=5)).1 ?_
 refine Og.wpIn_rangeFunc_list (α:=Nat) rfl (by decide) (gf:=169) (lb:=#[.pointer (some ⟨w.heap.size+2,0,none⟩),.pointer (some ⟨w.heap.size+3,0,none⟩)]) rfl trivial (enters_of Tryz.func169 (by kernel_rfl) rfl)
  (between_iter 4 (by decide) (w.heap.size+2) (w.heap.size+3) a b ha hb) (fun _=>rfl)
  (fun k W=>Or.Mid w G caps a b false W∧∀ j,j < k→p (a+1+j)=false) (fun c W=>c=.exit 0∧Or.Mid w G caps a b true W∧(Or.ms a b).any p=true)
  (fun k A A' h hb=>⟨h.1.kp hb,h.2⟩) (fun k A l o o' h hl ho hc=>⟨h.1.putObj o' (by have:=HSZ.out;omega),h.2⟩) (fun c A l o o' h hl ho hc=>⟨h.1,h.2.1.putObj o' (by have:=HSZ.out;omega),h.2.2⟩)
  (fun k A h=>⟨h.1.ba,h.1.bb⟩) ⟨HM.out,fun j hj=>absurd hj (Nat.not_lt_zero j)⟩
  (fun m=>{ tmps:=#[.pointer (some ⟨q,0,none⟩),.int .i64 (a:Int),.int .i64 (b:Int),.func (.func G) #[] caps,undef,undef,undef,.pointer (some ⟨w.heap.size,0,none⟩),.bool false,.pointer (some ⟨w.heap.size+1,0,none⟩),.int .i64 (m:Int),.pointer (some ⟨q,0,none⟩),.int .i64 (a:Int),.int .i64 (b:Int),.func (.func 169) #[] #[.pointer (some ⟨w.heap.size+2,0,none⟩),.pointer (some ⟨w.heap.size+3,0,none⟩)],.int .i64 (m:Int),undef,undef,undef,undef,undef],defers:=[] })
  ?assign ?body ?done ?stop
 case assign =>
  rintro l m W K hK
  have HK:=qH hK;clear hK
  gi_wp2_with fail
  exact HK.out
 case body =>
  rintro l k m W hm ⟨hM,hno⟩
  obtain⟨hmk,hmb⟩:=Or.ms_at hm
  have HMM:=qH hM;have HNO:=qH hno;have HMK:=qH hmk
  have HIN:=qH (show a < m∧m < b by omega)
  have HMEM:=qH (List.mem_of_getElem? hm)
  have c1:=hM.fn.cell
  obtain⟨v,hv⟩:∃ v,p m=v:=⟨_,rfl⟩
  have HV:=qH hv
  have he:=HEN.out
  clear hm hM hno hmk hmb hv
  gi_wp2_with fail
  refine⟨trivial,(CallsIn.inRound l (callsIn_wide.2 (HS.out m HIN.out W HMM.out.bel))).mono ?_⟩
  rw [HV.out]
  rintro e wa ⟨rfl,hba⟩
  have MA:=qH (HMM.out.kp hba)
  have hc:=MA.out.there.cell
  have hf:=MA.out.there.frozen
  have KA:=qH ((Og.keeps_below hba).trans (KeepsOthers.setCell wa ⟨w.heap.size+1,0,none⟩ (.bool v)))
  have MS:=qH (MA.out.set_ v)
  have hs:=MS.out.there.cell
  clear hba c1 he
  cases v
  ·gi_wp2_with fail
   refine⟨KA.out,MS.out,fun j hj=>?_⟩
   rcases Nat.lt_succ_iff_lt_or_eq.1 hj with h | h
   ·exact HNO.out j h
   ·rw [h,← HMK.out];exact HV.out
  ·gi_wp2_with fail
   exact⟨KA.out,rfl,MS.out,List.any_eq_true.2 ⟨m,HMEM.out,HV.out⟩⟩
 case done =>
  rintro D W hD ⟨hM,hno⟩ hK
  have c9:=hM.there.cell
  have HNO:=qH hno;have HMM:=qH hM;have HK:=qH hK;have HDD:=qH hD
  clear hno hM hK hD
  go_wp2_with fail
  rw [Exit.noGoto_ret]
  refine⟨by simp,.inl ⟨_,_,rfl,run_takeDeferred HK.out,?_⟩⟩
  have hg:=HMM.out.putObj (l:=D) (.deferred none) (by have:=HDD.out;have:=HSZ.out;omega)
  have HF:(Or.ms a b).any p=false:=by
   rw [List.any_eq_false]
   intro m hm
   obtain⟨k,hk⟩:=List.mem_iff_getElem?.1 hm
   obtain⟨rfl,h⟩:=Or.ms_at hk
   rw [HNO.out k (by rw [Or.ms_len];omega)];simp
  exact⟨_,results_tmp (fn:=Tryz.f151) rfl _ _ _,⟨by rw [HF];rfl,hg.bel⟩⟩
 case stop =>
  rintro D c W hD ⟨rfl,hM,hany⟩ hK
  refine wpIn_wide.2 ?_
  have c9:=hM.there.cell
  have HANY:=qH hany;have HMM:=qH hM;have HK:=qH hK;have HDD:=qH hD
  clear hany hM hK hD
  go_wp2_with fail
  rw [Exit.noGoto_ret]
  refine⟨by simp,.inl ⟨_,_,rfl,run_takeDeferred HK.out,?_⟩⟩
  have hg:=HMM.out.putObj (l:=D) (.deferred none) (by have:=HDD.out;have:=HSZ.out;omega)
  exact⟨_,results_tmp (fn:=Tryz.f151) rfl _ _ _,⟨by rw [HANY.out];rfl,hg.bel⟩⟩
end Go.Proofs.YtnjnpbabgefaeaaGreat
end
section
namespace Go.Proofs.YtnjnpbabgefaeaaGreat
open Go.RowKit
namespace Ev
theorem rk_fold {n:Int} {v:Nat}:∀ {ps:List (Int × Nat)} {r:Int},(∀ p ∈ ps,p.1=n→p.2=v)→(r=v∨∃ p ∈ ps,p.1=n)→ps.foldl (fun r p=>if p.1=n then (p.2:Int) else r) r=v
 | [],r,_,h=>by
   rcases h with h | ⟨p,hp,_⟩
   ·exact h
   ·cases hp
 | p :: t,r,h1,h2=>by
   rw [List.foldl_cons]
   refine rk_fold (fun q hq=>h1 q (List.mem_cons_of_mem _ hq)) ?_
   by_cases hp:p.1=n
   ·left;rw [if_pos hp,h1 p List.mem_cons_self hp]
   ·rw [if_neg hp]
    rcases h2 with h | ⟨q,hq,hn⟩
    ·exact .inl h
    ·rcases List.mem_cons.1 hq with rfl | hq
     ·exact absurd hn hp
     ·exact .inr ⟨q,hq,hn⟩
theorem atGo_at {n:Int}:∀ {l:List Int} {i:Int} {j:Nat},l.Nodup→l[j]?=some n→atGo n i l=i+j
 | [],i,j,_,h=>by simp at h
 | v :: r,i,0,_,h=>by
   simp at h;unfold atGo;rw [if_pos h];simp
 | v :: r,i,j+1,hd,h=>by
   rw [List.nodup_cons] at hd
   have h':r[j]?=some n:=by simpa using h
   unfold atGo
   rw [if_neg (fun e=>hd.1 (by rw [e];exact List.mem_of_getElem? h')),atGo_at hd.2 h']
   omega
theorem at_at {n:Int} {l:List Int} {j:Nat} (hd:l.Nodup) (h:l[j]?=some n):at_ l n=j:=by
 unfold at_;rw [atGo_at hd h];omega
theorem place_of {n v:Int}:∀ {od:List Sl},(∃ t ∈ od,n ∈ t.l)→(∀ t ∈ od,n ∈ t.l→at_ t.l n=v)→placeGo n od=v
 | [],h,_=>by obtain⟨t,ht,_⟩:=h;cases ht
 | s :: r,h1,h2=>by
   unfold placeGo
   by_cases hs:n ∈ s.l
   ·have:=h2 s List.mem_cons_self hs
    have h0:¬ at_ s.l n < 0:=fun e=>(at_neg s.l n).1 e hs
    rw [if_pos (by omega)];exact this
   ·have h0:=(at_neg s.l n).2 hs
    rw [if_neg (by omega)]
    refine place_of ?_ (fun t ht=>h2 t (List.mem_cons_of_mem _ ht))
    obtain⟨t,ht,hn⟩:=h1
    rcases List.mem_cons.1 ht with rfl | ht
    ·exact absurd hn hs
    ·exact⟨t,ht,hn⟩
theorem five_lt {xs:List R} (h:evsOk xs=true) {i:Nat} (hi:i < xs.length) (e:(nth xs i).k=5):i < beg xs:=by
 have hall:=five_back (evs_all h) i hi e
 have h1:beg (xs.take (i+1))=i+1:=by
  unfold beg
  rw [List.filter_eq_self.2,List.length_take]
  ·omega
  ·intro y hy
   obtain⟨j,hj,hjl,rfl⟩:=mem_take_lt hy
   simpa using hall j (by omega)
 have h2:beg (xs.take (i+1))≤beg xs:=by
  unfold beg
  exact(List.Sublist.filter _ (List.take_sublist _ _)).length_le
 omega
theorem beg_five {xs:List R} (h:evsOk xs=true) {i:Nat} (hi:i < beg xs):(nth xs i).k=5:=by
 obtain⟨x,hx,hk⟩:=beg_pre (evs_all h) i hi
 rw [nth_some hx];exact hk
theorem beg_up {xs:List R} (h:evsOk xs=true):∀ (d i:Nat),i+d+1 < beg xs→(nth xs i).a < (nth xs (i+d+1:Nat)).a:=by
 have hB:=beg_le xs
 have step:∀ i,i+1 < beg xs→(nth xs i).a < (nth xs (i+1:Nat)).a:=fun i hi=>by
  have hf:=(at_parts h (show i+1 < xs.length by omega)).2.resolve_left (by omega)
  rw [show ((i+1:Nat):Int) - 1=(i:Int) by omega] at hf
  unfold follow at hf
  rw [if_pos ⟨beg_five h hi,beg_five h (show i < beg xs by omega)⟩] at hf
  exact of_decide_eq_true hf
 intro d
 induction d with
 | zero=>exact fun i hi=>step i hi
 | succ d ih=>exact fun i hi=>Int.lt_trans (ih i (by omega)) (step (i+d+1) hi)
theorem beg_inj {xs:List R} (h:evsOk xs=true) {i j:Nat} (hi:i < beg xs) (hj:j < beg xs) (e:(nth xs i).a=(nth xs j).a):i=j:=by
 rcases Nat.lt_trichotomy i j with hl | hl | hl
 ·have:=beg_up h (j - i - 1) i (by omega)
  rw [show i+(j - i - 1)+1=j by omega] at this
  omega
 ·exact hl
 ·have:=beg_up h (i - j - 1) j (by omega)
  rw [show j+(i - j - 1)+1=i by omega] at this
  omega
theorem beg_of {xs:List R} (h:evsOk xs=true) {n:Nat} (hn:n < xs.length) (hs:stores (nth xs n).k=true):∃ i,i < beg xs∧(nth xs i).a=(nth xs n).a:=by
 by_cases h5:(nth xs n).k=5
 ·exact⟨n,five_lt h hn h5,rfl⟩
 have hbg:begunAt xs n=true:=by
  have h':=h
  unfold evsOk begun at h'
  rw [Bool.and_eq_true,List.all_eq_true (p:=begunAt xs)] at h'
  exact h'.2 n (List.mem_range.2 hn)
 unfold begunAt at hbg
 have hacc:acc (nth xs n).k=true:=by
  unfold stores at hs;unfold acc
  simp at hs ⊢;omega
 rw [hacc,Bool.not_true,Bool.false_or,List.any_eq_true] at hbg
 obtain⟨e,he,hq⟩:=hbg
 obtain⟨j,hj,hjl,rfl⟩:=mem_take_lt he
 unfold isBeg at hq
 simp only [Bool.and_eq_true,beq_iff_eq] at hq
 exact⟨j,five_lt h hjl hq.1,hq.2⟩
theorem od_at {x:X} (hc:check x=0) {i:Nat} {s:Sl} (hs:x.od[i]?=some s):i < beg x.ev∧rOrd x.ev (nth x.ev i).a i s.l∧s.l.Nodup∧∀ n ∈ s.l,(nth x.ev n).a=(nth x.ev i).a:=by
 obtain⟨h1,_,_⟩:=check_order hc
 unfold orderOk at h1
 simp only [Bool.and_eq_true,beq_iff_eq,List.all_eq_true] at h1
 have hi:=(List.getElem?_eq_some_iff.1 hs).1
 have ho:=h1.2 i (List.mem_range.2 hi)
 have hr:=(ord_iff hs rfl).1 ho
 refine⟨by omega,hr,?_⟩
 unfold orderAt at ho
 rw [hs] at ho
 simp only [Bool.and_eq_true,beq_iff_eq] at ho
 have hon:=ho.2
 unfold onceOk at hon
 rw [Bool.and_eq_true,List.all_eq_true,decide_eq_true_eq] at hon
 refine⟨hon.2,fun n hn=>?_⟩
 have:=hon.1 n hn
 unfold onceAt at this
 simp only [Bool.and_eq_true,beq_iff_eq] at this
 rw [this.2,ho.1.2]
end Ev
end Go.Proofs.YtnjnpbabgefaeaaGreat
end
section
namespace Go.Proofs.YtnjnpbabgefaeaaGreat
open Go.RowKit
namespace Ev
theorem rule_of {x:X} {r:Int} {a b:Nat} (h1:isPo x a b=true) (h2:(nth x.ev a).k≠4) (h3:(nth x.ev b).k≠4):rule x r a b=ruleOf x r a b:=by
 unfold rule;rw [if_neg];rintro(h | h | h)
 ·rw [h1] at h;cases h
 ·exact h2 h
 ·exact h3 h
def isPpo (x:X) (a b:Nat):Bool:=(List.range 13).any fun i=>rule x ((i+1:Nat):Int) a b
end Ev
theorem rrule_any (x:Ev.X) (K:Nat) (h1:1≤K) (h2:K≤13) (a b:Nat) (ha:a < x.ev.length) (hb:b < x.ev.length) (hfl:x.fr.l.length=x.ev.length) (w:World) (hin:Ev.XIn w x) :
 Calls Tryz.prog 65 #[Ev.exV x,.int .i64 (K:Int),.int .i64 (a:Int),.int .i64 (b:Int)] w fun e w'=>e=.returned (.bool (Ev.rule x (K:Int) a b))∧Below w.heap.size w w':=by
 by_cases hno:Ev.isPo x a b=false∨(Ev.nth x.ev a).k=4∨(Ev.nth x.ev b).k=4
 ·rw [show Ev.rule x (K:Int) a b=false by unfold Ev.rule;rw [if_pos hno]]
  exact rule_no x K a b ha hb hno w hin
 ·have hp:Ev.isPo x a b=true:=by
   cases h:Ev.isPo x a b with
   | true=>rfl
   | false=>exact absurd (.inl h) hno
  have h4:(Ev.nth x.ev a).k≠4:=fun h=>hno (.inr (.inl h))
  have h5:(Ev.nth x.ev b).k≠4:=fun h=>hno (.inr (.inr h))
  rw [Ev.rule_of hp h4 h5]
  have HFL:=qH hfl
  clear hno hfl
  match K,h1,h2 with
  | 1,_,_=>exact(rule_1 x a b ha hb hp h4 h5 w hin)
  | 2,_,_=>exact(rule_2 x a b ha hb hp h4 h5 HFL.out w hin)
  | 3,_,_=>exact(rule_3 x a b ha hb hp h4 h5 HFL.out w hin)
  | 4,_,_=>exact(rule_4 x a b ha hb hp h4 h5 w hin)
  | 5,_,_=>exact(rule_5 x a b ha hb hp h4 h5 w hin)
  | 6,_,_=>exact(rule_6 x a b ha hb hp h4 h5 w hin)
  | 7,_,_=>exact(rule_7 x a b ha hb hp h4 h5 w hin)
  | 8,_,_=>exact(rule_8 x a b ha hb hp h4 h5 w hin)
  | 9,_,_=>exact(rule_9 x a b ha hb hp h4 h5 w hin)
  | 10,_,_=>exact(rule_10 x a b ha hb hp h4 h5 w hin)
  | 11,_,_=>exact(rule_11 x a b ha hb hp h4 h5 w hin)
  | 12,_,_=>exact(rule_12 x a b ha hb hp h4 h5 HFL.out w hin)
  | 13,_,_=>exact(rule_13 x a b ha hb hp h4 h5 w hin)
  | k+14,_,h=>exact absurd h (by omega)
theorem rrule_is {x:Ev.X} {K:Nat} {a b:Nat} {v:Bool} (h:Ev.rule x (K:Int) a b=v) (h1:1≤K) (h2:K≤13) (ha:a < x.ev.length) (hb:b < x.ev.length) (hfl:x.fr.l.length=x.ev.length) (w:World) (hin:Ev.XIn w x) :
 Calls Tryz.prog 65 #[.agg (Ev.xcells x).toArray,.int .i64 (K:Int),.int .i64 (a:Int),.int .i64 (b:Int)] w fun e w'=>e=.returned (.bool v)∧Below w.heap.size w w':=h ▸ rrule_any x K h1 h2 a b ha hb hfl w hin
theorem rppo_any (x:Ev.X) (a b:Nat) (ha:a < x.ev.length) (hb:b < x.ev.length) (hfl:x.fr.l.length=x.ev.length) (w:World) (hin:Ev.XIn w x) :
 Calls Tryz.prog 45 #[Ev.exV x,.int .i64 (a:Int),.int .i64 (b:Int)] w fun e w'=>e=.returned (.bool (Ev.isPpo x a b))∧Below w.heap.size w w':=by
 obtain⟨B,hB⟩:∃ B,B=w.alloc (Obj.cells (Ev.xcells x).toArray 26):=⟨_,rfl⟩
 have HB:=qH hB
 have B0:=qH (show Below w.heap.size w B by rw [hB];exact(Below.refl w.heap.size w).alloc (Nat.le_refl _) _)
 have HX:=qH (show Ev.XIn B x from hin.kp (Ev.kp_below B0.out))
 have RX:=qH (show B.heap[w.heap.size]?=some (.cells (Ev.xcells x).toArray 26 (0,0)) by rw [hB];exact heap_alloc_new _ _)
 have HFL:=qH hfl
 clear hin hB hfl
 unfold Ev.exV
 go_enter Tryz.func45,Tryz.ntmps45
 go_wp2
 rw [show w.alloc (Obj.cells (Ev.xcells x).toArray 26)=B from HB.out.symm]
 go_loopw [7] (fun i wr=>∃ r:Nat,1≤r∧r≤14∧i=.int .i64 (r:Int)∧(∀ q,1≤q→q < r→Ev.rule x (q:Int) a b=false)∧Below B.heap.size B wr) (fun i _=>14 - (intOf i).toNat)
 case atStart=>exact⟨1,Nat.le_refl _,by omega,rfl,fun q h1 h2=>by omega,Below.refl _ _⟩
 case round =>
  obtain⟨r,hr1,hr2,rfl,hall,hbr⟩:=hrel
  have HALL:=qH hall;have HBR:=qH hbr
  have RX3:=qH ((hbr.block w.heap.size (qL RX.out)).trans RX.out)
  clear hall hbr
  by_cases hlt:r≤13
  ·have hri:(r:Int)≤13:=by omega
   obtain⟨v,hv⟩:∃ v,Ev.rule x (r:Int) a b=v:=⟨_,rfl⟩
   have HV:=qH hv
   clear hv
   go_wp2_with ((with_reducible refine qG 12 ?_);refine wpList_load_row rfl 26 (.tmp 3) rfl w.heap.size (by kernel_rfl) 26 (Ev.xcells x).toArray (0,0) _ RX3.out Tryz.underlying26 rfl (by kernel_rfl) ?_)
   refine(rrule_is HV.out hr1 hlt ha hb HFL.out _ (HX.out.kp (Ev.kp_below HBR.out))).mono ?_
   rintro e W4 ⟨rfl,hb4⟩
   have HB4:=qH (HBR.out.trans (hb4.mono HBR.out.size))
   clear hb4
   cases v
   ·have HA2:=qH (show ∀ q,1≤q→q < r+1→Ev.rule x (q:Int) a b=false from fun q h1 h2=>by
     rcases Nat.lt_succ_iff_lt_or_eq.1 h2 with h | h
     ·exact HALL.out q h1 h
     ·rw [h];exact HV.out)
    go_wp2_with fail
    go_roundw
    case rel=>exact⟨r+1,by omega,by omega,by go_num,HA2.out,HB4.out⟩
    case measure=>simp [intOf];omega
   ·have HF:=qH (show Ev.isPpo x a b=true from List.any_eq_true.2 ⟨r - 1,List.mem_range.2 (by omega),by rw [show r - 1+1=r by omega];exact HV.out⟩)
    go_wp2_with fail
    go_ret
    exact⟨by rw [HF.out];try rfl,B0.out.trans (HB4.out.mono B0.out.size)⟩
  ·have hri:¬ (r:Int)≤13:=by omega
   have HF:=qH (show Ev.isPpo x a b=false from List.any_eq_false.2 fun i hi=>by
    have:=List.mem_range.1 hi
    rw [HALL.out (i+1) (by omega) (by omega)];simp)
   go_wp2
   go_ret
   exact⟨by rw [HF.out];try rfl,B0.out.trans (HBR.out.mono B0.out.size)⟩
end Go.Proofs.YtnjnpbabgefaeaaGreat
end
