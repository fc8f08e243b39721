import Derived.Test.YtnjnpbabgefaeaaGreatKp43
import Derived.Test.YtnjnpbabgefaeaaGreatKp01
import Derived.WalkKit
import Derived.Test.YtnjnpbabgefaeaaGreatKp40
import Derived.Test.YtnjnpbabgefaeaaGreatKp41
import Derived.Test.YtnjnpbabgefaeaaGreatKp04
import Derived.Test.YtnjnpbabgefaeaaGreatKpH
set_option maxRecDepth 100000
set_option maxHeartbeats 2000000
set_option linter.unusedVariables false
set_option linter.unusedSimpArgs false
section
namespace Go.Proofs.YtnjnpbabgefaeaaGreat
open Go.RowKit
namespace Ev
theorem fromAt_app {xs:List R} {fr:List Int} {y:R} {g:Int} (hl:fr.length=xs.length) {i:Nat} (hi:i < xs.length) (h:fromAt xs fr i=true):fromAt (xs++[y]) (fr++[g]) i=true:=by
 unfold fromAt at h ⊢
 rw [nth_lt hi,getD_lt (by omega)]
 cases hk:loads (nth xs (i:Int)).k with
 | false=>rw [hk] at h;simpa using h
 | true =>
   rw [if_pos hk] at h;rw [if_pos rfl]
   unfold readOk inB at h ⊢
   simp only [Bool.and_eq_true,decide_eq_true_eq] at h
   obtain⟨⟨⟨⟨⟨h1,h2⟩,h3⟩,h4⟩,h5⟩,h6⟩:=h
   obtain⟨f,hf⟩:∃ f:Nat,fr.getD i 0=f:=⟨(fr.getD i 0).toNat,by omega⟩
   rw [hf] at h1 h2 h3 h4 h5 h6 ⊢
   rw [nth_lt hi,nth_lt (show f < xs.length by omega)]
   simp only [Bool.and_eq_true,decide_eq_true_eq,List.length_append,List.length_singleton]
   exact⟨⟨⟨⟨⟨h1,by omega⟩,h3⟩,h4⟩,h5⟩,h6⟩
theorem Bld.bl2 {xs fr od} (h:Bld xs fr od) (he:xs.length=od.length):Bl2 xs fr od :=
 ⟨h.fl,h.ol,h.beg,fun i h1 h2=>by omega,fun i h1 h2=>by omega,fun i h1 h2=>by omega,h.rows⟩
theorem Bl2.more {xs fr od} (h:Bl2 xs fr od) {y:R} {g:Int} (hy:Shp od.length y) (hup:od.length < xs.length→(nth xs ((xs.length - 1:Nat):Int)).h≤y.h) (hr:fromAt (xs++[y]) (fr++[g]) xs.length=true) (hs:stores y.k=false):Bl2 (xs++[y]) (fr++[g]) od:=by
 refine⟨by simp [h.fl],by have:=h.ol;simp;omega,fun i hi=>?_,fun i h1 h2=>?_,fun i h1 h2=>?_,fun i h1 h2=>?_,fun b l hb=>?_⟩
 ·have:=h.ol;have:=h.fl
  rw [nth_lt (by omega),getD_lt (by omega)];exact h.beg i hi
 ·by_cases hx:i < xs.length
  ·rw [nth_lt hx];exact h.ev i h1 hx
  ·have hi':i=xs.length:=by simp at h2;omega
   subst hi'
   rw [nth_end];exact hy
 ·have h2':i < xs.length:=by simp at h2;omega
  by_cases hx:i+1 < xs.length
  ·rw [nth_lt h2',nth_lt hx];exact h.up i h1 hx
  ·have hi':i+1=xs.length:=by omega
   rw [nth_lt h2',hi',nth_end]
   have:=hup (by omega)
   rwa [show xs.length - 1=i by omega] at this
 ·by_cases hx:i < xs.length
  ·exact fromAt_app h.fl hx (h.rd i h1 hx)
  ·have hi':i=xs.length:=by simp at h2;omega
   rw [hi'];exact hr
 ·exact(h.rows b l hb).app (by unfold isSt;rw [hs];rfl)
theorem Bl2.put {xs fr od} (h:Bl2 xs fr od) {y:R} {g:Int} (hy:Shp od.length y) (hup:od.length < xs.length→(nth xs ((xs.length - 1:Nat):Int)).h≤y.h) (hr:fromAt (xs++[y]) (fr++[g]) xs.length=true) (hs:stores y.k=true) {w:Nat} {l:List Int} (hw:od[w]?=some l) (ha:y.a=4 * w) :
 Bl2 (xs++[y]) (fr++[g]) (od.set w (l++[(xs.length:Int)])):=by
 have hl:(od.set w (l++[(xs.length:Int)])).length=od.length:=by simp
 have hlt:=(List.getElem?_eq_some_iff.1 hw).1
 refine⟨by simp [h.fl],by have:=h.ol;simp;omega,fun i hi=>?_,fun i h1 h2=>?_,fun i h1 h2=>?_,fun i h1 h2=>?_,fun b m hb=>?_⟩
 ·rw [hl] at hi
  have:=h.ol;have:=h.fl
  rw [nth_lt (by omega),getD_lt (by omega)];exact h.beg i hi
 ·rw [hl] at h1 ⊢
  by_cases hx:i < xs.length
  ·rw [nth_lt hx];exact h.ev i h1 hx
  ·have hi':i=xs.length:=by simp at h2;omega
   subst hi'
   rw [nth_end];exact hy
 ·rw [hl] at h1
  have h2':i < xs.length:=by simp at h2;omega
  by_cases hx:i+1 < xs.length
  ·rw [nth_lt h2',nth_lt hx];exact h.up i h1 hx
  ·have hi':i+1=xs.length:=by omega
   rw [nth_lt h2',hi',nth_end]
   have:=hup (by omega)
   rwa [show xs.length - 1=i by omega] at this
 ·rw [hl] at h1
  by_cases hx:i < xs.length
  ·exact fromAt_app h.fl hx (h.rd i h1 hx)
  ·have hi':i=xs.length:=by simp at h2;omega
   rw [hi'];exact hr
 ·by_cases hx:b=w
  ·subst hx
   rw [List.getElem?_set_self hlt] at hb
   obtain rfl:l++[(xs.length:Int)]=m:=by simpa using hb
   have hr:=h.rows b l hw
   refine hr.put hs ha ?_
   rw [hr.len]
   have hb0:=(h.beg b hlt).1
   have hbx:b < xs.length:=by have:=h.ol;omega
   rw [nth_get hbx] at hb0
   unfold cnt
   refine List.length_pos_of_mem (a:=xs[b]) (List.mem_filter.2 ⟨List.getElem_mem hbx,?_⟩)
   rw [hb0];unfold isSt begE;simp [stores]
  ·rw [List.getElem?_set_ne (fun e=>hx e.symm)] at hb
   refine(h.rows b m hb).app ?_
   unfold isSt
   have:(y.a==4 * (b:Int))=false:=by rw [beq_eq_false_iff_ne];omega
   rw [this,Bool.and_false]
end Ev
namespace Md
open Ev
theorem One.start {xs fr od} (h:Bld xs fr od) (hl:xs.length=4) (ol:od.length=4):One xs fr od:=by
 have row1:∀ (b:Nat) l,od[b]?=some l→l=[(b:Int)]:=fun b l hb=>by
  have hr:=h.rows b l hb
  have hbl:b < 4:=by have:=(List.getElem?_eq_some_iff.1 hb).1;omega
  have hc:∀ n ∈ l,n=(b:Int):=fun n hn=>by
   obtain⟨k,e,hk,_,ha⟩:=hr.all n hn
   rw [(h.beg k (by omega)).1] at ha
   have ha:4 * (k:Int)=4 * b:=ha
   omega
  match l,hr.nd,hr.hd,hc,hr.len with
  | [],_,hh,_,hlen =>
    exfalso
    have hb0:=(h.beg b (by omega)).1
    have hbx:b < xs.length:=by omega
    rw [nth_get hbx] at hb0
    have:0 < cnt xs (4 * (b:Int)):=by
     unfold cnt
     refine List.length_pos_of_mem (a:=xs[b]) (List.mem_filter.2 ⟨List.getElem_mem hbx,?_⟩)
     rw [hb0];unfold isSt begE;simp [stores]
    rw [← hlen] at this;simp at this
  | [n],_,_,hc,_=>rw [hc n (by simp)]
  | n :: m :: r,hnd,_,hc,_ =>
    exfalso
    have e1:=hc n (by simp);have e2:=hc m (by simp)
    rw [e1,e2] at hnd
    simp at hnd
 refine⟨h.bl2 (by omega),ol,fun i h1 h2=>by omega,fun i h1 h2=>by omega,fun b l hb=>?_,fun b l hb s hs h1 h2=>?_⟩
 ·rw [row1 b l hb];simp
 ·rw [row1 b l hb]
  rw [(h.beg s (by omega)).1] at h2
  have h2:4 * (s:Int)=4 * b:=h2
  simp;omega
theorem One.row {xs fr od} (h:One xs fr od) {w:Nat} (hw:w < 4):∃ l,od[w]?=some l∧0 < l.length:=by
 obtain⟨l,hl⟩:∃ l,od[w]?=some l:=⟨_,List.getElem?_eq_getElem (by rw [h.ol];exact hw)⟩
 refine⟨l,hl,?_⟩
 have hx:w < xs.length:=by have:=h.b.ol;have:=h.ol;omega
 have h1:=(h.b.beg w (by rw [h.ol];exact hw)).1
 exact List.length_pos_of_mem (h.cmp w l hl w hx (by rw [h1];rfl) (by rw [h1];rfl))
end Md
namespace Ev
end Ev
end Go.Proofs.YtnjnpbabgefaeaaGreat
end
section
namespace Go.Proofs.YtnjnpbabgefaeaaGreat
open Go.RowKit Go.Shelf Go.Lib Go.Sort
namespace Md
def ltP (p q:Nat × Nat):Bool:=decide (p.1 < q.1)||(p.1==q.1&&decide (p.2 < q.2))
theorem ltOf_cmp:ltOf cmpP=ltP:=by
 funext p q
 unfold ltOf cmpP orI cmpI ltP
 rw [Bool.eq_iff_iff]
 simp only [decide_eq_true_eq,Bool.or_eq_true,Bool.and_eq_true,beq_iff_eq]
 by_cases h1:p.1 < q.1
 ·simp [h1]
 ·by_cases h2:q.1 < p.1
  ·have:¬ p.1=q.1:=by omega
   simp [h1,h2,this]
  ·have:p.1=q.1:=by omega
   by_cases h3:p.2 < q.2
   ·simp [h1,h2,h3,this]
   ·by_cases h4:q.2 < p.2 <;> simp [h1,h2,h3,h4,this]
theorem ltP_iff {p q:Nat × Nat}:ltP p q=true↔p.1 < q.1∨(p.1=q.1∧p.2 < q.2):=by simp [ltP]
theorem ltP_no {p q:Nat × Nat}:ltP p q=false↔¬ (p.1 < q.1∨(p.1=q.1∧p.2 < q.2)):=by rw [← ltP_iff];simp
theorem swo:SWO (ltOf cmpP) where
 irrefl x:=by rw [ltOf_cmp,ltP_no];omega
 trans x y z h1 h2:=by rw [ltOf_cmp,ltP_iff] at *;omega
 ntrans x y z h1 h2:=by rw [ltOf_cmp,ltP_no] at *;omega
theorem apart {x y:Nat × Nat} (h1:ltOf cmpP x y=false) (h2:ltOf cmpP y x=false):x=y:=by
 rw [ltOf_cmp,ltP_no] at *
 exact Prod.ext (by omega) (by omega)
theorem lays (blk off size:Nat) (w:World):CmpLays Tryz.prog 62 #[] Ev.pv 2 cmpP blk off size w:=fun _ _ _ _ x y=>cmpP_any x y _
def le (x y:Nat × Nat):Bool:=!(ltOf cmpP) y x
theorem le_iff {x y:Nat × Nat}:le x y=true↔x.1 < y.1∨(x.1=y.1∧x.2≤y.2):=by
 unfold le
 rw [ltOf_cmp,Bool.not_eq_true',ltP_no];omega
theorem sorted_ok (ss:List (Nat × Nat)):(ss.mergeSort le).Pairwise (fun a b=>le a b=true) :=
 List.pairwise_mergeSort (fun a b c h1 h2=>by rw [le_iff] at *;omega) (fun a b=>by simp only [Bool.or_eq_true,le_iff];omega) ss
theorem holds_of_row {w:World} {base:Nat} {g cap:Nat} {ss:List (Nat × Nat)} (h:w.ownsRow base 72 2 (.slice (some ⟨g,0,none⟩) ss.length cap) ss.length (ss.flatMap Ev.pv)):HoldsK Ev.pv 2 w g 0 ss.toArray∧g < w.heap.size∧base≤g:=by
 rcases h.2 with ⟨h,_⟩ | ⟨g',cap',cur,e,hb,hh,hnc,hcm,_,ht⟩
 ·simp at h
 ·obtain⟨rfl,rfl⟩:g=g'∧cap=cap':=by simpa using e
  refine⟨fun j hj=>?_,(qL hh),hb⟩
  have hj2:j < ss.length * 2:=by simpa using hj
  have hd:j / 2 < ss.length:=by omega
  refine⟨?_,?_⟩
  ·rw [get_flatK _ _ _ _ (by simpa using hj2),cell_of_row w g _ cur 72 (0,0) hh]
   have h1:=Ev.pv_flat ss (j / 2) ss[j / 2] (j % 2) ((Ev.pv ss[j / 2])[j % 2]!) (by rw [List.getElem?_eq_getElem hd]) (by
    have:j % 2 < (Ev.pv ss[j / 2]).length:=by simp [Ev.pv];omega
    simp [this])
   rw [show j / 2 * 2+j % 2=j by omega,← ht,List.getElem?_take] at h1
   rw [if_pos (by simpa [Nat.mul_comm] using hj2)] at h1
   simp only [Nat.zero_add]
   have e1:ss.toArray[j / 2]! = ss[j / 2]:=by simp [hd]
   rw [e1]
   simpa using h1
  ·exact frozen_of_row w _ _ _ _ hh
theorem pairs_of_holds {w:World} {g cap:Nat} {L:List (Nat × Nat)} (h:HoldsK Ev.pv 2 w g 0 L.toArray) (h1:L.length≤cap) (h2:cap≤9223372036854775807):Ev.PairsIn w (some ⟨g,0,none⟩) cap L:=by
 refine⟨fun hp=>⟨g,0,rfl,fun j v hv i c hi=>?_⟩,h1,h2⟩
 rw [List.getElem?_map] at hv
 cases hj:L[j]? with
 | none=>rw [hj] at hv;cases hv
 | some p =>
   rw [hj] at hv
   have hvp:Ev.pv p=v:=by simpa using hv
   subst hvp
   have hjl:=(List.getElem?_eq_some_iff.1 hj).1
   have hil:i < 2:=by have:=(List.getElem?_eq_some_iff.1 hi).1;simpa [Ev.pv] using this
   have hc:=(h (j * 2+i) (by simp;omega)).1
   rw [get_flatK _ _ _ _ (by simp;omega),show(j * 2+i) / 2=j by omega,show(j * 2+i) % 2=i by omega] at hc
   rw [show 0+j * 2+i=0+(j * 2+i) by omega,hc]
   have e1:L.toArray[j]! = p:=by
    have:=(List.getElem?_eq_some_iff.1 hj).2
    simp [hjl,this]
   rw [e1]
   have e2:=(List.getElem?_eq_some_iff.1 hi)
   obtain⟨e3,e4⟩:=e2
   simp [e3,← e4]
theorem below_sorted {w W:World} {g n:Nat} {d:Array (Nat × Nat)} {os:Array Obj} (h:Below w.heap.size w W) (hg:w.heap.size≤g) (hW:g < W.heap.size):Below w.heap.size w (sortWorldK Ev.pv 2 W g 0 n d os):=by
 refine⟨h.os,h.tape,h.output,Nat.le_trans h.size ?_,fun i hi=>?_⟩
 ·exact size_sortWorldK_c _ _ _ _ _ _ _ _
 ·refine Eq.trans ?_ (h.block i hi)
  have hi2:=Nat.lt_of_lt_of_le hi h.size
  show((W.heap.modify g _)++os)[i]?=W.heap[i]?
  rw [Array.getElem?_append_left (by simp;exact hi2),Array.getElem?_modify,if_neg (by omega)]
end Md
theorem isAgg_pair (w:World):(isAgg 72).run Tryz.prog w=.ok true w:=Tryz.isAgg72 w
theorem psort_any (v:Value) (ss:List (Nat × Nat)) (hlen:ss.length≤65536) (w W:World) (h:W.ownsRow w.heap.size 72 2 v ss.length (ss.flatMap Ev.pv)) (hb:Below w.heap.size w W) :
 Calls Tryz.prog 88 #[v,.func (.func 62) #[] #[]] W fun e w'=>e=.returned (.tuple #[])∧(∃ a c,v=.slice a ss.length c∧Ev.PairsIn w' a c (ss.mergeSort Md.le))∧Below w.heap.size w w':=by
 rcases h.2 with ⟨rfl,hz⟩ | ⟨g,cap,cur,rfl,hbase,hh,hnc,hcm,hrest⟩
 ·have hs:ss=[]:=List.length_eq_zero_iff.1 hz
  subst hs
  exact(AnyF.slices_SortFunc_none (L:=Tryz.sortPairs) none 0 _ W).mono fun e w' ⟨he,hw⟩=>⟨he,⟨none,0,rfl,⟨fun hp=>by simp at hp,by simp,by omega⟩⟩,by rw [hw];exact hb⟩
 ·obtain⟨hH,hlt,hge⟩:=Md.holds_of_row h
  have hcap:cap≤9223372036854775807:=by unfold maxLen at hcm;exact hcm
  have hcon:=AnyQ.slices_SortFunc_total Tryz.sortPairs 2 isAgg_pair (fun w=>Tryz.sizeOf72 w) Ev.pv (fun _=>rfl) Ev.pv_one Md.cmpP Md.swo 62 #[] g 0 cap ss.toArray W
   (enters_of Tryz.func62 (by kernel_rfl) rfl) (Md.lays _ _ _ _) hH hlt (by simp;omega) (fun x y h1 h2=>Md.apart h1 h2)
  simp only [List.size_toArray] at hcon
  refine hcon.mono fun e w' hpost=>?_
  obtain⟨he,n,os,hw⟩:=hpost
  refine⟨he,⟨_,_,rfl,?_⟩,?_⟩
  ·refine Md.pairs_of_holds ?_ (by rw [List.length_mergeSort];exact hnc) hcap
   rw [hw]
   exact holdsK_sortWorldK Ev.pv 2 W g 0 n ss.toArray _ os hlt hH (by simp [List.length_mergeSort])
  ·rw [hw]
   exact Md.below_sorted hb hbase hlt
theorem pcollect_any (G:FuncId) (caps:Array Value) (R:World→Prop) (S:List (Nat × Nat)) (hS:S.length≤65536) (w:World) (hE:∀ args w,(callFunc G args).run Tryz.prog w=.ok (.enter G args) w) (hR:∀ (ss:List (Nat × Nat)) (W:World),Below w.heap.size w W→R W)
 (hit:Og.IterS Fence.wide 4 Tryz.prog G caps R (fun p:Nat × Nat=>#[Md.pkV p]) (Md.kst S) [] (Md.kfin S)) :
 Calls Tryz.prog 87 #[.func (.func G) #[] caps] w fun r w'=>∃ v ss,r=.returned v∧Md.kfin S ss∧w'.ownsRow w.heap.size 72 2 v ss.length (ss.flatMap Ev.pv)∧Below w.heap.size w w':=by
 have HC:=qH (pappendSeq_any G caps R S hS w hE hR hit)
 clear hit hR hE
 go_enter Tryz.func87,Tryz.ntmps87
 go_wp2_with fail
 refine HC.out.mono ?_
 rintro r W1 ⟨v,ss,rfl,h0,h1,h2⟩
 have H0:=qH h0;have H1:=qH h1;have H2:=qH h2
 clear h0 h1 h2
 go_wp2_with fail
 go_ret
 exact⟨_,ss,rfl,H0.out,H1.out,H2.out⟩
theorem Md.kfin_len {S ss:List (Nat × Nat)} (h:Md.kfin S ss) (hS:S.length≤65536):ss.length≤65536:=Nat.le_trans (Ev.nodup_le h.1 fun x hx=>(h.2 x).1 hx) hS
theorem sortedFunc_any (G:FuncId) (caps:Array Value) (R:World→Prop) (S:List (Nat × Nat)) (hS:S.length≤65536) (w:World) (hE:∀ args w,(callFunc G args).run Tryz.prog w=.ok (.enter G args) w) (hR:∀ (ss:List (Nat × Nat)) (W:World),Below w.heap.size w W→R W)
 (hit:Og.IterS Fence.wide 4 Tryz.prog G caps R (fun p:Nat × Nat=>#[Md.pkV p]) (Md.kst S) [] (Md.kfin S)) :
 Calls Tryz.prog 60 #[.func (.func G) #[] caps,.func (.func 62) #[] #[]] w fun r w'=>∃ a c ss,r=.returned (.slice a ss.length c)∧Md.kfin S ss∧Ev.PairsIn w' a c (ss.mergeSort Md.le)∧Below w.heap.size w w':=by
 have HC:=qH (pcollect_any G caps R S hS w hE hR hit)
 clear hit hR hE
 go_enter Tryz.func60,Tryz.ntmps60
 go_wp2_with fail
 refine HC.out.mono ?_
 rintro r W1 ⟨v,ss,rfl,h0,h1,h2⟩
 have H0:=qH h0
 have HP:=qH (psort_any v ss (Md.kfin_len h0 hS) w W1 h1 h2)
 clear h0 h1 h2
 go_wp2_with fail
 refine HP.out.mono ?_
 rintro r W2 ⟨rfl,⟨a,c,rfl,h1⟩,h2⟩
 have H1:=qH h1;have H2:=qH h2
 clear h1 h2
 go_wp2_with fail
 go_ret
 exact⟨_,_,ss,rfl,H0.out,H1.out,H2.out⟩
theorem keys_any (b:Nat) (w:World):Calls Tryz.prog 61 #[.map (some b)] w fun r w'=>r=.returned (.func (.func 89) #[] #[.pointer (some ⟨w.heap.size,0,none⟩)])∧w'=w.alloc (.cells #[.map (some b)] 77):=by
 go_enter Tryz.func61,Tryz.ntmps61
 go_wp2
 go_ret
 exact⟨rfl,rfl⟩
def Md.Ris (S L:List (Nat × Nat)):Prop:=L.Pairwise (fun p q=>Md.ltP p q=true)∧∀ p,p ∈ L↔p ∈ S
theorem Md.ris_sort {S ss:List (Nat × Nat)} (h:Md.kfin S ss):Md.Ris S (ss.mergeSort Md.le):=by
 refine⟨?_,fun p=>by rw [List.mem_mergeSort];exact h.2 p⟩
 have h1:=Md.sorted_ok ss
 have h2:(ss.mergeSort Md.le).Nodup:=(List.mergeSort_perm ss Md.le).nodup_iff.2 h.1
 refine(h1.and h2).imp fun {p q} hpq=>?_
 obtain⟨hle,hne⟩:=hpq
 rw [Md.le_iff] at hle
 rw [Md.ltP_iff]
 have:¬ (p.1=q.1∧p.2=q.2):=fun e=>hne (Prod.ext e.1 e.2)
 omega
theorem rising_any (b n:Nat) (S:List (Nat × Nat)) (hS:S.length≤65536) (w:World) (hin:Md.PSet w b n S) :
 Calls Tryz.prog 41 #[.map (some b)] w fun r w'=>∃ a c L,r=.returned (.slice a L.length c)∧Md.Ris S L∧Ev.PairsIn w' a c L∧Below w.heap.size w w':=by
 obtain⟨W0,hW0⟩:∃ W0,W0=w.alloc (.cells #[.map (some b)] 77):=⟨_,rfl⟩
 have hb0:Below w.heap.size w W0:=by rw [hW0];exact(Below.refl _ _).alloc (Nat.le_refl _) _
 have hbx:W0.heap[w.heap.size]?=some (.cells #[.map (some b)] 77 (0,0)):=by rw [hW0];exact heap_alloc_new _ _
 have hlt:w.heap.size < W0.heap.size:=(qL hbx)
 have HC:=qH (sortedFunc_any 89 #[.pointer (some ⟨w.heap.size,0,none⟩)] (Md.KIn w.heap.size b n S) S hS W0
  (enters_of Tryz.func89 (by kernel_rfl) rfl)
  (fun ss W hb=>⟨by rw [(qC ((hb.block _ hlt).trans hbx))];rfl,(hin.kp hb0).kp hb⟩) (keys_iter 4 (by decide) w.heap.size b n S))
 have HW0:=qH hW0;have HB0:=qH hb0
 clear hW0 hb0 hbx hlt hin
 go_enter Tryz.func41,Tryz.ntmps41
 go_wp2_with fail
 refine(keys_any b w).mono ?_
 rintro r W1 ⟨rfl,hw1⟩
 rw [← HW0.out] at hw1
 subst hw1
 go_wp2_with fail
 refine HC.out.mono ?_
 rintro r W2 ⟨a,c,ss,rfl,h0,h1,h2⟩
 have H0:=qH h0;have H1:=qH h1;have H2:=qH h2
 clear h0 h1 h2
 go_wp2_with fail
 go_ret
 refine⟨a,c,ss.mergeSort Md.le,?_,Md.ris_sort H0.out,H1.out,HB0.out.trans (H2.out.mono HB0.out.size)⟩
 rw [List.length_mergeSort]
 rfl
end Go.Proofs.YtnjnpbabgefaeaaGreat
end
section
namespace Go.Proofs.YtnjnpbabgefaeaaGreat
open Go.RowKit
namespace Md
open Ev
def lrE (r:Int):R:=⟨0,1,0,0,r,false,false,0,0,true,noS,noS,noS⟩
def scE:R:=⟨0,2,0,9,0,false,false,0,0,true,noS,noS,noS⟩
def otE (i:Nat):R:=⟨1,2,0,1+(i:Int),0,false,false,0,0,false,noS,noS,noS⟩
def prE (r:Int) (i:Nat):List R:=[begE 0,lrE r,scE]++(List.range i).map otE
def prF (f:Int) (i:Nat):List Int:=[-1,f,-1]++List.replicate i (-1)
def prL (at':Nat):Nat→List Nat
 | 0=>[0]
 | i+1=>(if (prL at' i).length=at' then prL at' i++[2] else prL at' i)++[3+i]
def prO (n at':Nat):List Nat:=if (prL at' n).length < n+2 then prL at' n++[2] else prL at' n
def prV (f:Nat):Int:=if f=0 then 0 else if f=2 then 9 else (f:Int) - 2
theorem prE_succ (r:Int) (i:Nat):prE r (i+1)=prE r i++[otE i]:=by
 unfold prE;rw [List.range_succ,List.map_append,List.append_assoc];rfl
theorem prF_succ (f:Int) (i:Nat):prF f (i+1)=prF f i++[-1]:=by
 unfold prF;rw [List.replicate_succ',← List.append_assoc]
theorem prE_len (r:Int) (i:Nat):(prE r i).length=3+i:=by unfold prE;simp;omega
theorem prF_len (f:Int) (i:Nat):(prF f i).length=3+i:=by unfold prF;simp;omega
theorem prE_at {r:Int} {i f:Nat} (hf:f=0∨(3≤f∧f < 3+i)):∃ y,(prE r i)[f]?=some y∧y.v=prV f:=by
 rcases hf with rfl | ⟨h1,h2⟩
 ·exact⟨begE 0,rfl,rfl⟩
 ·refine⟨otE (f - 3),?_,?_⟩
  ·unfold prE
   rw [List.getElem?_append_right (by simpa using h1),List.getElem?_map,List.getElem?_range (by simp;omega)]
   rfl
  ·show 1+((f - 3:Nat):Int)=prV f
   unfold prV
   rw [if_neg (by omega),if_neg (by omega)];omega
theorem prF_set (i:Nat) (f:Int):(prF 0 i).set 1 f=prF f i:=rfl
theorem prE_set (i:Nat) (r:Int):(prE 0 i).set 1 (lrE r)=prE r i:=rfl
theorem prE_one (r:Int) (i:Nat):(prE r i)[1]?=some (lrE r):=rfl
theorem prL_len {a:Nat} (ha:0 < a):∀ i,(prL a i).length=if i < a then i+1 else i+2
 | 0=>by simp [prL,ha]
 | i+1=>by
   unfold prL
   rw [prL_len ha i]
   by_cases h1:i < a
   ·rw [if_pos h1]
    by_cases h2:i+1=a
    ·rw [if_pos h2,if_neg (by omega),List.length_append,List.length_append,prL_len ha i,if_pos h1];simp
    ·rw [if_neg h2,if_pos (by omega),List.length_append,prL_len ha i,if_pos h1];simp
   ·rw [if_neg h1,if_neg (by omega),if_neg (by omega),List.length_append,prL_len ha i,if_neg h1];simp
theorem prO_len {n a:Nat} (ha:0 < a) (h:a≤n+1):(prO n a).length=n+2:=by
 unfold prO
 rw [prL_len ha n]
 by_cases h1:n < a
 ·rw [if_pos h1,if_pos (by omega),List.length_append,prL_len ha n,if_pos h1];simp
 ·rw [if_neg h1,if_neg (by omega),prL_len ha n,if_neg h1]
theorem prL_mem {a:Nat}:∀ i,∀ q ∈ prL a i,q=0∨q=2∨(3≤q∧q < 3+i)
 | 0=>fun q hq=>by simp [prL] at hq;exact .inl hq
 | i+1=>fun q hq=>by
   unfold prL at hq
   rcases List.mem_append.1 hq with h | h
   ·have h':q ∈ prL a i∨q=2:=by
     by_cases e:(prL a i).length=a
     ·rw [if_pos e] at h
      rcases List.mem_append.1 h with h | h
      ·exact .inl h
      ·exact .inr (by simpa using h)
     ·rw [if_neg e] at h;exact .inl h
    rcases h' with h | h
    ·rcases prL_mem i q h with h | h | h
     ·exact .inl h
     ·exact .inr (.inl h)
     ·exact .inr (.inr (by omega))
    ·exact .inr (.inl h)
   ·have:q=3+i:=by simpa using h
    exact .inr (.inr (by omega))
theorem prO_mem {n a:Nat}:∀ q ∈ prO n a,q=0∨q=2∨(3≤q∧q < 3+n):=fun q hq=>by
 unfold prO at hq
 split at hq
 ·rcases List.mem_append.1 hq with h | h
  ·exact prL_mem n q h
  ·exact .inr (.inl (by simpa using h))
 ·exact prL_mem n q hq
def prX (ae:Option Addr) (ce:Nat) (fa:Option Addr) (fc:Nat) (ao:Option Addr) (co:Nat) (oa:Option Addr) (oc:Nat) (n a f:Nat):X :=
 ⟨ae,ce,prE (prV f) n,⟨fa,fc,prF (f:Int) n⟩,ao,co,[⟨oa,oc,(prO n a).map fun q:Nat=>(q:Int)⟩]⟩
theorem prX_all (ae:Option Addr) (ce:Nat) (fa:Option Addr) (fc:Nat) (ao:Option Addr) (co:Nat) (oa:Option Addr) (oc:Nat) :
 ((List.range 5).all fun n=>(List.range (n+1)).all fun a=>(0 :: (List.range n).map fun i=>3+i).all fun f=>check (prX ae ce fa fc ao co oa oc n (a+1) f)==0)=true:=by kernel_rfl
theorem prX_check {ae:Option Addr} {ce:Nat} {fa:Option Addr} {fc:Nat} {ao:Option Addr} {co:Nat} {oa:Option Addr} {oc:Nat} {n a f:Nat} (hn:n≤4) (ha:0 < a) (han:a≤n+1) (hf:f=0∨(3≤f∧f < 3+n)):check (prX ae ce fa fc ao co oa oc n a f)=0:=by
 have h:=prX_all ae ce fa fc ao co oa oc
 rw [List.all_eq_true] at h
 have h1:=h n (List.mem_range.2 (by omega))
 rw [List.all_eq_true] at h1
 have h2:=h1 (a - 1) (List.mem_range.2 (by omega))
 rw [List.all_eq_true] at h2
 have h3:=h2 f (by
  rcases hf with rfl | h
  ·exact List.mem_cons_self
  ·exact List.mem_cons_of_mem _ (List.mem_map.2 ⟨f - 3,List.mem_range.2 (by omega),by omega⟩))
 rw [show a - 1+1=a by omega] at h3
 simpa using h3
end Md
end Go.Proofs.YtnjnpbabgefaeaaGreat
end
section
namespace Go.Proofs.YtnjnpbabgefaeaaGreat
open Go.RowKit
namespace Md
open Ev
structure JIn (w:World) (q:Nat) (x:X):Prop where
 row:w.heap[q]?=some (.cells (xcells x).toArray 83 (0,0))
 xin:XIn w x
theorem JIn.kp {w w':World} {q:Nat} {x:X} (h:JIn w q x) (hb:Below w.heap.size w w'):JIn w' q x :=
 ⟨(hb.block q (qL h.row)).trans h.row,h.xin.kp (kp_below hb)⟩
theorem JIn.c0 {w:World} {q:Nat} {x:X} (h:JIn w q x):w.cell? ⟨q,0,none⟩=some (.slice x.ae x.ev.length x.ce):=by rw [qC h.row];rfl
theorem JIn.c1 {w:World} {q:Nat} {x:X} (h:JIn w q x):w.cell? ⟨q,1,none⟩=some (.slice x.fr.a x.fr.l.length x.fr.c):=by rw [qC h.row];rfl
def BringR (x:X) (w:World) (e:Ending) (w':World):Prop:=Below w.heap.size w w' ∧
 ((check x≠0∧e=.returned (.tuple #[.pointer none,.int .i64 (check x)]))∨(check x=0∧∃ q,e=.returned (.tuple #[.pointer (some ⟨q,0,none⟩),.int .i64 0])∧JIn w' q x))
end Md
theorem isFence_any (e:Ev.R) (w:World):Calls Tryz.prog 75 #[.agg (Ev.cells e).toArray] w fun r w'=>r=.returned (.bool (e.k==4))∧Below w.heap.size w w':=by
 have c1:(w.alloc (.cells (Ev.cells e).toArray 48)).cell? ⟨w.heap.size,1,none⟩=some (.int .i64 e.k):=by rw [qC (heap_alloc_new w _)];rfl
 have B0:=qH ((Below.refl w.heap.size w).alloc (Nat.le_refl _) (.cells (Ev.cells e).toArray 48))
 go_enter Tryz.func75,Tryz.ntmps75
 go_wp2
 go_ret
 exact⟨rfl,B0.out⟩
theorem bring_any (x:Ev.X) (w:World) (hin:Ev.XIn w x):Calls Tryz.prog 34 #[.agg (Ev.xcells x).toArray] w (Md.BringR x w):=by
 have HIN:=qH hin;clear hin
 have R0:=qH (heap_alloc_new w (.cells (Ev.xcells x).toArray 26))
 have B0:=qH ((Below.refl w.heap.size w).alloc (Nat.le_refl _) (.cells (Ev.xcells x).toArray 26))
 obtain⟨v,hv⟩:∃ v,Ev.check x=v:=⟨_,rfl⟩
 have HV:=qH hv
 clear hv
 go_enter Tryz.func34,Tryz.ntmps34
 go_wp2_with ((with_reducible refine qG 5 ?_);refine wpList_load_row rfl 26 (.tmp 1) rfl w.heap.size (by kernel_rfl) 26 (Ev.xcells x).toArray (0,0) _ R0.out Tryz.underlying26 rfl (by kernel_rfl) ?_)
 refine(check_is HV.out _ (HIN.out.kp (Ev.kp_below B0.out))).mono ?_
 rintro e W1 ⟨rfl,hb⟩
 have R1:=qH ((hb.block w.heap.size (by simp only [World.size_alloc];omega)).trans R0.out)
 have B1:=qH (B0.out.trans (hb.mono (by simp only [World.size_alloc];omega)));clear hb
 by_cases hz:v=0
 ·subst hz
  go_wp2_with ((with_reducible refine qG 10 ?_);refine wpList_load_row rfl 26 (.tmp 1) rfl w.heap.size (by kernel_rfl) 26 #[.slice x.ae x.ev.length x.ce,.slice x.fr.a x.fr.l.length x.fr.c,.slice x.ao x.od.length x.co] (0,0) _ R1.out Tryz.underlying26 rfl (by kernel_rfl) ?_)
  go_ret2
  have hb2:Below W1.heap.size W1 (W1.alloc (.cells (Ev.xcells x).toArray 83)):=(Below.refl _ _).alloc (Nat.le_refl _) _
  exact⟨B1.out.trans (hb2.mono B1.out.size),.inr ⟨HV.out,W1.heap.size,rfl,heap_alloc_new _ _,HIN.out.kp (Ev.kp_below (B1.out.trans (hb2.mono B1.out.size)))⟩⟩
 ·have tv:(v != 0)=true:=by simpa using hz
  have HZ:=qH hz
  clear hz
  go_wp2
  go_ret2
  exact⟨B1.out,.inl ⟨by rw [HV.out];exact HZ.out,by rw [HV.out];rfl⟩⟩
end Go.Proofs.YtnjnpbabgefaeaaGreat
end
