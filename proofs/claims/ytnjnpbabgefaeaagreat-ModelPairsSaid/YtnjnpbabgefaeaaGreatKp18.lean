import Derived.Test.YtnjnpbabgefaeaaGreatKp17
import Derived.Test.YtnjnpbabgefaeaaGreatKp15
import Derived.Test.YtnjnpbabgefaeaaGreatKp16
import Derived.Maps.RangeWalk
import Derived.Maps.OwnSet
import Derived.Sort.MapsRangeIn
import Derived.DeepKeys4
import Derived.Test.YtnjnpbabgefaeaaGreatKp06
set_option maxRecDepth 100000
set_option linter.unusedVariables false
set_option linter.unusedSimpArgs false
section
namespace Go.Proofs.YtnjnpbabgefaeaaGreat
open Go.RowKit
namespace Ev
abbrev noS:Sl:=⟨none,0,[]⟩
def begE (a:Int):R:=⟨-1,5,a,0,0,false,false,0,0,false,noS,noS,noS⟩
inductive Laid (B:Nat):R→Int→Prop
 | fence (p s:Int) (hp:0≤p∧p < 4) (hs:0≤s∧s < 4):Laid B ⟨0,4,0,0,0,false,false,p,s,false,noS,noS,noS⟩ (-1)
 | load (w:Nat) (hw:w < B) (z:Bool):Laid B ⟨0,1,4 * w,0,0,false,false,0,0,z,noS,noS,noS⟩ w
 | store (w:Nat) (hw:w < B) (v:Int) (z:Bool):Laid B ⟨0,2,4 * w,v,0,false,false,0,0,z,noS,noS,noS⟩ (-1)
 | both (w:Nat) (hw:w < B) (v:Int):Laid B ⟨0,3,4 * w,v,0,false,false,0,0,false,noS,noS,noS⟩ w
theorem nth_lt {xs:List R} {y:R} {i:Nat} (h:i < xs.length):nth (xs++[y]) (i:Int)=nth xs (i:Int):=by
 unfold nth
 rw [Int.toNat_natCast,List.getD_eq_getElem?_getD,List.getD_eq_getElem?_getD,List.getElem?_append_left h]
theorem nth_end (xs:List R) (y:R):nth (xs++[y]) (xs.length:Int)=y:=by
 unfold nth
 rw [Int.toNat_natCast,List.getD_eq_getElem?_getD,List.getElem?_append_right (Nat.le_refl _)]
 simp
theorem cnt_app (xs:List R) (y:R) (a:Int):cnt (xs++[y]) a=cnt xs a+(if isSt a y then 1 else 0):=by
 unfold cnt
 rw [List.filter_append,List.length_append]
 congr 1
 cases h:isSt a y <;> simp [List.filter,h]
structure RowOk (xs:List R) (b:Nat) (l:List Int):Prop where
 nd:l.Nodup
 hd:l.getD 0 0=b
 len:l.length=cnt xs (4 * b)
 all:∀ n ∈ l,∃ k:Nat,n=k∧k < xs.length∧stores (nth xs (k:Int)).k=true∧(nth xs (k:Int)).a=4 * b
structure Bld (xs:List R) (fr:List Int) (od:List (List Int)):Prop where
 fl:fr.length=xs.length
 ol:od.length≤xs.length
 beg:∀ i:Nat,i < od.length→nth xs (i:Int)=begE (4 * i)∧fr.getD i 0=-1
 ev:∀ i:Nat,od.length≤i→i < xs.length→Laid od.length (nth xs (i:Int)) (fr.getD i 0)
 rows:∀ (b:Nat) (l:List Int),od[b]?=some l→RowOk xs b l
theorem Bld.nil:Bld [] [] []:=⟨rfl,Nat.le_refl _,fun i h=>by simp at h,fun i _ h=>by simp at h,fun b l h=>by simp at h⟩
theorem RowOk.app {xs b l} (h:RowOk xs b l) {y:R} (hy:isSt (4 * b) y=false):RowOk (xs++[y]) b l :=
 ⟨h.nd,h.hd,by rw [cnt_app,hy];exact h.len,fun n hn=>by
   obtain⟨k,e,hk,h1,h2⟩:=h.all n hn
   refine⟨k,e,by rw [List.length_append];omega,?_,?_⟩ <;> rw [nth_lt hk]
   ·exact h1
   ·exact h2⟩
theorem RowOk.put {xs b l} (h:RowOk xs b l) {y:R} (h1:stores y.k=true) (h2:y.a=4 * b) (hl:0 < l.length):RowOk (xs++[y]) b (l++[(xs.length:Int)]):=by
 refine⟨?_,?_,?_,?_⟩
 ·rw [List.nodup_append]
  refine⟨h.nd,by simp,fun a ha c hc=>?_⟩
  obtain⟨k,e,hk,_⟩:=h.all a ha
  have:c=(xs.length:Int):=by simpa using hc
  omega
 ·rw [List.getD_eq_getElem?_getD,List.getElem?_append_left hl,← List.getD_eq_getElem?_getD];exact h.hd
 ·have:isSt (4 * b) y=true:=by unfold isSt;rw [h1,h2];simp
  rw [cnt_app,this,List.length_append,h.len];rfl
 ·intro n hn
  rcases List.mem_append.1 hn with hn | hn
  ·obtain⟨k,e,hk,g1,g2⟩:=h.all n hn
   refine⟨k,e,by rw [List.length_append];omega,?_,?_⟩ <;> rw [nth_lt hk]
   ·exact g1
   ·exact g2
  ·have:n=(xs.length:Int):=by simpa using hn
   refine⟨xs.length,this,by simp,?_,?_⟩ <;> rw [nth_end]
   ·exact h1
   ·exact h2
theorem getD_lt {l:List Int} {n:Int} {i:Nat} (h:i < l.length):(l++[n]).getD i 0=l.getD i 0:=by
 rw [List.getD_eq_getElem?_getD,List.getElem?_append_left h,← List.getD_eq_getElem?_getD]
theorem getD_end {l:List Int} {n:Int} {i:Nat} (h:i=l.length):(l++[n]).getD i 0=n:=by
 subst h;rw [List.getD_eq_getElem?_getD,List.getElem?_append_right (Nat.le_refl _)];simp
theorem Bld.cnt0 {xs fr od} (h:Bld xs fr od) (he:xs.length=od.length):cnt xs (4 * (xs.length:Int))=0:=by
 unfold cnt
 rw [List.length_eq_zero_iff,List.filter_eq_nil_iff]
 intro y hy
 obtain⟨i,hi,rfl⟩:=List.mem_iff_getElem.1 hy
 have hb:=(h.beg i (by omega)).1
 rw [nth_get hi] at hb
 rw [hb]
 unfold isSt begE
 simp only [Bool.and_eq_true,beq_iff_eq,not_and]
 intro _;omega
theorem Bld.begin {xs fr od} (h:Bld xs fr od) (he:xs.length=od.length):Bld (xs++[begE (4 * (xs.length:Int))]) (fr++[-1]) (od++[[(xs.length:Int)]]):=by
 refine⟨by simp [h.fl],by simp [he],fun i hi=>?_,fun i h1 h2=>?_,fun b l hb=>?_⟩
 ·rw [List.length_append] at hi
  by_cases hx:i < od.length
  ·rw [nth_lt (by omega),getD_lt (by have:=h.fl;omega)];exact h.beg i hx
  ·have hi':i=xs.length:=by simp at hi;omega
   subst hi'
   rw [nth_end,getD_end h.fl.symm];exact⟨rfl,rfl⟩
 ·simp at h1 h2;omega
 ·by_cases hx:b < od.length
  ·rw [List.getElem?_append_left hx] at hb
   refine(h.rows b l hb).app ?_
   unfold isSt begE
   have:(4 * (xs.length:Int)==4 * (b:Int))=false:=by rw [beq_eq_false_iff_ne];omega
   rw [this,Bool.and_false]
  ·have hb':b=od.length:=by
    have:=(List.getElem?_eq_some_iff.1 hb).1;simp at this;omega
   subst hb'
   rw [List.getElem?_append_right (Nat.le_refl _)] at hb
   have hl:l=[(xs.length:Int)]:=by simpa using hb.symm
   subst hl
   refine⟨by simp,by simp [he],?_,fun n hn=>?_⟩
   ·rw [cnt_app,← he,h.cnt0 he];unfold isSt begE;simp [stores]
   ·have:n=(xs.length:Int):=by simpa using hn
    refine⟨xs.length,this,by simp,?_,?_⟩ <;> rw [nth_end]
    ·rfl
    ·unfold begE;simp [he]
theorem Bld.more {xs fr od} (h:Bld xs fr od) {y:R} {f:Int} (hy:Laid od.length y f) (hs:stores y.k=false):Bld (xs++[y]) (fr++[f]) od:=by
 refine⟨by simp [h.fl],by have:=h.ol;simp;omega,fun i hi=>?_,fun i h1 h2=>?_,fun b l hb=>?_⟩
 ·have:=h.ol;have:=h.fl
  rw [nth_lt (by omega),getD_lt (by omega)];exact h.beg i hi
 ·by_cases hx:i < xs.length
  ·rw [nth_lt hx,getD_lt (by have:=h.fl;omega)];exact h.ev i h1 hx
  ·have hi':i=xs.length:=by simp at h2;omega
   subst hi'
   rw [nth_end,getD_end h.fl.symm];exact hy
 ·exact(h.rows b l hb).app (by unfold isSt;rw [hs];rfl)
theorem Bld.put {xs fr od} (h:Bld xs fr od) {y:R} {f:Int} (hy:Laid od.length y f) (hs:stores y.k=true) {w:Nat} {l:List Int} (hw:od[w]?=some l) (ha:y.a=4 * w):Bld (xs++[y]) (fr++[f]) (od.set w (l++[(xs.length:Int)])):=by
 have hl:(od.set w (l++[(xs.length:Int)])).length=od.length:=by simp
 have hlt:=(List.getElem?_eq_some_iff.1 hw).1
 refine⟨by simp [h.fl],by have:=h.ol;simp;omega,fun i hi=>?_,fun i h1 h2=>?_,fun b m hb=>?_⟩
 ·rw [hl] at hi
  have:=h.ol;have:=h.fl
  rw [nth_lt (by omega),getD_lt (by omega)];exact h.beg i hi
 ·rw [hl] at h1 ⊢
  by_cases hx:i < xs.length
  ·rw [nth_lt hx,getD_lt (by have:=h.fl;omega)];exact h.ev i h1 hx
  ·have hi':i=xs.length:=by simp at h2;omega
   subst hi'
   rw [nth_end,getD_end h.fl.symm];exact hy
 ·by_cases hx:b=w
  ·subst hx
   rw [List.getElem?_set_self hlt] at hb
   obtain rfl:l++[(xs.length:Int)]=m:=by simpa using hb
   have hr:=h.rows b l hw
   refine hr.put hs ha ?_
   rw [hr.len]
   have hb0:=(h.beg b hlt).1
   have hbx:b < xs.length:=by have:=h.ol;omega
   rw [nth_get hbx] at hb0
   unfold cnt
   refine List.length_pos_of_mem (a:=xs[b]) (List.mem_filter.2 ⟨List.getElem_mem hbx,?_⟩)
   rw [hb0];unfold isSt begE;simp [stores]
  ·rw [List.getElem?_set_ne (fun e=>hx e.symm)] at hb
   refine(h.rows b m hb).app ?_
   unfold isSt
   have:(y.a==4 * (b:Int))=false:=by rw [beq_eq_false_iff_ne];omega
   rw [this,Bool.and_false]
theorem Bld.one {xs fr od} (h:Bld xs fr od) {i:Nat} (hi:i < xs.length):(i < od.length∧nth xs (i:Int)=begE (4 * i)∧fr.getD i 0=-1)∨(od.length≤i∧Laid od.length (nth xs (i:Int)) (fr.getD i 0)):=by
 by_cases hx:i < od.length
 ·exact .inl ⟨hx,h.beg i hx⟩
 ·exact .inr ⟨by omega,h.ev i (by omega) hi⟩
theorem begE_parts (a:Int) (h:a % 4=0):partsOk (begE a)=true:=by
 rw [parts_bare];unfold begE;simp [bare,bareK,inB,stores,loads,h]
theorem laid_parts {B:Nat} {y:R} {f:Int} (h:Laid B y f):partsOk y=true:=by
 rw [parts_bare]
 cases h with
 | fence p s hp hs=>simp [bare,bareK,inB,stores,loads,hp.1,hp.2,hs.1,hs.2]
 | load w hw z=>simp [bare,bareK,inB,stores,loads,Int.mul_emod_right]
 | store w hw v z=>simp [bare,bareK,inB,stores,loads,Int.mul_emod_right]
 | both w hw v=>simp [bare,bareK,inB,stores,loads,Int.mul_emod_right]
theorem laid_deps {B:Nat} {y:R} {f:Int} (h:Laid B y f):y.d1=noS∧y.d2=noS∧y.d3=noS∧y.h=0∧y.k≠5:=by
 cases h <;> exact⟨rfl,rfl,rfl,rfl,by simp⟩
theorem deps_no {xs:List R} {n:Int} (h:(nth xs n).d1=noS∧(nth xs n).d2=noS∧(nth xs n).d3=noS):depsOk xs n=true:=by
 unfold depsOk deps
 rw [h.1,h.2.1,h.2.2]
 simp [hangGo]
theorem Bld.evsOk {xs fr od} (h:Bld xs fr od):evsOk xs=true:=by
 unfold Ev.evsOk begun
 rw [Bool.and_eq_true]
 constructor
 ·rw [List.all_eq_true]
  intro i hi
  have hi:i < xs.length:=by simpa using hi
  unfold evAt
  rcases h.one hi with ⟨h1,h2,h3⟩ | ⟨h1,h2⟩
  ·rw [deps_no (by rw [h2];exact⟨rfl,rfl,rfl⟩),h2,begE_parts _ (by omega)]
   by_cases h0:i=0
   ·subst h0;simp
   ·have he:((i:Int) - 1)=((i - 1:Nat):Int):=by omega
    rw [he,(h.beg (i - 1) (by omega)).1]
    have:follow (begE (4 * ((i - 1:Nat):Int))) (begE (4 * (i:Int)))=true:=by
     unfold follow begE;simp;omega
    rw [this];simp
  ·have hd:=laid_deps h2
   rw [deps_no ⟨hd.1,hd.2.1,hd.2.2.1⟩,laid_parts h2]
   by_cases h0:i=0
   ·subst h0;simp
   ·have he:((i:Int) - 1)=((i - 1:Nat):Int):=by omega
    have:follow (nth xs ((i:Int) - 1)) (nth xs (i:Int))=true:=by
     unfold follow
     rw [if_neg (fun hh=>hd.2.2.2.2 hh.1),he,hd.2.2.2.1]
     rcases h.one (show i - 1 < xs.length by omega) with ⟨_,g,_⟩ | ⟨_,g⟩
     ·rw [g];rfl
     ·rw [(laid_deps g).2.2.2.1];rfl
    rw [this];simp
 ·rw [List.all_eq_true]
  intro i hi
  have hi:i < xs.length:=by simpa using hi
  unfold begunAt
  rcases h.one hi with ⟨h1,h2,h3⟩ | ⟨h1,h2⟩
  ·rw [h2];rfl
  ·have hw:∀ w:Nat,w < od.length→(nth xs (i:Int)).a=4 * w→((xs.take i).any (isBeg (nth xs (i:Int)).a))=true:=by
    intro w hw ha
    rw [List.any_eq_true]
    have hwx:w < xs.length:=by omega
    refine⟨xs[w],?_,?_⟩
    ·exact List.mem_take_iff_getElem.2 ⟨w,by omega,rfl⟩
    ·have:=(h.beg w hw).1
     rw [nth_get hwx] at this
     rw [this,ha];unfold isBeg begE;simp
   revert hw
   generalize nth xs (i:Int)=y at h2
   generalize fr.getD i 0=f at h2
   intro hw
   cases h2 with
   | fence p s hp hs=>rfl
   | load w hw' z=>rw [hw w hw' rfl];simp
   | store w hw' v z=>rw [hw w hw' rfl];simp
   | both w hw' v=>rw [hw w hw' rfl];simp
theorem Bld.fromOk {xs fr od} (h:Bld xs fr od):fromOk xs fr=true:=by
 unfold Ev.fromOk
 rw [Bool.and_eq_true]
 refine⟨by simp [h.fl],?_⟩
 rw [List.all_eq_true]
 intro i hi
 have hi:i < xs.length:=by simpa using hi
 unfold fromAt
 rcases h.one hi with ⟨h1,h2,h3⟩ | ⟨h1,h2⟩
 ·rw [h2,h3];rfl
 ·have hw:∀ w:Nat,w < od.length→(nth xs (i:Int)).a=4 * w→(nth xs (i:Int)).r=0→readOk xs (i:Int) (w:Int)=true:=by
   intro w hw ha hr
   unfold readOk inB
   rw [(h.beg w hw).1,ha,hr]
   unfold begE
   have e1:decide ((w:Int) < (xs.length:Int))=true:=decide_eq_true (by omega)
   have e2:((w:Int)==(i:Int))=false:=by rw [beq_eq_false_iff_ne];omega
   have e3:decide (0≤(w:Int))=true:=decide_eq_true (by omega)
   rw [e1,e2,e3];simp [stores]
  revert hw h2
  generalize nth xs (i:Int)=y
  generalize fr.getD i 0=f
  intro h2 hw
  cases h2 with
  | fence p s hp hs=>rfl
  | load w hw' z=>rw [hw w hw' rfl rfl];rfl
  | store w hw' v z=>rfl
  | both w hw' v=>rw [hw w hw' rfl rfl];rfl
theorem Bld.begs {xs fr od} (h:Bld xs fr od):Ev.beg xs=od.length:=by
 unfold Ev.beg
 have e:xs=xs.take od.length++xs.drop od.length:=(List.take_append_drop _ _).symm
 have h1:(xs.take od.length).filter (fun e=>e.k==5)=xs.take od.length:=by
  rw [List.filter_eq_self]
  intro y hy
  obtain⟨i,hi,rfl⟩:=List.mem_take_iff_getElem.1 hy
  have hb:=(h.beg i (by omega)).1
  rw [nth_get (by omega)] at hb
  rw [hb];rfl
 have h2:(xs.drop od.length).filter (fun e=>e.k==5)=[]:=by
  rw [List.filter_eq_nil_iff]
  intro y hy
  obtain⟨i,hi,rfl⟩:=List.mem_iff_getElem.1 hy
  rw [List.getElem_drop]
  have hlt:od.length+i < xs.length:=by simp at hi;omega
  have hb:=h.ev (od.length+i) (by omega) hlt
  rw [nth_get hlt] at hb
  simpa using (laid_deps hb).2.2.2.2
 rw [e,List.filter_append,h1,h2,List.append_nil,List.length_take]
 have:=h.ol;omega
theorem Bld.orderOk {x:X} (h:Bld x.ev x.fr.l (x.od.map (·.l))):orderOk x.ev x.od=true:=by
 unfold Ev.orderOk
 rw [Bool.and_eq_true]
 refine⟨by rw [h.begs];simp,?_⟩
 rw [List.all_eq_true]
 intro b hb
 have hb:b < x.od.length:=by simpa using hb
 unfold orderAt
 rw [List.getElem?_eq_getElem hb]
 have hr:=h.rows b (x.od[b]).l (by rw [List.getElem?_map,List.getElem?_eq_getElem hb];rfl)
 have h0:=(h.beg b (by simpa using hb)).1
 show((x.od[b]).l.length==cnt x.ev (nth x.ev (b:Int)).a&&(x.od[b]).l.getD 0 0==(b:Int)&&onceOk x.ev (x.od[b]).l)=true
 rw [hr.hd,hr.len,h0]
 have ho:onceOk x.ev (x.od[b]).l=true:=by
  unfold onceOk
  rw [Bool.and_eq_true,hr.hd]
  refine⟨?_,decide_eq_true hr.nd⟩
  rw [List.all_eq_true]
  intro n hn
  obtain⟨k,rfl,hk,g1,g2⟩:=hr.all n hn
  unfold onceAt inB
  rw [g1,g2,h0]
  have e1:decide ((k:Int) < (x.ev.length:Int))=true:=decide_eq_true (by omega)
  have e3:decide (0≤(k:Int))=true:=decide_eq_true (by omega)
  rw [e1,e3];unfold begE;simp
 rw [ho];unfold begE;simp
theorem Bld.check {x:X} (h:Bld x.ev x.fr.l (x.od.map (·.l))) (hl:x.ev.length≤64):check x=0:=by
 unfold Ev.check
 rw [if_neg (by omega),if_neg (by rw [h.evsOk];simp),if_neg (by rw [h.fromOk];simp),if_neg (by rw [h.orderOk];simp)]
end Ev
end Go.Proofs.YtnjnpbabgefaeaaGreat
end
section
namespace Go.Proofs.YtnjnpbabgefaeaaGreat
open Go.RowKit Go.Maps Go.WideElems
namespace Md
def pkV (p:Nat × Nat):Value:=.agg #[.int .i64 (p.1:Int),.int .i64 (p.2:Int)]
def plit (p:Nat × Nat):Lit:=.string (keyBytes [.int .i64 (p.1:Int),.int .i64 (p.2:Int)])
theorem tiled_pair:Tryz.prog.tiled 2 72=true:=by kernel_rfl
theorem wide_pair:(match Tryz.prog.underlying 72 with | some (.array _ _) | some (.struct _)=>true | _=>false)=true:=by rw [Tryz.underlying72]
theorem law_pair:Keyed Tryz.prog 72:=Keyed.of_law (deep_law (m:=2) (by omega) (by kernel_rfl) tiled_pair wide_pair)
theorem cells_pair:Tryz.prog.cellsOf 72=2:=by kernel_rfl
theorem cells_int1:Tryz.prog.cellsOf 3=1:=by kernel_rfl
theorem key_pair:Tryz.prog.keyType 72=true:=by kernel_rfl
theorem size_pair:∃ n,Tryz.prog.types.size+1=n+2:=⟨_,rfl⟩
def i64ok (a:Int):Bool:=(Lit.int .i64 a).wf
theorem i64ok_of {a:Nat} (h:a < 64):i64ok (a:Int)=true:=wf_of_i64 ⟨by omega,by omega⟩
theorem lits_pair (a b:Int):Tryz.prog.keyLits (Tryz.prog.types.size+1) 72 [.int .i64 a,.int .i64 b]=if i64ok a=true∧i64ok b=true then some [.int .i64 a,.int .i64 b] else none:=by
 obtain⟨n,hn⟩:=size_pair
 rw [hn]
 unfold Program.keyLits
 rw [Tryz.underlying72]
 by_cases ha:(Lit.int .i64 a).wf=true <;> by_cases hb:(Lit.int .i64 b).wf=true <;> simp [Program.keyLits,cells_pair,cells_int1,Tryz.underlying3,i64ok,ha,hb]
theorem keyOf_pair (a b:Int) (ha:i64ok a=true) (hb:i64ok b=true):keyOf Tryz.prog 72 (.agg #[.int .i64 a,.int .i64 b])=some (.string (keyBytes [.int .i64 a,.int .i64 b])):=by
 unfold keyOf
 rw [Tryz.underlying72]
 simp only [key_pair,Bool.true_and]
 rw [show (Value.agg #[.int .i64 a,.int .i64 b]).formed Tryz.prog 72=true by simp [Value.formed,Tryz.underlying72,cells_pair]]
 have h:=lits_pair a b
 rw [if_pos ⟨ha,hb⟩] at h
 generalize Tryz.prog.types.size+1=m at h ⊢
 simp [Value.cells,h]
theorem key_mk {p:Nat × Nat} (h:p.1 < 64∧p.2 < 64):keyOf Tryz.prog 72 (pkV p)=some (plit p):=keyOf_pair _ _ (i64ok_of h.1) (i64ok_of h.2)
theorem plit_inj {p q:Nat × Nat} (hp:p.1 < 64∧p.2 < 64) (hq:q.1 < 64∧q.2 < 64) (h:plit p=plit q):p=q:=by
 have e:=law_pair.inj (key_mk hp) (h ▸ key_mk hq)
 simp [pkV] at e
 exact Prod.ext (by omega) (by omega)
theorem lits_int {n:Nat} {c:Value} {l:List Lit} (h:Tryz.prog.keyLits (n+1) 3 [c]=some l):∃ a,c=.int .i64 a:=by
 unfold Program.keyLits at h
 rw [Tryz.underlying3] at h
 cases c <;> simp at h
 obtain⟨⟨rfl,_⟩,_⟩:=h
 exact⟨_,rfl⟩
theorem key_inv {v:Value} {l:Lit} (h:keyOf Tryz.prog 72 v=some l):∃ x:Int × Int,v=.agg #[.int .i64 x.1,.int .i64 x.2]:=by
 unfold keyOf at h
 rw [Tryz.underlying72] at h
 simp only [key_pair,Bool.true_and] at h
 obtain⟨n,hn⟩:=size_pair
 rw [hn] at h
 clear hn
 split at h
 ·rename_i hf
  cases v with
  | agg cs =>
    simp [Value.formed,Tryz.underlying72,cells_pair] at hf
    obtain⟨l0,hl0,_⟩:=Option.map_eq_some_iff.1 h
    obtain⟨c0,c1,rfl⟩:∃ c0 c1,cs=#[c0,c1]:=by
     obtain⟨l⟩:=cs
     match l,hf with
     | [c0,c1],_=>exact⟨c0,c1,rfl⟩
    unfold Program.keyLits at hl0
    rw [Tryz.underlying72] at hl0
    simp [Value.cells,cells_pair,cells_int1,List.mapM_cons] at hl0
    obtain⟨l1,k1,k2⟩:=Option.bind_eq_some_iff.1 hl0
    obtain⟨l2,k3,_⟩:=Option.map_eq_some_iff.1 k2
    obtain⟨l3,k4,_⟩:=Option.bind_eq_some_iff.1 k3
    obtain⟨l4,k5,_⟩:=Option.bind_eq_some_iff.1 k4
    obtain⟨a,rfl⟩:=lits_int k1
    obtain⟨b,rfl⟩:=lits_int k5
    exact⟨(a,b),rfl⟩
  | _=>simp [Value.formed,Tryz.underlying72] at hf
 ·cases h
theorem iskey_plit (p:Nat × Nat):WideAt.IsKeyLit (plit p):=by first | trivial | exact rfl | simp [WideAt.IsKeyLit,plit]
structure PSet (w:World) (b n:Nat) (S:List (Nat × Nat)):Prop where
 ex:∃ D:DataW Unit,w.ownsMap Tryz.prog 72 unitElem b n D∧(∀ p:Nat × Nat,p.1 < 64∧p.2 < 64→Maps.has D (plit p)=decide (p ∈ S))∧∀ l,Maps.has D l=true→∃ p ∈ S,l=plit p
 lt:∀ p ∈ S,p.1 < 64∧p.2 < 64
theorem PSet.kept {w w':World} {b n:Nat} {S:List (Nat × Nat)} {row:Option Nat} (h:PSet w b n S) (hg:w.grownBy w' row) (hne:some b≠row):PSet w' b n S:=by
 obtain⟨D,ho,hD⟩:=h.ex
 exact⟨⟨D,ho.kept hg hne,hD⟩,h.lt⟩
theorem PSet.kp {w w':World} {b n:Nat} {S:List (Nat × Nat)} (h:PSet w b n S) (hb:Below w.heap.size w w'):PSet w' b n S:=h.kept (row:=none) (World.grownBy.but_of hb) (by simp)
theorem PSet.new (w:World):PSet (w.alloc (.map #[] 0)) w.heap.size 0 [] :=
 ⟨⟨.map [],World.ownsMap_made _ _ _ _,fun p _=>by simp [Maps.has],fun l h=>by simp [Maps.has] at h⟩,fun p h=>by cases h⟩
theorem put_ok {D:DataW Unit} {S:List (Nat × Nat)} (hm:IsMap D) (h:(∀ p:Nat × Nat,p.1 < 64∧p.2 < 64→Maps.has D (plit p)=decide (p ∈ S))∧∀ l,Maps.has D l=true→∃ p ∈ S,l=plit p) {q:Nat × Nat} (hq:q.1 < 64∧q.2 < 64) :
 (∀ p:Nat × Nat,p.1 < 64∧p.2 < 64→Maps.has (D.put (plit q) (.agg [])) (plit p)=decide (p ∈ S++[q]))∧∀ l,Maps.has (D.put (plit q) (.agg [])) l=true→∃ p ∈ S++[q],l=plit p:=by
 constructor
 ·intro p hp
  by_cases e:p=q
  ·subst e;rw [Maps.has_put_same hm (iskey_plit _)];simp
  ·rw [Maps.has_put_other (fun he=>e (plit_inj hp hq he)),h.1 p hp];simp [e]
 ·intro l hl
  by_cases e:l=plit q
  ·exact⟨q,by simp,e⟩
  ·rw [Maps.has_put_other e] at hl
   obtain⟨p,hp,rfl⟩:=h.2 l hl
   exact⟨p,by simp [hp],rfl⟩
structure Met (S:List (Nat × Nat)) (left:Lit→Bool) (ss:List (Nat × Nat)):Prop where
 nd:ss.Nodup
 sub:∀ p ∈ ss,p ∈ S
 iff:∀ p ∈ S,(left (plit p)=false↔p ∈ ss)
theorem Met.start {D:DataW Unit} {S:List (Nat × Nat)} (h:∀ p:Nat × Nat,p.1 < 64∧p.2 < 64→Maps.has D (plit p)=decide (p ∈ S)) (hlt:∀ p ∈ S,p.1 < 64∧p.2 < 64):Met S (Maps.has D) [] :=
 ⟨List.nodup_nil,fun p hp=>(by cases hp),fun p hp=>by rw [h p (hlt p hp)];simp [hp]⟩
theorem Met.step {S:List (Nat × Nat)} {left:Lit→Bool} {ss:List (Nat × Nat)} (h:Met S left ss) (hlt:∀ p ∈ S,p.1 < 64∧p.2 < 64) {q:Nat × Nat} (hq:q ∈ S) (hl:left (plit q)=true):q ∉ ss∧Met S (fun z=>left z&&!z.sameKey (plit q)) (ss++[q]):=by
 have hnew:q ∉ ss:=fun hm=>by have:=(h.iff q hq).2 hm;rw [hl] at this;cases this
 refine⟨hnew,List.nodup_append.2 ⟨h.nd,by simp,fun a ha b hb=>by simp at hb;subst hb;exact fun e=>hnew (e ▸ ha)⟩,fun p hp=>?_,fun p hp=>?_⟩
 ·rcases List.mem_append.1 hp with h1 | h1
  ·exact h.sub p h1
  ·simp at h1;subst h1;exact hq
 ·by_cases e:p=q
  ·subst e
   have:=WideAt.sameKey_self (iskey_plit p)
   simp [this]
  ·have hk:(plit p).sameKey (plit q)=false:=by
    cases hs:(plit p).sameKey (plit q)
    ·rfl
    ·exact absurd (plit_inj (hlt p hp) (hlt q hq) (WideAt.sameKey_eq hs)) e
   simp [hk,e,h.iff p hp]
theorem Met.all {S:List (Nat × Nat)} {left:Lit→Bool} {ss:List (Nat × Nat)} (h:Met S left ss) (hl:∀ l,left l=false):∀ p,p ∈ ss↔p ∈ S:=fun p=>⟨h.sub p,fun hp=>(h.iff p hp).1 (hl _)⟩
end Md
end Go.Proofs.YtnjnpbabgefaeaaGreat
end
section
namespace Go.Proofs.YtnjnpbabgefaeaaGreat
open Go.RowKit
namespace Ev
def rowL (is:Nat→Nat→Bool) (a:Nat) (l:List Nat):List (Nat × Nat):=(l.filter fun b=>is a b).map fun b=>(a,b)
def pl (is:Nat→Nat→Bool) (n k:Nat):List (Nat × Nat):=(List.range k).flatMap fun a=>rowL is a (List.range n)
theorem pl_succ (is:Nat→Nat→Bool) (n k:Nat):pl is n (k+1)=pl is n k++rowL is k (List.range n):=by unfold pl;rw [List.range_succ,List.flatMap_append];simp
theorem rowL_succ (is:Nat→Nat→Bool) (a q:Nat):rowL is a (List.range (q+1))=rowL is a (List.range q)++if is a q then [(a,q)] else []:=by
 unfold rowL
 rw [List.range_succ,List.filter_append,List.map_append]
 congr 1
 cases h:is a q <;> simp [h]
theorem rowL_len (is:Nat→Nat→Bool) (a q:Nat):(rowL is a (List.range q)).length≤q:=by
 unfold rowL
 rw [List.length_map]
 have:=List.length_filter_le (fun b=>is a b) (List.range q)
 rwa [List.length_range] at this
theorem pl_len (is:Nat→Nat→Bool) (n:Nat):∀ k,(pl is n k).length≤k * n
 | 0=>by simp [pl]
 | k+1=>by
   rw [pl_succ,List.length_append,Nat.succ_mul]
   have:=pl_len is n k
   have:=rowL_len is k n
   omega
end Ev
end Go.Proofs.YtnjnpbabgefaeaaGreat
end
section
namespace Go.Proofs.YtnjnpbabgefaeaaGreat
open Go.RowKit
namespace Ev
theorem check_order {x:X} (h:check x=0):orderOk x.ev x.od=true∧fromOk x.ev x.fr.l=true∧x.ev.length≤64:=by
 unfold check at h
 split at h
 ·cases h
 split at h
 ·cases h
 split at h
 ·cases h
 split at h
 ·cases h
 ·rename_i h1 h2 h3 h4
  exact⟨by simpa using h4,by simpa using h3,by omega⟩
theorem check_lens {x:X} (h:check x=0):x.od.length≤64∧∀ s ∈ x.od,s.l.length≤64:=by
 obtain⟨h1,_,h3⟩:=check_order h
 unfold orderOk at h1
 simp only [Bool.and_eq_true,beq_iff_eq,List.all_eq_true] at h1
 have hb:=beg_le x.ev
 refine⟨by omega,fun s hs=>?_⟩
 obtain⟨j,hj⟩:=List.mem_iff_getElem?.1 hs
 have:=h1.2 j (List.mem_range.2 (List.getElem?_eq_some_iff.1 hj).1)
 unfold orderAt at this
 rw [hj] at this
 simp only [Bool.and_eq_true,beq_iff_eq] at this
 have hc:=cnt_le x.ev (nth x.ev j).a
 omega
theorem from_in {x:X} (h:check x=0) {a:Nat} (ha:a < x.ev.length) (hl:loads (nth x.ev a).k=true):∃ f:Nat,f < x.ev.length∧x.fr.l[a]?=some (f:Int)∧frAt x a=f:=by
 obtain⟨_,h2,_⟩:=check_order h
 have hfl:x.fr.l.length=x.ev.length:=check_from h
 unfold fromOk at h2
 simp only [Bool.and_eq_true,beq_iff_eq,List.all_eq_true] at h2
 have:=h2.2 a (List.mem_range.2 ha)
 unfold fromAt at this
 rw [if_pos hl] at this
 unfold readOk inB at this
 simp only [Bool.and_eq_true,decide_eq_true_eq] at this
 have hg:=List.getElem?_eq_getElem (show a < x.fr.l.length by omega)
 have e:x.fr.l.getD a 0=x.fr.l[a]:=by simp [List.getD,hg]
 rw [e] at this
 refine⟨x.fr.l[a].toNat,by omega,?_,?_⟩
 ·rw [hg];congr 1;omega
 ·unfold frAt;rw [e];omega
end Ev
end Go.Proofs.YtnjnpbabgefaeaaGreat
end
section
namespace Go.Proofs.YtnjnpbabgefaeaaGreat
open Go.RowKit
namespace Ev
theorem nodup_of_len {α:Type} [DecidableEq α]:∀ {b a:List α},a.Nodup→(∀ x ∈ a,x ∈ b)→b.length≤a.length→b.Nodup
 | [],_,_,_,_=>List.nodup_nil
 | y :: s,a,ha,hs,hl=>by
   rw [List.nodup_cons]
   constructor
   ·intro hy
    have:=nodup_le (a:=a) (b:=s) ha fun x hx=>by
     rcases List.mem_cons.1 (hs x hx) with rfl | h
     ·exact hy
     ·exact h
    simp only [List.length_cons] at hl
    omega
   ·refine nodup_of_len (a:=a.erase y) (ha.erase y) (fun x hx=>?_) ?_
    ·have hm:=List.mem_of_mem_erase hx
     rcases List.mem_cons.1 (hs x hm) with rfl | h
     ·exact absurd hx (List.Nodup.not_mem_erase ha)
     ·exact h
    ·have:=List.le_length_erase (l:=a) (a:=y)
     simp only [List.length_cons] at hl
     omega
def sts (xs:List R) (y:Int):List Int:=((List.range xs.length).filter fun i:Nat=>isSt y (nth xs (i:Int))).map fun i:Nat=>(i:Int)
theorem sts_mem {xs:List R} {y n:Int}:n ∈ sts xs y↔∃ i:Nat,i < xs.length∧isSt y (nth xs (i:Int))=true∧n=i:=by
 unfold sts
 rw [List.mem_map]
 constructor
 ·rintro⟨i,hi,rfl⟩
  rw [List.mem_filter,List.mem_range] at hi
  exact⟨i,hi.1,hi.2,rfl⟩
 ·rintro⟨i,hi,hq,rfl⟩
  exact⟨i,List.mem_filter.2 ⟨List.mem_range.2 hi,hq⟩,rfl⟩
theorem sts_nodup (xs:List R) (y:Int):(sts xs y).Nodup:=by
 unfold sts
 rw [List.Nodup,List.pairwise_map]
 exact(List.nodup_range.filter _).imp fun {a b} h e=>h (by have e2:(a:Int)=(b:Int):=e;omega)
theorem range_map (xs:List R):(List.range xs.length).map (fun i:Nat=>nth xs (i:Int))=xs:=by
 apply List.ext_getElem
 ·simp
 ·intro i h1 h2
  simp only [List.getElem_map,List.getElem_range]
  exact nth_get h2
theorem sts_len (xs:List R) (y:Int):(sts xs y).length=cnt xs y:=by
 unfold sts cnt
 rw [List.length_map]
 conv=>rhs;rw [← range_map xs]
 rw [List.filter_map,List.length_map]
 rfl
def rOrd (xs:List R) (A b:Int) (s:List Int):Prop:=(∀ i:Nat,i < xs.length→stores (nth xs i).k=true→(nth xs i).a=A→(i:Int) ∈ s)∧s.length=cnt xs A∧s.getD 0 0=b
theorem ord_iff {xs:List R} {od:List Sl} {s:Sl} {b:Nat} (hs:od[b]?=some s) {A:Int} (hA:(nth xs b).a=A):orderAt xs od b=true↔rOrd xs A b s.l:=by
 unfold orderAt rOrd
 rw [hs]
 simp only [Bool.and_eq_true,beq_iff_eq]
 rw [hA]
 unfold onceOk
 rw [Bool.and_eq_true,List.all_eq_true,decide_eq_true_eq]
 have hone:∀ n,s.l.getD 0 0=(b:Int)→(onceAt xs (s.l.getD 0 0) n=true↔n ∈ sts xs A):=fun n h0=>by
  rw [h0,sts_mem]
  unfold onceAt inB isSt
  rw [hA]
  simp only [Bool.and_eq_true,decide_eq_true_eq,beq_iff_eq]
  constructor
  ·rintro⟨⟨⟨h1,h2⟩,h3⟩,h4⟩
   obtain⟨i,rfl⟩:∃ i:Nat,n=i:=⟨n.toNat,by omega⟩
   exact⟨i,by omega,⟨h3,h4⟩,rfl⟩
  ·rintro⟨i,hi,⟨h3,h4⟩,rfl⟩
   exact⟨⟨⟨by omega,by omega⟩,h3⟩,h4⟩
 constructor
 ·rintro⟨⟨h1,h2⟩,h3,h4⟩
  refine⟨fun i hi hk ha=>?_,h1,h2⟩
  refine back_of_len (a:=s.l) (b:=sts xs A) h4 ?_ (fun n hn=>(hone n h2).1 (h3 n hn)) _ (sts_mem.2 ⟨i,hi,?_,rfl⟩)
  ·rw [sts_len];omega
  ·unfold isSt;rw [hk,ha];simp
 ·rintro⟨h1,h2,h3⟩
  have hsub:∀ n ∈ sts xs A,n ∈ s.l:=fun n hn=>by
   obtain⟨i,hi,hq,rfl⟩:=sts_mem.1 hn
   unfold isSt at hq
   simp only [Bool.and_eq_true,beq_iff_eq] at hq
   exact h1 i hi hq.1 hq.2
  have hl:s.l.length≤(sts xs A).length:=by rw [sts_len];omega
  exact⟨⟨h2,h3⟩,fun n hn=>(hone n h3).2 (back_of_len (sts_nodup xs A) hl hsub n hn),nodup_of_len (sts_nodup xs A) hsub hl⟩
end Ev
end Go.Proofs.YtnjnpbabgefaeaaGreat
end
section
namespace Go.Proofs.YtnjnpbabgefaeaaGreat
open Go.RowKit
namespace Ev
theorem flat_rows {n:Nat}:∀ {xs:List (List Value)},(∀ v ∈ xs,v.length=n)→∀ (j:Nat) (v:List Value) (i:Nat) (c:Value),xs[j]?=some v→v[i]?=some c→xs.flatten[j * n+i]?=some c
 | [],_,j,v,i,c,h,_=>by simp at h
 | q :: r,hl,0,v,i,c,h,hi=>by
   cases Option.some.inj h
   have hil:=(List.getElem?_eq_some_iff.1 hi).1
   rw [List.flatten_cons,List.getElem?_append_left (by simpa using hil)]
   simpa using hi
 | q :: r,hl,j+1,v,i,c,h,hi=>by
   have h2:=flat_rows (fun v hv=>hl v (List.mem_cons_of_mem _ hv)) j v i c (by simpa using h) hi
   have hq:=hl q List.mem_cons_self
   rw [List.flatten_cons,List.getElem?_append_right (by rw [hq,Nat.succ_mul];omega)]
   have e:(j+1) * n+i - q.length=j * n+i:=by rw [hq,Nat.succ_mul];omega
   rw [e];exact h2
theorem rows_of_block {w:World} {g n:Nat} {xs:List (List Value)} {t:TypeId} (h:w.heap[g]?=some (.cells xs.flatten.toArray t (0,0))) (hl:∀ v ∈ xs,v.length=n):RowsIn w (some ⟨g,0,none⟩) n xs:=fun _ =>
 ⟨g,0,rfl,fun j v hv i c hi=>by
   rw [cell_of_row w g _ _ t (0,0) h,Nat.zero_add]
   simpa using flat_rows hl j v i c hv hi⟩
theorem ints_of_block {w:World} {g:Nat} {l:List Int} {t:TypeId} (h:w.heap[g]?=some (.cells (l.map (Value.int .i64)).toArray t (0,0))) (hb:∀ v ∈ l,i64B v) (hm:l.length≤9223372036854775807):IntsIn w ⟨some ⟨g,0,none⟩,l.length,l⟩ :=
 ⟨fun _=>⟨g,0,rfl,fun j v hv=>by
   rw [cell_of_row w g _ _ t (0,0) h,Nat.zero_add]
   simp [hv]⟩,Nat.le_refl _,hm,hb⟩
theorem ints_none (w:World):IntsIn w ⟨none,0,[]⟩:=⟨fun h=>absurd h (by simp),by simp,by simp,fun v hv=>by cases hv⟩
def N0:Sl:=⟨none,0,[]⟩
def kE0:R:=⟨-1,5,0,0,0,false,false,0,0,false,N0,N0,N0⟩
def kE1:R:=⟨0,2,0,1,0,false,false,0,0,false,N0,N0,N0⟩
end Ev
theorem heap_a5 (w:World) (A B C D E:Obj):((((((w.alloc A).alloc B).alloc C).alloc D).alloc E).heap[w.heap.size]?=some A∧(((((w.alloc A).alloc B).alloc C).alloc D).alloc E).heap[w.heap.size+1]?=some B ∧
 (((((w.alloc A).alloc B).alloc C).alloc D).alloc E).heap[w.heap.size+1+1]?=some C∧(((((w.alloc A).alloc B).alloc C).alloc D).alloc E).heap[w.heap.size+1+1+1]?=some D∧(((((w.alloc A).alloc B).alloc C).alloc D).alloc E).heap[w.heap.size+1+1+1+1]?=some E):=by
 have old:∀ (x:World) (o:Obj) (i:Nat),i < x.heap.size→(x.alloc o).heap[i]?=x.heap[i]?:=fun x o i h=>Below.heap_alloc x o i h
 have s1:(w.alloc A).heap.size=w.heap.size+1:=by simp only [World.size_alloc]
 have s2:((w.alloc A).alloc B).heap.size=w.heap.size+1+1:=by simp only [World.size_alloc]
 have s3:(((w.alloc A).alloc B).alloc C).heap.size=w.heap.size+1+1+1:=by simp only [World.size_alloc]
 have s4:((((w.alloc A).alloc B).alloc C).alloc D).heap.size=w.heap.size+1+1+1+1:=by simp only [World.size_alloc]
 refine⟨?_,?_,?_,?_,?_⟩
 ·rw [old _ _ _ (by omega),old _ _ _ (by omega),old _ _ _ (by omega),old _ _ _ (by omega)];exact heap_alloc_new _ _
 ·rw [old _ _ _ (by omega),old _ _ _ (by omega),old _ _ _ (by omega)];have:=heap_alloc_new (w.alloc A) B;rwa [s1] at this
 ·rw [old _ _ _ (by omega),old _ _ _ (by omega)];have:=heap_alloc_new ((w.alloc A).alloc B) C;rwa [s2] at this
 ·rw [old _ _ _ (by omega)];have:=heap_alloc_new (((w.alloc A).alloc B).alloc C) D;rwa [s3] at this
 ·have:=heap_alloc_new ((((w.alloc A).alloc B).alloc C).alloc D) E;rwa [s4] at this
end Go.Proofs.YtnjnpbabgefaeaaGreat
end
