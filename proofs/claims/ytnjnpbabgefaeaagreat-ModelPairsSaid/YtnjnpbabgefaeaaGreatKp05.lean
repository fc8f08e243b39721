import Derived.Test.YtnjnpbabgefaeaaGreatKp03
import Derived.Test.YtnjnpbabgefaeaaGreatKp04
import Derived.Test.YtnjnpbabgefaeaaGreatKp01
import Derived.Deep.QuietTactic
import Derived.BigQuiet
import Derived.IntWalk
import Derived.Test.YtnjnpbabgefaeaaGreatKpH
set_option maxRecDepth 100000
set_option maxHeartbeats 4000000
set_option linter.unusedVariables false
set_option linter.unusedSimpArgs false
section
namespace Go.Proofs.YtnjnpbabgefaeaaGreat
namespace Og
open Go.RowKit
variable {P:Program}
def tailOk (ops:Array Oper) (n:Nat):Bool:=(List.range ops.size).all fun k=>decide (k < n)||(List.range k).all fun i=>match ops[k]? with | some o=>waits o i | none=>false
theorem tail_at {ops:Array Oper} {n k i:Nat} {o:Oper} (h:tailOk ops n=true) (ho:ops[k]?=some o) (hk:n≤k) (hi:i < k):waits o i=true:=by
 have h1:=List.all_eq_true.1 h k (List.mem_range.2 (qL ho))
 rw [Bool.or_eq_true] at h1
 rcases h1 with h1 | h1
 ·simp only [decide_eq_true_eq] at h1;omega
 ·have h2:=List.all_eq_true.1 h1 i (List.mem_range.2 hi)
  rw [ho] at h2;exact h2
structure InvC (ops:Array Oper) (n c:Nat) (a0:Act) (Ph:Bool→World→Prop) (T:Nat→Value→World→Prop) (listed:Array Bool) (a:Act) (w:World):Prop where
 ph:Ph (listed.getD c false) w
 defers:a.defers=a0.defers
 size:a.tmps.size=a0.tmps.size
 lsize:listed.size=ops.size
 all:∀ (j:Nat) (o:Oper),ops[j]?=some o→j < n→listed.getD j false=true→T j (slot o a) w
 late:∀ j,n≤j→listed.getD j false=false
 out:∀ t,(∀ i,owner ops t=some i→n≤i)→a.tmps.getD t undef=a0.tmps.getD t undef
theorem tail_run {ops:Array Oper} {n sz:Nat} {Q:Exit→Act→World→Prop} (hok:ok ops sz=true) (ht:tailOk ops n=true):∀ (m:Nat) (k:Nat) (fuel:Nat) (listed:Array Bool) (a:Act) (w:World),k+m=ops.size→n≤k→listed.size=ops.size →
 (∀ j,j < k→listed.getD j false=true)→(∀ j,k≤j→listed.getD j false=false)→m≤fuel→wpList P ops Q (ops.toList.drop k) a w→wpAny P .any ops Q fuel listed a w:=by
 intro m
 induction m with
 | zero =>
   intro k fuel listed a w hk hn hs h1 h2 hf h
   have hd:ops.toList.drop k=[]:=List.drop_eq_nil_of_le (by simp;omega)
   rw [hd] at h
   have hr:Region.ready .any ops listed=[]:=by
    apply List.eq_nil_iff_forall_not_mem.2
    intro j hj
    obtain⟨h0,o,ho,_⟩:=mem_ready.1 hj
    have hjl:j < ops.size:=(qL ho)
    have h3:=h1 j (by omega)
    have hjs:j < listed.size:=by omega
    simp [hjs] at h0 h3
    rw [h0] at h3;cases h3
   cases fuel with
   | zero=>exact⟨hr,h⟩
   | succ f=>exact⟨fun _=>h,fun i hi=>by rw [hr] at hi;cases hi⟩
 | succ m ih =>
   intro k fuel listed a w hk hn hs h1 h2 hf h
   have hkl:k < ops.size:=by omega
   obtain⟨f,rfl⟩:∃ f,fuel=f+1:=⟨fuel - 1,by omega⟩
   have hd:ops.toList.drop k=ops[k] :: ops.toList.drop (k+1):=by
    rw [List.drop_eq_getElem_cons (by simpa using hkl)];simp
   rw [hd] at h
   have hko:ops[k]?=some ops[k]:=Array.getElem?_eq_getElem hkl
   refine⟨fun hr=>?_,fun i hi=>?_⟩
   ·exfalso
    have:k ∈ Region.ready .any ops listed:=by
     rw [mem_ready]
     refine⟨?_,_,hko,fun e he hb=>h1 _ ((ok_at hok hko).2.2.2 e he hb)⟩
     have h3:=h2 k (Nat.le_refl _)
     have hks:k < listed.size:=by omega
     simp [hks] at h3 ⊢
     exact h3
    rw [hr] at this;cases this
   ·obtain⟨h0,o,ho,hafter⟩:=mem_ready.1 hi
    have hil:=(qL ho)
    have hik:i=k:=by
     by_cases hlt:i < k
     ·have h3:=h1 i hlt
      have hjs:i < listed.size:=by omega
      simp [hjs] at h0 h3
      rw [h0] at h3;cases h3
     ·by_cases hgt:k < i
      ·exfalso
       obtain⟨e,he,hek,hb⟩:=waits_spec (tail_at ht ho (by omega) hgt)
       have h3:=hafter e he hb
       rw [hek,h2 k (Nat.le_refl _)] at h3;cases h3
      ·omega
    subst hik
    obtain rfl:ops[i]=o:=Option.some.inj (hko.symm.trans ho)
    have next:∀ (a':Act) (w':World),wpList P ops Q (ops.toList.drop (i+1)) a' w'→wpAny P .any ops Q f (listed.setIfInBounds i true) a' w':=fun a' w' h' =>
     ih (i+1) f _ a' w' (by omega) (by omega) (by simpa using hs) (fun j hj=>by
      by_cases hji:i=j
      ·subst hji;have:i < listed.size:=by omega
       simp [this]
      ·rw [getD_set_ne false hji];exact h1 j (by omega)) (fun j hj=>by rw [getD_set_ne false (by omega)];exact h2 j (by omega)) (by omega) h'
    unfold wpOp
    rw [ho]
    unfold wpList at h
    simp only
    by_cases hw:Region.wanted ops[i] (yielded ops a.tmps)=true
    ·rw [if_pos hw] at h ⊢
     rcases h with h | h
     ·exact .inl (Oper.wp_mono (fun a' w' h'=>next a' w' h') h)
     ·exact .inr h
    ·rw [if_neg hw] at h ⊢
     exact next _ _ h
theorem regionC {id:Nat} {ops:Array Oper} {Q:Exit→Act→World→Prop} {a0:Act} {w:World} (hm:P.follows .mixedOrders=true) (n c:Nat) (Ph:Bool→World→Prop) (turn:World→World→Prop)
 (hph:∀ b w w',Ph b w→Below w.heap.size w w'→Ph b w') (hph0:Ph false w.drew)
 (T:Nat→Value→World→Prop) (stab:∀ j v w w',T j v w→Below w.heap.size w w'→T j v w') (stabT:∀ j v w w',T j v w→turn w w'→T j v w') (want:Nat→Bool) (hok:ok ops a0.tmps.size=true) (ht:tailOk ops n=true) (hn:n≤ops.size)
 (hguard:∀ (j:Nat) (o:Oper),j < n→ops[j]?=some o→match o.guard with | none=>want j=true | some (g,b)=>g < n∧∀ (v:Value) (w:World),T g v w→if want j=true then v=.bool b else v≠.bool b)
 (hstep:∀ (j:Nat) (o:Oper),j < n→ops[j]?=some o→∀ (ρ:Operand→Value) (w1:World) (b:Bool),Ph b w1→(j=c→b=false)→deps ops a0 T ρ w1 o.op.operands.toList →
   if want j=true then gives P o ρ w1 (fun v w'=>(if j=c then turn w1 w'∧Ph true w' else Below w1.heap.size w1 w')∧T j (left o v) w') else j≠c∧T j undef w1)
 (hback:∀ (j i t:Nat) (o:Oper),j < n→ops[j]?=some o→.tmp t ∈ o.op.operands.toList→owner ops t=some i→i < n)
 (hend:∀ (a:Act) (w1:World),Ph (decide (c < n)) w1→a.defers=a0.defers→a.tmps.size=a0.tmps.size→(∀ (j:Nat) (o:Oper),j < n→ops[j]?=some o→T j (slot o a) w1)→(∀ t,(∀ i,owner ops t=some i→n≤i)→a.tmps.getD t undef=a0.tmps.getD t undef) →
   wpList P ops Q (ops.toList.drop n) a w1) :
 (Code.region id ops true).wp P Q a0 w:=by
 have main:∀ (fuel:Nat) (listed:Array Bool) (a:Act) (w1:World),InvC ops n c a0 Ph T listed a w1→((List.range ops.size).filter fun j=>!listed.getD j true).length≤fuel →
  wpAny P .any ops Q fuel listed a w1:=by
  have cnt:∀ (listed:Array Bool),listed.size=ops.size→(∀ j,n≤j→listed.getD j false=false)→ops.size - n≤((List.range ops.size).filter fun j=>!listed.getD j true).length:=by
   intro listed hs hl
   have e:List.range ops.size=List.range n++(List.range (ops.size - n)).map (n+·):=by rw [← List.range_add,Nat.add_sub_cancel' hn]
   have e2:((List.range (ops.size - n)).map (n+·)).filter (fun j=>!listed.getD j true)=(List.range (ops.size - n)).map (n+·):=by
    rw [List.filter_eq_self]
    intro x hx
    obtain⟨y,hy,rfl⟩:=List.mem_map.1 hx
    rw [List.mem_range] at hy
    have h3:=hl (n+y) (by omega)
    have hxs:n+y < listed.size:=by omega
    simp [hxs] at h3 ⊢
    exact h3
   rw [e,List.filter_append,e2]
   simp
  -- all the first ones have come up
  have full:∀ (fuel:Nat) (listed:Array Bool) (a:Act) (w1:World),InvC ops n c a0 Ph T listed a w1→((List.range ops.size).filter fun j=>!listed.getD j true).length≤fuel→(∀ j,j < n→listed.getD j false=true)→wpAny P .any ops Q fuel listed a w1:=by
   intro fuel listed a w1 I hc hall
   refine tail_run hok ht (ops.size - n) n fuel listed a w1 (by omega) (Nat.le_refl _) I.lsize hall I.late (Nat.le_trans (cnt listed I.lsize I.late) hc) ?_
   refine hend a w1 ?_ I.defers I.size (fun j o hj ho=>I.all j o ho hj (hall j hj)) I.out
   have hp:=I.ph
   by_cases hcn:c < n
   ·rw [hall c hcn] at hp;simpa [hcn] using hp
   ·rw [I.late c (by omega)] at hp;simpa [hcn] using hp
  intro fuel
  induction fuel with
  | zero =>
    intro listed a w1 I hc
    refine full 0 listed a w1 I hc (fun j hj=>?_)
    by_cases hl:listed.getD j false=true
    ·exact hl
    ·exfalso
     have hjl:j < listed.size:=by rw [I.lsize];omega
     have:j ∈ (List.range ops.size).filter fun j=>!listed.getD j true:=List.mem_filter.2 ⟨List.mem_range.2 (by omega),by simp [hjl] at hl ⊢;exact hl⟩
     rw [List.eq_nil_of_length_eq_zero (by omega:((List.range ops.size).filter fun j=>!listed.getD j true).length=0)] at this
     cases this
  | succ fuel ih =>
    intro listed a w1 I hc
    by_cases hall:∀ j,j < n→listed.getD j false=true
    ·exact full (fuel+1) listed a w1 I hc hall
    have hex:∃ j,j < n∧listed.getD j false=false:=by
     apply Classical.byContradiction
     intro hne
     refine hall fun j hj=>?_
     cases hl:listed.getD j false
     ·exact absurd ⟨j,hj,hl⟩ hne
     ·rfl
    refine⟨fun hr=>?_,fun i hi=>?_⟩
    ·exfalso
     refine hall fun j=>?_
     induction j using Nat.strongRecOn with
     | _ j ihj =>
       intro hj
       by_cases hl:listed.getD j false=true
       ·exact hl
       ·exfalso
        have ho:=Array.getElem?_eq_getElem (xs:=ops) (i:=j) (by omega)
        have hmem:j ∈ Region.ready .any ops listed:=by
         rw [mem_ready]
         refine⟨?_,_,ho,fun e he hb=>?_⟩
         ·have hjl:j < listed.size:=by rw [I.lsize];omega
          simp [hjl] at hl ⊢
          exact hl
         ·have hlt:=(ok_at hok ho).2.2.2 e he hb
          exact ihj e.on hlt (by omega)
        rw [hr] at hmem
        cases hmem
    obtain⟨h0,o,ho,hafter⟩:=mem_ready.1 hi
    obtain⟨k1,k2,k3,k4⟩:=ok_at hok ho
    have hilt:=(qL ho)
    -- what it waits for has come up
    have come:∀ k,waits o k=true→listed.getD k false=true:=fun k hk=>by
     obtain⟨e,he,rfl,hb⟩:=waits_spec hk
     exact hafter e he hb
    have hin:i < n:=by
     apply Classical.byContradiction
     intro hge
     obtain⟨j,hj,hjl⟩:=hex
     have:=come j (tail_at ht ho (by omega) (by omega))
     rw [hjl] at this;cases this
    have hdeps:deps ops a0 T a.eval w1 o.op.operands.toList:=deps_of fun x hx=>by
     cases x with
     | tmp t =>
       cases hown:owner ops t with
       | none=>simp only [dep,hown];exact I.out t (fun i hi=>by rw [hown] at hi;cases hi)
       | some k =>
         obtain⟨ok',hok',hd⟩:=owner_spec hown
         have:=I.all k ok' hok' (hback i k t o hin ho hx hown) (come k (k2 t k hx hown))
         simp only [slot,hd] at this
         simp only [dep,hown]
         exact this
     | const c=>rfl
     | global g=>rfl
     | func f=>rfl
    have hnc:i=c→listed.getD c false=false:=fun e=>by
     subst e
     have his:i < listed.size:=by rw [I.lsize];exact hilt
     simp [his] at h0 ⊢
     exact h0
    have hstep':=hstep i o hin ho a.eval w1 _ I.ph hnc hdeps
    have hcount:((List.range ops.size).filter fun j=>!(listed.setIfInBounds i true).getD j true).length≤fuel:=by
     have:=filter_lt (l:=List.range ops.size) (p:=fun j=>!listed.getD j true) (q:=fun j=>!(listed.setIfInBounds i true).getD j true)
      (fun x hx=>by
        by_cases hxi:i=x
        ·subst hxi;simp only [h0];rfl
        ·rw [getD_set_ne true hxi] at hx;exact hx) (List.mem_range.2 hilt) (by simp only [h0];rfl)
      (by have:i < listed.size:=by rw [I.lsize];exact hilt
          simp [this])
     omega
    have hnext:∀ v w',(if i=c then turn w1 w'∧Ph true w' else Below w1.heap.size w1 w')→T i (left o v) w'→InvC ops n c a0 Ph T (listed.setIfInBounds i true) (a.put o.dst v) w':=fun v w' hr ht'=>by
     refine⟨?_,?_,?_,by simpa using I.lsize,fun j oj hoj hjn hlj=>?_,fun j hj=>by rw [getD_set_ne false (by omega)];exact I.late j hj,fun t hn'=>?_⟩
     ·by_cases hic:i=c
      ·subst hic
       rw [if_pos rfl] at hr
       have:i < listed.size:=by rw [I.lsize];exact hilt
       simp [this]
       exact hr.2
      ·rw [if_neg hic] at hr
       rw [getD_set_ne false hic]
       exact hph _ _ _ I.ph hr
     ·cases hd:o.dst <;> simp [Act.put,I.defers]
     ·cases hd:o.dst <;> simp [Act.put,I.size]
     ·by_cases hij:i=j
      ·subst hij
       obtain rfl:o=oj:=Option.some.inj (ho.symm.trans hoj)
       cases hd:o.dst with
       | none=>simpa [slot,left,hd] using ht'
       | some d =>
         have hdlt:=(k1 d hd).1
         have e:slot o (a.put (some d) v)=v:=by
          simp [slot,hd,Act.put,I.size,hdlt]
         rw [e]
         simpa [left,hd] using ht'
      ·rw [getD_set_ne false hij] at hlj
       have hold:=I.all j oj hoj hjn hlj
       have hold':T j (slot oj a) w':=by
        by_cases hic:i=c
        ·rw [if_pos hic] at hr;exact stabT _ _ _ _ hold hr.1
        ·rw [if_neg hic] at hr;exact stab _ _ _ _ hold hr
       have e:slot oj (a.put o.dst v)=slot oj a:=by
        cases hd:o.dst with
        | none=>rfl
        | some d =>
          unfold slot
          cases hdj:oj.dst with
          | none=>rfl
          | some dj =>
            have hne:d≠dj:=fun e=>by
             subst e
             have h1:=(k1 d hd).2
             have h2:=((ok_at hok hoj).1 d hdj).2
             rw [h1] at h2
             exact hij (Option.some.inj h2)
            simp [Act.put,Array.getElem?_setIfInBounds_ne hne]
       rw [e];exact hold'
     ·rw [← I.out t hn']
      cases hd:o.dst with
      | none=>rfl
      | some d =>
        have hne:d≠t:=fun e=>by
         subst e
         have:=hn' i (k1 d hd).2
         omega
        simp [Act.put,Array.getElem?_setIfInBounds_ne hne]
    have hg:=hguard i o hin ho
    -- is it wanted?
    have hw:Region.wanted o (yielded ops a.tmps)=want i:=by
     unfold Region.wanted
     cases hgd:o.guard with
     | none=>rw [hgd] at hg;simp only at hg;rw [hg]
     | some gb =>
       obtain⟨g,b⟩:=gb
       rw [hgd] at hg
       simp only at hg
       obtain⟨hwg,d,hd⟩:=k3 g b hgd
       obtain⟨og,hog,hdg⟩:=Option.bind_eq_some_iff.1 hd
       have hT:=I.all g og hog hg.1 (come g hwg)
       have hv:=hg.2 _ _ hT
       have hdlt:d < a.tmps.size:=by rw [I.size];exact((ok_at hok hog).1 d hdg).1
       have hs:slot og a=a.tmps[d]:=by simp [slot,hdg,hdlt]
       have hy:yielded ops a.tmps g=match a.tmps[d] with | .bool b=>some b | _=>none:=by
        unfold yielded
        rw [hd]
        simp [hdlt]
        cases a.tmps[d] <;> rfl
       rw [hs] at hv
       simp only [hy]
       cases hwi:want i with
       | true=>rw [hwi] at hv;simp only [if_true] at hv;rw [hv];simp
       | false =>
         rw [hwi] at hv
         simp only [Bool.false_eq_true,if_false] at hv
         cases hx:a.tmps[d] <;> first | rfl | skip
         rename_i bb
         rw [hx] at hv
         have:bb≠b:=fun e=>hv (by rw [e])
         simp [this]
    unfold wpOp
    rw [ho]
    simp only [hw]
    cases hwi:want i with
    | true =>
      rw [hwi] at hstep'
      simp only [if_true] at hstep' ⊢
      exact .inl (wp_of_gives hstep' fun v w' ⟨hr,ht'⟩=>ih _ _ _ (hnext v w' hr ht') hcount)
    | false =>
      rw [hwi] at hstep'
      simp only [Bool.false_eq_true,if_false] at hstep' ⊢
      refine ih _ _ _ (hnext undef w1 (by rw [if_neg hstep'.1];exact Below.refl _ _) ?_) hcount
      cases hd:o.dst <;> simpa [left,hd] using hstep'.2
 refine wp_region_any hm (main ops.size (Array.replicate ops.size false) a0 w.drew ⟨?_,rfl,rfl,by simp,fun j o ho _ hl=>?_,fun j _=>?_,fun t _=>rfl⟩ ?_)
 ·have e:(Array.replicate ops.size false).getD c false=false:=by
   by_cases hc:c < ops.size <;> simp [hc]
  rw [e];exact hph0
 ·have hj:=(qL ho)
  simp [hj] at hl
 ·by_cases hc:j < ops.size <;> simp [hc]
 ·exact Nat.le_trans (List.length_filter_le _ _) (by simp)
end Og
end Go.Proofs.YtnjnpbabgefaeaaGreat
end
section
namespace Go.Proofs.YtnjnpbabgefaeaaGreat
open Go.RowKit
namespace Ev
def R0:R:=⟨0,0,0,0,0,false,false,0,0,false,⟨none,0,[]⟩,⟨none,0,[]⟩,⟨none,0,[]⟩⟩
def nth (xs:List R) (i:Int):R:=xs.getD i.toNat R0
def hangGo (xs:List R) (n:Int) (h:Int):Int→List Int→Bool
 | _,[]=>true
 | last,d :: ds=>!(decide (d≤last))&&!(decide (n≤d))&&((nth xs d).h==h)&&loads (nth xs d).k&&hangGo xs n h d ds
def deps (x:R):List Sl:=[x.d1,x.d2,x.d3]
def depsOk (xs:List R) (n:Int):Bool:=(deps (nth xs n)).all fun s=>hangGo xs n (nth xs n).h (-1) s.l
theorem nth_some {xs:List R} {k:Nat} {x:R} (h:xs[k]?=some x):nth xs (k:Int)=x:=by
 unfold nth;simp [List.getD,h]
end Ev
theorem Ev.ld {w:World} {g o:Nat} {x:Ev.R} (hc:∀ i c,(Ev.cells x)[i]?=some c→w.cell? ⟨g,o+i,none⟩=some c):(loadVar 48 ⟨g,o,none⟩).run Tryz.prog w=.ok (.agg (Ev.cells x).toArray) w :=
 run_loadVar_at w g o 48 (Ev.cells x) _ hc Tryz.underlying48 rfl (by kernel_rfl)
theorem index_arr0 (a b c:Value) (w:World):(Instr.index 149 (.agg #[a,b,c]) (.int .i64 0)).run Tryz.prog w=.ok a w:=by kernel_rfl
theorem index_arr1 (a b c:Value) (w:World):(Instr.index 149 (.agg #[a,b,c]) (.int .i64 1)).run Tryz.prog w=.ok b w:=by kernel_rfl
theorem index_arr2 (a b c:Value) (w:World):(Instr.index 149 (.agg #[a,b,c]) (.int .i64 2)).run Tryz.prog w=.ok c w:=by kernel_rfl
theorem deps_any (a:Option Addr) (c:Nat) (xs:List Ev.R) (n:Nat) (hn:n < xs.length) (w:World) (hin:Ev.EvsIn w a c xs) :
 Calls Tryz.prog 95 #[.slice a xs.length c,.int .i64 (n:Int)] w fun e w'=>e=.returned (.bool (Ev.depsOk xs n))∧Below w.heap.size w w':=by
 obtain⟨x,hx⟩:∃ x,xs[n]?=some x:=⟨_,List.getElem?_eq_getElem hn⟩
 obtain⟨g,o,rfl,hc⟩:=hin.at_ hx
 have hnx:=Ev.nth_some hx
 have hmax:=hin.max;have hle:=hin.le
 have hok:=hin.ok_ hx
 have HIN:=qH hin;have HX:=qH hx;have HNX:=qH hnx;have HC:=qH hc;have HOK:=qH hok
 have hni:(n:Int) < (xs.length:Int):=by omega
 clear hin hx hnx hc hok
 go_enter Tryz.func95,Tryz.ntmps95
 go_wp2_with (first
  | (show wpList _ _ _ (Oper.mk (some 14) _ _ _ _ _ :: _) _ _;refine wpList_load_at rfl 48 (.tmp 13) rfl g (o+n * 13) rfl (Ev.cells x) _ HC.out Tryz.underlying48 rfl (by kernel_rfl) ?_)
  | (show wpList _ _ _ (Oper.mk none (Op.store 48 _ _) _ _ _ _ :: _) _ _;refine wpList_store_own rfl 48 (.tmp 5) (.tmp 14) rfl w.heap.size (Ev.cells x).toArray rfl rfl 48 (Ev.cells Ev.R0).toArray (heap_alloc_new _ _) (by kernel_rfl) (by kernel_rfl) (by kernel_rfl) ?_
     intro W1 HW1
     have B1:=qH (((Below.refl w.heap.size w).alloc (Nat.le_refl _) _).trans HW1.below)
     have RW:=qH HW1.row
     have c10:W1.cell? ⟨w.heap.size,10,none⟩=some (.slice x.d1.a x.d1.l.length x.d1.c):=by rw [qC HW1.row];rfl
     have c11:W1.cell? ⟨w.heap.size,11,none⟩=some (.slice x.d2.a x.d2.l.length x.d2.c):=by rw [qC HW1.row];rfl
     have c12:W1.cell? ⟨w.heap.size,12,none⟩=some (.slice x.d3.a x.d3.l.length x.d3.c):=by rw [qC HW1.row];rfl
     clear HW1))
 clear c10 c11 c12
 have KW:=qH (Ev.kp_below B1.out)
 go_loopw [7,8,10,22] (fun _ _ _ i wr=>∃ k:Nat,k≤3∧i=.int .i64 (k:Int)∧(∀ j s,j < k→(Ev.deps x)[j]?=some s→Ev.hangGo xs n x.h (-1) s.l=true)∧Below W1.heap.size W1 wr) (fun _ _ _ i _=>3 - (intOf i).toNat)
 case atStart=>exact⟨0,by omega,rfl,fun j s hj=>absurd hj (by omega),Below.refl _ _⟩
 case round =>
  obtain⟨k,hk,rfl,hall,hbr⟩:=hrel
  have HALL:=qH hall;have HBR:=qH hbr;clear hall hbr
  by_cases hlt:k < 3
  ·obtain⟨S,hS⟩:∃ S,(Ev.deps x)[k]?=some S:=⟨_,List.getElem?_eq_getElem (by simpa [Ev.deps] using hlt)⟩
   have HS:=qH hS
   have hSin:Ev.IntsIn wr S:=by
    have hk3:k=0∨k=1∨k=2:=by omega
    have h0:Ev.IntsIn w S:=by
     rcases hk3 with rfl | rfl | rfl
     ·cases Option.some.inj hS;exact HOK.out.d1
     ·cases Option.some.inj hS;exact HOK.out.d2
     ·cases Option.some.inj hS;exact HOK.out.d3
    exact(h0.kp KW.out).kp (Ev.kp_below HBR.out)
   have hidx:(Instr.index 149 (.agg #[.slice x.d1.a x.d1.l.length x.d1.c,.slice x.d2.a x.d2.l.length x.d2.c,.slice x.d3.a x.d3.l.length x.d3.c]) (.int .i64 (k:Int))).run Tryz.prog wr=.ok (.slice S.a S.l.length S.c) wr:=by
    have hk3:k=0∨k=1∨k=2:=by omega
    rcases hk3 with rfl | rfl | rfl
    ·cases Option.some.inj hS;exact index_arr0 _ _ _ _
    ·cases Option.some.inj hS;exact index_arr1 _ _ _ _
    ·cases Option.some.inj hS;exact index_arr2 _ _ _ _
   have hSm:S.c≤9223372036854775807:=hSin.2.2.1
   have hSl:S.l.length≤S.c:=hSin.2.1
   have HSIN:=qH hSin
   have hki:(k:Int) < 3:=by omega
   clear hS hSin
   go_wp2
   clear hidx
   go_loopw [8,10,27] (fun la _ i w2=>∃ (m:Nat) (last:Int),m≤S.l.length∧i=.int .i64 (m:Int)∧la=.int .i64 last∧-1≤last∧Ev.hangGo xs n x.h (-1) S.l=Ev.hangGo xs n x.h last (S.l.drop m)∧Below wr.heap.size wr w2) (fun _ _ i _=>S.l.length - (intOf i).toNat)
   case atStart=>exact⟨0,-1,Nat.zero_le _,rfl,rfl,by omega,by simp,Below.refl _ _⟩
   case round =>
    obtain⟨m,last,hm,rfl,rfl,hlast,hgo,hb2⟩:=hrel
    have HB2:=qH ((B1.out.trans (HBR.out.mono B1.out.size)).trans (hb2.mono (Nat.le_trans B1.out.size HBR.out.size)))
    have HB3:=qH (HBR.out.trans (hb2.mono HBR.out.size))
    have HB4:=qH hb2
    have HGO:=qH hgo
    clear hb2 hgo
    by_cases hml:m < S.l.length
    ·obtain⟨d,hd⟩:∃ d,S.l[m]?=some d:=⟨_,List.getElem?_eq_getElem hml⟩
     have hdrop:S.l.drop m=d :: S.l.drop (m+1):=by
      rw [List.drop_eq_getElem_cons hml];congr 1;rw [List.getElem?_eq_getElem hml] at hd;exact Option.some.inj hd
     obtain⟨g2,o2,e2,c2⟩:=HSIN.out.at_ hd
     have c2':=(Ev.kp_below HB4.out) _ _ c2
     have hbd:=HSIN.out.b_ hd
     unfold Ev.i64B at hbd
     have hmi:(m:Int) < (S.l.length:Int):=by omega
     have HD:=qH hd
     have HDR:=qH hdrop
     clear hd hdrop c2
     rw [e2]
     have HE2:=qH e2;clear e2
     by_cases hA:d≤last
     ·have HG:=qH (show Ev.hangGo xs n x.h (-1) S.l=false by rw [HGO.out,HDR.out];simp [Ev.hangGo,hA])
      have HF:=qH (show Ev.depsOk xs n=false by
       unfold Ev.depsOk;rw [HNX.out,List.all_eq_false]
       refine⟨S,List.mem_of_getElem? HS.out,?_⟩
       rw [HG.out];simp)
      go_wp2
      refine Og.regionB (by kernel_rfl) (by kernel_rfl) ?_
      repeat (first
       | go_big_quiet_skip
       | (go_big_quiet_want
          first
           | (go_big_quiet_op
              first
               | go_big_quiet_on)))
      refine wpQuiet_nil ?_
      intro _ hw'
      obtain⟨q9,hw''⟩:=hw'
      subst hw''
      have HEND:=qH (HB2.out.trans (q9.b.mono HB2.out.size))
      go_wp2_with fail
      go_ret
      exact⟨by rw [HF.out];rfl,HEND.out⟩
     have hA':last < d:=by omega
     have tA:decide (d≤last)=false:=decide_eq_false (by omega)
     by_cases hB:(n:Int)≤d
     ·have HG:=qH (show Ev.hangGo xs n x.h (-1) S.l=false by rw [HGO.out,HDR.out];simp [Ev.hangGo,hB])
      have tB:decide ((n:Int)≤d)=true:=decide_eq_true hB
      have HF:=qH (show Ev.depsOk xs n=false by
       unfold Ev.depsOk;rw [HNX.out,List.all_eq_false]
       refine⟨S,List.mem_of_getElem? HS.out,?_⟩
       rw [HG.out];simp)
      go_wp2
      refine Og.regionB (by kernel_rfl) (by kernel_rfl) ?_
      repeat (first
       | go_big_quiet_skip
       | (go_big_quiet_want
          first
           | (go_big_quiet_op
              first
               | go_big_quiet_on)))
      refine wpQuiet_nil ?_
      intro _ hw'
      obtain⟨q9,hw''⟩:=hw'
      subst hw''
      have HEND:=qH (HB2.out.trans (q9.b.mono HB2.out.size))
      go_wp2_with fail
      go_ret
      exact⟨by rw [HF.out];rfl,HEND.out⟩
     have hB':d < (n:Int):=by omega
     obtain⟨dn,rfl⟩:∃ dn:Nat,d=dn:=⟨d.toNat,by omega⟩
     have hdn:dn < xs.length:=by omega
     obtain⟨y,hy⟩:∃ y,xs[dn]?=some y:=⟨_,List.getElem?_eq_getElem hdn⟩
     have hyn:=Ev.nth_some hy
     obtain⟨g',o',eg,hcy⟩:=HIN.out.at_ hy
     obtain⟨rfl,rfl⟩:g'=g∧o'=o:=by cases eg;exact⟨rfl,rfl⟩
     have hcy2:∀ z:Og.On wr.heap.size wr,∀ i c,(Ev.cells y)[i]?=some c→z.x.cell? ⟨g',o'+dn * 13+i,none⟩=some c:=fun z i c hi =>
      Og.cellB z (Ev.kp_below HB2.out _ _ (hcy i c hi))
     have LY:=qH (fun z:Og.On wr.heap.size wr=>Ev.ld (hcy2 z))
     have ch:∀ z:Og.On wr.heap.size wr,z.x.cell? ⟨g',o'+dn * 13,none⟩=some (.int .i64 y.h):=fun z=>hcy2 z 0 _ rfl
     have ce:∀ z:Og.On wr.heap.size wr,z.x.cell? ⟨w.heap.size,0,none⟩=some (.int .i64 x.h):=fun z =>
      Og.cellB z (by
       rw [cell_of_row _ _ 0 _ _ _ ((HB3.out.block w.heap.size (qL RW.out)).trans RW.out)];rfl)
     have hdi:(dn:Int) < (xs.length:Int):=by omega
     have tB:decide ((n:Int)≤(dn:Int))=false:=decide_eq_false (by omega)
     have tB':decide (n≤dn)=false:=decide_eq_false (by omega)
     have HY:=qH hyn
     clear eg hcy hcy2 hy hyn
     by_cases hC:y.h=x.h
     ·have hC1:(y.h != x.h)=false:=by simp [hC]
      have HC':=qH hC
      clear hC
      by_cases hD:Ev.loads y.k=true
      ·have HG:=qH (show Ev.hangGo xs n x.h last (S.l.drop m)=Ev.hangGo xs n x.h dn (S.l.drop (m+1)) by
        rw [HDR.out];simp only [Ev.hangGo];rw [HY.out,HC'.out,hD];simp;intro h;omega)
       go_wp2
       refine Og.regionB (by kernel_rfl) (by kernel_rfl) ?_
       repeat (first
        | go_big_quiet_skip
        | (go_big_quiet_want
           first
            | (refine Og.quiet_load 48 (.tmp 52) rfl (.agg (Ev.cells y).toArray) ⟨g',o'+dn * 13,none⟩ _ rfl (by rintro _ ⟨z,rfl⟩;exact LY.out z) (by simp only [Act.put,qa,qb,qc];rfl) ?_
               go_big_quiet_on)
            | (go_big_quiet_op
               first
                | go_big_quiet_on
                | (apply Exists.intro
                   refine⟨fun z=>?_,?_⟩
                   ·first
                     | exact Og.callB (loads_any y _)
                   go_big_quiet_on))))
       refine wpQuiet_nil ?_
       intro _ hw'
       obtain⟨q9,hw''⟩:=hw'
       subst hw''
       have HEND:=qH (HB4.out.trans (q9.b.mono HB4.out.size))
       rw [hD]
       go_wp2_with fail
       go_roundw
       case rel=>exact⟨m+1,dn,by omega,by go_num,rfl,by omega,by rw [HGO.out,HG.out],HEND.out⟩
       case measure=>simp [intOf];omega
      ·have hD:Ev.loads y.k=false:=by simpa using hD
       have HG:=qH (show Ev.hangGo xs n x.h (-1) S.l=false by rw [HGO.out,HDR.out];simp only [Ev.hangGo];rw [HY.out,hD];simp)
       have HF:=qH (show Ev.depsOk xs n=false by
        unfold Ev.depsOk;rw [HNX.out,List.all_eq_false]
        refine⟨S,List.mem_of_getElem? HS.out,?_⟩
        rw [HG.out];simp)
       go_wp2
       refine Og.regionB (by kernel_rfl) (by kernel_rfl) ?_
       repeat (first
        | go_big_quiet_skip
        | (go_big_quiet_want
           first
            | (refine Og.quiet_load 48 (.tmp 52) rfl (.agg (Ev.cells y).toArray) ⟨g',o'+dn * 13,none⟩ _ rfl (by rintro _ ⟨z,rfl⟩;exact LY.out z) (by simp only [Act.put,qa,qb,qc];rfl) ?_
               go_big_quiet_on)
            | (go_big_quiet_op
               first
                | go_big_quiet_on
                | (apply Exists.intro
                   refine⟨fun z=>?_,?_⟩
                   ·first
                     | exact Og.callB (loads_any y _)
                   go_big_quiet_on))))
       refine wpQuiet_nil ?_
       intro _ hw'
       obtain⟨q9,hw''⟩:=hw'
       subst hw''
       rw [hD]
       have HEND:=qH (HB2.out.trans (q9.b.mono HB2.out.size))
       go_wp2_with fail
       go_ret
       exact⟨by rw [HF.out];rfl,HEND.out⟩
     ·have hC1:(y.h != x.h)=true:=by simpa using hC
      have HG:=qH (show Ev.hangGo xs n x.h (-1) S.l=false by rw [HGO.out,HDR.out];simp only [Ev.hangGo];rw [HY.out];simp [hC])
      have HF:=qH (show Ev.depsOk xs n=false by
       unfold Ev.depsOk;rw [HNX.out,List.all_eq_false]
       refine⟨S,List.mem_of_getElem? HS.out,?_⟩
       rw [HG.out];simp)
      clear hC
      go_wp2
      refine Og.regionB (by kernel_rfl) (by kernel_rfl) ?_
      repeat (first
       | go_big_quiet_skip
       | (go_big_quiet_want
          first
           | (go_big_quiet_op
              first
               | go_big_quiet_on)))
      refine wpQuiet_nil ?_
      intro _ hw'
      obtain⟨q9,hw''⟩:=hw'
      subst hw''
      have HEND:=qH (HB2.out.trans (q9.b.mono HB2.out.size))
      go_wp2_with fail
      go_ret
      exact⟨by rw [HF.out];rfl,HEND.out⟩
    ·have hme:m=S.l.length:=by omega
     have HT:=qH (show Ev.hangGo xs n x.h (-1) S.l=true by rw [HGO.out,hme,List.drop_length];simp [Ev.hangGo])
     have hmi:¬ (m:Int) < (S.l.length:Int):=by omega
     clear hme
     go_wp2_with fail
     go_roundw
     case rel =>
      refine⟨k+1,by omega,by go_num,fun j s hj hs=>?_,HBR.out.trans (HB4.out.mono HBR.out.size)⟩
      by_cases hjk:j=k
      ·subst hjk;rw [HS.out] at hs;cases Option.some.inj hs;exact HT.out
      ·exact HALL.out j s (by omega) hs
     case measure=>simp [intOf];omega
  ·have hk3:k=3:=by omega
   have HF:=qH (show Ev.depsOk xs n=true by
    unfold Ev.depsOk;rw [HNX.out,List.all_eq_true]
    intro s hs
    obtain⟨j,hj⟩:=List.mem_iff_getElem?.1 hs
    exact HALL.out j s (by have:=(List.getElem?_eq_some_iff.1 hj).1;simp [Ev.deps] at this;omega) hj)
   have hki:¬ (k:Int) < 3:=by omega
   clear hk3
   go_wp2
   go_ret
   exact⟨by rw [HF.out];rfl,B1.out.trans (HBR.out.mono B1.out.size)⟩
end Go.Proofs.YtnjnpbabgefaeaaGreat
end
