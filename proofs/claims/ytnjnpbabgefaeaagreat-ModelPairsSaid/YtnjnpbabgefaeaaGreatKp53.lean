import Derived.Test.YtnjnpbabgefaeaaGreatKp52
import Derived.Test.YtnjnpbabgefaeaaGreatKp04
import Derived.Test.YtnjnpbabgefaeaaGreatKpH
set_option maxRecDepth 100000
set_option maxHeartbeats 8000000
set_option linter.unusedVariables false
set_option linter.unusedSimpArgs false
section
namespace Go.Proofs.YtnjnpbabgefaeaaGreat
open Go.RowKit
theorem Md.unguard {P:Program} {ops:Array Oper} {Q:Exit→Act→World→Prop} {rest:List Oper} {o:Oper} {a:Act} {w:World} (hw:Region.wanted o (yielded ops a.tmps)=true) (h:wpList P ops Q ({ o with guard:=none } :: rest) a w):wpList P ops Q (o :: rest) a w:=by
 unfold wpList at h ⊢
 rw [if_pos hw]
 have e:Region.wanted { o with guard:=none } (yielded ops a.tmps)=true:=by unfold Region.wanted;rfl
 rw [if_pos e] at h
 exact h
theorem Og.held_takeG {P:Program} {ops:Array Oper} {Q:Exit→Act→World→Prop} {S:World→Prop} {fuel:Nat} {listed:Array Bool} {a:Act} {w:World} (i:Nat) (o:Oper) (v:Value) (a':Act) (hi:ops[i]?=some o) (hw:Region.wanted o (yielded ops a.tmps)=true)
 (hs:Region.noSelect ops=true) (hf:Region.free .any ops listed i=true) (hr:(Region.ready .any ops listed).contains i=true)
 (hQ:∀ c a w,Q (.panic c) (a.put o.dst v) w→Q (.panic c) a w) (hS:S w)
 (hrun:∀ x,S x→(execOp a.eval o).run P x=.ok (.value v) x) (ha:a.put o.dst v=a')
 (h:wpAnyH P .any ops Q S fuel (listed.setIfInBounds i true) a' w):wpAnyH P .any ops Q S (fuel+1) listed a w :=
 wpAnyH_take hi hs hf hr hQ (Or.inl ⟨hw,hrun⟩) hS (by rw [ha];exact h)
theorem Og.held_skip {P:Program} {ops:Array Oper} {Q:Exit→Act→World→Prop} {S:World→Prop} {fuel:Nat} {listed:Array Bool} {a:Act} {w:World} (i:Nat) (o:Oper) (a':Act) (hi:ops[i]?=some o) (hw:Region.wanted o (yielded ops a.tmps)=false)
 (hs:Region.noSelect ops=true) (hf:Region.free .any ops listed i=true) (hr:(Region.ready .any ops listed).contains i=true)
 (hQ:∀ c a w,Q (.panic c) (a.put o.dst undef) w→Q (.panic c) a w) (hS:S w) (ha:a.put o.dst undef=a')
 (h:wpAnyH P .any ops Q S fuel (listed.setIfInBounds i true) a' w):wpAnyH P .any ops Q S (fuel+1) listed a w :=
 wpAnyH_take hi hs hf hr hQ (Or.inr ⟨hw,rfl⟩) hS (by rw [ha];exact h)
theorem Og.op_skip {P:Program} {ops:Array Oper} {Q:Exit→Act→World→Prop} {K:Act→World→Prop} {a:Act} {w:World} (i:Nat) (o:Oper) (a':Act) (hi:ops[i]?=some o) (hw:Region.wanted o (yielded ops a.tmps)=false) (ha:a.put o.dst undef=a') (h:K a' w):wpOp P ops Q i K a w:=by
 unfold wpOp
 rw [hi]
 simp only [hw]
 rw [ha]
 exact h
namespace Md
open Ev
def IntRow (W:World) (base:Nat) (v:Value) (l:List Nat):Prop:=W.ownsRow base 3 1 v l.length ((cI l).map fun n=>.int .i64 n)
theorem IntRow.ints {W:World} {base:Nat} {a:Option Addr} {n c:Nat} {l:List Nat} (h:IntRow W base (.slice a n c) l) (hl:∀ q ∈ l,q≤1000):IntsIn W ⟨a,c,cI l⟩:=by
 have hb:∀ v ∈ cI l,i64B v:=by
  intro v hv
  obtain⟨q,hq,rfl⟩:=List.mem_map.1 hv
  have:=hl q hq
  unfold i64B;omega
 rcases h.2 with ⟨e,hn⟩ | ⟨g,cap,cur,e,_,hh,hnc,hcm,hcs,ht⟩
 ·obtain⟨rfl,_,rfl⟩:a=none∧n=0∧c=0:=by simpa using e
  exact⟨fun hp=>by rw [cI_len] at hp;omega,by rw [cI_len,hn];exact Nat.zero_le _,Nat.zero_le _,hb⟩
 ·obtain⟨rfl,_,rfl⟩:a=some ⟨g,0,none⟩∧n=l.length∧c=cap:=by simpa using e
  refine⟨fun _=>⟨g,0,rfl,fun j v hv=>?_⟩,by rw [cI_len];exact hnc,by unfold maxLen at hcm;exact hcm,hb⟩
  have h1:=World.ownsRow.cells (g:=g) h rfl j (.int .i64 v) (by rw [List.getElem?_map,hv];rfl)
  have e2:(⟨g,0,none⟩:Addr).add j=⟨g,0+j,none⟩:=by unfold Addr.add;split <;> simp_all
  rw [e2] at h1;exact h1
end Md
theorem Md.copyInts {ops:Array Oper} {rest:List Oper} {o:Oper} {a:Act} {w:World} {Q:Exit→Act→World→Prop} (hgd:o.guard=none) (s x:Operand)
 (ho:o.op=.call { callee:=.builtin .append,args:=#[s,x],argTypes:=#[23,23] }) (base:Nat) (hs:a.eval s=.slice none 0 0)
 (ae:Option Addr) (ce:Nat) (l:List Nat) (hx:a.eval x=.slice ae l.length ce) (hin:Ev.IntsIn w ⟨ae,ce,Md.cI l⟩) (hlen:l.length≤1000) (hbase:base≤w.heap.size)
 (h:∀ a' c' w',Md.IntRow w' base (.slice a' l.length c') l→w.grownBy w' none→wpList Tryz.prog ops Q rest (a.put o.dst (.slice a' l.length c')) w'):wpList Tryz.prog ops Q (o :: rest) a w:=by
 obtain⟨i0,hi,hz0,hz1,hz2⟩:=info_int
 have hnil:w.ownsRow base 3 1 (.slice none 0 0) 0 []:=World.ownsRow_nil _ _ _ _
 cases ae with
 | none =>
   have hl:l=[]:=by
    cases l with
    | nil=>rfl
    | cons p r=>obtain⟨_,_,e,_⟩:=hin.1 (by simp [Md.cI]);cases e
   subst hl
   exact append_nils hgd s x 23 ho 3 i0 Tryz.underlying23 hi ce hs hx (h none 0 w hnil ⟨rfl,rfl,rfl,Nat.le_refl _,fun _ _ _=>rfl⟩)
 | some ad =>
   have hnews:∀ (j:Nat) (u:Value),((Md.cI l).map fun n=>Value.int .i64 n)[j]?=some u→w.cell? (ad.add j)=some u:=by
    by_cases hz:0 < l.length
    ·obtain⟨g,o,e,hc⟩:=hin.1 (by simpa [Md.cI] using hz)
     obtain rfl:=Option.some.inj e
     intro j u hu
     rw [List.getElem?_map] at hu
     cases hj:(Md.cI l)[j]? with
     | none=>rw [hj] at hu;cases hu
     | some v =>
       rw [hj] at hu
       obtain rfl:Value.int .i64 v=u:=by simpa using hu
       have hadd:(⟨g,o,none⟩:Addr).add j=⟨g,o+j,none⟩:=by unfold Addr.add;split <;> simp_all
       rw [hadd];exact hc j v hj
    ·have:l=[]:=List.length_eq_zero_iff.1 (by omega)
     subst this
     intro j u hu;simp [Md.cI] at hu
   have hone:∀ u ∈ ((Md.cI l).map fun n=>Value.int .i64 n),u.oneCell'=true:=by
    intro u hu
    obtain⟨v,_,rfl⟩:=List.mem_map.1 hu
    rfl
   refine wpList_append_own _ hgd s x 23 ho base 3 i0 (.int .i64 0) 1 8 Tryz.underlying23 hi hz0 hz1 hz2 rfl (by decide) (.slice none 0 0) 0 [] hs hnil ad l.length ce ((Md.cI l).map fun n=>Value.int .i64 n) hx (by simp [Md.cI]) hnews hone (by unfold maxLen;omega) (by omega) hbase (fun v' w' h1 h2 _=>?_)
   rw [Nat.zero_add,List.nil_append] at h1
   have hf:∃ a c,v'=.slice a l.length c:=by
    rcases h1.2 with ⟨e1,e2⟩ | ⟨g,cap,cur,e1,_⟩
    ·exact⟨none,0,by rw [e1,e2]⟩
    ·exact⟨_,_,e1⟩
   obtain⟨a',c',rfl⟩:=hf
   exact h a' c' w' h1 h2
def Md.someSt (x:Ev.X) (L:List Nat) (f:Nat) (o:List Nat) (j:Nat):Bool:=!(o.contains (L.getD j 0))&&Md.someGo (Md.rightB x) L f (o++[L.getD j 0])
theorem Md.some_yes {x:Ev.X} {L:List Nat} {f:Nat} {o:List Nat} {j:Nat} (hj:j < L.length) (h:Md.someSt x L f o j=true):Md.someGo (Md.rightB x) L (f+1) o=true:=by
 unfold Md.someGo
 rw [List.any_eq_true]
 refine⟨L.getD j 0,?_,h⟩
 simp [List.getD,List.getElem?_eq_getElem hj]
theorem Md.some_no {x:Ev.X} {L:List Nat} {f:Nat} {o:List Nat} (h:∀ j,j < L.length→Md.someSt x L f o j=false):Md.someGo (Md.rightB x) L (f+1) o=false:=by
 unfold Md.someGo
 rw [List.any_eq_false]
 intro e he
 obtain⟨j,hj,rfl⟩:=List.getElem_of_mem he
 have:=h j hj
 unfold Md.someSt at this
 simp [List.getD,List.getElem?_eq_getElem hj] at this
 simpa using this
theorem Md.some_more {f:Nat→Bool} {k:Nat} (h:∀ j,j < k→f j=false) (hk:f k=false):∀ j,j < k+1→f j=false:=fun j hj=>by
 by_cases e:j=k
 ·rw [e];exact hk
 ·exact h j (by omega)
theorem Md.mem_snoc {o:List Nat} {m n:Nat} (h:∀ a ∈ o,a < n) (hm:m < n):∀ q ∈ o++[m],q < n:=by
 intro q hq
 rcases List.mem_append.1 hq with hq | hq
 ·exact h q hq
 ·obtain rfl:q=m:=by simpa using hq
  exact hm
theorem Md.one_int (m:Nat):∀ u ∈ [Value.int .i64 (m:Int)],u.oneCell'=true:=by
 intro u hu
 obtain rfl:u=.int .i64 (m:Int):=by simpa using hu
 rfl
theorem Md.at_out (o:List Nat) (a:Nat):Ev.at_ (Md.cI o) (a:Int) < 0↔a ∉ o:=by
 rw [Ev.at_neg]
 constructor
 ·intro h hm;exact h (List.mem_map.2 ⟨a,hm,rfl⟩)
 ·intro h hm
  obtain⟨b,hb,e⟩:=List.mem_map.1 hm
  have:b=a:=by omega
  exact h (this ▸ hb)
theorem rsome_any (x:Ev.X) (L:List Nat) (hfl:x.fr.l.length=x.ev.length) (hL:∀ a ∈ L,a < x.ev.length) (hx:x.ev.length≤1000) (hLn:L.length≤1000):∀ (f:Nat) (o:List Nat) (A D:Option Addr) (c d:Nat) (w:World),o.length+f=L.length→(∀ a ∈ o,a < x.ev.length)→Ev.XIn w x→Ev.IntsIn w ⟨A,c,Md.cI o⟩→Ev.IntsIn w ⟨D,d,Md.cI L⟩ →
 Calls Tryz.prog 36 #[Ev.exV x,.slice A o.length c,.slice D L.length d] w fun e w'=>e=.returned (.bool (Md.someGo (Md.rightB x) L f o))∧Below w.heap.size w w':=by
 intro f
 induction f with
 | zero =>
   intro o A D c d w hlen ho hin hs ht
   obtain⟨xb,hxb⟩:∃ xb,xb=w.heap.size:=⟨_,rfl⟩
   obtain⟨B,hB⟩:∃ B,B=w.alloc (.cells (Ev.xcells x).toArray 26):=⟨_,rfl⟩
   have HB:=qH hB;have HXB:=qH hxb
   have B0:=qH (show Below w.heap.size w B by rw [hB];exact(Below.refl w.heap.size w).alloc (Nat.le_refl _) _)
   have RX:=qH (show B.heap[xb]?=some (.cells #[.slice x.ae x.ev.length x.ce,.slice x.fr.a x.fr.l.length x.fr.c,.slice x.ao x.od.length x.co] 26 (0,0)) by rw [hB,hxb];exact heap_alloc_new _ _)
   have HX:=qH (show Ev.XIn B x from hin.kp (Ev.kp_below B0.out))
   have HS:=qH (show Ev.IntsIn B ⟨A,c,Md.cI o⟩ from hs.kp (Ev.kp_below B0.out))
   have HT:=qH (show Ev.IntsIn B ⟨D,d,Md.cI L⟩ from ht.kp (Ev.kp_below B0.out))
   have KR:=qH (fun W (h1:Ev.XIn W x) (h2:Ev.IntsIn W ⟨A,c,Md.cI o⟩)=>rright_any x o A c hfl ho W h1 h2)
   have hlo:o.length=L.length:=by omega
   have te:((o.length:Int)==(L.length:Int))=true:=by rw [hlo];simp
   have HZ:=qH (show Md.someGo (Md.rightB x) L 0 o=Md.rightB x o from rfl)
   rw [HZ.out]
   clear hin hs ht hB hxb ho hfl hL hx hLn hlen hlo
   unfold Ev.exV
   go_enter Tryz.func36,Tryz.ntmps36
   go_wp2_with (first
    | ((with_reducible refine qG 13 ?_);rw [← HB.out];refine wpList_load_row rfl 26 (.tmp 3) rfl xb (by rw [HXB.out];kernel_rfl) 26 #[.slice x.ae x.ev.length x.ce,.slice x.fr.a x.fr.l.length x.fr.c,.slice x.ao x.od.length x.co] (0,0) _ RX.out Tryz.underlying26 rfl (by kernel_rfl) ?_)
    | (go_at_call 51;refine(KR.out _ HX.out HS.out).mono ?_;rintro e W2 ⟨rfl,hb⟩;have B2:=qH (B0.out.trans (hb.mono B0.out.size));clear hb))
   go_ret
   exact⟨rfl,B2.out⟩
 | succ f ih =>
   intro o A D c d w hlen ho hin hs ht
   obtain⟨xb,hxb⟩:∃ xb,xb=w.heap.size:=⟨_,rfl⟩
   obtain⟨B,hB⟩:∃ B,B=w.alloc (.cells (Ev.xcells x).toArray 26):=⟨_,rfl⟩
   have HB:=qH hB;have HXB:=qH hxb
   have B0:=qH (show Below w.heap.size w B by rw [hB];exact(Below.refl w.heap.size w).alloc (Nat.le_refl _) _)
   have RX:=qH (show B.heap[xb]?=some (.cells #[.slice x.ae x.ev.length x.ce,.slice x.fr.a x.fr.l.length x.fr.c,.slice x.ao x.od.length x.co] 26 (0,0)) by rw [hB,hxb];exact heap_alloc_new _ _)
   have HX:=qH (show Ev.XIn B x from hin.kp (Ev.kp_below B0.out))
   have HS:=qH (show Ev.IntsIn B ⟨A,c,Md.cI o⟩ from hs.kp (Ev.kp_below B0.out))
   have HT:=qH (show Ev.IntsIn B ⟨D,d,Md.cI L⟩ from ht.kp (Ev.kp_below B0.out))
   have hm1:=hs.2.1;have hm2:=hs.2.2.1;have hm3:=ht.2.1;have hm4:=ht.2.2.1
   rw [Md.cI_len] at hm1 hm3
   have HIH:=qH ih;have HLE:=qH hlen;have HO:=qH ho;have HFL:=qH hfl;have HLL:=qH hL;have HXL:=qH hx;have HLN:=qH hLn
   have te:((o.length:Int)==(L.length:Int))=false:=by simp;omega
   clear hin hs ht hB hxb ho hfl hL hx hLn hlen ih
   unfold Ev.exV
   go_enter Tryz.func36,Tryz.ntmps36
   go_wp2
   rw [← HB.out,← HXB.out]
   go_loopw [7] (fun i wr=>∃ k:Nat,k≤L.length∧i=.int .i64 (k:Int)∧(∀ j,j < k→Md.someSt x L f o j=false)∧Below B.heap.size B wr) (fun i _=>L.length - (intOf i).toNat)
   case atStart=>exact⟨0,Nat.zero_le _,rfl,fun j hj=>absurd hj (by omega),Below.refl _ _⟩
   case round =>
    obtain⟨k,hk,rfl,hall,hbr⟩:=hrel
    have HBR:=qH hbr;have HALL:=qH hall
    clear hbr hall
    by_cases hlt:k < L.length
    ·have hki:(k:Int) < (L.length:Int):=by omega
     obtain⟨m,hm⟩:∃ m,L[k]?=some m:=⟨_,List.getElem?_eq_getElem hlt⟩
     obtain⟨gd,od,ed,hcd⟩:=HT.out.at_ (Md.cI_at hm)
     have ed:D=some ⟨gd,od,none⟩:=ed
     subst ed
     have HGD:=qH (show L.getD k 0=m by simp [List.getD,hm])
     have HMX:=qH (HLL.out m (List.mem_of_getElem? hm))
     obtain⟨p,hp⟩:∃ p,Ev.at_ (Md.cI o) (m:Int)=p:=⟨_,rfl⟩
     have KA:=qH (show ∀ W,Ev.IntsIn W ⟨A,c,Md.cI o⟩→Calls Tryz.prog 33 #[.slice A o.length c,.int .i64 (m:Int)] W fun e w'=>e=.returned (.int .i64 p)∧W=w' from fun W h=>by have:=rat_is0 hp W h;rwa [Md.cI_len] at this)
     have HIN:=qH (show p < 0↔m ∉ o by rw [← hp];exact Md.at_out o m)
     have cd0:=Ev.kp_below HBR.out _ _ hcd
     have LD0:=qH (fun (Y:World) (hx:Og.Std wr Y)=>ld_cell Tryz.isAgg3 (Og.std_cell hx cd0))
     clear hm hcd hp cd0
     go_wp2_with fail
     refine wp_region_held (S:=Og.Std wr) (by kernel_rfl) ?_
     obtain⟨V,hV⟩:∃ V:World,V={ wr with drawn:=wr.drawn+1 }:=⟨_,rfl⟩
     have S0:Og.Std wr V:=by rw [hV];exact⟨rfl,rfl,rfl,Nat.le_refl _,fun _ _=>rfl⟩
     rw [← hV]
     clear hV
     refine Og.held_take 0 ({ dst:=some 22,op:=Go.Op.move (Go.Operand.tmp 1),type:=23,pos:= "ref.go:392",after:=#[],guard:=none }) (.slice A o.length c) _ rfl rfl (by kernel_rfl) (by kernel_rfl) (by kernel_rfl) (fun _ _ _ h=>h) S0 (fun y hx=>?_) (by simp only [Act.put,qa,qb,qc];rfl) ?_
     ·go_simp;try (with_reducible rfl)
     refine Og.held_take 1 ({ dst:=some 23,op:=Go.Op.move (Go.Operand.tmp 2),type:=23,pos:= "ref.go:392",after:=#[],guard:=none }) (.slice (some ⟨gd,od,none⟩) L.length d) _ rfl rfl (by kernel_rfl) (by kernel_rfl) (by kernel_rfl) (fun _ _ _ h=>h) S0 (fun y hx=>?_) (by simp only [Act.put,qa,qb,qc];rfl) ?_
     ·go_simp;try (with_reducible rfl)
     refine Og.held_take 2 ({ dst:=some 24,op:=Go.Op.move (Go.Operand.tmp 7),type:=3,pos:= "ref.go:392",after:=#[],guard:=none }) (.int .i64 (k:Int)) _ rfl rfl (by kernel_rfl) (by kernel_rfl) (by kernel_rfl) (fun _ _ _ h=>h) S0 (fun y hx=>?_) (by simp only [Act.put,qa,qb,qc];rfl) ?_
     ·go_simp;try (with_reducible rfl)
     refine Og.held_take 3 ({ dst:=some 25,op:=Go.Op.indexAddr 23 (Go.Operand.tmp 23) (Go.Operand.tmp 24),type:=0,pos:= "ref.go:392",after:=#[{ on:=1,ground:=Go.Ground.data },{ on:=2,ground:=Go.Ground.data }],guard:=none }) (.pointer (some ⟨gd,od+k,none⟩)) _ rfl rfl (by kernel_rfl) (by kernel_rfl) (by kernel_rfl) (fun _ _ _ h=>h) S0 (fun y hx=>?_) (by simp only [Act.put,qa,qb,qc];rfl) ?_
     ·go_simp;try (with_reducible rfl)
     refine Og.held_take 4 ({ dst:=some 26,op:=Go.Op.load 3 (Go.Operand.tmp 25),type:=3,pos:= "ref.go:392",after:=#[{ on:=3,ground:=Go.Ground.data }],guard:=none }) (.int .i64 (m:Int)) _ rfl rfl (by kernel_rfl) (by kernel_rfl) (by kernel_rfl) (fun _ _ _ h=>h) S0 (fun y hx=>?_) (by simp only [Act.put,qa,qb,qc];rfl) ?_
     ·exact Og.load_run 3 (.tmp 25) rfl ⟨gd,od+k,none⟩ (by kernel_rfl) (LD0.out _ hx)
     refine Og.held_one 5 (by kernel_rfl) (Og.op_of_list 5 ({ dst:=some 27,op:=Go.Op.call { callee:=Go.Callee.value (Go.Operand.func 33),args:=#[Go.Operand.tmp 22,Go.Operand.tmp 26],argTypes:=#[23,3] },type:=3,pos:= "ref.go:392",after:=#[{ on:=0,ground:=Go.Ground.data },{ on:=4,ground:=Go.Ground.data }],guard:=none }) rfl ?_)
     try simp only [Act.put,qa,qb,qc]
     go_wp2_with (go_at_call 33;refine(KA.out _ (HS.out.kp (Ev.kp_below (HBR.out.trans (Below.mono S0 HBR.out.size))))).mono ?_;rintro e W1 ⟨rfl,hw⟩;subst hw)
     refine⟨S0,?_⟩
     obtain⟨b,hb⟩:∃ b,decide (p < 0)=b:=⟨_,rfl⟩
     have HBB:=qH hb
     clear hb
     have R4:=qH ((HBR.out.block _ (qL RX.out)).trans RX.out)
     have LX0:=qH (fun (Y:World) (hx:Og.Std wr Y)=>run_loadVar_row (P:=Tryz.prog) Y xb 26 26 #[.slice x.ae x.ev.length x.ce,.slice x.fr.a x.fr.l.length x.fr.c,.slice x.ao x.od.length x.co] (0,0) _ ((hx.block xb (qL R4.out)).trans R4.out) Tryz.underlying26 rfl (by kernel_rfl))
     refine Og.held_take 6 ({ dst:=some 28,op:=Go.Op.binOp Go.BinOp.lss 3 (Go.Operand.tmp 27) (Go.Operand.const (Go.Value.int Go.IntKind.i64 0)) 3,type:=4,pos:= "ref.go:392",after:=#[{ on:=5,ground:=Go.Ground.data }],guard:=none }) (.bool b) _ rfl rfl (by kernel_rfl) (by kernel_rfl) (by kernel_rfl) (fun _ _ _ h=>h) S0 (fun y hx=>?_) (by simp only [Act.put,qa,qb,qc];rfl) ?_
     ·rw [← HBB.out];go_simp;try (with_reducible rfl)
     refine Og.held_take 7 ({ dst:=some 29,op:=Go.Op.move (Go.Operand.tmp 28),type:=4,pos:= "ref.go:392",after:=#[{ on:=6,ground:=Go.Ground.data },{ on:=5,ground:=Go.Ground.chain }],guard:=none }) (.bool b) _ rfl rfl (by kernel_rfl) (by kernel_rfl) (by kernel_rfl) (fun _ _ _ h=>h) S0 (fun y hx=>?_) (by simp only [Act.put,qa,qb,qc];rfl) ?_
     ·go_simp;try (with_reducible rfl)
     cases b
     case true =>
      have HNI:=qH (HIN.out.1 (of_decide_eq_true HBB.out))
      obtain⟨v,hv⟩:∃ v,Md.someGo (Md.rightB x) L f (o++[m])=v:=⟨_,rfl⟩
      have HVV:=qH hv
      have HST:=qH (show Md.someSt x L f o k=v by unfold Md.someSt;rw [HGD.out,hv];simp [HNI.out])
      clear hv
      refine Og.held_takeG 8 ({ dst:=some 30,op:=Go.Op.load 26 (Go.Operand.tmp 3),type:=26,pos:= "ref.go:392",after:=#[{ on:=7,ground:=Go.Ground.guard }],guard:=some (7,true) }) (.agg #[.slice x.ae x.ev.length x.ce,.slice x.fr.a x.fr.l.length x.fr.c,.slice x.ao x.od.length x.co]) _ rfl (by kernel_rfl) (by kernel_rfl) (by kernel_rfl) (by kernel_rfl) (fun _ _ _ h=>h) S0 (fun y hx=>?_) (by simp only [Act.put,qa,qb,qc];rfl) ?_
      ·exact Og.load_run 26 (.tmp 3) rfl ⟨xb,0,none⟩ (by kernel_rfl) (LX0.out _ hx)
      refine Og.held_takeG 9 ({ dst:=some 31,op:=Go.Op.move (Go.Operand.tmp 1),type:=23,pos:= "ref.go:392",after:=#[{ on:=7,ground:=Go.Ground.guard }],guard:=some (7,true) }) (.slice A o.length c) _ rfl (by kernel_rfl) (by kernel_rfl) (by kernel_rfl) (by kernel_rfl) (fun _ _ _ h=>h) S0 (fun y hx=>?_) (by simp only [Act.put,qa,qb,qc];rfl) ?_
      ·go_simp;try (with_reducible rfl)
      refine Og.held_takeG 11 ({ dst:=some 33,op:=Go.Op.move (Go.Operand.tmp 2),type:=23,pos:= "ref.go:392",after:=#[{ on:=7,ground:=Go.Ground.guard }],guard:=some (7,true) }) (.slice (some ⟨gd,od,none⟩) L.length d) _ rfl (by kernel_rfl) (by kernel_rfl) (by kernel_rfl) (by kernel_rfl) (fun _ _ _ h=>h) S0 (fun y hx=>?_) (by simp only [Act.put,qa,qb,qc];rfl) ?_
      ·go_simp;try (with_reducible rfl)
      refine Og.held_takeG 12 ({ dst:=some 34,op:=Go.Op.move (Go.Operand.tmp 7),type:=3,pos:= "ref.go:392",after:=#[{ on:=7,ground:=Go.Ground.guard }],guard:=some (7,true) }) (.int .i64 (k:Int)) _ rfl (by kernel_rfl) (by kernel_rfl) (by kernel_rfl) (by kernel_rfl) (fun _ _ _ h=>h) S0 (fun y hx=>?_) (by simp only [Act.put,qa,qb,qc];rfl) ?_
      ·go_simp;try (with_reducible rfl)
      refine Og.held_takeG 13 ({ dst:=some 35,op:=Go.Op.indexAddr 23 (Go.Operand.tmp 33) (Go.Operand.tmp 34),type:=0,pos:= "ref.go:392",after:=#[{ on:=11,ground:=Go.Ground.data },{ on:=12,ground:=Go.Ground.data },{ on:=7,ground:=Go.Ground.guard }],guard:=some (7,true) }) (.pointer (some ⟨gd,od+k,none⟩)) _ rfl (by kernel_rfl) (by kernel_rfl) (by kernel_rfl) (by kernel_rfl) (fun _ _ _ h=>h) S0 (fun y hx=>?_) (by simp only [Act.put,qa,qb,qc];rfl) ?_
      ·go_simp;try (with_reducible rfl)
      refine Og.held_takeG 14 ({ dst:=some 36,op:=Go.Op.load 3 (Go.Operand.tmp 35),type:=3,pos:= "ref.go:392",after:=#[{ on:=13,ground:=Go.Ground.data },{ on:=7,ground:=Go.Ground.guard }],guard:=some (7,true) }) (.int .i64 (m:Int)) _ rfl (by kernel_rfl) (by kernel_rfl) (by kernel_rfl) (by kernel_rfl) (fun _ _ _ h=>h) S0 (fun y hx=>?_) (by simp only [Act.put,qa,qb,qc];rfl) ?_
      ·exact Og.load_run 3 (.tmp 35) rfl ⟨gd,od+k,none⟩ (by kernel_rfl) (LD0.out _ hx)
      refine Og.held_takeG 17 ({ dst:=some 39,op:=Go.Op.move (Go.Operand.tmp 2),type:=23,pos:= "ref.go:392",after:=#[{ on:=7,ground:=Go.Ground.guard }],guard:=some (7,true) }) (.slice (some ⟨gd,od,none⟩) L.length d) _ rfl (by kernel_rfl) (by kernel_rfl) (by kernel_rfl) (by kernel_rfl) (fun _ _ _ h=>h) S0 (fun y hx=>?_) (by simp only [Act.put,qa,qb,qc];rfl) ?_
      ·go_simp;try (with_reducible rfl)
      have HLO:=qH (show o.length < 1000 by have:=HLE.out;have:=HLN.out;omega)
      refine Og.held_two 10 15 (by kernel_rfl) ?_ ?_
      ·refine(Og.op_of_list 10 ({ dst:=some 32,op:=Go.Op.call { callee:=Go.Callee.builtin Go.Builtin.append,args:=#[Go.Operand.const (Go.Value.slice none 0 0),Go.Operand.tmp 31],argTypes:=#[23,23] },type:=23,pos:= "ref.go:392",after:=#[{ on:=9,ground:=Go.Ground.data },{ on:=7,ground:=Go.Ground.chain },{ on:=7,ground:=Go.Ground.guard }],guard:=some (7,true) }) rfl (Md.unguard (by kernel_rfl) ?_))
       refine Md.copyInts rfl (.const (.slice none 0 0)) (.tmp 31) rfl wr.heap.size (by kernel_rfl) A c o (by kernel_rfl) (HS.out.kp (Ev.kp_below (HBR.out.trans (Below.mono S0 HBR.out.size)))) (by have:=HLO.out;omega) S0.size ?_
       intro a1 c1 W1 hrow1 hg1
       have T1:Og.Std wr W1:=Below.grown S0 hg1 S0.size (fun k hk=>by cases hk)
       have HROW1:=qH hrow1
       clear hrow1 hg1
       try simp only [Act.put,qa,qb,qc]
       go_wp2_with fail
       refine⟨T1,?_⟩
       refine Og.held_one 15 (by kernel_rfl) (Og.op_of_list 15 ({ dst:=some 37,op:=Go.Op.buildSlice 23 1 #[(0,Go.Operand.tmp 36)],type:=23,pos:= "ref.go:392",after:=#[{ on:=14,ground:=Go.Ground.data },{ on:=7,ground:=Go.Ground.guard }],guard:=some (7,true) }) rfl (Md.unguard (by kernel_rfl) ?_))
       go_wp2_with fail
       refine⟨T1.alloc T1.size _,?_⟩
       have HR2:=qH ((show W1.ownsRow wr.heap.size 3 1 (.slice a1 o.length c1) o.length _ from HROW1.out).alloc (.cells #[.int .i64 (m:Int)] 3))
       have HNEW:=qH (World.news_of_block (heap_alloc_new W1 (.cells #[.int .i64 (m:Int)] 3)))
       obtain⟨U,hU⟩:∃ U,U=W1.alloc (.cells #[.int .i64 (m:Int)] 3):=⟨_,rfl⟩
       have T2:Og.Std wr U:=by rw [hU];exact T1.alloc T1.size _
       rw [← hU] at HR2 HNEW ⊢
       obtain⟨nb,hnb⟩:∃ n,n=W1.heap.size:=⟨_,rfl⟩
       rw [← hnb] at HNEW ⊢
       clear hU hnb T1 HROW1
       obtain⟨i0,hi0,hz0,hz1,hz2⟩:=info_int
       refine Og.held_one 16 (by kernel_rfl) (Og.op_of_list 16 ({ dst:=some 38,op:=Go.Op.call { callee:=Go.Callee.builtin Go.Builtin.append,args:=#[Go.Operand.tmp 32,Go.Operand.tmp 37],argTypes:=#[23,23] },type:=23,pos:= "ref.go:392",after:=#[{ on:=10,ground:=Go.Ground.data },{ on:=15,ground:=Go.Ground.data },{ on:=10,ground:=Go.Ground.chain },{ on:=7,ground:=Go.Ground.guard }],guard:=some (7,true) }) rfl (Md.unguard (by kernel_rfl) ?_))
       refine wpList_append_own _ rfl (.tmp 32) (.tmp 37) 23 rfl wr.heap.size 3 i0 (.int .i64 0) 1 8 Tryz.underlying23 hi0 hz0 hz1 hz2 rfl (by decide) (.slice a1 o.length c1) o.length _ (by kernel_rfl) HR2.out ⟨nb,0,none⟩ 1 1 [.int .i64 (m:Int)] (by kernel_rfl) rfl (fun j u hu=>HNEW.out j u hu) (Md.one_int m) (by have:=HLO.out;unfold maxLen;omega) (by have:=HLO.out;omega) T2.size ?_
       intro v4 W3 hrow4 hg4 _
       have T3:Og.Std wr W3:=Below.grown T2 hg4 T2.size (fun k hk=>Ev.own_ge HR2.out hk)
       have HIX:=qH (show W3.heap.size ≥ wr.heap.size from T3.size)
       obtain⟨a4,c4,ev4⟩:∃ a4 c4,v4=.slice a4 (o++[m]).length c4:=by
        rcases hrow4.2 with ⟨e1,e2⟩ | ⟨g,cap,cur,e1,_⟩
        ·omega
        ·exact⟨_,_,by rw [e1,List.length_append];rfl⟩
       have hrow4:Md.IntRow W3 wr.heap.size v4 (o++[m]):=by
        unfold Md.IntRow Md.cI at hrow4 ⊢
        simpa using hrow4
       subst ev4
       have KI:=qH ((HIH.out (o++[m]) a4 (some ⟨gd,od,none⟩) c4 d W3 (by have:=HLE.out;rw [List.length_append];simp;omega) (Md.mem_snoc HO.out HMX.out) (HX.out.kp (Ev.kp_below (HBR.out.trans (Below.mono T3 HBR.out.size)))) (Md.IntRow.ints hrow4 (fun q hq=>by have:=HXL.out;have:=Md.mem_snoc HO.out HMX.out q hq;omega)) (HT.out.kp (Ev.kp_below (HBR.out.trans (Below.mono T3 HBR.out.size))))))
       rw [HVV.out] at KI
       obtain⟨o2,ho2⟩:∃ l,l=o++[m]:=⟨_,rfl⟩
       rw [← ho2] at KI ⊢
       clear ho2
       clear hrow4 hg4 hi0 hz0 hz1 hz2 HR2 HNEW T2 HIX
       try simp only [Act.put,qa,qb,qc]
       go_wp2_with fail
       refine⟨T3,?_⟩
       refine Og.held_one 18 (by kernel_rfl) (Og.op_of_list 18 ({ dst:=some 40,op:=Go.Op.call { callee:=Go.Callee.value (Go.Operand.func 36),args:=#[Go.Operand.tmp 30,Go.Operand.tmp 38,Go.Operand.tmp 39],argTypes:=#[26,23,23] },type:=4,pos:= "ref.go:392",after:=#[{ on:=8,ground:=Go.Ground.data },{ on:=16,ground:=Go.Ground.data },{ on:=17,ground:=Go.Ground.data },{ on:=16,ground:=Go.Ground.chain },{ on:=7,ground:=Go.Ground.guard }],guard:=some (7,true) }) rfl (Md.unguard (by kernel_rfl) ?_))
       go_wp2_with (go_at_call 36;refine KI.out.mono ?_;rintro e W5 ⟨rfl,hb⟩;have T5:Og.Std wr W5:=Below.trans T3 (hb.mono T3.size);clear hb)
       refine⟨T5,?_⟩
       refine Og.held_take 19 ({ dst:=some 41,op:=Go.Op.pick (Go.Operand.tmp 29) (Go.Operand.tmp 40) (Go.Operand.const (Go.Value.bool false)),type:=4,pos:= "ref.go:392",after:=#[{ on:=7,ground:=Go.Ground.data },{ on:=18,ground:=Go.Ground.data }],guard:=none }) (.bool v) _ rfl rfl (by kernel_rfl) (by kernel_rfl) (by kernel_rfl) (fun _ _ _ h=>h) T5 (fun y hx=>?_) (by simp only [Act.put,qa,qb,qc];rfl) ?_
       ·go_simp;try (with_reducible rfl)
       refine wpAnyH_done (by kernel_rfl) ?_ _
       have T6:=qH (HBR.out.trans (Below.mono T5 HBR.out.size))
       clear KI T3 T5
       cases v
       ·go_wp2_with fail
        have HNX:=qH (Md.some_more HALL.out HST.out)
        first
         | exact⟨⟨k+1,by omega,by go_num,HNX.out,T6.out⟩,by simp [intOf];omega⟩
         | (go_roundw
            case rel=>exact⟨k+1,by omega,by go_num,HNX.out,T6.out⟩
            case measure=>simp [intOf];omega)
       ·go_wp2_with fail
        go_ret
        exact⟨by rw [Md.some_yes hlt HST.out];rfl,B0.out.trans (T6.out.mono B0.out.size)⟩
      ·refine(Og.op_of_list 15 ({ dst:=some 37,op:=Go.Op.buildSlice 23 1 #[(0,Go.Operand.tmp 36)],type:=23,pos:= "ref.go:392",after:=#[{ on:=14,ground:=Go.Ground.data },{ on:=7,ground:=Go.Ground.guard }],guard:=some (7,true) }) rfl (Md.unguard (by kernel_rfl) ?_))
       go_wp2_with fail
       refine⟨S0.alloc S0.size _,?_⟩
       have hnw:=World.news_of_block (heap_alloc_new V (.cells #[.int .i64 (m:Int)] 3))
       obtain⟨U,hU⟩:∃ U,U=V.alloc (.cells #[.int .i64 (m:Int)] 3):=⟨_,rfl⟩
       have TU:Og.Std wr U:=by rw [hU];exact S0.alloc S0.size _
       rw [← hU] at hnw ⊢
       obtain⟨nb,hnb⟩:∃ n,n=V.heap.size:=⟨_,rfl⟩
       rw [← hnb] at hnw ⊢
       have HNW:=qH hnw
       clear hU hnb hnw
       refine Og.held_one 10 (by kernel_rfl) (Og.op_of_list 10 ({ dst:=some 32,op:=Go.Op.call { callee:=Go.Callee.builtin Go.Builtin.append,args:=#[Go.Operand.const (Go.Value.slice none 0 0),Go.Operand.tmp 31],argTypes:=#[23,23] },type:=23,pos:= "ref.go:392",after:=#[{ on:=9,ground:=Go.Ground.data },{ on:=7,ground:=Go.Ground.chain },{ on:=7,ground:=Go.Ground.guard }],guard:=some (7,true) }) rfl (Md.unguard (by kernel_rfl) ?_))
       refine Md.copyInts rfl (.const (.slice none 0 0)) (.tmp 31) rfl wr.heap.size (by kernel_rfl) A c o (by kernel_rfl) (HS.out.kp (Ev.kp_below (HBR.out.trans (Below.mono TU HBR.out.size)))) (by have:=HLO.out;omega) TU.size ?_
       intro a1 c1 W1 hrow1 hg1
       have T2:Og.Std wr W1:=Below.grown TU hg1 TU.size (fun k hk=>by cases hk)
       have HROW1:=qH hrow1
       have HR2:=qH hrow1
       have HNEW:=qH (fun (j:Nat) (u:Value) (hu:[Value.int .i64 (m:Int)][j]?=some u)=>Ev.kp_below (Below.grown (Below.refl U.heap.size U) hg1 (Nat.le_refl _) (fun k hk=>by cases hk)) _ _ (HNW.out j u hu))
       clear hrow1 hg1 HROW1 TU HNW
       try simp only [Act.put,qa,qb,qc]
       go_wp2_with fail
       refine⟨T2,?_⟩
       obtain⟨i0,hi0,hz0,hz1,hz2⟩:=info_int
       refine Og.held_one 16 (by kernel_rfl) (Og.op_of_list 16 ({ dst:=some 38,op:=Go.Op.call { callee:=Go.Callee.builtin Go.Builtin.append,args:=#[Go.Operand.tmp 32,Go.Operand.tmp 37],argTypes:=#[23,23] },type:=23,pos:= "ref.go:392",after:=#[{ on:=10,ground:=Go.Ground.data },{ on:=15,ground:=Go.Ground.data },{ on:=10,ground:=Go.Ground.chain },{ on:=7,ground:=Go.Ground.guard }],guard:=some (7,true) }) rfl (Md.unguard (by kernel_rfl) ?_))
       refine wpList_append_own _ rfl (.tmp 32) (.tmp 37) 23 rfl wr.heap.size 3 i0 (.int .i64 0) 1 8 Tryz.underlying23 hi0 hz0 hz1 hz2 rfl (by decide) (.slice a1 o.length c1) o.length _ (by kernel_rfl) HR2.out ⟨nb,0,none⟩ 1 1 [.int .i64 (m:Int)] (by kernel_rfl) rfl (fun j u hu=>HNEW.out j u hu) (Md.one_int m) (by have:=HLO.out;unfold maxLen;omega) (by have:=HLO.out;omega) T2.size ?_
       intro v4 W3 hrow4 hg4 _
       have T3:Og.Std wr W3:=Below.grown T2 hg4 T2.size (fun k hk=>Ev.own_ge HR2.out hk)
       have HIX:=qH (show W3.heap.size ≥ wr.heap.size from T3.size)
       obtain⟨a4,c4,ev4⟩:∃ a4 c4,v4=.slice a4 (o++[m]).length c4:=by
        rcases hrow4.2 with ⟨e1,e2⟩ | ⟨g,cap,cur,e1,_⟩
        ·omega
        ·exact⟨_,_,by rw [e1,List.length_append];rfl⟩
       have hrow4:Md.IntRow W3 wr.heap.size v4 (o++[m]):=by
        unfold Md.IntRow Md.cI at hrow4 ⊢
        simpa using hrow4
       subst ev4
       have KI:=qH ((HIH.out (o++[m]) a4 (some ⟨gd,od,none⟩) c4 d W3 (by have:=HLE.out;rw [List.length_append];simp;omega) (Md.mem_snoc HO.out HMX.out) (HX.out.kp (Ev.kp_below (HBR.out.trans (Below.mono T3 HBR.out.size)))) (Md.IntRow.ints hrow4 (fun q hq=>by have:=HXL.out;have:=Md.mem_snoc HO.out HMX.out q hq;omega)) (HT.out.kp (Ev.kp_below (HBR.out.trans (Below.mono T3 HBR.out.size))))))
       rw [HVV.out] at KI
       obtain⟨o2,ho2⟩:∃ l,l=o++[m]:=⟨_,rfl⟩
       rw [← ho2] at KI ⊢
       clear ho2
       clear hrow4 hg4 hi0 hz0 hz1 hz2 HR2 HNEW T2 HIX
       try simp only [Act.put,qa,qb,qc]
       go_wp2_with fail
       refine⟨T3,?_⟩
       refine Og.held_one 18 (by kernel_rfl) (Og.op_of_list 18 ({ dst:=some 40,op:=Go.Op.call { callee:=Go.Callee.value (Go.Operand.func 36),args:=#[Go.Operand.tmp 30,Go.Operand.tmp 38,Go.Operand.tmp 39],argTypes:=#[26,23,23] },type:=4,pos:= "ref.go:392",after:=#[{ on:=8,ground:=Go.Ground.data },{ on:=16,ground:=Go.Ground.data },{ on:=17,ground:=Go.Ground.data },{ on:=16,ground:=Go.Ground.chain },{ on:=7,ground:=Go.Ground.guard }],guard:=some (7,true) }) rfl (Md.unguard (by kernel_rfl) ?_))
       go_wp2_with (go_at_call 36;refine KI.out.mono ?_;rintro e W5 ⟨rfl,hb⟩;have T5:Og.Std wr W5:=Below.trans T3 (hb.mono T3.size);clear hb)
       refine⟨T5,?_⟩
       refine Og.held_take 19 ({ dst:=some 41,op:=Go.Op.pick (Go.Operand.tmp 29) (Go.Operand.tmp 40) (Go.Operand.const (Go.Value.bool false)),type:=4,pos:= "ref.go:392",after:=#[{ on:=7,ground:=Go.Ground.data },{ on:=18,ground:=Go.Ground.data }],guard:=none }) (.bool v) _ rfl rfl (by kernel_rfl) (by kernel_rfl) (by kernel_rfl) (fun _ _ _ h=>h) T5 (fun y hx=>?_) (by simp only [Act.put,qa,qb,qc];rfl) ?_
       ·go_simp;try (with_reducible rfl)
       refine wpAnyH_done (by kernel_rfl) ?_ _
       have T6:=qH (HBR.out.trans (Below.mono T5 HBR.out.size))
       clear KI T3 T5
       cases v
       ·go_wp2_with fail
        have HNX:=qH (Md.some_more HALL.out HST.out)
        first
         | exact⟨⟨k+1,by omega,by go_num,HNX.out,T6.out⟩,by simp [intOf];omega⟩
         | (go_roundw
            case rel=>exact⟨k+1,by omega,by go_num,HNX.out,T6.out⟩
            case measure=>simp [intOf];omega)
       ·go_wp2_with fail
        go_ret
        exact⟨by rw [Md.some_yes hlt HST.out];rfl,B0.out.trans (T6.out.mono B0.out.size)⟩
     case false =>
      have HNI:=qH (show Md.someSt x L f o k=false from by
       have h:=HIN.out
       have hn:¬ p < 0:=of_decide_eq_false HBB.out
       have hm:m ∈ o:=Classical.not_not.1 (fun h2=>hn (h.2 h2))
       unfold Md.someSt;rw [HGD.out];simp [hm])
      refine Og.held_skip 8 ({ dst:=some 30,op:=Go.Op.load 26 (Go.Operand.tmp 3),type:=26,pos:= "ref.go:392",after:=#[{ on:=7,ground:=Go.Ground.guard }],guard:=some (7,true) }) _ rfl (by kernel_rfl) (by kernel_rfl) (by kernel_rfl) (by kernel_rfl) (fun _ _ _ h=>h) S0 (by simp only [Act.put,qa,qb,qc];rfl) ?_
      refine Og.held_skip 9 ({ dst:=some 31,op:=Go.Op.move (Go.Operand.tmp 1),type:=23,pos:= "ref.go:392",after:=#[{ on:=7,ground:=Go.Ground.guard }],guard:=some (7,true) }) _ rfl (by kernel_rfl) (by kernel_rfl) (by kernel_rfl) (by kernel_rfl) (fun _ _ _ h=>h) S0 (by simp only [Act.put,qa,qb,qc];rfl) ?_
      refine Og.held_skip 11 ({ dst:=some 33,op:=Go.Op.move (Go.Operand.tmp 2),type:=23,pos:= "ref.go:392",after:=#[{ on:=7,ground:=Go.Ground.guard }],guard:=some (7,true) }) _ rfl (by kernel_rfl) (by kernel_rfl) (by kernel_rfl) (by kernel_rfl) (fun _ _ _ h=>h) S0 (by simp only [Act.put,qa,qb,qc];rfl) ?_
      refine Og.held_skip 12 ({ dst:=some 34,op:=Go.Op.move (Go.Operand.tmp 7),type:=3,pos:= "ref.go:392",after:=#[{ on:=7,ground:=Go.Ground.guard }],guard:=some (7,true) }) _ rfl (by kernel_rfl) (by kernel_rfl) (by kernel_rfl) (by kernel_rfl) (fun _ _ _ h=>h) S0 (by simp only [Act.put,qa,qb,qc];rfl) ?_
      refine Og.held_skip 13 ({ dst:=some 35,op:=Go.Op.indexAddr 23 (Go.Operand.tmp 33) (Go.Operand.tmp 34),type:=0,pos:= "ref.go:392",after:=#[{ on:=11,ground:=Go.Ground.data },{ on:=12,ground:=Go.Ground.data },{ on:=7,ground:=Go.Ground.guard }],guard:=some (7,true) }) _ rfl (by kernel_rfl) (by kernel_rfl) (by kernel_rfl) (by kernel_rfl) (fun _ _ _ h=>h) S0 (by simp only [Act.put,qa,qb,qc];rfl) ?_
      refine Og.held_skip 14 ({ dst:=some 36,op:=Go.Op.load 3 (Go.Operand.tmp 35),type:=3,pos:= "ref.go:392",after:=#[{ on:=13,ground:=Go.Ground.data },{ on:=7,ground:=Go.Ground.guard }],guard:=some (7,true) }) _ rfl (by kernel_rfl) (by kernel_rfl) (by kernel_rfl) (by kernel_rfl) (fun _ _ _ h=>h) S0 (by simp only [Act.put,qa,qb,qc];rfl) ?_
      refine Og.held_skip 17 ({ dst:=some 39,op:=Go.Op.move (Go.Operand.tmp 2),type:=23,pos:= "ref.go:392",after:=#[{ on:=7,ground:=Go.Ground.guard }],guard:=some (7,true) }) _ rfl (by kernel_rfl) (by kernel_rfl) (by kernel_rfl) (by kernel_rfl) (fun _ _ _ h=>h) S0 (by simp only [Act.put,qa,qb,qc];rfl) ?_
      refine Og.held_two 10 15 (by kernel_rfl) ?_ ?_
      ·refine(Og.op_skip 10 ({ dst:=some 32,op:=Go.Op.call { callee:=Go.Callee.builtin Go.Builtin.append,args:=#[Go.Operand.const (Go.Value.slice none 0 0),Go.Operand.tmp 31],argTypes:=#[23,23] },type:=23,pos:= "ref.go:392",after:=#[{ on:=9,ground:=Go.Ground.data },{ on:=7,ground:=Go.Ground.chain },{ on:=7,ground:=Go.Ground.guard }],guard:=some (7,true) }) _ rfl (by kernel_rfl) (by simp only [Act.put,qa,qb,qc];rfl) ⟨S0,?_⟩)
       refine Og.held_one 15 (by kernel_rfl) (Og.op_skip 15 ({ dst:=some 37,op:=Go.Op.buildSlice 23 1 #[(0,Go.Operand.tmp 36)],type:=23,pos:= "ref.go:392",after:=#[{ on:=14,ground:=Go.Ground.data },{ on:=7,ground:=Go.Ground.guard }],guard:=some (7,true) }) _ rfl (by kernel_rfl) (by simp only [Act.put,qa,qb,qc];rfl) ⟨S0,?_⟩)
       refine Og.held_one 16 (by kernel_rfl) (Og.op_skip 16 ({ dst:=some 38,op:=Go.Op.call { callee:=Go.Callee.builtin Go.Builtin.append,args:=#[Go.Operand.tmp 32,Go.Operand.tmp 37],argTypes:=#[23,23] },type:=23,pos:= "ref.go:392",after:=#[{ on:=10,ground:=Go.Ground.data },{ on:=15,ground:=Go.Ground.data },{ on:=10,ground:=Go.Ground.chain },{ on:=7,ground:=Go.Ground.guard }],guard:=some (7,true) }) _ rfl (by kernel_rfl) (by simp only [Act.put,qa,qb,qc];rfl) ⟨S0,?_⟩)
       refine Og.held_one 18 (by kernel_rfl) (Og.op_skip 18 ({ dst:=some 40,op:=Go.Op.call { callee:=Go.Callee.value (Go.Operand.func 36),args:=#[Go.Operand.tmp 30,Go.Operand.tmp 38,Go.Operand.tmp 39],argTypes:=#[26,23,23] },type:=4,pos:= "ref.go:392",after:=#[{ on:=8,ground:=Go.Ground.data },{ on:=16,ground:=Go.Ground.data },{ on:=17,ground:=Go.Ground.data },{ on:=16,ground:=Go.Ground.chain },{ on:=7,ground:=Go.Ground.guard }],guard:=some (7,true) }) _ rfl (by kernel_rfl) (by simp only [Act.put,qa,qb,qc];rfl) ⟨S0,?_⟩)
       refine Og.held_take 19 ({ dst:=some 41,op:=Go.Op.pick (Go.Operand.tmp 29) (Go.Operand.tmp 40) (Go.Operand.const (Go.Value.bool false)),type:=4,pos:= "ref.go:392",after:=#[{ on:=7,ground:=Go.Ground.data },{ on:=18,ground:=Go.Ground.data }],guard:=none }) (.bool false) _ rfl rfl (by kernel_rfl) (by kernel_rfl) (by kernel_rfl) (fun _ _ _ h=>h) S0 (fun y hx=>?_) (by simp only [Act.put,qa,qb,qc];rfl) ?_
       ·go_simp;try (with_reducible rfl)
       refine wpAnyH_done (by kernel_rfl) ?_ _
       have T6:=qH (HBR.out.trans (Below.mono S0 HBR.out.size))
       have HST:=qH HNI.out
       clear S0
       go_wp2_with fail
       have HNX:=qH (Md.some_more HALL.out HST.out)
       first
        | exact⟨⟨k+1,by omega,by go_num,HNX.out,T6.out⟩,by simp [intOf];omega⟩
        | (go_roundw
           case rel=>exact⟨k+1,by omega,by go_num,HNX.out,T6.out⟩
           case measure=>simp [intOf];omega)
      ·refine(Og.op_skip 15 ({ dst:=some 37,op:=Go.Op.buildSlice 23 1 #[(0,Go.Operand.tmp 36)],type:=23,pos:= "ref.go:392",after:=#[{ on:=14,ground:=Go.Ground.data },{ on:=7,ground:=Go.Ground.guard }],guard:=some (7,true) }) _ rfl (by kernel_rfl) (by simp only [Act.put,qa,qb,qc];rfl) ⟨S0,?_⟩)
       refine Og.held_one 10 (by kernel_rfl) (Og.op_skip 10 ({ dst:=some 32,op:=Go.Op.call { callee:=Go.Callee.builtin Go.Builtin.append,args:=#[Go.Operand.const (Go.Value.slice none 0 0),Go.Operand.tmp 31],argTypes:=#[23,23] },type:=23,pos:= "ref.go:392",after:=#[{ on:=9,ground:=Go.Ground.data },{ on:=7,ground:=Go.Ground.chain },{ on:=7,ground:=Go.Ground.guard }],guard:=some (7,true) }) _ rfl (by kernel_rfl) (by simp only [Act.put,qa,qb,qc];rfl) ⟨S0,?_⟩)
       refine Og.held_one 16 (by kernel_rfl) (Og.op_skip 16 ({ dst:=some 38,op:=Go.Op.call { callee:=Go.Callee.builtin Go.Builtin.append,args:=#[Go.Operand.tmp 32,Go.Operand.tmp 37],argTypes:=#[23,23] },type:=23,pos:= "ref.go:392",after:=#[{ on:=10,ground:=Go.Ground.data },{ on:=15,ground:=Go.Ground.data },{ on:=10,ground:=Go.Ground.chain },{ on:=7,ground:=Go.Ground.guard }],guard:=some (7,true) }) _ rfl (by kernel_rfl) (by simp only [Act.put,qa,qb,qc];rfl) ⟨S0,?_⟩)
       refine Og.held_one 18 (by kernel_rfl) (Og.op_skip 18 ({ dst:=some 40,op:=Go.Op.call { callee:=Go.Callee.value (Go.Operand.func 36),args:=#[Go.Operand.tmp 30,Go.Operand.tmp 38,Go.Operand.tmp 39],argTypes:=#[26,23,23] },type:=4,pos:= "ref.go:392",after:=#[{ on:=8,ground:=Go.Ground.data },{ on:=16,ground:=Go.Ground.data },{ on:=17,ground:=Go.Ground.data },{ on:=16,ground:=Go.Ground.chain },{ on:=7,ground:=Go.Ground.guard }],guard:=some (7,true) }) _ rfl (by kernel_rfl) (by simp only [Act.put,qa,qb,qc];rfl) ⟨S0,?_⟩)
       refine Og.held_take 19 ({ dst:=some 41,op:=Go.Op.pick (Go.Operand.tmp 29) (Go.Operand.tmp 40) (Go.Operand.const (Go.Value.bool false)),type:=4,pos:= "ref.go:392",after:=#[{ on:=7,ground:=Go.Ground.data },{ on:=18,ground:=Go.Ground.data }],guard:=none }) (.bool false) _ rfl rfl (by kernel_rfl) (by kernel_rfl) (by kernel_rfl) (fun _ _ _ h=>h) S0 (fun y hx=>?_) (by simp only [Act.put,qa,qb,qc];rfl) ?_
       ·go_simp;try (with_reducible rfl)
       refine wpAnyH_done (by kernel_rfl) ?_ _
       have T6:=qH (HBR.out.trans (Below.mono S0 HBR.out.size))
       have HST:=qH HNI.out
       clear S0
       go_wp2_with fail
       have HNX:=qH (Md.some_more HALL.out HST.out)
       first
        | exact⟨⟨k+1,by omega,by go_num,HNX.out,T6.out⟩,by simp [intOf];omega⟩
        | (go_roundw
           case rel=>exact⟨k+1,by omega,by go_num,HNX.out,T6.out⟩
           case measure=>simp [intOf];omega)
    ·have hke:k=L.length:=by omega
     have hki:¬ (k:Int) < (L.length:Int):=by omega
     have HN:=qH (show Md.someGo (Md.rightB x) L (f+1) o=false from Md.some_no fun j hj=>HALL.out j (by omega))
     go_wp2
     go_ret
     exact⟨by rw [HN.out];rfl,B0.out.trans (HBR.out.mono B0.out.size)⟩
end Go.Proofs.YtnjnpbabgefaeaaGreat
end
