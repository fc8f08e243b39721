import Derived.Test.YtnjnpbabgefaeaaGreatKp19
import Derived.Test.YtnjnpbabgefaeaaGreatKp06
import Derived.Maps.GroupsBeside
import Derived.Maps.RangeWalk
import Derived.Test.YtnjnpbabgefaeaaGreatKp18
import Derived.Maps.AppendAt
import Derived.RangeFuncBox
import Derived.Test.YtnjnpbabgefaeaaGreatKpH
set_option maxRecDepth 100000
set_option maxHeartbeats 4000000
set_option linter.unusedVariables false
set_option linter.unusedSimpArgs false
section
namespace Go.Proofs.YtnjnpbabgefaeaaGreat
open Go.RowKit Go.Maps
namespace Ev
def pz (p:Int × Int):List Value:=[.int .i64 p.1,.int .i64 p.2]
structure PsIn (w:World) (a:Option Addr) (c:Nat) (ps:List (Int × Int)):Prop where
 rows:RowsIn w a 2 (ps.map pz)
 ok:∀ p ∈ ps,i64B p.1∧i64B p.2
 le:ps.length≤c
 max:c≤9223372036854775807
theorem PsIn.kp {w w':World} {a c ps} (h:PsIn w a c ps) (k:Kp w w'):PsIn w' a c ps:=⟨h.rows.kp k,h.ok,h.le,h.max⟩
theorem PsIn.at_ {w:World} {a c ps} (h:PsIn w a c ps) {k:Nat} {p:Int × Int} (hk:ps[k]?=some p) :
 ∃ g o,a=some ⟨g,o,none⟩∧(∀ i c,(pz p)[i]?=some c→w.cell? ⟨g,o+k * 2+i,none⟩=some c):=by
 have hl:=(List.getElem?_eq_some_iff.1 hk).1
 obtain⟨g,o,e,hc⟩:=h.rows (by simp;omega)
 exact⟨g,o,e,fun i c hi=>hc k (pz p) (by rw [List.getElem?_map,hk];rfl) i c hi⟩
def inRB (n:Int) (ps:List (Int × Int)):Bool:=decide (0≤n)&&decide (n≤64)&&ps.all fun p=>inB p.1 n&&inB p.2 n
theorem inRB_iff {n:Int} {ps:List (Int × Int)}:inRB n ps=true↔InR n ps:=by
 unfold inRB InR inB
 simp only [Bool.and_eq_true,decide_eq_true_eq,List.all_eq_true]
 constructor
 ·rintro⟨⟨h1,h2⟩,h3⟩;exact⟨h1,h2,fun p hp=>by have:=h3 p hp;exact⟨this.1.1,this.1.2,this.2.1,this.2.2⟩⟩
 ·rintro⟨h1,h2,h3⟩;exact⟨⟨h1,h2⟩,fun p hp=>by have:=h3 p hp;exact⟨⟨this.1,this.2.1⟩,this.2.2.1,this.2.2.2⟩⟩
def AcyR (n:Int) (ps:List (Int × Int)) (b:Bool):Prop:=(b=false∧¬ InR n ps)∨(b=false∧InR n ps∧Cyc ps)∨(b=true∧InR n ps∧∃ l,Topo ps l∧∀ x,0≤x→x < n→x ∈ l)
theorem groups_below {w w':World} {base b n:Nat} {ps:List (Int × Int)} (h:GroupsAre w base b n ps) (hb:Below w.heap.size w w'):GroupsAre w' base b n ps:=by
 obtain⟨D,ho,hD⟩:=h.ex
 exact⟨⟨D,ho.kept (World.grownBy.but_of hb) (by simp) (fun _ _ _ x _=>by by_cases h:x.val.ownBlock=none;exact .inl h;exact .inr h),hD⟩⟩
def Sw (wq:World) (g7:Nat) (A B:Int) (i:Nat) (x:World):Prop:=(i=6→Below wq.heap.size wq x)∧(x.cell? ⟨g7,0,none⟩=some (.int .i64 A)∧x.cell? ⟨g7,1,none⟩=some (.int .i64 B))
end Ev
theorem Og.wp_run {P:Program} {o:Oper} {a:Act} {w w':World} {v:Value} {K:Act→World→Prop} {Q:Exit→Act→World→Prop} (h:(execOp a.eval o).run P w=.ok (.value v) w') (hk:K (a.put o.dst v) w'):o.wp P a w K Q:=by
 unfold Oper.wp;rw [h];exact hk
theorem Og.append_run {P:Program} {o:Oper} {ρ:Operand→Value} {w w':World} {v sl v':Value} (s x:Operand) (t:TypeId) (ho:o.op=.call { callee:=.builtin .append,args:=#[s,x],argTypes:=#[t,t] }) (hs:ρ s=v) (hx:ρ x=sl)
 (hr:(Builtin.append_ #[t,t] o.type #[v,sl]).run P w=.ok v' w'):(execOp ρ o).run P w=.ok (.value v') w':=by
 unfold execOp
 simp only [ho,resolve,invoke,builtin,Sem.run_bind,Sem.run_pure,Result.andThen_ok,List.map_toArray,List.map_cons,List.map_nil,hs,hx,hr]
theorem Og.wp_skip {P:Program} {o:Oper} {a:Act} {w w':World} {K:Act→World→Prop} {Q:Exit→Act→World→Prop} (h:(execOp a.eval o).run P w=.ok .skip w') (hk:K (a.put o.dst undef) w'):o.wp P a w K Q:=by
 unfold Oper.wp;rw [h];exact hk
theorem Ev.row_below' {w w':World} {base:Nat} {e:TypeId} {size n:Nat} {v:Value} {xs:List Value} (h:w.ownsRow base e size v n xs) (hb:Below w.heap.size w w'):w'.ownsRow base e size v n xs :=
 h.kept (World.grownBy.but_of hb) (by by_cases h:v.ownBlock=none;exact .inl h;exact .inr h)
theorem keep_12 {ops:Array Oper} {wq:World} {g7:Nat} {A B:Int} {j:Nat} {w w':World} {o:Oper} (hj:ops[j]?=some o) (h6:(∃ e ∈ o.after,Region.binds .any e=true∧e.on=6)∨(Below wq.heap.size wq w→Below wq.heap.size wq w')) (hc:∀ p,p.block=g7→w'.cell? p=w.cell? p):Og.Keep .any ops (Ev.Sw wq g7 A B) j w w':=by
 intro oj hoj i hij hno hS
 obtain rfl:o=oj:=Option.some.inj (hj.symm.trans hoj)
 refine⟨fun e=>?_,(hc _ rfl).trans hS.2.1,(hc _ rfl).trans hS.2.2⟩
 subst e
 rcases h6 with ⟨e,he,hb,ho⟩ | h
 ·exact absurd ho (hno e he hb)
 ·exact h (hS.1 rfl)
theorem info_int:∃ i,Tryz.prog.info? 3=some i∧i.zero=some (.int .i64 0)∧i.size=1∧i.bytes=8:=⟨_,rfl,by kernel_rfl,by kernel_rfl,by kernel_rfl⟩
theorem acyclic_any (n:Int) (hnb:Ev.i64B n) (a:Option Addr) (c:Nat) (ps:List (Int × Int)) (hlen:ps.length≤1000000) (w:World) (hin:Ev.PsIn w a c ps) :
 Calls Tryz.prog 102 #[.int .i64 n,.slice a ps.length c] w (Ev.CPost (Ev.AcyR n ps) w):=by
 have HIN:=qH hin
 have hle:=hin.le;have hmax:=hin.max
 have hmm:=@run_makeMap Tryz.prog
 obtain⟨i0,hi,hz0,hz1,hz2⟩:=info_int
 have HI:=qH hi;have HZ0:=qH hz0;have HZ1:=qH hz1;have HZ2:=qH hz2
 clear hin hi hz0 hz1 hz2
 have no:¬ (0≤n∧n≤64)→¬ Ev.InR n ps:=fun h h2=>h ⟨h2.1,h2.2.1⟩
 unfold Ev.i64B at hnb
 by_cases h1:n < 0
 ·have HNO:=qH (no (by omega));clear no
  go_enter Tryz.func102,Tryz.ntmps102
  go_wp2
  go_ret
  exact Ev.CPost.mk false rfl (.inl ⟨rfl,HNO.out⟩) (Below.refl _ _)
 by_cases h2:64 < n
 ·have HNO:=qH (no (by omega));clear no
  go_enter Tryz.func102,Tryz.ntmps102
  go_wp2
  go_ret
  exact Ev.CPost.mk false rfl (.inl ⟨rfl,HNO.out⟩) (Below.refl _ _)
 clear no
 obtain⟨nn,rfl⟩:∃ nn:Nat,n=nn:=⟨n.toNat,by omega⟩
 go_enter Tryz.func102,Tryz.ntmps102
 go_wp2
 go_loopw [17] (fun i wr=>∃ k:Nat,k≤ps.length∧i=.int .i64 (k:Int)∧(∀ j p,j < k→ps[j]?=some p→Ev.inB p.1 nn=true∧Ev.inB p.2 nn=true)∧Ev.GroupsAre wr (w.heap.size+1) w.heap.size k (ps.take k)∧Below w.heap.size w wr∧w.heap.size+1≤wr.heap.size) (fun i _=>ps.length - (intOf i).toNat)
 case atStart=>exact⟨0,Nat.zero_le _,rfl,fun j p hj=>absurd hj (by omega),⟨⟨_,World.ownsGroups_made _ _ _ _ _,fun y _=>rfl⟩⟩,(Below.refl _ _).alloc (Nat.le_refl _) _,by simp⟩
 case round =>
  obtain⟨k,hk,rfl,hall,hgrp,hbr,hws⟩:=hrel
  have HALL:=qH hall;have HGRP:=qH hgrp;have HBR:=qH hbr;have HWS:=qH hws
  clear hall hgrp hbr hws
  by_cases hlt:k < ps.length
  ·obtain⟨p,hp⟩:∃ p,ps[k]?=some p:=⟨_,List.getElem?_eq_getElem hlt⟩
   obtain⟨g,o,ea,hcx⟩:=(HIN.out.kp (Ev.kp_below HBR.out)).at_ hp
   have hpb:=HIN.out.ok p (List.mem_of_getElem? hp)
   have htk:ps.take (k+1)=ps.take k++[p]:=by rw [List.take_add_one,hp];rfl
   have HP:=qH hp;have HC:=qH hcx;have HPB:=qH hpb;have HTK:=qH htk
   have hki:(k:Int) < (ps.length:Int):=by omega
   have bad:(Ev.inB p.1 nn=false∨Ev.inB p.2 nn=false)→¬ Ev.InR (nn:Int) ps:=fun h h2=>by
    have h3:=(Ev.inRB_iff).2 h2
    unfold Ev.inRB at h3
    simp only [Bool.and_eq_true,List.all_eq_true] at h3
    have h4:=h3.2 p (List.mem_of_getElem? HP.out)
    rcases h with h | h
    ·rw [h] at h4;cases h4.1
    ·rw [h] at h4;cases h4.2
   have BAD:=qH bad
   clear hp hcx hpb htk bad
   rw [ea];clear ea
   go_wp2_with (first
    | (show wpList _ _ _ (Oper.mk (some 20) _ _ _ _ _ :: _) _ _;refine wpList_load_at rfl 72 (.tmp 19) rfl g (o+k * 2) (by kernel_rfl) (Ev.pz p) _ HC.out Tryz.underlying72 rfl (by kernel_rfl) ?_)
    | (show wpList _ _ _ (Oper.mk none (Op.store 72 _ _) _ _ _ _ :: _) _ _;refine wpList_store_own rfl 72 (.tmp 7) (.tmp 20) rfl wr.heap.size (Ev.pz p).toArray rfl rfl 72 #[.int .i64 0,.int .i64 0] (heap_alloc_new _ _) (by kernel_rfl) (by kernel_rfl) (by kernel_rfl) ?_
       intro W1 HW1
       have B1:=qH (((Below.refl wr.heap.size wr).alloc (Nat.le_refl _) _).trans HW1.below)
       have RW:=qH HW1.row
       have c0:W1.cell? ⟨wr.heap.size,0,none⟩=some (.int .i64 p.1):=by rw [qC HW1.row];rfl
       have c1:W1.cell? ⟨wr.heap.size,1,none⟩=some (.int .i64 p.2):=by rw [qC HW1.row];rfl
       clear HW1))
   refine(inB_any _ _ _).mono ?_
   rintro e w' ⟨rfl,rfl⟩
   obtain⟨b1,hb1⟩:∃ b,Ev.inB p.1 nn=b:=⟨_,rfl⟩
   have H1:=qH hb1
   rw [hb1];clear hb1
   cases b1
   ·go_wp2_with fail
    go_ret
    exact Ev.CPost.mk false rfl (.inl ⟨rfl,BAD.out (.inl H1.out)⟩) (HBR.out.trans (B1.out.mono HBR.out.size))
   go_wp2_with fail
   refine(inB_any _ _ _).mono ?_
   rintro e w' ⟨rfl,rfl⟩
   obtain⟨b2,hb2⟩:∃ b,Ev.inB p.2 nn=b:=⟨_,rfl⟩
   have H2:=qH hb2
   rw [hb2];clear hb2
   cases b2
   ·go_wp2_with fail
    go_ret
    exact Ev.CPost.mk false rfl (.inl ⟨rfl,BAD.out (.inr H2.out)⟩) (HBR.out.trans (B1.out.mono HBR.out.size))
   go_wp2_with fail
   have hg1:=Ev.groups_below HGRP.out B1.out
   obtain⟨D,ho,hD⟩:=hg1.ex
   have HO:=qH ho;have HD:=qH hD
   obtain⟨v,zs,hrun,hat,hoi,hzl,hback⟩:=groups_look ho law_int Tryz.underlying152 Ev.zero_ints (by unfold maxLen;omega) (keyOf_int_mk (P:=Tryz.prog) Tryz.underlying3 (wf_of_i64 HPB.out.1))
   rw [hD p.1 HPB.out.1] at hat
   have hzs:=Ev.rd_of hoi hat
   have HRUN:=qH hrun;have HOI:=qH hoi;have HBACK:=qH hback;have HZS:=qH hzs
   have hzlen:zs.length≤k:=by omega
   obtain⟨wq,hwq⟩:∃ wq,wq={ W1 with drawn:=W1.drawn+1 }:=⟨_,rfl⟩
   have hbq:Below W1.heap.size W1 wq:=by rw [hwq];exact⟨rfl,rfl,rfl,Nat.le_refl _,fun _ _=>rfl⟩
   have HBQ:=qH hbq
   have hszq:wq.heap.size=W1.heap.size:=by rw [hwq]
   have HSQ:=qH (show ∀ i,Ev.Sw W1 wr.heap.size p.1 p.2 i wq from fun i=>⟨fun _=>HBQ.out,Ev.kp_below HBQ.out _ _ c0,Ev.kp_below HBQ.out _ _ c1⟩)
   have HSZQ:=qH hszq
   have g7lt:wr.heap.size < W1.heap.size:=(qL RW.out)
   have G7:=qH g7lt
   have HWQ:=qH hwq
   clear hg1 ho hD hrun hat hoi hzl hback hzs hwq hbq hszq c0 c1 g7lt
   refine Og.region_S (S:=Ev.Sw W1 wr.heap.size p.1 p.2) (by kernel_rfl) ?_
   rw [← HWQ.out]
   refine Og.s_take 0 _ (.map (some w.heap.size)) _ rfl rfl (by kernel_rfl) (by kernel_rfl) (by kernel_rfl) (fun _ _ _ h=>h) (HSQ.out 0) (fun x hx=>?_) (by simp only [Act.put,qa,qb,qc];rfl) ?_
   ·go_simp;try (with_reducible rfl)
   refine Og.s_take 1 _ (.pointer (some ⟨wr.heap.size,0,none⟩)) _ rfl rfl (by kernel_rfl) (by kernel_rfl) (by kernel_rfl) (fun _ _ _ h=>h) (HSQ.out 1) (fun x hx=>?_) (by simp only [Act.put,qa,qb,qc];rfl) ?_
   ·go_simp;try (with_reducible rfl)
   refine Og.s_take 2 _ (.int .i64 p.1) _ rfl rfl (by kernel_rfl) (by kernel_rfl) (by kernel_rfl) (fun _ _ _ h=>h) (HSQ.out 2) (fun x hx=>?_) (by simp only [Act.put,qa,qb,qc];rfl) ?_
   ·have hx0:=hx.2.1;go_simp;try (with_reducible rfl)
   refine Og.s_take 3 _ (.map (some w.heap.size)) _ rfl rfl (by kernel_rfl) (by kernel_rfl) (by kernel_rfl) (fun _ _ _ h=>h) (HSQ.out 3) (fun x hx=>?_) (by simp only [Act.put,qa,qb,qc];rfl) ?_
   ·go_simp;try (with_reducible rfl)
   refine Og.s_take 4 _ (.pointer (some ⟨wr.heap.size,0,none⟩)) _ rfl rfl (by kernel_rfl) (by kernel_rfl) (by kernel_rfl) (fun _ _ _ h=>h) (HSQ.out 4) (fun x hx=>?_) (by simp only [Act.put,qa,qb,qc];rfl) ?_
   ·go_simp;try (with_reducible rfl)
   refine Og.s_take 5 _ (.int .i64 p.1) _ rfl rfl (by kernel_rfl) (by kernel_rfl) (by kernel_rfl) (fun _ _ _ h=>h) (HSQ.out 5) (fun x hx=>?_) (by simp only [Act.put,qa,qb,qc];rfl) ?_
   ·have hx0:=hx.2.1;go_simp;try (with_reducible rfl)
   refine Og.s_take 6 _ (v) _ rfl rfl (by kernel_rfl) (by kernel_rfl) (by kernel_rfl) (fun _ _ _ h=>h) (HSQ.out 6) (fun x hx=>?_) (by simp only [Act.put,qa,qb,qc];rfl) ?_
   ·have hx0:=HRUN.out x (hx.1 rfl);go_simp;try (with_reducible rfl)
   refine Og.s_take 7 _ (.pointer (some ⟨wr.heap.size,1,none⟩)) _ rfl rfl (by kernel_rfl) (by kernel_rfl) (by kernel_rfl) (fun _ _ _ h=>h) (HSQ.out 7) (fun x hx=>?_) (by simp only [Act.put,qa,qb,qc];rfl) ?_
   ·go_simp;try (with_reducible rfl)
   refine Og.s_take 8 _ (.int .i64 p.2) _ rfl rfl (by kernel_rfl) (by kernel_rfl) (by kernel_rfl) (fun _ _ _ h=>h) (HSQ.out 8) (fun x hx=>?_) (by simp only [Act.put,qa,qb,qc];rfl) ?_
   ·have hx0:=hx.2.2;go_simp;try (with_reducible rfl)
   have hnev:v.ownBlock≠some wr.heap.size:=by
    rcases HOI.out.1.2 with ⟨rfl,_⟩ | ⟨g',cap,cur,rfl,_,hh,_⟩
    ·simp [Value.ownBlock]
    ·intro he
     have:g'=wr.heap.size:=by simpa [Value.ownBlock] using he
     subst this
     have:=hh.symm.trans RW.out
     injection this with this
     injection this with _ ht
     exact absurd ht (by decide)
   have HNEV:=qH hnev;clear hnev
   -- the new row
   refine Og.s_one 9 _ rfl rfl (by kernel_rfl) ?_
   refine Og.wp_run (v:=.slice (some ⟨wq.heap.size,0,none⟩) 1 1) (w':=wq.alloc (.cells #[.int .i64 p.2] 3)) (by go_simp;try (with_reducible rfl)) ⟨keep_12 rfl (.inr fun h=>h.alloc (by have:=HSZQ.out;omega) _) (fun q hq=>World.cell?_alloc_lt wq _ q (by rw [hq,HSZQ.out];exact G7.out)),?_⟩
   have hoi9:(wq.alloc (.cells #[.int .i64 p.2] 3)).ownsInts (w.heap.size+1) 3 .i64 v zs:=⟨Ev.row_below' (HOI.out.1) (HBQ.out.alloc (by have:=HSZQ.out;omega) _),HOI.out.2⟩
   obtain⟨v',w10,hrun10,hown10,hgrow10,hnil10,hloc10⟩:=run_append_own_at (P:=Tryz.prog) (wq.alloc (.cells #[.int .i64 p.2] 3)) (w.heap.size+1) 23 23 3 i0 (.int .i64 0) 1 8 Tryz.underlying23 HI.out HZ0.out HZ1.out HZ2.out rfl (by decide) v zs.length (zs.map (Value.int .i64)) hoi9.1 ⟨wq.heap.size,0,none⟩ 1 1 [.int .i64 p.2] rfl (World.news_of_block (cs:=#[.int .i64 p.2]) (heap_alloc_new wq _)) (by intro u hu;simp at hu;subst hu;rfl) (by unfold maxLen;omega) (by omega) (by simp only [World.size_alloc];have:=HSZQ.out;have:=HWS.out;have:=HBR.out.size;have:=B1.out.size;omega)
   have HR10:=qH hrun10;have HO10:=qH hown10;have HG10:=qH hgrow10;have HL10:=qH hloc10;have HOI9:=qH hoi9
   clear hrun10 hown10 hgrow10 hnil10 hloc10 hoi9
   refine Og.s_one 10 _ rfl rfl (by kernel_rfl) ?_
   refine Og.wp_run (v:=v') (w':=w10) (Og.append_run (.tmp 39) (.tmp 42) 23 (by kernel_rfl) (by kernel_rfl) (by kernel_rfl) HR10.out) ⟨keep_12 rfl (.inl ⟨{ on:=6,ground:=.data },by simp,by kernel_rfl,rfl⟩) (fun q hq=>(HG10.out.cell_far q (by simp only [World.size_alloc];rw [hq,HSZQ.out];have:=G7.out;omega) (by rw [hq];exact fun e=>HNEV.out e.symm)).trans (rfl)),?_⟩
   have hgw:W1.grownBy w10 v.ownBlock:=((World.grownBy.but_of (HBQ.out.trans ((Below.refl wq.heap.size wq).alloc (Nat.le_refl _) _ |>.mono (by have:=HSZQ.out;omega)))).but _).andThen HG10.out fun _ e=>.inr e
   obtain⟨w11,hrun11,hgrp11,hgrow11⟩:=HBACK.out w10 v' (zs++[p.2]) hgw (HOI9.out.appended HO10.out (wf_of_i64 HPB.out.2)) (by simp;omega) (HL10.out.imp id fun h=>⟨_,h,by simp only [World.size_alloc];have:=HSZQ.out;omega⟩)
   have hdat:=(HOI9.out.appended HO10.out (wf_of_i64 HPB.out.2)).datum_pos (H:=Unit) (by simp)
   rw [hdat,HZS.out] at hgrp11
   have HR11:=qH hrun11;have HGP:=qH hgrp11;have HG11:=qH hgrow11;have HGW:=qH hgw
   clear hrun11 hgrp11 hgrow11 hgw hdat
   refine Og.s_one 11 _ rfl rfl (by kernel_rfl) ?_
   have hcells:∀ q:Addr,q.block=wr.heap.size→w11.cell? q=w10.cell? q:=fun q hq=>HG11.out.cell_far q (Nat.lt_of_lt_of_le (by rw [hq];exact G7.out) (HGW.out.size)) (by rw [hq];intro e;injection e with e;have:=HWS.out;omega)
   have HCELLS:=qH hcells;clear hcells
   refine Og.wp_skip (w':=w11) ?_ ?_
   ·have hr:=HR11.out
    go_simp
    try (with_reducible rfl)
   refine And.intro (keep_12 rfl (.inl ?_) HCELLS.out) ?_
   ·exact⟨{ on:=6,ground:=.phase },Array.mem_of_getElem? (i:=10) (by kernel_rfl),by kernel_rfl,rfl⟩
   refine Og.s_done (by kernel_rfl) ?_ _
   simp only [Act.put,qa,qb,qc]
   have B11:=qH (((HBR.out.trans (B1.out.mono HBR.out.size)).groups HOI.out HGW.out HG11.out (Nat.le_trans HBR.out.size B1.out.size) (Nat.le_succ _) (Nat.le_refl _)))
   go_wp2_with fail
   go_roundw
   case rel =>
    refine⟨k+1,by omega,by go_num,fun j q hj hq=>?_,?_,B11.out,?_⟩
    ·by_cases hjk:j=k
     ·subst hjk;rw [HP.out] at hq;cases hq;exact⟨H1.out,H2.out⟩
     ·exact HALL.out j q (by omega) hq
    ·rw [HTK.out]
     exact⟨⟨_,HGP.out,fun y hy=>Ev.groups_step (Ev.groups_isMap HO.out) HD.out y hy⟩⟩
    ·have:=HWS.out;have:=B1.out.size;have:=HGW.out.size;have:=HG11.out.size;omega
   case measure=>simp [intOf];omega
  ·have hkk:k=ps.length:=by omega
   have hki:¬ (k:Int) < (ps.length:Int):=by omega
   have hgr:=HGRP.out
   rw [hkk,List.take_length] at hgr
   have HNX:=qH (Ev.next_of hgr (by unfold maxLen;omega))
   have hinr:Ev.InR (nn:Int) ps:=Ev.inRB_iff.1 (by
    unfold Ev.inRB
    simp only [Bool.and_eq_true,decide_eq_true_eq,List.all_eq_true]
    exact⟨⟨by omega,by omega⟩,fun q hq=>by
     obtain⟨j,hj⟩:=List.mem_iff_getElem?.1 hq
     exact HALL.out j q (by have:=(List.getElem?_eq_some_iff.1 hj).1;omega) hj⟩)
   have HINR:=qH hinr
   clear hgr hinr hkk
   go_wp2_with fail
   refine(hasCircle_any nn w.heap.size ps wr HINR.out HNX.out).mono ?_
   rintro e w2 ⟨b,rfl,hc,hb⟩
   have HC:=qH hc;have HB:=qH (HBR.out.trans (hb.mono HBR.out.size))
   clear hc hb
   cases b
   ·go_wp2_with fail
    go_ret
    refine Ev.CPost.mk true rfl (.inr (.inr ⟨rfl,HINR.out,?_⟩)) HB.out
    rcases HC.out with ⟨h,_⟩ | ⟨_,h⟩
    ·cases h
    ·exact h
   ·go_wp2_with fail
    go_ret
    refine Ev.CPost.mk false rfl (.inr (.inl ⟨rfl,HINR.out,?_⟩)) HB.out
    rcases HC.out with ⟨_,h⟩ | ⟨h,_⟩
    ·exact h
    ·cases h
end Go.Proofs.YtnjnpbabgefaeaaGreat
end
section
namespace Go.Proofs.YtnjnpbabgefaeaaGreat
open Go.RowKit
namespace Ev
def nv (n:Int):Value:=.int .i64 n
structure Mv (W W':World) (r:Option Nat) (B:Nat):Prop where
 os:W'.os=W.os
 tape:W'.tape=W.tape
 output:W'.output=W.output
 size:W.heap.size≤W'.heap.size
 block:∀ k,k < W.heap.size→some k≠r→k≠B→W'.heap[k]?=W.heap[k]?
theorem row_set {W:World} {B i:Nat} {cs:Array Value} {t:TypeId} (v:Value) (h:W.heap[B]?=some (.cells cs t (0,0))):(W.setCell ⟨B,i,none⟩ v).heap[B]?=some (.cells (cs.setIfInBounds i v) t (0,0)):=by
 obtain⟨hlt,hk⟩:=Array.getElem?_eq_some_iff.1 h
 show(W.heap.modify B _)[B]?=_
 rw [Array.getElem?_eq_getElem (by rw [Array.size_modify];exact hlt),Array.getElem_modify_self,hk]
 rfl
theorem grown_set (W:World) (b i:Nat) (v:Value):W.grownBy (W.setCell ⟨b,i,none⟩ v) (some b) :=
 ⟨rfl,rfl,rfl,(KeepsWalks.setCell W _ v).size,fun k _ hk=>Below.heap_setCell _ _ _ k (fun e=>hk (by rw [e]))⟩
theorem alloc_old {W:World} {k:Nat} (o:Obj) (h:k < W.heap.size):(W.alloc o).heap[k]?=W.heap[k]?:=((Below.refl W.heap.size W).alloc (Nat.le_refl _) o).block k h
theorem mv_of {W w1:World} {tmp:Obj} {r:Option Nat} {B i:Nat} {u:Value} (hg:(W.alloc tmp).grownBy w1 r):Mv W (w1.setCell ⟨B,i,none⟩ u) r B:=by
 have h2:=grown_set w1 B i u
 have hs:W.heap.size≤(W.alloc tmp).heap.size:=by simp
 refine⟨h2.os.trans hg.os,h2.tape.trans hg.tape,h2.output.trans hg.output,Nat.le_trans hs (Nat.le_trans hg.size h2.size),fun k hk h3 h4=>?_⟩
 rw [h2.block k (by have:=hg.size;omega) (fun e=>h4 (Option.some.inj e)),hg.block k (by omega) h3,alloc_old _ hk]
theorem Mv.row {W W':World} {r:Option Nat} {B:Nat} (h:Mv W W' r B) {base:Nat} {e:TypeId} {sz:Nat} {v:Value} {n:Nat} {xs:List Value} (hr:W.ownsRow base e sz v n xs) (h1:v.ownBlock=none∨v.ownBlock≠r) (h2:v.ownBlock≠some B):W'.ownsRow base e sz v n xs:=by
 refine⟨hr.1,?_⟩
 rcases hr.2 with hn | ⟨g,cap,cur,rfl,hb,hg,rest⟩
 ·exact .inl hn
 ·have e1:some g≠r:=by rcases h1 with h1 | h1;cases h1;exact h1
  have e2:g≠B:=fun e=>h2 (by rw [← e];rfl)
  exact .inr ⟨g,cap,cur,rfl,hb,(h.block g (qL hg) e1 e2).trans hg,rest⟩
theorem Mv.below {W W':World} {r:Option Nat} {B:Nat} (h:Mv W W' r B) {w:World} (hb:Below w.heap.size w W) (hB:w.heap.size≤B) (hr:∀ k,r=some k→w.heap.size≤k):Below w.heap.size w W' :=
 ⟨h.os.trans hb.os,h.tape.trans hb.tape,h.output.trans hb.output,Nat.le_trans hb.size h.size,fun k hk=>by
   rw [h.block k (by have:=hb.size;omega) (fun e=>by have:=hr k e.symm;omega) (by omega)]
   exact hb.block k hk⟩
theorem row_ne_box {W:World} {base:Nat} {e t:TypeId} {sz:Nat} {v:Value} {n:Nat} {xs:List Value} {B:Nat} {cs:Array Value} {f:Nat × Nat} (hr:W.ownsRow base e sz v n xs) (hB:W.heap[B]?=some (.cells cs t f)) (hte:t≠e):v.ownBlock≠some B:=by
 rcases hr.2 with ⟨rfl,_⟩ | ⟨g,cap,cur,rfl,_,hg,_⟩
 ·simp [Value.ownBlock]
 ·intro e'
  obtain rfl:g=B:=by simpa [Value.ownBlock] using e'
  rw [hg] at hB;cases hB;exact hte rfl
theorem row_ne_row {W:World} {base:Nat} {e t:TypeId} {sz sz':Nat} {v v':Value} {n n':Nat} {xs xs':List Value} (hr:W.ownsRow base e sz v n xs) (hq:W.ownsRow base t sz' v' n' xs') (hte:t≠e):v.ownBlock=none∨v.ownBlock≠v'.ownBlock:=by
 rcases hq.2 with ⟨rfl,_⟩ | ⟨g,cap,cur,rfl,_,hg,_⟩
 ·rcases hr.2 with ⟨rfl,_⟩ | ⟨g,cap,cur,rfl,_,hg,_⟩
  ·exact .inl rfl
  ·exact .inr (by simp [Value.ownBlock])
 ·exact .inr (row_ne_box hr hg hte)
theorem row_form {W:World} {base:Nat} {e:TypeId} {sz:Nat} {v:Value} {n:Nat} {xs:List Value} (hr:W.ownsRow base e sz v n xs):∃ a c,v=.slice a n c:=by
 rcases hr.2 with ⟨rfl,rfl⟩ | ⟨g,cap,cur,rfl,_⟩
 ·exact⟨_,_,rfl⟩
 ·exact⟨_,_,rfl⟩
theorem row_lo {W:World} {base:Nat} {e:TypeId} {sz:Nat} {v:Value} {n:Nat} {xs:List Value} (hr:W.ownsRow base e sz v n xs):∀ k,v.ownBlock=some k→base≤k:=fun k h=>(hr.lt k h).1
def Apt (u v:Value):Prop:=u.ownBlock=none∨u.ownBlock≠v.ownBlock
theorem Apt.symm {u v:Value} (h:Apt u v):Apt v u:=by
 rcases h with h | h
 ·by_cases e:v.ownBlock=none
  ·exact .inl e
  ·exact .inr (by rw [h];exact e)
 ·exact .inr (Ne.symm h)
structure Lay (w W:World) (B:Nat) (x:X):Prop where
 bel:Below w.heap.size w W
 lo:w.heap.size≤B
 box:W.heap[B]?=some (.cells (xcells x).toArray 26 (0,0))
 ev:W.ownsRow w.heap.size 48 13 (evsV x) x.ev.length (x.ev.map cells).flatten
 fr:W.ownsRow w.heap.size 3 1 x.fr.v x.fr.l.length (x.fr.l.map nv)
 od:W.ownsRow w.heap.size 23 1 (odV x) x.od.length (x.od.map Sl.v)
 row:∀ (b:Nat) s,x.od[b]?=some s→W.ownsRow w.heap.size 3 1 s.v s.l.length (s.l.map nv)
 dis:∀ (b:Nat) s,x.od[b]?=some s→Apt s.v x.fr.v
 dis2:∀ (b c:Nat) s t,x.od[b]?=some s→x.od[c]?=some t→b≠c→Apt s.v t.v
 num:∀ y ∈ x.ev,∀ V,ROk V y
 fri:∀ n ∈ x.fr.l,i64B n
 odi:∀ s ∈ x.od,∀ n ∈ s.l,i64B n
variable {w W:World} {B:Nat} {x:X}
theorem Lay.bne (h:Lay w W B x):(evsV x).ownBlock≠some B∧x.fr.v.ownBlock≠some B∧(odV x).ownBlock≠some B∧∀ (b:Nat) s,x.od[b]?=some s→s.v.ownBlock≠some B :=
 ⟨row_ne_box h.ev h.box (by decide),row_ne_box h.fr h.box (by decide),row_ne_box h.od h.box (by decide),fun b s hs=>row_ne_box (h.row b s hs) h.box (by decide)⟩
theorem row_kp {W W':World} {base:Nat} {e:TypeId} {sz:Nat} {v:Value} {n:Nat} {xs:List Value} (h:W.ownsRow base e sz v n xs) (hb:Below W.heap.size W W'):W'.ownsRow base e sz v n xs:=by
 refine⟨h.1,?_⟩
 rcases h.2 with hn | ⟨g,cap,cur,rfl,hlo,hg,rest⟩
 ·exact .inl hn
 ·exact .inr ⟨g,cap,cur,rfl,hlo,(hb.block g (qL hg)).trans hg,rest⟩
theorem Lay.kp (h:Lay w W B x) {W':World} (hb:Below W.heap.size W W'):Lay w W' B x :=
 ⟨h.bel.trans (hb.mono h.bel.size),h.lo,(hb.block B (qL h.box)).trans h.box,row_kp h.ev hb,row_kp h.fr hb,row_kp h.od hb,fun b s hs=>row_kp (h.row b s hs) hb,h.dis,h.dis2,h.num,h.fri,h.odi⟩
theorem box_free {W:World} {B i:Nat} {cs:Array Value} {t:TypeId} (h:W.heap[B]?=some (.cells cs t (0,0))):W.frozen? ⟨B,i,none⟩=false:=by simp [World.frozen?,h]
theorem Mv.blk {W W':World} {r:Option Nat} {B:Nat} (h:Mv W W' r B) {k:Nat} {o:Obj} (hk:W.heap[k]?=some o) (h1:r≠some k) (h2:k≠B):W'.heap[k]?=some o:=(h.block k (qL hk) (Ne.symm h1) h2).trans hk
theorem Lay.pushEv (h:Lay w W B x) {y:R} (hy:∀ V,ROk V y) {tmp:Obj} {v':Value} {w1:World} (hown:w1.ownsRow w.heap.size 48 13 v' (x.ev.length+1) ((x.ev.map cells).flatten++cells y))
 (hgrow:(W.alloc tmp).grownBy w1 (evsV x).ownBlock):∃ a c,v'=.slice a (x.ev.length+1) c∧w1.heap[B]?=some (.cells (xcells x).toArray 26 (0,0))∧Lay w (w1.setCell ⟨B,0,none⟩ v') B ⟨a,c,x.ev++[y],x.fr,x.ao,x.co,x.od⟩:=by
 obtain⟨a,c,rfl⟩:=row_form hown
 have hBl:B < W.heap.size:=(qL h.box)
 have hb1:w1.heap[B]?=some (.cells (xcells x).toArray 26 (0,0)):=by
  rw [hgrow.block B (by simp;omega) (fun e=>h.bne.1 e.symm),alloc_old _ hBl];exact h.box
 have hm:Mv W (w1.setCell ⟨B,0,none⟩ (.slice a (x.ev.length+1) c)) (evsV x).ownBlock B:=mv_of hgrow
 have hl:(x.ev++[y]).length=x.ev.length+1:=by simp
 refine⟨a,c,rfl,hb1,hm.below h.bel h.lo (row_lo h.ev),h.lo,?_,?_,hm.row h.fr (row_ne_row h.fr h.ev (by decide)) h.bne.2.1,hm.row h.od (row_ne_row h.od h.ev (by decide)) h.bne.2.2.1,fun b s hs=>hm.row (h.row b s hs) (row_ne_row (h.row b s hs) h.ev (by decide)) (h.bne.2.2.2 b s hs),h.dis,h.dis2,fun z hz=>?_,h.fri,h.odi⟩
 ·rw [row_set _ hb1];unfold xcells;simp only [hl];rfl
 ·show World.ownsRow _ _ _ _ (.slice a (x.ev++[y]).length c) (x.ev++[y]).length ((x.ev++[y]).map cells).flatten
  rw [hl,List.map_append,List.flatten_append]
  have e:([y].map cells).flatten=cells y:=by simp
  rw [e]
  exact hown.kept (grown_set w1 B 0 _) (.inr (row_ne_box hown hb1 (by decide)))
 ·rcases List.mem_append.1 hz with hz | hz
  ·exact h.num z hz
  ·obtain rfl:z=y:=by simpa using hz
   exact hy
theorem Lay.pushFr (h:Lay w W B x) {f:Int} (hf:i64B f) {tmp:Obj} {v':Value} {w1:World} (hown:w1.ownsRow w.heap.size 3 1 v' (x.fr.l.length+1) (x.fr.l.map nv++[nv f]))
 (hgrow:(W.alloc tmp).grownBy w1 x.fr.v.ownBlock) (hat:v'.ownBlock=x.fr.v.ownBlock∨v'.ownBlock=some (W.alloc tmp).heap.size) :
 ∃ a c,v'=.slice a (x.fr.l.length+1) c∧w1.heap[B]?=some (.cells (xcells x).toArray 26 (0,0))∧Lay w (w1.setCell ⟨B,1,none⟩ v') B ⟨x.ae,x.ce,x.ev,⟨a,c,x.fr.l++[f]⟩,x.ao,x.co,x.od⟩:=by
 obtain⟨a,c,rfl⟩:=row_form hown
 have hBl:B < W.heap.size:=(qL h.box)
 have hb1:w1.heap[B]?=some (.cells (xcells x).toArray 26 (0,0)):=by
  rw [hgrow.block B (by simp;omega) (fun e=>h.bne.2.1 e.symm),alloc_old _ hBl];exact h.box
 have hm:Mv W (w1.setCell ⟨B,1,none⟩ (.slice a (x.fr.l.length+1) c)) x.fr.v.ownBlock B:=mv_of hgrow
 have hl:(x.fr.l++[f]).length=x.fr.l.length+1:=by simp
 refine⟨a,c,rfl,hb1,hm.below h.bel h.lo (row_lo h.fr),h.lo,?_,hm.row h.ev (row_ne_row h.ev h.fr (by decide)) h.bne.1,?_,hm.row h.od (row_ne_row h.od h.fr (by decide)) h.bne.2.2.1,fun b s hs=>hm.row (h.row b s hs) (h.dis b s hs) (h.bne.2.2.2 b s hs),fun b s hs=>?_,h.dis2,h.num,fun n hn=>?_,h.odi⟩
 ·rw [row_set _ hb1];unfold xcells;simp only [hl];rfl
 ·show World.ownsRow _ _ _ _ (.slice a (x.fr.l++[f]).length c) (x.fr.l++[f]).length ((x.fr.l++[f]).map nv)
  rw [hl,List.map_append]
  exact hown.kept (grown_set w1 B 1 _) (.inr (row_ne_box hown hb1 (by decide)))
 ·show Apt s.v (Value.slice a (x.fr.l++[f]).length c)
  rw [hl];unfold Apt
  rcases hat with e | e
  ·rw [e];exact h.dis b s hs
  ·rw [e];refine .inr fun e2=>?_
   have:=((h.row b s hs).lt _ e2).2
   simp at this;omega
 ·rcases List.mem_append.1 hn with hn | hn
  ·exact h.fri n hn
  ·obtain rfl:n=f:=by simpa using hn
   exact hf
theorem Lay.pushRow (h:Lay w W B x) {s:Sl} (hs:W.ownsRow w.heap.size 3 1 s.v s.l.length (s.l.map nv)) (hsf:Apt s.v x.fr.v) (hso:∀ (b:Nat) t,x.od[b]?=some t→Apt s.v t.v) (hsi:∀ n ∈ s.l,i64B n)
 {tmp:Obj} {v':Value} {w1:World} (hown:w1.ownsRow w.heap.size 23 1 v' (x.od.length+1) (x.od.map Sl.v++[s.v])) (hgrow:(W.alloc tmp).grownBy w1 (odV x).ownBlock) :
 ∃ a c,v'=.slice a (x.od.length+1) c∧w1.heap[B]?=some (.cells (xcells x).toArray 26 (0,0))∧Lay w (w1.setCell ⟨B,2,none⟩ v') B ⟨x.ae,x.ce,x.ev,x.fr,a,c,x.od++[s]⟩:=by
 obtain⟨a,c,rfl⟩:=row_form hown
 have hBl:B < W.heap.size:=(qL h.box)
 have hb1:w1.heap[B]?=some (.cells (xcells x).toArray 26 (0,0)):=by
  rw [hgrow.block B (by simp;omega) (fun e=>h.bne.2.2.1 e.symm),alloc_old _ hBl];exact h.box
 have hm:Mv W (w1.setCell ⟨B,2,none⟩ (.slice a (x.od.length+1) c)) (odV x).ownBlock B:=mv_of hgrow
 have hl:(x.od++[s]).length=x.od.length+1:=by simp
 have hrow:∀ (b:Nat) t,(x.od++[s])[b]?=some t→(x.od[b]?=some t)∨(b=x.od.length∧t=s):=fun b t ht=>by
  by_cases hb:b < x.od.length
  ·rw [List.getElem?_append_left hb] at ht;exact .inl ht
  ·have hb':b=x.od.length:=by have:=(List.getElem?_eq_some_iff.1 ht).1;simp at this;omega
   subst hb'
   rw [List.getElem?_append_right (Nat.le_refl _)] at ht
   exact .inr ⟨rfl,by simpa using ht.symm⟩
 have hsm:=hm.row hs (row_ne_row hs h.od (by decide)) (row_ne_box hs h.box (by decide))
 refine⟨a,c,rfl,hb1,hm.below h.bel h.lo (row_lo h.od),h.lo,?_,hm.row h.ev (row_ne_row h.ev h.od (by decide)) h.bne.1,hm.row h.fr (row_ne_row h.fr h.od (by decide)) h.bne.2.1,?_,fun b t ht=>?_,fun b t ht=>?_,fun b d t u ht hu hbd=>?_,h.num,h.fri,fun t ht n hn=>?_⟩
 ·rw [row_set _ hb1];unfold xcells;simp only [hl];rfl
 ·show World.ownsRow _ _ _ _ (.slice a (x.od++[s]).length c) (x.od++[s]).length ((x.od++[s]).map Sl.v)
  rw [hl,List.map_append]
  exact hown.kept (grown_set w1 B 2 _) (.inr (row_ne_box hown hb1 (by decide)))
 ·rcases hrow b t ht with ht | ⟨_,rfl⟩
  ·exact hm.row (h.row b t ht) (row_ne_row (h.row b t ht) h.od (by decide)) (h.bne.2.2.2 b t ht)
  ·exact hsm
 ·rcases hrow b t ht with ht | ⟨_,rfl⟩
  ·exact h.dis b t ht
  ·exact hsf
 ·rcases hrow b t ht with h1 | ⟨h1,e1⟩ <;> rcases hrow d u hu with h2 | ⟨h2,e2⟩
  ·exact h.dis2 b d t u h1 h2 hbd
  ·rw [e2];exact(hso b t h1).symm
  ·rw [e1];exact hso d u h2
  ·omega
 ·rcases List.mem_append.1 ht with ht | ht
  ·exact h.odi t ht n hn
  ·obtain rfl:t=s:=by simpa using ht
   exact hsi n hn
theorem add_at (g j:Nat):(⟨g,0,none⟩:Addr).add j=⟨g,0+j,none⟩:=by unfold Addr.add;split <;> simp_all
theorem ints_in {base:Nat} {s:Sl} (h:W.ownsRow base 3 1 s.v s.l.length (s.l.map nv)) (hb:∀ n ∈ s.l,i64B n):IntsIn W s:=by
 rcases h.2 with ⟨e,hn⟩ | ⟨g,cap,cur,e,_,hh,hnc,hcm,hcs,ht⟩
 ·refine⟨fun hp=>by omega,by omega,?_,hb⟩
  unfold Sl.v at e;simp at e;omega
 ·obtain⟨e1,rfl⟩:s.a=some ⟨g,0,none⟩∧s.c=cap:=by unfold Sl.v at e;simp at e;exact e
  refine⟨fun _=>⟨g,0,e1,fun j v hv=>?_⟩,hnc,by unfold maxLen at hcm;omega,hb⟩
  have h1:=h.cells (g:=g) (by unfold Sl.v;rw [e1];rfl) j (nv v) (by rw [List.getElem?_map,hv];rfl)
  rw [add_at] at h1;exact h1
theorem Lay.xin (h:Lay w W B x):XIn W x:=by
 refine⟨⟨?_,fun y hy=>h.num y hy W,?_,?_⟩,ints_in h.fr h.fri,⟨?_,fun s hs=>?_,?_,?_⟩⟩
 ·intro hp
  rcases h.ev.2 with ⟨e,hn⟩ | ⟨g,cap,cur,e,_⟩
  ·simp at hp;omega
  ·have e1:x.ae=some ⟨g,0,none⟩:=by unfold evsV at e;simp at e;exact e.1
   refine⟨g,0,e1,fun j v hv i c hi=>?_⟩
   have h1:=h.ev.cells (g:=g) (by unfold evsV;rw [e1];rfl) (j * 13+i) c (flat_rows (n:=13) (fun v hv=>by
    obtain⟨y,_,rfl⟩:=List.mem_map.1 hv;rfl) j v i c hv hi)
   rw [add_at] at h1;rw [Nat.zero_add] at h1 ⊢;exact h1
 ·rcases h.ev.2 with ⟨e,hn⟩ | ⟨g,cap,cur,e,_,_,hnc,_⟩
  ·omega
  ·have:x.ce=cap:=by unfold evsV at e;simp at e;exact e.2
   omega
 ·rcases h.ev.2 with ⟨e,hn⟩ | ⟨g,cap,cur,e,_,_,_,hcm,_⟩
  ·have:x.ce=0:=by unfold evsV at e;simp at e;exact e.2.2
   omega
  ·have:x.ce=cap:=by unfold evsV at e;simp at e;exact e.2
   unfold maxLen at hcm;omega
 ·intro hp
  rcases h.od.2 with ⟨e,hn⟩ | ⟨g,cap,cur,e,_⟩
  ·simp at hp;omega
  ·have e1:x.ao=some ⟨g,0,none⟩:=by unfold odV at e;simp at e;exact e.1
   refine⟨g,0,e1,fun j v hv i c hi=>?_⟩
   rw [List.getElem?_map] at hv
   obtain⟨s,hs,rfl⟩:=Option.map_eq_some_iff.1 hv
   have hi0:i=0:=by have:=(List.getElem?_eq_some_iff.1 hi).1;simp at this;omega
   subst hi0
   obtain rfl:s.v=c:=by simpa using hi
   have h1:=h.od.cells (g:=g) (by unfold odV;rw [e1];rfl) j s.v (by rw [List.getElem?_map,hs];rfl)
   rw [add_at] at h1;simpa using h1
 ·obtain⟨b,hb⟩:=List.mem_iff_getElem?.1 hs
  exact ints_in (h.row b s hb) (h.odi s hs)
 ·rcases h.od.2 with ⟨e,hn⟩ | ⟨g,cap,cur,e,_,_,hnc,_⟩
  ·omega
  ·have:x.co=cap:=by unfold odV at e;simp at e;exact e.2
   omega
 ·rcases h.od.2 with ⟨e,hn⟩ | ⟨g,cap,cur,e,_,_,_,hcm,_⟩
  ·have:x.co=0:=by unfold odV at e;simp at e;exact e.2.2
   omega
  ·have:x.co=cap:=by unfold odV at e;simp at e;exact e.2
   unfold maxLen at hcm;omega
end Ev
end Go.Proofs.YtnjnpbabgefaeaaGreat
end
