import Derived.Test.YtnjnpbabgefaeaaGreatKp48
import Derived.Test.YtnjnpbabgefaeaaGreatKp04
import Derived.Laws.AppendOwnNone
import Derived.Test.YtnjnpbabgefaeaaGreatKpH
set_option maxRecDepth 100000
set_option maxHeartbeats 8000000
set_option linter.unusedVariables false
set_option linter.unusedSimpArgs false
section
namespace Go.Proofs.YtnjnpbabgefaeaaGreat
open Go.RowKit
theorem Og.op_of_list {P:Program} {ops:Array Oper} {Q:Exit→Act→World→Prop} {K:Act→World→Prop} {a:Act} {w:World} (i:Nat) (o:Oper) (hi:ops[i]?=some o) (h:wpList P ops (Exit.then K Q) [o] a w):wpOp P ops Q i K a w:=by
 unfold wpList at h
 unfold wpOp
 rw [hi]
 exact h
theorem Md.row_news {w:World} {g o:Nat} {L:List (Nat × Nat)} (h:∀ (j:Nat) (v:List Value),(L.map Ev.pv)[j]?=some v→∀ (i:Nat) (c:Value),v[i]?=some c→w.cell? ⟨g,o+j * 2+i,none⟩=some c):∀ (j:Nat) (u:Value),(L.flatMap Ev.pv)[j]?=some u→w.cell? ((⟨g,o,none⟩:Addr).add j)=some u:=by
 intro j u hu
 have hl:(L.flatMap Ev.pv).length=L.length * 2:=by
  clear h hu
  induction L with
  | nil=>rfl
  | cons a l ih=>rw [List.flatMap_cons,List.length_append,ih];simp [Ev.pv];omega
 have hj:=(List.getElem?_eq_some_iff.1 hu).1
 have hq:j / 2 < L.length:=by omega
 obtain⟨p,hp⟩:∃ p,L[j / 2]?=some p:=⟨_,List.getElem?_eq_getElem hq⟩
 obtain⟨c,hc⟩:∃ c,(Ev.pv p)[j % 2]?=some c:=⟨_,List.getElem?_eq_getElem (by simp [Ev.pv];omega)⟩
 have h1:=Ev.pv_flat L (j / 2) p (j % 2) c hp hc
 rw [show j / 2 * 2+j % 2=j by omega,hu] at h1
 obtain rfl:=Option.some.inj h1
 have h2:=h (j / 2) (Ev.pv p) (by rw [List.getElem?_map,hp];rfl) (j % 2) u hc
 rw [show o+j / 2 * 2+j % 2=o+j by omega] at h2
 have hadd:(⟨g,o,none⟩:Addr).add j=⟨g,o+j,none⟩:=by unfold Addr.add;split <;> simp_all
 rw [hadd];exact h2
theorem Md.append2 {ops:Array Oper} {rest:List Oper} {o:Oper} {a:Act} {w:World} {Q:Exit→Act→World→Prop} (hgd:o.guard=none) (s x:Operand)
 (ho:o.op=.call { callee:=.builtin .append,args:=#[s,x],argTypes:=#[37,37] }) (base:Nat) (v:Value) (L1 L2:List (Nat × Nat)) (hs:a.eval s=v) (hown:w.ownsRow base 72 2 v L1.length (L1.flatMap Ev.pv))
 (a2:Option Addr) (c2:Nat) (hx:a.eval x=.slice a2 L2.length c2) (hp:Ev.PairsIn w a2 c2 L2) (hnil:a2=none→c2=0) (hlen:L1.length+L2.length≤100000) (hbase:base≤w.heap.size)
 (h:∀ v' w',w'.ownsRow base 72 2 v' (L1++L2).length ((L1++L2).flatMap Ev.pv)→w.grownBy w' v.ownBlock→wpList Tryz.prog ops Q rest (a.put o.dst v') w'):wpList Tryz.prog ops Q (o :: rest) a w:=by
 obtain⟨i0,hi,hz0,hz1,hz2⟩:=info_pair
 rw [List.length_append,List.flatMap_append] at h
 cases a2 with
 | none =>
   have hl:L2=[]:=by
    cases L2 with
    | nil=>rfl
    | cons p l=>obtain⟨_,_,e,_⟩:=hp.rows (by simp);cases e
   subst hl
   obtain rfl:=hnil rfl
   refine wpList_append_own_none hgd s x 37 ho base 72 i0 2 Tryz.underlying37 hi v L1.length _ hs hown hx (h v w (by simpa using hown) ⟨rfl,rfl,rfl,Nat.le_refl _,fun _ _ _=>rfl⟩)
 | some ad =>
   have hnews:∀ (j:Nat) (u:Value),(L2.flatMap Ev.pv)[j]?=some u→w.cell? (ad.add j)=some u:=by
    by_cases hz:0 < L2.length
    ·obtain⟨g,o,e,hc⟩:=hp.rows (by simpa using hz)
     obtain rfl:=Option.some.inj e
     exact Md.row_news hc
    ·have:L2=[]:=List.length_eq_zero_iff.1 (by omega)
     subst this
     intro j u hu;simp at hu
   have hfl:(L2.flatMap Ev.pv).length=L2.length * 2:=by
    clear h hown hx hp hlen hnews
    induction L2 with
    | nil=>rfl
    | cons a l ih=>rw [List.flatMap_cons,List.length_append,ih];simp [Ev.pv];omega
   have hone:∀ u ∈ L2.flatMap Ev.pv,u.oneCell'=true:=by
    intro u hu
    obtain⟨p,_,hu⟩:=List.mem_flatMap.1 hu
    exact Ev.pv_one p u hu
   exact wpList_append_own _ hgd s x 37 ho base 72 i0 (.agg #[.int .i64 0,.int .i64 0]) 2 16 Tryz.underlying37 hi hz0 hz1 hz2 rfl (by decide) v L1.length _ hs hown ad L2.length c2 (L2.flatMap Ev.pv) hx hfl hnews hone (by unfold maxLen;omega) (by omega) hbase (fun v' w' h1 h2 _=>h v' w' h1 h2)
theorem Md.own_nil {w:World} {B:Nat} {a:Option Addr} {n c:Nat} {xs:List Value} (h:w.ownsRow B 72 2 (.slice a n c) n xs):a=none→c=0:=by
 rintro rfl
 rcases h.2 with ⟨e,_⟩ | ⟨g,cap,cur,e,_⟩
 ·simpa using (Value.slice.inj e).2.2
 ·simp at e
def Md.Apt (u v:Value):Prop:=u.ownBlock=none∨u.ownBlock≠v.ownBlock
theorem Md.apt_lo {w w':World} {B:Nat} {e e':TypeId} {z z' n n':Nat} {u v:Value} {xs ys:List Value} (h:w.ownsRow B e z u n xs) (h':w'.ownsRow w.heap.size e' z' v n' ys):Md.Apt u v:=by
 unfold Md.Apt
 cases hu:u.ownBlock with
 | none=>exact .inl rfl
 | some k =>
   refine .inr fun hv=>?_
   have h1:=(h.lt k hu).2
   have h2:=Ev.own_ge h' hv.symm
   omega
theorem Md.apt_symm {u v:Value} (h:Md.Apt u v):v.ownBlock=none∨v.ownBlock≠u.ownBlock:=by
 rcases h with h | h
 ·cases hv:v.ownBlock with
  | none=>exact .inl rfl
  | some k=>exact .inr (by rw [h];simp)
 ·exact .inr (fun e=>h e.symm)
theorem Md.apt_app {u v u':Value} {w:World} {B:Nat} {e:TypeId} {z n:Nat} {xs:List Value} (h:Md.Apt u v) (hat:u'.ownBlock=u.ownBlock∨u'.ownBlock=some w.heap.size) (hv:w.ownsRow B e z v n xs):Md.Apt u' v:=by
 unfold Md.Apt at h ⊢
 rcases hat with h1 | h1
 ·rw [h1];exact h
 ·refine .inr fun e=>?_
  have:=(hv.lt w.heap.size (by rw [← e,h1])).2
  omega
theorem Md.pairs_own {w:World} {B:Nat} {a:Option Addr} {c:Nat} {L:List (Nat × Nat)} (h:w.ownsRow B 72 2 (.slice a L.length c) L.length (L.flatMap Ev.pv)):Ev.PairsIn w a c L:=by
 obtain⟨a',c',e,hp⟩:=Ev.pairs_of_row h
 obtain⟨rfl,_,rfl⟩:=Value.slice.inj e
 exact hp
theorem rcoherent_any (x:Ev.X) (w:World) (hin:Ev.XIn w x) (hc:Ev.check x=0) :
 Calls Tryz.prog 18 #[Ev.exV x] w fun e w'=>∃ b:Bool,e=.returned (.bool b)∧(b=true↔Md.Rk (Md.gI (Md.cohL x)))∧Below w.heap.size w w':=by
 have hn64:=(Ev.check_order hc).2.2
 have hl1:=hin.ev.le;have hl2:=hin.ev.max
 obtain⟨xb,hxb⟩:∃ xb,xb=w.heap.size:=⟨_,rfl⟩
 obtain⟨B,hB⟩:∃ B,B=w.alloc (.cells (Ev.xcells x).toArray 26):=⟨_,rfl⟩
 have HB:=qH hB;have HXB:=qH hxb
 have B0:=qH (show Below w.heap.size w B by rw [hB];exact(Below.refl w.heap.size w).alloc (Nat.le_refl _) _)
 have RX:=qH (show B.heap[xb]?=some (.cells #[.slice x.ae x.ev.length x.ce,.slice x.fr.a x.fr.l.length x.fr.c,.slice x.ao x.od.length x.co] 26 (0,0)) by rw [hB,hxb];exact heap_alloc_new _ _)
 have HX:=qH (show Ev.XIn B x from hin.kp (Ev.kp_below B0.out))
 have cx:B.cell? ⟨xb,0,none⟩=some (.slice x.ae x.ev.length x.ce):=by rw [qC RX.out];rfl
 obtain⟨LP,hLP⟩:∃ l,Ev.pl (Ev.isPo x) x.ev.length x.ev.length=l:=⟨_,rfl⟩
 have HSLP:=qH (show Md.Sml x.ev.length LP by rw [← hLP];exact Md.sml_pl hn64)
 have HP1:=qH (show ∀ W,Ev.XIn W x→Calls Tryz.prog 23 #[.agg #[.slice x.ae x.ev.length x.ce,.slice x.fr.a x.fr.l.length x.fr.c,.slice x.ao x.od.length x.co],.int .i64 1] W fun e w'=>∃ a c,e=.returned (.slice a LP.length c)∧w'.ownsRow W.heap.size 72 2 (.slice a LP.length c) LP.length (LP.flatMap Ev.pv)∧Below W.heap.size W w' from fun W h=>by rw [← hLP];exact rpairs1_own x W h hc)
 obtain⟨LB,hLB⟩:∃ l,Ev.pl (Ev.isRf x) x.ev.length x.ev.length=l:=⟨_,rfl⟩
 have HSLB:=qH (show Md.Sml x.ev.length LB by rw [← hLB];exact Md.sml_pl hn64)
 have HP2:=qH (show ∀ W,Ev.XIn W x→Calls Tryz.prog 23 #[.agg #[.slice x.ae x.ev.length x.ce,.slice x.fr.a x.fr.l.length x.fr.c,.slice x.ao x.od.length x.co],.int .i64 2] W fun e w'=>∃ a c,e=.returned (.slice a LB.length c)∧w'.ownsRow W.heap.size 72 2 (.slice a LB.length c) LB.length (LB.flatMap Ev.pv)∧Below W.heap.size W w' from fun W h=>by rw [← hLB];exact rpairs2_own x W h hc)
 obtain⟨LC,hLC⟩:∃ l,Ev.pl (fun a b:Nat=>Ev.isCo x (a:Int) (b:Int)) x.ev.length x.ev.length=l:=⟨_,rfl⟩
 have HSLC:=qH (show Md.Sml x.ev.length LC by rw [← hLC];exact Md.sml_pl hn64)
 have HP3:=qH (show ∀ W,Ev.XIn W x→Calls Tryz.prog 23 #[.agg #[.slice x.ae x.ev.length x.ce,.slice x.fr.a x.fr.l.length x.fr.c,.slice x.ao x.od.length x.co],.int .i64 3] W fun e w'=>∃ a c,e=.returned (.slice a LC.length c)∧w'.ownsRow W.heap.size 72 2 (.slice a LC.length c) LC.length (LC.flatMap Ev.pv)∧Below W.heap.size W w' from fun W h=>by rw [← hLC];exact rpairs3_own x W h hc)
 obtain⟨LD,hLD⟩:∃ l,Ev.pl (Ev.isFr x) x.ev.length x.ev.length=l:=⟨_,rfl⟩
 have HSLD:=qH (show Md.Sml x.ev.length LD by rw [← hLD];exact Md.sml_pl hn64)
 have HP4:=qH (show ∀ W,Ev.XIn W x→Calls Tryz.prog 23 #[.agg #[.slice x.ae x.ev.length x.ce,.slice x.fr.a x.fr.l.length x.fr.c,.slice x.ao x.od.length x.co],.int .i64 4] W fun e w'=>∃ a c,e=.returned (.slice a LD.length c)∧w'.ownsRow W.heap.size 72 2 (.slice a LD.length c) LD.length (LD.flatMap Ev.pv)∧Below W.heap.size W w' from fun W h=>by rw [← hLD];exact rpairs4_own x W h hc)
 have HCOH:=qH (show Md.cohL x=LB++LC++LD++LP.filter (Md.oneA x) by rw [← hLP,← hLB,← hLC,← hLD];rfl)
 have HCX:=qH cx
 have hpl:=HSLP.out.len;have hbl:=HSLB.out.len;have hcl:=HSLC.out.len;have hdl:=HSLD.out.len
 have LX:=qH (fun (Y:World) (hx:Og.Std B Y)=>run_loadVar_row (P:=Tryz.prog) Y xb 26 26 #[.slice x.ae x.ev.length x.ce,.slice x.fr.a x.fr.l.length x.fr.c,.slice x.ao x.od.length x.co] (0,0) _ ((hx.block xb (qL RX.out)).trans RX.out) Tryz.underlying26 rfl (by kernel_rfl))
 clear hin hc hLP hLB hLC hLD hB hxb cx
 unfold Ev.exV
 go_enter Tryz.func18,Tryz.ntmps18
 go_wp2
 rw [← HB.out,← HXB.out]
 refine wp_region_held (S:=Og.Std B) (by kernel_rfl) ?_
 obtain⟨V,hV⟩:∃ V:World,V={ B with drawn:=B.drawn+1 }:=⟨_,rfl⟩
 have S0:Og.Std B V:=by rw [hV];exact⟨rfl,rfl,rfl,Nat.le_refl _,fun _ _=>rfl⟩
 rw [← hV]
 clear hV
 refine Og.held_take 0 ({ dst:=some 8,op:=Go.Op.load 26 (Go.Operand.tmp 1),type:=26,pos:= "ref.go:328",after:=#[],guard:=none }) (.agg #[.slice x.ae x.ev.length x.ce,.slice x.fr.a x.fr.l.length x.fr.c,.slice x.ao x.od.length x.co]) _ rfl rfl (by kernel_rfl) (by kernel_rfl) (by kernel_rfl) (fun _ _ _ h=>h) S0 (fun y hx=>?_) (by simp only [Act.put,qa,qb,qc];rfl) ?_
 ·exact Og.load_run 26 (.tmp 1) rfl ⟨xb,0,none⟩ (by kernel_rfl) (LX.out _ hx)
 refine Og.held_take 2 ({ dst:=some 10,op:=Go.Op.load 26 (Go.Operand.tmp 1),type:=26,pos:= "ref.go:328",after:=#[],guard:=none }) (.agg #[.slice x.ae x.ev.length x.ce,.slice x.fr.a x.fr.l.length x.fr.c,.slice x.ao x.od.length x.co]) _ rfl rfl (by kernel_rfl) (by kernel_rfl) (by kernel_rfl) (fun _ _ _ h=>h) S0 (fun y hx=>?_) (by simp only [Act.put,qa,qb,qc];rfl) ?_
 ·exact Og.load_run 26 (.tmp 1) rfl ⟨xb,0,none⟩ (by kernel_rfl) (LX.out _ hx)
 refine Og.held_take 5 ({ dst:=some 13,op:=Go.Op.load 26 (Go.Operand.tmp 1),type:=26,pos:= "ref.go:328",after:=#[],guard:=none }) (.agg #[.slice x.ae x.ev.length x.ce,.slice x.fr.a x.fr.l.length x.fr.c,.slice x.ao x.od.length x.co]) _ rfl rfl (by kernel_rfl) (by kernel_rfl) (by kernel_rfl) (fun _ _ _ h=>h) S0 (fun y hx=>?_) (by simp only [Act.put,qa,qb,qc];rfl) ?_
 ·exact Og.load_run 26 (.tmp 1) rfl ⟨xb,0,none⟩ (by kernel_rfl) (LX.out _ hx)
 refine Og.held_one 1 (by kernel_rfl) (Og.op_of_list 1 ({ dst:=some 9,op:=Go.Op.call { callee:=Go.Callee.value (Go.Operand.func 23),args:=#[Go.Operand.tmp 8,Go.Operand.const (Go.Value.int Go.IntKind.i64 2)],argTypes:=#[26,3] },type:=37,pos:= "ref.go:328",after:=#[{ on:=0,ground:=Go.Ground.data }],guard:=none }) rfl ?_)
 try simp only [Act.put,qa,qb,qc]
 go_wp2_with fail
 refine(HP2.out V (HX.out.kp (Ev.kp_below S0))).mono ?_
 rintro e W2 ⟨a2,c2,rfl,hrow2,hb2⟩
 have BS2:=S0.trans (hb2.mono S0.size)
 have HR2:=qH (Ev.own_mono hrow2 S0.size);have HB2:=qH BS2
 clear hrow2 hb2 BS2 S0
 go_wp2_with fail
 refine⟨HB2.out,?_⟩
 refine Og.held_one 3 (by kernel_rfl) (Og.op_of_list 3 ({ dst:=some 11,op:=Go.Op.call { callee:=Go.Callee.value (Go.Operand.func 23),args:=#[Go.Operand.tmp 10,Go.Operand.const (Go.Value.int Go.IntKind.i64 3)],argTypes:=#[26,3] },type:=37,pos:= "ref.go:328",after:=#[{ on:=2,ground:=Go.Ground.data },{ on:=1,ground:=Go.Ground.chain }],guard:=none }) rfl ?_)
 try simp only [Act.put,qa,qb,qc]
 go_wp2_with fail
 refine(HP3.out W2 (HX.out.kp (Ev.kp_below HB2.out))).mono ?_
 rintro e W3 ⟨a3,c3,rfl,hrow3,hb3⟩
 have BS3:=HB2.out.trans (hb3.mono HB2.out.size)
 have HR2c:=qH (Ev.row_below HR2.out hb3)
 have HP3r:=qH (Md.pairs_own hrow3);have HN3:=qH (Md.own_nil hrow3);have HB3c:=qH BS3
 clear hb3 BS3 hrow3
 go_wp2_with fail
 refine⟨HB3c.out,?_⟩
 refine Og.held_one 4 (by kernel_rfl) (Og.op_of_list 4 ({ dst:=some 12,op:=Go.Op.call { callee:=Go.Callee.builtin Go.Builtin.append,args:=#[Go.Operand.tmp 9,Go.Operand.tmp 11],argTypes:=#[37,37] },type:=37,pos:= "ref.go:328",after:=#[{ on:=1,ground:=Go.Ground.data },{ on:=3,ground:=Go.Ground.data },{ on:=3,ground:=Go.Ground.chain }],guard:=none }) rfl ?_)
 refine Md.append2 rfl (.tmp 9) (.tmp 11) rfl B.heap.size (.slice a2 LB.length c2) (LB) LC (by kernel_rfl) HR2c.out a3 c3 (by kernel_rfl) HP3r.out HN3.out (by first | omega | (simp only [List.length_append];omega)) HB3c.out.size ?_
 intro v4 W4 hown4 hgrow4
 have HR4:=qH hown4
 have HB4:=qH (Below.grown HB3c.out hgrow4 HB3c.out.size (fun k hk=>Ev.own_ge HR2c.out hk))
 clear hown4 hgrow4
 simp only [Act.put,qa,qb,qc]
 go_wp2_with fail
 refine⟨HB4.out,?_⟩
 refine Og.held_one 6 (by kernel_rfl) (Og.op_of_list 6 ({ dst:=some 14,op:=Go.Op.call { callee:=Go.Callee.value (Go.Operand.func 23),args:=#[Go.Operand.tmp 13,Go.Operand.const (Go.Value.int Go.IntKind.i64 4)],argTypes:=#[26,3] },type:=37,pos:= "ref.go:328",after:=#[{ on:=5,ground:=Go.Ground.data },{ on:=4,ground:=Go.Ground.chain }],guard:=none }) rfl ?_)
 try simp only [Act.put,qa,qb,qc]
 go_wp2_with fail
 refine(HP4.out W4 (HX.out.kp (Ev.kp_below HB4.out))).mono ?_
 rintro e W6 ⟨a4,c4,rfl,hrow4,hb4⟩
 have BS4:=HB4.out.trans (hb4.mono HB4.out.size)
 have HR4c:=qH (Ev.row_below HR4.out hb4)
 have HP4r:=qH (Md.pairs_own hrow4);have HN4:=qH (Md.own_nil hrow4);have HB4c:=qH BS4
 clear hb4 BS4 hrow4
 go_wp2_with fail
 refine⟨HB4c.out,?_⟩
 refine Og.held_one 7 (by kernel_rfl) (Og.op_of_list 7 ({ dst:=some 15,op:=Go.Op.call { callee:=Go.Callee.builtin Go.Builtin.append,args:=#[Go.Operand.tmp 12,Go.Operand.tmp 14],argTypes:=#[37,37] },type:=37,pos:= "ref.go:328",after:=#[{ on:=4,ground:=Go.Ground.data },{ on:=6,ground:=Go.Ground.data },{ on:=6,ground:=Go.Ground.chain }],guard:=none }) rfl ?_)
 refine Md.append2 rfl (.tmp 12) (.tmp 14) rfl B.heap.size (v4) (LB++LC) LD (by kernel_rfl) HR4c.out a4 c4 (by kernel_rfl) HP4r.out HN4.out (by first | omega | (simp only [List.length_append];omega)) HB4c.out.size ?_
 intro v7 W7 hown7 hgrow7
 have HR7:=qH hown7
 have HB7:=qH (Below.grown HB4c.out hgrow7 HB4c.out.size (fun k hk=>Ev.own_ge HR4c.out hk))
 clear hown7 hgrow7
 simp only [Act.put,qa,qb,qc]
 go_wp2_with fail
 refine⟨HB7.out,?_⟩
 refine Og.held_one 8 (by kernel_rfl) (Og.op_of_list 8 ({ dst:=some 3,op:=Go.Op.assign (Go.Operand.tmp 15),type:=37,pos:= "ref.go:328",after:=#[{ on:=7,ground:=Go.Ground.data },{ on:=7,ground:=Go.Ground.chain },{ on:=0,ground:=Go.Ground.phase },{ on:=1,ground:=Go.Ground.phase },{ on:=2,ground:=Go.Ground.phase },{ on:=3,ground:=Go.Ground.phase },{ on:=4,ground:=Go.Ground.phase },{ on:=5,ground:=Go.Ground.phase },{ on:=6,ground:=Go.Ground.phase },{ on:=7,ground:=Go.Ground.phase }],guard:=none }) rfl ?_)
 go_wp2_with fail
 try simp only [Act.put,qa,qb,qc]
 refine⟨HB7.out,?_⟩
 refine wpAnyH_done (by kernel_rfl) ?_ _
 have RW7:=qH ((HB7.out.block _ (qL RX.out)).trans RX.out)
 clear HR2 HR2c HP3r HB2 HB3c HB4 HB4c HR4 HR4c HP4r
 go_wp2_with ((with_reducible refine qG 16 ?_);refine wpList_load_row rfl 26 (.tmp 1) rfl xb (by kernel_rfl) 26 #[.slice x.ae x.ev.length x.ce,.slice x.fr.a x.fr.l.length x.fr.c,.slice x.ao x.od.length x.co] (0,0) _ RW7.out Tryz.underlying26 rfl (by kernel_rfl) ?_)
 refine(HP1.out W7 (HX.out.kp (Ev.kp_below HB7.out))).mono ?_
 rintro e W8 ⟨a1,c1,rfl,hrow1,hb1⟩
 have HB8:=qH (HB7.out.trans (hb1.mono HB7.out.size))
 have HR8:=qH (Ev.row_below HR7.out hb1)
 have HP8:=qH hrow1
 have HAP8:=qH (show Md.Apt v7 (.slice a1 LP.length c1) from Md.apt_lo HR7.out hrow1)
 clear hrow1 hb1
 go_wp2_with fail
 have HU:=qH (show LB.length+LC.length+LD.length+LP.length≤100000 by omega)
 go_loopw [3,5,6,7] (fun v i _ _ wr=>∃ k:Nat,k≤LP.length∧i=.int .i64 (k:Int)∧wr.ownsRow B.heap.size 72 2 v (LB++LC++LD++(LP.take k).filter (Md.oneA x)).length ((LB++LC++LD++(LP.take k).filter (Md.oneA x)).flatMap Ev.pv)∧Below B.heap.size B wr∧wr.ownsRow W7.heap.size 72 2 (.slice a1 LP.length c1) LP.length (LP.flatMap Ev.pv)∧Md.Apt v (.slice a1 LP.length c1)) (fun _ i _ _ _=>LP.length - (intOf i).toNat)
 case atStart=>exact⟨0,Nat.zero_le _,rfl,by simpa using HR8.out,HB8.out,HP8.out,HAP8.out⟩
 case round =>
  obtain⟨k,hk,rfl,hrow,hbr,hown,hapt⟩:=hrel
  obtain⟨wo,hwo⟩:∃ wo:World,wo=wr:=⟨_,rfl⟩
  have HBR:=qH hbr;have HROW:=qH hrow;have HOWN:=qH hown;have HAPT:=qH hapt
  have HPI:=qH (Md.pairs_own hown)
  clear hbr hrow hown hapt hwo wo HR8 HP8 HAP8 HB8
  by_cases hlt:k < LP.length
  ·have hki:(k:Int) < (LP.length:Int):=by omega
   obtain⟨p,hp⟩:∃ p,LP[k]?=some p:=⟨_,List.getElem?_eq_getElem hlt⟩
   obtain⟨gp,op,egp,hcp⟩:=HPI.out.at_ hp
   have hpm:p ∈ LP:=List.mem_of_getElem? hp
   obtain⟨ha,hb⟩:=HSLP.out.lt p hpm
   obtain⟨e1,he1⟩:∃ e,x.ev[p.1]?=some e:=⟨_,List.getElem?_eq_getElem ha⟩
   obtain⟨e2,he2⟩:∃ e,x.ev[p.2]?=some e:=⟨_,List.getElem?_eq_getElem hb⟩
   have HXR:=qH (HX.out.kp (Ev.kp_below HBR.out))
   obtain⟨g,o,eg,hc1⟩:=HXR.out.ev.at_ he1
   obtain⟨g',o',eg',hc2⟩:=HXR.out.ev.at_ he2
   rw [eg] at eg'
   obtain⟨rfl,rfl⟩:g=g'∧o=o':=by simpa using eg'
   have cx:=Ev.kp_below HBR.out _ _ HCX.out
   have cp0:=hcp 0 _ rfl;have cp1:=hcp 1 _ rfl
   rw [eg] at cx
   have hai:(p.1:Int) < (x.ev.length:Int):=by omega
   have hbi:(p.2:Int) < (x.ev.length:Int):=by omega
   have hpc:=HPI.out.le;have hpx:=HPI.out.max
   have LB_:=qH (fun (X:World) (hx:Og.Std wr X)=>ld_cell Tryz.isAgg22 (Og.std_cell hx cx))
   have LP0:=qH (fun (X:World) (hx:Og.Std wr X)=>ld_cell Tryz.isAgg3 (Og.std_cell hx cp0))
   have LP1:=qH (fun (X:World) (hx:Og.Std wr X)=>ld_cell Tryz.isAgg3 (Og.std_cell hx cp1))
   have LX:=qH (fun (X:World) (hx:Og.Std wr X)=>run_loadVar_at (P:=Tryz.prog) X g (o+p.1 * 13) 48 (Ev.cells e1) _ (fun i c hi=>Og.std_cell hx (hc1 i c hi)) Tryz.underlying48 rfl (by kernel_rfl))
   have LY:=qH (fun (X:World) (hx:Og.Std wr X)=>run_loadVar_at (P:=Tryz.prog) X g (o+p.2 * 13) 48 (Ev.cells e2) _ (fun i c hi=>Og.std_cell hx (hc2 i c hi)) Tryz.underlying48 rfl (by kernel_rfl))
   have HONE:=qH (show Md.oneA x p=(!(e1.k==4)&&!(e2.k==4)&&e1.a==e2.a) by unfold Md.oneA;rw [Ev.nth_some he1,Ev.nth_some he2])
   have HT1:=qH (show(LP.take (k+1)).filter (Md.oneA x)=(LP.take k).filter (Md.oneA x)++if Md.oneA x p then [p] else [] by rw [List.take_add_one,hp,List.filter_append];cases h:Md.oneA x p <;> simp [h])
   have HPL:=qH (show((LP.take k).filter (Md.oneA x)).length≤LP.length from Nat.le_trans (List.length_filter_le _ _) (by rw [List.length_take];omega))
   have HCP:=qH hcp
   clear he1 he2 eg eg' hp hpm cx cp0 cp1 hc1 hc2 hcp HXR
   subst egp
   go_wp2_with fail
   refine wp_region_held (S:=Og.Std wr) (by kernel_rfl) ?_
   have S0:Og.Std wr { wr with drawn:=wr.drawn+1 }:=⟨rfl,rfl,rfl,Nat.le_refl _,fun _ _=>rfl⟩
   refine Og.held_take 0 ({ dst:=some 24,op:=Go.Op.fieldAddr 26 (Go.Operand.tmp 1) 0,type:=0,pos:= "ref.go:331",after:=#[],guard:=none }) (.pointer (some ⟨xb,0,none⟩)) _ rfl rfl (by kernel_rfl) (by kernel_rfl) (by kernel_rfl) (fun _ _ _ h=>h) S0 (fun x hx=>?_) (by simp only [Act.put,qa,qb,qc];rfl) ?_
   ·go_simp;try (with_reducible rfl)
   refine Og.held_take 1 ({ dst:=some 25,op:=Go.Op.load 22 (Go.Operand.tmp 24),type:=22,pos:= "ref.go:331",after:=#[{ on:=0,ground:=Go.Ground.data }],guard:=none }) (.slice (some ⟨g,o,none⟩) x.ev.length x.ce) _ rfl rfl (by kernel_rfl) (by kernel_rfl) (by kernel_rfl) (fun _ _ _ h=>h) S0 (fun x hx=>?_) (by simp only [Act.put,qa,qb,qc];rfl) ?_
   ·exact Og.load_run 22 (.tmp 24) rfl ⟨xb,0,none⟩ (by kernel_rfl) (LB_.out _ hx)
   refine Og.held_take 2 ({ dst:=some 26,op:=Go.Op.move (Go.Operand.tmp 4),type:=37,pos:= "ref.go:331",after:=#[],guard:=none }) (.slice (some ⟨gp,op,none⟩) LP.length c1) _ rfl rfl (by kernel_rfl) (by kernel_rfl) (by kernel_rfl) (fun _ _ _ h=>h) S0 (fun x hx=>?_) (by simp only [Act.put,qa,qb,qc];rfl) ?_
   ·go_simp;try (with_reducible rfl)
   refine Og.held_take 3 ({ dst:=some 27,op:=Go.Op.move (Go.Operand.tmp 5),type:=3,pos:= "ref.go:331",after:=#[],guard:=none }) (.int .i64 (k:Int)) _ rfl rfl (by kernel_rfl) (by kernel_rfl) (by kernel_rfl) (fun _ _ _ h=>h) S0 (fun x hx=>?_) (by simp only [Act.put,qa,qb,qc];rfl) ?_
   ·go_simp;try (with_reducible rfl)
   refine Og.held_take 4 ({ dst:=some 28,op:=Go.Op.indexAddr 37 (Go.Operand.tmp 26) (Go.Operand.tmp 27),type:=0,pos:= "ref.go:331",after:=#[{ on:=2,ground:=Go.Ground.data },{ on:=3,ground:=Go.Ground.data }],guard:=none }) (.pointer (some ⟨gp,op+k * 2,none⟩)) _ rfl rfl (by kernel_rfl) (by kernel_rfl) (by kernel_rfl) (fun _ _ _ h=>h) S0 (fun x hx=>?_) (by simp only [Act.put,qa,qb,qc];rfl) ?_
   ·go_simp;try (with_reducible rfl)
   refine Og.held_take 5 ({ dst:=some 29,op:=Go.Op.fieldAddr 72 (Go.Operand.tmp 28) 0,type:=0,pos:= "ref.go:331",after:=#[{ on:=4,ground:=Go.Ground.data }],guard:=none }) (.pointer (some ⟨gp,op+k * 2,none⟩)) _ rfl rfl (by kernel_rfl) (by kernel_rfl) (by kernel_rfl) (fun _ _ _ h=>h) S0 (fun x hx=>?_) (by simp only [Act.put,qa,qb,qc];rfl) ?_
   ·go_simp;try (with_reducible rfl)
   refine Og.held_take 6 ({ dst:=some 30,op:=Go.Op.load 3 (Go.Operand.tmp 29),type:=3,pos:= "ref.go:331",after:=#[{ on:=5,ground:=Go.Ground.data }],guard:=none }) (.int .i64 (p.1:Int)) _ rfl rfl (by kernel_rfl) (by kernel_rfl) (by kernel_rfl) (fun _ _ _ h=>h) S0 (fun x hx=>?_) (by simp only [Act.put,qa,qb,qc];rfl) ?_
   ·exact Og.load_run 3 (.tmp 29) rfl ⟨gp,op+k * 2,none⟩ (by kernel_rfl) (LP0.out _ hx)
   refine Og.held_take 7 ({ dst:=some 31,op:=Go.Op.indexAddr 22 (Go.Operand.tmp 25) (Go.Operand.tmp 30),type:=0,pos:= "ref.go:331",after:=#[{ on:=1,ground:=Go.Ground.data },{ on:=6,ground:=Go.Ground.data }],guard:=none }) (.pointer (some ⟨g,o+p.1 * 13,none⟩)) _ rfl rfl (by kernel_rfl) (by kernel_rfl) (by kernel_rfl) (fun _ _ _ h=>h) S0 (fun x hx=>?_) (by simp only [Act.put,qa,qb,qc];rfl) ?_
   ·go_simp;try (with_reducible rfl)
   refine Og.held_take 8 ({ dst:=some 32,op:=Go.Op.load 48 (Go.Operand.tmp 31),type:=48,pos:= "ref.go:331",after:=#[{ on:=7,ground:=Go.Ground.data }],guard:=none }) (.agg (Ev.cells e1).toArray) _ rfl rfl (by kernel_rfl) (by kernel_rfl) (by kernel_rfl) (fun _ _ _ h=>h) S0 (fun x hx=>?_) (by simp only [Act.put,qa,qb,qc];rfl) ?_
   ·exact Og.load_run 48 (.tmp 31) rfl ⟨g,o+p.1 * 13,none⟩ (by kernel_rfl) (LX.out _ hx)
   refine Og.held_take 9 ({ dst:=some 33,op:=Go.Op.fieldAddr 26 (Go.Operand.tmp 1) 0,type:=0,pos:= "ref.go:331",after:=#[{ on:=20,ground:=Go.Ground.gcOnly Go.Departure.lateStores }],guard:=none }) (.pointer (some ⟨xb,0,none⟩)) _ rfl rfl (by kernel_rfl) (by kernel_rfl) (by kernel_rfl) (fun _ _ _ h=>h) S0 (fun x hx=>?_) (by simp only [Act.put,qa,qb,qc];rfl) ?_
   ·go_simp;try (with_reducible rfl)
   refine Og.held_take 10 ({ dst:=some 34,op:=Go.Op.load 22 (Go.Operand.tmp 33),type:=22,pos:= "ref.go:331",after:=#[{ on:=9,ground:=Go.Ground.data },{ on:=20,ground:=Go.Ground.gcOnly Go.Departure.lateStores }],guard:=none }) (.slice (some ⟨g,o,none⟩) x.ev.length x.ce) _ rfl rfl (by kernel_rfl) (by kernel_rfl) (by kernel_rfl) (fun _ _ _ h=>h) S0 (fun x hx=>?_) (by simp only [Act.put,qa,qb,qc];rfl) ?_
   ·exact Og.load_run 22 (.tmp 33) rfl ⟨xb,0,none⟩ (by kernel_rfl) (LB_.out _ hx)
   refine Og.held_take 11 ({ dst:=some 35,op:=Go.Op.move (Go.Operand.tmp 4),type:=37,pos:= "ref.go:331",after:=#[{ on:=20,ground:=Go.Ground.gcOnly Go.Departure.lateStores }],guard:=none }) (.slice (some ⟨gp,op,none⟩) LP.length c1) _ rfl rfl (by kernel_rfl) (by kernel_rfl) (by kernel_rfl) (fun _ _ _ h=>h) S0 (fun x hx=>?_) (by simp only [Act.put,qa,qb,qc];rfl) ?_
   ·go_simp;try (with_reducible rfl)
   refine Og.held_take 12 ({ dst:=some 36,op:=Go.Op.move (Go.Operand.tmp 5),type:=3,pos:= "ref.go:331",after:=#[{ on:=20,ground:=Go.Ground.gcOnly Go.Departure.lateStores }],guard:=none }) (.int .i64 (k:Int)) _ rfl rfl (by kernel_rfl) (by kernel_rfl) (by kernel_rfl) (fun _ _ _ h=>h) S0 (fun x hx=>?_) (by simp only [Act.put,qa,qb,qc];rfl) ?_
   ·go_simp;try (with_reducible rfl)
   refine Og.held_take 13 ({ dst:=some 37,op:=Go.Op.indexAddr 37 (Go.Operand.tmp 35) (Go.Operand.tmp 36),type:=0,pos:= "ref.go:331",after:=#[{ on:=11,ground:=Go.Ground.data },{ on:=12,ground:=Go.Ground.data },{ on:=20,ground:=Go.Ground.gcOnly Go.Departure.lateStores }],guard:=none }) (.pointer (some ⟨gp,op+k * 2,none⟩)) _ rfl rfl (by kernel_rfl) (by kernel_rfl) (by kernel_rfl) (fun _ _ _ h=>h) S0 (fun x hx=>?_) (by simp only [Act.put,qa,qb,qc];rfl) ?_
   ·go_simp;try (with_reducible rfl)
   refine Og.held_take 14 ({ dst:=some 38,op:=Go.Op.fieldAddr 72 (Go.Operand.tmp 37) 1,type:=0,pos:= "ref.go:331",after:=#[{ on:=13,ground:=Go.Ground.data },{ on:=20,ground:=Go.Ground.gcOnly Go.Departure.lateStores }],guard:=none }) (.pointer (some ⟨gp,op+k * 2+1,none⟩)) _ rfl rfl (by kernel_rfl) (by kernel_rfl) (by kernel_rfl) (fun _ _ _ h=>h) S0 (fun x hx=>?_) (by simp only [Act.put,qa,qb,qc];rfl) ?_
   ·go_simp;try (with_reducible rfl)
   refine Og.held_take 15 ({ dst:=some 39,op:=Go.Op.load 3 (Go.Operand.tmp 38),type:=3,pos:= "ref.go:331",after:=#[{ on:=14,ground:=Go.Ground.data },{ on:=20,ground:=Go.Ground.gcOnly Go.Departure.lateStores }],guard:=none }) (.int .i64 (p.2:Int)) _ rfl rfl (by kernel_rfl) (by kernel_rfl) (by kernel_rfl) (fun _ _ _ h=>h) S0 (fun x hx=>?_) (by simp only [Act.put,qa,qb,qc];rfl) ?_
   ·exact Og.load_run 3 (.tmp 38) rfl ⟨gp,op+k * 2+1,none⟩ (by kernel_rfl) (LP1.out _ hx)
   refine Og.held_take 16 ({ dst:=some 40,op:=Go.Op.indexAddr 22 (Go.Operand.tmp 34) (Go.Operand.tmp 39),type:=0,pos:= "ref.go:331",after:=#[{ on:=10,ground:=Go.Ground.data },{ on:=15,ground:=Go.Ground.data },{ on:=20,ground:=Go.Ground.gcOnly Go.Departure.lateStores }],guard:=none }) (.pointer (some ⟨g,o+p.2 * 13,none⟩)) _ rfl rfl (by kernel_rfl) (by kernel_rfl) (by kernel_rfl) (fun _ _ _ h=>h) S0 (fun x hx=>?_) (by simp only [Act.put,qa,qb,qc];rfl) ?_
   ·go_simp;try (with_reducible rfl)
   refine Og.held_take 17 ({ dst:=some 41,op:=Go.Op.load 48 (Go.Operand.tmp 40),type:=48,pos:= "ref.go:331",after:=#[{ on:=16,ground:=Go.Ground.data },{ on:=20,ground:=Go.Ground.gcOnly Go.Departure.lateStores }],guard:=none }) (.agg (Ev.cells e2).toArray) _ rfl rfl (by kernel_rfl) (by kernel_rfl) (by kernel_rfl) (fun _ _ _ h=>h) S0 (fun x hx=>?_) (by simp only [Act.put,qa,qb,qc];rfl) ?_
   ·exact Og.load_run 48 (.tmp 40) rfl ⟨g,o+p.2 * 13,none⟩ (by kernel_rfl) (LY.out _ hx)
   refine Og.four (p:=18) (q:=19) (s1:=20) (s2:=21) (dp:=6) (dq:=7) (x1:=32) (x2:=41) (T:=48) (Z:=(Ev.cells Ev.R0).toArray) (c1:=(Ev.cells e1).toArray) (c2:=(Ev.cells e2).toArray)
    ⟨⟨_,rfl,rfl,rfl,fun ρ w=>by kernel_rfl⟩,⟨_,rfl,rfl,rfl,fun ρ w=>by kernel_rfl⟩,⟨_,rfl,rfl,rfl,rfl⟩,⟨_,rfl,rfl,rfl,rfl⟩,(by kernel_rfl),(by kernel_rfl),(by kernel_rfl),(by kernel_rfl),(by kernel_rfl),(by kernel_rfl),(by kernel_rfl),(by kernel_rfl),(by kernel_rfl),(by kernel_rfl),(by kernel_rfl),of_decide_eq_true (by kernel_rfl),of_decide_eq_true (by kernel_rfl),(by decide),rfl,rfl,(by kernel_rfl),(by kernel_rfl),(by kernel_rfl),(by kernel_rfl)⟩ S0 ?_
   intro W g1 g2 HT
   simp only [Act.put,qa,qb,qc]
   have B7:=qH (HBR.out.trans (HT.below.mono HBR.out.size));have BT:=qH HT.below
   have ck1:W.cell? ⟨g1,1,none⟩=some (.int .i64 e1.k):=by rw [qC HT.r1];rfl
   have ck2:W.cell? ⟨g2,1,none⟩=some (.int .i64 e2.k):=by rw [qC HT.r2];rfl
   have ca1:W.cell? ⟨g1,2,none⟩=some (.int .u32 e1.a):=by rw [qC HT.r1];rfl
   have ca2:W.cell? ⟨g2,2,none⟩=some (.int .u32 e2.a):=by rw [qC HT.r2];rfl
   clear HT LB_ LP0 LP1 LX LY
   have HKR:=qH (Ev.row_below' HROW.out BT.out);have HKO:=qH (Ev.row_below' HOWN.out BT.out)
   by_cases h1:e1.k=4
   ·have hno:=HT1.out
    rw [show Md.oneA x p=false by rw [HONE.out];simp [h1]] at hno
    have HNO:=qH (show(LP.take (k+1)).filter (Md.oneA x)=(LP.take k).filter (Md.oneA x) by simpa using hno)
    clear hno
    go_wp2_with fail
    exact⟨⟨k+1,by omega,by go_num,by rw [HNO.out];exact HKR.out,B7.out,HKO.out,HAPT.out⟩,by simp [intOf];omega⟩
   ·by_cases h2:e2.k=4
    ·have hno:=HT1.out
     rw [show Md.oneA x p=false by rw [HONE.out];simp [h2]] at hno
     have HNO:=qH (show(LP.take (k+1)).filter (Md.oneA x)=(LP.take k).filter (Md.oneA x) by simpa using hno)
     clear hno
     go_wp2_with fail
     exact⟨⟨k+1,by omega,by go_num,by rw [HNO.out];exact HKR.out,B7.out,HKO.out,HAPT.out⟩,by simp [intOf];omega⟩
    ·by_cases h3:e1.a=e2.a
     ·have hyes:=HT1.out
      rw [show Md.oneA x p=true by rw [HONE.out];simp [h1,h2,h3]] at hyes
      have HYES:=qH (show(LP.take (k+1)).filter (Md.oneA x)=(LP.take k).filter (Md.oneA x)++[p] by simpa using hyes)
      clear hyes
      have HLE:=qH (show(LB++LC++LD++(LP.take k).filter (Md.oneA x)).length+1≤100001 by have:=HU.out;have:=HPL.out;simp only [List.length_append];omega)
      obtain⟨i0,hi,hz0,hz1,hz2⟩:=info_pair
      have HI:=qH hi;have HZ0:=qH hz0;have HZ1:=qH hz1;have HZ2:=qH hz2
      clear hi hz0 hz1 hz2
      have HCW:=qH (show ∀ (i:Nat) (c:Value),(Ev.pv p)[i]?=some c→W.cell? ⟨gp,op+k * 2+i,none⟩=some c from fun i c hi=>Ev.kp_below BT.out _ _ (HCP.out i c hi))
      go_wp2_with (first
       | ((with_reducible refine qG 61 ?_);refine wpList_load_at rfl 72 (.tmp 60) rfl gp (op+k * 2) (by kernel_rfl) [.int .i64 (p.1:Int),.int .i64 (p.2:Int)] _ HCW.out Tryz.underlying72 rfl (by kernel_rfl) ?_)
       | ((with_reducible refine qG 63 ?_);refine wpList_append_own_at _ rfl (.tmp 57) (.tmp 62) 37 rfl B.heap.size 72 i0 (.agg #[.int .i64 0,.int .i64 0]) 2 16 Tryz.underlying37 HI.out HZ0.out HZ1.out HZ2.out rfl (by decide) u3 _ _ rfl (HKR.out.alloc _) ⟨W.heap.size,0,none⟩ 1 1 (Ev.pv p) rfl rfl (fun j u hu=>World.news_of_block (heap_alloc_new W _) j u hu) (Ev.pv_one _) (by have:=HLE.out;unfold maxLen;omega) (by have:=HLE.out;omega) (by have:=B7.out.size;simp only [World.size_alloc];omega) ?_
          intro v' w5 hown hgrow _ hat
          have HO5:=qH hown;have HGR:=qH hgrow;have HAT:=qH hat;clear hown hgrow hat))
      have HB5:=qH (Below.grown (B7.out.alloc B7.out.size _) HGR.out (by have:=B7.out.size;simp only [World.size_alloc];omega) (fun k hk=>Ev.own_ge HKR.out hk))
      have HA5:=qH (Md.apt_app HAPT.out HAT.out (HKO.out.alloc _))
      have HO7:=qH (World.ownsRow.kept (HKO.out.alloc _) HGR.out (Md.apt_symm HAPT.out))
      go_roundw
      case rel =>
       refine⟨k+1,by omega,by go_num,?_,HB5.out,HO7.out,HA5.out⟩
       have:=HO5.out
       rw [HYES.out,← List.append_assoc,List.length_append,List.flatMap_append]
       simpa using this
      case measure=>simp [intOf];omega
     ·have hno:=HT1.out
      rw [show Md.oneA x p=false by rw [HONE.out];simp [h3]] at hno
      have HNO:=qH (show(LP.take (k+1)).filter (Md.oneA x)=(LP.take k).filter (Md.oneA x) by simpa using hno)
      clear hno
      go_wp2_with fail
      exact⟨⟨k+1,by omega,by go_num,by rw [HNO.out];exact HKR.out,B7.out,HKO.out,HAPT.out⟩,by simp [intOf];omega⟩
  ·have hke:k=LP.length:=by omega
   have hki:¬ (k:Int) < (LP.length:Int):=by omega
   have hM:LB++LC++LD++(LP.take k).filter (Md.oneA x)=Md.cohL x:=by rw [hke,List.take_length,HCOH.out]
   have hr:=HROW.out
   rw [hM] at hr
   obtain⟨A,c,hv,hp⟩:=Ev.pairs_of_row hr
   subst hv
   have hbd:∀ p ∈ Md.cohL x,p.1 < x.ev.length∧p.2 < x.ev.length:=by
    rw [HCOH.out]
    intro p hp
    rcases List.mem_append.1 hp with hp | hp
    ·rcases List.mem_append.1 hp with hp | hp
     ·rcases List.mem_append.1 hp with hp | hp
      ·exact HSLB.out.lt p hp
      ·exact HSLC.out.lt p hp
     ·exact HSLD.out.lt p hp
    ·exact HSLP.out.lt p ((List.mem_filter.1 hp).1)
   have hps:=Md.psin hp (fun p hp=>by have:=hbd p hp;omega)
   have HINR:=qH (Md.inR_pl hn64 hbd)
   have hlen:(Md.cohL x).length=(Md.gI (Md.cohL x)).length:=by simp [Md.gI]
   have HCI:=qH (circle_any x.ev.length A c (Md.gI (Md.cohL x)) HINR.out wr hps)
   rw [← hlen] at HCI
   have cx:=Ev.kp_below HBR.out _ _ HCX.out
   clear hr hp hps hM hke HROW hlen hbd
   go_wp2_with (go_at_call 37;refine HCI.out.mono ?_;rintro e w2 ⟨b,rfl,hR,hb⟩;have HRR:=qH (Md.circ_no HINR.out hR);have HB9:=qH hb;clear hR hb)
   go_ret
   exact⟨!b,rfl,Md.not_no HRR.out,B0.out.trans ((HBR.out.trans (HB9.out.mono HBR.out.size)).mono B0.out.size)⟩
end Go.Proofs.YtnjnpbabgefaeaaGreat
end
