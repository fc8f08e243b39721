import Derived.Test.YtnjnpbabgefaeaaGreatKp45
import Derived.Test.YtnjnpbabgefaeaaGreatKpH
set_option maxRecDepth 100000
set_option maxHeartbeats 8000000
set_option linter.unusedVariables false
set_option linter.unusedSimpArgs false
section
namespace Go.Proofs.YtnjnpbabgefaeaaGreat
open Go.RowKit
namespace Md
open Ev
structure Sm (w:World) (s:PL):Prop where
 hin:PairsIn w s.a s.c s.l
 len:s.l.length≤8192
 lt:∀ p ∈ s.l,p.1 < 64∧p.2 < 64
theorem Sm.kp {w w':World} {s:PL} (h:Sm w s) (hb:Below w.heap.size w w'):Sm w' s:=⟨Md.PairsIn.kp h.hin (kp_below hb),h.len,h.lt⟩
theorem rels4 {w:World} {s0 s1 s2 s3:PL} (h0:Sm w s0) (h1:Sm w s1) (h2:Sm w s2) (h3:Sm w s3) :
 RelsIn (w.alloc (.cells #[s0.v,s1.v,s2.v,s3.v] 37)) (some ⟨w.heap.size,0,none⟩) 4 [s0,s1,s2,s3]:=by
 have hb:Below w.heap.size w (w.alloc (.cells #[s0.v,s1.v,s2.v,s3.v] 37)):=(Below.refl _ _).alloc (Nat.le_refl _) _
 refine⟨fun _=>⟨w.heap.size,0,rfl,fun j v hv i c hi=>?_⟩,fun r hr=>?_,by simp,by simp,by decide⟩
 ·rw [qC (heap_alloc_new w _)]
  have hj:=(List.getElem?_eq_some_iff.1 hv).1
  simp at hj
  have one:∀ (u:Value),[u]=v→i=0∧u=c:=fun u e=>by
   rw [← e] at hi
   cases i with
   | zero=>exact⟨rfl,by simpa using hi⟩
   | succ i=>simp at hi
  obtain rfl | rfl | rfl | rfl:j=0∨j=1∨j=2∨j=3:=by omega
  ·obtain⟨rfl,rfl⟩:=one s0.v (by simpa using hv);rfl
  ·obtain⟨rfl,rfl⟩:=one s1.v (by simpa using hv);rfl
  ·obtain⟨rfl,rfl⟩:=one s2.v (by simpa using hv);rfl
  ·obtain⟨rfl,rfl⟩:=one s3.v (by simpa using hv);rfl
 ·simp at hr
  rcases hr with rfl | rfl | rfl | rfl
  ·exact⟨(h0.kp hb).hin,h0.len,h0.lt⟩
  ·exact⟨(h1.kp hb).hin,h1.len,h1.lt⟩
  ·exact⟨(h2.kp hb).hin,h2.len,h2.lt⟩
  ·exact⟨(h3.kp hb).hin,h3.len,h3.lt⟩
theorem pl_bd {is:Nat→Nat→Bool} {n:Nat}:∀ p ∈ pl is n n,p.1 < n∧p.2 < n:=fun p hp=>by have:=pl_mem.1 hp;exact⟨this.1,this.2.1⟩
theorem pl_small {is:Nat→Nat→Bool} {n:Nat} (hn:n≤64):(pl is n n).length≤4096:=Nat.le_trans (pl_len is n n) (Nat.mul_le_mul hn hn)
structure Sml (n:Nat) (L:List (Nat × Nat)):Prop where
 len:L.length≤4096
 lt:∀ p ∈ L,p.1 < n∧p.2 < n
theorem sml_pl {is:Nat→Nat→Bool} {n:Nat} (hn:n≤64):Sml n (pl is n n):=⟨pl_small hn,pl_bd⟩
theorem Sml.filter {n:Nat} {L:List (Nat × Nat)} (h:Sml n L) (f:Nat × Nat→Bool):Sml n (L.filter f):=⟨Nat.le_trans (List.length_filter_le _ _) h.len,fun p hp=>h.lt p (List.mem_filter.1 hp).1⟩
theorem Sml.sm {n:Nat} {L:List (Nat × Nat)} (h:Sml n L) (hn:n≤64) {w:World} {a:Option Addr} {c:Nat} (hp:PairsIn w a c L):Sm w ⟨a,c,L⟩:=⟨hp,Nat.le_trans h.len (by decide),fun p hq=>by have:=h.lt p hq;show p.1 < 64∧p.2 < 64;omega⟩
def flat4 (L1 L2 L3 L4:List (Nat × Nat)):List (Nat × Nat):=L1++(L2++(L3++L4))
theorem flat4_eq (a0 a1 a2 a3:Option Addr) (c0 c1 c2 c3:Nat) (L1 L2 L3 L4:List (Nat × Nat)):flat [⟨a0,c0,L1⟩,⟨a1,c1,L2⟩,⟨a2,c2,L3⟩,⟨a3,c3,L4⟩]=flat4 L1 L2 L3 L4:=by simp [flat,flat4]
theorem flat4_len {n:Nat} {L1 L2 L3 L4:List (Nat × Nat)} (h1:Sml n L1) (h2:Sml n L2) (h3:Sml n L3) (h4:Sml n L4):(flat4 L1 L2 L3 L4).length≤65536:=by
 have:=h1.len;have:=h2.len;have:=h3.len;have:=h4.len
 simp only [flat4,List.length_append];omega
theorem flat4_lt {n:Nat} {L1 L2 L3 L4:List (Nat × Nat)} (h1:Sml n L1) (h2:Sml n L2) (h3:Sml n L3) (h4:Sml n L4):∀ p ∈ flat4 L1 L2 L3 L4,p.1 < n∧p.2 < n:=fun p hp=>by
 simp only [flat4,List.mem_append] at hp
 rcases hp with h | h | h | h
 ·exact h1.lt p h
 ·exact h2.lt p h
 ·exact h3.lt p h
 ·exact h4.lt p h
end Md
theorem arrows4 {w:World} {n:Nat} (hn:n≤64) {L1 L2 L3 L4:List (Nat × Nat)} (h1:Md.Sml n L1) (h2:Md.Sml n L2) (h3:Md.Sml n L3) (h4:Md.Sml n L4) (a0 a1 a2 a3:Option Addr) (c0 c1 c2 c3:Nat) (g:Nat)
 (hr:Md.RelsIn w (some ⟨g,0,none⟩) 4 [⟨a0,c0,L1⟩,⟨a1,c1,L2⟩,⟨a2,c2,L3⟩,⟨a3,c3,L4⟩]) :
 Calls Tryz.prog 55 #[.slice (some ⟨g,0,none⟩) 4 4] w fun e w'=>∃ b m,e=.returned (.map (some b))∧Md.PSet w' b m (Md.flat4 L1 L2 L3 L4)∧Below w.heap.size w w' :=
 (arrowsOf_any (some ⟨g,0,none⟩) 4 _ w hr).mono fun e w' ⟨m,b,he,_,_,hp,hb⟩=>⟨b,m,he,by rw [Md.flat4_eq] at hp;exact hp,hb⟩
theorem arrowsInOrder_any (x:Ev.X) (q:Nat) (hc:Ev.check x=0) (w:World) (hj:Md.JIn w q x) :
 Calls Tryz.prog 40 #[.pointer (some ⟨q,0,none⟩)] w fun e w'=>∃ b n S,e=.returned (.map (some b))∧Md.PSet w' b n S∧S.length≤65536∧(∀ p,p ∈ S↔p ∈ Ev.pl (Ev.isG6 x) x.ev.length x.ev.length)∧Below w.heap.size w w':=by
 have hn64:=(Ev.check_order hc).2.2
 obtain⟨LA,hLA⟩:∃ l,Ev.pl (Or.ppo x) x.ev.length x.ev.length=l:=⟨_,rfl⟩
 obtain⟨LB,hLB⟩:∃ l,Ev.pl (Ev.isRf x) x.ev.length x.ev.length=l:=⟨_,rfl⟩
 obtain⟨LC,hLC⟩:∃ l,Ev.pl (fun a b:Nat=>Ev.isCo x (a:Int) (b:Int)) x.ev.length x.ev.length=l:=⟨_,rfl⟩
 obtain⟨LD,hLD⟩:∃ l,Ev.pl (Ev.isFr x) x.ev.length x.ev.length=l:=⟨_,rfl⟩
 have HSLA:=qH (show Md.Sml x.ev.length LA by rw [← hLA];exact Md.sml_pl hn64)
 have HSLB:=qH (show Md.Sml x.ev.length LB by rw [← hLB];exact Md.sml_pl hn64)
 have HSLC:=qH (show Md.Sml x.ev.length LC by rw [← hLC];exact Md.sml_pl hn64)
 have HSLD:=qH (show Md.Sml x.ev.length LD by rw [← hLD];exact Md.sml_pl hn64)
 have HP2:=qH (show ∀ W,Ev.XIn W x→Calls Tryz.prog 57 #[Ev.exV x] W fun e w'=>∃ a c,e=.returned (.slice a LB.length c)∧Ev.PairsIn w' a c LB∧Below W.heap.size W w' from fun W h=>by rw [← hLB,← Ev.rf_eq hc];exact rf_yes x W h hc)
 have HP3:=qH (show ∀ W,Ev.XIn W x→Calls Tryz.prog 58 #[Ev.exV x] W fun e w'=>∃ a c,e=.returned (.slice a LC.length c)∧Ev.PairsIn w' a c LC∧Below W.heap.size W w' from fun W h=>by rw [← hLC,← Ev.co_eq hc];exact co_yes x W h hc)
 have HP4:=qH (show ∀ W,Ev.XIn W x→Calls Tryz.prog 59 #[Ev.exV x] W fun e w'=>∃ a c,e=.returned (.slice a LD.length c)∧Ev.PairsIn w' a c LD∧Below W.heap.size W w' from fun W h=>by rw [← hLD,← Ev.fr_eq hc];exact fr_yes x W h hc)
 have HC:=qH hc;have HJ0:=qH hj;have HN64:=qH hn64
 have HT0:=qH (show Md.Sml x.ev.length LA from HSLA.out)
 have HSM0:=qH (show ∀ (a:Option Addr) (c:Nat) {w1:World},Ev.PairsIn w1 a c LA→Md.Sm w1 ⟨a,c,LA⟩ from fun a c _ hp=>HT0.out.sm HN64.out hp)
 have HT1:=qH (show Md.Sml x.ev.length (LB.filter (Md.twoH x)) from HSLB.out.filter _)
 have HSM1:=qH (show ∀ (a:Option Addr) (c:Nat) {w1:World},Ev.PairsIn w1 a c (LB.filter (Md.twoH x))→Md.Sm w1 ⟨a,c,(LB.filter (Md.twoH x))⟩ from fun a c _ hp=>HT1.out.sm HN64.out hp)
 have HT2:=qH (show Md.Sml x.ev.length LC from HSLC.out)
 have HSM2:=qH (show ∀ (a:Option Addr) (c:Nat) {w1:World},Ev.PairsIn w1 a c LC→Md.Sm w1 ⟨a,c,LC⟩ from fun a c _ hp=>HT2.out.sm HN64.out hp)
 have HT3:=qH (show Md.Sml x.ev.length LD from HSLD.out)
 have HSM3:=qH (show ∀ (a:Option Addr) (c:Nat) {w1:World},Ev.PairsIn w1 a c LD→Md.Sm w1 ⟨a,c,LD⟩ from fun a c _ hp=>HT3.out.sm HN64.out hp)
 have HMEM:=qH (show ∀ p,p ∈ Md.flat4 LA (LB.filter (Md.twoH x)) LC LD↔p ∈ Ev.pl (Ev.isG6 x) x.ev.length x.ev.length by
  intro p
  rw [← hLA,← hLB,← hLC,← hLD,ppo_pl hc]
  simp only [Md.flat4,List.mem_append,List.mem_filter,Ev.pl_mem,Ev.isG6,Bool.or_eq_true,Bool.and_eq_true]
  constructor
  ·rintro(h | ⟨h,h2⟩ | h | h)
   ·exact⟨h.1,h.2.1,.inl (.inl (.inl h.2.2))⟩
   ·exact⟨h.1,h.2.1,.inr ⟨h.2.2,h2⟩⟩
   ·exact⟨h.1,h.2.1,.inl (.inl (.inr h.2.2))⟩
   ·exact⟨h.1,h.2.1,.inl (.inr h.2.2)⟩
  ·rintro⟨h1,h2,((h | h) | h) | ⟨h,h3⟩⟩
   ·exact .inl ⟨h1,h2,h⟩
   ·exact .inr (.inr (.inl ⟨h1,h2,h⟩))
   ·exact .inr (.inr (.inr ⟨h1,h2,h⟩))
   ·exact .inr (.inl ⟨⟨h1,h2,h⟩,h3⟩))
 have HPP:=qH (show ∀ W,Ev.XIn W x→Calls Tryz.prog 54 #[.agg (Ev.xcells x).toArray] W fun e w'=>∃ ad c,e=.returned (.tuple #[.slice ad LA.length c,.int .i64 0])∧Ev.PairsIn w' ad c LA∧Below W.heap.size W w' from fun W h=>(oppo_any x W h).mono fun e w' ⟨hb,hr⟩=>by
  rcases hr with ⟨hn,_⟩ | ⟨_,ad,c,he,hp⟩
  ·exact absurd hc hn
  ·rw [hLA] at he hp;exact⟨ad,c,he,hp,hb⟩)
 obtain⟨cb,hcb⟩:∃ cb,cb=w.heap.size:=⟨_,rfl⟩
 obtain⟨V,hV⟩:∃ V,V=w.alloc (.cells #[.pointer (some ⟨q,0,none⟩)] 64):=⟨_,rfl⟩
 have hb0:Below w.heap.size w V:=by rw [hV];exact(Below.refl _ _).alloc (Nat.le_refl _) _
 have rb:V.heap[cb]?=some (.cells #[.pointer (some ⟨q,0,none⟩)] 64 (0,0)):=by rw [hV,hcb];exact heap_alloc_new _ _
 obtain⟨U,hU⟩:∃ U,U=V.alloc (.cells #[.slice x.ae x.ev.length x.ce,.slice x.fr.a x.fr.l.length x.fr.c,.slice x.ao x.od.length x.co] 26):=⟨_,rfl⟩
 obtain⟨eb,heb⟩:∃ eb,eb=V.heap.size:=⟨_,rfl⟩
 have hb1:Below V.heap.size V U:=by rw [hU];exact(Below.refl _ _).alloc (Nat.le_refl _) _
 have rx:U.heap[eb]?=some (.cells #[.slice x.ae x.ev.length x.ce,.slice x.fr.a x.fr.l.length x.fr.c,.slice x.ao x.od.length x.co] 26 (0,0)):=by rw [hU,heb];exact heap_alloc_new _ _
 have B1:=qH (hb0.trans (hb1.mono hb0.size))
 have cj:V.cell? ⟨cb,0,none⟩=some (.pointer (some ⟨q,0,none⟩)):=by rw [qC rb];rfl
 have RJ:=qH (hj.kp hb0).row
 have HJU:=qH ((hj.kp hb0).kp hb1)
 have HCBU:=qH (Ev.kp_below hb1 _ _ cj)
 have HRXU:=qH rx
 have HV:=qH hV;have HU:=qH hU;have HCBE:=qH hcb;have HEB:=qH heb
 clear hc hLA hLB hLC hLD hn64 hj hb0 hb1 rb rx hV hU
 go_enter Tryz.func40,Tryz.ntmps40
 clear hcb heb
 go_wp2_with (first
  | ((with_reducible refine qG 8 ?_);rw [← HV.out,← HCBE.out])
  | ((with_reducible refine qG 11 ?_);refine wpList_load_row rfl 26 (.tmp 10) rfl q (by kernel_rfl) 83 #[.slice x.ae x.ev.length x.ce,.slice x.fr.a x.fr.l.length x.fr.c,.slice x.ao x.od.length x.co] (0,0) _ RJ.out Tryz.underlying26 rfl (by kernel_rfl) ?_)
  | ((with_reducible refine qG 13 ?_);rw [← HU.out,← HEB.out])
  | ((with_reducible refine qG 13 ?_);refine wpList_load_row rfl 26 (.tmp 4) rfl eb (by kernel_rfl) 26 #[.slice x.ae x.ev.length x.ce,.slice x.fr.a x.fr.l.length x.fr.c,.slice x.ao x.od.length x.co] (0,0) _ HRXU.out Tryz.underlying26 rfl (by kernel_rfl) ?_))
 refine(HPP.out U HJU.out.xin).mono ?_
 rintro e W ⟨ad,cp,rfl,hp,hbw⟩
 have HFIRST:=qH hp
 have BW:=qH (B1.out.trans (hbw.mono B1.out.size))
 have HJ:=qH (HJU.out.kp hbw)
 have HXI:=qH HJ.out.xin
 have HCB:=qH (Ev.kp_below hbw _ _ HCBU.out)
 have HRX:=qH ((hbw.block _ (qL HRXU.out)).trans HRXU.out)
 clear hp hbw cj
 go_wp2_with fail
 refine Og.region3 (by kernel_rfl) (fun t=>([(17,0),(18,1),(19,2),(20,3),(21,4),(22,5),(23,6),(24,7),(25,8),(26,9),(27,10),(2,11)]:List (Nat × Nat)).lookup t)
  [.is (.slice ad LA.length cp),.is (.agg #[.slice x.ae x.ev.length x.ce,.slice x.fr.a x.fr.l.length x.fr.c,.slice x.ao x.od.length x.co]),.says (Md.PrS LB),.is (.func (.func 53) #[] #[.pointer (some ⟨cb,0,none⟩)]),.says (Md.PrS (LB.filter (Md.twoH x))),.is (.agg #[.slice x.ae x.ev.length x.ce,.slice x.fr.a x.fr.l.length x.fr.c,.slice x.ao x.od.length x.co]),.says (Md.PrS LC),.is (.agg #[.slice x.ae x.ev.length x.ce,.slice x.fr.a x.fr.l.length x.fr.c,.slice x.ao x.od.length x.co]),.says (Md.PrS LD),.says (fun v w=>∃ (a0 a1 a2 a3:Option Addr) (c0 c1 c2 c3 g:Nat),v=.slice (some ⟨g,0,none⟩) 4 4∧Md.RelsIn w (some ⟨g,0,none⟩) 4 [⟨a0,c0,LA⟩,⟨a1,c1,(LB.filter (Md.twoH x))⟩,⟨a2,c2,LC⟩,⟨a3,c3,LD⟩]),.says (Md.SetS (Md.flat4 LA (LB.filter (Md.twoH x)) LC LD)),.says (Md.SetS (Md.flat4 LA (LB.filter (Md.twoH x)) LC LD))]
  [true,true,true,true,true,true,true,true,true,true,true,true] (by kernel_rfl) ?_ ?_
 ·refine⟨?_,?_,?_,?_,?_,?_,?_,?_,?_,?_,?_,?_,trivial⟩
  ·refine⟨rfl,fun ρ w1 hr hd=>?_⟩
   obtain⟨d0,_⟩:=hd
   have d0:ρ (.tmp 5)=.slice ad LA.length cp:=d0
   refine(if_pos (by rfl)).mpr ?_
   refine Og.gives_is (.slice ad LA.length cp) ?_ (And.intro (Below.refl _ _) rfl)
   go_simp
  ·refine⟨rfl,fun ρ w1 hr hd=>?_⟩
   obtain⟨d0,_⟩:=hd
   have d0:ρ (.tmp 4)=.pointer (some ⟨eb,0,none⟩):=d0
   refine(if_pos (by rfl)).mpr ?_
   refine Og.gives_is (.agg #[.slice x.ae x.ev.length x.ce,.slice x.fr.a x.fr.l.length x.fr.c,.slice x.ao x.od.length x.co]) ?_ (And.intro (Below.refl _ _) rfl)
   exact Og.load_run 26 (.tmp 4) rfl ⟨eb,0,none⟩ d0 (run_loadVar_row w1 eb 26 26 #[.slice x.ae x.ev.length x.ce,.slice x.fr.a x.fr.l.length x.fr.c,.slice x.ao x.od.length x.co] (0,0) _ ((hr.block eb (qL HRX.out)).trans HRX.out) Tryz.underlying26 rfl (by kernel_rfl))
  ·refine⟨rfl,fun ρ w1 hr hd=>?_⟩
   obtain⟨d0,d1,_⟩:=hd
   have df:ρ (.func 57)=.func (.func 57) #[] #[]:=d0
   have d0:ρ (.tmp 18)=.agg #[.slice x.ae x.ev.length x.ce,.slice x.fr.a x.fr.l.length x.fr.c,.slice x.ao x.od.length x.co]:=d1
   refine(if_pos (by rfl)).mpr ?_
   refine Og.gives_call 57 #[.agg #[.slice x.ae x.ev.length x.ce,.slice x.fr.a x.fr.l.length x.fr.c,.slice x.ao x.od.length x.co]] ?_ ?_
   ·go_simp
   ·refine(HP2.out w1 (HXI.out.kp (Ev.kp_below hr))).mono ?_
    rintro r w2 ⟨a,c,rfl,hp,hb⟩
    exact⟨_,rfl,hb,w2,Below.refl _ _,a,c,rfl,hp⟩
  ·refine⟨rfl,fun ρ w1 hr hd=>?_⟩
   obtain⟨d0,_⟩:=hd
   have d0:ρ (.tmp 3)=.func (.func 53) #[] #[.pointer (some ⟨cb,0,none⟩)]:=d0
   refine(if_pos (by rfl)).mpr ?_
   refine Og.gives_is (.func (.func 53) #[] #[.pointer (some ⟨cb,0,none⟩)]) ?_ (And.intro (Below.refl _ _) rfl)
   go_simp
  ·refine⟨rfl,fun ρ w1 hr hd=>?_⟩
   obtain⟨d0,d1,d2,_⟩:=hd
   have df:ρ (.func 56)=.func (.func 56) #[] #[]:=d0
   have d0:∃ w1',Below w1'.heap.size w1' w1∧(Md.PrS LB) (ρ (.tmp 19)) w1':=d1
   have d1:ρ (.tmp 20)=.func (.func 53) #[] #[.pointer (some ⟨cb,0,none⟩)]:=d2
   refine(if_pos (by rfl)).mpr ?_
   obtain⟨w0,hb0,a,c,hv,hp⟩:=d0
   refine Og.gives_call 56 #[.slice a LB.length c,.func (.func 53) #[] #[.pointer (some ⟨cb,0,none⟩)]] ?_ ?_
   ·go_simp
   ·refine(only_any a c LB 53 #[.pointer (some ⟨cb,0,none⟩)] (Md.twoH x) w1 (Md.PairsIn.kp hp (Ev.kp_below hb0)) (Nat.le_trans HSLB.out.len (by decide)) (enters_of Tryz.func53 (by kernel_rfl) rfl) (fun W hW p hp=>twoHarts_any x q cb p (HSLB.out.lt p hp).1 (HSLB.out.lt p hp).2 W (Ev.kp_below (hr.trans (hW.mono hr.size)) _ _ HCB.out) ((HJ.out.kp hr).kp hW))).mono ?_
    rintro r w2 ⟨a2,c2,rfl,hp2,hb⟩
    exact⟨_,rfl,hb,w2,Below.refl _ _,a2,c2,rfl,hp2⟩
  ·refine⟨rfl,fun ρ w1 hr hd=>?_⟩
   obtain⟨d0,_⟩:=hd
   have d0:ρ (.tmp 4)=.pointer (some ⟨eb,0,none⟩):=d0
   refine(if_pos (by rfl)).mpr ?_
   refine Og.gives_is (.agg #[.slice x.ae x.ev.length x.ce,.slice x.fr.a x.fr.l.length x.fr.c,.slice x.ao x.od.length x.co]) ?_ (And.intro (Below.refl _ _) rfl)
   exact Og.load_run 26 (.tmp 4) rfl ⟨eb,0,none⟩ d0 (run_loadVar_row w1 eb 26 26 #[.slice x.ae x.ev.length x.ce,.slice x.fr.a x.fr.l.length x.fr.c,.slice x.ao x.od.length x.co] (0,0) _ ((hr.block eb (qL HRX.out)).trans HRX.out) Tryz.underlying26 rfl (by kernel_rfl))
  ·refine⟨rfl,fun ρ w1 hr hd=>?_⟩
   obtain⟨d0,d1,_⟩:=hd
   have df:ρ (.func 58)=.func (.func 58) #[] #[]:=d0
   have d0:ρ (.tmp 22)=.agg #[.slice x.ae x.ev.length x.ce,.slice x.fr.a x.fr.l.length x.fr.c,.slice x.ao x.od.length x.co]:=d1
   refine(if_pos (by rfl)).mpr ?_
   refine Og.gives_call 58 #[.agg #[.slice x.ae x.ev.length x.ce,.slice x.fr.a x.fr.l.length x.fr.c,.slice x.ao x.od.length x.co]] ?_ ?_
   ·go_simp
   ·refine(HP3.out w1 (HXI.out.kp (Ev.kp_below hr))).mono ?_
    rintro r w2 ⟨a,c,rfl,hp,hb⟩
    exact⟨_,rfl,hb,w2,Below.refl _ _,a,c,rfl,hp⟩
  ·refine⟨rfl,fun ρ w1 hr hd=>?_⟩
   obtain⟨d0,_⟩:=hd
   have d0:ρ (.tmp 4)=.pointer (some ⟨eb,0,none⟩):=d0
   refine(if_pos (by rfl)).mpr ?_
   refine Og.gives_is (.agg #[.slice x.ae x.ev.length x.ce,.slice x.fr.a x.fr.l.length x.fr.c,.slice x.ao x.od.length x.co]) ?_ (And.intro (Below.refl _ _) rfl)
   exact Og.load_run 26 (.tmp 4) rfl ⟨eb,0,none⟩ d0 (run_loadVar_row w1 eb 26 26 #[.slice x.ae x.ev.length x.ce,.slice x.fr.a x.fr.l.length x.fr.c,.slice x.ao x.od.length x.co] (0,0) _ ((hr.block eb (qL HRX.out)).trans HRX.out) Tryz.underlying26 rfl (by kernel_rfl))
  ·refine⟨rfl,fun ρ w1 hr hd=>?_⟩
   obtain⟨d0,d1,_⟩:=hd
   have df:ρ (.func 59)=.func (.func 59) #[] #[]:=d0
   have d0:ρ (.tmp 24)=.agg #[.slice x.ae x.ev.length x.ce,.slice x.fr.a x.fr.l.length x.fr.c,.slice x.ao x.od.length x.co]:=d1
   refine(if_pos (by rfl)).mpr ?_
   refine Og.gives_call 59 #[.agg #[.slice x.ae x.ev.length x.ce,.slice x.fr.a x.fr.l.length x.fr.c,.slice x.ao x.od.length x.co]] ?_ ?_
   ·go_simp
   ·refine(HP4.out w1 (HXI.out.kp (Ev.kp_below hr))).mono ?_
    rintro r w2 ⟨a,c,rfl,hp,hb⟩
    exact⟨_,rfl,hb,w2,Below.refl _ _,a,c,rfl,hp⟩
  ·refine⟨rfl,fun ρ w1 hr hd=>?_⟩
   obtain⟨d0,d1,d2,d3,_⟩:=hd
   have d0:ρ (.tmp 17)=.slice ad LA.length cp:=d0
   have d1:∃ w1',Below w1'.heap.size w1' w1∧(Md.PrS (LB.filter (Md.twoH x))) (ρ (.tmp 21)) w1':=d1
   have d2:∃ w1',Below w1'.heap.size w1' w1∧(Md.PrS LC) (ρ (.tmp 23)) w1':=d2
   have d3:∃ w1',Below w1'.heap.size w1' w1∧(Md.PrS LD) (ρ (.tmp 25)) w1':=d3
   refine(if_pos (by rfl)).mpr ?_
   have h0:=(HSM0.out ad cp (Md.PairsIn.kp HFIRST.out (Ev.kp_below hr)):Md.Sm w1 _)
   obtain⟨z1,hz1,a1,c1,hv1,hq1⟩:=d1
   have h1:=(HSM1.out a1 c1 (Md.PairsIn.kp hq1 (Ev.kp_below hz1)):Md.Sm w1 _)
   obtain⟨z2,hz2,a2,c2,hv2,hq2⟩:=d2
   have h2:=(HSM2.out a2 c2 (Md.PairsIn.kp hq2 (Ev.kp_below hz2)):Md.Sm w1 _)
   obtain⟨z3,hz3,a3,c3,hv3,hq3⟩:=d3
   have h3:=(HSM3.out a3 c3 (Md.PairsIn.kp hq3 (Ev.kp_below hz3)):Md.Sm w1 _)
   refine Og.gives_new (.slice (some ⟨w1.heap.size,0,none⟩) 4 4) (w':=w1.alloc (.cells #[.slice ad LA.length cp,.slice a1 (LB.filter (Md.twoH x)).length c1,.slice a2 LC.length c2,.slice a3 LD.length c3] 37)) ?_ (And.intro ((Below.refl _ _).alloc (Nat.le_refl _) _) ⟨_,Below.refl _ _,ad,a1,a2,a3,cp,c1,c2,c3,w1.heap.size,rfl,Md.rels4 h0 h1 h2 h3⟩)
   go_simp
  ·refine⟨rfl,fun ρ w1 hr hd=>?_⟩
   obtain⟨d0,d1,_⟩:=hd
   have df:ρ (.func 55)=.func (.func 55) #[] #[]:=d0
   have d0:∃ w1',Below w1'.heap.size w1' w1∧(fun v w=>∃ (a0 a1 a2 a3:Option Addr) (c0 c1 c2 c3 g:Nat),v=.slice (some ⟨g,0,none⟩) 4 4∧Md.RelsIn w (some ⟨g,0,none⟩) 4 [⟨a0,c0,LA⟩,⟨a1,c1,(LB.filter (Md.twoH x))⟩,⟨a2,c2,LC⟩,⟨a3,c3,LD⟩]) (ρ (.tmp 26)) w1':=d1
   refine(if_pos (by rfl)).mpr ?_
   obtain⟨z,hz,a0,a1,a2,a3,c0,c1,c2,c3,g,hv,hrels⟩:=d0
   refine Og.gives_call 55 #[.slice (some ⟨g,0,none⟩) 4 4] ?_ ?_
   ·go_simp
   ·refine(arrows4 HN64.out HT0.out HT1.out HT2.out HT3.out a0 a1 a2 a3 c0 c1 c2 c3 g (hrels.kp (Ev.kp_below hz))).mono ?_
    rintro r w2 ⟨b,m,rfl,hs,hb⟩
    exact⟨_,rfl,hb,w2,Below.refl _ _,b,m,rfl,hs⟩
  ·refine⟨rfl,fun ρ w1 hr hd=>?_⟩
   obtain⟨d0,_⟩:=hd
   have d0:∃ w1',Below w1'.heap.size w1' w1∧(Md.SetS (Md.flat4 LA (LB.filter (Md.twoH x)) LC LD)) (ρ (.tmp 27)) w1':=d0
   refine(if_pos (by rfl)).mpr ?_
   obtain⟨v0,hv0⟩:∃ v,ρ (.tmp 27)=v:=⟨_,rfl⟩
   rw [hv0] at d0
   refine Og.gives_is v0 ?_ (And.intro (Below.refl _ _) d0)
   go_simp
 ·intro vs w1 hbz hall
  have hend:∃ w1',Below w1'.heap.size w1' w1∧(Md.SetS (Md.flat4 LA (LB.filter (Md.twoH x)) LC LD)) (vs 11) w1':=hall 11 _ 2 rfl rfl
  obtain⟨w0,hb0,b,m,e0,hs⟩:=hend
  simp only [Og.putAll,Act.put,List.setIfInBounds_toArray,List.set_cons_zero,List.set_cons_succ,Nat.zero_add,Nat.reduceAdd,e0]
  have HSS:=qH (hs.kp hb0)
  clear hall hs e0
  go_wp2
  go_ret
  exact⟨b,m,_,rfl,HSS.out,Md.flat4_len HT0.out HT1.out HT2.out HT3.out,HMEM.out,BW.out.trans (hbz.mono BW.out.size)⟩
theorem Md.pl_Rk {x:Ev.X} {S:List (Nat × Nat)} {is:Nat→Nat→Bool} (h:∀ p,p ∈ S↔p ∈ Ev.pl is x.ev.length x.ev.length):Md.Rk (Md.gI S)↔Md.Rk (Md.gI (Ev.pl is x.ev.length x.ev.length)):=(Md.rk_same fun p=>(h p).symm).symm
theorem isOrdered_any (x:Ev.X) (q:Nat) (hc:Ev.check x=0) (w:World) (hj:Md.JIn w q x) :
 Calls Tryz.prog 49 #[.pointer (some ⟨q,0,none⟩)] w fun e w'=>∃ r:Bool,e=.returned (.bool r)∧(r=true↔Md.Rk (Md.gI (Ev.pl (Ev.isG6 x) x.ev.length x.ev.length)))∧Below w.heap.size w w':=by
 have HJ:=qH hj;have HA:=qH (arrowsInOrder_any x q hc w hj)
 have HN64:=qH (Ev.check_order hc).2.2
 clear hj hc
 go_enter Tryz.func49,Tryz.ntmps49
 go_wp2_with fail
 refine HA.out.mono ?_
 rintro e W ⟨b,n,S,rfl,hs,hl,hm,hbw⟩
 have HN:=qH (noCircle_any x q b n S hl HN64.out (fun p hp=>Md.pl_bd p ((hm p).1 hp)) W (HJ.out.kp hbw) hs)
 have HM:=qH (Md.pl_Rk hm);have BW:=qH hbw
 clear hs hl hm hbw
 go_wp2_with fail
 refine HN.out.mono ?_
 rintro e W2 ⟨r,rfl,hr,hb⟩
 have HR:=qH (hr.trans HM.out);have B2:=qH (BW.out.trans (hb.mono BW.out.size))
 clear hr hb
 go_wp2
 go_ret
 exact⟨r,rfl,HR.out,B2.out⟩
theorem isCoherent_any (x:Ev.X) (q:Nat) (hc:Ev.check x=0) (w:World) (hj:Md.JIn w q x) :
 Calls Tryz.prog 48 #[.pointer (some ⟨q,0,none⟩)] w fun e w'=>∃ r:Bool,e=.returned (.bool r)∧(r=true↔Md.Rk (Md.gI (Md.cohL x)))∧Below w.heap.size w w':=by
 have hn64:=(Ev.check_order hc).2.2
 obtain⟨LA,hLA⟩:∃ l,Ev.pl (Ev.isPo x) x.ev.length x.ev.length=l:=⟨_,rfl⟩
 obtain⟨LB,hLB⟩:∃ l,Ev.pl (Ev.isRf x) x.ev.length x.ev.length=l:=⟨_,rfl⟩
 obtain⟨LC,hLC⟩:∃ l,Ev.pl (fun a b:Nat=>Ev.isCo x (a:Int) (b:Int)) x.ev.length x.ev.length=l:=⟨_,rfl⟩
 obtain⟨LD,hLD⟩:∃ l,Ev.pl (Ev.isFr x) x.ev.length x.ev.length=l:=⟨_,rfl⟩
 have HSLA:=qH (show Md.Sml x.ev.length LA by rw [← hLA];exact Md.sml_pl hn64)
 have HSLB:=qH (show Md.Sml x.ev.length LB by rw [← hLB];exact Md.sml_pl hn64)
 have HSLC:=qH (show Md.Sml x.ev.length LC by rw [← hLC];exact Md.sml_pl hn64)
 have HSLD:=qH (show Md.Sml x.ev.length LD by rw [← hLD];exact Md.sml_pl hn64)
 have HP2:=qH (show ∀ W,Ev.XIn W x→Calls Tryz.prog 57 #[Ev.exV x] W fun e w'=>∃ a c,e=.returned (.slice a LB.length c)∧Ev.PairsIn w' a c LB∧Below W.heap.size W w' from fun W h=>by rw [← hLB,← Ev.rf_eq hc];exact rf_yes x W h hc)
 have HP3:=qH (show ∀ W,Ev.XIn W x→Calls Tryz.prog 58 #[Ev.exV x] W fun e w'=>∃ a c,e=.returned (.slice a LC.length c)∧Ev.PairsIn w' a c LC∧Below W.heap.size W w' from fun W h=>by rw [← hLC,← Ev.co_eq hc];exact co_yes x W h hc)
 have HP4:=qH (show ∀ W,Ev.XIn W x→Calls Tryz.prog 59 #[Ev.exV x] W fun e w'=>∃ a c,e=.returned (.slice a LD.length c)∧Ev.PairsIn w' a c LD∧Below W.heap.size W w' from fun W h=>by rw [← hLD,← Ev.fr_eq hc];exact fr_yes x W h hc)
 have HC:=qH hc;have HJ0:=qH hj;have HN64:=qH hn64
 have HT0:=qH (show Md.Sml x.ev.length (LA.filter (Md.oneA x)) from HSLA.out.filter _)
 have HSM0:=qH (show ∀ (a:Option Addr) (c:Nat) {w1:World},Ev.PairsIn w1 a c (LA.filter (Md.oneA x))→Md.Sm w1 ⟨a,c,(LA.filter (Md.oneA x))⟩ from fun a c _ hp=>HT0.out.sm HN64.out hp)
 have HT1:=qH (show Md.Sml x.ev.length LB from HSLB.out)
 have HSM1:=qH (show ∀ (a:Option Addr) (c:Nat) {w1:World},Ev.PairsIn w1 a c LB→Md.Sm w1 ⟨a,c,LB⟩ from fun a c _ hp=>HT1.out.sm HN64.out hp)
 have HT2:=qH (show Md.Sml x.ev.length LC from HSLC.out)
 have HSM2:=qH (show ∀ (a:Option Addr) (c:Nat) {w1:World},Ev.PairsIn w1 a c LC→Md.Sm w1 ⟨a,c,LC⟩ from fun a c _ hp=>HT2.out.sm HN64.out hp)
 have HT3:=qH (show Md.Sml x.ev.length LD from HSLD.out)
 have HSM3:=qH (show ∀ (a:Option Addr) (c:Nat) {w1:World},Ev.PairsIn w1 a c LD→Md.Sm w1 ⟨a,c,LD⟩ from fun a c _ hp=>HT3.out.sm HN64.out hp)
 have HP1:=qH (show ∀ W,Ev.XIn W x→Calls Tryz.prog 77 #[Ev.exV x] W fun e w'=>∃ a c,e=.returned (.slice a LA.length c)∧Ev.PairsIn w' a c LA∧Below W.heap.size W w' from fun W h=>by rw [← hLA,← Ev.po_eq hc];exact po_yes x W h hc)
 have HMEM:=qH (show Md.Rk (Md.gI (Md.flat4 (LA.filter (Md.oneA x)) LB LC LD))↔Md.Rk (Md.gI (Md.cohL x)) by
  refine Md.rk_same fun p=>?_
  rw [← hLA,← hLB,← hLC,← hLD]
  simp only [Md.flat4,Md.cohL,List.mem_append]
  constructor
  ·rintro(h | h | h | h)
   ·exact .inr h
   ·exact .inl (.inl (.inl h))
   ·exact .inl (.inl (.inr h))
   ·exact .inl (.inr h)
  ·rintro(((h | h) | h) | h)
   ·exact .inr (.inl h)
   ·exact .inr (.inr (.inl h))
   ·exact .inr (.inr (.inr h))
   ·exact .inl h)
 obtain⟨cb,hcb⟩:∃ cb,cb=w.heap.size:=⟨_,rfl⟩
 obtain⟨V,hV⟩:∃ V,V=w.alloc (.cells #[.pointer (some ⟨q,0,none⟩)] 64):=⟨_,rfl⟩
 have hb0:Below w.heap.size w V:=by rw [hV];exact(Below.refl _ _).alloc (Nat.le_refl _) _
 have rb:V.heap[cb]?=some (.cells #[.pointer (some ⟨q,0,none⟩)] 64 (0,0)):=by rw [hV,hcb];exact heap_alloc_new _ _
 obtain⟨U,hU⟩:∃ U,U=V.alloc (.cells #[.slice x.ae x.ev.length x.ce,.slice x.fr.a x.fr.l.length x.fr.c,.slice x.ao x.od.length x.co] 26):=⟨_,rfl⟩
 obtain⟨eb,heb⟩:∃ eb,eb=V.heap.size:=⟨_,rfl⟩
 have hb1:Below V.heap.size V U:=by rw [hU];exact(Below.refl _ _).alloc (Nat.le_refl _) _
 have rx:U.heap[eb]?=some (.cells #[.slice x.ae x.ev.length x.ce,.slice x.fr.a x.fr.l.length x.fr.c,.slice x.ao x.od.length x.co] 26 (0,0)):=by rw [hU,heb];exact heap_alloc_new _ _
 have B1:=qH (hb0.trans (hb1.mono hb0.size))
 have cj:V.cell? ⟨cb,0,none⟩=some (.pointer (some ⟨q,0,none⟩)):=by rw [qC rb];rfl
 have RJ:=qH (hj.kp hb0).row
 have HJU:=qH ((hj.kp hb0).kp hb1)
 have HCBU:=qH (Ev.kp_below hb1 _ _ cj)
 have HRXU:=qH rx
 have HV:=qH hV;have HU:=qH hU;have HCBE:=qH hcb;have HEB:=qH heb
 have HJ:=HJU;have HXI:=qH HJ.out.xin;have HCB:=HCBU;have HRX:=HRXU
 clear hc hLA hLB hLC hLD hn64 hj hb0 hb1 rb rx hV hU
 clear hcb heb
 go_enter Tryz.func48,Tryz.ntmps48
 go_wp2_with (first
  | ((with_reducible refine qG 6 ?_);rw [← HV.out,← HCBE.out])
  | ((with_reducible refine qG 9 ?_);refine wpList_load_row rfl 26 (.tmp 8) rfl q (by kernel_rfl) 83 #[.slice x.ae x.ev.length x.ce,.slice x.fr.a x.fr.l.length x.fr.c,.slice x.ao x.od.length x.co] (0,0) _ RJ.out Tryz.underlying26 rfl (by kernel_rfl) ?_))
 rw [← HU.out,← HEB.out]
 refine Og.region3 (by kernel_rfl) (fun t=>([(10,0),(11,1),(12,2),(13,3),(14,4),(15,5),(16,6),(17,7),(18,8),(19,9),(20,10),(21,11),(22,12),(23,13),(2,14)]:List (Nat × Nat)).lookup t)
  [.is (.pointer (some ⟨q,0,none⟩)),.is (.agg #[.slice x.ae x.ev.length x.ce,.slice x.fr.a x.fr.l.length x.fr.c,.slice x.ao x.od.length x.co]),.says (Md.PrS LA),.is (.func (.func 74) #[] #[.pointer (some ⟨cb,0,none⟩)]),.says (Md.PrS (LA.filter (Md.oneA x))),.is (.agg #[.slice x.ae x.ev.length x.ce,.slice x.fr.a x.fr.l.length x.fr.c,.slice x.ao x.od.length x.co]),.says (Md.PrS LB),.is (.agg #[.slice x.ae x.ev.length x.ce,.slice x.fr.a x.fr.l.length x.fr.c,.slice x.ao x.od.length x.co]),.says (Md.PrS LC),.is (.agg #[.slice x.ae x.ev.length x.ce,.slice x.fr.a x.fr.l.length x.fr.c,.slice x.ao x.od.length x.co]),.says (Md.PrS LD),.says (fun v w=>∃ (a0 a1 a2 a3:Option Addr) (c0 c1 c2 c3 g:Nat),v=.slice (some ⟨g,0,none⟩) 4 4∧Md.RelsIn w (some ⟨g,0,none⟩) 4 [⟨a0,c0,(LA.filter (Md.oneA x))⟩,⟨a1,c1,LB⟩,⟨a2,c2,LC⟩,⟨a3,c3,LD⟩]),.says (Md.SetS (Md.flat4 (LA.filter (Md.oneA x)) LB LC LD)),.says (Md.BoolS (Md.Rk (Md.gI (Md.flat4 (LA.filter (Md.oneA x)) LB LC LD)))),.says (Md.BoolS (Md.Rk (Md.gI (Md.flat4 (LA.filter (Md.oneA x)) LB LC LD))))]
  [true,true,true,true,true,true,true,true,true,true,true,true,true,true,true] (by kernel_rfl) ?_ ?_
 ·refine⟨?_,?_,?_,?_,?_,?_,?_,?_,?_,?_,?_,?_,?_,?_,?_,trivial⟩
  ·refine⟨rfl,fun ρ w1 hr hd=>?_⟩
   obtain⟨d0,_⟩:=hd
   have d0:ρ (.tmp 1)=.pointer (some ⟨cb,0,none⟩):=d0
   refine(if_pos (by rfl)).mpr ?_
   refine Og.gives_is (.pointer (some ⟨q,0,none⟩)) ?_ (And.intro (Below.refl _ _) rfl)
   exact Og.load_run 64 (.tmp 1) rfl ⟨cb,0,none⟩ d0 (ld_cell Tryz.isAgg64 (Ev.kp_below hr _ _ HCB.out))
  ·refine⟨rfl,fun ρ w1 hr hd=>?_⟩
   obtain⟨d0,_⟩:=hd
   have d0:ρ (.tmp 4)=.pointer (some ⟨eb,0,none⟩):=d0
   refine(if_pos (by rfl)).mpr ?_
   refine Og.gives_is (.agg #[.slice x.ae x.ev.length x.ce,.slice x.fr.a x.fr.l.length x.fr.c,.slice x.ao x.od.length x.co]) ?_ (And.intro (Below.refl _ _) rfl)
   exact Og.load_run 26 (.tmp 4) rfl ⟨eb,0,none⟩ d0 (run_loadVar_row w1 eb 26 26 #[.slice x.ae x.ev.length x.ce,.slice x.fr.a x.fr.l.length x.fr.c,.slice x.ao x.od.length x.co] (0,0) _ ((hr.block eb (qL HRX.out)).trans HRX.out) Tryz.underlying26 rfl (by kernel_rfl))
  ·refine⟨rfl,fun ρ w1 hr hd=>?_⟩
   obtain⟨d0,d1,_⟩:=hd
   have df:ρ (.func 77)=.func (.func 77) #[] #[]:=d0
   have d0:ρ (.tmp 11)=.agg #[.slice x.ae x.ev.length x.ce,.slice x.fr.a x.fr.l.length x.fr.c,.slice x.ao x.od.length x.co]:=d1
   refine(if_pos (by rfl)).mpr ?_
   refine Og.gives_call 77 #[.agg #[.slice x.ae x.ev.length x.ce,.slice x.fr.a x.fr.l.length x.fr.c,.slice x.ao x.od.length x.co]] ?_ ?_
   ·go_simp
   ·refine(HP1.out w1 (HXI.out.kp (Ev.kp_below hr))).mono ?_
    rintro r w2 ⟨a,c,rfl,hp,hb⟩
    exact⟨_,rfl,hb,w2,Below.refl _ _,a,c,rfl,hp⟩
  ·refine⟨rfl,fun ρ w1 hr hd=>?_⟩
   obtain⟨d0,_⟩:=hd
   have d0:ρ (.tmp 3)=.func (.func 74) #[] #[.pointer (some ⟨cb,0,none⟩)]:=d0
   refine(if_pos (by rfl)).mpr ?_
   refine Og.gives_is (.func (.func 74) #[] #[.pointer (some ⟨cb,0,none⟩)]) ?_ (And.intro (Below.refl _ _) rfl)
   go_simp
  ·refine⟨rfl,fun ρ w1 hr hd=>?_⟩
   obtain⟨d0,d1,d2,_⟩:=hd
   have df:ρ (.func 56)=.func (.func 56) #[] #[]:=d0
   have d0:∃ w1',Below w1'.heap.size w1' w1∧(Md.PrS LA) (ρ (.tmp 12)) w1':=d1
   have d1:ρ (.tmp 13)=.func (.func 74) #[] #[.pointer (some ⟨cb,0,none⟩)]:=d2
   refine(if_pos (by rfl)).mpr ?_
   obtain⟨w0,hb0,a,c,hv,hp⟩:=d0
   refine Og.gives_call 56 #[.slice a LA.length c,.func (.func 74) #[] #[.pointer (some ⟨cb,0,none⟩)]] ?_ ?_
   ·go_simp
   ·refine(only_any a c LA 74 #[.pointer (some ⟨cb,0,none⟩)] (Md.oneA x) w1 (Md.PairsIn.kp hp (Ev.kp_below hb0)) (Nat.le_trans HSLA.out.len (by decide)) (enters_of Tryz.func74 (by kernel_rfl) rfl) (fun W hW p hp=>oneAddress_any x q cb p (HSLA.out.lt p hp).1 (HSLA.out.lt p hp).2 W (Ev.kp_below (hr.trans (hW.mono hr.size)) _ _ HCB.out) ((HJ.out.kp hr).kp hW))).mono ?_
    rintro r w2 ⟨a2,c2,rfl,hp2,hb⟩
    exact⟨_,rfl,hb,w2,Below.refl _ _,a2,c2,rfl,hp2⟩
  ·refine⟨rfl,fun ρ w1 hr hd=>?_⟩
   obtain⟨d0,_⟩:=hd
   have d0:ρ (.tmp 4)=.pointer (some ⟨eb,0,none⟩):=d0
   refine(if_pos (by rfl)).mpr ?_
   refine Og.gives_is (.agg #[.slice x.ae x.ev.length x.ce,.slice x.fr.a x.fr.l.length x.fr.c,.slice x.ao x.od.length x.co]) ?_ (And.intro (Below.refl _ _) rfl)
   exact Og.load_run 26 (.tmp 4) rfl ⟨eb,0,none⟩ d0 (run_loadVar_row w1 eb 26 26 #[.slice x.ae x.ev.length x.ce,.slice x.fr.a x.fr.l.length x.fr.c,.slice x.ao x.od.length x.co] (0,0) _ ((hr.block eb (qL HRX.out)).trans HRX.out) Tryz.underlying26 rfl (by kernel_rfl))
  ·refine⟨rfl,fun ρ w1 hr hd=>?_⟩
   obtain⟨d0,d1,_⟩:=hd
   have df:ρ (.func 57)=.func (.func 57) #[] #[]:=d0
   have d0:ρ (.tmp 15)=.agg #[.slice x.ae x.ev.length x.ce,.slice x.fr.a x.fr.l.length x.fr.c,.slice x.ao x.od.length x.co]:=d1
   refine(if_pos (by rfl)).mpr ?_
   refine Og.gives_call 57 #[.agg #[.slice x.ae x.ev.length x.ce,.slice x.fr.a x.fr.l.length x.fr.c,.slice x.ao x.od.length x.co]] ?_ ?_
   ·go_simp
   ·refine(HP2.out w1 (HXI.out.kp (Ev.kp_below hr))).mono ?_
    rintro r w2 ⟨a,c,rfl,hp,hb⟩
    exact⟨_,rfl,hb,w2,Below.refl _ _,a,c,rfl,hp⟩
  ·refine⟨rfl,fun ρ w1 hr hd=>?_⟩
   obtain⟨d0,_⟩:=hd
   have d0:ρ (.tmp 4)=.pointer (some ⟨eb,0,none⟩):=d0
   refine(if_pos (by rfl)).mpr ?_
   refine Og.gives_is (.agg #[.slice x.ae x.ev.length x.ce,.slice x.fr.a x.fr.l.length x.fr.c,.slice x.ao x.od.length x.co]) ?_ (And.intro (Below.refl _ _) rfl)
   exact Og.load_run 26 (.tmp 4) rfl ⟨eb,0,none⟩ d0 (run_loadVar_row w1 eb 26 26 #[.slice x.ae x.ev.length x.ce,.slice x.fr.a x.fr.l.length x.fr.c,.slice x.ao x.od.length x.co] (0,0) _ ((hr.block eb (qL HRX.out)).trans HRX.out) Tryz.underlying26 rfl (by kernel_rfl))
  ·refine⟨rfl,fun ρ w1 hr hd=>?_⟩
   obtain⟨d0,d1,_⟩:=hd
   have df:ρ (.func 58)=.func (.func 58) #[] #[]:=d0
   have d0:ρ (.tmp 17)=.agg #[.slice x.ae x.ev.length x.ce,.slice x.fr.a x.fr.l.length x.fr.c,.slice x.ao x.od.length x.co]:=d1
   refine(if_pos (by rfl)).mpr ?_
   refine Og.gives_call 58 #[.agg #[.slice x.ae x.ev.length x.ce,.slice x.fr.a x.fr.l.length x.fr.c,.slice x.ao x.od.length x.co]] ?_ ?_
   ·go_simp
   ·refine(HP3.out w1 (HXI.out.kp (Ev.kp_below hr))).mono ?_
    rintro r w2 ⟨a,c,rfl,hp,hb⟩
    exact⟨_,rfl,hb,w2,Below.refl _ _,a,c,rfl,hp⟩
  ·refine⟨rfl,fun ρ w1 hr hd=>?_⟩
   obtain⟨d0,_⟩:=hd
   have d0:ρ (.tmp 4)=.pointer (some ⟨eb,0,none⟩):=d0
   refine(if_pos (by rfl)).mpr ?_
   refine Og.gives_is (.agg #[.slice x.ae x.ev.length x.ce,.slice x.fr.a x.fr.l.length x.fr.c,.slice x.ao x.od.length x.co]) ?_ (And.intro (Below.refl _ _) rfl)
   exact Og.load_run 26 (.tmp 4) rfl ⟨eb,0,none⟩ d0 (run_loadVar_row w1 eb 26 26 #[.slice x.ae x.ev.length x.ce,.slice x.fr.a x.fr.l.length x.fr.c,.slice x.ao x.od.length x.co] (0,0) _ ((hr.block eb (qL HRX.out)).trans HRX.out) Tryz.underlying26 rfl (by kernel_rfl))
  ·refine⟨rfl,fun ρ w1 hr hd=>?_⟩
   obtain⟨d0,d1,_⟩:=hd
   have df:ρ (.func 59)=.func (.func 59) #[] #[]:=d0
   have d0:ρ (.tmp 19)=.agg #[.slice x.ae x.ev.length x.ce,.slice x.fr.a x.fr.l.length x.fr.c,.slice x.ao x.od.length x.co]:=d1
   refine(if_pos (by rfl)).mpr ?_
   refine Og.gives_call 59 #[.agg #[.slice x.ae x.ev.length x.ce,.slice x.fr.a x.fr.l.length x.fr.c,.slice x.ao x.od.length x.co]] ?_ ?_
   ·go_simp
   ·refine(HP4.out w1 (HXI.out.kp (Ev.kp_below hr))).mono ?_
    rintro r w2 ⟨a,c,rfl,hp,hb⟩
    exact⟨_,rfl,hb,w2,Below.refl _ _,a,c,rfl,hp⟩
  ·refine⟨rfl,fun ρ w1 hr hd=>?_⟩
   obtain⟨d0,d1,d2,d3,_⟩:=hd
   have d0:∃ w1',Below w1'.heap.size w1' w1∧(Md.PrS (LA.filter (Md.oneA x))) (ρ (.tmp 14)) w1':=d0
   have d1:∃ w1',Below w1'.heap.size w1' w1∧(Md.PrS LB) (ρ (.tmp 16)) w1':=d1
   have d2:∃ w1',Below w1'.heap.size w1' w1∧(Md.PrS LC) (ρ (.tmp 18)) w1':=d2
   have d3:∃ w1',Below w1'.heap.size w1' w1∧(Md.PrS LD) (ρ (.tmp 20)) w1':=d3
   refine(if_pos (by rfl)).mpr ?_
   obtain⟨z0,hz0,a0,c0,hv0,hq0⟩:=d0
   have h0:=(HSM0.out a0 c0 (Md.PairsIn.kp hq0 (Ev.kp_below hz0)):Md.Sm w1 _)
   obtain⟨z1,hz1,a1,c1,hv1,hq1⟩:=d1
   have h1:=(HSM1.out a1 c1 (Md.PairsIn.kp hq1 (Ev.kp_below hz1)):Md.Sm w1 _)
   obtain⟨z2,hz2,a2,c2,hv2,hq2⟩:=d2
   have h2:=(HSM2.out a2 c2 (Md.PairsIn.kp hq2 (Ev.kp_below hz2)):Md.Sm w1 _)
   obtain⟨z3,hz3,a3,c3,hv3,hq3⟩:=d3
   have h3:=(HSM3.out a3 c3 (Md.PairsIn.kp hq3 (Ev.kp_below hz3)):Md.Sm w1 _)
   refine Og.gives_new (.slice (some ⟨w1.heap.size,0,none⟩) 4 4) (w':=w1.alloc (.cells #[.slice a0 (LA.filter (Md.oneA x)).length c0,.slice a1 LB.length c1,.slice a2 LC.length c2,.slice a3 LD.length c3] 37)) ?_ (And.intro ((Below.refl _ _).alloc (Nat.le_refl _) _) ⟨_,Below.refl _ _,a0,a1,a2,a3,c0,c1,c2,c3,w1.heap.size,rfl,Md.rels4 h0 h1 h2 h3⟩)
   go_simp
  ·refine⟨rfl,fun ρ w1 hr hd=>?_⟩
   obtain⟨d0,d1,_⟩:=hd
   have df:ρ (.func 55)=.func (.func 55) #[] #[]:=d0
   have d0:∃ w1',Below w1'.heap.size w1' w1∧(fun v w=>∃ (a0 a1 a2 a3:Option Addr) (c0 c1 c2 c3 g:Nat),v=.slice (some ⟨g,0,none⟩) 4 4∧Md.RelsIn w (some ⟨g,0,none⟩) 4 [⟨a0,c0,(LA.filter (Md.oneA x))⟩,⟨a1,c1,LB⟩,⟨a2,c2,LC⟩,⟨a3,c3,LD⟩]) (ρ (.tmp 21)) w1':=d1
   refine(if_pos (by rfl)).mpr ?_
   obtain⟨z,hz,a0,a1,a2,a3,c0,c1,c2,c3,g,hv,hrels⟩:=d0
   refine Og.gives_call 55 #[.slice (some ⟨g,0,none⟩) 4 4] ?_ ?_
   ·go_simp
   ·refine(arrows4 HN64.out HT0.out HT1.out HT2.out HT3.out a0 a1 a2 a3 c0 c1 c2 c3 g (hrels.kp (Ev.kp_below hz))).mono ?_
    rintro r w2 ⟨b,m,rfl,hs,hb⟩
    exact⟨_,rfl,hb,w2,Below.refl _ _,b,m,rfl,hs⟩
  ·refine⟨rfl,fun ρ w1 hr hd=>?_⟩
   obtain⟨d0,d1,d2,_⟩:=hd
   have df:ρ (.func 76)=.func (.func 76) #[] #[]:=d0
   have d0:ρ (.tmp 10)=.pointer (some ⟨q,0,none⟩):=d1
   have d1:∃ w1',Below w1'.heap.size w1' w1∧(Md.SetS (Md.flat4 (LA.filter (Md.oneA x)) LB LC LD)) (ρ (.tmp 22)) w1':=d2
   refine(if_pos (by rfl)).mpr ?_
   obtain⟨z,hz,b,m,hv,hs⟩:=d1
   refine Og.gives_call 76 #[.pointer (some ⟨q,0,none⟩),.map (some b)] ?_ ?_
   ·go_simp
   ·refine(noCircle_any x q b m (Md.flat4 (LA.filter (Md.oneA x)) LB LC LD) (Md.flat4_len HT0.out HT1.out HT2.out HT3.out) HN64.out (Md.flat4_lt HT0.out HT1.out HT2.out HT3.out) w1 (HJ.out.kp hr) (hs.kp hz)).mono ?_
    rintro r w2 ⟨r0,rfl,h0,hb⟩
    exact⟨_,rfl,hb,w2,Below.refl _ _,r0,rfl,h0⟩
  ·refine⟨rfl,fun ρ w1 hr hd=>?_⟩
   obtain⟨d0,_⟩:=hd
   have d0:∃ w1',Below w1'.heap.size w1' w1∧(Md.BoolS (Md.Rk (Md.gI (Md.flat4 (LA.filter (Md.oneA x)) LB LC LD)))) (ρ (.tmp 23)) w1':=d0
   refine(if_pos (by rfl)).mpr ?_
   obtain⟨v0,hv0⟩:∃ v,ρ (.tmp 23)=v:=⟨_,rfl⟩
   rw [hv0] at d0
   refine Og.gives_is v0 ?_ (And.intro (Below.refl _ _) d0)
   go_simp
 ·intro vs w1 hbz hall
  have hend:∃ w1',Below w1'.heap.size w1' w1∧(Md.BoolS (Md.Rk (Md.gI (Md.flat4 (LA.filter (Md.oneA x)) LB LC LD)))) (vs 14) w1':=hall 14 _ 2 rfl rfl
  obtain⟨w0,hb0,r0,e0,hs⟩:=hend
  simp only [Og.putAll,Act.put,List.setIfInBounds_toArray,List.set_cons_zero,List.set_cons_succ,Nat.zero_add,Nat.reduceAdd,e0]
  have HSS:=qH hs
  clear hall hs e0 cj
  go_wp2
  go_ret
  exact⟨r0,rfl,HSS.out.trans HMEM.out,B1.out.trans (hbz.mono B1.out.size)⟩
end Go.Proofs.YtnjnpbabgefaeaaGreat
end
