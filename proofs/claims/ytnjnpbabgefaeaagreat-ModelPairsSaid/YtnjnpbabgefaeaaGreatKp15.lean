import Derived.Test.YtnjnpbabgefaeaaGreatKp10
import Derived.Test.YtnjnpbabgefaeaaGreatKp01
import Derived.Deep.AppendLies
import Derived.Test.YtnjnpbabgefaeaaGreatKp08
import Derived.WalkMore
import Derived.ScopeJumps
import Derived.Test.YtnjnpbabgefaeaaGreatKp11
import Derived.Test.YtnjnpbabgefaeaaGreatKp12
import Derived.Test.YtnjnpbabgefaeaaGreatKp13
import Derived.Test.YtnjnpbabgefaeaaGreatKp14
import Derived.Test.YtnjnpbabgefaeaaGreatKpH
set_option maxRecDepth 100000
set_option maxHeartbeats 2000000
set_option linter.unusedVariables false
set_option linter.unusedSimpArgs false
section
namespace Go.Proofs.YtnjnpbabgefaeaaGreat
open Go.RowKit Go.Maps
theorem zero_look (w:World):(zeroValue 167).run Tryz.prog w=.ok (.int .i64 0) w:=by kernel_rfl
namespace Ev
structure DEnv where
 ps:List (Int × Int)
 n:Nat
 W0:World
 W1:World
 cL:Nat
 cN:Nat
 cF:Nat
 mb:Nat
 nb:Nat
def DEnv.clo (e:DEnv):Value:=.func (.func 149) #[] #[.pointer (some ⟨e.cL,0,none⟩),.pointer (some ⟨e.cN,0,none⟩),.pointer (some ⟨e.cF,0,none⟩)]
structure DOk (e:DEnv):Prop where
 r:InR e.n e.ps
 next:NextIn e.W0 e.nb (succs e.ps)
 b0:Below e.W0.heap.size e.W0 e.W1
 kL:e.W1.cell? ⟨e.cL,0,none⟩=some (.map (some e.mb))
 kN:e.W1.cell? ⟨e.cN,0,none⟩=some (.map (some e.nb))
 kF:e.W1.cell? ⟨e.cF,0,none⟩=some e.clo
 mb0:e.W0.heap.size≤e.mb
 nL:e.cL≠e.mb
 nN:e.cN≠e.mb
 nF:e.cF≠e.mb
structure DIn (e:DEnv) (w:World) (L:Int→Int) (l:List Int):Prop where
 g:e.W1.grownBy w (some e.mb)
 m:∃ (D:DataW Unit) (k:Nat),w.ownsMap Tryz.prog 3 (plainElem Tryz.prog 167) e.mb k D∧(∀ x,i64B x→D.atKey (.int .i64 x) (.lit (.int .i64 0))=.lit (.int .i64 (L x)))∧k+pot L e.n≤2 * e.n
 ok:Looked e.ps L l
theorem cell_far {a w:World} {mb c:Nat} {v:Value} (g:a.grownBy w (some mb)) (h:a.cell? ⟨c,0,none⟩=some v) (hn:c≠mb):w.cell? ⟨c,0,none⟩=some v :=
 (g.cell_far _ (World.block_lt_of_cell? a _ h) (by intro e;injection e with e;exact hn e)).trans h
theorem kp_map {w w':World} {P:Program} {k:TypeId} {R:Value→Option (DataW Unit × List MemPlace)} {mb n:Nat} {D:DataW Unit} (h:w.ownsMap P k R mb n D) (g:w.grownBy w' (some mb)):Kp w w':=fun p v hp=>by
 obtain⟨es,clock,hb,_⟩:=h
 have hne:p.block≠mb:=by
  intro e
  unfold World.cell? at hp
  rw [e,hb] at hp
  simp at hp
 exact(g.cell_far p (World.block_lt_of_cell? w p hp) (by intro e;injection e with e;exact hne e)).trans hp
theorem grown_trans {a b c:World} {mb:Nat} (h:a.grownBy b (some mb)) (k:b.grownBy c (some mb)):a.grownBy c (some mb):=h.andThen k fun _ e=>.inr e
theorem DIn.b0 {e:DEnv} {w:World} {L:Int→Int} {l:List Int} (h:DIn e w L l) (ho:DOk e):Below e.W0.heap.size e.W0 w :=
 ho.b0.grown h.g ho.b0.size (fun k hk=>by cases hk;exact ho.mb0)
theorem DIn.look {e:DEnv} {w:World} {L:Int→Int} {l:List Int} (h:DIn e w L l) {p:Int} (hp:i64B p):(Instr.lookup 166 (.map (some e.mb)) (.int .i64 p) false).run Tryz.prog w=.ok (.int .i64 (L p)) w:=by
 obtain⟨D,k,ho,hD,_⟩:=h.m
 obtain⟨c',hrun,hat',_⟩:=ho.lookup_int law_int Tryz.underlying166 Tryz.underlying167 (zero_look _) (keyOf_int_mk (P:=Tryz.prog) Tryz.underlying3 (wf_of_i64 hp))
 rw [hD p hp] at hat'
 rw [hrun,← (Lit.int.inj (DataW.lit.inj hat')).2]
theorem look_step {D:DataW Unit} {L:Int→Int} {p v:Int} (hm:IsMap D) (hD:∀ x,i64B x→D.atKey (.int .i64 x) (.lit (.int .i64 0))=.lit (.int .i64 (L x))) (x:Int) (hx:i64B x) :
 (D.put (.int .i64 p) (.lit (.int .i64 v))).atKey (.int .i64 x) (.lit (.int .i64 0))=.lit (.int .i64 (upd L p v x)):=by
 by_cases h:x=p
 ·subst h;rw [Maps.atKey_put_same hm (iskey_int _ _),upd_same]
 ·rw [Maps.atKey_put_other (by intro e;injection e with _ e;exact h e),hD x hx,upd_other L h]
def LPost (e:DEnv) (w:World) (L:Int→Int) (l:List Int) (all:List Int) (yes no:Ending→Prop) (r:Ending) (w':World):Prop :=
 (yes r∧Cyc e.ps∧w.grownBy w' (some e.mb)) ∨
 (no r∧w.grownBy w' (some e.mb)∧∃ L' l',DIn e w' L' l'∧(∀ v ∈ all,v ∈ l')∧(∀ v ∈ l,v ∈ l')∧(∀ x,L' x=1↔L x=1)∧pot L' e.n≤pot L e.n)
def isB (b:Bool) (r:Ending):Prop:=r=.returned (.bool b)
def isIx (r:Ending):Prop:=∃ i:Nat,r=.returned (.int .i64 (i:Int))∧i < 9223372036854775807
def isNo (r:Ending):Prop:=r=.returned (.int .i64 (-1))
def LeadsOk (e:DEnv) (m:Nat):Prop:=∀ (w:World) (L:Int→Int) (l:List Int) (p:Int),DIn e w L l→0≤p→p < e.n→(∀ u,L u=1→Path e.ps u p)→pot L e.n < m →
 Calls Tryz.prog 149 #[.int .i64 p,.pointer (some ⟨e.cL,0,none⟩),.pointer (some ⟨e.cN,0,none⟩),.pointer (some ⟨e.cF,0,none⟩)] w (LPost e w L l [p] (isB true) (isB false))
end Ev
theorem ix_any (e:Ev.DEnv) (m:Nat) (IH:Ev.LeadsOk e m) (s:Ev.Sl) (w:World) (L:Int→Int) (l:List Int) (hin:Ev.DIn e w L l) (hs:Ev.IntsIn w s) (hr:∀ v ∈ s.l,0≤v∧v < e.n) (hp:∀ v ∈ s.l,∀ u,L u=1→Ev.Path e.ps u v) (hm:Ev.pot L e.n < m) :
 Calls Tryz.prog 93 #[.slice s.a s.l.length s.c,e.clo] w (Ev.LPost e w L l s.l Ev.isIx Ev.isNo):=by
 have HIN:=qH hin;have HS:=qH hs;have HR:=qH hr;have HP:=qH hp;have HIH:=qH IH
 have hsc:=hs.2.1;have hsm:=hs.2.2.1
 clear hin hs hr hp IH
 unfold Ev.DEnv.clo
 go_enter Tryz.func93,Tryz.ntmps93
 go_wp2
 go_loopw [5,8] (fun _ i wr=>∃ k:Nat,k≤s.l.length∧i=.int .i64 (k:Int)∧w.grownBy wr (some e.mb)∧∃ L' l',Ev.DIn e wr L' l'∧(∀ j v,j < k→s.l[j]?=some v→v ∈ l')∧(∀ v ∈ l,v ∈ l')∧(∀ x,L' x=1↔L x=1)∧Ev.pot L' e.n≤Ev.pot L e.n) (fun _ i _=>s.l.length - (intOf i).toNat)
 case atStart=>exact⟨0,Nat.zero_le _,rfl,World.grownBy.refl _ _,L,l,HIN.out,fun j v hj=>absurd hj (by omega),fun v hv=>hv,fun x=>Iff.rfl,Nat.le_refl _⟩
 case round =>
  obtain⟨k,hk,rfl,hg,L',l',hd,hall,hsub,hone,hpot⟩:=hrel
  have HG:=qH hg;have HD:=qH hd;have HALL:=qH hall;have HSUB:=qH hsub;have HONE:=qH hone
  obtain⟨D0,k0,ho0,_⟩:=HIN.out.m
  have KW:=qH (Ev.kp_map ho0 hg)
  clear hg hd hall hsub hone ho0
  by_cases hlt:k < s.l.length
  ·obtain⟨v,hv⟩:∃ v,s.l[k]?=some v:=⟨_,List.getElem?_eq_getElem hlt⟩
   obtain⟨g,o,ea,hc⟩:=HS.out.at_ hv
   have hc':=KW.out _ _ hc
   have hvm:=List.mem_of_getElem? hv
   have HV:=qH hv;have HVM:=qH hvm
   have hki:(k:Int) < (s.l.length:Int):=by omega
   have CALL:=qH (HIH.out wr L' l' v HD.out (HR.out v hvm).1 (HR.out v hvm).2 (fun u hu=>HP.out v hvm u ((HONE.out u).1 hu)) (by omega))
   clear hv hvm hc
   rw [ea];clear ea
   go_wp2_with fail
   refine CALL.out.mono ?_
   intro r w2 hpost
   rcases hpost with ⟨hb,hcyc,hg2⟩ | ⟨hb,hg2,L2,l2,hd2,hall2,hsub2,hone2,hpot2⟩
   ·unfold Ev.isB at hb
    subst hb
    have HC:=qH hcyc;have HG2:=qH hg2;clear hcyc hg2
    go_wp2_with fail
    go_ret
    exact .inl ⟨⟨k,rfl,by omega⟩,HC.out,Ev.grown_trans HG.out HG2.out⟩
   ·unfold Ev.isB at hb
    subst hb
    have HD2:=qH hd2;have HA2:=qH hall2;have HS2:=qH hsub2;have HO2:=qH hone2
    have hpp:Ev.pot L2 e.n≤Ev.pot L e.n:=Nat.le_trans hpot2 hpot
    have HG2:=qH hg2
    clear hd2 hall2 hsub2 hone2 hg2
    go_wp2_with fail
    go_roundw
    case rel =>
     refine⟨k+1,by omega,by go_num,?_,L2,l2,HD2.out,fun j u hj hu=>?_,fun u hu=>HS2.out u (HSUB.out u hu),fun x=>(HO2.out x).trans (HONE.out x),hpp⟩
     ·exact Ev.grown_trans HG.out HG2.out
     ·by_cases hjk:j=k
      ·subst hjk;rw [HV.out] at hu;cases hu;exact HA2.out _ (by simp)
      ·exact HS2.out u (HALL.out j u (by omega) hu)
    case measure=>simp [intOf];omega
  ·have hki:¬ (k:Int) < (s.l.length:Int):=by omega
   go_wp2
   go_ret
   exact .inr ⟨rfl,HG.out,L',l',HD.out,fun v hv=>by
    obtain⟨j,hj⟩:=List.mem_iff_getElem?.1 hv
    exact HALL.out j v (by have:=(List.getElem?_eq_some_iff.1 hj).1;omega) hj,HSUB.out,HONE.out,hpot⟩
theorem dcontains_any (e:Ev.DEnv) (m:Nat) (IH:Ev.LeadsOk e m) (s:Ev.Sl) (w:World) (L:Int→Int) (l:List Int) (hin:Ev.DIn e w L l) (hs:Ev.IntsIn w s) (hr:∀ v ∈ s.l,0≤v∧v < e.n) (hp:∀ v ∈ s.l,∀ u,L u=1→Ev.Path e.ps u v) (hm:Ev.pot L e.n < m) :
 Calls Tryz.prog 67 #[.slice s.a s.l.length s.c,e.clo] w (Ev.LPost e w L l s.l (Ev.isB true) (Ev.isB false)):=by
 have HIX:=qH (ix_any e m IH s w L l hin hs hr hp hm)
 clear IH hin hs hr hp hm
 go_enter Tryz.func67,Tryz.ntmps67
 go_wp2_with fail
 refine HIX.out.mono ?_
 intro r w2 hpost
 rcases hpost with ⟨hb,hcyc,hg2⟩ | ⟨hb,hrest⟩
 ·unfold Ev.isIx at hb
  obtain⟨i,rfl,hi⟩:=hb
  have hi0:(0:Int)≤(i:Int):=by omega
  have HC:=qH hcyc;have HG:=qH hg2;clear hcyc hg2
  go_wp2_with fail
  go_ret
  exact .inl ⟨by first | rfl | simp [Ev.isB],HC.out,HG.out⟩
 ·unfold Ev.isNo at hb
  subst hb
  have HR:=qH hrest;clear hrest
  go_wp2_with fail
  go_ret
  exact .inr ⟨by first | rfl | simp [Ev.isB],HR.out⟩
theorem leads_step (e:Ev.DEnv) (ho:Ev.DOk e) (m:Nat) (IH:Ev.LeadsOk e m):Ev.LeadsOk e (m+1):=by
 intro w L l p hin hp0 hpn hreach hpot
 have hn64:(e.n:Int)≤64:=ho.r.2.1
 have hpb:Ev.i64B p:=⟨by omega,by omega⟩
 have HO:=qH ho;have HIN:=qH hin;have HRE:=qH hreach;have HIH:=qH IH
 have cL:=Ev.cell_far hin.g ho.kL ho.nL
 have hlk:=hin.look hpb
 have HPB:=qH hpb
 rcases hin.ok.range p with h | h | h
 ·-- not yet
  have HL0:=qH h
  rw [h] at hlk
  obtain⟨D,k,hown,hD,hkp⟩:=hin.m
  have HOWN:=qH hown;have HD:=qH hD
  have HKEY:=qH (keyOf_int_mk (P:=Tryz.prog) Tryz.underlying3 (wf_of_i64 hpb))
  have hpu:=(Ev.pot_upd L p 1 e.n).1 hp0 hpn
  have hw0:Ev.wt (L p)=2:=by rw [h];rfl
  have hw1:Ev.wt 1=1:=rfl
  rw [hw0,hw1] at hpu
  have hple:=Ev.pot_le L e.n
  have hmono:∀ w1,w.grownBy w1 (some e.mb)→w1.cell? ⟨e.cN,0,none⟩=some (.map (some e.nb))∧w1.cell? ⟨e.cF,0,none⟩=some e.clo∧w1.cell? ⟨e.cL,0,none⟩=some (.map (some e.mb)):=fun w1 g =>
   have g2:=Ev.grown_trans HIN.out.g g
   ⟨Ev.cell_far g2 HO.out.kN HO.out.nN,Ev.cell_far g2 HO.out.kF HO.out.nF,Ev.cell_far g2 HO.out.kL HO.out.nL⟩
  have HM:=qH hmono
  clear hown hD hin ho hreach IH h hpb hmono
  go_enter Tryz.func149,Tryz.ntmps149
  go_wp2_with (at_mapUpdate;clear hlk cL;refine wpList_mapUpdate_own _ rfl _ _ _ 166 rfl 3 167 law_int Tryz.underlying166 _ e.mb k D rfl HOWN.out (by unfold maxLen;omega) _ _ _ rfl rfl HKEY.out _ [] (plainElem_int Tryz.underlying167 (by decide)) ?_
               intro w1 hown1 hgrow1
               have HO1:=qH hown1
               have HG1:=qH hgrow1
               obtain⟨cN,cF,_⟩:=HM.out w1 hgrow1
               have hd1:Ev.DIn e w1 (Ev.upd L p 1) l:=⟨Ev.grown_trans HIN.out.g hgrow1,⟨_,k+1,hown1,fun x hx=>Ev.look_step HOWN.out.isMap HD.out x hx,by omega⟩,HIN.out.ok.under HL0.out⟩
               have HD1:=qH hd1
               obtain⟨S,hS,hSin,hlk2⟩:=HO.out.next w1 (hd1.b0 HO.out) p HPB.out
               have HS:=qH hS
               have HSIN:=qH hSin
               clear hown1 hgrow1 hd1 hS hSin)
  clear hlk2 cN cF
  have CALL:=qH (dcontains_any e m HIH.out S w1 (Ev.upd L p 1) l HD1.out HSIN.out
   (fun v hv=>by
     rw [HS.out] at hv
     have:=HO.out.r.2.2 _ (Ev.mem_succs.1 hv)
     exact⟨this.2.2.1,this.2.2.2⟩)
   (fun v hv u hu=>by
     rw [HS.out] at hv
     have he:=Ev.mem_succs.1 hv
     by_cases hup:u=p
     ·subst hup;exact .one he
     ·rw [Ev.upd_other L hup] at hu
      exact(HRE.out u hu).snoc he)
   (by omega))
  refine CALL.out.mono ?_
  intro r w2 hpost
  rcases hpost with ⟨hb,hcyc,hg2⟩ | ⟨hb,hg2,L2,l2,hd2,hall2,hsub2,hone2,hpot2⟩
  ·unfold Ev.isB at hb
   subst hb
   have HC:=qH hcyc;have HG2:=qH hg2;clear hcyc hg2
   go_wp2_with fail
   go_ret
   exact .inl ⟨rfl,HC.out,Ev.grown_trans HG1.out HG2.out⟩
  ·unfold Ev.isB at hb
   subst hb
   have hgg:=Ev.grown_trans HG1.out hg2
   obtain⟨_,_,cL2⟩:=HM.out w2 hgg
   have h1:L2 p=1:=(hone2 p).2 (Ev.upd_same L p 1)
   have hpu2:=(Ev.pot_upd L2 p 2 e.n).1 hp0 hpn
   have hw2:Ev.wt (L2 p)=1:=by rw [h1];rfl
   have hw3:Ev.wt 2=0:=rfl
   rw [hw2,hw3] at hpu2
   obtain⟨D2,k2,hown2,hD2,hkp2⟩:=hd2.m
   have HOWN2:=qH hown2;have HD2:=qH hD2;have HDI:=qH hd2;have HGG:=qH hgg
   have HA2:=qH hall2;have HS2:=qH hsub2;have HO2:=qH hone2
   have hple2:=Ev.pot_le L2 e.n
   clear hown2 hD2 hd2 hgg hg2 hall2 hsub2 hone2 h1
   go_wp2_with (at_mapUpdate;clear cL2;refine wpList_mapUpdate_own _ rfl _ _ _ 166 rfl 3 167 law_int Tryz.underlying166 _ e.mb k2 D2 rfl HOWN2.out (by unfold maxLen;omega) _ _ _ rfl rfl HKEY.out _ [] (plainElem_int Tryz.underlying167 (by decide)) ?_
                intro w3 hown3 hgrow3
                have HO3:=qH hown3
                have HG3:=qH hgrow3
                clear hown3 hgrow3)
   go_ret
   refine .inr ⟨rfl,Ev.grown_trans HGG.out HG3.out,Ev.upd L2 p 2,p :: l2,⟨Ev.grown_trans HDI.out.g HG3.out,⟨_,k2+1,HO3.out,fun x hx=>Ev.look_step HOWN2.out.isMap HD2.out x hx,by omega⟩,HDI.out.ok.done fun q hq=>HA2.out q (by rw [HS.out];exact Ev.mem_succs.2 hq)⟩,fun v hv=>?_,fun v hv=>List.mem_cons_of_mem _ (HS2.out v hv),fun x=>?_,by omega⟩
   ·simp at hv;subst hv;simp
   ·by_cases hx:x=p
    ·subst hx;rw [Ev.upd_same,HL0.out];constructor <;> intro h <;> cases h
    ·rw [Ev.upd_other L2 hx,HO2.out x,Ev.upd_other L hx]
 ·-- under
  have HCYC:=qH (show Ev.Cyc e.ps from ⟨p,HRE.out p h⟩)
  rw [h] at hlk
  clear hin ho hreach IH h hpb
  go_enter Tryz.func149,Tryz.ntmps149
  go_wp2
  go_ret
  exact .inl ⟨rfl,HCYC.out,World.grownBy.refl _ _⟩
 ·-- whole
  have hml:p ∈ l:=(hin.ok.two p).1 h
  have HML:=qH hml
  rw [h] at hlk
  clear hin ho hreach IH h hpb hml
  go_enter Tryz.func149,Tryz.ntmps149
  go_wp2
  go_ret
  exact .inr ⟨rfl,World.grownBy.refl _ _,L,l,HIN.out,fun v hv=>by simp at hv;subst hv;exact HML.out,fun v hv=>hv,fun x=>Iff.rfl,Nat.le_refl _⟩
theorem leads_any (e:Ev.DEnv) (ho:Ev.DOk e):∀ m,Ev.LeadsOk e m
 | 0=>fun w L l p _ _ _ _ h=>absurd h (by omega)
 | m+1=>leads_step e ho m (leads_any e ho m)
end Go.Proofs.YtnjnpbabgefaeaaGreat
end
section
namespace Go.Proofs.YtnjnpbabgefaeaaGreat
open Go.RowKit
namespace Ev
theorem nth_get {xs:List R} {k:Nat} (h:k < xs.length):nth xs k=xs[k]:=nth_some (List.getElem?_eq_getElem h)
theorem five_back {xs:List R} (h:∀ j,j < xs.length→evAt xs j=true):∀ j,j < xs.length→(nth xs j).k=5→∀ i,i≤j→(nth xs i).k=5:=by
 intro j
 induction j with
 | zero=>intro _ h5 i hi;obtain rfl:i=0:=by omega
         exact h5
 | succ j ih =>
   intro hj h5 i hi
   by_cases hij:i=j+1
   ·subst hij;exact h5
   ·have h1:=h (j+1) hj
    have h0:=h j (by omega)
    have e:((j+1:Nat):Int) - 1=(j:Int):=by omega
    unfold evAt at h1 h0
    rw [e] at h1
    simp only [Bool.and_eq_true,Bool.or_eq_true] at h1 h0
    have hf:=h1.2.resolve_left (by simp)
    have hp:(nth xs (j:Int)).k=5:=by
     apply Classical.byContradiction
     intro hne
     unfold follow at hf
     rw [if_neg (fun e=>hne e.2)] at hf
     have ha:=h1.1.1
     have hb:=h0.1.1
     unfold partsOk at ha hb
     simp only [Bool.and_eq_true] at ha hb
     have ha:=ha.1.1.1.2
     have hb:=hb.1.1.1.2
     unfold hartOk at ha hb
     rw [if_pos h5] at ha
     rw [if_neg hne] at hb
     unfold inB at hb
     simp at ha hb hf
     omega
    exact ih (by omega) hp i (by omega)
theorem beg_zero {xs:List R} (h:∀ x ∈ xs,x.k≠5):beg xs=0:=by
 unfold beg
 rw [List.length_eq_zero_iff,List.filter_eq_nil_iff]
 intro x hx;simpa using h x hx
theorem beg_pre {xs:List R} (h:∀ j,j < xs.length→evAt xs j=true) (b:Nat) (hb:b < beg xs):∃ x,xs[b]?=some x∧x.k=5:=by
 have hlen:b < xs.length:=Nat.lt_of_lt_of_le hb (beg_le xs)
 refine⟨xs[b],List.getElem?_eq_getElem hlen,?_⟩
 apply Classical.byContradiction
 intro hne
 have h1:beg xs=beg (xs.take b)+beg (xs.drop b):=by unfold beg;rw [← List.length_append,← List.filter_append,List.take_append_drop]
 have h2:beg (xs.drop b)=0:=beg_zero fun x hx h5=>by
  obtain⟨i,hi⟩:=List.mem_iff_getElem?.1 hx
  rw [List.getElem?_drop] at hi
  have hl:=(List.getElem?_eq_some_iff.1 hi).1
  have:=five_back h (b+i) hl (by rw [nth_some hi];exact h5) b (by omega)
  rw [nth_get hlen] at this
  exact hne this
 have h3:=beg_le (xs.take b)
 rw [List.length_take] at h3
 omega
theorem evs_all {xs:List R} (h:evsOk xs=true):∀ j,j < xs.length→evAt xs j=true:=by
 unfold evsOk at h
 rw [Bool.and_eq_true,List.all_eq_true] at h
 exact fun j hj=>h.1 j (List.mem_range.2 hj)
def check (x:X):Int:=if 64 < x.ev.length then 3 else if evsOk x.ev=false then 160 else if fromOk x.ev x.fr.l=false then 161 else if orderOk x.ev x.od=false then 162 else 0
end Ev
theorem jump_ret {l:Nat} {J:Act→World→Prop} {Q:Exit→Act→World→Prop} {a:Act} {w:World}:Exit.jump l J Q .ret a w=Q .ret a w:=rfl
theorem scope_ahead {P:Program} {a:Act} {w:World} {Q:Exit→Act→World→Prop} {c rest:Code} (l:Nat) (hf:findLabel c l=some rest)
 (h:c.wp P (Exit.jump l (fun a w=>rest.wp P (Exit.jump l (fun _ _=>False) Q) a w) Q) a w):(Code.scope c).wp P Q a w :=
 wp_scope_jumps l (fun a w=>rest.wp P (Exit.jump l (fun _ _=>False) Q) a w) (fun _ _=>0) hf h (fun a w hJ=>Code.wp_mono (fun e a' w' hq=>by
  cases e with
  | goto l'=>exact⟨hq.1,hq.2.elim⟩
  | normal=>exact hq
  | exit id=>exact hq
  | ret=>exact hq
  | panic ch=>exact hq
  | outgrown=>exact hq) hJ)
theorem check_any (x:Ev.X) (w:World) (hin:Ev.XIn w x) :
 Calls Tryz.prog 47 #[Ev.exV x] w fun e w'=>e=.returned (.int .i64 (Ev.check x))∧Below w.heap.size w w':=by
 have HIN:=qH hin
 have hle:=hin.ev.le;have hmax:=hin.ev.max
 clear hin
 have R0:=qH (heap_alloc_new w (.cells (Ev.xcells x).toArray 26))
 have B0:=qH ((Below.refl w.heap.size w).alloc (Nat.le_refl _) (.cells (Ev.xcells x).toArray 26))
 unfold Ev.exV Ev.xcells
 by_cases hl:64 < x.ev.length
 ·have e:Ev.check x=3:=by unfold Ev.check;rw [if_pos hl]
  have hi:(64:Int) < (x.ev.length:Int):=by omega
  rw [e];clear e hl
  go_enter Tryz.func47,Tryz.ntmps47
  go_wp2
  refine scope_ahead 0 rfl ?_
  go_wp2
  go_step3
  refine⟨rfl,?_⟩
  go_wp2
  try rw [jump_ret]
  go_ret
  exact⟨rfl,B0.out⟩
 have hi:¬ (64:Int) < (x.ev.length:Int):=by omega
 have R1:∀ W,Below (w.heap.size+1) (w.alloc (.cells (Ev.xcells x).toArray 26)) W→W.heap[w.heap.size]?=some (.cells (Ev.xcells x).toArray 26 (0,0)):=fun W h=>(h.block w.heap.size (by omega)).trans R0.out
 have RR:=qH R1;clear R1
 obtain⟨b1,hb1⟩:∃ b,Ev.evsOk x.ev=b:=⟨_,rfl⟩
 have H1:=qH hb1
 obtain⟨b2,hb2⟩:∃ b,Ev.fromOk x.ev x.fr.l=b:=⟨_,rfl⟩
 have H2:=qH hb2
 obtain⟨b3,hb3⟩:∃ b,Ev.orderOk x.ev x.od=b:=⟨_,rfl⟩
 have H3:=qH hb3
 have HRES:=qH (show Ev.check x=if b1=false then 160 else if b2=false then 161 else if b3=false then 162 else 0 by unfold Ev.check;rw [if_neg hl,hb1,hb2,hb3])
 clear hb1 hb2 hb3 hl
 have hsz:(w.alloc (.cells (Ev.xcells x).toArray 26)).heap.size=w.heap.size+1:=by simp only [World.size_alloc]
 have HSZ:=qH hsz;clear hsz
 have KW:=qH (Ev.kp_below B0.out)
 go_enter Tryz.func47,Tryz.ntmps47
 go_wp2
 refine scope_ahead 0 rfl ?_
 go_wp2_with fail
 refine(evs_any x.ae x.ce x.ev _ (HIN.out.ev.kp KW.out)).mono ?_
 rintro e W1 ⟨rfl,hb⟩
 have B1:=qH (show Below (w.heap.size+1) (w.alloc (.cells (Ev.xcells x).toArray 26)) W1 by rw [← HSZ.out];exact hb)
 clear hb
 rw [H1.out]
 cases b1
 ·go_wp2
  go_step3
  refine⟨rfl,?_⟩
  go_wp2
  try rw [jump_ret]
  go_ret
  exact⟨by rw [HRES.out];rfl,B0.out.trans (B1.out.mono (Nat.le_succ _))⟩
 have c0:W1.cell? ⟨w.heap.size,0,none⟩=some (.slice x.ae x.ev.length x.ce):=by rw [qC (RR.out W1 B1.out)];rfl
 have c1:W1.cell? ⟨w.heap.size,1,none⟩=some (.slice x.fr.a x.fr.l.length x.fr.c):=by rw [qC (RR.out W1 B1.out)];rfl
 have K1:=qH (KW.out.trans (Ev.kp_of B1.out (Nat.le_of_eq HSZ.out)))
 go_wp2_with fail
 refine(from_any x.ae x.ce x.ev x.fr _ (HIN.out.ev.kp K1.out) (HIN.out.fr.kp K1.out)).mono ?_
 rintro e W2 ⟨rfl,hb⟩
 have B2:=qH (B1.out.trans (hb.mono (by have:=B1.out.size;rw [HSZ.out] at this;exact this)))
 clear hb c0 c1
 rw [H2.out]
 cases b2
 ·go_wp2
  go_step3
  refine⟨rfl,?_⟩
  go_wp2
  try rw [jump_ret]
  go_ret
  exact⟨by rw [HRES.out];rfl,B0.out.trans (B2.out.mono (Nat.le_succ _))⟩
 have c0:W2.cell? ⟨w.heap.size,0,none⟩=some (.slice x.ae x.ev.length x.ce):=by rw [qC (RR.out W2 B2.out)];rfl
 have c1:W2.cell? ⟨w.heap.size,2,none⟩=some (.slice x.ao x.od.length x.co):=by rw [qC (RR.out W2 B2.out)];rfl
 have K2:=qH (KW.out.trans (Ev.kp_of B2.out (Nat.le_of_eq HSZ.out)))
 go_wp2_with fail
 refine(order_any x.ae x.ce x.ev x.ao x.co x.od (Ev.beg_pre (Ev.evs_all H1.out)) _ (HIN.out.ev.kp K2.out) (HIN.out.od.kp K2.out)).mono ?_
 rintro e W3 ⟨rfl,hb⟩
 have B3:=qH (B2.out.trans (hb.mono (by have:=B2.out.size;rw [HSZ.out] at this;exact this)))
 clear hb c0 c1
 rw [H3.out]
 cases b3
 ·go_wp2
  go_step3
  refine⟨rfl,?_⟩
  go_wp2
  try rw [jump_ret]
  go_ret
  exact⟨by rw [HRES.out];rfl,B0.out.trans (B3.out.mono (Nat.le_succ _))⟩
 ·go_wp2
  try rw [jump_ret]
  go_ret
  exact⟨by rw [HRES.out];rfl,B0.out.trans (B3.out.mono (Nat.le_succ _))⟩
end Go.Proofs.YtnjnpbabgefaeaaGreat
end
section
namespace Go.Proofs.YtnjnpbabgefaeaaGreat
open Go.RowKit
namespace Ev
def bareK (x:R):Bool:=(x.k==4||(x.p==0&&x.s==0))&&(!(x.k==4||x.k==5)||(!x.q&&!x.l))&&(x.k==1||x.k==2||!x.z)&&(stores x.k||x.v==0)&&(loads x.k||x.r==0)&&(x.k != 4||x.a==0)&&(x.k==2||x.k==3||x.d2.l.isEmpty)&&(decide (x.k < 4)||x.d1.l.isEmpty)&&(decide (x.k < 5)||(x.d3.l.isEmpty&&x.h==-1))
def bare (x:R):Bool:=decide (1≤x.k)&&decide (x.k≤5)&&inB x.p 4&&inB x.s 4&&bareK x
end Ev
theorem rbare_any (x:Ev.R) (w:World):Calls Tryz.prog 29 #[Ev.evV x] w fun e w'=>e=.returned (.bool (Ev.bare x))∧Below w.heap.size w w':=by
 obtain⟨h,k,a,v,r,q,l,p,s,z,d1,d2,d3⟩:=x
 have key:∀ b:Bool,Ev.bare ⟨h,k,a,v,r,q,l,p,s,z,d1,d2,d3⟩=b→(Calls Tryz.prog 29 #[Ev.evV ⟨h,k,a,v,r,q,l,p,s,z,d1,d2,d3⟩] w fun e w'=>e=.returned (.bool b)∧Below w.heap.size w w')→Calls Tryz.prog 29 #[Ev.evV ⟨h,k,a,v,r,q,l,p,s,z,d1,d2,d3⟩] w fun e w'=>e=.returned (.bool (Ev.bare ⟨h,k,a,v,r,q,l,p,s,z,d1,d2,d3⟩))∧Below w.heap.size w w':=fun b e hc=>e ▸ hc
 by_cases k0:k < 1
 ·exact key false (by simp [Ev.bare,show ¬ 1≤k by omega]) (bare_k0 w h k a v r q l p s z d1 d2 d3 (decide_eq_true k0))
 have f0:decide (k < 1)=false:=decide_eq_false k0
 by_cases k6:5 < k
 ·exact key false (by simp [Ev.bare,show ¬ k≤5 by omega]) (bare_k6 w h k a v r q l p s z d1 d2 d3 f0 (decide_eq_true k6))
 have f1:decide (5 < k)=false:=decide_eq_false k6
 by_cases p0:p < 0
 ·exact key false (by simp [Ev.bare,Ev.inB,show ¬ 0≤p by omega]) (bare_p0 w h k a v r q l p s z d1 d2 d3 f0 f1 (decide_eq_true p0))
 have f2:decide (p < 0)=false:=decide_eq_false p0
 by_cases p4:3 < p
 ·exact key false (by simp [Ev.bare,Ev.inB,show ¬ p < 4 by omega]) (bare_p4 w h k a v r q l p s z d1 d2 d3 f0 f1 f2 (decide_eq_true p4))
 have f3:decide (3 < p)=false:=decide_eq_false p4
 by_cases s0:s < 0
 ·exact key false (by simp [Ev.bare,Ev.inB,show ¬ 0≤s by omega]) (bare_s0 w h k a v r q l p s z d1 d2 d3 f0 f1 f2 f3 (decide_eq_true s0))
 have f4:decide (s < 0)=false:=decide_eq_false s0
 by_cases s4:3 < s
 ·exact key false (by simp [Ev.bare,Ev.inB,show ¬ s < 4 by omega]) (bare_s4 w h k a v r q l p s z d1 d2 d3 f0 f1 f2 f3 f4 (decide_eq_true s4))
 have f5:decide (3 < s)=false:=decide_eq_false s4
 have hp:Ev.inB p 4=true:=by unfold Ev.inB;simp;omega
 have hs:Ev.inB s 4=true:=by unfold Ev.inB;simp;omega
 have hk:k=1∨k=2∨k=3∨k=4∨k=5:=by omega
 rcases hk with rfl | rfl | rfl | rfl | rfl
 ·by_cases t:p=0
  case neg=>exact key false (by simp [Ev.bare,Ev.bareK,hp,hs,Ev.stores,Ev.loads,t]) (bare1_p w h a v r q l p s z d1 d2 d3 f2 f3 f4 f5 (by simpa using t))
  subst t
  by_cases t:s=0
  case neg=>exact key false (by simp [Ev.bare,Ev.bareK,hp,hs,Ev.stores,Ev.loads,t]) (bare1_s w h a v r q l s z d1 d2 d3 f4 f5 (by simpa using t))
  subst t
  by_cases t:v=0
  case neg=>exact key false (by simp [Ev.bare,Ev.bareK,hp,hs,Ev.stores,Ev.loads,t]) (bare1_v w h a v r q l z d1 d2 d3 (by simpa using t))
  subst t
  obtain⟨d2a,d2c,d2l⟩:=d2
  rcases d2l with _ | ⟨y,ys⟩
  case cons=>exact key false (by simp [Ev.bare,Ev.bareK,hp,hs,Ev.stores,Ev.loads]) (bare1_d2 w h a r q l z d1 ⟨d2a,d2c,y :: ys⟩ d3 (by simp only [List.length_cons];rw [beq_eq_false_iff_ne];omega))
  exact key true (by simp [Ev.bare,Ev.bareK,hp,hs,Ev.stores,Ev.loads]) (bare1_ok w h a r q l z d1 d2a d2c d3)
 ·by_cases t:p=0
  case neg=>exact key false (by simp [Ev.bare,Ev.bareK,hp,hs,Ev.stores,Ev.loads,t]) (bare2_p w h a v r q l p s z d1 d2 d3 f2 f3 f4 f5 (by simpa using t))
  subst t
  by_cases t:s=0
  case neg=>exact key false (by simp [Ev.bare,Ev.bareK,hp,hs,Ev.stores,Ev.loads,t]) (bare2_s w h a v r q l s z d1 d2 d3 f4 f5 (by simpa using t))
  subst t
  by_cases t:r=0
  case neg=>exact key false (by simp [Ev.bare,Ev.bareK,hp,hs,Ev.stores,Ev.loads,t]) (bare2_r w h a v r q l z d1 d2 d3 (by simpa using t))
  subst t
  exact key true (by simp [Ev.bare,Ev.bareK,hp,hs,Ev.stores,Ev.loads]) (bare2_ok w h a v q l z d1 d2 d3)
 ·by_cases t:p=0
  case neg=>exact key false (by simp [Ev.bare,Ev.bareK,hp,hs,Ev.stores,Ev.loads,t]) (bare3_p w h a v r q l p s z d1 d2 d3 f2 f3 f4 f5 (by simpa using t))
  subst t
  by_cases t:s=0
  case neg=>exact key false (by simp [Ev.bare,Ev.bareK,hp,hs,Ev.stores,Ev.loads,t]) (bare3_s w h a v r q l s z d1 d2 d3 f4 f5 (by simpa using t))
  subst t
  by_cases t:z=true
  ·subst t;exact key false (by simp [Ev.bare,Ev.bareK,hp,hs,Ev.stores,Ev.loads]) (bare3_z w h a v r q l d1 d2 d3)
  obtain rfl:z=false:=by simpa using t
  clear t
  exact key true (by simp [Ev.bare,Ev.bareK,hp,hs,Ev.stores,Ev.loads]) (bare3_ok w h a v r q l d1 d2 d3)
 ·by_cases t:q=true
  ·subst t;exact key false (by simp [Ev.bare,Ev.bareK,hp,hs,Ev.stores,Ev.loads]) (bare4_q w h a v r l p s z d1 d2 d3 f2 f3 f4 f5)
  obtain rfl:q=false:=by simpa using t
  clear t
  by_cases t:l=true
  ·subst t;exact key false (by simp [Ev.bare,Ev.bareK,hp,hs,Ev.stores,Ev.loads]) (bare4_l w h a v r p s z d1 d2 d3 f2 f3 f4 f5)
  obtain rfl:l=false:=by simpa using t
  clear t
  by_cases t:z=true
  ·subst t;exact key false (by simp [Ev.bare,Ev.bareK,hp,hs,Ev.stores,Ev.loads]) (bare4_z w h a v r p s d1 d2 d3 f2 f3 f4 f5)
  obtain rfl:z=false:=by simpa using t
  clear t
  by_cases t:v=0
  case neg=>exact key false (by simp [Ev.bare,Ev.bareK,hp,hs,Ev.stores,Ev.loads,t]) (bare4_v w h a v r p s d1 d2 d3 f2 f3 f4 f5 (by simpa using t))
  subst t
  by_cases t:r=0
  case neg=>exact key false (by simp [Ev.bare,Ev.bareK,hp,hs,Ev.stores,Ev.loads,t]) (bare4_r w h a r p s d1 d2 d3 f2 f3 f4 f5 (by simpa using t))
  subst t
  by_cases t:a=0
  case neg=>exact key false (by simp [Ev.bare,Ev.bareK,hp,hs,Ev.stores,Ev.loads,t]) (bare4_a w h a p s d1 d2 d3 f2 f3 f4 f5 (by simpa using t))
  subst t
  obtain⟨d2a,d2c,d2l⟩:=d2
  rcases d2l with _ | ⟨y,ys⟩
  case cons=>exact key false (by simp [Ev.bare,Ev.bareK,hp,hs,Ev.stores,Ev.loads]) (bare4_d2 w h p s d1 ⟨d2a,d2c,y :: ys⟩ d3 f2 f3 f4 f5 (by simp only [List.length_cons];rw [beq_eq_false_iff_ne];omega))
  obtain⟨d1a,d1c,d1l⟩:=d1
  rcases d1l with _ | ⟨y,ys⟩
  case cons=>exact key false (by simp [Ev.bare,Ev.bareK,hp,hs,Ev.stores,Ev.loads]) (bare4_d1 w h p s ⟨d1a,d1c,y :: ys⟩ d2a d2c d3 f2 f3 f4 f5 (by simp only [List.length_cons];rw [beq_eq_false_iff_ne];omega))
  exact key true (by simp [Ev.bare,Ev.bareK,hp,hs,Ev.stores,Ev.loads]) (bare4_ok w h p s d1a d1c d2a d2c d3 f2 f3 f4 f5)
 ·by_cases t:p=0
  case neg=>exact key false (by simp [Ev.bare,Ev.bareK,hp,hs,Ev.stores,Ev.loads,t]) (bare5_p w h a v r q l p s z d1 d2 d3 f2 f3 f4 f5 (by simpa using t))
  subst t
  by_cases t:s=0
  case neg=>exact key false (by simp [Ev.bare,Ev.bareK,hp,hs,Ev.stores,Ev.loads,t]) (bare5_s w h a v r q l s z d1 d2 d3 f4 f5 (by simpa using t))
  subst t
  by_cases t:q=true
  ·subst t;exact key false (by simp [Ev.bare,Ev.bareK,hp,hs,Ev.stores,Ev.loads]) (bare5_q w h a v r l z d1 d2 d3)
  obtain rfl:q=false:=by simpa using t
  clear t
  by_cases t:l=true
  ·subst t;exact key false (by simp [Ev.bare,Ev.bareK,hp,hs,Ev.stores,Ev.loads]) (bare5_l w h a v r z d1 d2 d3)
  obtain rfl:l=false:=by simpa using t
  clear t
  by_cases t:z=true
  ·subst t;exact key false (by simp [Ev.bare,Ev.bareK,hp,hs,Ev.stores,Ev.loads]) (bare5_z w h a v r d1 d2 d3)
  obtain rfl:z=false:=by simpa using t
  clear t
  by_cases t:r=0
  case neg=>exact key false (by simp [Ev.bare,Ev.bareK,hp,hs,Ev.stores,Ev.loads,t]) (bare5_r w h a v r d1 d2 d3 (by simpa using t))
  subst t
  obtain⟨d2a,d2c,d2l⟩:=d2
  rcases d2l with _ | ⟨y,ys⟩
  case cons=>exact key false (by simp [Ev.bare,Ev.bareK,hp,hs,Ev.stores,Ev.loads]) (bare5_d2 w h a v d1 ⟨d2a,d2c,y :: ys⟩ d3 (by simp only [List.length_cons];rw [beq_eq_false_iff_ne];omega))
  obtain⟨d1a,d1c,d1l⟩:=d1
  rcases d1l with _ | ⟨y,ys⟩
  case cons=>exact key false (by simp [Ev.bare,Ev.bareK,hp,hs,Ev.stores,Ev.loads]) (bare5_d1 w h a v ⟨d1a,d1c,y :: ys⟩ d2a d2c d3 (by simp only [List.length_cons];rw [beq_eq_false_iff_ne];omega))
  obtain⟨d3a,d3c,d3l⟩:=d3
  rcases d3l with _ | ⟨y,ys⟩
  case cons=>exact key false (by simp [Ev.bare,Ev.bareK,hp,hs,Ev.stores,Ev.loads]) (bare5_d3 w h a v d1a d1c d2a d2c ⟨d3a,d3c,y :: ys⟩ (by simp only [List.length_cons];rw [beq_eq_false_iff_ne];omega))
  by_cases t:h=-1
  case neg=>exact key false (by simp [Ev.bare,Ev.bareK,hp,hs,Ev.stores,Ev.loads,t]) (bare5_h w h a v d1a d1c d2a d2c d3a d3c (by simpa using t))
  subst t
  exact key true (by simp [Ev.bare,Ev.bareK,hp,hs,Ev.stores,Ev.loads]) (bare5_ok w a v d1a d1c d2a d2c d3a d3c)
end Go.Proofs.YtnjnpbabgefaeaaGreat
end
