import Derived.Test.YtnjnpbabgefaeaaGreatKp20
import Derived.Test.YtnjnpbabgefaeaaGreatKp19
import Derived.Test.YtnjnpbabgefaeaaGreatKp01
import Derived.Test.YtnjnpbabgefaeaaGreatKp11
import Derived.Test.YtnjnpbabgefaeaaGreatKpH
set_option maxRecDepth 100000
set_option maxHeartbeats 4000000
set_option linter.unusedVariables false
set_option linter.unusedSimpArgs false
section
namespace Go.Proofs.YtnjnpbabgefaeaaGreat
open Go.RowKit Go.Maps
namespace Ev
def rkL (ps:List (Int × Nat)) (n:Int):Int:=ps.foldl (fun r p=>if p.1=n then (p.2:Int) else r) 0
theorem rkL_snoc (ps:List (Int × Nat)) (p:Int × Nat) (n:Int):rkL (ps++[p]) n=if p.1=n then (p.2:Int) else rkL ps n:=by unfold rkL;rw [List.foldl_append];rfl
def zs (s:Sl) (k:Nat):List (Int × Nat):=(List.range k).map fun j=>(s.l.getD j 0,j)
theorem zs_succ (s:Sl) (k:Nat):zs s (k+1)=zs s k++[(s.l.getD k 0,k)]:=by unfold zs;rw [List.range_succ,List.map_append];rfl
theorem zs_len (s:Sl) (k:Nat):(zs s k).length=k:=by unfold zs;simp
def zall (od:List Sl) (i:Nat):List (Int × Nat):=(od.take i).flatMap fun s=>zs s s.l.length
theorem zall_succ {od:List Sl} {i:Nat} {s:Sl} (h:od[i]?=some s):zall od (i+1)=zall od i++zs s s.l.length:=by
 unfold zall;rw [List.take_add_one,h];simp
theorem zall_len {od:List Sl} (h:∀ s ∈ od,s.l.length≤64):∀ i,i≤od.length→(zall od i).length≤64 * i:=by
 intro i
 induction i with
 | zero=>intro _;simp [zall]
 | succ i ih =>
   intro hi
   have hs:=List.getElem?_eq_getElem (show i < od.length by omega)
   rw [zall_succ hs,List.length_append,zs_len]
   have h1:=ih (by omega)
   have h2:=h _ (List.mem_of_getElem? hs)
   omega
def rk (x:X) (n:Int):Int:=rkL (zall x.od x.od.length) n
def bh (x:X) (s b:Int):Bool:=stores (nth x.ev b).k&&(nth x.ev b).a==(nth x.ev s).a&&decide (rk x s < rk x b)
structure RkIs (w:World) (b:Nat) (ps:List (Int × Nat)):Prop where
 ex:∃ (D:DataW Unit) (n:Nat),w.ownsMap Tryz.prog 3 (plainElem Tryz.prog 3) b n D∧n≤ps.length∧∀ x,i64B x→D.atKey (.int .i64 x) (.lit (.int .i64 0))=.lit (.int .i64 (rkL ps x))
theorem RkIs.kp {w w':World} {b:Nat} {ps:List (Int × Nat)} (h:RkIs w b ps) (hb:Below w.heap.size w w'):RkIs w' b ps:=by
 obtain⟨D,n,h1,h2,h3⟩:=h.ex
 exact⟨⟨D,n,h1.kept (World.grownBy.but_of hb) (by simp),h2,h3⟩⟩
theorem RkIs.look {w:World} {b:Nat} {ps:List (Int × Nat)} (h:RkIs w b ps) {p:Int} (hp:i64B p):(Instr.lookup 154 (.map (some b)) (.int .i64 p) false).run Tryz.prog w=.ok (.int .i64 (rkL ps p)) w:=by
 obtain⟨D,k,ho,_,hD⟩:=h.ex
 obtain⟨c',hrun,hat',_⟩:=ho.lookup_int law_int Tryz.underlying154 Tryz.underlying3 (zero_int _) (keyOf_int_mk (P:=Tryz.prog) Tryz.underlying3 (wf_of_i64 hp))
 rw [hD p hp] at hat'
 rw [hrun,← (Lit.int.inj (DataW.lit.inj hat')).2]
theorem rk_step {D:DataW Unit} {ps:List (Int × Nat)} {p:Int} {v:Nat} (hm:IsMap D) (hD:∀ x,i64B x→D.atKey (.int .i64 x) (.lit (.int .i64 0))=.lit (.int .i64 (rkL ps x))) (x:Int) (hx:i64B x) :
 (D.put (.int .i64 p) (.lit (.int .i64 (v:Int)))).atKey (.int .i64 x) (.lit (.int .i64 0))=.lit (.int .i64 (rkL (ps++[(p,v)]) x)):=by
 rw [rkL_snoc]
 by_cases h:p=x
 ·subst h;rw [Maps.atKey_put_same hm (iskey_int _ _),if_pos rfl]
 ·rw [Maps.atKey_put_other (by intro e;injection e with _ e;exact h e.symm),hD x hx,if_neg h]
structure BhIn (w:World) (q m mb:Nat) (x:X):Prop where
 bx:Bx w q x
 mc:w.heap[m]?=some (.cells #[Value.map (some mb)] 154 (0,0))
 rk:RkIs w mb (zall x.od x.od.length)
theorem BhIn.kp {w w':World} {q m mb:Nat} {x:X} (h:BhIn w q m mb x) (hb:Below w.heap.size w w'):BhIn w' q m mb x :=
 ⟨h.bx.kp hb,(hb.block m (qL h.mc)).trans h.mc,h.rk.kp hb⟩
def bhV (q m:Nat):Value:=.func (.func 137) #[] #[.pointer (some ⟨q,0,none⟩),.pointer (some ⟨m,0,none⟩)]
def BhPost (x:X) (w:World) (e:Ending) (w':World):Prop:=∃ q m mb,e=.returned (bhV q m)∧BhIn w' q m mb x∧Below w.heap.size w w'
theorem BhPost.mk {x:X} {w:World} {e:Ending} {w':World} (q m mb:Nat) (h1:e=.returned (bhV q m)) (h2:BhIn w' q m mb x) (h3:Below w.heap.size w w'):BhPost x w e w':=⟨q,m,mb,h1,h2,h3⟩
structure BhAt (w wr:World) (x:X) (ps:List (Int × Nat)):Prop where
 row:wr.heap[w.heap.size]?=some (.cells (xcells x).toArray 26 (0,0))
 mc:wr.heap[w.heap.size+1+1]?=some (.cells #[Value.map (some (w.heap.size+1))] 154 (0,0))
 rk:RkIs wr (w.heap.size+1) ps
 b:Below w.heap.size w wr
theorem BhAt.grown {w wr w1:World} {x:X} {ps ps':List (Int × Nat)} (h:BhAt w wr x ps) (g:wr.grownBy w1 (some (w.heap.size+1))) (hr:RkIs w1 (w.heap.size+1) ps'):BhAt w w1 x ps':=by
 refine⟨?_,?_,hr,h.b.grown g h.b.size (fun k hk=>by cases hk;omega)⟩
 ·exact(g.block _ (qL h.row) (by intro e;injection e with e;omega)).trans h.row
 ·exact(g.block _ (qL h.mc) (by intro e;injection e with e;omega)).trans h.mc
end Ev
theorem behind_any (x:Ev.X) (w:World) (hin:Ev.XIn w x) (h64:x.od.length≤64) (hs64:∀ s ∈ x.od,s.l.length≤64) :
 Calls Tryz.prog 110 #[Ev.exV x] w (Ev.BhPost x w):=by
 have HIN:=qH hin;have HS64:=qH hs64
 have hol:=hin.od.le;have hom:=hin.od.max
 have hmm:=@run_makeMap Tryz.prog
 obtain⟨W1,hW1⟩:∃ W1,W1=(((w.alloc (Obj.cells (Ev.xcells x).toArray 26)).alloc (Obj.map #[] 0)).alloc (Obj.cells #[Value.map (some (w.heap.size+1))] 154)):=⟨_,rfl⟩
 have HW1:=qH hW1
 have b0:Below w.heap.size w W1:=by
  rw [hW1]
  exact(((Below.refl _ _).alloc (Nat.le_refl _) _).alloc (by simp only [World.size_alloc];omega) _).alloc (by simp only [World.size_alloc];omega) _
 have h0:W1.heap[w.heap.size]?=some (.cells (Ev.xcells x).toArray 26 (0,0)):=by
  rw [hW1]
  exact(Below.heap_alloc _ _ _ (by simp only [World.size_alloc];omega)).trans ((Below.heap_alloc _ _ _ (by simp only [World.size_alloc];omega)).trans (heap_alloc_new _ _))
 have h2:W1.heap[w.heap.size+1+1]?=some (.cells #[Value.map (some (w.heap.size+1))] 154 (0,0)):=by
  rw [hW1]
  have:=heap_alloc_new ((w.alloc (Obj.cells (Ev.xcells x).toArray 26)).alloc (Obj.map #[] 0)) (Obj.cells #[Value.map (some (w.heap.size+1))] 154)
  simpa only [World.size_alloc] using this
 have hom':W1.ownsMap (H:=Unit) Tryz.prog 3 (plainElem Tryz.prog 3) (w.heap.size+1) 0 (.map []):=by
  rw [hW1]
  have:=World.ownsMap_made (H:=Unit) (w.alloc (Obj.cells (Ev.xcells x).toArray 26)) Tryz.prog 3 (plainElem Tryz.prog 3)
  simp only [World.size_alloc] at this
  exact this.alloc _
 have HB0:=qH (show Ev.BhAt w W1 x [] from ⟨h0,h2,⟨_,0,hom',Nat.le_refl _,fun x _=>rfl⟩,b0⟩)
 clear hin hs64 hW1 b0 h0 h2 hom'
 have cx:=Ev.xcell2 HB0.out.row
 unfold Ev.exV Ev.xcells
 go_enter Tryz.func110,Tryz.ntmps110
 go_wp2
 rw [show ((w.alloc (Obj.cells #[Value.slice x.ae x.ev.length x.ce,Value.slice x.fr.a x.fr.l.length x.fr.c,Value.slice x.ao x.od.length x.co] 26)).alloc (Obj.map #[] 0)).alloc (Obj.cells #[Value.map (some (w.heap.size+1))] 154)=W1 from HW1.out.symm]
 go_loopw [5,6,7,12] (fun _ _ _ i wr=>∃ k:Nat,k≤x.od.length∧i=.int .i64 (k:Int)∧Ev.BhAt w wr x (Ev.zall x.od k)) (fun _ _ _ i _=>x.od.length - (intOf i).toNat)
 case atStart=>exact⟨0,Nat.zero_le _,rfl,HB0.out⟩
 case round =>
  obtain⟨k,hk,rfl,hat⟩:=hrel
  have HAT:=qH hat;clear hat
  by_cases hlt:k < x.od.length
  ·obtain⟨s,hs⟩:∃ s,x.od[k]?=some s:=⟨_,List.getElem?_eq_getElem hlt⟩
   obtain⟨g,o,ea,hc⟩:=(HIN.out.od.kp (Ev.kp_below HAT.out.b)).at_ hs
   have HSI:=qH (HIN.out.od.ok_ hs)
   have HZ:=qH (Ev.zall_succ hs)
   have hsl:=HS64.out s (List.mem_of_getElem? hs)
   have HZL:=qH (Ev.zall_len HS64.out k hk)
   have hki:(k:Int) < (x.od.length:Int):=by omega
   have hsc:=HSI.out.2.1;have hsm:=HSI.out.2.2.1
   rw [ea]
   clear hs ea
   go_wp2
   clear hc
   go_loopw [6,7,18] (fun _ _ j w2=>∃ q:Nat,q≤s.l.length∧j=.int .i64 (q:Int)∧Ev.BhAt w w2 x (Ev.zall x.od k++Ev.zs s q)) (fun _ _ j _=>s.l.length - (intOf j).toNat)
   case atStart=>exact⟨0,Nat.zero_le _,rfl,by simpa [Ev.zs] using HAT.out⟩
   case round =>
    obtain⟨q,hq,rfl,hat2⟩:=hrel
    have HAT2:=qH hat2;clear hat2
    by_cases hql:q < s.l.length
    ·obtain⟨v,hv⟩:∃ v,s.l[q]?=some v:=⟨_,List.getElem?_eq_getElem hql⟩
     obtain⟨g2,o2,e2,c2⟩:=(HSI.out.kp (Ev.kp_below HAT2.out.b)).at_ hv
     have HVB:=qH (HSI.out.b_ hv)
     have HZS:=qH (show Ev.zall x.od k++Ev.zs s (q+1)=(Ev.zall x.od k++Ev.zs s q)++[(v,q)] by
      rw [Ev.zs_succ,show s.l.getD q 0=v by rw [List.getD_eq_getElem?_getD,hv];rfl,List.append_assoc])
     have hqi:(q:Int) < (s.l.length:Int):=by omega
     have cm:wr.cell? ⟨w.heap.size+1+1,0,none⟩=some (.map (some (w.heap.size+1))):=by rw [qC HAT2.out.mc];rfl
     obtain⟨D,n,hown,hn,hD⟩:=HAT2.out.rk.ex
     have HOWN:=qH hown;have HD:=qH hD
     have hnl:n≤64 * 64+64:=by
      have:=HZL.out
      rw [List.length_append,Ev.zs_len] at hn
      omega
     have HNN:=qH hn
     have HKEY:=qH (keyOf_int_mk (P:=Tryz.prog) Tryz.underlying3 (wf_of_i64 HVB.out))
     have hwf:(Lit.int .i64 (q:Int)).wf=true:=wf_of_i64 ⟨by omega,by omega⟩
     have HWF:=qH hwf
     rw [e2]
     clear hv e2 hown hD hn hwf
     go_wp2_with (at_mapUpdate;clear cm;refine wpList_mapUpdate_own _ rfl _ _ _ 154 rfl 3 3 law_int Tryz.underlying154 _ (w.heap.size+1) n D rfl HOWN.out (by unfold maxLen;omega) _ _ _ rfl rfl HKEY.out _ [] (plainElem_int Tryz.underlying3 HWF.out) ?_
                  intro w1 hown1 hgrow1
                  have HO1:=qH hown1
                  have HG1:=qH hgrow1
                  clear hown1 hgrow1)
     go_roundw
     case rel =>
      refine⟨q+1,by omega,by go_num,?_⟩
      rw [HZS.out]
      exact HAT2.out.grown HG1.out ⟨⟨_,n+1,HO1.out,by have:=HNN.out;rw [List.length_append];simp only [List.length_cons,List.length_nil];omega,fun y hy=>Ev.rk_step HOWN.out.isMap HD.out y hy⟩⟩
     case measure=>simp [intOf];omega
    ·have hqi:¬ (q:Int) < (s.l.length:Int):=by omega
     have hqe:q=s.l.length:=by omega
     have HE:=qH (show Ev.BhAt w wr x (Ev.zall x.od (k+1)) by rw [HZ.out,← hqe];exact HAT2.out)
     clear hqe
     go_wp2
     go_roundw
     case rel=>exact⟨k+1,by omega,by go_num,HE.out⟩
     case measure=>simp [intOf];omega
  ·have hki:¬ (k:Int) < (x.od.length:Int):=by omega
   have hke:k=x.od.length:=by omega
   have HE:=qH (show Ev.BhAt w wr x (Ev.zall x.od x.od.length) by have:=HAT.out;rwa [hke] at this)
   clear hke
   go_wp2
   go_ret
   exact Ev.BhPost.mk w.heap.size (w.heap.size+1+1) (w.heap.size+1) rfl ⟨⟨HE.out.row,HIN.out.kp (Ev.kp_below HE.out.b)⟩,HE.out.mc,HE.out.rk⟩ HE.out.b
theorem pstores_is {x:Ev.R} {b:Bool} (h:Ev.stores x.k=b) (w:World):Calls Tryz.prog 100 #[.agg (Ev.cells x).toArray] w fun e w'=>e=.returned (.bool b)∧Below w.heap.size w w':=h ▸ stores_any x w
theorem ploads_is {x:Ev.R} {b:Bool} (h:Ev.loads x.k=b) (w:World):Calls Tryz.prog 98 #[.agg (Ev.cells x).toArray] w fun e w'=>e=.returned (.bool b)∧Below w.heap.size w w':=h ▸ loads_any x w
theorem behind1_any (x:Ev.X) (q m mb s b:Nat) (hs:s < x.ev.length) (hb:b < x.ev.length) (w:World) (hin:Ev.BhIn w q m mb x) :
 Calls Tryz.prog 137 #[.int .i64 (s:Int),.int .i64 (b:Int),.pointer (some ⟨q,0,none⟩),.pointer (some ⟨m,0,none⟩)] w fun e w'=>e=.returned (.bool (Ev.bh x s b))∧Below w.heap.size w w':=by
 obtain⟨es,hes⟩:∃ e,x.ev[s]?=some e:=⟨_,List.getElem?_eq_getElem hs⟩
 obtain⟨eb,heb⟩:∃ e,x.ev[b]?=some e:=⟨_,List.getElem?_eq_getElem hb⟩
 obtain⟨g,o,eg,hcs⟩:=hin.bx.xin.ev.at_ hes
 obtain⟨g',o',eg',hcb⟩:=hin.bx.xin.ev.at_ heb
 obtain⟨rfl,rfl⟩:g'=g∧o'=o:=by rw [eg] at eg';cases eg';exact⟨rfl,rfl⟩
 have hl1:=hin.bx.xin.ev.le;have hl2:=hin.bx.xin.ev.max
 obtain⟨R1,hR1⟩:∃ r,Ev.rk x s=r:=⟨_,rfl⟩
 obtain⟨R2,hR2⟩:∃ r,Ev.rk x b=r:=⟨_,rfl⟩
 have HRES:=qH (show Ev.bh x s b=(Ev.stores eb.k&&eb.a==es.a&&decide (R1 < R2)) by unfold Ev.bh;rw [Ev.nth_some hes,Ev.nth_some heb,hR1,hR2])
 have c0:∀ z:Og.On w.heap.size w,z.x.cell? ⟨q,0,none⟩=some (.slice (some ⟨g',o',none⟩) x.ev.length x.ce):=fun z=>Og.cellB z (by rw [← eg];exact hin.bx.c0)
 have hcb2:∀ z:Og.On w.heap.size w,∀ i c,(Ev.cells eb)[i]?=some c→z.x.cell? ⟨g',o'+b * 13+i,none⟩=some c:=fun z i c hi=>Og.cellB z (hcb i c hi)
 have hcs2:∀ z:Og.On w.heap.size w,z.x.cell? ⟨g',o'+s * 13+2,none⟩=some (.int .u32 es.a):=fun z=>Og.cellB z (hcs 2 _ rfl)
 have hca2:∀ z:Og.On w.heap.size w,z.x.cell? ⟨g',o'+b * 13+2,none⟩=some (.int .u32 eb.a):=fun z=>hcb2 z 2 _ rfl
 have cm:∀ z:Og.On w.heap.size w,z.x.cell? ⟨m,0,none⟩=some (.map (some mb)):=fun z=>Og.cellB z (by rw [qC hin.mc];rfl)
 have hk1:∀ z:Og.On w.heap.size w,(Instr.lookup 154 (.map (some mb)) (.int .i64 (s:Int)) false).run Tryz.prog z.x=.ok (.int .i64 R1) z.x:=fun z=>by rw [← hR1];exact(hin.rk.kp z.b).look ⟨by omega,by omega⟩
 have hk2:∀ z:Og.On w.heap.size w,(Instr.lookup 154 (.map (some mb)) (.int .i64 (b:Int)) false).run Tryz.prog z.x=.ok (.int .i64 R2) z.x:=fun z=>by rw [← hR2];exact(hin.rk.kp z.b).look ⟨by omega,by omega⟩
 have LB:=qH (fun z:Og.On w.heap.size w=>Ev.ld (hcb2 z))
 have hsi:(s:Int) < (x.ev.length:Int):=by omega
 have hbi:(b:Int) < (x.ev.length:Int):=by omega
 clear hes heb eg eg' hcs hcb hcb2 hR1 hR2 hin
 obtain⟨bs,hbs⟩:∃ b,Ev.stores eb.k=b:=⟨_,rfl⟩
 have HSB:=qH hbs;clear hbs
 go_enter Tryz.func137,Tryz.ntmps137
 cases bs
 ·have HF:=qH (show Ev.bh x s b=false by rw [HRES.out,HSB.out];rfl)
  go_wp2
  refine Og.regionB (by kernel_rfl) (by kernel_rfl) ?_
  repeat (first
   | go_big_quiet_skip
   | (go_big_quiet_want
      first
       | (refine Og.quiet_load 48 (.tmp 10) rfl (.agg (Ev.cells eb).toArray) ⟨g',o'+b * 13,none⟩ _ rfl (by rintro _ ⟨z,rfl⟩;exact LB.out z) (by simp only [Act.put,qa,qb,qc];rfl) ?_
          go_big_quiet_on)
       | (go_big_quiet_op
          first
           | go_big_quiet_on
           | (apply Exists.intro
              refine⟨fun z=>?_,?_⟩
              ·first
                | exact Og.callB (pstores_is HSB.out _)
              go_big_quiet_on))))
  refine wpQuiet_nil ?_
  intro _ hw'
  obtain⟨q9,hw''⟩:=hw'
  subst hw''
  have HEND:=qH q9.b
  go_wp2_with fail
  go_ret
  exact⟨by rw [HF.out];rfl,HEND.out⟩
 by_cases hq:eb.a=es.a
 case neg =>
  have tq:(eb.a==es.a)=false:=by simpa using hq
  have HF:=qH (show Ev.bh x s b=false by rw [HRES.out,HSB.out,tq];rfl)
  clear hq
  go_wp2
  refine Og.regionB (by kernel_rfl) (by kernel_rfl) ?_
  repeat (first
   | go_big_quiet_skip
   | (go_big_quiet_want
      first
       | (refine Og.quiet_load 48 (.tmp 10) rfl (.agg (Ev.cells eb).toArray) ⟨g',o'+b * 13,none⟩ _ rfl (by rintro _ ⟨z,rfl⟩;exact LB.out z) (by simp only [Act.put,qa,qb,qc];rfl) ?_
          go_big_quiet_on)
       | (go_big_quiet_op
          first
           | go_big_quiet_on
           | (apply Exists.intro
              refine⟨fun z=>?_,?_⟩
              ·first
                | exact Og.callB (pstores_is HSB.out _)
              go_big_quiet_on))))
  refine wpQuiet_nil ?_
  intro _ hw'
  obtain⟨q9,hw''⟩:=hw'
  subst hw''
  have HEND:=qH q9.b
  go_wp2_with fail
  go_ret
  exact⟨by rw [HF.out];rfl,HEND.out⟩
 have tq:(eb.a==es.a)=true:=by simpa using hq
 by_cases hr:R1 < R2
 ·have tr:decide (R1 < R2)=true:=decide_eq_true hr
  have HF:=qH (show Ev.bh x s b=true by rw [HRES.out,HSB.out,tq,tr];rfl)
  clear hq
  go_wp2
  refine Og.regionB (by kernel_rfl) (by kernel_rfl) ?_
  repeat (first
   | go_big_quiet_skip
   | (go_big_quiet_want
      first
       | (refine Og.quiet_load 48 (.tmp 10) rfl (.agg (Ev.cells eb).toArray) ⟨g',o'+b * 13,none⟩ _ rfl (by rintro _ ⟨z,rfl⟩;exact LB.out z) (by simp only [Act.put,qa,qb,qc];rfl) ?_
          go_big_quiet_on)
       | (go_big_quiet_op
          first
           | go_big_quiet_on
           | (apply Exists.intro
              refine⟨fun z=>?_,?_⟩
              ·first
                | exact Og.callB (pstores_is HSB.out _)
              go_big_quiet_on))))
  refine wpQuiet_nil ?_
  intro _ hw'
  obtain⟨q9,hw''⟩:=hw'
  subst hw''
  have HEND:=qH q9.b
  go_wp2_with fail
  go_ret
  exact⟨by rw [HF.out];rfl,HEND.out⟩
 ·have tr:decide (R1 < R2)=false:=decide_eq_false hr
  have HF:=qH (show Ev.bh x s b=false by rw [HRES.out,HSB.out,tq,tr];rfl)
  clear hq
  go_wp2
  refine Og.regionB (by kernel_rfl) (by kernel_rfl) ?_
  repeat (first
   | go_big_quiet_skip
   | (go_big_quiet_want
      first
       | (refine Og.quiet_load 48 (.tmp 10) rfl (.agg (Ev.cells eb).toArray) ⟨g',o'+b * 13,none⟩ _ rfl (by rintro _ ⟨z,rfl⟩;exact LB.out z) (by simp only [Act.put,qa,qb,qc];rfl) ?_
          go_big_quiet_on)
       | (go_big_quiet_op
          first
           | go_big_quiet_on
           | (apply Exists.intro
              refine⟨fun z=>?_,?_⟩
              ·first
                | exact Og.callB (pstores_is HSB.out _)
              go_big_quiet_on))))
  refine wpQuiet_nil ?_
  intro _ hw'
  obtain⟨q9,hw''⟩:=hw'
  subst hw''
  have HEND:=qH q9.b
  go_wp2_with fail
  go_ret
  exact⟨by rw [HF.out];rfl,HEND.out⟩
end Go.Proofs.YtnjnpbabgefaeaaGreat
end
