import Derived.Test.YtnjnpbabgefaeaaGreatKp23
import Derived.Test.YtnjnpbabgefaeaaGreatKp24
import Derived.Test.YtnjnpbabgefaeaaGreatKp18
import Derived.Test.YtnjnpbabgefaeaaGreatKp27
import Derived.Test.YtnjnpbabgefaeaaGreatKpH
set_option maxRecDepth 100000
set_option maxHeartbeats 4000000
set_option linter.unusedVariables false
set_option linter.unusedSimpArgs false
section
namespace Go.Proofs.YtnjnpbabgefaeaaGreat
open Go.RowKit
namespace Or
def ms (a b:Nat):List Nat:=(List.range (b - (a+1))).map fun i=>a+1+i
theorem ms_len (a b:Nat):(ms a b).length=b - (a+1):=by simp [ms]
theorem ms_get {a b k:Nat} (h:a+1+k < b):(ms a b)[k]?=some (a+1+k):=by
 unfold ms;rw [List.getElem?_map,List.getElem?_range (by omega)];rfl
theorem ms_at {a b k m:Nat} (h:(ms a b)[k]?=some m):m=a+1+k∧a+1+k < b:=by
 have hl:=(List.getElem?_eq_some_iff.1 h).1
 rw [ms_len] at hl
 rw [ms_get (by omega)] at h
 exact⟨(Option.some.inj h).symm,by omega⟩
theorem ms_mem {a b m:Nat}:m ∈ ms a b↔a < m∧m < b:=by
 unfold ms
 constructor
 ·intro h
  obtain⟨i,hi,rfl⟩:=List.mem_map.1 h
  have:=List.mem_range.1 hi
  omega
 ·intro h
  exact List.mem_map.2 ⟨m - (a+1),List.mem_range.2 (by omega),by omega⟩
end Or
theorem between_iter (m:Nat) (hm:1≤m) (ca cb a b:Nat) (ha:a < 9223372036854775807) (hb:b≤9223372036854775807) :
 Og.IterL Fence.wide m Tryz.prog 169 #[.pointer (some ⟨ca,0,none⟩),.pointer (some ⟨cb,0,none⟩)] (fun W=>Or.Box W ca 3 (.int .i64 (a:Int))∧Or.Box W cb 3 (.int .i64 (b:Int))) (fun k:Nat=>#[.int .i64 (k:Int)]) (Or.ms a b):=by
 intro l J Jx W hst hR hY h0
 have HST:=qH hst;have HR:=qH hR;have HY:=qH hY;have H0:=qH h0
 have c1:=(hR _ _ h0).1.cell
 clear hst hR hY h0
 refine callsIn_of_wp Tryz.func169 rfl trivial ?_ rfl
 simp only [Tryz.ntmps169,List.size_toArray,List.length_cons,List.length_nil,Nat.reduceAdd,Nat.reduceSub,Array.replicate_succ,Array.replicate_zero,List.push_toArray,List.append_toArray,List.nil_append,List.cons_append]
 gi_wp2_with fail
 clear c1
 gi_loopw [4] (fun i wr=>∃ k:Nat,k≤(Or.ms a b).length∧i=.int .i64 ((a:Int)+1+(k:Int))∧J k wr) (fun i _=>b - (intOf i).toNat)
 case atStart=>exact⟨0,Nat.zero_le _,by go_num,H0.out⟩
 case round =>
  obtain⟨k,hk,rfl,hj⟩:=hrel
  have HJ:=qH hj
  have c2:=(HR.out _ _ hj).2.cell
  have HLEN:=qH (Or.ms_len a b)
  rw [HLEN.out] at hk
  clear hj
  by_cases hlt:a+1+k < b
  ·have hi:(a:Int)+1+(k:Int) < (b:Int):=by omega
   have HG:=qH (Or.ms_get hlt)
   obtain⟨fn,tmps,assign,body,hy,hRd⟩:=HY.out k _ wr HG.out HJ.out
   rw [show ((a+1+k:Nat):Int)=(a:Int)+1+(k:Int) by omega] at hy
   gi_wp2_with fail
   refine hRd.mono ?_
   rintro e W3 (⟨rfl,hJ3⟩ | ⟨rfl,hJx3⟩)
   ·have HJ3:=qH hJ3;clear hJ3 hy hRd
    gi_wp2_with fail
    go_roundw
    case rel=>exact⟨k+1,by rw [HLEN.out];omega,by go_num,HJ3.out⟩
    case measure=>simp [intOf];omega
   ·have HJ3:=qH hJx3;clear hJx3 hy hRd
    gi_wp2_with fail
    refine bodyPost_ret (results_none rfl _ _ _) rfl ?_
    exact⟨⟨_,rfl⟩,.inr HJ3.out⟩
  ·have hi:¬ (a:Int)+1+(k:Int) < (b:Int):=by omega
   have HK:=qH (show k=(Or.ms a b).length by rw [HLEN.out];omega)
   gi_wp2_with fail
   refine bodyPost_end (results_none rfl _ _ _) rfl ?_
   exact⟨⟨_,rfl⟩,.inl (by rw [← HK.out];exact HJ.out)⟩
end Go.Proofs.YtnjnpbabgefaeaaGreat
end
section
namespace Go.Proofs.YtnjnpbabgefaeaaGreat
open Go.RowKit Go.Maps
attribute [local go_sem] run_store_func
namespace Ev
def bondCo (x:X) (a b:Nat):Int:=if stores (nth x.ev a).k=false then 2 else bnd (bh x a b)
def bondFr (x:X) (a b:Nat):Int:=if loads (nth x.ev a).k=false then 2 else bnd (!(decide (a=b))&&bh x (frAt x a) b)
structure CoIn (w:World) (q1 fc q m mb:Nat) (x:X):Prop where
 bx:Bx w q1 x
 fc:w.cell? ⟨fc,0,none⟩=some (.func (.func 137) #[] #[.pointer (some ⟨q,0,none⟩),.pointer (some ⟨m,0,none⟩)])
 bh:BhIn w q m mb x
theorem CoIn.kp {w w':World} {q1 fc q m mb:Nat} {x:X} (h:CoIn w q1 fc q m mb x) (hb:Below w.heap.size w w'):CoIn w' q1 fc q m mb x :=
 ⟨h.bx.kp hb,kp_below hb _ _ h.fc,h.bh.kp hb⟩
end Ev
theorem behind1_is {x:Ev.X} {q m mb s b:Nat} {v:Bool} (h:Ev.bh x s b=v) (hs:s < x.ev.length) (hb:b < x.ev.length) (w:World) (hin:Ev.BhIn w q m mb x) :
 Calls Tryz.prog 137 #[.int .i64 (s:Int),.int .i64 (b:Int),.pointer (some ⟨q,0,none⟩),.pointer (some ⟨m,0,none⟩)] w fun e w'=>e=.returned (.bool v)∧Below w.heap.size w w':=h ▸ behind1_any x q m mb s b hs hb w hin
theorem co1_any (x:Ev.X) (q1 fc q m mb a b:Nat) (ha:a < x.ev.length) (hb:b < x.ev.length) (w:World) (hin:Ev.CoIn w q1 fc q m mb x) :
 Calls Tryz.prog 111 #[.int .i64 (a:Int),.int .i64 (b:Int),.pointer (some ⟨q1,0,none⟩),.pointer (some ⟨fc,0,none⟩)] w fun e w'=>e=.returned (.int .i64 (Ev.bondCo x a b))∧Below w.heap.size w w':=by
 obtain⟨ea,hea⟩:∃ e,x.ev[a]?=some e:=⟨_,List.getElem?_eq_getElem ha⟩
 obtain⟨g,o,eg,hcx⟩:=hin.bx.xin.ev.at_ hea
 have hl1:=hin.bx.xin.ev.le;have hl2:=hin.bx.xin.ev.max
 have hna:=Ev.nth_some hea
 have HRES:=qH (show Ev.bondCo x a b=if Ev.stores ea.k=false then 2 else Ev.bnd (Ev.bh x a b) by unfold Ev.bondCo;rw [hna])
 have c0:=hin.bx.c0
 rw [eg] at c0
 have HC:=qH hcx;have HIN:=qH hin
 have hai:(a:Int) < (x.ev.length:Int):=by omega
 clear hea eg hcx hna hin
 obtain⟨s,hs⟩:∃ s,Ev.stores ea.k=s:=⟨_,rfl⟩
 obtain⟨v,hv⟩:∃ v,Ev.bh x a b=v:=⟨_,rfl⟩
 have HS:=qH hs;have HV:=qH hv
 clear hs hv
 go_enter Tryz.func111,Tryz.ntmps111
 go_wp2_with ((with_reducible refine qG 11 ?_);refine wpList_load_at rfl 48 (.tmp 10) rfl g (o+a * 13) (by kernel_rfl) (Ev.cells ea) _ HC.out Tryz.underlying48 rfl (by kernel_rfl) ?_)
 refine(pstores_is HS.out _).mono ?_
 rintro e W1 ⟨rfl,hb1⟩
 have B1:=qH hb1
 have cf:=(HIN.out.kp hb1).fc
 clear hb1 c0
 cases s
 ·go_wp2_with fail
  go_ret
  exact⟨by rw [HRES.out,HS.out];rfl,B1.out⟩
 ·go_wp2_with fail
  refine(behind1_is HV.out ha hb _ (HIN.out.kp B1.out).bh).mono ?_
  rintro e W2 ⟨rfl,hb2⟩
  have B2:=qH (B1.out.trans (hb2.mono B1.out.size));clear hb2
  go_wp2_with fail
  refine(bond_is _ _).mono ?_
  rintro e w' ⟨rfl,rfl⟩
  go_wp2_with fail
  go_ret
  exact⟨by rw [HRES.out,HS.out,HV.out];rfl,B2.out⟩
theorem co_makes (x:Ev.X) (hc:Ev.check x=0) (w:World):Ev.Makes w x 85 (Ev.bondCo x):=by
 intro W hin
 have HIN:=qH hin;clear hin
 have HBX:=qH (Ev.bx_new HIN.out)
 have B0:=qH ((Below.refl W.heap.size W).alloc (Nat.le_refl _) (.cells (Ev.xcells x).toArray 26))
 have HL:=qH (Ev.check_lens hc);have HCK:=qH hc;clear hc
 unfold Ev.exV Ev.xcells
 go_enter Tryz.func85,Tryz.ntmps85
 go_wp2_with ((with_reducible refine qG 4 ?_);refine wpList_load_row rfl 26 (.tmp 1) rfl W.heap.size (by kernel_rfl) 26 (Ev.xcells x).toArray (0,0) _ HBX.out.row Tryz.underlying26 rfl (by kernel_rfl) ?_)
 refine(behind_any x _ HBX.out.xin HL.out.1 HL.out.2).mono ?_
 rintro e W1 ⟨q,m,mb,rfl,hbh,hb⟩
 have HBH:=qH hbh
 have B1:=qH (B0.out.trans (hb.mono B0.out.size))
 have HBX1:=qH (HBX.out.kp hb)
 clear hbh hb
 unfold Ev.bhV
 go_wp2
 go_ret
 have B2:=qH ((Below.refl W1.heap.size W1).alloc (Nat.le_refl _) (Obj.cells #[Value.func (Fn.func 137) #[] #[Value.pointer (some { block:=q,off:=0 }),Value.pointer (some { block:=m,off:=0 })]] 101))
 have HCO:Ev.CoIn (W1.alloc (Obj.cells #[Value.func (Fn.func 137) #[] #[Value.pointer (some { block:=q,off:=0 }),Value.pointer (some { block:=m,off:=0 })]] 101)) W.heap.size W1.heap.size q m mb x :=
  ⟨HBX1.out.kp B2.out,by rw [qC (heap_alloc_new W1 _)];rfl,HBH.out.kp B2.out⟩
 refine⟨111,#[.pointer (some ⟨W.heap.size,0,none⟩),.pointer (some ⟨W1.heap.size,0,none⟩)],rfl,Ev.enters_of _ (fun args w=>by kernel_rfl),B1.out.trans (B2.out.mono B1.out.size),fun W2 hb a b ha hb'=>?_⟩
 exact co1_any x W.heap.size W1.heap.size q m mb a b ha hb' W2 (HCO.kp hb)
theorem co_yes (x:Ev.X) (w:World) (hin:Ev.XIn w x) (hc:Ev.check x=0) :
 Calls Tryz.prog 58 #[Ev.exV x] w fun e w'=>∃ a c,e=.returned (.slice a (Ev.told (Ev.bondCo x) x.ev.length x.ev.length).length c)∧Ev.PairsIn w' a c (Ev.told (Ev.bondCo x) x.ev.length x.ev.length)∧Below w.heap.size w w':=by
 have HIN:=qH hin;have HC:=qH hc;clear hin hc
 have R0:=qH (heap_alloc_new w (.cells (Ev.xcells x).toArray 26))
 have B0:=qH ((Below.refl w.heap.size w).alloc (Nat.le_refl _) (.cells (Ev.xcells x).toArray 26))
 unfold Ev.exV Ev.xcells
 go_enter Tryz.func58,Tryz.ntmps58
 go_wp2_with ((with_reducible refine qG 3 ?_);refine wpList_load_row rfl 26 (.tmp 1) rfl w.heap.size (by kernel_rfl) 26 (Ev.xcells x).toArray (0,0) _ R0.out Tryz.underlying26 rfl (by kernel_rfl) ?_)
 refine(pairs_yes x 85 (Ev.bondCo x) _ (HIN.out.kp (Ev.kp_below B0.out)) HC.out (Ev.enters_of _ (fun args w=>by kernel_rfl)) (co_makes x HC.out _)).mono ?_
 rintro e W1 ⟨a,c,rfl,hp,hb⟩
 have HP:=qH hp
 have HB:=qH (B0.out.trans (hb.mono (by simp only [World.size_alloc];omega)))
 clear hp hb
 go_wp2_with fail
 go_ret
 exact⟨a,c,rfl,HP.out,HB.out⟩
theorem fr1_any (x:Ev.X) (hc:Ev.check x=0) (q1 fc q m mb a b:Nat) (ha:a < x.ev.length) (hb:b < x.ev.length) (w:World) (hin:Ev.CoIn w q1 fc q m mb x) :
 Calls Tryz.prog 112 #[.int .i64 (a:Int),.int .i64 (b:Int),.pointer (some ⟨q1,0,none⟩),.pointer (some ⟨fc,0,none⟩)] w fun e w'=>e=.returned (.int .i64 (Ev.bondFr x a b))∧Below w.heap.size w w':=by
 obtain⟨ea,hea⟩:∃ e,x.ev[a]?=some e:=⟨_,List.getElem?_eq_getElem ha⟩
 obtain⟨g,o,eg,hcx⟩:=hin.bx.xin.ev.at_ hea
 have hl1:=hin.bx.xin.ev.le;have hl2:=hin.bx.xin.ev.max
 have hl3:=hin.bx.xin.fr.2.1;have hl4:=hin.bx.xin.fr.2.2.1
 have hna:=Ev.nth_some hea
 have HRES:=qH (show Ev.bondFr x a b=if Ev.loads ea.k=false then 2 else Ev.bnd (!(decide (a=b))&&Ev.bh x (Ev.frAt x a) b) by unfold Ev.bondFr;rw [hna])
 have HFI:=qH (show Ev.loads ea.k=true→∃ f:Nat,f < x.ev.length∧x.fr.l[a]?=some (f:Int)∧Ev.frAt x a=f from fun h=>Ev.from_in hc ha (by rw [hna];exact h))
 have hfl:=check_from hc
 have c0:=hin.bx.c0
 rw [eg] at c0
 have HC:=qH hcx;have HIN:=qH hin
 have hai:(a:Int) < (x.ev.length:Int):=by omega
 have haf:(a:Int) < (x.fr.l.length:Int):=by omega
 clear hea eg hcx hna hin hc hfl
 obtain⟨s,hs⟩:∃ s,Ev.loads ea.k=s:=⟨_,rfl⟩
 have HS:=qH hs
 clear hs
 go_enter Tryz.func112,Tryz.ntmps112
 go_wp2_with ((with_reducible refine qG 11 ?_);refine wpList_load_at rfl 48 (.tmp 10) rfl g (o+a * 13) (by kernel_rfl) (Ev.cells ea) _ HC.out Tryz.underlying48 rfl (by kernel_rfl) ?_)
 refine(ploads_is HS.out _).mono ?_
 rintro e W1 ⟨rfl,hb1⟩
 have B1:=qH hb1
 have HI1:=qH (HIN.out.kp hb1)
 clear hb1 c0
 cases s
 ·go_wp2_with fail
  go_ret
  exact⟨by rw [HRES.out,HS.out];rfl,B1.out⟩
 ·obtain⟨f,hf,hfa,hfr⟩:=HFI.out HS.out
  have HRES2:=qH (show Ev.bondFr x a b=Ev.bnd (!(decide (a=b))&&Ev.bh x (f:Int) b) by rw [HRES.out,HS.out,hfr];rfl)
  obtain⟨v,hv⟩:∃ v,Ev.bh x (f:Int) b=v:=⟨_,rfl⟩
  have HV:=qH hv
  obtain⟨gf,of,ef,hcf⟩:=HI1.out.bx.xin.fr.at_ hfa
  have cfc:∀ z:Og.On W1.heap.size W1,z.x.cell? ⟨fc,0,none⟩=some (.func (.func 137) #[] #[.pointer (some ⟨q,0,none⟩),.pointer (some ⟨m,0,none⟩)]):=fun z=>Og.cellB z HI1.out.fc
  have cx1:∀ z:Og.On W1.heap.size W1,z.x.cell? ⟨q1,1,none⟩=some (.slice (some ⟨gf,of,none⟩) x.fr.l.length x.fr.c):=fun z=>Og.cellB z (by rw [← ef];exact HI1.out.bx.c1)
  have cff:∀ z:Og.On W1.heap.size W1,z.x.cell? ⟨gf,of+a,none⟩=some (.int .i64 (f:Int)):=fun z=>Og.cellB z hcf
  clear hv hfa hfr ef hcf
  by_cases hab:a=b
  ·have tab:(a != b)=false:=by simp [hab]
   have tab2:((a:Int) != (b:Int))=false:=by simp [hab]
   have HF:=qH (show Ev.bondFr x a b=Ev.bnd false by rw [HRES2.out,decide_eq_true hab];rfl)
   clear hab
   go_wp2
   refine Og.regionB (by kernel_rfl) (by kernel_rfl) ?_
   repeat (first
    | go_big_quiet_skip
    | (go_big_quiet_want
       first
        | (go_big_quiet_op
           first
            | go_big_quiet_on
            | (apply Exists.intro
               refine⟨fun z=>?_,?_⟩
               ·first
                 | exact Og.callS (bond_is false _)
               go_big_quiet_on))))
   refine wpQuiet_nil ?_
   intro _ hw'
   obtain⟨q9,hw''⟩:=hw'
   subst hw''
   have HEND:=qH (B1.out.trans (q9.b.mono B1.out.size))
   go_wp2_with fail
   go_ret
   exact⟨by rw [HF.out];rfl,HEND.out⟩
  ·have tab:(a != b)=true:=by simpa using hab
   have tab2:((a:Int) != (b:Int))=true:=by simp;omega
   have HF:=qH (show Ev.bondFr x a b=Ev.bnd v by rw [HRES2.out,decide_eq_false hab,HV.out];simp)
   clear hab
   go_wp2
   refine Og.regionB (by kernel_rfl) (by kernel_rfl) ?_
   repeat (first
    | go_big_quiet_skip
    | (go_big_quiet_want
       first
        | (go_big_quiet_op
           first
            | go_big_quiet_on
            | (apply Exists.intro
               refine⟨fun z=>?_,?_⟩
               ·first
                 | exact Og.callB (behind1_is HV.out hf hb _ (HI1.out.kp z.b).bh)
                 | exact Og.callS (bond_is v _)
               go_big_quiet_on))))
   refine wpQuiet_nil ?_
   intro _ hw'
   obtain⟨q9,hw''⟩:=hw'
   subst hw''
   have HEND:=qH (B1.out.trans (q9.b.mono B1.out.size))
   go_wp2_with fail
   go_ret
   exact⟨by rw [HF.out];rfl,HEND.out⟩
theorem fr_makes (x:Ev.X) (hc:Ev.check x=0) (w:World):Ev.Makes w x 86 (Ev.bondFr x):=by
 intro W hin
 have HIN:=qH hin;clear hin
 have HBX:=qH (Ev.bx_new HIN.out)
 have B0:=qH ((Below.refl W.heap.size W).alloc (Nat.le_refl _) (.cells (Ev.xcells x).toArray 26))
 have HL:=qH (Ev.check_lens hc);have HCK:=qH hc;clear hc
 unfold Ev.exV Ev.xcells
 go_enter Tryz.func86,Tryz.ntmps86
 go_wp2_with ((with_reducible refine qG 4 ?_);refine wpList_load_row rfl 26 (.tmp 1) rfl W.heap.size (by kernel_rfl) 26 (Ev.xcells x).toArray (0,0) _ HBX.out.row Tryz.underlying26 rfl (by kernel_rfl) ?_)
 refine(behind_any x _ HBX.out.xin HL.out.1 HL.out.2).mono ?_
 rintro e W1 ⟨q,m,mb,rfl,hbh,hb⟩
 have HBH:=qH hbh
 have B1:=qH (B0.out.trans (hb.mono B0.out.size))
 have HBX1:=qH (HBX.out.kp hb)
 clear hbh hb
 unfold Ev.bhV
 go_wp2
 go_ret
 have B2:=qH ((Below.refl W1.heap.size W1).alloc (Nat.le_refl _) (Obj.cells #[Value.func (Fn.func 137) #[] #[Value.pointer (some { block:=q,off:=0 }),Value.pointer (some { block:=m,off:=0 })]] 101))
 have HCO:Ev.CoIn (W1.alloc (Obj.cells #[Value.func (Fn.func 137) #[] #[Value.pointer (some { block:=q,off:=0 }),Value.pointer (some { block:=m,off:=0 })]] 101)) W.heap.size W1.heap.size q m mb x :=
  ⟨HBX1.out.kp B2.out,by rw [qC (heap_alloc_new W1 _)];rfl,HBH.out.kp B2.out⟩
 refine⟨112,#[.pointer (some ⟨W.heap.size,0,none⟩),.pointer (some ⟨W1.heap.size,0,none⟩)],rfl,Ev.enters_of _ (fun args w=>by kernel_rfl),B1.out.trans (B2.out.mono B1.out.size),fun W2 hb a b ha hb'=>?_⟩
 exact fr1_any x HCK.out W.heap.size W1.heap.size q m mb a b ha hb' W2 (HCO.kp hb)
theorem fr_yes (x:Ev.X) (w:World) (hin:Ev.XIn w x) (hc:Ev.check x=0) :
 Calls Tryz.prog 59 #[Ev.exV x] w fun e w'=>∃ a c,e=.returned (.slice a (Ev.told (Ev.bondFr x) x.ev.length x.ev.length).length c)∧Ev.PairsIn w' a c (Ev.told (Ev.bondFr x) x.ev.length x.ev.length)∧Below w.heap.size w w':=by
 have HIN:=qH hin;have HC:=qH hc;clear hin hc
 have R0:=qH (heap_alloc_new w (.cells (Ev.xcells x).toArray 26))
 have B0:=qH ((Below.refl w.heap.size w).alloc (Nat.le_refl _) (.cells (Ev.xcells x).toArray 26))
 unfold Ev.exV Ev.xcells
 go_enter Tryz.func59,Tryz.ntmps59
 go_wp2_with ((with_reducible refine qG 3 ?_);refine wpList_load_row rfl 26 (.tmp 1) rfl w.heap.size (by kernel_rfl) 26 (Ev.xcells x).toArray (0,0) _ R0.out Tryz.underlying26 rfl (by kernel_rfl) ?_)
 refine(pairs_yes x 86 (Ev.bondFr x) _ (HIN.out.kp (Ev.kp_below B0.out)) HC.out (Ev.enters_of _ (fun args w=>by kernel_rfl)) (fr_makes x HC.out _)).mono ?_
 rintro e W1 ⟨a,c,rfl,hp,hb⟩
 have HP:=qH hp
 have HB:=qH (B0.out.trans (hb.mono (by simp only [World.size_alloc];omega)))
 clear hp hb
 go_wp2_with fail
 go_ret
 exact⟨a,c,rfl,HP.out,HB.out⟩
theorem po_yes (x:Ev.X) (w:World) (hin:Ev.XIn w x) (hc:Ev.check x=0) :
 Calls Tryz.prog 77 #[Ev.exV x] w fun e w'=>∃ a c,e=.returned (.slice a (Ev.told (Ev.bondPo x) x.ev.length x.ev.length).length c)∧Ev.PairsIn w' a c (Ev.told (Ev.bondPo x) x.ev.length x.ev.length)∧Below w.heap.size w w':=by
 have HIN:=qH hin;have HC:=qH hc;clear hin hc
 have R0:=qH (heap_alloc_new w (.cells (Ev.xcells x).toArray 26))
 have B0:=qH ((Below.refl w.heap.size w).alloc (Nat.le_refl _) (.cells (Ev.xcells x).toArray 26))
 unfold Ev.exV Ev.xcells
 go_enter Tryz.func77,Tryz.ntmps77
 go_wp2_with ((with_reducible refine qG 3 ?_);refine wpList_load_row rfl 26 (.tmp 1) rfl w.heap.size (by kernel_rfl) 26 (Ev.xcells x).toArray (0,0) _ R0.out Tryz.underlying26 rfl (by kernel_rfl) ?_)
 refine(pairs_yes x 103 (Ev.bondPo x) _ (HIN.out.kp (Ev.kp_below B0.out)) HC.out (Ev.enters_of _ (fun args w=>by kernel_rfl)) (po_makes x _)).mono ?_
 rintro e W1 ⟨a,c,rfl,hp,hb⟩
 have HP:=qH hp
 have HB:=qH (B0.out.trans (hb.mono (by simp only [World.size_alloc];omega)))
 clear hp hb
 go_wp2_with fail
 go_ret
 exact⟨a,c,rfl,HP.out,HB.out⟩
end Go.Proofs.YtnjnpbabgefaeaaGreat
end
section
namespace Go.Proofs.YtnjnpbabgefaeaaGreat
open Go.RowKit
namespace Ev
theorem cut_row {bond:Nat→Nat→Int} {is:Nat→Nat→Bool} {a:Nat}:∀ {n s:Nat},(∀ b,b < s+n→(bond a b=1↔is a b=true))→(∀ b,b < s+n→bond a b=2→∀ c,b≤c→c < s+n→is a c=false) →
 cutL bond a (List.range' s n)=rowL is a (List.range' s n)
 | 0,s,_,_=>rfl
 | n+1,s,h1,h2=>by
   have ih:=cut_row (bond:=bond) (is:=is) (a:=a) (n:=n) (s:=s+1) (fun b hb=>h1 b (by omega)) (fun b hb h c hc hc2=>h2 b (by omega) h c hc (by omega))
   have e:rowL is a (List.range' s (n+1))=(if is a s then [(a,s)] else [])++rowL is a (List.range' (s+1) n):=by
    unfold rowL
    rw [List.range'_succ,List.filter_cons]
    cases h:is a s <;> simp
   rw [e,List.range'_succ]
   unfold cutL
   by_cases hb2:bond a s=2
   ·rw [if_pos hb2]
    have hall:∀ c ∈ s :: List.range' (s+1) n,is a c=false:=fun c hc=>by
     rw [List.mem_cons,List.mem_range'_1] at hc
     rcases hc with rfl | hc
     ·exact h2 c (by omega) hb2 c (Nat.le_refl _) (by omega)
     ·exact h2 s (by omega) hb2 c (by omega) (by omega)
    rw [hall s List.mem_cons_self]
    have:rowL is a (List.range' (s+1) n)=[]:=by
     unfold rowL
     rw [List.filter_eq_nil_iff.2 (fun c hc=>by rw [hall c (List.mem_cons_of_mem _ hc)];simp)]
     rfl
    rw [this];simp
   ·rw [if_neg hb2]
    by_cases hb1:bond a s=1
    ·rw [if_pos hb1,(h1 s (by omega)).1 hb1,ih];simp
    ·rw [if_neg hb1,ih]
     have:is a s=false:=by
      cases h:is a s
      ·rfl
      ·exact absurd ((h1 s (by omega)).2 h) hb1
     rw [this];simp
theorem told_pl {bond:Nat→Nat→Int} {is:Nat→Nat→Bool} {n:Nat} (h1:∀ a b,a < n→b < n→(bond a b=1↔is a b=true)) (h2:∀ a b,a < n→b < n→bond a b=2→∀ c,b≤c→c < n→is a c=false) :
 told bond n n=pl is n n:=by
 unfold told pl
 have:∀ l:List Nat,(∀ a ∈ l,a < n)→(l.flatMap fun i=>cutL bond i (List.range n))=l.flatMap fun i=>rowL is i (List.range n):=by
  intro l
  induction l with
  | nil=>intro _;rfl
  | cons a l ih =>
    intro hl
    have ha:=hl a List.mem_cons_self
    rw [List.flatMap_cons,List.flatMap_cons,ih (fun b hb=>hl b (List.mem_cons_of_mem _ hb))]
    congr 1
    rw [List.range_eq_range']
    exact cut_row (fun b hb=>h1 a b ha (by omega)) (fun b hb h c hc hc2=>h2 a b ha (by omega) h c hc (by omega))
 exact this _ (fun a ha=>List.mem_range.1 ha)
theorem ev_all {x:X} (h:check x=0):evsOk x.ev=true:=by
 unfold check at h
 split at h
 ·cases h
 split at h
 ·cases h
 ·rename_i h2;simpa using h2
theorem at_parts {xs:List R} (h:evsOk xs=true) {i:Nat} (hi:i < xs.length):partsOk (nth xs i)=true∧(i=0∨follow (nth xs ((i:Int) - 1)) (nth xs i)=true):=by
 have:=evs_all h i hi
 unfold evAt at this
 simp only [Bool.and_eq_true,Bool.or_eq_true,beq_iff_eq] at this
 exact⟨this.1.1,this.2⟩
theorem hart5 {xs:List R} (h:evsOk xs=true) {i:Nat} (hi:i < xs.length):(nth xs i).k=5↔(nth xs i).h < 0:=by
 have hp:=(at_parts h hi).1
 rw [parts_bare] at hp
 simp only [Bool.and_eq_true,Bool.or_eq_true,beq_iff_eq] at hp
 constructor
 ·intro h5
  have:=bare_five hp.1.1 h5
  omega
 ·intro hh
  rcases hp.1.2 with h5 | hb
  ·exact h5
  ·unfold inB at hb;simp at hb;omega
theorem hart_up {xs:List R} (h:evsOk xs=true):∀ (d i:Nat),i+d < xs.length→(nth xs i).h≤(nth xs (i+d:Nat)).h:=by
 intro d
 induction d with
 | zero=>intro i _;exact Int.le_refl _
 | succ d ih =>
   intro i hi
   have h1:=ih i (by omega)
   have h2:=(at_parts h (show i+(d+1) < xs.length from hi)).2.resolve_left (by omega)
   rw [show ((i+(d+1):Nat):Int) - 1=((i+d:Nat):Int) by omega] at h2
   have h3:(nth xs (i+d:Nat)).h≤(nth xs (i+(d+1):Nat)).h:=by
    unfold follow at h2
    split at h2
    ·rename_i hk
     have a:=(at_parts h (show i+d < xs.length by omega)).1
     have b:=(at_parts h hi).1
     rw [parts_bare] at a b
     simp only [Bool.and_eq_true] at a b
     rw [bare_five a.1.1 hk.2,bare_five b.1.1 hk.1]
     exact Int.le_refl _
    ·exact of_decide_eq_true h2
   exact Int.le_trans h1 h3
theorem po_eq {x:X} (hc:check x=0):told (bondPo x) x.ev.length x.ev.length=pl (isPo x) x.ev.length x.ev.length:=by
 have he:=ev_all hc
 have up:∀ a b:Nat,a≤b→b < x.ev.length→(nth x.ev a).h≤(nth x.ev b).h:=fun a b hab hb=>by
  have:=hart_up he (b - a) a (by omega)
  rwa [show a+(b - a)=b by omega] at this
 refine told_pl (fun a b ha hb=>?_) (fun a b ha hb h2 c hbc hcn=>?_)
 ·have h5:=hart5 he ha
  unfold bondPo isPo bnd
  simp only [Bool.and_eq_true,decide_eq_true_eq,beq_iff_eq]
  by_cases h:(nth x.ev (a:Int)).k=5∨(nth x.ev (a:Int)).h < (nth x.ev (b:Int)).h
  ·rw [if_pos h]
   constructor
   ·intro hh;omega
   ·rintro⟨⟨h1,h2⟩,h3⟩
    rcases h with h | h
    ·have:=h5.1 h;omega
    ·omega
  ·rw [if_neg h]
   have hh:¬ (nth x.ev (a:Int)).h < 0:=fun e=>h (.inl (h5.2 e))
   have hh2:¬ (nth x.ev (a:Int)).h < (nth x.ev (b:Int)).h:=fun e=>h (.inr e)
   constructor
   ·intro hq
    have hab:a < b:=by
     apply Classical.byContradiction
     intro hn
     rw [if_neg (by simp;omega)] at hq
     omega
    have:=up a b (by omega) hb
    exact⟨⟨hab,by omega⟩,by omega⟩
   ·rintro⟨⟨h1,h2⟩,h3⟩
    rw [if_pos (by simp;omega)]
 ·have h5:=hart5 he ha
  unfold bondPo bnd at h2
  unfold isPo
  by_cases h:(nth x.ev (a:Int)).k=5∨(nth x.ev (a:Int)).h < (nth x.ev (b:Int)).h
  ·have:=up b c hbc hcn
   rcases h with h | h
   ·have:=h5.1 h
    simp only [Bool.and_eq_false_iff,decide_eq_false_iff_not]
    left;right;omega
   ·simp only [Bool.and_eq_false_iff,decide_eq_false_iff_not,beq_eq_false_iff_ne]
    right;omega
  ·rw [if_neg h] at h2
   split at h2 <;> omega
theorem rf_eq {x:X} (hc:check x=0):told (bondRf x) x.ev.length x.ev.length=pl (isRf x) x.ev.length x.ev.length:=by
 obtain⟨_,hf,_⟩:=check_order hc
 have hfl:x.fr.l.length=x.ev.length:=check_from hc
 have hone:∀ b,b < x.ev.length→fromAt x.ev x.fr.l b=true:=by
  unfold fromOk at hf
  simp only [Bool.and_eq_true,List.all_eq_true] at hf
  exact fun b hb=>hf.2 b (List.mem_range.2 hb)
 have key:∀ a b:Nat,b < x.ev.length→frAt x b=(a:Int)→loads (nth x.ev b).k=true∧stores (nth x.ev a).k=true:=fun a b hb he=>by
  have h:=hone b hb
  unfold fromAt at h
  have e2:x.fr.l.getD b 0=(a:Int):=he
  rw [e2] at h
  split at h
  ·rename_i hl
   unfold readOk at h
   simp only [Bool.and_eq_true] at h
   exact⟨hl,h.1.1.2⟩
  ·simp only [beq_iff_eq] at h
   omega
 refine told_pl (fun a b ha hb=>?_) (fun a b ha hb h2 c hbc hcn=>?_)
 ·unfold bondRf isRf bnd
  simp only [Bool.and_eq_true,beq_iff_eq]
  constructor
  ·intro h
   split at h
   ·omega
   ·split at h
    ·rename_i hq
     exact⟨(key a b hb hq).1,hq⟩
    ·omega
  ·rintro⟨h1,h2⟩
   rw [if_neg (by rw [(key a b hb h2).2];simp),if_pos h2]
 ·unfold bondRf bnd at h2
  split at h2
  ·rename_i hs
   unfold isRf
   rw [Bool.and_eq_false_iff]
   right
   rw [beq_eq_false_iff_ne]
   intro e
   rw [(key a c hcn e).2] at hs
   cases hs
  ·split at h2 <;> omega
end Ev
end Go.Proofs.YtnjnpbabgefaeaaGreat
end
