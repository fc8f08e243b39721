import Derived.Test.YtnjnpbabgefaeaaGreatKp18
import Derived.Test.YtnjnpbabgefaeaaGreatKp17
import Derived.Test.YtnjnpbabgefaeaaGreatKp15
import Derived.Test.YtnjnpbabgefaeaaGreatKp04
import Derived.Laws.Entries
import Derived.ProofKit
import Derived.OpenShut
import Derived.Lib.SmallJoins
import Derived.Carry
import Derived.Deep.Slices
import Derived.Test.YtnjnpbabgefaeaaGreatKp11
import Derived.Test.YtnjnpbabgefaeaaGreatKp01
import Derived.Test.YtnjnpbabgefaeaaGreatKp06
import Derived.Test.YtnjnpbabgefaeaaGreatKpH
set_option maxRecDepth 100000
set_option maxHeartbeats 4000000
set_option linter.unusedVariables false
set_option linter.unusedSimpArgs false
section
namespace Go.Proofs.YtnjnpbabgefaeaaGreat
open Go.RowKit
namespace Ev
inductive Shp (B:Nat):R→Prop
 | fence (h p s:Int) (hh:0≤h∧h < 4) (hp:0≤p∧p < 4) (hs:0≤s∧s < 4):Shp B ⟨h,4,0,0,0,false,false,p,s,false,noS,noS,noS⟩
 | load (h:Int) (hh:0≤h∧h < 4) (w:Nat) (hw:w < B) (r:Int) (q l z:Bool):Shp B ⟨h,1,4 * w,0,r,q,l,0,0,z,noS,noS,noS⟩
 | store (h:Int) (hh:0≤h∧h < 4) (w:Nat) (hw:w < B) (v:Int) (q l z:Bool):Shp B ⟨h,2,4 * w,v,0,q,l,0,0,z,noS,noS,noS⟩
structure Bl2 (xs:List R) (fr:List Int) (od:List (List Int)):Prop where
 fl:fr.length=xs.length
 ol:od.length≤xs.length
 beg:∀ i:Nat,i < od.length→nth xs (i:Int)=begE (4 * i)∧fr.getD i 0=-1
 ev:∀ i:Nat,od.length≤i→i < xs.length→Shp od.length (nth xs (i:Int))
 up:∀ i:Nat,od.length≤i→i+1 < xs.length→(nth xs (i:Int)).h≤(nth xs ((i+1:Nat):Int)).h
 rd:∀ i:Nat,od.length≤i→i < xs.length→fromAt xs fr i=true
 rows:∀ (b:Nat) (l:List Int),od[b]?=some l→RowOk xs b l
theorem shp_parts {B:Nat} {y:R} (h:Shp B y):partsOk y=true:=by
 rw [parts_bare]
 cases h with
 | fence h p s hh hp hs=>simp [bare,bareK,inB,stores,loads,hp.1,hp.2,hs.1,hs.2,hh.1,hh.2]
 | load h hh w hw r q l z=>simp [bare,bareK,inB,stores,loads,Int.mul_emod_right,hh.1,hh.2]
 | store h hh w hw v q l z=>simp [bare,bareK,inB,stores,loads,Int.mul_emod_right,hh.1,hh.2]
theorem shp_deps {B:Nat} {y:R} (h:Shp B y):y.d1=noS∧y.d2=noS∧y.d3=noS∧(0≤y.h∧y.h < 4)∧y.k≠5:=by
 cases h <;> exact⟨rfl,rfl,rfl,‹_›,by simp⟩
theorem Bl2.one {xs fr od} (h:Bl2 xs fr od) {i:Nat} (hi:i < xs.length):(i < od.length∧nth xs (i:Int)=begE (4 * i)∧fr.getD i 0=-1)∨(od.length≤i∧Shp od.length (nth xs (i:Int))):=by
 by_cases hx:i < od.length
 ·exact .inl ⟨hx,h.beg i hx⟩
 ·exact .inr ⟨by omega,h.ev i (by omega) hi⟩
theorem Bl2.evsOk {xs fr od} (h:Bl2 xs fr od):evsOk xs=true:=by
 unfold Ev.evsOk begun
 rw [Bool.and_eq_true]
 constructor
 ·rw [List.all_eq_true]
  intro i hi
  have hi:i < xs.length:=by simpa using hi
  unfold evAt
  rcases h.one hi with ⟨h1,h2,h3⟩ | ⟨h1,h2⟩
  ·rw [deps_no (by rw [h2];exact⟨rfl,rfl,rfl⟩),h2,begE_parts _ (by omega)]
   by_cases h0:i=0
   ·subst h0;simp
   ·have he:((i:Int) - 1)=((i - 1:Nat):Int):=by omega
    rw [he,(h.beg (i - 1) (by omega)).1]
    have:follow (begE (4 * ((i - 1:Nat):Int))) (begE (4 * (i:Int)))=true:=by
     unfold follow begE;simp;omega
    rw [this];simp
  ·have hd:=shp_deps h2
   rw [deps_no ⟨hd.1,hd.2.1,hd.2.2.1⟩,shp_parts h2]
   by_cases h0:i=0
   ·subst h0;simp
   ·have he:((i:Int) - 1)=((i - 1:Nat):Int):=by omega
    have:follow (nth xs ((i:Int) - 1)) (nth xs (i:Int))=true:=by
     unfold follow
     rw [if_neg (fun hh=>hd.2.2.2.2 hh.1),he]
     rcases h.one (show i - 1 < xs.length by omega) with ⟨_,g,_⟩ | ⟨g0,g⟩
     ·rw [g];have:=hd.2.2.2.1.1;unfold begE;exact decide_eq_true (by show(-1:Int)≤_;omega)
     ·have:=h.up (i - 1) g0 (by omega)
      rw [show i - 1+1=i by omega] at this
      exact decide_eq_true this
    rw [this];simp
 ·rw [List.all_eq_true]
  intro i hi
  have hi:i < xs.length:=by simpa using hi
  unfold begunAt
  rcases h.one hi with ⟨h1,h2,h3⟩ | ⟨h1,h2⟩
  ·rw [h2];rfl
  ·have hw:∀ w:Nat,w < od.length→(nth xs (i:Int)).a=4 * w→((xs.take i).any (isBeg (nth xs (i:Int)).a))=true:=by
    intro w hw ha
    rw [List.any_eq_true]
    have hwx:w < xs.length:=by omega
    refine⟨xs[w],?_,?_⟩
    ·exact List.mem_take_iff_getElem.2 ⟨w,by omega,rfl⟩
    ·have:=(h.beg w hw).1
     rw [nth_get hwx] at this
     rw [this,ha];unfold isBeg begE;simp
   revert hw
   generalize nth xs (i:Int)=y at h2
   intro hw
   cases h2 with
   | fence h p s hh hp hs=>rfl
   | load h hh w hw' r q l z=>rw [hw w hw' rfl];simp
   | store h hh w hw' v q l z=>rw [hw w hw' rfl];simp
theorem Bl2.fromOk {xs fr od} (h:Bl2 xs fr od):fromOk xs fr=true:=by
 unfold Ev.fromOk
 rw [Bool.and_eq_true]
 refine⟨by simp [h.fl],?_⟩
 rw [List.all_eq_true]
 intro i hi
 have hi:i < xs.length:=by simpa using hi
 by_cases hx:i < od.length
 ·obtain⟨h2,h3⟩:=h.beg i hx
  unfold fromAt;rw [h2,h3];rfl
 ·exact h.rd i (by omega) hi
theorem Bl2.begs {xs fr od} (h:Bl2 xs fr od):Ev.beg xs=od.length:=by
 unfold Ev.beg
 have e:xs=xs.take od.length++xs.drop od.length:=(List.take_append_drop _ _).symm
 have h1:(xs.take od.length).filter (fun e=>e.k==5)=xs.take od.length:=by
  rw [List.filter_eq_self]
  intro y hy
  obtain⟨i,hi,rfl⟩:=List.mem_take_iff_getElem.1 hy
  have hb:=(h.beg i (by omega)).1
  rw [nth_get (by omega)] at hb
  rw [hb];rfl
 have h2:(xs.drop od.length).filter (fun e=>e.k==5)=[]:=by
  rw [List.filter_eq_nil_iff]
  intro y hy
  obtain⟨i,hi,rfl⟩:=List.mem_iff_getElem.1 hy
  rw [List.getElem_drop]
  have hlt:od.length+i < xs.length:=by simp at hi;omega
  have hb:=h.ev (od.length+i) (by omega) hlt
  rw [nth_get hlt] at hb
  simpa using (shp_deps hb).2.2.2.2
 rw [e,List.filter_append,h1,h2,List.append_nil,List.length_take]
 have:=h.ol;omega
theorem Bl2.orderOk {x:X} (h:Bl2 x.ev x.fr.l (x.od.map (·.l))):orderOk x.ev x.od=true:=by
 unfold Ev.orderOk
 rw [Bool.and_eq_true]
 refine⟨by rw [h.begs];simp,?_⟩
 rw [List.all_eq_true]
 intro b hb
 have hb:b < x.od.length:=by simpa using hb
 unfold orderAt
 rw [List.getElem?_eq_getElem hb]
 have hr:=h.rows b (x.od[b]).l (by rw [List.getElem?_map,List.getElem?_eq_getElem hb];rfl)
 have h0:=(h.beg b (by simpa using hb)).1
 show((x.od[b]).l.length==cnt x.ev (nth x.ev (b:Int)).a&&(x.od[b]).l.getD 0 0==(b:Int)&&onceOk x.ev (x.od[b]).l)=true
 rw [hr.hd,hr.len,h0]
 have ho:onceOk x.ev (x.od[b]).l=true:=by
  unfold onceOk
  rw [Bool.and_eq_true,hr.hd]
  refine⟨?_,decide_eq_true hr.nd⟩
  rw [List.all_eq_true]
  intro n hn
  obtain⟨k,rfl,hk,g1,g2⟩:=hr.all n hn
  unfold onceAt inB
  rw [g1,g2,h0]
  have e1:decide ((k:Int) < (x.ev.length:Int))=true:=decide_eq_true (by omega)
  have e3:decide (0≤(k:Int))=true:=decide_eq_true (by omega)
  rw [e1,e3];unfold begE;simp
 rw [ho];unfold begE;simp
theorem Bl2.check {x:X} (h:Bl2 x.ev x.fr.l (x.od.map (·.l))) (hl:x.ev.length≤64):check x=0:=by
 unfold Ev.check
 rw [if_neg (by omega),if_neg (by rw [h.evsOk];simp),if_neg (by rw [h.fromOk];simp),if_neg (by rw [h.orderOk];simp)]
end Ev
end Go.Proofs.YtnjnpbabgefaeaaGreat
end
section
namespace Go.Proofs.YtnjnpbabgefaeaaGreat
open Go.RowKit
theorem rf1_any (x:Ev.X) (q a b:Nat) (ha:a < x.ev.length) (hb:b < x.ev.length) (hfl:x.fr.l.length=x.ev.length) (w:World) (hbx:Ev.Bx w q x) :
 Calls Tryz.prog 108 #[.int .i64 (a:Int),.int .i64 (b:Int),.pointer (some ⟨q,0,none⟩)] w fun e w'=>e=.returned (.int .i64 (Ev.bondRf x a b))∧Below w.heap.size w w':=by
 obtain⟨ea,hea⟩:∃ e,x.ev[a]?=some e:=⟨_,List.getElem?_eq_getElem ha⟩
 obtain⟨g,o,eg,hcx⟩:=hbx.xin.ev.at_ hea
 obtain⟨f,hf⟩:∃ f,x.fr.l[b]?=some f:=⟨_,List.getElem?_eq_getElem (by omega)⟩
 obtain⟨g2,o2,ef,hcf⟩:=hbx.xin.fr.at_ hf
 have hl1:=hbx.xin.ev.le;have hl2:=hbx.xin.ev.max;have hl3:=hbx.xin.fr.2.1;have hl4:=hbx.xin.fr.2.2.1
 have hna:=Ev.nth_some hea
 have hfa:Ev.frAt x b=f:=by unfold Ev.frAt;simp [List.getD,hf]
 have HRES:=qH (show Ev.bondRf x a b=if Ev.stores ea.k=false then 2 else Ev.bnd (f==(a:Int)) by unfold Ev.bondRf;rw [hna,hfa])
 have c0:=hbx.c0;have c1:=hbx.c1
 rw [eg] at c0;rw [ef] at c1
 have HC:=qH hcx;have HBX:=qH hbx
 have hai:(a:Int) < (x.ev.length:Int):=by omega
 have hbi:(b:Int) < (x.fr.l.length:Int):=by omega
 clear hea eg hcx hf ef hna hfa hbx hfl
 go_enter Tryz.func108,Tryz.ntmps108
 go_wp2_with (show wpList _ _ _ (Oper.mk (some 10) _ _ _ _ _ :: _) _ _;refine wpList_load_at rfl 48 (.tmp 9) rfl g (o+a * 13) (by kernel_rfl) (Ev.cells ea) _ HC.out Tryz.underlying48 rfl (by kernel_rfl) ?_)
 refine(stores_any ea _).mono ?_
 rintro e W1 ⟨rfl,hb1⟩
 have B1:=qH hb1
 have c1':=Ev.kp_below hb1 _ _ c1
 have cf':=Ev.kp_below hb1 _ _ hcf
 clear hb1 c0 c1 hcf
 obtain⟨s,hs⟩:∃ s,Ev.stores ea.k=s:=⟨_,rfl⟩
 have HS:=qH hs
 rw [hs];clear hs
 cases s
 ·go_wp2_with fail
  go_ret
  exact⟨by rw [HRES.out,HS.out];rfl,B1.out⟩
 ·go_wp2_with (go_at_call 109;refine(bond_is _ _).mono ?_;rintro e w' ⟨rfl,rfl⟩)
  go_ret
  exact⟨by rw [HRES.out,HS.out];rfl,B1.out⟩
theorem rf_makes (x:Ev.X) (hfl:x.fr.l.length=x.ev.length) (w:World):Ev.Makes w x 84 (Ev.bondRf x):=by
 intro W hin
 have HIN:=qH hin;clear hin
 have HBX:=qH (Ev.bx_new HIN.out)
 have B0:=qH ((Below.refl W.heap.size W).alloc (Nat.le_refl _) (.cells (Ev.xcells x).toArray 26))
 have HFL:=qH hfl;clear hfl
 unfold Ev.exV Ev.xcells
 go_enter Tryz.func84,Tryz.ntmps84
 go_wp2
 go_ret
 refine⟨108,#[.pointer (some ⟨W.heap.size,0,none⟩)],rfl,Ev.enters_of _ (fun args w=>by kernel_rfl),B0.out,fun W2 hb a b ha hb'=>?_⟩
 exact rf1_any x W.heap.size a b ha hb' HFL.out W2 (HBX.out.kp hb)
theorem rf_yes (x:Ev.X) (w:World) (hin:Ev.XIn w x) (hc:Ev.check x=0) :
 Calls Tryz.prog 57 #[Ev.exV x] w fun e w'=>∃ a c,e=.returned (.slice a (Ev.told (Ev.bondRf x) x.ev.length x.ev.length).length c)∧Ev.PairsIn w' a c (Ev.told (Ev.bondRf x) x.ev.length x.ev.length)∧Below w.heap.size w w':=by
 have HIN:=qH hin;have HC:=qH hc;clear hin hc
 have R0:=qH (heap_alloc_new w (.cells (Ev.xcells x).toArray 26))
 have B0:=qH ((Below.refl w.heap.size w).alloc (Nat.le_refl _) (.cells (Ev.xcells x).toArray 26))
 unfold Ev.exV Ev.xcells
 go_enter Tryz.func57,Tryz.ntmps57
 go_wp2_with (show wpList _ _ _ (Oper.mk (some 3) _ _ _ _ _ :: _) _ _;refine wpList_load_row rfl 26 (.tmp 1) rfl w.heap.size (by kernel_rfl) 26 (Ev.xcells x).toArray (0,0) _ R0.out Tryz.underlying26 rfl (by kernel_rfl) ?_)
 refine(pairs_yes x 84 (Ev.bondRf x) _ (HIN.out.kp (Ev.kp_below B0.out)) HC.out (Ev.enters_of _ (fun args w=>by kernel_rfl)) (rf_makes x (check_from HC.out) _)).mono ?_
 rintro e W1 ⟨a,c,rfl,hp,hb⟩
 have HP:=qH hp
 have HB:=qH (B0.out.trans (hb.mono (by simp only [World.size_alloc];omega)))
 clear hp hb
 go_wp2_with fail
 go_ret
 exact⟨a,c,rfl,HP.out,HB.out⟩
end Go.Proofs.YtnjnpbabgefaeaaGreat
end
section
namespace Go.Proofs.YtnjnpbabgefaeaaGreat
open Go.RowKit Go.Maps
theorem run_store_func (P:Program) (w:World) (a:Addr) (m:Mode) (f:Fn) (b c:Array Value):(store a (.func f b c) m).run P w=stored P w a (.func f b c) m:=run_store P w a _ m rfl
attribute [local go_sem] run_store_func
namespace Ev
def HasC (n:Nat) (ps:List (Int × Int)) (b:Bool):Prop:=(b=true∧Cyc ps)∨(b=false∧∃ l,Topo ps l∧∀ x,0≤x→x < (n:Int)→x ∈ l)
end Ev
theorem hasCircle_any (n nb:Nat) (ps:List (Int × Int)) (w:World) (hr:Ev.InR n ps) (hn:Ev.NextIn w nb (Ev.succs ps)) :
 Calls Tryz.prog 120 #[.int .i64 (n:Int),.map (some nb)] w (Ev.CPost (Ev.HasC n ps) w):=by
 have HR:=qH hr;have HN:=qH hn
 have hmm:=@run_makeMap Tryz.prog
 have hn64:n≤64:=by have:=hr.2.1;omega
 obtain⟨W1,hW1⟩:∃ W1,W1=((((w.alloc (Obj.cells #[Value.map (some nb)] 152)).alloc (Obj.map #[] 0)).alloc (Obj.cells #[Value.map (some (w.heap.size+1))] 166)).alloc
  (Obj.cells #[Value.func (Fn.func 149) #[] #[Value.pointer (some { block:=w.heap.size+1+1,off:=0 }),Value.pointer (some { block:=w.heap.size,off:=0 }),Value.pointer (some { block:=w.heap.size+1+1+1,off:=0 })]] 102)):=⟨_,rfl⟩
 have HW1:=qH hW1
 have b0:Below w.heap.size w W1:=by
  rw [hW1]
  exact((((Below.refl _ _).alloc (Nat.le_refl _) _).alloc (by simp only [World.size_alloc];omega) _).alloc (by simp only [World.size_alloc];omega) _).alloc (by simp only [World.size_alloc];omega) _
 have h0:W1.heap[w.heap.size]?=some (.cells #[Value.map (some nb)] 152 (0,0)):=by
  rw [hW1]
  exact(Below.heap_alloc _ _ _ (by simp only [World.size_alloc];omega)).trans ((Below.heap_alloc _ _ _ (by simp only [World.size_alloc];omega)).trans ((Below.heap_alloc _ _ _ (by simp only [World.size_alloc];omega)).trans (heap_alloc_new _ _)))
 have h2:W1.heap[w.heap.size+1+1]?=some (.cells #[Value.map (some (w.heap.size+1))] 166 (0,0)):=by
  rw [hW1]
  refine(Below.heap_alloc _ _ _ (by simp only [World.size_alloc];omega)).trans ?_
  have:=heap_alloc_new ((w.alloc (Obj.cells #[Value.map (some nb)] 152)).alloc (Obj.map #[] 0)) (Obj.cells #[Value.map (some (w.heap.size+1))] 166)
  simpa only [World.size_alloc] using this
 have h3:W1.heap[w.heap.size+1+1+1]?=some (.cells #[Value.func (Fn.func 149) #[] #[Value.pointer (some { block:=w.heap.size+1+1,off:=0 }),Value.pointer (some { block:=w.heap.size,off:=0 }),Value.pointer (some { block:=w.heap.size+1+1+1,off:=0 })]] 102 (0,0)):=by
  rw [hW1]
  have:=heap_alloc_new (((w.alloc (Obj.cells #[Value.map (some nb)] 152)).alloc (Obj.map #[] 0)).alloc (Obj.cells #[Value.map (some (w.heap.size+1))] 166)) (Obj.cells #[Value.func (Fn.func 149) #[] #[Value.pointer (some { block:=w.heap.size+1+1,off:=0 }),Value.pointer (some { block:=w.heap.size,off:=0 }),Value.pointer (some { block:=w.heap.size+1+1+1,off:=0 })]] 102)
  simpa only [World.size_alloc] using this
 have hom:W1.ownsMap (H:=Unit) Tryz.prog 3 (plainElem Tryz.prog 167) (w.heap.size+1) 0 (.map []):=by
  rw [hW1]
  have:=World.ownsMap_made (H:=Unit) (w.alloc (Obj.cells #[Value.map (some nb)] 152)) Tryz.prog 3 (plainElem Tryz.prog 167)
  simp only [World.size_alloc] at this
  exact(this.alloc _).alloc _
 obtain⟨e,he⟩:∃ e:Ev.DEnv,e=⟨ps,n,w,W1,w.heap.size+1+1,w.heap.size,w.heap.size+1+1+1,w.heap.size+1,nb⟩:=⟨_,rfl⟩
 have ho:Ev.DOk e:=by
  subst he
  exact⟨HR.out,HN.out,b0,by rw [qC h2];rfl,by rw [qC h0];rfl,by rw [qC h3];rfl,Nat.le_succ _,by show w.heap.size+1+1≠w.heap.size+1;omega,by show w.heap.size≠w.heap.size+1;omega,by show w.heap.size+1+1+1≠w.heap.size+1;omega⟩
 have hd0:Ev.DIn e W1 (fun _=>0) []:=by
  subst he
  exact⟨World.grownBy.refl _ _,⟨_,0,hom,fun x _=>rfl,by have:=Ev.pot_le (fun _=>0) n;show 0+Ev.pot (fun _=>0) n≤2 * n;omega⟩,Ev.looked_none _⟩
 have e1:e.n=n:=by rw [he]
 have e2:e.ps=ps:=by rw [he]
 have e3:e.cL=w.heap.size+1+1:=by rw [he]
 have e4:e.cN=w.heap.size:=by rw [he]
 have e5:e.cF=w.heap.size+1+1+1:=by rw [he]
 have e6:e.W0=w:=by rw [he]
 have HE:=qH (And.intro e1 (And.intro e2 (And.intro e3 (And.intro e4 (And.intro e5 e6)))))
 have HO:=qH ho;have HD0:=qH hd0
 have H3:=qH h3
 clear hr hn hW1 b0 h0 h2 h3 hom he ho hd0 e1 e2 e3 e4 e5 e6
 go_enter Tryz.func120,Tryz.ntmps120
 go_wp2
 rw [← HW1.out]
 go_loopw [7,11] (fun _ i wr=>∃ k:Nat,k≤n∧i=.int .i64 (k:Int)∧∃ L l,Ev.DIn e wr L l∧(∀ x,0≤x→x < (k:Int)→x ∈ l)∧∀ x,L x≠1) (fun _ i _=>n - (intOf i).toNat)
 case atStart=>exact⟨0,Nat.zero_le _,rfl,_,_,HD0.out,fun x h1 h2=>absurd h2 (by omega),fun x h=>by cases h⟩
 case round =>
  obtain⟨k,hk,rfl,L,l,hd,hall,hone⟩:=hrel
  have HD:=qH hd;have HALL:=qH hall;have HONE:=qH hone
  clear hall hone
  by_cases hlt:k < n
  ·have hki:(k:Int) < (n:Int):=by omega
   have hcf:=Ev.cell_far hd.g HO.out.kF HO.out.nF
   unfold Ev.DEnv.clo at hcf
   rw [HE.out.2.2.1,HE.out.2.2.2.1,HE.out.2.2.2.2.1] at hcf
   have CALL:=leads_any e HO.out _ wr L l (k:Int) hd (by omega) (by rw [HE.out.1];exact hki) (fun u hu=>absurd hu (HONE.out u)) (Nat.lt_succ_self _)
   rw [HE.out.2.2.1,HE.out.2.2.2.1,HE.out.2.2.2.2.1] at CALL
   have CALL:=qH CALL
   clear hd
   go_wp2_with fail
   refine CALL.out.mono ?_
   intro r w2 hpost
   rcases hpost with ⟨hb,hcyc,hg2⟩ | ⟨hb,hg2,L2,l2,hd2,hall2,hsub2,hone2,hpot2⟩
   ·unfold Ev.isB at hb
    subst hb
    have HC:=qH hcyc;have HG2:=qH (Ev.grown_trans HD.out.g hg2);clear hcyc hg2
    go_wp2_with fail
    go_ret
    refine Ev.CPost.mk true rfl (.inl ⟨rfl,by rw [← HE.out.2.1];exact HC.out⟩) (by
     have:=HO.out.b0.grown HG2.out HO.out.b0.size (fun k hk=>by cases hk;exact HO.out.mb0)
     rw [HE.out.2.2.2.2.2] at this;exact this)
   ·unfold Ev.isB at hb
    subst hb
    have HD2:=qH hd2;have HA2:=qH hall2;have HS2:=qH hsub2;have HO2:=qH hone2
    clear hd2 hall2 hsub2 hone2 hg2 hcf
    go_wp2_with fail
    go_roundw
    case rel =>
     refine⟨k+1,by omega,by go_num,L2,l2,HD2.out,fun x h1 h2=>?_,fun x h=>HONE.out x ((HO2.out x).1 h)⟩
     by_cases hx:x=(k:Int)
     ·subst hx;exact HA2.out _ (by simp)
     ·exact HS2.out x (HALL.out x h1 (by omega))
    case measure=>simp [intOf];omega
  ·have hkn:k=n:=by omega
   have hki:¬ (k:Int) < (n:Int):=by omega
   have HKN:=qH hkn
   clear hd hkn
   go_wp2
   go_ret
   refine Ev.CPost.mk false rfl (.inr ⟨rfl,l,by rw [← HE.out.2.1];exact HD.out.ok.topo,fun x h1 h2=>HALL.out x h1 (by rw [HKN.out];exact h2)⟩) (by
    have:=HD.out.b0 HO.out
    rw [HE.out.2.2.2.2.2] at this;exact this)
end Go.Proofs.YtnjnpbabgefaeaaGreat
end
section
namespace Go.Proofs.YtnjnpbabgefaeaaGreat
open Go.Joins Go.ChangeShapes Go.WideShapes Go.ChangeAt Go.RowKit Go.Deep
theorem own:ownKnob Tryz.prog.godebug=none:=by kernel_rfl
theorem laidOut:laidOutB Tryz.prog=true:=by kernel_rfl
theorem cellsInt:Tryz.prog.cellsOf 3=1:=by kernel_rfl
theorem i64_of_wf {n:Int} (h:(Lit.int .i64 n).wf=true):Ev.i64B n:=by
 unfold Ev.i64B
 have h1:IntKind.i64.min=-9223372036854775808:=by decide
 have h2:IntKind.i64.max=9223372036854775807:=by decide
 simp only [Lit.wf,h1,h2,Bool.and_eq_true,decide_eq_true_eq] at h;exact h
theorem open_numbers {H:Type} {enc:TypeId × Value→H} {W:World} {a0:Option Addr} {len cap:Nat} {d0:DataW H} {p:List MemPlace}
 (h0:DataW.Trod enc Tryz.prog W 0 (fun _=>true) true 23 (.slice a0 len cap) d0 p) :
 ∃ xs:List Int,xs.length=len∧Ev.IntsIn W ⟨a0,cap,xs⟩:=by
 obtain⟨fuel,hf⟩:=h0
 rcases open_ints Tryz.underlying23 Tryz.underlying3 cellsInt hf with ⟨hcs,hx⟩ | ⟨a,len',cap',zs,hcs,_,hl,hm,hz,hx,hcell,hwz⟩
 ·simp [Value.cells] at hcs
  obtain⟨rfl,rfl,rfl⟩:=hcs
  exact⟨[],rfl,fun h=>absurd h (by simp),by simp,by simp,fun x hx=>by cases hx⟩
 ·simp [Value.cells] at hcs
  obtain⟨rfl,rfl,rfl⟩:=hcs
  simp only [if_true] at hz
  unfold maxLen at hm
  refine⟨zs.take len,by simp;omega,fun hp=>?_,by simp;omega,hm,fun x hx=>i64_of_wf (hwz x (List.mem_of_mem_take hx))⟩
  have hp':0 < zs.length:=by simp at hp;omega
  obtain⟨b,off,rfl,hc⟩:=ints_at hcell hp'
  refine⟨b,off,rfl,fun j v hv=>?_⟩
  have hj':j < len:=by have:=(List.getElem?_eq_some_iff.1 hv).1;simp at this;omega
  rw [hc j (by omega)]
  rw [List.getElem?_take_of_lt hj'] at hv
  simp [List.getD,hv]
end Go.Proofs.YtnjnpbabgefaeaaGreat
end
section
namespace Go.Proofs.YtnjnpbabgefaeaaGreat
open Go.RowKit
namespace Ev
def placeGo (n:Int):List Sl→Int
 | []=>-1
 | s :: r=>if 0≤at_ s.l n then at_ s.l n else placeGo n r
def place (x:X) (n:Int):Int:=placeGo n x.od
def isPo (x:X) (a b:Nat):Bool:=decide (a < b)&&decide (0≤(nth x.ev a).h)&&(nth x.ev a).h==(nth x.ev b).h
def isRf (x:X) (a b:Nat):Bool:=loads (nth x.ev b).k&&frAt x b==(a:Int)
def isCo (x:X) (a b:Int):Bool:=stores (nth x.ev a).k&&stores (nth x.ev b).k&&(nth x.ev a).a==(nth x.ev b).a&&decide (place x a < place x b)
def isFr (x:X) (a b:Nat):Bool:=!(decide (a=b))&&loads (nth x.ev a).k&&isCo x (frAt x a) b
end Ev
theorem rat_is0 {S:Ev.Sl} {n p:Int} (h:Ev.at_ S.l n=p) (w:World) (hS:Ev.IntsIn w S):Calls Tryz.prog 33 #[.slice S.a S.l.length S.c,.int .i64 n] w fun e w'=>e=.returned (.int .i64 p)∧w=w':=h ▸ rat_any S n w hS
theorem rplace_any (x:Ev.X) (n:Int) (w:World) (hin:Ev.XIn w x) :
 Calls Tryz.prog 52 #[Ev.exV x,.int .i64 n] w fun e w'=>e=.returned (.int .i64 (Ev.place x n))∧Below w.heap.size w w':=by
 have HIN:=qH hin
 have hol:=hin.od.le;have hom:=hin.od.max
 have R0:=qH (heap_alloc_new w (.cells (Ev.xcells x).toArray 26))
 obtain⟨B,hB⟩:∃ B,B=w.alloc (Obj.cells (Ev.xcells x).toArray 26):=⟨_,rfl⟩
 have HB:=qH hB
 have B0:=qH (show Below w.heap.size w B by rw [hB];exact(Below.refl w.heap.size w).alloc (Nat.le_refl _) _)
 have HX:=qH (show Ev.XIn B x from hin.kp (Ev.kp_below B0.out))
 have RX:=qH (show B.heap[w.heap.size]?=some (.cells (Ev.xcells x).toArray 26 (0,0)) by rw [hB];exact R0.out)
 clear hin hB
 unfold Ev.exV Ev.xcells
 go_enter Tryz.func52,Tryz.ntmps52
 go_wp2
 rw [show w.alloc (Obj.cells #[Value.slice x.ae x.ev.length x.ce,Value.slice x.fr.a x.fr.l.length x.fr.c,Value.slice x.ao x.od.length x.co] 26)=B from HB.out.symm]
 go_loopw [5,6] (fun i _ wr=>∃ k:Nat,k≤x.od.length∧i=.int .i64 (k:Int)∧Ev.place x n=Ev.placeGo n (x.od.drop k)∧wr=B) (fun i _ _=>x.od.length - (intOf i).toNat)
 case atStart=>exact⟨0,Nat.zero_le _,rfl,rfl,rfl⟩
 case round =>
  obtain⟨k,hk,rfl,hgo,rfl⟩:=hrel
  have HGO:=qH hgo;clear hgo
  have cx:=Ev.xcell2 RX.out
  by_cases hlt:k < x.od.length
  ·obtain⟨s,hs⟩:∃ s,x.od[k]?=some s:=⟨_,List.getElem?_eq_getElem hlt⟩
   have hdrop:x.od.drop k=s :: x.od.drop (k+1):=by
    rw [List.drop_eq_getElem_cons hlt];congr 1;rw [List.getElem?_eq_getElem hlt] at hs;exact Option.some.inj hs
   obtain⟨g,o,ea,hc⟩:=HX.out.od.at_ hs
   have HSI:=qH (HX.out.od.ok_ hs)
   have hki:(k:Int) < (x.od.length:Int):=by omega
   rw [ea] at cx
   obtain⟨p,hp⟩:∃ p,Ev.at_ s.l n=p:=⟨_,rfl⟩
   have HP:=qH hp
   have HG2:=qH (show Ev.place x n=if 0≤p then p else Ev.placeGo n (x.od.drop (k+1)) by rw [HGO.out,hdrop];show(if 0≤Ev.at_ s.l n then Ev.at_ s.l n else Ev.placeGo n (x.od.drop (k+1)))=_;rw [hp])
   clear hs ea hdrop hp
   go_wp2_with fail
   refine(rat_is0 HP.out _ HSI.out).mono ?_
   rintro e w1 ⟨rfl,rfl⟩
   by_cases h0:0≤p
   ·have t0:decide (0≤p)=true:=decide_eq_true h0
    have HE:=qH (show Ev.place x n=p by rw [HG2.out,if_pos h0])
    go_wp2_with fail
    go_ret
    exact⟨by rw [HE.out];rfl,B0.out⟩
   ·have t0:decide (0≤p)=false:=decide_eq_false h0
    have HE:=qH (show Ev.place x n=Ev.placeGo n (x.od.drop (k+1)) by rw [HG2.out,if_neg h0])
    go_wp2_with fail
    go_roundw
    case rel=>exact⟨k+1,by omega,by go_num,HE.out,by first | rfl | trivial⟩
    case measure=>simp [intOf];omega
  ·have hki:¬ (k:Int) < (x.od.length:Int):=by omega
   have HE:=qH (show Ev.place x n=-1 by rw [HGO.out,List.drop_eq_nil_of_le (by omega)];rfl)
   go_wp2
   go_ret
   exact⟨by rw [HE.out];rfl,B0.out⟩
theorem rplace_is {x:Ev.X} {n p:Int} (h:Ev.place x n=p) (w:World) (hin:Ev.XIn w x) :
 Calls Tryz.prog 52 #[.agg (Ev.xcells x).toArray,.int .i64 n] w fun e w'=>e=.returned (.int .i64 p)∧Below w.heap.size w w':=h ▸ rplace_any x n w hin
theorem rpo_any (x:Ev.X) (a b:Nat) (ha:a < x.ev.length) (hb:b < x.ev.length) (w:World) (hin:Ev.XIn w x) :
 Calls Tryz.prog 42 #[Ev.exV x,.int .i64 (a:Int),.int .i64 (b:Int)] w fun e w'=>e=.returned (.bool (Ev.isPo x a b))∧Below w.heap.size w w':=by
 have HIN:=qH hin
 have hl1:=hin.ev.le;have hl2:=hin.ev.max
 obtain⟨B,hB⟩:∃ B,B=w.alloc (Obj.cells (Ev.xcells x).toArray 26):=⟨_,rfl⟩
 have HB:=qH hB
 have B0:=qH (show Below w.heap.size w B by rw [hB];exact(Below.refl w.heap.size w).alloc (Nat.le_refl _) _)
 have HX:=qH (show Ev.XIn B x from hin.kp (Ev.kp_below B0.out))
 have RX:=qH (show B.heap[w.heap.size]?=some (.cells (Ev.xcells x).toArray 26 (0,0)) by rw [hB];exact heap_alloc_new _ _)
 clear hin hB
 obtain⟨ea,hea⟩:∃ e,x.ev[a]?=some e:=⟨_,List.getElem?_eq_getElem ha⟩
 obtain⟨ga,oa,ega,hca⟩:=HX.out.ev.at_ hea
 have hna:=Ev.nth_some hea
 have hai:(a:Int) < (x.ev.length:Int):=by omega
 obtain⟨eb,heb⟩:∃ e,x.ev[b]?=some e:=⟨_,List.getElem?_eq_getElem hb⟩
 obtain⟨gb,ob,egb,hcb⟩:=HX.out.ev.at_ heb
 have hnb:=Ev.nth_some heb
 have hbi:(b:Int) < (x.ev.length:Int):=by omega
 obtain⟨rfl,rfl⟩:gb=ga∧ob=oa:=by rw [ega] at egb;cases egb;exact⟨rfl,rfl⟩
 have HRES:=qH (show Ev.isPo x a b=(decide (a < b)&&decide (0≤ea.h)&&ea.h==eb.h) by unfold Ev.isPo;rw [hna,hnb])
 have hza:∀ z:Og.On B.heap.size B,∀ i c,(Ev.cells ea)[i]?=some c→z.x.cell? ⟨gb,ob+a * 13+i,none⟩=some c:=fun z i c hi=>Og.cellB z (hca i c hi)
 have La:=qH (fun z:Og.On B.heap.size B=>Ev.ld (hza z))
 have ca0:∀ z:Og.On B.heap.size B,z.x.cell? ⟨gb,ob+a * 13,none⟩=some (.int .i64 ea.h):=fun z=>hza z 0 _ rfl
 have hzb:∀ z:Og.On B.heap.size B,∀ i c,(Ev.cells eb)[i]?=some c→z.x.cell? ⟨gb,ob+b * 13+i,none⟩=some c:=fun z i c hi=>Og.cellB z (hcb i c hi)
 have Lb:=qH (fun z:Og.On B.heap.size B=>Ev.ld (hzb z))
 have cb0:∀ z:Og.On B.heap.size B,z.x.cell? ⟨gb,ob+b * 13,none⟩=some (.int .i64 eb.h):=fun z=>hzb z 0 _ rfl
 have cx:∀ z:Og.On B.heap.size B,z.x.cell? ⟨w.heap.size,0,none⟩=some (.slice (some ⟨gb,ob,none⟩) x.ev.length x.ce):=fun z=>Og.cellB z (by rw [← egb];exact Ev.xcell0 RX.out)
 clear hea heb ega hca hcb hna hnb hza hzb egb
 unfold Ev.exV Ev.xcells
 go_enter Tryz.func42,Tryz.ntmps42
 by_cases h1:a < b
 case neg =>
  have t1:decide (a < b)=false:=decide_eq_false h1
  have t1':decide ((a:Int) < (b:Int))=false:=decide_eq_false (by omega)
  have HF:=qH (show Ev.isPo x a b=false by rw [HRES.out,t1];rfl)
  clear h1
  go_wp2
  rw [show w.alloc (Obj.cells #[Value.slice x.ae x.ev.length x.ce,Value.slice x.fr.a x.fr.l.length x.fr.c,Value.slice x.ao x.od.length x.co] 26)=B from HB.out.symm]
  refine Og.regionB (by kernel_rfl) (by kernel_rfl) ?_
  repeat (first
   | go_big_quiet_skip
   | (go_big_quiet_want
      first
       | (go_big_quiet_op
          first
           | go_big_quiet_on)))
  refine wpQuiet_nil ?_
  intro _ hw'
  obtain⟨q9,hw''⟩:=hw'
  subst hw''
  have HEND:=qH (B0.out.trans (q9.b.mono B0.out.size))
  go_wp2_with fail
  go_ret
  exact⟨by rw [HF.out];rfl,HEND.out⟩
 have t1:decide (a < b)=true:=decide_eq_true h1
 have t1':decide ((a:Int) < (b:Int))=true:=decide_eq_true (by omega)
 by_cases h2:0≤ea.h
 case neg =>
  have t2:decide (0≤ea.h)=false:=decide_eq_false h2
  have HF:=qH (show Ev.isPo x a b=false by rw [HRES.out,t2];simp)
  clear h1 h2
  go_wp2
  rw [show w.alloc (Obj.cells #[Value.slice x.ae x.ev.length x.ce,Value.slice x.fr.a x.fr.l.length x.fr.c,Value.slice x.ao x.od.length x.co] 26)=B from HB.out.symm]
  refine Og.regionB (by kernel_rfl) (by kernel_rfl) ?_
  repeat (first
   | go_big_quiet_skip
   | (go_big_quiet_want
      first
       | (go_big_quiet_op
          first
           | go_big_quiet_on)))
  refine wpQuiet_nil ?_
  intro _ hw'
  obtain⟨q9,hw''⟩:=hw'
  subst hw''
  have HEND:=qH (B0.out.trans (q9.b.mono B0.out.size))
  go_wp2_with fail
  go_ret
  exact⟨by rw [HF.out];rfl,HEND.out⟩
 have t2:decide (0≤ea.h)=true:=decide_eq_true h2
 by_cases h3:ea.h=eb.h
 case neg =>
  have t3:(ea.h==eb.h)=false:=by simpa using h3
  have HF:=qH (show Ev.isPo x a b=false by rw [HRES.out,t3];simp)
  clear h1 h2 h3
  go_wp2
  rw [show w.alloc (Obj.cells #[Value.slice x.ae x.ev.length x.ce,Value.slice x.fr.a x.fr.l.length x.fr.c,Value.slice x.ao x.od.length x.co] 26)=B from HB.out.symm]
  refine Og.regionB (by kernel_rfl) (by kernel_rfl) ?_
  repeat (first
   | go_big_quiet_skip
   | (go_big_quiet_want
      first
       | (go_big_quiet_op
          first
           | go_big_quiet_on)))
  refine wpQuiet_nil ?_
  intro _ hw'
  obtain⟨q9,hw''⟩:=hw'
  subst hw''
  have HEND:=qH (B0.out.trans (q9.b.mono B0.out.size))
  go_wp2_with fail
  go_ret
  exact⟨by rw [HF.out];rfl,HEND.out⟩
 have t3:(ea.h==eb.h)=true:=by simpa using h3
 have HF:=qH (show Ev.isPo x a b=true by rw [HRES.out,t1,t2,t3];rfl)
 clear h1 h2 h3
 go_wp2
 rw [show w.alloc (Obj.cells #[Value.slice x.ae x.ev.length x.ce,Value.slice x.fr.a x.fr.l.length x.fr.c,Value.slice x.ao x.od.length x.co] 26)=B from HB.out.symm]
 refine Og.regionB (by kernel_rfl) (by kernel_rfl) ?_
 repeat (first
  | go_big_quiet_skip
  | (go_big_quiet_want
     first
      | (go_big_quiet_op
         first
          | go_big_quiet_on)))
 refine wpQuiet_nil ?_
 intro _ hw'
 obtain⟨q9,hw''⟩:=hw'
 subst hw''
 have HEND:=qH (B0.out.trans (q9.b.mono B0.out.size))
 go_wp2_with fail
 go_ret
 exact⟨by rw [HF.out];rfl,HEND.out⟩
theorem rrf_any (x:Ev.X) (a b:Nat) (ha:a < x.ev.length) (hb:b < x.ev.length) (hfl:x.fr.l.length=x.ev.length) (w:World) (hin:Ev.XIn w x) :
 Calls Tryz.prog 43 #[Ev.exV x,.int .i64 (a:Int),.int .i64 (b:Int)] w fun e w'=>e=.returned (.bool (Ev.isRf x a b))∧Below w.heap.size w w':=by
 have HIN:=qH hin
 have hl1:=hin.ev.le;have hl2:=hin.ev.max
 obtain⟨B,hB⟩:∃ B,B=w.alloc (Obj.cells (Ev.xcells x).toArray 26):=⟨_,rfl⟩
 have HB:=qH hB
 have B0:=qH (show Below w.heap.size w B by rw [hB];exact(Below.refl w.heap.size w).alloc (Nat.le_refl _) _)
 have HX:=qH (show Ev.XIn B x from hin.kp (Ev.kp_below B0.out))
 have RX:=qH (show B.heap[w.heap.size]?=some (.cells (Ev.xcells x).toArray 26 (0,0)) by rw [hB];exact heap_alloc_new _ _)
 clear hin hB
 obtain⟨eb,heb⟩:∃ e,x.ev[b]?=some e:=⟨_,List.getElem?_eq_getElem hb⟩
 obtain⟨gb,ob,egb,hcb⟩:=HX.out.ev.at_ heb
 have hnb:=Ev.nth_some heb
 have hbi:(b:Int) < (x.ev.length:Int):=by omega
 obtain⟨f,hf⟩:∃ f,x.fr.l[b]?=some f:=⟨_,List.getElem?_eq_getElem (by omega)⟩
 obtain⟨gf,of,ef,hcf⟩:=HX.out.fr.at_ hf
 have hfs:=HX.out.fr.2.1;have hfm:=HX.out.fr.2.2.1
 have HRES:=qH (show Ev.isRf x a b=(Ev.loads eb.k&&f==(a:Int)) by unfold Ev.isRf Ev.frAt;rw [hnb,show x.fr.l.getD b 0=f by simp [List.getD,hf]])
 have hbf:(b:Int) < (x.fr.l.length:Int):=by omega
 have HC:=qH hcb
 have c0:=Ev.xcell0 RX.out;have c1:=Ev.xcell1 RX.out
 rw [egb] at c0;rw [ef] at c1
 have C1:=qH (show ∀ W,Below B.heap.size B W→W.cell? ⟨w.heap.size,1,none⟩=some (.slice (some ⟨gf,of,none⟩) x.fr.l.length x.fr.c) from fun W h=>Ev.kp_below h _ _ c1)
 have C2:=qH (show ∀ W,Below B.heap.size B W→W.cell? ⟨gf,of+b,none⟩=some (.int .i64 f) from fun W h=>Ev.kp_below h _ _ hcf)
 obtain⟨s,hs⟩:∃ s,Ev.loads eb.k=s:=⟨_,rfl⟩
 have HS:=qH hs
 clear heb egb hcb hnb hf ef hcf hfl c1 hs
 unfold Ev.exV Ev.xcells
 go_enter Tryz.func43,Tryz.ntmps43
 go_wp2_with (first | ((with_reducible refine qG 7 ?_);rw [show w.alloc (Obj.cells #[Value.slice x.ae x.ev.length x.ce,Value.slice x.fr.a x.fr.l.length x.fr.c,Value.slice x.ao x.od.length x.co] 26)=B from HB.out.symm]) | ((with_reducible refine qG 11 ?_);refine wpList_load_at rfl 48 (.tmp 10) rfl gb (ob+b * 13) (by kernel_rfl) (Ev.cells eb) _ HC.out Tryz.underlying48 rfl (by kernel_rfl) ?_))
 refine(rloads_is HS.out _).mono ?_
 rintro e W1 ⟨rfl,hb1⟩
 have B1:=qH (B0.out.trans (hb1.mono B0.out.size))
 have c1:=C1.out W1 hb1;have c2:=C2.out W1 hb1
 clear hb1 c0
 cases s
 ·have HF:=qH (show Ev.isRf x a b=false by rw [HRES.out,HS.out];rfl)
  go_wp2_with fail
  go_ret
  exact⟨by rw [HF.out];rfl,B1.out⟩
 by_cases hq:f=(a:Int)
 ·have tq:(f==(a:Int))=true:=by simpa using hq
  have HF:=qH (show Ev.isRf x a b=true by rw [HRES.out,HS.out,tq];rfl)
  clear hq
  go_wp2_with fail
  go_ret
  exact⟨by rw [HF.out];rfl,B1.out⟩
 ·have tq:(f==(a:Int))=false:=by simpa using hq
  have HF:=qH (show Ev.isRf x a b=false by rw [HRES.out,HS.out,tq];rfl)
  clear hq
  go_wp2_with fail
  go_ret
  exact⟨by rw [HF.out];rfl,B1.out⟩
end Go.Proofs.YtnjnpbabgefaeaaGreat
end
