import Derived.Test.YtnjnpbabgefaeaaGreatKp05
import Derived.Laws.Tables
import Derived.Maps.OwnSet
import Derived.Maps.OwnOps
import Derived.Test.YtnjnpbabgefaeaaGreatKp06
import Derived.Test.YtnjnpbabgefaeaaGreatKpH
set_option maxRecDepth 100000
set_option maxHeartbeats 4000000
set_option linter.unusedVariables false
set_option linter.unusedSimpArgs false
section
namespace Go.Proofs.YtnjnpbabgefaeaaGreat
namespace Og
open Go.RowKit
variable {P:Program}
inductive Sq where
 | is (v:Value)
 | new (o:Obj)
 | sl (o:Obj) (n m:Nat)
 | sat (p:Value→Prop)
def Sq.holds (B:Nat):Sq→Value→World→Prop
 | .is u,v,_=>v=u
 | .new o,v,w=>∃ b,v=.pointer (some ⟨b,0,none⟩)∧B≤b∧w.heap[b]?=some o
 | .sl o n m,v,w=>∃ b,v=.slice (some ⟨b,0,none⟩) n m∧B≤b∧w.heap[b]?=some o
 | .sat p,v,_=>p v
theorem Sq.stab {B:Nat} (s:Sq) {v:Value} {w w':World} (h:s.holds B v w) (hb:Below w.heap.size w w'):s.holds B v w':=by
 cases s with
 | is u=>exact h
 | sat p=>exact h
 | new o=>obtain⟨b,h1,h2,h3⟩:=h;exact⟨b,h1,h2,(hb.block b (qL h3)).trans h3⟩
 | sl o n m=>obtain⟨b,h1,h2,h3⟩:=h;exact⟨b,h1,h2,(hb.block b (qL h3)).trans h3⟩
def sq (S:List Sq) (j:Nat):Sq:=S.getD j (.is undef)
def depq (B:Nat) (own:Nat→Option Nat) (a0:Act) (S:List Sq) (ρ:Operand→Value) (w:World):Operand→Prop
 | .tmp t=>match own t with | some i=>(sq S i).holds B (ρ (.tmp t)) w | none=>ρ (.tmp t)=a0.tmps.getD t undef
 | .const c=>ρ (.const c)=c
 | .global g=>ρ (.global g)=.pointer (some ⟨g,0,none⟩)
 | .func f=>ρ (.func f)=.func (.func f) #[] #[]
def depsq (B:Nat) (own:Nat→Option Nat) (a0:Act) (S:List Sq) (ρ:Operand→Value) (w:World):List Operand→Prop
 | []=>True
 | x :: r=>depq B own a0 S ρ w x∧depsq B own a0 S ρ w r
theorem depsq_of {B:Nat} {own:Nat→Option Nat} {ops:Array Oper} {a0:Act} {S:List Sq} {ρ:Operand→Value} {w:World}:∀ {l:List Operand},(∀ t,.tmp t ∈ l→own t=owner ops t) →
 deps ops a0 (fun j=>(sq S j).holds B) ρ w l→depsq B own a0 S ρ w l
 | [],_,_=>trivial
 | x :: r,h,hd=>by
   refine⟨?_,depsq_of (fun t ht=>h t (List.mem_cons_of_mem _ ht)) hd.2⟩
   have h1:=hd.1
   cases x with
   | tmp t =>
     simp only [depq,h t List.mem_cons_self]
     exact h1
   | const c=>exact h1
   | global g=>exact h1
   | func f=>exact h1
def oblq (P:Program) (B c:Nat) (Ph:Bool→World→Prop) (turn:World→World→Prop) (own:Nat→Option Nat) (a0:Act) (S:List Sq) (W:List Bool) (j:Nat) (o:Oper):Prop :=
 (match o.guard with | none=>W.getD j true=true | some (g,b)=>∀ (v:Value) (w:World),(sq S g).holds B v w→if W.getD j true=true then v=.bool b else v≠.bool b) ∧
 (if j=c then W.getD j true=true∧∀ (ρ:Operand→Value) (w1:World),Ph false w1→depsq B own a0 S ρ w1 o.op.operands.toList→gives P o ρ w1 (fun v w'=>(turn w1 w'∧Ph true w')∧(sq S j).holds B (left o v) w')
  else ∀ (ρ:Operand→Value) (w1:World) (b:Bool),Ph b w1→depsq B own a0 S ρ w1 o.op.operands.toList →
   if W.getD j true=true then gives P o ρ w1 (fun v w'=>Below w1.heap.size w1 w'∧(sq S j).holds B (left o v) w') else (sq S j).holds B undef w1)
def oblqs (P:Program) (B c:Nat) (Ph:Bool→World→Prop) (turn:World→World→Prop) (own:Nat→Option Nat) (a0:Act) (S:List Sq) (W:List Bool):Nat→List Oper→Prop
 | _,[]=>True
 | j,o :: r=>oblq P B c Ph turn own a0 S W j o∧oblqs P B c Ph turn own a0 S W (j+1) r
theorem oblqs_at {B c:Nat} {Ph:Bool→World→Prop} {turn:World→World→Prop} {own:Nat→Option Nat} {a0:Act} {S:List Sq} {W:List Bool}:∀ {l:List Oper} {k:Nat},oblqs P B c Ph turn own a0 S W k l→∀ {j:Nat} {o:Oper},l[j]?=some o→oblq P B c Ph turn own a0 S W (k+j) o
 | [],_,_,_,_,h=>by simp at h
 | x :: r,k,h,0,o,ho=>by
   simp at ho
   subst ho
   exact h.1
 | x :: r,k,h,j+1,o,ho=>by
   have:=oblqs_at h.2 (j:=j) (o:=o) (by simpa using ho)
   rwa [show k+1+j=k+(j+1) by omega] at this
def okq (own:Nat→Option Nat) (ops:Array Oper) (sz n:Nat):Bool:=ok ops sz&&tailOk ops n&&decide (n≤ops.size)&&((List.range ops.size).all fun j=>match ops[j]? with
 | some o=>(o.op.operands.all fun x=>match x with | .tmp t=>own t==owner ops t&&(decide (n≤j)||(match owner ops t with | some i=>decide (i < n) | none=>true)) | _=>true) &&
    (decide (n≤j)||(match o.guard with | some (g,_)=>decide (g < n) | none=>true))
 | none=>true)
theorem regionQ {id:Nat} {ls:List Oper} {Q:Exit→Act→World→Prop} {a0:Act} {w:World} (hm:P.follows .mixedOrders=true) (n c:Nat) (Ph:Bool→World→Prop) (turn:World→World→Prop)
 (hph:∀ b w w',Ph b w→Below w.heap.size w w'→Ph b w') (hph0:Ph false w.drew) (hturn:∀ x y b,turn x y→w.heap.size≤b→b < x.heap.size→y.heap[b]?=x.heap[b]?)
 (own:Nat→Option Nat) (S:List Sq) (W:List Bool) (hok:okq own ls.toArray a0.tmps.size n=true) (h:oblqs P w.heap.size c Ph turn own a0 S W 0 (ls.take n))
 (hend:∀ (vs:Nat→Value) (w1:World),Ph (decide (c < n)) w1→(∀ (j:Nat) (o:Oper) (d:Nat),(ls.take n)[j]?=some o→o.dst=some d→(sq S j).holds w.heap.size (vs j) w1) →
   wpList P ls.toArray Q (ls.drop n) (putAll 0 (ls.take n) vs a0) w1) :
 (Code.region id ls.toArray true).wp P Q a0 w:=by
 unfold okq at hok
 simp only [Bool.and_eq_true,decide_eq_true_eq] at hok
 obtain⟨⟨⟨hok1,hok2⟩,hnl⟩,hok3⟩:=hok
 have at3:∀ (j:Nat) (o:Oper),ls[j]?=some o→(∀ t,.tmp t ∈ o.op.operands.toList→own t=owner ls.toArray t∧(j < n→∀ i,owner ls.toArray t=some i→i < n))∧(j < n→∀ g b,o.guard=some (g,b)→g < n):=by
  intro j o ho
  have hj:=(List.getElem?_eq_some_iff.1 ho).1
  have h1:=List.all_eq_true.1 hok3 j (List.mem_range.2 (by simpa using hj))
  have ho':ls.toArray[j]?=some o:=by simpa using ho
  rw [ho'] at h1
  simp only [Bool.and_eq_true] at h1
  refine⟨fun t ht=>?_,fun hjn g b hg=>?_⟩
  ·have h2:=Array.all_eq_true_iff_forall_mem.1 h1.1 (.tmp t) (by simpa using ht)
   simp only [Bool.and_eq_true,Bool.or_eq_true,decide_eq_true_eq] at h2
   refine⟨by simpa using h2.1,fun hjn i hi=>?_⟩
   have h3:=h2.2
   rw [hi] at h3
   simp only [decide_eq_true_eq] at h3
   omega
  ·have h2:=h1.2
   rw [hg] at h2
   simp only [Bool.or_eq_true,decide_eq_true_eq] at h2
   omega
 have tk:∀ (j:Nat) (o:Oper),j < n→ls.toArray[j]?=some o→(ls.take n)[j]?=some o:=fun j o hj ho=>by
  rw [List.getElem?_take_of_lt hj];simpa using ho
 refine regionC hm n c Ph turn hph hph0 (fun j=>(sq S j).holds w.heap.size) (fun j v w1 w2 h hb=>(sq S j).stab h hb) (fun j v w1 w2 h ht=>?_) (fun j=>W.getD j true) hok1 hok2 hnl
  (fun j o hj ho=>?_) (fun j o hj ho ρ w1 b hp hc hd=>?_) (fun j i t o hj ho ht hi=>((at3 j o (by simpa using ho)).1 t ht).2 hj i hi) (fun a w1 hp hdf hsz hall hout=>?_)
 ·cases hs:sq S j with
  | is u=>rw [hs] at h;exact h
  | sat p=>rw [hs] at h;exact h
  | new o =>
    rw [hs] at h
    obtain⟨b,h1,h2,h3⟩:=h
    exact⟨b,h1,h2,(hturn _ _ b ht h2 (qL h3)).trans h3⟩
  | sl o n' m' =>
    rw [hs] at h
    obtain⟨b,h1,h2,h3⟩:=h
    exact⟨b,h1,h2,(hturn _ _ b ht h2 (qL h3)).trans h3⟩
 ·have:=(oblqs_at h (tk j o hj ho)).1
  rw [Nat.zero_add] at this
  cases hg:o.guard with
  | none=>rw [hg] at this;exact this
  | some gb =>
    obtain⟨g,b⟩:=gb
    rw [hg] at this
    exact⟨(at3 j o (by simpa using ho)).2 hj g b hg,this⟩
 ·have h1:=(oblqs_at h (tk j o hj ho)).2
  rw [Nat.zero_add] at h1
  have hd':=depsq_of (B:=w.heap.size) (own:=own) (S:=S) (fun t ht=>((at3 j o (by simpa using ho)).1 t ht).1) hd
  by_cases hjc:j=c
  ·rw [if_pos hjc] at h1
   have hb:=hc hjc
   subst hb
   rw [if_pos h1.1]
   have h2:=h1.2 ρ w1 hp hd'
   simpa only [if_pos hjc] using h2
  ·rw [if_neg hjc] at h1
   have h2:=h1 ρ w1 b hp hd'
   by_cases hw:W.getD j true=true
   ·rw [if_pos hw] at h2 ⊢
    simpa only [if_neg hjc] using h2
   ·rw [if_neg hw] at h2 ⊢
    exact⟨hjc,h2⟩
 ·have key:=hend (fun j=>match (ls.take n)[j]? with | some o=>slot o a | none=>undef) w1 hp (fun j o d ho hd=>by
   have hlt:=(List.getElem?_eq_some_iff.1 ho).1
   have hjn:j < n:=by simp at hlt;omega
   have:=hall j o hjn (by rw [List.getElem?_toArray];rwa [List.getElem?_take_of_lt hjn] at ho)
   simpa [ho] using this)
  rw [putAll_eq (b:=a) (ls.take n) 0 a0 hsz.symm hdf.symm (fun j o d ho hd=>?_) (fun t ht=>?_)] at key
  ·simpa using key
  ·have hlt:=(List.getElem?_eq_some_iff.1 ho).1
   have hjn:j < n:=by simp at hlt;omega
   have h1:=(ok_at hok1 (j:=j) (o:=o) (by rw [List.getElem?_toArray];rwa [List.getElem?_take_of_lt hjn] at ho)).1 d hd
   refine⟨by rw [hsz];exact h1.1,?_⟩
   simp only [Nat.zero_add,ho,slot,hd]
  ·refine hout t fun i hi=>?_
   apply Classical.byContradiction
   intro hlt
   obtain⟨o,ho,hd⟩:=owner_spec hi
   exact ht i o (tk i o (by omega) ho) hd
theorem regionP {id:Nat} {ls:List Oper} {Q:Exit→Act→World→Prop} {a0:Act} {w:World} (hm:P.follows .mixedOrders=true) (n:Nat)
 (own:Nat→Option Nat) (S:List Sq) (W:List Bool) (hok:okq own ls.toArray a0.tmps.size n=true) (hn:(ls.take n).length≤1000)
 (h:oblqs P w.heap.size 1000 (fun _ x=>Below w.heap.size w x) (fun _ _=>False) own a0 S W 0 (ls.take n))
 (hend:∀ (vs:Nat→Value) (w1:World),Below w.heap.size w w1→(∀ (j:Nat) (o:Oper) (d:Nat),(ls.take n)[j]?=some o→o.dst=some d→(sq S j).holds w.heap.size (vs j) w1) →
   wpList P ls.toArray Q (ls.drop n) (putAll 0 (ls.take n) vs a0) w1) :
 (Code.region id ls.toArray true).wp P Q a0 w :=
 regionQ hm n 1000 (fun _ x=>Below w.heap.size w x) (fun _ _=>False) (fun b x y hx hb=>hx.trans (hb.mono hx.size)) ⟨rfl,rfl,rfl,Nat.le_refl _,fun _ _=>rfl⟩ (fun x y b h=>h.elim) own S W hok h hend
theorem gives_build {o:Oper} {ρ:Operand→Value} {w:World} {R:Value→World→Prop} (t:TypeId) (parts:Array (Nat × Operand)) (ho:o.op=.build t parts) (cs:Array Value)
 (hb:P.built t (parts.map fun (i,x)=>(i,ρ x)).toList=some cs) (hr:R (.agg cs) w):gives P o ρ w R:=by
 refine gives_is (.agg cs) ?_ hr
 unfold execOp
 simp only [ho,Sem.run_bind,run_build w t _ cs hb,Result.andThen_ok,Sem.run_pure]
def PhS (w:World) (g:Nat) (cs:Array Value):Bool→World→Prop
 | false,x=>Below w.heap.size w x
 | true,x=>∃ y,Below w.heap.size w y∧Below (y.setRow g cs).heap.size (y.setRow g cs) x
theorem PhS.old {w x:World} {g:Nat} {cs:Array Value} {b:Bool} (h:PhS w g cs b x) {k:Nat} {o:Obj} (hk:k≠g) (ho:w.heap[k]?=some o):x.heap[k]?=some o:=by
 have hlt:=(qL ho)
 cases b with
 | false=>exact(Below.block h k hlt).trans ho
 | true =>
   obtain⟨y,h1,h2⟩:=h
   have h3:(y.setRow g cs).heap[k]?=some o:=(setRow_other y g k cs hk).trans ((h1.block k hlt).trans ho)
   exact(h2.block k (qL h3)).trans h3
theorem PhS.cell {w x:World} {g:Nat} {cs:Array Value} {b:Bool} (h:PhS w g cs b x) {k j:Nat} {cells:Array Value} {t:TypeId} {fr:Nat × Nat} (hk:k≠g) (ho:w.heap[k]?=some (.cells cells t fr)):x.cell? ⟨k,j,none⟩=cells[j]?:=by
 rw [cell_of_row x k j _ _ _ (h.old hk ho)]
theorem PhS.below {w0 w x:World} {g B:Nat} {cs:Array Value} (h:PhS w g cs true x) (h0:Below B w0 w) (hB:B≤w.heap.size) (hg:B≤g):Below B w0 x:=by
 obtain⟨y,h1,h2⟩:=h
 have h3:Below B w0 (y.setRow g cs):=(h0.trans (h1.mono hB)).trans ⟨rfl,rfl,rfl,by simp [World.setRow],fun k hk=>setRow_other y g k cs (by omega)⟩
 exact h3.trans (h2.mono (by have:=h3.size;have:=h0.size;have:=h1.size;simp [World.setRow] at *;omega))
theorem PhS.new {w x:World} {g:Nat} {cs old:Array Value} {t:TypeId} {fr:Nat × Nat} (h:PhS w g cs true x) (ho:w.heap[g]?=some (.cells old t fr)):x.heap[g]?=some (.cells cs t fr):=by
 obtain⟨y,h1,h2⟩:=h
 have h3:y.heap[g]?=some (.cells old t fr):=(h1.block g (qL ho)).trans ho
 have h4:(y.setRow g cs).heap[g]?=some (.cells cs t fr):=setRow_heap _ _ _ _ _ _ h3
 exact(h2.block g (qL h4)).trans h4
structure Kept (q g:Nat) (w w':World):Prop where
 os:w'.os=w.os
 tape:w'.tape=w.tape
 output:w'.output=w.output
 size:w.heap.size≤w'.heap.size
 block:∀ k,k < w.heap.size→k≠q→k≠g→w'.heap[k]?=w.heap[k]?
theorem Kept.refl (q g:Nat) (w:World):Kept q g w w:=⟨rfl,rfl,rfl,Nat.le_refl _,fun _ _ _ _=>rfl⟩
theorem Kept.trans {q g:Nat} {a b c:World} (h:Kept q g a b) (k:Kept q g b c):Kept q g a c :=
 ⟨k.os.trans h.os,k.tape.trans h.tape,k.output.trans h.output,Nat.le_trans h.size k.size,fun i hi h1 h2=>(k.block i (Nat.lt_of_lt_of_le hi h.size) h1 h2).trans (h.block i hi h1 h2)⟩
theorem Kept.of_below {q g:Nat} {w w':World} (h:Below w.heap.size w w'):Kept q g w w':=⟨h.os,h.tape,h.output,h.size,fun k hk _ _=>h.block k hk⟩
theorem Kept.setCell {q g:Nat} {a w:World} (h:Kept q g a w) (j:Nat) (u:Value):Kept q g a (w.setCell ⟨q,j,none⟩ u) :=
 h.trans ⟨rfl,rfl,rfl,by simp [World.setCell],fun k hk h1 _=>Below.heap_setCell _ _ _ _ (by simpa using h1)⟩
theorem Kept.below {q g:Nat} {a b c:World} (h:Kept q g a b) (k:Below b.heap.size b c):Kept q g a c:=h.trans (Kept.of_below k)
theorem Kept.setRow {q g r:Nat} {a w:World} (h:Kept q g a w) (hr:a.heap.size≤r) (cs:Array Value):Kept q g a (w.setRow r cs) :=
 ⟨h.os,h.tape,h.output,by simpa [World.setRow] using h.size,fun k hk h1 h2=>(setRow_other w r k cs (by omega)).trans (h.block k hk h1 h2)⟩
def PhK (w:World) (q g:Nat) (Post:World→Prop):Bool→World→Prop
 | false,x=>Below w.heap.size w x
 | true,x=>∃ y z,Below w.heap.size w y∧Kept q g y z∧Post z∧Below z.heap.size z x
theorem PhK.old {w x:World} {q g:Nat} {Post:World→Prop} {b:Bool} (h:PhK w q g Post b x) {k:Nat} {o:Obj} (h1:k≠q) (h2:k≠g) (ho:w.heap[k]?=some o):x.heap[k]?=some o:=by
 have hlt:=(qL ho)
 cases b with
 | false=>exact(Below.block h k hlt).trans ho
 | true =>
   obtain⟨y,z,hy,hz,_,hx⟩:=h
   have e1:y.heap[k]?=some o:=(hy.block k hlt).trans ho
   have e2:z.heap[k]?=some o:=(hz.block k (qL e1) h1 h2).trans e1
   exact(hx.block k (qL e2)).trans e2
theorem PhK.size {w x:World} {q g:Nat} {Post:World→Prop} {b:Bool} (h:PhK w q g Post b x):w.heap.size≤x.heap.size:=by
 cases b with
 | false=>exact Below.size h
 | true=>obtain⟨y,z,hy,hz,_,hx⟩:=h;exact Nat.le_trans hy.size (Nat.le_trans hz.size hx.size)
theorem PhK.kept {w x:World} {q g:Nat} {Post:World→Prop} {b:Bool} (h:PhK w q g Post b x):Kept q g w x:=by
 cases b with
 | false=>exact Kept.of_below h
 | true=>obtain⟨y,z,hy,hz,_,hx⟩:=h;exact((Kept.of_below hy).trans hz).below hx
end Og
end Go.Proofs.YtnjnpbabgefaeaaGreat
end
section
namespace Go.Proofs.YtnjnpbabgefaeaaGreat
open Go.RowKit Go.Maps
theorem inB_is {n m:Int} {b:Bool} (h:Ev.inB n m=b) (w:World):Calls Tryz.prog 119 #[.int .i64 n,.int .i64 m] w fun e w'=>e=.returned (.bool b)∧w=w':=h ▸ inB_any n m w
theorem stores_is {x:Ev.R} {b:Bool} (h:Ev.stores x.k=b) (w:World):Calls Tryz.prog 100 #[.agg (Ev.cells x).toArray] w fun e w'=>e=.returned (.bool b)∧Below w.heap.size w w':=h ▸ stores_any x w
theorem World.grownBy.but_of {a w:World} (h:Below a.heap.size a w):a.grownBy w none:=⟨h.os,h.tape,h.output,h.size,fun i hi _=>h.block i hi⟩
theorem law_u32:Keyed Tryz.prog 46:=int_keyed Tryz.underlying46
theorem law_int:Keyed Tryz.prog 3:=int_keyed Tryz.underlying3
theorem zero_int (w:World):(zeroValue 3).run Tryz.prog w=.ok (.int .i64 0) w:=by kernel_rfl
theorem zero_unit (w:World):(zeroValue 94).run Tryz.prog w=.ok (.agg #[]) w:=by kernel_rfl
theorem wf_of_i64 {n:Int} (h:Ev.i64B n):(Lit.int .i64 n).wf=true:=by
 unfold Ev.i64B at h
 have h1:IntKind.i64.min=-9223372036854775808:=by decide
 have h2:IntKind.i64.max=9223372036854775807:=by decide
 simp only [Lit.wf,h1,h2,Bool.and_eq_true,decide_eq_true_eq];exact h
theorem wf_of_u32 {n:Int} (h:Ev.u32B n):(Lit.int .u32 n).wf=true:=by
 unfold Ev.u32B at h
 have h1:IntKind.u32.min=0:=by decide
 have h2:IntKind.u32.max=4294967295:=by decide
 simp only [Lit.wf,h1,h2,Bool.and_eq_true,decide_eq_true_eq];omega
namespace Ev
def onceAt (xs:List R) (h0:Int) (n:Int):Bool:=inB n xs.length&&stores (nth xs n).k&&(nth xs n).a==(nth xs h0).a
def onceOk (xs:List R) (l:List Int):Bool:=l.all (onceAt xs (l.getD 0 0))&&decide l.Nodup
structure SetIs (w:World) (b n:Nat) (l:List Int):Prop where
 ex:∃ D:DataW Unit,w.ownsMap Tryz.prog 3 unitElem b n D∧(∀ x,i64B x→Maps.has D (.int .i64 x)=decide (x ∈ l))∧∃ m,Maps.size D=m∧m≤l.length∧(m=l.length↔l.Nodup)
theorem iskey_int (q:IntKind) (x:Int):WideAt.IsKeyLit (.int q x):=by first | trivial | exact rfl | simp [WideAt.IsKeyLit]
theorem set_step {D:DataW Unit} {l:List Int} {x:Int} (ht:Tidy D) (hx:i64B x) (hh:∀ x,i64B x→Maps.has D (.int .i64 x)=decide (x ∈ l)) (hm:∃ m,Maps.size D=m∧m≤l.length∧(m=l.length↔l.Nodup)) :
 (∀ y,i64B y→Maps.has (D.put (.int .i64 x) (.agg [])) (.int .i64 y)=decide (y ∈ l++[x]))∧∃ m,Maps.size (D.put (.int .i64 x) (.agg []))=m∧m≤(l++[x]).length∧(m=(l++[x]).length↔(l++[x]).Nodup):=by
 obtain⟨m,h1,h2,h3⟩:=hm
 refine⟨fun y hy=>?_,?_⟩
 ·by_cases hxy:y=x
  ·subst hxy
   rw [Maps.has_put_same ht.isMap (iskey_int _ _)];simp
  ·rw [Maps.has_put_other (by intro e;injection e with _ e;exact hxy e),hh y hy];simp [hxy]
 ·rw [Maps.size_put ht,hh x hx,h1]
  by_cases hx:x ∈ l
  ·have hn:¬ (l++[x]).Nodup:=fun h=>by
    rw [List.nodup_append] at h
    exact h.2.2 x hx x (by simp) rfl
   refine⟨m,by simp [hx],by simp;omega,?_⟩
   constructor
   ·intro e;simp at e;omega
   ·intro e;exact absurd e hn
  ·refine⟨m+1,by simp [hx],by simp;omega,?_⟩
   have hn:(l++[x]).Nodup↔l.Nodup:=by
    rw [List.nodup_append]
    constructor
    ·exact fun h=>h.1
    ·exact fun h=>⟨h,by simp,fun a ha b hb=>by simp at hb;subst hb;intro e;subst e;exact hx ha⟩
   rw [hn,← h3]
   simp
end Ev
theorem once_any (a:Option Addr) (c:Nat) (xs:List Ev.R) (s:Ev.Sl) (h0:Nat) (hh:s.l[0]?=some (h0:Int)) (hh0:h0 < xs.length) (w:World) (hin:Ev.EvsIn w a c xs) (hs:Ev.IntsIn w s) :
 Calls Tryz.prog 101 #[.slice a xs.length c,.slice s.a s.l.length s.c] w fun e w'=>e=.returned (.bool (Ev.onceOk xs s.l))∧Below w.heap.size w w':=by
 have hmax:=hin.max;have hle:=hin.le;have hsm:=hs.2.2.1;have hsl:=hs.2.1
 have HIN:=qH hin;have HS:=qH hs
 obtain⟨z0,hz⟩:∃ z,xs[h0]?=some z:=⟨_,List.getElem?_eq_getElem hh0⟩
 have hzn:=Ev.nth_some hz
 have hl0:0 < s.l.length:=(List.getElem?_eq_some_iff.1 hh).1
 have hgd:s.l.getD 0 0=(h0:Int):=by simp [List.getD,hh]
 have HGD:=qH hgd;have HZN:=qH hzn
 have HH:=qH hh;have HZ:=qH hz
 clear hin hs hgd hzn
 have hmm:=@run_makeMap Tryz.prog
 obtain⟨g0,o0,es,cs0⟩:=HS.out.at_ hh
 obtain⟨gx,ox,ea,cz⟩:=HIN.out.at_ hz
 have ca0:=cz 2 _ rfl
 have HEA:=qH ea;have HES:=qH es
 clear hh hz cz
 rw [ea,es];clear ea es
 have hh0i:(h0:Int) < (xs.length:Int):=by omega
 have hl0i:(0:Int) < (s.l.length:Int):=by omega
 go_enter Tryz.func101,Tryz.ntmps101
 go_wp2
 go_loopw [7,11] (fun _ i wr=>∃ k:Nat,k≤s.l.length∧i=.int .i64 (k:Int)∧(∀ j v,j < k→s.l[j]?=some v→Ev.onceAt xs h0 v=true)∧Ev.SetIs wr w.heap.size k (s.l.take k)∧Below w.heap.size w wr) (fun _ i _=>s.l.length - (intOf i).toNat)
 case atStart=>exact⟨0,Nat.zero_le _,rfl,fun j v hj=>absurd hj (by omega),⟨⟨_,World.ownsMap_made _ _ _ _,fun x _=>by simp [Maps.has],0,by simp [Maps.size],by simp,by simp⟩⟩,(Below.refl _ _).alloc (Nat.le_refl _) _⟩
 case round =>
  obtain⟨k,hk,rfl,hall,hset,hbr⟩:=hrel
  have HA:=qH hall;have HBR:=qH hbr;have HSET:=qH hset;clear hall hbr hset
  by_cases hlt:k < s.l.length
  ·obtain⟨v,hv⟩:∃ v,s.l[k]?=some v:=⟨_,List.getElem?_eq_getElem hlt⟩
   have hvb:=HS.out.b_ hv
   have htk:s.l.take (k+1)=s.l.take k++[v]:=by rw [List.take_add_one,hv];rfl
   obtain⟨g1,o1,e1,c1⟩:=(HS.out.kp (Ev.kp_below HBR.out)).at_ hv
   obtain⟨rfl,rfl⟩:g1=g0∧o1=o0:=by have:=HES.out;rw [this] at e1;cases e1;exact⟨rfl,rfl⟩
   have HV:=qH hv;have HTK:=qH htk
   have hki:(k:Int) < (s.l.length:Int):=by omega
   have HVB:=qH hvb
   unfold Ev.i64B at hvb
   clear hv htk e1
   have fin:Ev.onceAt xs h0 v=false→Ev.onceOk xs s.l=false:=fun e=>by
    unfold Ev.onceOk;rw [HGD.out]
    have:s.l.all (Ev.onceAt xs h0)=false:=by rw [List.all_eq_false];exact⟨v,List.mem_of_getElem? HV.out,by rw [e];simp⟩
    rw [this];rfl
   have FIN:=qH fin;clear fin
   by_cases hb:Ev.inB v xs.length=true
   ·have hr:0≤v∧v < (xs.length:Int):=by unfold Ev.inB at hb;simpa using hb
    obtain⟨vn,rfl⟩:∃ vn:Nat,v=vn:=⟨v.toNat,by omega⟩
    have hvl:vn < xs.length:=by omega
    obtain⟨y,hy⟩:∃ y,xs[vn]?=some y:=⟨_,List.getElem?_eq_getElem hvl⟩
    have hyn:=Ev.nth_some hy
    obtain⟨gy,oy,ey,cy⟩:=(HIN.out.kp (Ev.kp_below HBR.out)).at_ hy
    obtain⟨rfl,rfl⟩:gy=gx∧oy=ox:=by have:=HEA.out;rw [this] at ey;cases ey;exact⟨rfl,rfl⟩
    have cy2:∀ z:Og.On wr.heap.size wr,∀ i c,(Ev.cells y)[i]?=some c→z.x.cell? ⟨gy,oy+vn * 13+i,none⟩=some c:=fun z i c hi=>Og.cellB z (cy i c hi)
    have LY:=qH (fun z:Og.On wr.heap.size wr=>Ev.ld (cy2 z))
    have ca:∀ z:Og.On wr.heap.size wr,z.x.cell? ⟨gy,oy+vn * 13+2,none⟩=some (.int .u32 y.a):=fun z=>cy2 z 2 _ rfl
    have cb:∀ z:Og.On wr.heap.size wr,z.x.cell? ⟨gy,oy+h0 * 13+2,none⟩=some (.int .u32 z0.a):=fun z=>Og.cellB z (Ev.kp_below HBR.out _ _ ca0)
    have cd:∀ z:Og.On wr.heap.size wr,z.x.cell? ⟨g1,o1,none⟩=some (.int .i64 (h0:Int)):=fun z=>Og.cellB z (Ev.kp_below HBR.out _ _ (by simpa using cs0))
    have HB:=qH hb;have HY:=qH hyn
    have hvi:(vn:Int) < (xs.length:Int):=by omega
    clear cy cy2 hy hyn hb ey
    obtain⟨b1,hb1⟩:∃ b,Ev.stores y.k=b:=⟨_,rfl⟩
    have HB1:=qH hb1;clear hb1
    have hat:Ev.onceAt xs h0 vn=(b1&&(y.a==z0.a)):=by unfold Ev.onceAt;rw [HB.out,HY.out,HZN.out,HB1.out];simp
    have HAT:=qH hat;clear hat
    have cb1:∀ z:Og.On wr.heap.size wr,Calls Tryz.prog 100 #[.agg (Ev.cells y).toArray] z.x fun e w''=>e=.returned (.bool b1)∧∃ q':Og.On wr.heap.size wr,w''=q'.x:=fun z=>Og.callB (stores_is HB1.out _)
    have CB1:=qH cb1;clear cb1
    cases b1
    ·go_wp2
     refine Og.regionB (by kernel_rfl) (by kernel_rfl) ?_
     repeat (first
      | go_big_quiet_skip
      | (go_big_quiet_want
         first
          | (refine Og.quiet_load 48 (.tmp 23) rfl (.agg (Ev.cells y).toArray) ⟨gy,oy+vn * 13,none⟩ _ rfl (by rintro _ ⟨z,rfl⟩;exact LY.out z) (by simp only [Act.put,qa,qb,qc];rfl) ?_
             go_big_quiet_on)
          | (go_big_quiet_op
             first
              | go_big_quiet_on
              | (apply Exists.intro
                 refine⟨fun z=>?_,?_⟩
                 ·first
                   | exact Og.callS (inB_is HB.out _)
                   | exact CB1.out z
                 go_big_quiet_on))))
     refine wpQuiet_nil ?_
     intro _ hw'
     obtain⟨q9,hw''⟩:=hw'
     subst hw''
     have HEND:=qH (HBR.out.trans (q9.b.mono HBR.out.size))
     go_wp2_with fail
     go_ret
     exact⟨by rw [FIN.out (by rw [HAT.out];rfl)];rfl,HEND.out⟩
    by_cases hya:y.a=z0.a
    ·have hq:(y.a != z0.a)=false:=by simp [hya]
     have HYA:=qH hya;clear hya
     go_wp2
     refine Og.regionB (by kernel_rfl) (by kernel_rfl) ?_
     repeat (first
      | go_big_quiet_skip
      | (go_big_quiet_want
         first
          | (refine Og.quiet_load 48 (.tmp 23) rfl (.agg (Ev.cells y).toArray) ⟨gy,oy+vn * 13,none⟩ _ rfl (by rintro _ ⟨z,rfl⟩;exact LY.out z) (by simp only [Act.put,qa,qb,qc];rfl) ?_
             go_big_quiet_on)
          | (go_big_quiet_op
             first
              | go_big_quiet_on
              | (apply Exists.intro
                 refine⟨fun z=>?_,?_⟩
                 ·first
                   | exact Og.callS (inB_is HB.out _)
                   | exact CB1.out z
                 go_big_quiet_on))))
     refine wpQuiet_nil ?_
     intro _ hw'
     obtain⟨q9,hw''⟩:=hw'
     subst hw''
     have HEND:=qH (HBR.out.trans (q9.b.mono HBR.out.size))
     have hset9:Ev.SetIs q9.x w.heap.size k (s.l.take k):=by
      obtain⟨D,ho,h2,h3⟩:=HSET.out.ex
      exact⟨D,ho.kept (World.grownBy.but_of q9.b) (by simp),h2,h3⟩
     obtain⟨⟨D,hown,hhas,hsz⟩⟩:=hset9
     have HOWN:=qH hown;have HHAS:=qH hhas;have HSZ:=qH hsz
     have HKEY:=qH (keyOf_int_mk (P:=Tryz.prog) Tryz.underlying3 (wf_of_i64 HVB.out))
     clear hown hhas hsz
     go_wp2_with (at_mapUpdate;refine wpList_mapUpdate_own _ rfl _ _ _ 151 rfl 3 94 law_int Tryz.underlying151 unitElem w.heap.size k _ rfl HOWN.out (by unfold maxLen;omega) _ _ _ rfl rfl HKEY.out (.agg []) [] unitElem_mk ?_;intro w1 hown1 hgrow1)
     have HO1:=qH hown1;have HG1:=qH hgrow1;clear hown1 hgrow1
     go_roundw
     case rel =>
      have hst:=Ev.set_step (HOWN.out.tidy law_int) HVB.out HHAS.out HSZ.out
      refine⟨k+1,by omega,by go_num,fun j u hj hu=>?_,?_,HEND.out.grown HG1.out HEND.out.size (fun j hj=>by cases hj;exact Nat.le_refl _)⟩
      ·by_cases hjk:j=k
       ·subst hjk;rw [HV.out] at hu;cases hu;rw [HAT.out];simp [HYA.out]
       ·exact HA.out j u (by omega) hu
      ·rw [HTK.out]
       exact⟨⟨_,HO1.out,hst.1,hst.2⟩⟩
     case measure=>simp [intOf];omega
    ·have hq:(y.a != z0.a)=true:=by simpa using hya
     have hq2:(y.a==z0.a)=false:=by simpa using hya
     have HYA:=qH hq2;clear hya hq2
     go_wp2
     refine Og.regionB (by kernel_rfl) (by kernel_rfl) ?_
     repeat (first
      | go_big_quiet_skip
      | (go_big_quiet_want
         first
          | (refine Og.quiet_load 48 (.tmp 23) rfl (.agg (Ev.cells y).toArray) ⟨gy,oy+vn * 13,none⟩ _ rfl (by rintro _ ⟨z,rfl⟩;exact LY.out z) (by simp only [Act.put,qa,qb,qc];rfl) ?_
             go_big_quiet_on)
          | (go_big_quiet_op
             first
              | go_big_quiet_on
              | (apply Exists.intro
                 refine⟨fun z=>?_,?_⟩
                 ·first
                   | exact Og.callS (inB_is HB.out _)
                   | exact CB1.out z
                 go_big_quiet_on))))
     refine wpQuiet_nil ?_
     intro _ hw'
     obtain⟨q9,hw''⟩:=hw'
     subst hw''
     have HEND:=qH (HBR.out.trans (q9.b.mono HBR.out.size))
     go_wp2_with fail
     go_ret
     exact⟨by rw [FIN.out (by rw [HAT.out,HYA.out];rfl)];rfl,HEND.out⟩
   ·have hb:Ev.inB v xs.length=false:=by simpa using hb
    have HB:=qH hb;clear hb
    go_wp2
    refine Og.regionB (by kernel_rfl) (by kernel_rfl) ?_
    repeat (first
     | go_big_quiet_skip
     | (go_big_quiet_want
        first
         | (go_big_quiet_op
            first
             | go_big_quiet_on
             | (apply Exists.intro
                refine⟨fun z=>?_,?_⟩
                ·first
                  | exact Og.callS (inB_is HB.out _)
                go_big_quiet_on))))
    refine wpQuiet_nil ?_
    intro _ hw'
    obtain⟨q9,hw''⟩:=hw'
    subst hw''
    have HEND:=qH (HBR.out.trans (q9.b.mono HBR.out.size))
    go_wp2_with fail
    go_ret
    exact⟨by rw [FIN.out (by unfold Ev.onceAt;rw [HB.out];rfl)];rfl,HEND.out⟩
  ·have hkk:k=s.l.length:=by omega
   have hki:¬ (k:Int) < (s.l.length:Int):=by omega
   obtain⟨⟨D,hown,hhas,hsz⟩⟩:=HSET.out
   obtain⟨m,hm1,hm2,hm3⟩:=hsz
   have HOWN:=qH hown
   have hres:Ev.onceOk xs s.l=(m==s.l.length):=by
    unfold Ev.onceOk
    rw [HGD.out]
    have h1:s.l.all (Ev.onceAt xs h0)=true:=by
     rw [List.all_eq_true];intro v hv
     obtain⟨j,hj⟩:=List.mem_iff_getElem?.1 hv
     exact HA.out j v (by have:=(List.getElem?_eq_some_iff.1 hj).1;omega) hj
    rw [h1,hkk] at *
    rw [List.take_length] at hm3
    rw [Bool.true_and]
    by_cases hn:s.l.Nodup
    ·have:=hm3.2 hn;simp [hn,this]
    ·have:m≠s.l.length:=fun e=>hn (hm3.1 e)
     simp [hn,this]
   have HRES:=qH hres;have HM1:=qH hm1
   have hmb:m≤s.l.length:=by have:=hm2;simp at this;omega
   clear hown hhas hm1 hm2 hm3 hres hkk
   go_wp2_with (at_len;refine wpList_len_own _ rfl _ 151 rfl 3 94 Tryz.underlying151 unitElem w.heap.size k D rfl HOWN.out ?_;rw [HM1.out])
   go_ret
   exact⟨by rw [HRES.out];show Ending.returned (.bool _)=_;congr 2;rw [Bool.eq_iff_iff];simp;omega,HBR.out⟩
end Go.Proofs.YtnjnpbabgefaeaaGreat
end
section
namespace Go.Proofs.YtnjnpbabgefaeaaGreat
open Go.RowKit
namespace Ev
def extra (x:R):Bool:=bits .andNot .i64 ((filled x:Nat):Int) (parts x.k) != 0
def partsOk (x:R):Bool:=parts x.k != 0&&!(extra x)&&hartOk x&&x.a % 4==0&&inB x.p 4&&inB x.s 4
end Ev
theorem partsOk_any (x:Ev.R) (w:World) (ha:Ev.u32B x.a):Calls Tryz.prog 94 #[Ev.evV x] w fun e w'=>e=.returned (.bool (Ev.partsOk x))∧Below w.heap.size w w':=by
 have R0:=qH (heap_alloc_new w (.cells (Ev.cells x).toArray 48))
 have B0:=qH ((Below.refl w.heap.size w).alloc (Nat.le_refl _) (.cells (Ev.cells x).toArray 48))
 have hm:x.a.tmod 4=x.a % 4:=Int.tmod_eq_emod_of_nonneg ha.1
 have HU:=qH ha;clear ha
 by_cases h0:(Ev.parts x.k==0)=true
 ·have e:Ev.partsOk x=false:=by unfold Ev.partsOk;simp at h0;simp [h0]
  rw [e];clear e
  unfold Ev.evV Ev.cells
  go_enter Tryz.func94,Tryz.ntmps94
  go_wp2_with fail
  refine(parts_any _ _).mono ?_
  rintro e w' ⟨rfl,rfl⟩
  go_wp2_with fail
  go_ret
  exact⟨rfl,B0.out⟩
 have h0:(Ev.parts x.k==0)=false:=by simpa using h0
 have n0:(Ev.parts x.k != 0)=true:=by simpa using h0
 by_cases h1:Ev.extra x=true
 ·have e:Ev.partsOk x=false:=by unfold Ev.partsOk;simp [h1]
  have h1':(bits .andNot .i64 ((Ev.filled x:Nat):Int) (Ev.parts x.k) != 0)=true:=h1
  rw [e];clear e h1 n0
  unfold Ev.evV Ev.cells
  go_enter Tryz.func94,Tryz.ntmps94
  go_wp2_with fail
  refine(parts_any _ _).mono ?_
  rintro e w' ⟨rfl,rfl⟩
  go_wp2_with (show wpList _ _ _ (Oper.mk (some 10) _ _ _ _ _ :: _) _ _;refine wpList_load_row rfl 48 (.tmp 1) rfl w.heap.size rfl 48 (Ev.cells x).toArray (0,0) _ R0.out Tryz.underlying48 rfl (by kernel_rfl) ?_)
  refine(filled_any x _).mono ?_
  rintro e w2 ⟨rfl,hlt,hb⟩
  have HB:=qH (B0.out.trans (hb.mono (by simp only [World.size_alloc];omega)));clear hb
  go_wp2_with fail
  go_ret
  exact⟨rfl,HB.out⟩
 have h1:Ev.extra x=false:=by simpa using h1
 have h1':(bits .andNot .i64 ((Ev.filled x:Nat):Int) (Ev.parts x.k) != 0)=false:=h1
 have eq:Ev.partsOk x=(Ev.hartOk x&&x.a % 4==0&&Ev.inB x.p 4&&Ev.inB x.s 4):=by unfold Ev.partsOk;rw [h1,n0];simp
 rw [eq];clear eq n0 h1
 obtain⟨b1,hb1⟩:∃ b,b=Ev.hartOk x:=⟨_,rfl⟩
 obtain⟨b3,hb3⟩:∃ b,b=Ev.inB x.p 4:=⟨_,rfl⟩
 obtain⟨b4,hb4⟩:∃ b,b=Ev.inB x.s 4:=⟨_,rfl⟩
 rw [← hb1,← hb3,← hb4]
 have HB1:=qH hb1;have HB3:=qH hb3;have HB4:=qH hb4;clear hb1 hb3 hb4
 have main:∀ b2:Bool,(x.a % 4==0)=b2→Calls Tryz.prog 94 #[Ev.evV x] w fun e w'=>e=.returned (.bool (b1&&b2&&b3&&b4))∧Below w.heap.size w w':=by
  intro b2 h2
  have h2t:(x.a.tmod 4==0)=b2:=by rw [hm];exact h2
  unfold Ev.evV Ev.cells
  clear hm
  cases b1 <;> cases b2 <;> cases b3 <;> cases b4
  all_goals
   go_enter Tryz.func94,Tryz.ntmps94
   go_wp2_with fail
   refine(parts_any _ _).mono ?_
   rintro e w' ⟨rfl,rfl⟩
   go_wp2_with (show wpList _ _ _ (Oper.mk (some 10) _ _ _ _ _ :: _) _ _;refine wpList_load_row rfl 48 (.tmp 1) rfl w.heap.size rfl 48 (Ev.cells x).toArray (0,0) _ R0.out Tryz.underlying48 rfl (by kernel_rfl) ?_)
   refine(filled_any x _).mono ?_
   rintro e w2 ⟨rfl,hlt,hb⟩
   have R2:=qH ((hb.block w.heap.size (by simp only [World.size_alloc];omega)).trans R0.out)
   have HB:=qH (B0.out.trans (hb.mono (by simp only [World.size_alloc];omega)));clear hb
   go_wp2_with (show wpList _ _ _ (Oper.mk (some 16) _ _ _ _ _ :: _) _ _;refine wpList_load_row rfl 48 (.tmp 1) rfl w.heap.size rfl 48 (Ev.cells x).toArray (0,0) _ R2.out Tryz.underlying48 rfl (by kernel_rfl) ?_)
   refine(hart_any x _).mono ?_
   rintro e w3 ⟨rfl,hb⟩
   have R3:=(hb.block w.heap.size (qL R2.out)).trans R2.out
   have c2:w3.cell? ⟨w.heap.size,2,none⟩=some (.int .u32 x.a):=by rw [qC R3];rfl
   have c7:w3.cell? ⟨w.heap.size,7,none⟩=some (.int .i64 x.p):=by rw [qC R3];rfl
   have c8:w3.cell? ⟨w.heap.size,8,none⟩=some (.int .i64 x.s):=by rw [qC R3];rfl
   have HBB:=qH (HB.out.trans (hb.mono HB.out.size));clear hb R3
   rw [← HB1.out]
   go_wp2_with (first
    | (go_at_call 119;refine(inB_any _ _ _).mono ?_;rintro e w' ⟨rfl,rfl⟩;(first | rw [← HB3.out] | rw [← HB4.out])))
   go_ret
   exact⟨by first | rfl | simp,HBB.out⟩
 exact main _ rfl
end Go.Proofs.YtnjnpbabgefaeaaGreat
end
