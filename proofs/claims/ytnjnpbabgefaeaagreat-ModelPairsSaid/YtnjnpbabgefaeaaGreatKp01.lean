import Derived.BigQuiet
import Derived.Deep.QuietTactic
import Derived.Below
import Derived.Laws.Rows
import Derived.RangeFuncNested
import Derived.RangeFuncBound
import Derived.RangeFuncCalls
import Derived.RangeFuncLeaves
import Derived.Shelf.Abstract
import Derived.WalkKit
import Derived.OwnWalkIn
import Derived.TacticsInMore
import Derived.LoopNIn
import Derived.LoopIn
import Derived.Shelf.SlSortCmp.NoneTotal
import Derived.Shelf.SlGeneric
import Derived.Ground.SlsfProg
import Derived.Test.YtnjnpbabgefaeaaGreatProg
import Derived.Test.YtnjnpbabgefaeaaGreatKpH
set_option linter.unusedVariables false
set_option linter.unusedSimpArgs false
section
namespace Go.Proofs.YtnjnpbabgefaeaaGreat
namespace Ev
def stores (k:Int):Bool:=k==2||k==3||k==5
def loads (k:Int):Bool:=k==1||k==3
def inB (n m:Int):Bool:=decide (0≤n)&&decide (n < m)
def parts (k:Int):Int:=if k=1 then 1437 else if k=2 then 1947 else if k=3 then 1823 else if k=4 then 1120 else if k=5 then 3 else 0
def bit (b:Bool) (n:Nat):Nat:=if b then n else 0
end Ev
end Go.Proofs.YtnjnpbabgefaeaaGreat
end
section
namespace Go.Proofs.YtnjnpbabgefaeaaGreat
open Go.RowKit
namespace Og
structure On (n:Nat) (w:World) where
 x:World
 b:Below n w x
instance (n:Nat) (w:World):Nonempty (On n w):=⟨⟨w,Below.refl n w⟩⟩
theorem regionB {P:Program} {id:Nat} {l:List Oper} {Q:Exit→Act→World→Prop} {a:Act} {w:World} (hm:P.follows .mixedOrders=true) (hB:Region.lexB .any l.toArray=true)
 (h:wpQuiet P l.toArray (fun w'=>∃ q:On w.heap.size w,w'=q.x) (fun a'=>∀ w',(∃ q:On w.heap.size w,w'=q.x)→Q .normal a' w') l a):(Code.region id l.toArray true).wp P Q a w :=
 wp_region_quiet (C:=fun w'=>∃ q:On w.heap.size w,w'=q.x) hm hB ⟨⟨{ w with drawn:=w.drawn+1 },⟨rfl,rfl,rfl,Nat.le_refl _,fun _ _=>rfl⟩⟩,rfl⟩ (by simpa using h)
theorem callB {P:Program} {f:FuncId} {args:Array Value} {w:World} {q:On w.heap.size w} {v:Value} (h:Calls P f args q.x fun e w'=>e=.returned v∧Below q.x.heap.size q.x w') :
 Calls P f args q.x fun e w''=>e=.returned v∧∃ q':On w.heap.size w,w''=q'.x :=
 h.mono fun _ w'' ⟨he,hb⟩=>⟨he,⟨w'',q.b.trans (hb.mono q.b.size)⟩,rfl⟩
theorem callS {P:Program} {f:FuncId} {args:Array Value} {w:World} {q:On w.heap.size w} {v:Value} (h:Calls P f args q.x fun e w'=>e=.returned v∧q.x=w') :
 Calls P f args q.x fun e w''=>e=.returned v∧∃ q':On w.heap.size w,w''=q'.x :=
 h.mono fun _ w'' ⟨he,hb⟩=>⟨he,q,hb.symm⟩
theorem rowB {P:Program} {w:World} (q:On w.heap.size w) {g:Nat} {t:TypeId} {cs:Array Value} {fr:Nat × Nat} (ty:TypeId) (d:TypeDesc) (hg:w.heap[g]?=some (.cells cs t fr))
 (hu:P.underlying ty=some d) (hd:(match d with | .struct _ | .array _ _=>true | _=>false)=true) (hi:(P.info? ty).map (·.size)=some cs.size) :
 (loadVar ty ⟨g,0,none⟩).run P q.x=.ok (.agg cs) q.x :=
 run_loadVar_row q.x g t ty cs fr d ((q.b.block g (qL hg)).trans hg) hu hd hi
theorem quiet_load {P:Program} {C:World→Prop} {o:Oper} {a:Act} {K:Act→Prop} (ty:TypeId) (x:Operand) (ho:o.op=.load ty x) (v:Value) (p:Addr) (a':Act)
 (hx:a.eval x=.pointer (some p)) (hl:∀ w,C w→(loadVar ty p).run P w=.ok v w) (ha:a.put o.dst v=a') (hk:K a'):o.quiet P a C K :=
 ⟨v,fun w hC=>by
   unfold Oper.quietAt execOp
   simp only [ho,hx,Instr.loadAt,Instr.sureAddr,Sem.run_bind,Sem.run_pure,Result.andThen_ok,hl w hC]
   exact⟨rfl,rfl⟩,by rw [ha];exact hk⟩
theorem cellB {w:World} (q:On w.heap.size w) {p:Addr} {v:Value} (h:w.cell? p=some v):q.x.cell? p=some v :=
 (q.b.cell (World.block_lt_of_cell? w p h)).trans h
end Og
end Go.Proofs.YtnjnpbabgefaeaaGreat
end
section
namespace Go.Og
open Go Go.RowKit
variable {F:Fence} {n:Nat} {P:Program}
def IterL {α:Type} (F:Fence) (n:Nat) (P:Program) (g:Nat) (lb:Array Value) (R:World→Prop) (enc:α→Array Value) (xs:List α):Prop :=
 ∀ (l:Nat) (J:Nat→World→Prop) (Jx:World→Prop) (W:World),
   (∀ k A A',J k A→Below A.heap.size A A'→J k A')→(∀ k A,J k A→R A) →
   (∀ k x W1,xs[k]?=some x→J k W1→YieldAt F (n - 1) P l (enc x) W1 fun e W'=>(e=.returned (.bool true)∧J (k+1) W')∨(e=.returned (.bool false)∧Jx W')) →
   J 0 W→CallsIn F n P g (#[.func (.yield l) #[] #[]]++lb) W fun e W'=>(∃ v,e=.returned v)∧(J xs.length W'∨Jx W')
def liPost (I:Nat→World→Prop) (Ix:Code→World→Prop) (k:Nat) (W:World):Exit→Act→World→Prop
 | .normal,_,W'=>KeepsOthers W W'∧I (k+1) W'
 | .ret,_,W'=>KeepsOthers W W'∧Ix .ret W'
 | .exit id,_,W'=>KeepsOthers W W'∧Ix (.exit id) W'
 | .goto t,_,W'=>KeepsOthers W W'∧Ix (.goto t) W'
 | .panic _,_,_=>False
 | .outgrown,_,_=>False
theorem wpIn_rangeFunc_list {α:Type} {g:Operand} {ps:Array Tmp} {assign body:Code} {Q:Exit→Act→World→Prop} {a:Act} {w:World}
 (hro:F.round=none) (h1:1≤n) {gf:Nat} {lb:Array Value} (hg:a.eval g=.func (.func gf) #[] lb) (hFg:F.fn gf) (eg:∀ args w,(callFunc gf args).run P w=.ok (.enter gf args) w)
 {R:World→Prop} {enc:α→Array Value} {xs:List α} (hit:IterL F (n - 1) P gf lb R enc xs) (hps:∀ s,(enc s).size=ps.size)
 (I:Nat→World→Prop) (Ix:Code→World→Prop)
 (hb:∀ k A A',I k A→Below A.heap.size A A'→I k A') (hp:∀ k A l o o',I k A→w.heap.size≤l→A.heap[l]?=some o→o.isCells=false→I k (A.putObj l o'))
 (hpx:∀ c A l o o',Ix c A→w.heap.size≤l→A.heap[l]?=some o→o.isCells=false→Ix c (A.putObj l o'))
 (hR:∀ k A,I k A→R A)
 (h0:I 0 w) (a₁:α→Act)
 (hassign:∀ (l:Nat) (s:α) (W:World) (K:Act→World→Prop),K (a₁ s) W →
   assign.wpIn (F.inRound l) (n - 1 - 1) P (Exit.then K (fun _ _ _=>False)) { tmps:=(ps.zip (enc s)).foldl (fun t (p,v)=>t.setIfInBounds p v) a.tmps,defers:=[] } W)
 (hbody:∀ (l k:Nat) (s:α) (W:World),xs[k]?=some s→I k W→body.wpIn (F.inRound l) (n - 1 - 1) P (liPost I Ix k W) (a₁ s) W)
 (hdone:∀ (D:Nat) (W:World),w.heap.size≤D→I xs.length W→W.heap[D]?=some (.deferred (some []))→Q .normal { a with defers:={ target:=.collected D,args:=#[] } :: a.defers } W)
 (hstop:∀ (D:Nat) (c:Code) (W:World),w.heap.size≤D→Ix c W→W.heap[D]?=some (.deferred (some []))→c.wpIn F n P Q { a with defers:={ target:=.collected D,args:=#[] } :: a.defers } W) :
 (Code.rangeFunc g ps assign body).wpIn F n P Q a w:=by
 refine wpIn_rangeFunc fun fn hfn=>?_
 rw [hro]
 obtain⟨rec,hrec⟩:∃ rec:LoopState→Option Code→Loop,rec=fun st pe=>{ state:=st,pending:=pe,fn,tmps:=a.tmps,params:=ps,assign,body,defers:=w.heap.size }:=⟨_,rfl⟩
 obtain⟨W1,hW1⟩:∃ W1,(w.alloc (.deferred (some []))).alloc (.loop (rec .ready none))=W1:=⟨_,rfl⟩
 have hD:W1.heap[w.heap.size]?=some (.deferred (some [])):=by
  rw [← hW1];exact(Below.heap_alloc _ _ _ (by simp)).trans (World.alloc_heap_new w _)
 have hL:W1.heap[w.heap.size+1]?=some (.loop (rec .ready none)):=by
  have:=World.alloc_heap_new (w.alloc (.deferred (some []))) (.loop (rec .ready none));rw [World.size_alloc] at this;rw [← hW1];exact this
 have hI1:I 0 W1:=by
  rw [← hW1];exact hb _ _ _ h0 (((Below.refl _ w).alloc (Nat.le_refl _) _).alloc (by simp) _)
 refine⟨w.heap.size+1,[{ target:=.collected w.heap.size,args:=#[] }],W1,{ target:=.fn (.func gf) lb,args:=#[.func (.yield (w.heap.size+1)) #[] #[]] },W1,gf,
  #[.func (.yield (w.heap.size+1)) #[] #[]]++lb,W1,?_,?_,?_,?_,fun _=>h1,?_⟩
 ·rw [← hW1,hrec];exact run_enterLoop_outer _ _ _ _ _
 ·simp only [resolve,hg];simp [go_sem]
 ·intro f' hf';simp [Target.leads] at hf';subst hf';exact hFg
 ·simp [invoke,go_sem,eg]
 ·have kd:∀ {A A':World} {k:Nat} {o:Obj},Below A.heap.size A A'→A.heap[k]?=some o→A'.heap[k]?=some o:=fun hb' h=>(hb'.block _ (qL h)).trans h
  refine(hit (w.heap.size+1) (fun k W=>I k W∧W.heap[w.heap.size+1]?=some (.loop (rec .ready none))∧W.heap[w.heap.size]?=some (.deferred (some [])))
   (fun W=>∃ c,Ix c W∧W.heap[w.heap.size+1]?=some (.loop (rec .done (some c)))∧W.heap[w.heap.size]?=some (.deferred (some []))) W1
   (fun k A A' h hb'=>⟨hb _ _ _ h.1 hb',kd hb' h.2.1,kd hb' h.2.2⟩) (fun k A h=>hR _ _ h.1) ?_ ⟨hI1,hL,hD⟩).mono ?_
  ·rintro k s W hs ⟨hi,hl,hk⟩
   have hlt:w.heap.size+1 < W.heap.size:=(qL hl)
   have hy:=run_yield (P:=P) (args:=enc s) hl (by rw [hrec];exact hps s)
   rw [hrec] at hy
   refine⟨fn,_,assign,body,hy,roundIn_of_wpIn hfn (hassign _ s W _ ⟨_,run_beginRound hl (by rw [hrec]),?_⟩)⟩
   have hl2:(W.putObj (w.heap.size+1) (.loop { rec .ready none with state:=.busy })).heap[w.heap.size+1]?=some (.loop { rec .ready none with state:=.busy }):=World.putObj_heap_same hlt
   have hk2:(W.putObj (w.heap.size+1) (.loop { rec .ready none with state:=.busy })).heap[w.heap.size]?=some (.deferred (some [])):=(World.putObj_heap_other (by omega)).trans hk
   have fin:∀ (jump:Option Code) (W3:World),KeepsOthers (W.putObj (w.heap.size+1) (.loop { rec .ready none with state:=.busy })) W3 →
    (Instr.endRound (w.heap.size+1) jump).run P W3=.ok (.bool jump.isNone) (W3.putObj (w.heap.size+1) (.loop (rec (if jump.isNone then .ready else .done) jump))) ∧
    W3.heap[w.heap.size+1]?=some (.loop { rec .ready none with state:=.busy }) ∧
    (W3.putObj (w.heap.size+1) (.loop (rec (if jump.isNone then .ready else .done) jump))).heap[w.heap.size+1]?=some (.loop (rec (if jump.isNone then .ready else .done) jump)) ∧
    (W3.putObj (w.heap.size+1) (.loop (rec (if jump.isNone then .ready else .done) jump))).heap[w.heap.size]?=some (.deferred (some [])):=fun jump W3 hk3=>by
    have hl3:=hk3.same _ _ hl2 rfl
    have he:=run_endRound (P:=P) jump hl3
    rw [hrec] at he ⊢
    exact⟨he,by rw [hrec] at hl3;exact hl3,World.putObj_heap_same (qL hl3),(World.putObj_heap_other (by omega)).trans (hk3.same _ _ hk2 rfl)⟩
   refine wpIn_mono (hbody _ k s _ hs (hp _ _ _ _ _ hi (Nat.le_succ _) hl rfl)) ?_
   rintro e a3 W3 hpost
   cases e with
   | normal =>
     obtain⟨hk3,hi3⟩:=hpost
     obtain⟨hr3,hl3,hl4,hk4⟩:=fin none W3 hk3
     exact⟨_,_,hr3,.inl ⟨rfl,hp _ _ _ _ _ hi3 (Nat.le_succ _) hl3 rfl,hl4,hk4⟩⟩
   | ret =>
     obtain⟨hk3,hi3⟩:=hpost
     obtain⟨hr3,hl3,hl4,hk4⟩:=fin (some .ret) W3 hk3
     exact⟨_,_,hr3,.inr ⟨rfl,.ret,hpx _ _ _ _ _ hi3 (Nat.le_succ _) hl3 rfl,hl4,hk4⟩⟩
   | exit id =>
     obtain⟨hk3,hi3⟩:=hpost
     obtain⟨hr3,hl3,hl4,hk4⟩:=fin (some (.exit id)) W3 hk3
     exact⟨_,_,hr3,.inr ⟨rfl,.exit id,hpx _ _ _ _ _ hi3 (Nat.le_succ _) hl3 rfl,hl4,hk4⟩⟩
   | goto t =>
     obtain⟨hk3,hi3⟩:=hpost
     obtain⟨hr3,hl3,hl4,hk4⟩:=fin (some (.goto t)) W3 hk3
     exact⟨_,_,hr3,.inr ⟨rfl,.goto t,hpx _ _ _ _ _ hi3 (Nat.le_succ _) hl3 rfl,hl4,hk4⟩⟩
   | panic ch=>exact hpost.elim
   | outgrown=>exact hpost.elim
  ·rintro e W2 ⟨⟨v,rfl⟩,(⟨hi,hl,hk⟩ | ⟨c,hi,hl,hk⟩)⟩
   ·exact⟨none,_,by have:=run_endLoop (P:=P) hl (by rw [hrec];simp);rw [hrec] at this;exact this,hdone _ _ (Nat.le_refl _) (hp _ _ _ _ _ hi (Nat.le_succ _) hl rfl) ((World.putObj_heap_other (by omega)).trans hk)⟩
   ·exact⟨some c,_,by have:=run_endLoop (P:=P) hl (by rw [hrec];simp);rw [hrec] at this;exact this,hstop _ c _ (Nat.le_refl _) (hpx _ _ _ _ _ hi (Nat.le_succ _) hl rfl) ((World.putObj_heap_other (by omega)).trans hk)⟩
theorem keeps_below {W W':World} (h:Below W.heap.size W W'):KeepsOthers W W':=⟨h.size,fun k o hk _=>(h.block k (qL hk)).trans hk⟩
end Go.Og
end
section
namespace Go.Proofs.YtnjnpbabgefaeaaGreat
namespace Ev
inductive Path (ps:List (Int × Int)):Int→Int→Prop
 | one {a b:Int}:(a,b) ∈ ps→Path ps a b
 | more {a b c:Int}:(a,b) ∈ ps→Path ps b c→Path ps a c
theorem Path.snoc {ps:List (Int × Int)} {a b c:Int} (h:Path ps a b) (e:(b,c) ∈ ps):Path ps a c:=by
 induction h with
 | one h1=>exact .more h1 (.one e)
 | more h1 _ ih=>exact .more h1 (ih e)
def Cyc (ps:List (Int × Int)):Prop:=∃ x,Path ps x x
inductive Topo (ps:List (Int × Int)):List Int→Prop
 | nil:Topo ps []
 | cons {p:Int} {l:List Int}:(∀ q,(p,q) ∈ ps→q ∈ l)→Topo ps l→Topo ps (p :: l)
theorem Topo.closed {ps:List (Int × Int)} {l:List Int} (h:Topo ps l):∀ x ∈ l,∀ y,(x,y) ∈ ps→y ∈ l:=by
 induction h with
 | nil=>intro x hx;cases hx
 | cons h1 _ ih =>
   intro x hx y hy
   rcases List.mem_cons.1 hx with rfl | hx
   ·exact List.mem_cons_of_mem _ (h1 y hy)
   ·exact List.mem_cons_of_mem _ (ih x hx y hy)
def InR (n:Int) (ps:List (Int × Int)):Prop:=0≤n∧n≤64∧∀ p ∈ ps,0≤p.1∧p.1 < n∧0≤p.2∧p.2 < n
theorem rank_acyclic {ps:List (Int × Int)} (rank:Int→Int) (h:∀ p ∈ ps,rank p.1 < rank p.2):¬ Cyc ps:=fun ⟨x,hx⟩=>by
 have key:∀ {a b:Int},Path ps a b→rank a < rank b:=fun hp=>by
  induction hp with
  | one e=>exact h _ e
  | more e _ ih=>have:=h _ e;simp only at this;omega
 have:=key hx
 omega
def wt (v:Int):Nat:=if v=0 then 2 else if v=1 then 1 else 0
def pot (L:Int→Int):Nat→Nat
 | 0=>0
 | n+1=>pot L n+wt (L n)
def upd (L:Int→Int) (p v:Int):Int→Int:=fun x=>if x=p then v else L x
theorem upd_same (L:Int→Int) (p v:Int):upd L p v p=v:=by simp [upd]
theorem upd_other (L:Int→Int) {p v x:Int} (h:x≠p):upd L p v x=L x:=by simp [upd,h]
theorem pot_upd (L:Int→Int) (p v:Int):∀ n:Nat,(0≤p→p < n→pot (upd L p v) n+wt (L p)=pot L n+wt v)∧(¬ (0≤p∧p < n)→pot (upd L p v) n=pot L n)
 | 0=>⟨fun h1 h2=>absurd h2 (by omega),fun _=>rfl⟩
 | n+1=>by
   have ih:=pot_upd L p v n
   refine⟨fun h1 h2=>?_,fun h=>?_⟩
   ·by_cases hp:p=(n:Int)
    ·subst hp
     have:=ih.2 (by omega)
     simp only [pot,this,upd_same];omega
    ·have:=ih.1 h1 (by omega)
     simp only [pot,upd_other L (show(n:Int)≠p by omega)];omega
   ·have:=ih.2 (by omega)
    simp only [pot,this,upd_other L (show(n:Int)≠p by omega)]
theorem pot_le (L:Int→Int):∀ n:Nat,pot L n≤2 * n
 | 0=>by simp [pot]
 | n+1=>by
   have:=pot_le L n
   have h2:wt (L n)≤2:=by unfold wt;split <;> (try split) <;> omega
   simp only [pot];omega
structure Looked (ps:List (Int × Int)) (L:Int→Int) (l:List Int):Prop where
 topo:Topo ps l
 two:∀ x,L x=2↔x ∈ l
 range:∀ x,L x=0∨L x=1∨L x=2
theorem looked_none (ps:List (Int × Int)):Looked ps (fun _=>0) []:=⟨.nil,fun x=>by simp,fun x=>.inl rfl⟩
theorem Looked.under {ps:List (Int × Int)} {L:Int→Int} {l:List Int} (h:Looked ps L l) {p:Int} (hp:L p=0):Looked ps (upd L p 1) l :=
 ⟨h.topo,fun x=>by
   by_cases hx:x=p
   ·subst hx;rw [upd_same];have:=(h.two x).2;constructor
    ·intro e;cases e
    ·intro e;have:=this e;omega
   ·rw [upd_other L hx];exact h.two x,fun x=>by
   by_cases hx:x=p
   ·subst hx;rw [upd_same];exact .inr (.inl rfl)
   ·rw [upd_other L hx];exact h.range x⟩
theorem Looked.done {ps:List (Int × Int)} {L:Int→Int} {l:List Int} (h:Looked ps L l) {p:Int} (hs:∀ q,(p,q) ∈ ps→q ∈ l):Looked ps (upd L p 2) (p :: l) :=
 ⟨.cons hs h.topo,fun x=>by
   by_cases hx:x=p
   ·subst hx;rw [upd_same];simp
   ·rw [upd_other L hx,h.two x];simp [hx],fun x=>by
   by_cases hx:x=p
   ·subst hx;rw [upd_same];exact .inr (.inr rfl)
   ·rw [upd_other L hx];exact h.range x⟩
end Ev
end Go.Proofs.YtnjnpbabgefaeaaGreat
end
section
namespace Go.Proofs
open Go.Shelf
def Tryz.sortPairs_ren:Go.Shelf.Ren:=⟨fun | 6=>88 | 15=>115 | 14=>114 | 28=>146 | 29=>147 | 20=>138 | 21=>139 | 22=>140 | 23=>141 | 24=>142 | 25=>143 | 26=>144 | 27=>145 | 46=>161 | 47=>162 | 48=>163 | 49=>164 | 50=>165 | 57=>168 | n=>n,fun | 22=>37 | 24=>72 | 25=>97 | 3=>3 | 39=>145 | 0=>0 | 53=>46 | 55=>164 | 4=>4 | 46=>157 | 45=>156 | 50=>109 | 5=>5 | 9=>9 | 66=>170 | 70=>174 | 76=>176 | 77=>177 | n=>n,fun | n=>n⟩
theorem Tryz.sortPairs:Go.Proofs.SlLaysF0.n6 Tryz.prog Tryz.sortPairs_ren:={
 mixed:=by kernel_rfl
 f6:=⟨Tryz.f88.name,by decide,Tryz.func88.trans (congrArg some (by kernel_rfl))⟩
 f14:=⟨Tryz.f114.name,by decide,Tryz.func114.trans (congrArg some (by kernel_rfl))⟩
 f15:=Tryz.func115.trans (congrArg some (by kernel_rfl))
 f20:=⟨Tryz.f138.name,by decide,Tryz.func138.trans (congrArg some (by kernel_rfl))⟩
 f21:=⟨Tryz.f139.name,by decide,Tryz.func139.trans (congrArg some (by kernel_rfl))⟩
 f22:=⟨Tryz.f140.name,by decide,Tryz.func140.trans (congrArg some (by kernel_rfl))⟩
 f23:=⟨Tryz.f141.name,by decide,Tryz.func141.trans (congrArg some (by kernel_rfl))⟩
 f24:=⟨Tryz.f142.name,by decide,Tryz.func142.trans (congrArg some (by kernel_rfl))⟩
 f25:=⟨Tryz.f143.name,by decide,Tryz.func143.trans (congrArg some (by kernel_rfl))⟩
 f26:=⟨Tryz.f144.name,by decide,Tryz.func144.trans (congrArg some (by kernel_rfl))⟩
 f27:=⟨Tryz.f145.name,by decide,Tryz.func145.trans (congrArg some (by kernel_rfl))⟩
 f28:=Tryz.func146.trans (congrArg some (by kernel_rfl))
 f29:=Tryz.func147.trans (congrArg some (by kernel_rfl))
 f46:=⟨Tryz.f161.name,by decide,Tryz.func161.trans (congrArg some (by kernel_rfl))⟩
 f47:=Tryz.func162.trans (congrArg some (by kernel_rfl))
 f48:=Tryz.func163.trans (congrArg some (by kernel_rfl))
 f49:=⟨Tryz.f164.name,by decide,Tryz.func164.trans (congrArg some (by kernel_rfl))⟩
 f50:=⟨Tryz.f165.name,by decide,Tryz.func165.trans (congrArg some (by kernel_rfl))⟩
 f57:=⟨Tryz.f168.name,by decide,Tryz.func168.trans (congrArg some (by kernel_rfl))⟩
 t0:=Tryz.underlying0
 a0:=Tryz.isAgg0
 z0:=Tryz.sizeOf0
 v0:=Tryz.zeroValue0
 t3:=Tryz.underlying3
 a3:=Tryz.isAgg3
 z3:=Tryz.sizeOf3
 v3:=Tryz.zeroValue3
 t4:=Tryz.underlying4
 a4:=Tryz.isAgg4
 z4:=Tryz.sizeOf4
 v4:=Tryz.zeroValue4
 t5:=Tryz.underlying5
 a5:=Tryz.isAgg5
 z5:=Tryz.sizeOf5
 v5:=Tryz.zeroValue5
 t9:=Tryz.underlying9
 a9:=Tryz.isAgg9
 z9:=Tryz.sizeOf9
 v9:=Tryz.zeroValue9
 t22:=Tryz.underlying37
 a22:=Tryz.isAgg37
 z22:=Tryz.sizeOf37
 v22:=Tryz.zeroValue37
 t25:=Tryz.underlying97
 a25:=Tryz.isAgg97
 z25:=Tryz.sizeOf97
 v25:=Tryz.zeroValue97
 t39:=Tryz.underlying145
 a39:=Tryz.isAgg145
 z39:=Tryz.sizeOf145
 v39:=Tryz.zeroValue145
 t45:=Tryz.underlying156
 a45:=Tryz.isAgg156
 z45:=Tryz.sizeOf156
 v45:=Tryz.zeroValue156
 t46:=Tryz.underlying157
 a46:=Tryz.isAgg157
 z46:=Tryz.sizeOf157
 v46:=Tryz.zeroValue157
 t50:=Tryz.underlying109
 a50:=Tryz.isAgg109
 z50:=Tryz.sizeOf109
 v50:=Tryz.zeroValue109
 t53:=Tryz.underlying46
 a53:=Tryz.isAgg46
 z53:=Tryz.sizeOf46
 v53:=Tryz.zeroValue46
 t55:=Tryz.underlying164
 a55:=Tryz.isAgg164
 z55:=Tryz.sizeOf164
 v55:=Tryz.zeroValue164
 t66:=Tryz.underlying170
 a66:=Tryz.isAgg170
 z66:=Tryz.sizeOf170
 v66:=Tryz.zeroValue170
 t70:=Tryz.underlying174
 a70:=Tryz.isAgg174
 z70:=Tryz.sizeOf174
 v70:=Tryz.zeroValue174
 t76:=Tryz.underlying176
 a76:=Tryz.isAgg176
 z76:=Tryz.sizeOf176
 v76:=Tryz.zeroValue176
 t77:=Tryz.underlying177
 a77:=Tryz.isAgg177
 z77:=Tryz.sizeOf177
 v77:=Tryz.zeroValue177 }
end Go.Proofs
end
