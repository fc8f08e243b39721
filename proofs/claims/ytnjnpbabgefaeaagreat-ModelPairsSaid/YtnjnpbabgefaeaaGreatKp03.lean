import Derived.Test.YtnjnpbabgefaeaaGreatRows
import Derived.Test.YtnjnpbabgefaeaaGreatKp01
import Derived.Lib.Hide
import Derived.WalkKit
import Derived.Below
import Derived.Laws.Rows
import Derived.Laws.Tables
import Derived.Test.YtnjnpbabgefaeaaGreatKp02
import Derived.Test.YtnjnpbabgefaeaaGreatKpH
set_option linter.unusedVariables false
set_option linter.unusedSimpArgs false
section
namespace Go.Proofs.YtnjnpbabgefaeaaGreat
open Go.RowKit
namespace Ev
structure Sl where
 a:Option Addr
 c:Nat
 l:List Int
structure R where
 h:Int
 k:Int
 a:Int
 v:Int
 r:Int
 q:Bool
 l:Bool
 p:Int
 s:Int
 z:Bool
 d1:Sl
 d2:Sl
 d3:Sl
structure X where
 ae:Option Addr
 ce:Nat
 ev:List R
 fr:Sl
 ao:Option Addr
 co:Nat
 od:List Sl
def Sl.v (s:Sl):Value:=.slice s.a s.l.length s.c
def cells (x:R):List Value:=[.int .i64 x.h,.int .i64 x.k,.int .u32 x.a,.int .u32 x.v,.int .u32 x.r,.bool x.q,.bool x.l,.int .i64 x.p,.int .i64 x.s,.bool x.z,.slice x.d1.a x.d1.l.length x.d1.c,.slice x.d2.a x.d2.l.length x.d2.c,.slice x.d3.a x.d3.l.length x.d3.c]
def evV (x:R):Value:=.agg (cells x).toArray
def evsV (x:X):Value:=.slice x.ae x.ev.length x.ce
def odV (x:X):Value:=.slice x.ao x.od.length x.co
def xcells (x:X):List Value:=[.slice x.ae x.ev.length x.ce,.slice x.fr.a x.fr.l.length x.fr.c,.slice x.ao x.od.length x.co]
def exV (x:X):Value:=.agg (xcells x).toArray
def Kp (w w':World):Prop:=∀ p v,w.cell? p=some v→w'.cell? p=some v
theorem Kp.refl (w:World):Kp w w:=fun _ _ h=>h
theorem Kp.trans {a b c:World} (h:Kp a b) (k:Kp b c):Kp a c:=fun p v e=>k p v (h p v e)
theorem kp_below {w w':World} (h:Below w.heap.size w w'):Kp w w':=fun p v e=>(h.cell (World.block_lt_of_cell? w p e)).trans e
theorem kp_of {B:Nat} {w w':World} (h:Below B w w') (hB:w.heap.size≤B):Kp w w':=fun p v e=>(h.cell (Nat.lt_of_lt_of_le (World.block_lt_of_cell? w p e) hB)).trans e
def RowsIn (w:World) (a:Option Addr) (n:Nat) (xs:List (List Value)):Prop :=
 0 < xs.length→∃ g o,a=some ⟨g,o,none⟩∧∀ j v,xs[j]?=some v→∀ i c,v[i]?=some c→w.cell? ⟨g,o+j * n+i,none⟩=some c
theorem RowsIn.kp {w w':World} {a n xs} (h:RowsIn w a n xs) (k:Kp w w'):RowsIn w' a n xs:=fun hp=>by
 obtain⟨g,o,e,hc⟩:=h hp
 exact⟨g,o,e,fun j v hv i c hi=>k _ _ (hc j v hv i c hi)⟩
def i64B (n:Int):Prop:=-9223372036854775808≤n∧n≤9223372036854775807
def u32B (n:Int):Prop:=0≤n∧n < 4294967296
def IntsIn (w:World) (s:Sl):Prop :=
 (0 < s.l.length→∃ g o,s.a=some ⟨g,o,none⟩∧∀ j v,s.l[j]?=some v→w.cell? ⟨g,o+j,none⟩=some (.int .i64 v))∧s.l.length≤s.c∧s.c≤9223372036854775807∧∀ v ∈ s.l,i64B v
theorem IntsIn.kp {w w':World} {s} (h:IntsIn w s) (k:Kp w w'):IntsIn w' s :=
 ⟨fun hp=>by
   obtain⟨g,o,e,hc⟩:=h.1 hp
   exact⟨g,o,e,fun j v hv=>k _ _ (hc j v hv)⟩,h.2⟩
structure ROk (w:World) (x:R):Prop where
 h:i64B x.h
 k:i64B x.k
 a:u32B x.a
 v:u32B x.v
 r:u32B x.r
 p:i64B x.p
 s:i64B x.s
 d1:IntsIn w x.d1
 d2:IntsIn w x.d2
 d3:IntsIn w x.d3
theorem ROk.kp {w w':World} {x} (h:ROk w x) (k:Kp w w'):ROk w' x:=⟨h.h,h.k,h.a,h.v,h.r,h.p,h.s,h.d1.kp k,h.d2.kp k,h.d3.kp k⟩
structure EvsIn (w:World) (a:Option Addr) (c:Nat) (xs:List R):Prop where
 rows:RowsIn w a 13 (xs.map cells)
 ok:∀ x ∈ xs,ROk w x
 le:xs.length≤c
 max:c≤9223372036854775807
theorem EvsIn.kp {w w':World} {a c xs} (h:EvsIn w a c xs) (k:Kp w w'):EvsIn w' a c xs:=⟨h.rows.kp k,fun x hx=>(h.ok x hx).kp k,h.le,h.max⟩
structure OdIn (w:World) (a:Option Addr) (c:Nat) (xs:List Sl):Prop where
 rows:RowsIn w a 1 (xs.map fun s=>[s.v])
 ok:∀ x ∈ xs,IntsIn w x
 le:xs.length≤c
 max:c≤9223372036854775807
theorem OdIn.kp {w w':World} {a c xs} (h:OdIn w a c xs) (k:Kp w w'):OdIn w' a c xs:=⟨h.rows.kp k,fun x hx=>(h.ok x hx).kp k,h.le,h.max⟩
structure XIn (w:World) (x:X):Prop where
 ev:EvsIn w x.ae x.ce x.ev
 fr:IntsIn w x.fr
 od:OdIn w x.ao x.co x.od
theorem XIn.kp {w w':World} {x} (h:XIn w x) (k:Kp w w'):XIn w' x:=⟨h.ev.kp k,h.fr.kp k,h.od.kp k⟩
theorem EvsIn.at_ {w:World} {a c xs} (h:EvsIn w a c xs) {k:Nat} {x:R} (hk:xs[k]?=some x) :
 ∃ g o,a=some ⟨g,o,none⟩∧(∀ i c,(cells x)[i]?=some c→w.cell? ⟨g,o+k * 13+i,none⟩=some c):=by
 have hl:=(List.getElem?_eq_some_iff.1 hk).1
 obtain⟨g,o,e,hc⟩:=h.rows (by simp;omega)
 exact⟨g,o,e,fun i c hi=>hc k (cells x) (by rw [List.getElem?_map,hk];rfl) i c hi⟩
theorem EvsIn.ok_ {w:World} {a c xs} (h:EvsIn w a c xs) {k:Nat} {x:R} (hk:xs[k]?=some x):ROk w x:=h.ok x (List.mem_of_getElem? hk)
theorem IntsIn.at_ {w:World} {s:Sl} (h:IntsIn w s) {k:Nat} {v:Int} (hk:s.l[k]?=some v):∃ g o,s.a=some ⟨g,o,none⟩∧w.cell? ⟨g,o+k,none⟩=some (.int .i64 v):=by
 have hl:=(List.getElem?_eq_some_iff.1 hk).1
 obtain⟨g,o,e,hc⟩:=h.1 (by omega)
 exact⟨g,o,e,hc k v hk⟩
theorem IntsIn.b_ {w:World} {s:Sl} (h:IntsIn w s) {k:Nat} {v:Int} (hk:s.l[k]?=some v):i64B v:=h.2.2.2 v (List.mem_of_getElem? hk)
theorem OdIn.at_ {w:World} {a c xs} (h:OdIn w a c xs) {k:Nat} {s:Sl} (hk:xs[k]?=some s):∃ g o,a=some ⟨g,o,none⟩∧w.cell? ⟨g,o+k,none⟩=some (.slice s.a s.l.length s.c):=by
 have hl:=(List.getElem?_eq_some_iff.1 hk).1
 obtain⟨g,o,e,hc⟩:=h.rows (by simp;omega)
 exact⟨g,o,e,by have:=hc k [s.v] (by rw [List.getElem?_map,hk];rfl) 0 _ rfl;simpa [Sl.v] using this⟩
theorem OdIn.ok_ {w:World} {a c xs} (h:OdIn w a c xs) {k:Nat} {x:Sl} (hk:xs[k]?=some x):IntsIn w x:=h.ok x (List.mem_of_getElem? hk)
end Ev
theorem run_loadVar_at {P:Program} (w:World) (g off:Nat) (ty:TypeId) (cs:List Value) (d:TypeDesc) (hc:∀ i v,cs[i]?=some v→w.cell? ⟨g,off+i,none⟩=some v)
 (hu:P.underlying ty=some d) (hd:(match d with | .struct _ | .array _ _=>true | _=>false)=true) (hi:(P.info? ty).map (·.size)=some cs.length) :
 (loadVar ty ⟨g,off,none⟩).run P w=.ok (.agg cs.toArray) w:=by
 have hl:(loadCells ⟨g,off,none⟩ cs.length).run P w=.ok cs.toArray w :=
  run_loadCells_list (P:=P) w ⟨g,off,none⟩ cs (fun j v hv=>by
   have hadd:(⟨g,off,none⟩:Addr).add j=⟨g,off+j,none⟩:=by unfold Addr.add;split <;> simp_all
   rw [hadd];exact hc j v hv)
 cases hq:P.info? ty with
 | none=>simp [hq] at hi
 | some i =>
   have hs:i.size=cs.length:=by simpa [hq] using hi
   have hagg:(isAgg ty).run P w=.ok true w:=by
    unfold isAgg
    rw [Sem.run_bind,run_underlying hu w]
    cases d <;> simp_all
   simp [loadVar,Sem.run_bind,hagg,sizeOf,typeInfo,hq,hs,hl]
theorem wpList_load_at {P:Program} {ops:Array Oper} {rest:List Oper} {o:Oper} {a:Act} {w:World} {Q:Exit→Act→World→Prop} (hgd:o.guard=none) (ty:TypeId) (x:Operand) (ho:o.op=.load ty x)
 (g off:Nat) (hx:a.eval x=.pointer (some ⟨g,off,none⟩)) (cs:List Value) (d:TypeDesc) (hc:∀ i v,cs[i]?=some v→w.cell? ⟨g,off+i,none⟩=some v)
 (hu:P.underlying ty=some d) (hd:(match d with | .struct _ | .array _ _=>true | _=>false)=true) (hi:(P.info? ty).map (·.size)=some cs.length)
 (h:wpList P ops Q rest (a.put o.dst (.agg cs.toArray)) w):wpList P ops Q (o :: rest) a w :=
 wpList_plain hgd fun _ hK=>by
  unfold Oper.wp execOp
  simp only [ho,hx,Instr.loadAt,Instr.sureAddr,Sem.run_bind,Sem.run_pure,Result.andThen_ok,run_loadVar_at w g off ty cs d hc hu hd hi]
  exact hK _ _ h
namespace Ev
structure Set1 (w W:World) (g:Nat) (t:TypeId) (cs:Array Value):Prop where
 row:W.heap[g]?=some (.cells cs t (0,0))
 size:W.heap.size=w.heap.size
 below:Below g w W
 block:∀ i,i≠g→W.heap[i]?=w.heap[i]?
theorem set1 {w:World} {g:Nat} {t:TypeId} {old cs:Array Value} (hg:w.heap[g]?=some (.cells old t (0,0))) (hs:old.size=cs.size):Set1 w (w.setRow g cs) g t cs:=by
 refine⟨?_,?_,⟨rfl,rfl,rfl,?_,fun i hi=>?_⟩,fun i hi=>?_⟩
 ·simp [World.setRow,Array.getElem?_modify,hg]
 ·simp [World.setRow]
 ·simp [World.setRow]
 ·simp [World.setRow,Array.getElem?_modify];omega
 ·simp [World.setRow,Array.getElem?_modify,Ne.symm hi]
end Ev
theorem wpList_store_own {P:Program} {ops:Array Oper} {rest:List Oper} {o:Oper} {a:Act} {w:World} {Q:Exit→Act→World→Prop} (hgd:o.guard=none) (ty:TypeId) (x y:Operand) (ho:o.op=.store ty x y)
 (g:Nat) (cells:Array Value) (hx:a.eval x=.pointer (some ⟨g,0,none⟩)) (hy:a.eval y=.agg cells)
 (t:TypeId) (old:Array Value) (hg:w.heap[g]?=some (.cells old t (0,0))) (hi:(P.info? ty).map (·.size)=some cells.size)
 (hold:old.size=cells.size) (h1:cells.all (·.oneCell')=true)
 (h:∀ W,Ev.Set1 w W g t cells→wpList P ops Q rest (a.put o.dst undef) W):wpList P ops Q (o :: rest) a w :=
 wpList_store_row hgd ty x y ho g cells hx hy t old hg hi hold h1 (h _ (Ev.set1 hg hold))
theorem Ev.load_row_g {P:Program} {ops:Array Oper} {rest:List Oper} {o:Oper} {a:Act} {w:World} {Q:Exit→Act→World→Prop} (ty:TypeId) (x:Operand) (ho:o.op=.load ty x) (hw:Region.wanted o (yielded ops a.tmps)=true)
 (g:Nat) (hx:a.eval x=.pointer (some ⟨g,0,none⟩)) (t:TypeId) (cs:Array Value) (fr:Nat × Nat) (d:TypeDesc) (hg:w.heap[g]?=some (.cells cs t fr))
 (hu:P.underlying ty=some d) (hd:(match d with | .struct _ | .array _ _=>true | _=>false)=true) (hi:(P.info? ty).map (·.size)=some cs.size)
 (h:wpList P ops Q rest (a.put o.dst (.agg cs)) w):wpList P ops Q (o :: rest) a w:=by
 unfold wpList
 rw [if_pos hw]
 exact .inl (wp_load_row ty x ho g hx t cs fr d hg hu hd hi h)
end Go.Proofs.YtnjnpbabgefaeaaGreat
end
section
namespace Go.Proofs.YtnjnpbabgefaeaaGreat
namespace Ev
def rev (ps:List (Int × Int)):List (Int × Int):=ps.map fun p=>(p.2,p.1)
theorem mem_rev {ps:List (Int × Int)} {a b:Int}:(a,b) ∈ rev ps↔(b,a) ∈ ps:=by
 unfold rev
 constructor
 ·intro h
  obtain⟨p,hp,he⟩:=List.mem_map.1 h
  cases he
  exact hp
 ·intro h
  exact List.mem_map.2 ⟨_,h,rfl⟩
theorem inR_rev {n:Int} {ps:List (Int × Int)} (h:InR n ps):InR n (rev ps):=⟨h.1,h.2.1,fun p hp=>by
 have:=h.2.2 (p.2,p.1) (mem_rev.1 (by exact hp))
 exact⟨this.2.2.1,this.2.2.2,this.1,this.2.1⟩⟩
theorem bound_of (rank:Int→Nat):∀ l:List Int,∃ M,∀ y ∈ l,rank y < M
 | []=>⟨0,fun y hy=>by cases hy⟩
 | x :: r=>by
   obtain⟨M,hM⟩:=bound_of rank r
   refine⟨max M (rank x+1),fun y hy=>?_⟩
   rcases List.mem_cons.1 hy with rfl | hy
   ·omega
   ·have:=hM y hy;omega
theorem Topo.rank {ps:List (Int × Int)} {l:List Int} (h:Topo ps l):∃ rank:Int→Nat,∀ x ∈ l,∀ y,(x,y) ∈ ps→rank y < rank x:=by
 induction h with
 | nil=>exact⟨fun _=>0,fun x hx=>by cases hx⟩
 | @cons p l h1 h2 ih =>
   obtain⟨rank,hr⟩:=ih
   by_cases hp:p ∈ l
   ·refine⟨rank,fun x hx y hy=>?_⟩
    rcases List.mem_cons.1 hx with rfl | hx
    ·exact hr _ hp y hy
    ·exact hr x hx y hy
   ·obtain⟨M,hM⟩:=bound_of rank l
    refine⟨fun z=>if z=p then M else rank z,fun x hx y hy=>?_⟩
    by_cases hxp:x=p
    ·subst hxp
     have hyl:=h1 y hy
     have hyp:y≠x:=fun e=>hp (e ▸ hyl)
     simp only [if_neg hyp,if_true]
     exact hM y hyl
    ·have hxl:x ∈ l:=(List.mem_cons.1 hx).resolve_left hxp
     have hyl:=h2.closed x hxl y hy
     have hyp:y≠p:=fun e=>hp (e ▸ hyl)
     simp only [if_neg hyp,if_neg hxp]
     exact hr x hxl y hy
def goneAt (G:List Bool) (x:Int):Bool:=G.getD x.toNat false
theorem free_place {n:Nat} {ps:List (Int × Int)} (hr:InR n ps) {l0:List Int} (ht:Topo ps l0) (hl:∀ x,0≤x→x < (n:Int)→x ∈ l0) (G:List Bool) {p:Int} (hp0:0≤p) (hpn:p < n) (hp:goneAt G p=false) :
 ∃ x,0≤x∧x < (n:Int)∧goneAt G x=false∧∀ q,(q,x) ∈ ps→goneAt G q=true:=by
 obtain⟨rank,hrank⟩:=ht.rank
 obtain⟨M,hM⟩:=bound_of rank l0
 have key:∀ (d:Nat) (p:Int),0≤p→p < n→goneAt G p=false→M - rank p≤d→∃ x,0≤x∧x < (n:Int)∧goneAt G x=false∧∀ q,(q,x) ∈ ps→goneAt G q=true:=by
  intro d
  induction d with
  | zero =>
    intro p h0 hn _ hd
    have:=hM p (hl p h0 hn)
    omega
  | succ d ih =>
    intro p h0 hn hg hd
    by_cases hall:∀ q,(q,p) ∈ ps→goneAt G q=true
    ·exact⟨p,h0,hn,hg,hall⟩
    ·obtain⟨q,hq,hqg⟩:∃ q,(q,p) ∈ ps∧goneAt G q=false:=by
      apply Classical.byContradiction
      intro hne
      refine hall fun q hq=>?_
      cases hg2:goneAt G q
      ·exact absurd ⟨q,hq,hg2⟩ hne
      ·rfl
     have hin:=hr.2.2 _ hq
     have hlt:=hrank q (hl q hin.1 hin.2.1) p hq
     exact ih q hin.1 hin.2.1 hqg (by have:=hM q (hl q hin.1 hin.2.1);omega)
 exact key _ p hp0 hpn hp (Nat.le_refl _)
def GoneIn (ps:List (Int × Int)) (n:Nat) (G:List Bool):Prop:=G.length=n∧∃ L,Topo (rev ps) L∧∀ x,0≤x→x < (n:Int)→(goneAt G x=true↔x ∈ L)
theorem goneAt_set {G:List Bool} {k:Nat} (hk:k < G.length) (x:Int) (hx:0≤x):goneAt (G.set k true) x=if x=(k:Int) then true else goneAt G x:=by
 unfold goneAt
 by_cases h:x=(k:Int)
 ·subst h;simp [hk]
 ·rw [if_neg h]
  have:k≠x.toNat:=by omega
  simp [List.getD,List.getElem?_set_ne this]
theorem GoneIn.start {ps:List (Int × Int)} {n:Nat}:GoneIn ps n (List.replicate n false):=⟨by simp,[],.nil,fun x h0 hn=>by
 unfold goneAt
 have:x.toNat < n:=by omega
 simp [List.getD,List.getElem?_replicate,this]⟩
theorem GoneIn.take {ps:List (Int × Int)} {n:Nat} {G:List Bool} (hr:InR n ps) (h:GoneIn ps n G) {k:Nat} (hk:k < n) (hp:∀ q,(q,(k:Int)) ∈ ps→goneAt G q=true):GoneIn ps n (G.set k true):=by
 obtain⟨hl,L,ht,hL⟩:=h
 refine⟨by simp [hl],(k:Int) :: L,.cons (fun q hq=>?_) ht,fun x h0 hn=>?_⟩
 ·have hq':=mem_rev.1 hq
  have hin:=hr.2.2 _ hq'
  exact(hL q hin.1 hin.2.1).1 (hp q hq')
 ·rw [goneAt_set (by omega) x h0]
  by_cases hx:x=(k:Int)
  ·simp [hx]
  ·rw [if_neg hx,hL x h0 hn];simp [hx]
def cntG (G:List Bool):Nat:=(G.filter id).length
theorem cntG_le (G:List Bool):cntG G≤G.length:=List.length_filter_le _ _
theorem cntG_lt:∀ {A B:List Bool},A.length=B.length→(∀ i,A.getD i false=true→B.getD i false=true)→(∃ i,A.getD i false=false∧B.getD i false=true)→cntG A < cntG B
 | [],[],_,_,⟨i,_,h⟩=>by simp at h
 | a :: A,b :: B,hl,hs,⟨i,h1,h2⟩=>by
   have hl':A.length=B.length:=by simpa using hl
   have hs':∀ i,A.getD i false=true→B.getD i false=true:=fun i h=>by simpa using hs (i+1) (by simpa using h)
   have hle:cntG A≤cntG B:=cntG_mono hl' hs'
   have e:∀ (c:Bool) (C:List Bool),cntG (c :: C)=cntG C+if c then 1 else 0:=fun c C=>by cases c <;> simp [cntG]
   rw [e,e]
   have h0:=hs 0
   simp at h0
   cases i with
   | zero =>
     simp at h1 h2
     subst h1;subst h2;simp;omega
   | succ i =>
     have hlt:=cntG_lt hl' hs' ⟨i,by simpa using h1,by simpa using h2⟩
     cases a
     ·cases b <;> simp <;> omega
     ·rw [h0 rfl];simp;omega
where
 cntG_mono:∀ {A B:List Bool},A.length=B.length→(∀ i,A.getD i false=true→B.getD i false=true)→cntG A≤cntG B
  | [],[],_,_=>Nat.le_refl _
  | a :: A,b :: B,hl,hs=>by
    have hl':A.length=B.length:=by simpa using hl
    have hs':∀ i,A.getD i false=true→B.getD i false=true:=fun i h=>by simpa using hs (i+1) (by simpa using h)
    have hle:=cntG_mono hl' hs'
    have e:∀ (c:Bool) (C:List Bool),cntG (c :: C)=cntG C+if c then 1 else 0:=fun c C=>by cases c <;> simp [cntG]
    rw [e,e]
    have h0:=hs 0
    simp at h0
    cases a
    ·cases b <;> simp <;> omega
    ·rw [h0 rfl];simp;omega
theorem all_of_cnt:∀ {G:List Bool},G.length≤cntG G→∀ i,i < G.length→G.getD i false=true
 | [],_,i,h=>absurd h (by simp)
 | g :: G,hc,i,hi=>by
   have e:cntG (g :: G)=cntG G+if g then 1 else 0:=by cases g <;> simp [cntG]
   have hle:=cntG_le G
   rw [e] at hc
   simp only [List.length_cons] at hc hi
   cases g
   ·simp at hc;omega
   ·cases i with
    | zero=>rfl
    | succ i =>
      have:=all_of_cnt (G:=G) (by simp at hc;omega) i (by omega)
      simpa using this
def RoundEnd (ps:List (Int × Int)) (n:Nat) (r:Nat) (G:List Bool):Prop:=GoneIn ps n G∧((∃ l0,Topo ps l0∧∀ x,0≤x→x < (n:Int)→x ∈ l0)→(∀ i,i < n→G.getD i false=true)∨r≤cntG G)
theorem round_next {ps:List (Int × Int)} {n r:Nat} {G0 G:List Bool} (hr:InR n ps) (h0:RoundEnd ps n r G0) (hg:GoneIn ps n G) (hs:∀ i,G0.getD i false=true→G.getD i false=true)
 (hd:∀ k,k < n→(∀ q,(q,(k:Int)) ∈ ps→goneAt G0 q=true)→G.getD k false=true):RoundEnd ps n (r+1) G:=by
 refine⟨hg,fun ⟨l0,ht,hl⟩=>?_⟩
 rcases h0.2 ⟨l0,ht,hl⟩ with hall | hc
 ·exact .inl fun i hi=>hs i (hall i hi)
 ·by_cases hall:∀ i,i < n→G0.getD i false=true
  ·exact .inl fun i hi=>hs i (hall i hi)
  ·obtain⟨i,hi,hgi⟩:∃ i,i < n∧G0.getD i false=false:=by
    apply Classical.byContradiction
    intro hne
    refine hall fun i hi=>?_
    cases hg2:G0.getD i false
    ·exact absurd ⟨i,hi,hg2⟩ hne
    ·rfl
   obtain⟨x,hx0,hxn,hxg,hxp⟩:=free_place hr ht hl G0 (p:=(i:Int)) (by omega) (by omega) (by unfold goneAt;simpa using hgi)
   have hxd:=hd x.toNat (by omega) (fun q hq=>hxp q (by rw [Int.toNat_of_nonneg hx0] at hq;exact hq))
   have:=cntG_lt (h0.1.1.trans hg.1.symm) hs ⟨x.toNat,by unfold goneAt at hxg;exact hxg,hxd⟩
   exact .inr (by omega)
end Ev
end Go.Proofs.YtnjnpbabgefaeaaGreat
end
section
namespace Go.Og
open Go Go.RowKit
variable {F:Fence} {n:Nat} {P:Program}
def KeepsBut (l:Nat) (W W':World):Prop:=∀ k o,k≠l→W.heap[k]?=some o→o.isCells=false→W'.heap[k]?=some o
def IterS {α σ:Type} (F:Fence) (n:Nat) (P:Program) (g:Nat) (lb:Array Value) (R:World→Prop) (enc:α→Array Value) (st:σ→α→σ→Prop) (s0:σ) (fin:σ→Prop):Prop :=
 ∀ (l:Nat) (J:σ→World→Prop) (Jx:World→Prop) (W:World),
   (∀ s A A',J s A→Below A.heap.size A A'→J s A')→(∀ s A A' r o,J s A→W.heap.size≤r→A.heap[r]?=some o→o.isCells=false→A.grownBy A' (some r)→J s A') →
   (∀ A A' r o,Jx A→W.heap.size≤r→A.heap[r]?=some o→o.isCells=false→A.grownBy A' (some r)→Jx A')→(∀ s A,J s A→R A)→(∃ q,W.heap[l]?=some (.loop q)) →
   (∀ s x s' W1,st s x s'→J s W1→YieldAt F (n - 1) P l (enc x) W1 fun e W'=>KeepsBut l W1 W'∧W1.heap.size≤W'.heap.size∧((e=.returned (.bool true)∧J s' W')∨(e=.returned (.bool false)∧Jx W'))) →
   J s0 W→CallsIn F n P g (#[.func (.yield l) #[] #[]]++lb) W fun e W'=>(∃ v,e=.returned v)∧((∃ s,fin s∧J s W')∨Jx W')
def siPost {σ:Type} (I:σ→World→Prop) (Ix:Code→World→Prop) (s':σ) (W:World):Exit→Act→World→Prop
 | .normal,_,W'=>KeepsOthers W W'∧I s' W'
 | .ret,_,W'=>KeepsOthers W W'∧Ix .ret W'
 | .exit id,_,W'=>KeepsOthers W W'∧Ix (.exit id) W'
 | .goto t,_,W'=>KeepsOthers W W'∧Ix (.goto t) W'
 | .panic _,_,_=>False
 | .outgrown,_,_=>False
theorem wpIn_rangeFunc_sts {α σ:Type} {g:Operand} {ps:Array Tmp} {assign body:Code} {Q:Exit→Act→World→Prop} {a:Act} {w:World}
 (hro:F.round=none) (h1:1≤n) {gf:Nat} {lb:Array Value} (hg:a.eval g=.func (.func gf) #[] lb) (hFg:F.fn gf) (eg:∀ args w,(callFunc gf args).run P w=.ok (.enter gf args) w)
 {R:World→Prop} {enc:α→Array Value} {st:σ→α→σ→Prop} {s0:σ} {fin:σ→Prop} (hit:IterS F (n - 1) P gf lb R enc st s0 fin) (hps:∀ s,(enc s).size=ps.size)
 (I:σ→World→Prop) (Ix:Code→World→Prop)
 (hb:∀ k A A',I k A→Below A.heap.size A A'→I k A') (hp:∀ k A l o o',I k A→w.heap.size≤l→A.heap[l]?=some o→o.isCells=false→I k (A.putObj l o'))
 (hg':∀ (k:σ) (A A':World) (r:Nat) (o:Obj),I k A→w.heap.size≤r→A.heap[r]?=some o→o.isCells=false→A.grownBy A' (some r)→I k A') (hgx:∀ (c:Code) (A A':World) (r:Nat) (o:Obj),Ix c A→w.heap.size≤r→A.heap[r]?=some o→o.isCells=false→A.grownBy A' (some r)→Ix c A')
 (hpx:∀ (c:Code) (A:World) (l:Nat) (o o':Obj),Ix c A→w.heap.size≤l→A.heap[l]?=some o→o.isCells=false→Ix c (A.putObj l o'))
 (hR:∀ k A,I k A→R A)
 (h0:I s0 w) (a₁:α→World→Act) (w₁:α→World→World) (hw₁:∀ (s:α) (W:World),Below W.heap.size W (w₁ s W))
 (hassign:∀ (l:Nat) (s:α) (W:World) (K:Act→World→Prop),K (a₁ s W) (w₁ s W) →
   assign.wpIn (F.inRound l) (n - 1 - 1) P (Exit.then K (fun _ _ _=>False)) { tmps:=(ps.zip (enc s)).foldl (fun t (p,v)=>t.setIfInBounds p v) a.tmps,defers:=[] } W)
 (hbody:∀ (l:Nat) (k k2:σ) (s:α) (W W':World),st k s k2→I k W→I k W'→(∀ (b:Nat) (o:Obj),(w₁ s W).heap[b]?=some o→o.isCells=true→W'.heap[b]?=some o)→W'.heap.size=(w₁ s W).heap.size→body.wpIn (F.inRound l) (n - 1 - 1) P (siPost I Ix k2 W') (a₁ s W) W')
 (hdone:∀ (D:Nat) (k:σ) (W:World),w.heap.size≤D→fin k→I k W→W.heap[D]?=some (.deferred (some []))→Q .normal { a with defers:={ target:=.collected D,args:=#[] } :: a.defers } W)
 (hstop:∀ (D:Nat) (c:Code) (W:World),w.heap.size≤D→Ix c W→W.heap[D]?=some (.deferred (some []))→c.wpIn F n P Q { a with defers:={ target:=.collected D,args:=#[] } :: a.defers } W) :
 (Code.rangeFunc g ps assign body).wpIn F n P Q a w:=by
 refine wpIn_rangeFunc fun fn hfn=>?_
 rw [hro]
 obtain⟨rec,hrec⟩:∃ rec:LoopState→Option Code→Loop,rec=fun st pe=>{ state:=st,pending:=pe,fn,tmps:=a.tmps,params:=ps,assign,body,defers:=w.heap.size }:=⟨_,rfl⟩
 obtain⟨W1,hW1⟩:∃ W1,(w.alloc (.deferred (some []))).alloc (.loop (rec .ready none))=W1:=⟨_,rfl⟩
 have hD:W1.heap[w.heap.size]?=some (.deferred (some [])):=by
  rw [← hW1];exact(Below.heap_alloc _ _ _ (by simp)).trans (World.alloc_heap_new w _)
 have hL:W1.heap[w.heap.size+1]?=some (.loop (rec .ready none)):=by
  have:=World.alloc_heap_new (w.alloc (.deferred (some []))) (.loop (rec .ready none));rw [World.size_alloc] at this;rw [← hW1];exact this
 have hI1:I s0 W1:=by
  rw [← hW1];exact hb _ _ _ h0 (((Below.refl _ w).alloc (Nat.le_refl _) _).alloc (by simp) _)
 refine⟨w.heap.size+1,[{ target:=.collected w.heap.size,args:=#[] }],W1,{ target:=.fn (.func gf) lb,args:=#[.func (.yield (w.heap.size+1)) #[] #[]] },W1,gf,
  #[.func (.yield (w.heap.size+1)) #[] #[]]++lb,W1,?_,?_,?_,?_,fun _=>h1,?_⟩
 ·rw [← hW1,hrec];exact run_enterLoop_outer _ _ _ _ _
 ·simp only [resolve,hg];simp [go_sem]
 ·intro f' hf';simp [Target.leads] at hf';subst hf';exact hFg
 ·simp [invoke,go_sem,eg]
 ·have hw1:w.heap.size+2=W1.heap.size:=by rw [← hW1];simp
  have kg:∀ {A A':World} {k r:Nat} {o:Obj},k < W1.heap.size→W1.heap.size≤r→A.grownBy A' (some r)→A.heap[k]?=some o→A'.heap[k]?=some o:=fun h1 h2 hg h=>(hg.block _ (qL h) (by simp;omega)).trans h
  have kd:∀ {A A':World} {k:Nat} {o:Obj},Below A.heap.size A A'→A.heap[k]?=some o→A'.heap[k]?=some o:=fun hb' h=>(hb'.block _ (qL h)).trans h
  refine(hit (w.heap.size+1) (fun (k:σ) W=>I k W∧W.heap[w.heap.size+1]?=some (.loop (rec .ready none))∧W.heap[w.heap.size]?=some (.deferred (some [])))
   (fun W=>∃ c,Ix c W∧W.heap[w.heap.size+1]?=some (.loop (rec .done (some c)))∧W.heap[w.heap.size]?=some (.deferred (some []))) W1
   (fun k A A' h hb'=>⟨hb _ _ _ h.1 hb',kd hb' h.2.1,kd hb' h.2.2⟩) (fun k A A' r o h hr ho hc hg=>⟨hg' _ _ _ _ _ h.1 (by omega) ho hc hg,kg (by omega) hr hg h.2.1,kg (by omega) hr hg h.2.2⟩)
   (fun A A' r o ⟨c,h,hl,hd⟩ hr ho hc hg=>⟨c,hgx _ _ _ _ _ h (by omega) ho hc hg,kg (by omega) hr hg hl,kg (by omega) hr hg hd⟩) (fun k A h=>hR _ _ h.1) ⟨_,hL⟩ ?_ ⟨hI1,hL,hD⟩).mono ?_
  ·rintro k s k2 W hs ⟨hi,hl,hk⟩
   have hy:=run_yield (P:=P) (args:=enc s) hl (by rw [hrec];exact hps s)
   rw [hrec] at hy
   obtain⟨V,hV⟩:∃ V,V=w₁ s W:=⟨_,rfl⟩
   have hbv:Below W.heap.size W V:=by rw [hV];exact hw₁ s W
   have hiW:=hi;have hi:=hb _ _ _ hi hbv
   have hl:=kd hbv hl;have hk:=kd hbv hk
   have hlt:w.heap.size+1 < V.heap.size:=(qL hl)
   refine⟨fn,_,assign,body,hy,roundIn_of_wpIn hfn (hassign _ s W _ ?_)⟩
   rw [← hV]
   refine⟨_,run_beginRound hl (by rw [hrec]),?_⟩
   have hl2:(V.putObj (w.heap.size+1) (.loop { rec .ready none with state:=.busy })).heap[w.heap.size+1]?=some (.loop { rec .ready none with state:=.busy }):=World.putObj_heap_same hlt
   have hk2:(V.putObj (w.heap.size+1) (.loop { rec .ready none with state:=.busy })).heap[w.heap.size]?=some (.deferred (some [])):=(World.putObj_heap_other (by omega)).trans hk
   have fin:∀ (jump:Option Code) (W3:World),KeepsOthers (V.putObj (w.heap.size+1) (.loop { rec .ready none with state:=.busy })) W3 →
    (Instr.endRound (w.heap.size+1) jump).run P W3=.ok (.bool jump.isNone) (W3.putObj (w.heap.size+1) (.loop (rec (if jump.isNone then .ready else .done) jump))) ∧
    W3.heap[w.heap.size+1]?=some (.loop { rec .ready none with state:=.busy }) ∧
    (W3.putObj (w.heap.size+1) (.loop (rec (if jump.isNone then .ready else .done) jump))).heap[w.heap.size+1]?=some (.loop (rec (if jump.isNone then .ready else .done) jump)) ∧
    (W3.putObj (w.heap.size+1) (.loop (rec (if jump.isNone then .ready else .done) jump))).heap[w.heap.size]?=some (.deferred (some [])):=fun jump W3 hk3=>by
    have hl3:=hk3.same _ _ hl2 rfl
    have he:=run_endRound (P:=P) jump hl3
    rw [hrec] at he ⊢
    exact⟨he,by rw [hrec] at hl3;exact hl3,World.putObj_heap_same (qL hl3),(World.putObj_heap_other (by omega)).trans (hk3.same _ _ hk2 rfl)⟩
   have kb:∀ {W3:World} {o3:Obj},KeepsOthers (V.putObj (w.heap.size+1) (.loop { rec .ready none with state:=.busy })) W3→KeepsBut (w.heap.size+1) W (W3.putObj (w.heap.size+1) o3):=fun hk3 k o hne ho hc =>
    (World.putObj_heap_other hne).trans (hk3.same _ _ ((World.putObj_heap_other hne).trans ((hbv.block k (qL ho)).trans ho)) hc)
   have ks:∀ {W3:World} {o3:Obj},KeepsOthers (V.putObj (w.heap.size+1) (.loop { rec .ready none with state:=.busy })) W3→W.heap.size≤(W3.putObj (w.heap.size+1) o3).heap.size:=fun hk3=>by
    have:=hk3.1;have:=hbv.size;simp at *;omega
   refine wpIn_mono (hbody _ k k2 s W _ hs hiW (hp _ _ _ _ _ hi (Nat.le_succ _) hl rfl) (fun b o hbo hc=>by rw [← hV] at hbo;exact(World.putObj_heap_other (fun e=>by rw [e,hl] at hbo;cases hbo;cases hc)).trans hbo) (by rw [← hV];simp)) ?_
   rintro e a3 W3 hpost
   cases e with
   | normal =>
     obtain⟨hk3,hi3⟩:=hpost
     obtain⟨hr3,hl3,hl4,hk4⟩:=fin none W3 hk3
     exact⟨_,_,hr3,kb hk3,ks hk3,.inl ⟨rfl,hp _ _ _ _ _ hi3 (Nat.le_succ _) hl3 rfl,hl4,hk4⟩⟩
   | ret =>
     obtain⟨hk3,hi3⟩:=hpost
     obtain⟨hr3,hl3,hl4,hk4⟩:=fin (some .ret) W3 hk3
     exact⟨_,_,hr3,kb hk3,ks hk3,.inr ⟨rfl,.ret,hpx _ _ _ _ _ hi3 (Nat.le_succ _) hl3 rfl,hl4,hk4⟩⟩
   | exit id =>
     obtain⟨hk3,hi3⟩:=hpost
     obtain⟨hr3,hl3,hl4,hk4⟩:=fin (some (.exit id)) W3 hk3
     exact⟨_,_,hr3,kb hk3,ks hk3,.inr ⟨rfl,.exit id,hpx _ _ _ _ _ hi3 (Nat.le_succ _) hl3 rfl,hl4,hk4⟩⟩
   | goto t =>
     obtain⟨hk3,hi3⟩:=hpost
     obtain⟨hr3,hl3,hl4,hk4⟩:=fin (some (.goto t)) W3 hk3
     exact⟨_,_,hr3,kb hk3,ks hk3,.inr ⟨rfl,.goto t,hpx _ _ _ _ _ hi3 (Nat.le_succ _) hl3 rfl,hl4,hk4⟩⟩
   | panic ch=>exact hpost.elim
   | outgrown=>exact hpost.elim
  ·rintro e W2 ⟨⟨v,rfl⟩,(⟨k,hf,hi,hl,hk⟩ | ⟨c,hi,hl,hk⟩)⟩
   ·exact⟨none,_,by have:=run_endLoop (P:=P) hl (by rw [hrec];simp);rw [hrec] at this;exact this,hdone _ _ _ (Nat.le_refl _) hf (hp _ _ _ _ _ hi (Nat.le_succ _) hl rfl) ((World.putObj_heap_other (by omega)).trans hk)⟩
   ·exact⟨some c,_,by have:=run_endLoop (P:=P) hl (by rw [hrec];simp);rw [hrec] at this;exact this,hstop _ c _ (Nat.le_refl _) (hpx _ _ _ _ _ hi (Nat.le_succ _) hl rfl) ((World.putObj_heap_other (by omega)).trans hk)⟩
end Go.Og
end
section
namespace Go.Proofs.YtnjnpbabgefaeaaGreat
namespace Og
variable {P:Program}
open Go.RowKit
def putAll (k:Nat) (l:List Oper) (vs:Nat→Value) (a:Act):Act :=
 match l with
 | []=>a
 | o :: r=>putAll (k+1) r vs (a.put o.dst (vs k))
theorem putAll_eq {vs:Nat→Value} {b:Act}:∀ (l:List Oper) (k:Nat) (a:Act),a.tmps.size=b.tmps.size→a.defers=b.defers →
 (∀ (j:Nat) (o:Oper) (d:Nat),l[j]?=some o→o.dst=some d→d < b.tmps.size∧b.tmps.getD d undef=vs (k+j)) →
 (∀ t,(∀ (j:Nat) (o:Oper),l[j]?=some o→o.dst≠some t)→b.tmps.getD t undef=a.tmps.getD t undef)→putAll k l vs a=b
 | [],k,a,hs,hd,_,h2=>by
   obtain⟨at1,ad⟩:=a
   obtain⟨bt,bd⟩:=b
   simp only at hs hd
   subst hd
   have e:at1=bt:=by
    apply Array.ext hs
    intro i h3 h4
    have h5:=h2 i (fun j o hj=>by simp at hj)
    simp only [Array.getD_eq_getD_getElem?,Array.getElem?_eq_getElem h3,Array.getElem?_eq_getElem h4,Option.getD_some] at h5
    exact h5.symm
   subst e
   rfl
 | o :: r,k,a,hs,hd,h1,h2=>by
   refine putAll_eq r (k+1) _ (by cases ho:o.dst <;> simp [Act.put,hs]) (by cases ho:o.dst <;> simp [Act.put,hd]) (fun j o' d hj hd'=>?_) (fun t ht=>?_)
   ·have:=h1 (j+1) o' d (by simpa using hj) hd'
    rwa [show k+(j+1)=k+1+j by omega] at this
   ·cases ho:o.dst with
    | none =>
      exact h2 t (fun j o' hj=>by
       cases j with
       | zero=>simp at hj;subst hj;simp [ho]
       | succ j=>exact ht j o' (by simpa using hj))
    | some d =>
      by_cases hdt:d=t
      ·subst hdt
       obtain⟨h3,h4⟩:=h1 0 o d (by simp) ho
       rw [h4]
       simp [Act.put,hs,h3]
      ·rw [h2 t (fun j o' hj=>by
        cases j with
        | zero=>simp at hj;subst hj;simp [ho,hdt]
        | succ j=>exact ht j o' (by simpa using hj))]
       simp [Act.put,Array.getElem?_setIfInBounds_ne hdt]
theorem region3 {id:Nat} {l:List Oper} {Q:Exit→Act→World→Prop} {a0:Act} {w:World} (hm:P.follows .mixedOrders=true) (own:Nat→Option Nat) (S:List Sp) (W:List Bool)
 (hok:ok2 own l.toArray a0.tmps.size=true) (h:obls P own a0 w S W 0 l)
 (hend:∀ (vs:Nat→Value) (w1:World),Below w.heap.size w w1→(∀ (j:Nat) (o:Oper) (d:Nat),l[j]?=some o→o.dst=some d→(at_ S j).holds (vs j) w1)→Q .normal (putAll 0 l vs a0) w1) :
 (Code.region id l.toArray true).wp P Q a0 w:=by
 unfold ok2 at hok
 rw [Bool.and_eq_true] at hok
 refine region hm (fun a b=>Below a.heap.size a b) (fun w=>Below.refl _ _) (fun a b c h k=>h.trans (k.mono h.size)) (fun j=>(at_ S j).holds) (fun j v w w' h hb=>holds_stab _ h hb) (fun j=>W.getD j true) hok.1
  (fun j o ho=>?_) (fun j o ho ρ w1 hr hd=>?_) (fun a w1 hr hdf hsz hall hout=>?_)
 ·have:=(obls_at h (j:=j) (o:=o) (by simpa using ho)).1
  rw [Nat.zero_add] at this
  exact this
 ·have:=(obls_at h (j:=j) (o:=o) (by simpa using ho)).2 ρ w1 ⟨hr.os,hr.tape,hr.output,hr.size,hr.block⟩ (deps2_of (fun t ht=>by
   have h1:=Array.all_eq_true_iff_forall_mem.1 hok.2 o (Array.mem_of_getElem? ho)
   have h2:=Array.all_eq_true_iff_forall_mem.1 h1 (.tmp t) (by simpa using ht)
   simpa using h2) hd)
  rw [Nat.zero_add] at this
  exact this
 ·have key:=hend (fun j=>match l[j]? with | some o=>slot o a | none=>undef) w1 ⟨hr.os,hr.tape,hr.output,hr.size,hr.block⟩ (fun j o d ho hd=>by
   have:=hall j o (by simpa using ho)
   simpa [ho] using this)
  rw [putAll_eq (b:=a) l 0 a0 hsz.symm hdf.symm (fun j o d ho hd=>?_) (fun t ht=>?_)] at key
  ·exact key
  ·have h1:=(ok_at hok.1 (j:=j) (o:=o) (by simpa using ho)).1 d hd
   refine⟨by rw [hsz];exact h1.1,?_⟩
   simp [ho,slot,hd]
  ·refine hout t ?_
   cases hown:owner l.toArray t with
   | none=>rfl
   | some i =>
     obtain⟨o,ho,hd⟩:=owner_spec hown
     exact absurd hd (ht i o (by simpa using ho))
end Og
end Go.Proofs.YtnjnpbabgefaeaaGreat
end
