import Derived.Test.YtnjnpbabgefaeaaGreatKp02
import Derived.Test.YtnjnpbabgefaeaaGreatKp03
import Derived.OrdersHeld
import Derived.RegionTactic
set_option linter.unusedVariables false
set_option linter.unusedSimpArgs false
section
namespace Go.Proofs.YtnjnpbabgefaeaaGreat
namespace Md
def someGo (P:List Nat→Bool) (all:List Nat):Nat→List Nat→Bool
 | 0,o=>P o
 | f+1,o=>all.any fun e=>!(o.contains e)&&someGo P all f (o++[e])
theorem someGo_iff {P:List Nat→Bool} {all:List Nat}:∀ {f:Nat} {o:List Nat},someGo P all f o=true↔∃ r:List Nat,r.length=f∧r.Nodup∧(∀ e ∈ r,e ∈ all∧e ∉ o)∧P (o++r)=true
 | 0,o=>by
   unfold someGo
   constructor
   ·intro h;exact⟨[],rfl,List.nodup_nil,fun e he=>(by cases he),(by rw [List.append_nil];exact h)⟩
   ·rintro⟨r,h1,_,_,h⟩
    obtain rfl:r=[]:=List.eq_nil_of_length_eq_zero h1
    rwa [List.append_nil] at h
 | f+1,o=>by
   unfold someGo
   rw [List.any_eq_true]
   constructor
   ·rintro⟨e,he,h⟩
    simp only [Bool.and_eq_true,Bool.not_eq_true',List.contains_eq_mem,decide_eq_false_iff_not] at h
    obtain⟨r,h1,h2,h3,h4⟩:=someGo_iff.1 h.2
    refine⟨e :: r,(by simp [h1]),List.nodup_cons.2 ⟨fun hh=>(h3 e hh).2 (by simp),h2⟩,fun a ha=>?_,(by rw [List.append_assoc] at h4;exact h4)⟩
    rcases List.mem_cons.1 ha with rfl | ha
    ·exact⟨he,h.1⟩
    ·exact⟨(h3 a ha).1,fun hh=>(h3 a ha).2 (List.mem_append_left _ hh)⟩
   ·rintro⟨r,h1,h2,h3,h4⟩
    match r,h1 with
    | e :: r,h1 =>
      have he:=h3 e List.mem_cons_self
      refine⟨e,he.1,?_⟩
      simp only [Bool.and_eq_true,Bool.not_eq_true',List.contains_eq_mem,decide_eq_false_iff_not]
      refine⟨he.2,someGo_iff.2 ⟨r,(by simpa using h1),(List.nodup_cons.1 h2).2,fun a ha=>?_,(by rw [List.append_assoc];exact h4)⟩⟩
      refine⟨(h3 a (List.mem_cons_of_mem _ ha)).1,fun hh=>?_⟩
      rcases List.mem_append.1 hh with hh | hh
      ·exact(h3 a (List.mem_cons_of_mem _ ha)).2 hh
      ·obtain rfl:a=e:=by simpa using hh
       exact(List.nodup_cons.1 h2).1 ha
variable {E:Exe}
def candAt (E:Exe) (l:List Nat) (n j:Nat):Prop:=∃ m,l[j]?=some m∧m≠n∧E.st m∧E.ad m=E.ad n∧(j < l.idxOf n∨E.po m n)
structure LRight (E:Exe) (l:List Nat):Prop where
 up:∀ (i k a b:Nat),i < k→l[i]?=some a→l[k]?=some b→¬ E.ppo b a∧¬ E.co b a
 sees:∀ n ∈ l,E.ld n→∃ i,candAt E l n i∧l[i]?=some (E.rf n)∧∀ j,i < j→¬ candAt E l n j
theorem at_idx {l:List Nat} {m:Nat} (h:m ∈ l):l[l.idxOf m]?=some m:=by
 have hl:=List.idxOf_lt_length_iff.2 h
 rw [List.getElem?_eq_getElem hl,List.getElem_idxOf hl]
theorem idx_at {l:List Nat} (hd:l.Nodup) {j m:Nat} (h:l[j]?=some m):l.idxOf m=j:=by
 have hm:=List.mem_of_getElem? h
 have hl:=List.idxOf_lt_length_iff.2 hm
 exact(List.getElem?_inj hl hd).1 ((at_idx hm).trans h.symm)
theorem cand_iff {l:List Nat} (hd:l.Nodup) (hm:∀ a,E.st a→a ∈ l) {n m:Nat}:E.cand (l.idxOf ·) n m↔candAt E l n (l.idxOf m)∧m ∈ l:=by
 constructor
 ·rintro⟨h1,h2,h3,h4⟩
  exact⟨⟨m,at_idx (hm m h2),h1,h2,h3,h4⟩,hm m h2⟩
 ·rintro⟨⟨m',h0,h1,h2,h3,h4⟩,hml⟩
  rw [at_idx hml] at h0
  obtain rfl:m=m':=Option.some.inj h0
  exact⟨h1,h2,h3,h4⟩
theorem right_iff (H:E.Ok) {l:List Nat} (hd:l.Nodup) (hm:∀ a,a ∈ l↔E.ac a):LRight E l↔E.Right (l.idxOf ·):=by
 have hst:∀ a,E.st a→a ∈ l:=fun a h=>(hm a).2 (H.stac h)
 constructor
 ·intro R
  refine⟨fun {a b} ha hb h=>?_,fun {a b} ha hb h=>?_,fun {n} hl=>?_⟩
  ·have h1:=at_idx ((hm a).2 ha);have h2:=at_idx ((hm b).2 hb)
   have h':l.idxOf a=l.idxOf b:=h
   rw [h',h2] at h1;exact(Option.some.inj h1).symm
  ·exact R.up _ _ a b h (at_idx ((hm a).2 ha)) (at_idx ((hm b).2 hb))
  ·obtain⟨i,h1,h2,h3⟩:=R.sees n ((hm n).2 (H.ldac hl)) hl
   have e:=idx_at hd h2
   refine⟨(cand_iff hd hst).2 ⟨by rw [e];exact h1,hst _ (H.rfst hl).1⟩,fun m hc=>?_⟩
   have hc':=((cand_iff hd hst).1 hc).1
   simp only [e]
   rcases Nat.lt_or_ge i (l.idxOf m) with h | h
   ·exact absurd hc' (h3 _ h)
   ·exact h
 ·intro R
  refine⟨fun i k a b hik ha hb=>?_,fun n hn hl=>?_⟩
  ·have e1:=idx_at hd ha;have e2:=idx_at hd hb
   exact R.up ((hm a).1 (List.mem_of_getElem? ha)) ((hm b).1 (List.mem_of_getElem? hb)) (by simp only [e1,e2];exact hik)
  ·obtain⟨h1,h2⟩:=R.sees hl
   obtain⟨h3,h4⟩:=(cand_iff hd hst).1 h1
   refine⟨_,h3,at_idx h4,fun j hj hc=>?_⟩
   have hc':=hc
   obtain⟨m,e,_⟩:=hc
   have e1:=idx_at hd e
   have:=h2 m ((cand_iff hd hst).2 ⟨by rw [e1];exact hc',List.mem_of_getElem? e⟩)
   simp only [e1] at this;omega
end Md
end Go.Proofs.YtnjnpbabgefaeaaGreat
end
section
namespace Go.Proofs.YtnjnpbabgefaeaaGreat
open Go.RowKit
set_option maxHeartbeats 1000000
theorem stores_any (x:Ev.R) (w:World):Calls Tryz.prog 100 #[Ev.evV x] w fun e w'=>e=.returned (.bool (Ev.stores x.k))∧Below w.heap.size w w':=by
 unfold Ev.evV Ev.cells
 by_cases h2:x.k=2
 ·have e:Ev.stores x.k=true:=by rw [h2];rfl
  have t2:(x.k==2)=true:=by simp [h2]
  rw [e];clear e h2
  go_enter Tryz.func100,Tryz.ntmps100
  go_wp2
  go_ret
  exact⟨rfl,(Below.refl _ _).alloc (Nat.le_refl _) _⟩
 have n2:(x.k==2)=false:=by simpa using h2
 by_cases h3:x.k=3
 ·have e:Ev.stores x.k=true:=by rw [h3];rfl
  have t2:(x.k==3)=true:=by simp [h3]
  rw [e];clear e h2 h3
  go_enter Tryz.func100,Tryz.ntmps100
  go_wp2
  go_ret
  exact⟨rfl,(Below.refl _ _).alloc (Nat.le_refl _) _⟩
 have n3:(x.k==3)=false:=by simpa using h3
 by_cases h5:x.k=5
 ·have e:Ev.stores x.k=true:=by rw [h5];rfl
  have t2:(x.k==5)=true:=by simp [h5]
  rw [e];clear e h2 h3 h5
  go_enter Tryz.func100,Tryz.ntmps100
  go_wp2
  go_ret
  exact⟨rfl,(Below.refl _ _).alloc (Nat.le_refl _) _⟩
 have n5:(x.k==5)=false:=by simpa using h5
 have e:Ev.stores x.k=false:=by unfold Ev.stores;simp [n2,n3,n5]
 rw [e];clear e h2 h3 h5
 go_enter Tryz.func100,Tryz.ntmps100
 go_wp2
 go_ret
 exact⟨rfl,(Below.refl _ _).alloc (Nat.le_refl _) _⟩
theorem loads_any (x:Ev.R) (w:World):Calls Tryz.prog 98 #[Ev.evV x] w fun e w'=>e=.returned (.bool (Ev.loads x.k))∧Below w.heap.size w w':=by
 unfold Ev.evV Ev.cells
 by_cases h2:x.k=1
 ·have e:Ev.loads x.k=true:=by rw [h2];rfl
  have t2:(x.k==1)=true:=by simp [h2]
  rw [e];clear e h2
  go_enter Tryz.func98,Tryz.ntmps98
  go_wp2
  go_ret
  exact⟨rfl,(Below.refl _ _).alloc (Nat.le_refl _) _⟩
 have n2:(x.k==1)=false:=by simpa using h2
 by_cases h3:x.k=3
 ·have e:Ev.loads x.k=true:=by rw [h3];rfl
  have t2:(x.k==3)=true:=by simp [h3]
  rw [e];clear e h2 h3
  go_enter Tryz.func98,Tryz.ntmps98
  go_wp2
  go_ret
  exact⟨rfl,(Below.refl _ _).alloc (Nat.le_refl _) _⟩
 have n3:(x.k==3)=false:=by simpa using h3
 have e:Ev.loads x.k=false:=by unfold Ev.loads;simp [n2,n3]
 rw [e];clear e h2 h3
 go_enter Tryz.func98,Tryz.ntmps98
 go_wp2
 go_ret
 exact⟨rfl,(Below.refl _ _).alloc (Nat.le_refl _) _⟩
theorem inB_any (n m:Int) (w:World):Calls Tryz.prog 119 #[.int .i64 n,.int .i64 m] w fun e w'=>e=.returned (.bool (Ev.inB n m))∧w=w':=by
 by_cases h:0≤n
 ·have e:Ev.inB n m=decide (n < m):=by unfold Ev.inB;simp [h]
  rw [e];clear e
  go_enter Tryz.func119,Tryz.ntmps119
  go_wp2
  go_ret
  exact⟨by first | rfl | simp,rfl⟩
 ·have e:Ev.inB n m=false:=by unfold Ev.inB;simp [h]
  rw [e];clear e
  go_enter Tryz.func119,Tryz.ntmps119
  go_wp2
  go_ret
  exact⟨rfl,rfl⟩
theorem bond_any (b:Bool) (w:World):Calls Tryz.prog 109 #[.bool b] w fun e w'=>e=.returned (.int .i64 (if b then 1 else 0))∧w=w':=by
 cases b
 ·go_enter Tryz.func109,Tryz.ntmps109
  go_wp2
  go_ret
  exact⟨rfl,rfl⟩
 ·go_enter Tryz.func109,Tryz.ntmps109
  go_wp2
  go_ret
  exact⟨rfl,rfl⟩
theorem parts_any (k:Int) (w:World):Calls Tryz.prog 116 #[.int .i64 k] w fun e w'=>e=.returned (.int .i64 (Ev.parts k))∧w=w':=by
 by_cases h1:k=1
 ·subst h1;go_enter Tryz.func116,Tryz.ntmps116;go_wp2;go_ret;exact⟨rfl,rfl⟩
 by_cases h2:k=2
 ·subst h2;go_enter Tryz.func116,Tryz.ntmps116;go_wp2;go_ret;exact⟨rfl,rfl⟩
 by_cases h3:k=3
 ·subst h3;go_enter Tryz.func116,Tryz.ntmps116;go_wp2;go_ret;exact⟨rfl,rfl⟩
 by_cases h4:k=4
 ·subst h4;go_enter Tryz.func116,Tryz.ntmps116;go_wp2;go_ret;exact⟨rfl,rfl⟩
 by_cases h5:k=5
 ·subst h5;go_enter Tryz.func116,Tryz.ntmps116;go_wp2;go_ret;exact⟨rfl,rfl⟩
 have e:Ev.parts k=0:=by unfold Ev.parts;simp [h1,h2,h3,h4,h5]
 rw [e]
 have n1:(k==1)=false:=by simpa using h1
 have n2:(k==2)=false:=by simpa using h2
 have n3:(k==3)=false:=by simpa using h3
 have n4:(k==4)=false:=by simpa using h4
 have n5:(k==5)=false:=by simpa using h5
 clear h1 h2 h3 h4 h5 e
 go_enter Tryz.func116,Tryz.ntmps116
 go_wp2
 go_ret
 exact⟨rfl,rfl⟩
namespace Ev
def hartOk (x:R):Bool:=if x.k=5 then x.h==-1 else inB x.h 4
def follow (x y:R):Bool:=if y.k=5∧x.k=5 then decide (x.a < y.a) else decide (x.h≤y.h)
end Ev
theorem hart_any (x:Ev.R) (w:World):Calls Tryz.prog 118 #[Ev.evV x] w fun e w'=>e=.returned (.bool (Ev.hartOk x))∧Below w.heap.size w w':=by
 unfold Ev.evV Ev.cells
 by_cases h5:x.k=5
 ·have e:Ev.hartOk x=(x.h==-1):=by unfold Ev.hartOk;rw [if_pos h5]
  have t2:(x.k==5)=true:=by simp [h5]
  rw [e];clear e h5
  go_enter Tryz.func118,Tryz.ntmps118
  go_wp2
  go_ret
  exact⟨rfl,(Below.refl _ _).alloc (Nat.le_refl _) _⟩
 ·have e:Ev.hartOk x=Ev.inB x.h 4:=by unfold Ev.hartOk;rw [if_neg h5]
  have t2:(x.k==5)=false:=by simpa using h5
  rw [e];clear e h5
  go_enter Tryz.func118,Tryz.ntmps118
  go_wp2_with (go_at_call 119;refine(inB_any _ _ _).mono ?_;rintro e w' ⟨rfl,rfl⟩)
  go_ret
  exact⟨rfl,(Below.refl _ _).alloc (Nat.le_refl _) _⟩
theorem follow_any (x y:Ev.R) (w:World):Calls Tryz.prog 96 #[Ev.evV x,Ev.evV y] w fun e w'=>e=.returned (.bool (Ev.follow x y))∧Below w.heap.size w w':=by
 unfold Ev.evV Ev.cells
 have two:∀ A B:Obj,Below w.heap.size w ((w.alloc A).alloc B):=fun A B=>((Below.refl _ _).alloc (Nat.le_refl _) _).alloc (by simp only [World.size_alloc];omega) _
 by_cases h5:y.k=5
 ·have t2:(y.k==5)=true:=by simp [h5]
  by_cases h6:x.k=5
  ·have t3:(x.k==5)=true:=by simp [h6]
   have e:Ev.follow x y=decide (x.a < y.a):=by unfold Ev.follow;rw [if_pos ⟨h5,h6⟩]
   rw [e];clear e h5 h6
   go_enter Tryz.func96,Tryz.ntmps96
   go_wp2
   go_ret
   exact⟨rfl,two _ _⟩
  ·have t3:(x.k==5)=false:=by simpa using h6
   have e:Ev.follow x y=decide (x.h≤y.h):=by unfold Ev.follow;rw [if_neg (fun h=>h6 h.2)]
   rw [e];clear e h5 h6
   go_enter Tryz.func96,Tryz.ntmps96
   go_wp2
   go_ret
   exact⟨rfl,two _ _⟩
 ·have t2:(y.k==5)=false:=by simpa using h5
  have e:Ev.follow x y=decide (x.h≤y.h):=by unfold Ev.follow;rw [if_neg (fun h=>h5 h.1)]
  rw [e];clear e h5
  go_enter Tryz.func96,Tryz.ntmps96
  go_wp2
  go_ret
  exact⟨rfl,two _ _⟩
end Go.Proofs.YtnjnpbabgefaeaaGreat
end
section
namespace Go.Proofs.YtnjnpbabgefaeaaGreat
open Go.RowKit
namespace Og
def Std (w x:World):Prop:=Below w.heap.size w x
theorem std_cell {w x:World} (h:Std w x) {p:Addr} {v:Value} (e:w.cell? p=some v):x.cell? p=some v:=Ev.kp_below h p v e
theorem held_take {P:Program} {ops:Array Oper} {Q:Exit→Act→World→Prop} {S:World→Prop} {fuel:Nat} {listed:Array Bool} {a:Act} {w:World} (i:Nat) (o:Oper) (v:Value) (a':Act) (hi:ops[i]?=some o) (hg:o.guard=none)
 (hs:Region.noSelect ops=true) (hf:Region.free .any ops listed i=true) (hr:(Region.ready .any ops listed).contains i=true)
 (hQ:∀ c a w,Q (.panic c) (a.put o.dst v) w→Q (.panic c) a w) (hS:S w)
 (hrun:∀ x,S x→(execOp a.eval o).run P x=.ok (.value v) x) (ha:a.put o.dst v=a')
 (h:wpAnyH P .any ops Q S fuel (listed.setIfInBounds i true) a' w):wpAnyH P .any ops Q S (fuel+1) listed a w :=
 wpAnyH_take hi hs hf hr hQ (Or.inl ⟨by unfold Region.wanted;rw [hg],hrun⟩) hS (by rw [ha];exact h)
theorem held_op {P:Program} {ops:Array Oper} {Q:Exit→Act→World→Prop} {S:World→Prop} {fuel:Nat} {listed:Array Bool} {a:Act} {w:World} (i:Nat) (o:Oper) (v:Value) (w':World) (a':Act) (hi:ops[i]?=some o) (hg:o.guard=none)
 (hrun:(execOp a.eval o).run P w=.ok (.value v) w') (ha:a.put o.dst v=a') (hS:S w')
 (h:wpAnyH P .any ops Q S fuel (listed.setIfInBounds i true) a' w'):wpOp P ops Q i (fun a' w'=>S w'∧wpAnyH P .any ops Q S fuel (listed.setIfInBounds i true) a' w') a w:=by
 unfold wpOp
 rw [hi]
 have hw:Region.wanted o (yielded ops a.tmps)=true:=by unfold Region.wanted;rw [hg]
 simp only [hw,if_true]
 refine .inl ?_
 unfold Oper.wp
 rw [hrun]
 show _∧_
 rw [ha]
 exact⟨hS,h⟩
theorem held_op' {P:Program} {ops:Array Oper} {Q:Exit→Act→World→Prop} {S:World→Prop} {fuel:Nat} {listed:Array Bool} {a:Act} {w:World} (i:Nat) (o:Oper) (w':World) (a':Act) (hi:ops[i]?=some o) (hg:o.guard=none)
 (hrun:(execOp a.eval o).run P w=.ok .skip w') (ha:a.put o.dst undef=a') (hS:S w')
 (h:wpAnyH P .any ops Q S fuel (listed.setIfInBounds i true) a' w'):wpOp P ops Q i (fun a' w'=>S w'∧wpAnyH P .any ops Q S fuel (listed.setIfInBounds i true) a' w') a w:=by
 unfold wpOp
 rw [hi]
 have hw:Region.wanted o (yielded ops a.tmps)=true:=by unfold Region.wanted;rw [hg]
 simp only [hw,if_true]
 refine .inl ?_
 unfold Oper.wp
 rw [hrun]
 show _∧_
 rw [ha]
 exact⟨hS,h⟩
theorem held_one {P:Program} {ops:Array Oper} {Q:Exit→Act→World→Prop} {S:World→Prop} {fuel:Nat} {listed:Array Bool} {a:Act} {w:World} (i:Nat) (hr:Region.ready .any ops listed=[i])
 (h:wpOp P ops Q i (fun a' w'=>S w'∧wpAnyH P .any ops Q S fuel (listed.setIfInBounds i true) a' w') a w):wpAnyH P .any ops Q S (fuel+1) listed a w :=
 wpAnyH_all hr (by simp) (fun j hj=>by obtain rfl:j=i:=by simpa using hj
                                       exact h)
theorem held_two {P:Program} {ops:Array Oper} {Q:Exit→Act→World→Prop} {S:World→Prop} {fuel:Nat} {listed:Array Bool} {a:Act} {w:World} (i k:Nat) (hr:Region.ready .any ops listed=[i,k])
 (h1:wpOp P ops Q i (fun a' w'=>S w'∧wpAnyH P .any ops Q S fuel (listed.setIfInBounds i true) a' w') a w)
 (h2:wpOp P ops Q k (fun a' w'=>S w'∧wpAnyH P .any ops Q S fuel (listed.setIfInBounds k true) a' w') a w):wpAnyH P .any ops Q S (fuel+1) listed a w :=
 wpAnyH_all hr (by simp) (fun j hj=>by
  rcases(by simpa using hj:j=i∨j=k) with rfl | rfl
  ·exact h1
  ·exact h2)
structure Two (w W:World) (g1 g2:Nat) (t:TypeId) (c1 c2:Array Value):Prop where
 r1:W.heap[g1]?=some (.cells c1 t (0,0))
 r2:W.heap[g2]?=some (.cells c2 t (0,0))
 ge1:w.heap.size≤g1
 ge2:w.heap.size≤g2
 below:Below w.heap.size w W
theorem two_a {w w1:World} (h0:Below w.heap.size w w1) {t:TypeId} {z c1 c2:Array Value} (h1:z.size=c1.size) (h2:z.size=c2.size) :
 Two w (((((w1.alloc (.cells z t)).alloc (.cells z t)).setRow w1.heap.size c1)).setRow (w1.heap.size+1) c2) w1.heap.size (w1.heap.size+1) t c1 c2:=by
 have s0:=h0.size
 have a1:((w1.alloc (.cells z t)).alloc (.cells z t)).heap[w1.heap.size]?=some (.cells z t (0,0)):=(Below.heap_alloc _ _ _ (by simp)).trans (heap_alloc_new _ _)
 have a2:((w1.alloc (.cells z t)).alloc (.cells z t)).heap[w1.heap.size+1]?=some (.cells z t (0,0)):=heap_alloc2_new _ _ _
 have e1:=Ev.set1 a1 h1
 have a3:=(e1.block (w1.heap.size+1) (by omega)).trans a2
 have e2:=Ev.set1 a3 h2
 refine⟨(e2.block _ (by omega)).trans e1.row,e2.row,s0,by omega,?_⟩
 exact(((h0.alloc s0 _).alloc (by simp only [World.size_alloc];omega) _).trans (e1.below.mono s0)).trans (e2.below.mono (by omega))
theorem two_b {w w1:World} (h0:Below w.heap.size w w1) {t:TypeId} {z c1 c2:Array Value} (h1:z.size=c1.size) (h2:z.size=c2.size) :
 Two w (((((w1.alloc (.cells z t)).alloc (.cells z t)).setRow (w1.heap.size+1) c1)).setRow w1.heap.size c2) (w1.heap.size+1) w1.heap.size t c1 c2:=by
 have s0:=h0.size
 have a1:((w1.alloc (.cells z t)).alloc (.cells z t)).heap[w1.heap.size]?=some (.cells z t (0,0)):=(Below.heap_alloc _ _ _ (by simp)).trans (heap_alloc_new _ _)
 have a2:((w1.alloc (.cells z t)).alloc (.cells z t)).heap[w1.heap.size+1]?=some (.cells z t (0,0)):=heap_alloc2_new _ _ _
 have e1:=Ev.set1 a2 h1
 have a3:=(e1.block w1.heap.size (by omega)).trans a1
 have e2:=Ev.set1 a3 h2
 refine⟨(e2.block _ (by omega)).trans e1.row,e2.row,by omega,s0,?_⟩
 exact(((h0.alloc s0 _).alloc (by simp only [World.size_alloc];omega) _).trans (e1.below.mono (by omega))).trans (e2.below.mono s0)
theorem load_run {P:Program} {o:Oper} {ρ:Operand→Value} {w:World} {v:Value} (ty:TypeId) (x:Operand) (ho:o.op=.load ty x) (p:Addr) (hx:ρ x=.pointer (some p)) (hl:(loadVar ty p).run P w=.ok v w):(execOp ρ o).run P w=.ok (.value v) w:=by
 unfold execOp
 simp only [ho,hx,Instr.loadAt,Instr.sureAddr,Sem.run_bind,Sem.run_pure,Result.andThen_ok,hl]
theorem store_run {P:Program} {o:Oper} {ρ:Operand→Value} {w:World} (ty:TypeId) (x y:Operand) (ho:o.op=.store ty x y) (g:Nat) (cells:Array Value) (hx:ρ x=.pointer (some ⟨g,0,none⟩)) (hy:ρ y=.agg cells)
 (t:TypeId) (old:Array Value) (hg:w.heap[g]?=some (.cells old t (0,0))) (hi:(P.info? ty).map (·.size)=some cells.size) (hold:old.size=cells.size) (h1:cells.all (·.oneCell')=true) :
 (execOp ρ o).run P w=.ok (.value undef) (w.setRow g cells)∨(execOp ρ o).run P w=.ok .skip (w.setRow g cells):=by
 unfold execOp
 simp only [ho,hx,hy,Instr.storeAt,Instr.sureAddr,Sem.run_bind,Sem.run_pure,Result.andThen_ok,run_storeVar_row w g t ty old cells hg hi hold h1]
 first | exact .inl rfl | exact .inr rfl | exact .inl trivial | exact .inr trivial
structure Four (P:Program) (ops:Array Oper) (listed:Array Bool) (a:Act) (p q s1 s2 dp dq x1 x2:Nat) (T:TypeId) (Z c1 c2:Array Value):Prop where
 ap:∃ o,ops[p]?=some o∧o.guard=none∧o.dst=some dp∧∀ ρ w,(execOp ρ o).run P w=.ok (.value (.pointer (some ⟨w.heap.size,0,none⟩))) (w.alloc (.cells Z T))
 aq:∃ o,ops[q]?=some o∧o.guard=none∧o.dst=some dq∧∀ ρ w,(execOp ρ o).run P w=.ok (.value (.pointer (some ⟨w.heap.size,0,none⟩))) (w.alloc (.cells Z T))
 a1:∃ o,ops[s1]?=some o∧o.guard=none∧o.dst=none∧o.op=.store T (.tmp dp) (.tmp x1)
 a2:∃ o,ops[s2]?=some o∧o.guard=none∧o.dst=none∧o.op=.store T (.tmp dq) (.tmp x2)
 r0:Region.ready .any ops listed=[p,q]
 rp:Region.ready .any ops (listed.setIfInBounds p true)=[q]
 rq:Region.ready .any ops (listed.setIfInBounds q true)=[p]
 r2:Region.ready .any ops ((listed.setIfInBounds p true).setIfInBounds q true)=[s1]
 r2':Region.ready .any ops ((listed.setIfInBounds q true).setIfInBounds p true)=[s1]
 r3:Region.ready .any ops (((listed.setIfInBounds p true).setIfInBounds q true).setIfInBounds s1 true)=[s2]
 r3':Region.ready .any ops (((listed.setIfInBounds q true).setIfInBounds p true).setIfInBounds s1 true)=[s2]
 r4:Region.ready .any ops ((((listed.setIfInBounds p true).setIfInBounds q true).setIfInBounds s1 true).setIfInBounds s2 true)=[]
 r4':Region.ready .any ops ((((listed.setIfInBounds q true).setIfInBounds p true).setIfInBounds s1 true).setIfInBounds s2 true)=[]
 v1:a.tmps.getD x1 undef=.agg c1
 v2:a.tmps.getD x2 undef=.agg c2
 hdp:dp < a.tmps.size
 hdq:dq < a.tmps.size
 n1:x1≠dp∧x1≠dq∧x2≠dp∧x2≠dq∧dp≠dq
 z1:Z.size=c1.size
 z2:Z.size=c2.size
 i1:(P.info? T).map (·.size)=some c1.size
 i2:(P.info? T).map (·.size)=some c2.size
 o1:c1.all (·.oneCell')=true
 o2:c2.all (·.oneCell')=true
theorem dget_put (a:Act) (d:Nat) (v:Value) (t:Nat) (hd:d < a.tmps.size):(a.put (some d) v).tmps.getD t undef=if t=d then v else a.tmps.getD t undef:=by
 by_cases h:t=d
 ·subst h;simp [Act.put,hd]
 ·rw [if_neg h];simp [Act.put,Array.getElem?_setIfInBounds_ne (Ne.symm h)]
theorem dsize_put (a:Act) (d:Option Nat) (v:Value):(a.put d v).tmps.size=a.tmps.size:=by cases d <;> simp [Act.put]
theorem store_step {P:Program} {ops:Array Oper} {Q:Exit→Act→World→Prop} {S:World→Prop} {fuel:Nat} {listed:Array Bool} {a:Act} {w:World} (i:Nat) (o:Oper) (hi:ops[i]?=some o) (hg:o.guard=none) (hd:o.dst=none) (T:TypeId) (x y:Nat) (ho:o.op=.store T (.tmp x) (.tmp y))
 (hr:Region.ready .any ops listed=[i]) (g:Nat) (cells old:Array Value) (hx:a.tmps.getD x undef=.pointer (some ⟨g,0,none⟩)) (hy:a.tmps.getD y undef=.agg cells)
 (hgw:w.heap[g]?=some (.cells old T (0,0))) (hin:(P.info? T).map (·.size)=some cells.size) (hold:old.size=cells.size) (h1:cells.all (·.oneCell')=true) (hS:S (w.setRow g cells))
 (h:wpAnyH P .any ops Q S fuel (listed.setIfInBounds i true) a (w.setRow g cells)):wpAnyH P .any ops Q S (fuel+1) listed a w:=by
 refine held_one i hr ?_
 rcases store_run (P:=P) (o:=o) (ρ:=a.eval) (w:=w) T (.tmp x) (.tmp y) ho g cells hx hy T old hgw hin hold h1 with hrun | hrun
 ·exact held_op i o undef _ a hi hg hrun (by rw [hd];rfl) hS h
 ·exact held_op' i o _ a hi hg hrun (by rw [hd];rfl) hS h
theorem four {P:Program} {ops:Array Oper} {Q:Exit→Act→World→Prop} {w w1:World} {listed:Array Bool} {a:Act} {fuel p q s1 s2 dp dq x1 x2:Nat} {T:TypeId} {Z c1 c2:Array Value} (F:Four P ops listed a p q s1 s2 dp dq x1 x2 T Z c1 c2) (S0:Std w w1)
 (h:∀ W g1 g2,Two w W g1 g2 T c1 c2→Q .normal ((a.put (some dp) (.pointer (some ⟨g1,0,none⟩))).put (some dq) (.pointer (some ⟨g2,0,none⟩))) W) :
 wpAnyH P .any ops Q (Std w) (fuel+4) listed a w1:=by
 obtain⟨op,hp,gp,dpe,rp⟩:=F.ap
 obtain⟨oq,hq,gq,dqe,rq⟩:=F.aq
 obtain⟨b1,hb1,gb1,db1,ob1⟩:=F.a1
 obtain⟨b2,hb2,gb2,db2,ob2⟩:=F.a2
 obtain⟨n1,n2,n3,n4,n5⟩:=F.n1
 have s0:w.heap.size≤w1.heap.size:=Below.size S0
 have A1:Std w (w1.alloc (.cells Z T)):=Below.alloc S0 s0 _
 have A2:Std w ((w1.alloc (.cells Z T)).alloc (.cells Z T)):=Below.alloc A1 (by simp only [World.size_alloc];omega) _
 have m1:((w1.alloc (.cells Z T)).alloc (.cells Z T)).heap[w1.heap.size]?=some (.cells Z T (0,0)):=(Below.heap_alloc _ _ _ (by simp)).trans (heap_alloc_new _ _)
 have m2:((w1.alloc (.cells Z T)).alloc (.cells Z T)).heap[w1.heap.size+1]?=some (.cells Z T (0,0)):=heap_alloc2_new _ _ _
 have e2:(w1.alloc (.cells Z T)).heap.size=w1.heap.size+1:=by simp only [World.size_alloc]
 refine held_two p q F.r0 ?_ ?_
 ·refine held_op p op _ _ _ hp gp (rp _ _) rfl A1 ?_
  refine held_one q F.rp (held_op q oq _ _ _ hq gq (rq _ _) rfl A2 ?_)
  rw [dpe,dqe,e2]
  have t1:=Ev.set1 m1 F.z1
  have B1:Std w (((w1.alloc (.cells Z T)).alloc (.cells Z T)).setRow w1.heap.size c1):=Below.trans A2 (t1.below.mono s0)
  have m3:=(t1.block (w1.heap.size+1) (by omega)).trans m2
  have t2:=Ev.set1 m3 F.z2
  have B2:=Below.trans B1 (t2.below.mono (Nat.le_succ_of_le s0))
  refine store_step s1 b1 hb1 gb1 db1 T dp x1 ob1 F.r2 w1.heap.size c1 Z ?_ ?_ m1 F.i1 F.z1 F.o1 B1 ?_
  ·rw [dget_put _ _ _ _ (by rw [dsize_put];exact F.hdq),if_neg n5,dget_put _ _ _ _ F.hdp,if_pos rfl]
  ·rw [dget_put _ _ _ _ (by rw [dsize_put];exact F.hdq),if_neg n2,dget_put _ _ _ _ F.hdp,if_neg n1];exact F.v1
  refine store_step s2 b2 hb2 gb2 db2 T dq x2 ob2 F.r3 (w1.heap.size+1) c2 Z ?_ ?_ m3 F.i2 F.z2 F.o2 B2 ?_
  ·rw [dget_put _ _ _ _ (by rw [dsize_put];exact F.hdq),if_pos rfl]
  ·rw [dget_put _ _ _ _ (by rw [dsize_put];exact F.hdq),if_neg n4,dget_put _ _ _ _ F.hdp,if_neg n3];exact F.v2
  exact wpAnyH_done F.r4 (h _ _ _ (two_a S0 F.z1 F.z2)) _
 ·refine held_op q oq _ _ _ hq gq (rq _ _) rfl A1 ?_
  refine held_one p F.rq (held_op p op _ _ _ hp gp (rp _ _) rfl A2 ?_)
  rw [dpe,dqe,e2]
  have t1:=Ev.set1 m2 F.z1
  have B1:Std w (((w1.alloc (.cells Z T)).alloc (.cells Z T)).setRow (w1.heap.size+1) c1):=Below.trans A2 (t1.below.mono (Nat.le_succ_of_le s0))
  have m3:=(t1.block w1.heap.size (by omega)).trans m1
  have t2:=Ev.set1 m3 F.z2
  have B2:=Below.trans B1 (t2.below.mono s0)
  refine store_step s1 b1 hb1 gb1 db1 T dp x1 ob1 F.r2' (w1.heap.size+1) c1 Z ?_ ?_ m2 F.i1 F.z1 F.o1 B1 ?_
  ·rw [dget_put _ _ _ _ (by rw [dsize_put];exact F.hdp),if_pos rfl]
  ·rw [dget_put _ _ _ _ (by rw [dsize_put];exact F.hdp),if_neg n1,dget_put _ _ _ _ F.hdq,if_neg n2];exact F.v1
  refine store_step s2 b2 hb2 gb2 db2 T dq x2 ob2 F.r3' w1.heap.size c2 Z ?_ ?_ m3 F.i2 F.z2 F.o2 B2 ?_
  ·rw [dget_put _ _ _ _ (by rw [dsize_put];exact F.hdp),if_neg (Ne.symm n5),dget_put _ _ _ _ F.hdq,if_pos rfl]
  ·rw [dget_put _ _ _ _ (by rw [dsize_put];exact F.hdp),if_neg n3,dget_put _ _ _ _ F.hdq,if_neg n4];exact F.v2
  refine wpAnyH_done F.r4' ?_ _
  have hc:∀ u v:Value,(a.put (some dq) u).put (some dp) v=(a.put (some dp) v).put (some dq) u:=fun u v=>by
   simp only [Act.put]
   congr 1
   exact Array.setIfInBounds_comm _ _ (Ne.symm n5)
  rw [hc]
  exact h _ _ _ (two_b S0 F.z1 F.z2)
end Og
end Go.Proofs.YtnjnpbabgefaeaaGreat
end
