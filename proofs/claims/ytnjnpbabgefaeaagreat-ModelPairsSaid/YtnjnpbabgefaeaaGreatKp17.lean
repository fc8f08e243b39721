import Derived.Test.YtnjnpbabgefaeaaGreatKp15
import Derived.Test.YtnjnpbabgefaeaaGreatKp16
import Derived.Test.YtnjnpbabgefaeaaGreatKpH
set_option linter.unusedVariables false
set_option linter.unusedSimpArgs false
section
namespace Go.Proofs.YtnjnpbabgefaeaaGreat
open Go.RowKit
namespace Ev
structure Addrs (xs:List R) (l:List Int):Prop where
 up:l.Pairwise (· < ·)
 mem:∀ y,y ∈ l↔∃ e ∈ xs,e.k≠4∧e.a=y
def rAt (xs:List R) (l:List Int) (i:Nat):Bool :=
 bare (nth xs i)&&(nth xs i).a % 4==0&&depsOk xs i&&((nth xs i).k==5)==decide (i < l.length)&&(!((nth xs i).k==5)||(nth xs i).a==l.getD i 0)&&((nth xs i).k==5||(decide (0≤(nth xs i).h)&&decide ((nth xs i).h≤3)&&(!(decide (l.length < i))||!(decide ((nth xs i).h < (nth xs ((i:Int) - 1)).h)))))
theorem ext1:∀ (b0 b1 b2 b3 b4 b5 b6 b7 b8 b9 b10:Bool),(bits .andNot .i64 ((([(1,b0),(2,b1),(4,b2),(8,b3),(16,b4),(32,b5),(64,b6),(128,b7),(256,b8),(512,b9),(1024,b10)]:List (Nat × Bool)).foldl (fun m y=>m ||| bit y.2 y.1) 0:Nat):Int) 1437 != 0)=(b1||b5||b6||b9):=by decide +kernel
theorem ext2:∀ (b0 b1 b2 b3 b4 b5 b6 b7 b8 b9 b10:Bool),(bits .andNot .i64 ((([(1,b0),(2,b1),(4,b2),(8,b3),(16,b4),(32,b5),(64,b6),(128,b7),(256,b8),(512,b9),(1024,b10)]:List (Nat × Bool)).foldl (fun m y=>m ||| bit y.2 y.1) 0:Nat):Int) 1947 != 0)=(b2||b5||b6):=by decide +kernel
theorem ext3:∀ (b0 b1 b2 b3 b4 b5 b6 b7 b8 b9 b10:Bool),(bits .andNot .i64 ((([(1,b0),(2,b1),(4,b2),(8,b3),(16,b4),(32,b5),(64,b6),(128,b7),(256,b8),(512,b9),(1024,b10)]:List (Nat × Bool)).foldl (fun m y=>m ||| bit y.2 y.1) 0:Nat):Int) 1823 != 0)=(b5||b6||b7):=by decide +kernel
theorem ext4:∀ (b0 b1 b2 b3 b4 b5 b6 b7 b8 b9 b10:Bool),(bits .andNot .i64 ((([(1,b0),(2,b1),(4,b2),(8,b3),(16,b4),(32,b5),(64,b6),(128,b7),(256,b8),(512,b9),(1024,b10)]:List (Nat × Bool)).foldl (fun m y=>m ||| bit y.2 y.1) 0:Nat):Int) 1120 != 0)=(b0||b1||b2||b3||b4||b7||b8||b9):=by decide +kernel
theorem ext5:∀ (b0 b1 b2 b3 b4 b5 b6 b7 b8 b9 b10:Bool),(bits .andNot .i64 ((([(1,b0),(2,b1),(4,b2),(8,b3),(16,b4),(32,b5),(64,b6),(128,b7),(256,b8),(512,b9),(1024,b10)]:List (Nat × Bool)).foldl (fun m y=>m ||| bit y.2 y.1) 0:Nat):Int) 3 != 0)=(b2||b3||b4||b5||b6||b7||b8||b9||b10):=by decide +kernel
theorem len_bne (l:List Int):((l.length:Int) != 0)=!l.isEmpty:=by cases l <;> simp <;> omega
theorem extra1 {x:R} (h:x.k=1):extra x=((x.v != 0)||(x.p != 0)||(x.s != 0)||!x.d2.l.isEmpty):=by
 unfold extra filled fl;rw [h];rw [show parts 1=1437 from rfl,ext1,len_bne]
theorem extra2 {x:R} (h:x.k=2):extra x=((x.r != 0)||(x.p != 0)||(x.s != 0)):=by
 unfold extra filled fl;rw [h];rw [show parts 2=1947 from rfl,ext2]
theorem extra3 {x:R} (h:x.k=3):extra x=((x.p != 0)||(x.s != 0)||x.z):=by
 unfold extra filled fl;rw [h];rw [show parts 3=1823 from rfl,ext3]
theorem extra4 {x:R} (h:x.k=4):extra x=((x.a != 0)||(x.v != 0)||(x.r != 0)||x.q||x.l||x.z||!x.d1.l.isEmpty||!x.d2.l.isEmpty):=by
 unfold extra filled fl;rw [h];rw [show parts 4=1120 from rfl,ext4,len_bne,len_bne]
theorem extra5 {x:R} (h:x.k=5):extra x=((x.r != 0)||x.q||x.l||(x.p != 0)||(x.s != 0)||x.z||!x.d1.l.isEmpty||!x.d2.l.isEmpty||!x.d3.l.isEmpty):=by
 unfold extra filled fl;rw [h];rw [show parts 5=3 from rfl,ext5,len_bne,len_bne,len_bne]
theorem parts_no {k:Int} (h1:k≠1) (h2:k≠2) (h3:k≠3) (h4:k≠4) (h5:k≠5):parts k=0:=by unfold parts;rw [if_neg h1,if_neg h2,if_neg h3,if_neg h4,if_neg h5]
theorem parts_bare (x:R):partsOk x=(bare x&&(x.k==5||inB x.h 4)&&x.a % 4==0):=by
 by_cases h1:x.k=1
 ·unfold partsOk bare bareK hartOk;rw [extra1 h1];simp only [h1,bne,stores,loads]
  generalize (x.v==0)=bv;generalize (x.r==0)=br;generalize (x.a==0)=ba;generalize (x.p==0)=bp;generalize (x.s==0)=bs
  generalize x.d1.l.isEmpty=e1;generalize x.d2.l.isEmpty=e2;generalize x.d3.l.isEmpty=e3;generalize (x.a % 4==0)=bm;generalize (x.h==-1)=bh
  generalize inB x.h 4=ih;generalize inB x.p 4=ip;generalize inB x.s 4=js;generalize x.q=xq;generalize x.l=xl;generalize x.z=xz
  clear h1
  revert bv br ba bp bs e1 e2 e3 bm bh ih ip js xq xl xz
  decide +kernel
 by_cases h2:x.k=2
 ·unfold partsOk bare bareK hartOk;rw [extra2 h2];simp only [h2,bne,stores,loads]
  generalize (x.v==0)=bv;generalize (x.r==0)=br;generalize (x.a==0)=ba;generalize (x.p==0)=bp;generalize (x.s==0)=bs
  generalize x.d1.l.isEmpty=e1;generalize x.d2.l.isEmpty=e2;generalize x.d3.l.isEmpty=e3;generalize (x.a % 4==0)=bm;generalize (x.h==-1)=bh
  generalize inB x.h 4=ih;generalize inB x.p 4=ip;generalize inB x.s 4=js;generalize x.q=xq;generalize x.l=xl;generalize x.z=xz
  clear h1 h2
  revert bv br ba bp bs e1 e2 e3 bm bh ih ip js xq xl xz
  decide +kernel
 by_cases h3:x.k=3
 ·unfold partsOk bare bareK hartOk;rw [extra3 h3];simp only [h3,bne,stores,loads]
  generalize (x.v==0)=bv;generalize (x.r==0)=br;generalize (x.a==0)=ba;generalize (x.p==0)=bp;generalize (x.s==0)=bs
  generalize x.d1.l.isEmpty=e1;generalize x.d2.l.isEmpty=e2;generalize x.d3.l.isEmpty=e3;generalize (x.a % 4==0)=bm;generalize (x.h==-1)=bh
  generalize inB x.h 4=ih;generalize inB x.p 4=ip;generalize inB x.s 4=js;generalize x.q=xq;generalize x.l=xl;generalize x.z=xz
  clear h1 h2 h3
  revert bv br ba bp bs e1 e2 e3 bm bh ih ip js xq xl xz
  decide +kernel
 by_cases h4:x.k=4
 ·unfold partsOk bare bareK hartOk;rw [extra4 h4];simp only [h4,bne,stores,loads]
  generalize (x.v==0)=bv;generalize (x.r==0)=br;generalize (x.a==0)=ba;generalize (x.p==0)=bp;generalize (x.s==0)=bs
  generalize x.d1.l.isEmpty=e1;generalize x.d2.l.isEmpty=e2;generalize x.d3.l.isEmpty=e3;generalize (x.a % 4==0)=bm;generalize (x.h==-1)=bh
  generalize inB x.h 4=ih;generalize inB x.p 4=ip;generalize inB x.s 4=js;generalize x.q=xq;generalize x.l=xl;generalize x.z=xz
  clear h1 h2 h3 h4
  revert bv br ba bp bs e1 e2 e3 bm bh ih ip js xq xl xz
  decide +kernel
 by_cases h5:x.k=5
 ·unfold partsOk bare bareK hartOk;rw [extra5 h5];simp only [h5,bne,stores,loads]
  generalize (x.v==0)=bv;generalize (x.r==0)=br;generalize (x.a==0)=ba;generalize (x.p==0)=bp;generalize (x.s==0)=bs
  generalize x.d1.l.isEmpty=e1;generalize x.d2.l.isEmpty=e2;generalize x.d3.l.isEmpty=e3;generalize (x.a % 4==0)=bm;generalize (x.h==-1)=bh
  generalize inB x.h 4=ih;generalize inB x.p 4=ip;generalize inB x.s 4=js;generalize x.q=xq;generalize x.l=xl;generalize x.z=xz
  clear h1 h2 h3 h4 h5
  revert bv br ba bp bs e1 e2 e3 bm bh ih ip js xq xl xz
  decide +kernel
 have hb:bare x=false:=by
  unfold bare
  have:¬ (1≤x.k∧x.k≤5):=by omega
  by_cases h:1≤x.k
  ·rw [show decide (x.k≤5)=false from decide_eq_false (by omega)];simp
  ·rw [show decide (1≤x.k)=false from decide_eq_false h];simp
 rw [hb]
 unfold partsOk;rw [parts_no h1 h2 h3 h4 h5];simp
end Ev
end Go.Proofs.YtnjnpbabgefaeaaGreat
end
section
namespace Go.Proofs.YtnjnpbabgefaeaaGreat
open Go.RowKit
namespace Ev
def bnd (b:Bool):Int:=if b then 1 else 0
def frAt (x:X) (b:Nat):Int:=x.fr.l.getD b 0
def bondRf (x:X) (a b:Nat):Int:=if stores (nth x.ev a).k=false then 2 else bnd (frAt x b==(a:Int))
def bondPo (x:X) (a b:Nat):Int:=if (nth x.ev a).k=5∨(nth x.ev a).h < (nth x.ev b).h then 2 else bnd (decide ((a:Int) < (b:Int)))
structure Bx (w:World) (q:Nat) (x:X):Prop where
 row:w.heap[q]?=some (.cells (xcells x).toArray 26 (0,0))
 xin:XIn w x
theorem Bx.kp {w w':World} {q:Nat} {x:X} (h:Bx w q x) (hb:Below w.heap.size w w'):Bx w' q x :=
 ⟨(hb.block q (qL h.row)).trans h.row,h.xin.kp (kp_below hb)⟩
theorem Bx.c0 {w:World} {q:Nat} {x:X} (h:Bx w q x):w.cell? ⟨q,0,none⟩=some (.slice x.ae x.ev.length x.ce):=by rw [qC h.row];rfl
theorem Bx.c1 {w:World} {q:Nat} {x:X} (h:Bx w q x):w.cell? ⟨q,1,none⟩=some (.slice x.fr.a x.fr.l.length x.fr.c):=by rw [qC h.row];rfl
theorem Bx.c2 {w:World} {q:Nat} {x:X} (h:Bx w q x):w.cell? ⟨q,2,none⟩=some (.slice x.ao x.od.length x.co):=by rw [qC h.row];rfl
theorem bx_new {w:World} {x:X} (h:XIn w x):Bx (w.alloc (.cells (xcells x).toArray 26)) w.heap.size x :=
 ⟨heap_alloc_new _ _,h.kp (kp_below ((Below.refl _ _).alloc (Nat.le_refl _) _))⟩
def CPost (R:Bool→Prop) (w:World) (e:Ending) (w':World):Prop:=∃ b,e=.returned (.bool b)∧R b∧Below w.heap.size w w'
theorem CPost.mk {R:Bool→Prop} {w:World} {e:Ending} {w':World} (b:Bool) (h1:e=.returned (.bool b)) (h2:R b) (h3:Below w.heap.size w w'):CPost R w e w':=⟨b,h1,h2,h3⟩
theorem enters_of (F:FuncId) (h:∀ args w,(callFunc F args).run Tryz.prog w=.ok (.enter F args) w):Enters F:=h
end Ev
theorem bond_is (b:Bool) (w:World):Calls Tryz.prog 109 #[.bool b] w fun e w'=>e=.returned (.int .i64 (Ev.bnd b))∧w=w':=bond_any b w
theorem run_load_slice {P:Program} {w:World} {ty e:TypeId} {p:Addr} {v:Value} (hu:P.underlying ty=some (.slice e)) (hc:w.cell? p=some v):(loadVar ty p).run P w=.ok v w:=by
 unfold loadVar isAgg
 simp only [Sem.run_bind,run_underlying hu w,Sem.run_pure,Result.andThen_ok]
 go_simp
 first | done | rw [hc]
theorem check_from {x:Ev.X} (h:Ev.check x=0):x.fr.l.length=x.ev.length:=by
 unfold Ev.check at h
 split at h
 ·cases h
 split at h
 ·cases h
 split at h
 ·cases h
 ·rename_i h1 h2
  simp at h2
  unfold Ev.fromOk at h2
  simp at h2
  exact h2.1
end Go.Proofs.YtnjnpbabgefaeaaGreat
end
section
namespace Go.Proofs.YtnjnpbabgefaeaaGreat
open Go.RowKit
namespace Ev
theorem nodup_le {α:Type} [DecidableEq α]:∀ {a b:List α},a.Nodup→(∀ x ∈ a,x ∈ b)→a.length≤b.length
 | [],b,_,_=>Nat.zero_le _
 | x :: r,b,h,hs=>by
   have hn:=List.nodup_cons.1 h
   have hx:x ∈ b:=hs x List.mem_cons_self
   have h1:r.length≤(b.erase x).length:=nodup_le hn.2 fun y hy=>by
    have hyx:y≠x:=fun e=>hn.1 (e ▸ hy)
    exact(List.mem_erase_of_ne hyx).2 (hs y (List.mem_cons_of_mem _ hy))
   have h2:=List.length_erase_of_mem hx
   have h3:=List.length_pos_of_mem hx
   simp only [List.length_cons];omega
theorem back_of_len {α:Type} [DecidableEq α] {a b:List α} (ha:a.Nodup) (hl:b.length≤a.length) (hs:∀ x ∈ a,x ∈ b):∀ y ∈ b,y ∈ a:=fun y hy=>by
 apply Classical.byContradiction
 intro hn
 have:=nodup_le (a:=a) (b:=b.erase y) ha (fun x hx=>(List.mem_erase_of_ne (by rintro rfl;exact hn hx)).2 (hs x hx))
 have h2:=List.length_erase_of_mem hy
 have h3:=List.length_pos_of_mem hy
 omega
theorem up_nodup {l:List Int} (h:l.Pairwise (· < ·)):l.Nodup:=h.imp (fun {a b} hab=>by omega)
theorem up_ext:∀ {a b:List Int},a.Pairwise (· < ·)→b.Pairwise (· < ·)→(∀ y,y ∈ a↔y ∈ b)→a=b
 | [],[],_,_,_=>rfl
 | [],y :: s,_,_,h=>absurd ((h y).2 List.mem_cons_self) (by simp)
 | x :: r,[],_,_,h=>absurd ((h x).1 List.mem_cons_self) (by simp)
 | x :: r,y :: s,ha,hb,h=>by
   have ha':=List.pairwise_cons.1 ha
   have hb':=List.pairwise_cons.1 hb
   have hxy:x=y:=by
    have h1:=(h x).1 List.mem_cons_self
    have h2:=(h y).2 List.mem_cons_self
    rcases List.mem_cons.1 h1 with e | h1
    ·exact e
    rcases List.mem_cons.1 h2 with e | h2
    ·exact e.symm
    have:=ha'.1 y h2;have:=hb'.1 x h1;omega
   subst hxy
   congr 1
   refine up_ext ha'.2 hb'.2 fun z=>?_
   have hz:=h z
   simp only [List.mem_cons] at hz
   constructor
   ·intro hr
    rcases hz.1 (.inr hr) with e | e
    ·have:=ha'.1 z hr;omega
    ·exact e
   ·intro hs
    rcases hz.2 (.inr hs) with e | e
    ·have:=hb'.1 z hs;omega
    ·exact e
theorem mem_nth {xs:List R} {e:R}:e ∈ xs↔∃ i:Nat,i < xs.length∧nth xs i=e:=by
 constructor
 ·intro h
  obtain⟨i,hi⟩:=List.mem_iff_getElem?.1 h
  exact⟨i,(List.getElem?_eq_some_iff.1 hi).1,nth_some hi⟩
 ·rintro⟨i,hi,rfl⟩
  rw [nth_get hi];exact List.getElem_mem hi
theorem Addrs.le {xs:List R} {l:List Int} (h:Addrs xs l):l.length≤xs.length:=by
 have:=nodup_le (a:=l) (b:=xs.map R.a) (up_nodup h.up) fun y hy=>by
  obtain⟨e,he,_,ha⟩:=(h.mem y).1 hy
  exact List.mem_map.2 ⟨e,he,ha⟩
 simpa using this
theorem getD_get {l:List Int} {i:Nat} (h:i < l.length):l.getD i 0=l[i]:=by simp [h]
theorem up_lt {l:List Int} (h:l.Pairwise (· < ·)) {i j:Nat} (hij:i < j) (hj:j < l.length):l.getD i 0 < l.getD j 0:=by
 rw [getD_get (by omega),getD_get hj]
 exact List.pairwise_iff_getElem.1 h i j (by omega) hj hij
theorem bare_kind {x:R} (h:bare x=true):1≤x.k∧x.k≤5:=by
 unfold bare at h
 simp only [Bool.and_eq_true,decide_eq_true_eq] at h
 exact h.1.1.1
theorem bare_five {x:R} (h:bare x=true) (h5:x.k=5):x.h=-1:=by
 unfold bare bareK at h
 simp [h5] at h
 exact h.2.2.2
theorem evs_of_r {xs:List R} {l:List Int} (ha:Addrs xs l) (h:∀ i,i < xs.length→rAt xs l i=true):evsOk xs=true:=by
 have hle:=ha.le
 have get:∀ i,i < xs.length→bare (nth xs i)=true∧(nth xs i).a % 4=0∧depsOk xs i=true∧(((nth xs i).k=5)↔i < l.length)∧((nth xs i).k=5→(nth xs i).a=l.getD i 0)∧((nth xs i).k≠5→0≤(nth xs i).h∧(nth xs i).h≤3∧(l.length < i→(nth xs ((i:Int) - 1)).h≤(nth xs i).h)):=fun i hi=>by
  have hr:=h i hi
  unfold rAt at hr
  simp only [Bool.and_eq_true,Bool.or_eq_true,beq_iff_eq,Bool.not_eq_true',beq_eq_false_iff_ne,decide_eq_true_eq,decide_eq_false_iff_not] at hr
  obtain⟨⟨⟨⟨⟨r1,r2⟩,r3⟩,r4⟩,r5⟩,r6⟩:=hr
  refine⟨r1,r2,r3,?_,?_,?_⟩
  ·constructor
   ·intro e;rw [show ((nth xs i).k==5)=true by simpa using e] at r4;simpa using r4.symm
   ·intro e;rw [show decide (i < l.length)=true by simpa using e] at r4;simpa using r4
  ·intro e;exact r5.resolve_left (fun n=>n e)
  ·intro e
   obtain⟨⟨a,b⟩,c⟩:=r6.resolve_left e
   refine⟨a,b,fun hl=>?_⟩
   have:=c.resolve_left (fun n=>n hl)
   omega
 unfold evsOk
 rw [Bool.and_eq_true,List.all_eq_true]
 refine⟨fun i hi=>?_,begun_true fun i hi=>?_⟩
 ·have hi:=List.mem_range.1 hi
  obtain⟨b1,b2,b3,b4,b5,b6⟩:=get i hi
  unfold evAt
  rw [Bool.and_eq_true,Bool.and_eq_true,Bool.or_eq_true]
  refine⟨⟨?_,b3⟩,?_⟩
  ·rw [parts_bare,b1,Bool.true_and,Bool.and_eq_true]
   refine⟨?_,by simpa using b2⟩
   by_cases h5:(nth xs i).k=5
   ·simp [h5]
   ·have:=b6 h5
    have:inB (nth xs i).h 4=true:=by unfold inB;simp;omega
    rw [this];simp
  ·by_cases h0:i=0
   ·subst h0;exact .inl rfl
   ·right
    obtain⟨p,rfl⟩:∃ p,i=p+1:=⟨i - 1,by omega⟩
    have e:((p+1:Nat):Int) - 1=(p:Int):=by omega
    rw [e] at b6 ⊢
    obtain⟨c1,c2,c3,c4,c5,c6⟩:=get p (by omega)
    unfold follow
    by_cases h5:(nth xs (p+1:Nat)).k=5
    ·have hl:=b4.1 h5
     have hp5:=c4.2 (by omega)
     rw [if_pos ⟨h5,hp5⟩,b5 h5,c5 hp5]
     exact decide_eq_true (up_lt ha.up (Nat.lt_succ_self p) hl)
    ·rw [if_neg (fun e=>h5 e.1)]
     apply decide_eq_true
     have hh:=b6 h5
     by_cases hp5:(nth xs p).k=5
     ·rw [bare_five c1 hp5];omega
     ·have:¬ p < l.length:=fun hlt=>hp5 (c4.2 hlt)
      exact hh.2.2 (by omega)
 ·obtain⟨b1,b2,b3,b4,b5,b6⟩:=get i hi
  unfold begunAt
  cases hk:acc (nth xs i).k
  ·rfl
  ·have hk':(nth xs i).k=1∨(nth xs i).k=2∨(nth xs i).k=3:=by
    unfold acc at hk;simp at hk;omega
   have hm:=(ha.mem (nth xs i).a).2 ⟨_,mem_nth.2 ⟨i,hi,rfl⟩,by omega,rfl⟩
   obtain⟨j,hj⟩:=List.mem_iff_getElem?.1 hm
   have hjl:=(List.getElem?_eq_some_iff.1 hj).1
   have hij:j < i:=by
    have:¬ i < l.length:=fun hlt=>by have:=b4.2 hlt;omega
    omega
   obtain⟨c1,c2,c3,c4,c5,c6⟩:=get j (by omega)
   have hj5:=c4.2 hjl
   have hja:=c5 hj5
   rw [Bool.not_true,Bool.false_or,List.any_eq_true]
   refine⟨nth xs j,?_,?_⟩
   ·rw [nth_get (by omega)]
    exact List.mem_take_iff_getElem.2 ⟨j,by omega,rfl⟩
   ·unfold isBeg
    rw [hja,List.getD_eq_getElem?_getD,hj];simp [hj5]
theorem mem_take_lt {xs:List R} {n:Nat} {e:R} (h:e ∈ xs.take n):∃ i:Nat,i < n∧i < xs.length∧nth xs i=e:=by
 obtain⟨i,hi,he⟩:=List.mem_take_iff_getElem.1 h
 exact⟨i,by omega,by omega,by rw [nth_get (by omega)];exact he⟩
theorem r_of_evs {xs:List R} {l:List Int} (ha:Addrs xs l) (h:evsOk xs=true):(∀ i,i < xs.length→rAt xs l i=true)∧l.length=beg xs∧∀ i,i < l.length→(nth xs i).k=5∧(nth xs i).a=l.getD i 0:=by
 have hev:=evs_all h
 have hbg:∀ i,i < xs.length→begunAt xs i=true:=by
  unfold evsOk begun at h
  rw [Bool.and_eq_true,List.all_eq_true (p:=begunAt xs)] at h
  exact fun i hi=>h.2 i (List.mem_range.2 hi)
 have hpre:=beg_pre hev
 have hB:=beg_le xs
 have hat:∀ i,i < xs.length→partsOk (nth xs i)=true∧depsOk xs i=true∧(i=0∨follow (nth xs ((i:Int) - 1)) (nth xs i)=true):=fun i hi=>by
  have:=hev i hi
  unfold evAt at this
  simp only [Bool.and_eq_true,Bool.or_eq_true,beq_iff_eq] at this
  exact⟨this.1.1,this.1.2,this.2⟩
 have hbare:∀ i,i < xs.length→bare (nth xs i)=true∧((nth xs i).k=5∨inB (nth xs i).h 4=true)∧(nth xs i).a % 4=0:=fun i hi=>by
  have:=(hat i hi).1
  rw [parts_bare] at this
  simpa [and_assoc] using this
 have h5:∀ i,i < beg xs→(nth xs i).k=5:=fun i hi=>by
  obtain⟨x,hx,hk⟩:=hpre i hi
  rw [nth_some hx];exact hk
 have hn5:∀ i,i < xs.length→beg xs≤i→(nth xs i).k≠5:=fun i hi hb e=>by
  have hall:=five_back hev i hi e
  have h1:beg (xs.take (i+1))=i+1:=by
   unfold beg
   rw [List.filter_eq_self.2,List.length_take]
   ·omega
   ·intro y hy
    obtain⟨j,hj,hjl,rfl⟩:=mem_take_lt hy
    simpa using hall j (by omega)
  have h2:beg (xs.take (i+1))≤beg xs:=by
   unfold beg
   exact(List.Sublist.filter _ (List.take_sublist _ _)).length_le
  omega
 have hup:((xs.take (beg xs)).map R.a).Pairwise (· < ·):=by
  have step:∀ i,i+1 < beg xs→(nth xs i).a < (nth xs (i+1:Nat)).a:=fun i hi=>by
   have hf:=(hat (i+1) (by omega)).2.2.resolve_left (by omega)
   rw [show ((i+1:Nat):Int) - 1=(i:Int) by omega] at hf
   unfold follow at hf
   rw [if_pos ⟨h5 _ hi,h5 _ (by omega)⟩] at hf
   exact of_decide_eq_true hf
  have far:∀ d i,i+d+1 < beg xs→(nth xs i).a < (nth xs (i+d+1:Nat)).a:=by
   intro d
   induction d with
   | zero=>exact fun i hi=>step i hi
   | succ d ih=>exact fun i hi=>Int.lt_trans (ih i (by omega)) (step (i+d+1) hi)
  rw [List.pairwise_iff_getElem]
  intro i j hi hj hij
  simp only [List.length_map,List.length_take] at hi hj
  simp only [List.getElem_map,List.getElem_take]
  have:=far (j - i - 1) i (by omega)
  rw [show i+(j - i - 1)+1=j by omega,nth_get (by omega),nth_get (by omega)] at this
  exact this
 have hl:l=(xs.take (beg xs)).map R.a:=up_ext ha.up hup fun y=>by
  rw [ha.mem y,List.mem_map]
  constructor
  ·rintro⟨e,he,hk4,rfl⟩
   obtain⟨i,hi,rfl⟩:=mem_nth.1 he
   by_cases hb:i < beg xs
   ·exact⟨nth xs i,by rw [nth_get hi];exact List.mem_take_iff_getElem.2 ⟨i,by omega,rfl⟩,rfl⟩
   ·have hk5:=hn5 i hi (by omega)
    have hkk:=bare_kind (hbare i hi).1
    have hg:=hbg i hi
    unfold begunAt at hg
    rw [show acc (nth xs i).k=true by unfold acc;simp;omega,Bool.not_true,Bool.false_or,List.any_eq_true] at hg
    obtain⟨e,he,hq⟩:=hg
    obtain⟨j,hj,hjl,rfl⟩:=mem_take_lt he
    unfold isBeg at hq
    simp only [Bool.and_eq_true,beq_iff_eq] at hq
    have hjb:j < beg xs:=by
     apply Classical.byContradiction
     intro hn
     exact hn5 j hjl (by omega) hq.1
    exact⟨nth xs j,by rw [nth_get hjl];exact List.mem_take_iff_getElem.2 ⟨j,by omega,rfl⟩,hq.2⟩
  ·rintro⟨e,he,rfl⟩
   obtain⟨i,hi,hil,rfl⟩:=mem_take_lt he
   exact⟨_,mem_nth.2 ⟨i,hil,rfl⟩,by rw [h5 i hi];decide,rfl⟩
 have hlen:l.length=beg xs:=by rw [hl];simp;omega
 have hla:∀ i,i < l.length→(nth xs i).k=5∧(nth xs i).a=l.getD i 0:=fun i hi=>by
  refine⟨h5 i (by omega),?_⟩
  rw [getD_get hi]
  simp only [hl,List.getElem_map,List.getElem_take]
  rw [nth_get (by omega)]
 refine⟨fun i hi=>?_,hlen,hla⟩
 obtain⟨b1,b2,b3⟩:=hbare i hi
 unfold rAt
 rw [b1,(hat i hi).2.1]
 by_cases hb:i < l.length
 ·have ⟨k5,ka⟩:=hla i hb
  rw [k5,ka,decide_eq_true hb]
  rw [ka,List.getD_eq_getElem?_getD] at b3
  simp [b3]
 ·have k5:=hn5 i hi (by omega)
  have k5':((nth xs i).k==5)=false:=by simpa using k5
  rw [k5',decide_eq_false hb]
  have hi4:=b2.resolve_left k5
  unfold inB at hi4
  simp at hi4
  have hf:l.length < i→¬ (nth xs i).h < (nth xs ((i:Int) - 1)).h:=fun hlt=>by
   have hf:=(hat i hi).2.2.resolve_left (by omega)
   unfold follow at hf
   rw [if_neg (fun e=>k5 e.1)] at hf
   have:=of_decide_eq_true hf
   omega
  have hf':(!(decide (l.length < i))||!(decide ((nth xs i).h < (nth xs ((i:Int) - 1)).h)))=true:=by
   by_cases hlt:l.length < i
   ·rw [decide_eq_false (hf hlt)];simp
   ·rw [decide_eq_false hlt];simp
  rw [hf']
  simp [b3];omega
end Ev
end Go.Proofs.YtnjnpbabgefaeaaGreat
end
