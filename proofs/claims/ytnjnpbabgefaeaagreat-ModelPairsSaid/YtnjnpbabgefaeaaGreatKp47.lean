import Derived.Test.YtnjnpbabgefaeaaGreatKp46
import Derived.Test.YtnjnpbabgefaeaaGreatKpH
set_option maxRecDepth 100000
set_option maxHeartbeats 8000000
set_option linter.unusedVariables false
set_option linter.unusedSimpArgs false
section
namespace Go.Proofs.YtnjnpbabgefaeaaGreat
open Go.RowKit
namespace Md
open Ev
def loadO (x:X) (b:Nat):Option Nat:=if (nth x.ev (b:Int)).k==3 then some b else Or.pairOf x b
def LoadR (x:X) (b:Nat) (w:World) (e:Ending) (w':World):Prop:=Below w.heap.size w w' ∧
 ((loadO x b=none∧e=.returned (.tuple #[.int .i64 0,.bool false]))∨∃ r:Nat,loadO x b=some r∧e=.returned (.tuple #[.int .i64 (r:Int),.bool true]))
theorem LoadR.none {x:X} {b:Nat} {w:World} {e:Ending} {w':World} (hb:Below w.heap.size w w') (h:loadO x b=none) (he:e=.returned (.tuple #[.int .i64 0,.bool false])):LoadR x b w e w':=⟨hb,.inl ⟨h,he⟩⟩
theorem LoadR.some {x:X} {b r:Nat} {w:World} {e:Ending} {w':World} (hb:Below w.heap.size w w') (h:loadO x b=some r) (he:e=.returned (.tuple #[.int .i64 (r:Int),.bool true])):LoadR x b w e w':=⟨hb,.inr ⟨r,h,he⟩⟩
theorem paired_ld {x:X} (hc:check x=0) {b a:Nat} (hb:b < x.ev.length) (h:paired x b=(a:Int)):a < x.ev.length∧loads (nth x.ev (a:Int)).k=true:=by
 obtain⟨_,_,h3⟩:=(paired_iff x a b).1 h
 obtain⟨h4,_,_,h5,h6,_⟩:=(pairGo_iff x.ev (nth x.ev b) a b).1 h3
 refine⟨by omega,?_⟩
 rcases(Ev.ev_ok hc (show a < x.ev.length by omega)).z h5 with k | k
 ·rw [k];rfl
 ·exact absurd k h6
theorem loadO_ld {x:X} (hc:check x=0) {b a:Nat} (hb:b < x.ev.length) (h:loadO x b=some a):a < x.ev.length∧loads (nth x.ev (a:Int)).k=true:=by
 unfold loadO at h
 split at h
 ·rename_i hk
  cases h
  refine⟨hb,?_⟩
  have hk:(nth x.ev (b:Int)).k=3:=by simpa using hk
  rw [hk];rfl
 ·rcases Or.pairOf_eq hc hb with ⟨_,h2⟩ | ⟨c,h1,h2⟩
  ·rw [h2] at h;cases h
  ·rw [h2] at h;cases h;exact paired_ld hc hb h1
def spoil (x:X) (o f s:Nat):Bool:=isCo x (f:Int) (o:Int)&&isCo x (o:Int) (s:Int)&&(nth x.ev (o:Int)).h != (nth x.ev (s:Int)).h
def rowA (x:X) (n:Nat):Bool:=match loadO x n with
 | none=>true
 | some r=>(List.range x.ev.length).all fun m:Nat=>!(spoil x m (frAt x r).toNat n)
def atomA (x:X):Bool:=(List.range x.ev.length).all (rowA x)
theorem atom_eq {x:X} (hc:check x=0):atomA x=atomB x:=by
 have co_iff:∀ {l:List Nat} {f g:Nat→Bool},(∀ a ∈ l,f a=g a)→l.all f=l.all g:=fun {l f g} h=>by
  induction l with
  | nil=>rfl
  | cons a l ih=>simp only [List.all_cons];rw [h a (by simp),ih fun b hb=>h b (by simp [hb])]
 unfold atomA atomB
 refine co_iff fun n hn=>?_
 have hn:=List.mem_range.1 hn
 have inner:∀ r:Nat,((List.range x.ev.length).all fun m:Nat=>!(spoil x m (frAt x (r:Int).toNat).toNat n))=((List.range x.ev.length).all fun m:Nat=>!(!((nth x.ev m).h==(nth x.ev n).h)&&isCo x (frAt x (r:Int).toNat) m&&isCo x m n))∨¬ (r < x.ev.length∧loads (nth x.ev (r:Int)).k=true):=fun r=>by
  by_cases hr:r < x.ev.length∧loads (nth x.ev (r:Int)).k=true
  ·left
   obtain⟨f,hf,_,hf2⟩:=from_in hc hr.1 hr.2
   refine co_iff fun m _=>?_
   rw [Int.toNat_natCast,hf2,Int.toNat_natCast]
   unfold spoil
   congr 1
   cases isCo x (f:Int) (m:Int) <;> cases isCo x (m:Int) (n:Int) <;> cases h:(nth x.ev (m:Int)).h==(nth x.ev (n:Int)).h <;> simp [bne,h]
  ·exact .inr hr
 unfold rowA
 cases hl:loadO x n with
 | none =>
   have h1:(if (nth x.ev n).k=3 then (n:Int) else paired x n) < 0:=by
    unfold loadO at hl
    split at hl
    ·cases hl
    ·rename_i hk
     rw [if_neg (by simpa using hk)]
     rcases Or.pairOf_eq hc hn with ⟨h,_⟩ | ⟨c,_,h⟩
     ·omega
     ·rw [h] at hl;cases hl
   simp [h1]
 | some r =>
   have h1:(if (nth x.ev n).k=3 then (n:Int) else paired x n)=(r:Int):=by
    unfold loadO at hl
    split at hl
    ·rename_i hk
     cases hl
     rw [if_pos (by simpa using hk)]
    ·rename_i hk
     rw [if_neg (by simpa using hk)]
     rcases Or.pairOf_eq hc hn with ⟨_,h⟩ | ⟨c,h2,h⟩
     ·rw [h] at hl;cases hl
     ·rw [h] at hl;cases hl;exact h2
   rcases inner r with h | h
   ·simp only [h1]
    rw [show decide ((r:Int) < 0)=false by simp,Bool.false_or]
    rw [← h,Int.toNat_natCast]
   ·exact absurd (loadO_ld hc hn hl) h
end Md
theorem loadOf_any (x:Ev.X) (q b:Nat) (hb:b < x.ev.length) (hc:Ev.check x=0) (w:World) (hj:Md.JIn w q x) :
 Calls Tryz.prog 79 #[.pointer (some ⟨q,0,none⟩),.int .i64 (b:Int)] w (Md.LoadR x b w):=by
 have hn64:=(Ev.check_order hc).2.2
 obtain⟨e1,he1⟩:∃ e,x.ev[b]?=some e:=⟨_,List.getElem?_eq_getElem hb⟩
 obtain⟨g,o,eg,hc1⟩:=hj.xin.ev.at_ he1
 have hl1:=hj.xin.ev.le;have hl2:=hj.xin.ev.max
 have hn1:=Ev.nth_some he1
 have hbi:(b:Int) < (x.ev.length:Int):=by omega
 have c0:=hj.c0
 rw [eg] at c0
 have ck:=hc1 1 _ rfl
 have HOP:=qH (opaired_any x b ⟨by omega,by omega⟩ w hj.xin)
 have RJ:=qH hj.row
 have HC:=qH hc
 by_cases h3:e1.k=3
 ·have t3:(e1.k==3)=true:=by simpa using h3
  have HL:=qH (show Md.loadO x b=some b by unfold Md.loadO;rw [hn1,t3];rfl)
  clear h3 hj hc he1 eg hc1 hn1
  go_enter Tryz.func79,Tryz.ntmps79
  go_wp2
  go_ret2
  exact Md.LoadR.some (Below.refl _ _) HL.out rfl
 ·have t3:(e1.k==3)=false:=by simpa using h3
  have HL:=qH (show Md.loadO x b=Or.pairOf x b by unfold Md.loadO;rw [hn1,t3];rfl)
  clear h3 hj hc he1 eg hc1 hn1
  go_enter Tryz.func79,Tryz.ntmps79
  go_wp2_with ((with_reducible refine qG 20 ?_);refine wpList_load_row rfl 26 (.tmp 19) rfl q (by kernel_rfl) 83 #[.slice x.ae x.ev.length x.ce,.slice x.fr.a x.fr.l.length x.fr.c,.slice x.ao x.od.length x.co] (0,0) _ RJ.out Tryz.underlying26 rfl (by kernel_rfl) ?_)
  refine HOP.out.mono ?_
  rintro e W ⟨hbw,hr⟩
  have BW:=qH hbw
  rcases hr with ⟨hr,rfl⟩ | ⟨_,_,he⟩
  ·have HF:=qH hr
   exfalso
   rcases HF.out with h | h
   ·exact h HC.out
   ·exact h ⟨by omega,by omega⟩
  ·rw [Int.toNat_natCast] at he
   obtain⟨po,hpo⟩:∃ p,Or.pairOf x b=p:=⟨_,rfl⟩
   rw [hpo] at he
   have HPO:=qH hpo
   clear hpo hbw
   cases po with
   | none =>
     subst he
     go_wp2
     go_ret2
     exact Md.LoadR.none BW.out (HL.out.trans HPO.out) rfl
   | some r =>
     subst he
     go_wp2
     go_ret2
     exact Md.LoadR.some BW.out (HL.out.trans HPO.out) rfl
def Md.CoS (x:Ev.X) (S:List (Nat × Nat)):Prop:=∀ p,p ∈ S↔p ∈ Ev.pl (fun a b:Nat=>Ev.isCo x (a:Int) (b:Int)) x.ev.length x.ev.length
theorem Md.co_mem {x:Ev.X} {S:List (Nat × Nat)} (h:Md.CoS x S) {a b:Nat} (ha:a < x.ev.length) (hb:b < x.ev.length):decide ((a,b) ∈ S)=Ev.isCo x (a:Int) (b:Int):=by
 rw [Bool.eq_iff_iff,decide_eq_true_iff,h (a,b),Ev.pl_mem]
 exact⟨fun k=>k.2.2,fun k=>⟨ha,hb,k⟩⟩
theorem lead_is {b n:Nat} {S:List (Nat × Nat)} {p q:Nat} {v:Bool} (hv:decide ((p,q) ∈ S)=v) (hp:p < 64) (hq:q < 64) (w:World) (hin:Md.PSet w b n S) :
 Calls Tryz.prog 69 #[.map (some b),.int .i64 (p:Int),.int .i64 (q:Int)] w fun e w'=>e=.returned (.bool v)∧Below w.heap.size w w':=hv ▸ lead_any b n S p q hp hq w hin
theorem spoils_any (x:Ev.X) (q b n ab cb:Nat) (S:List (Nat × Nat)) (hS:Md.CoS x S) (o f s:Nat) (ho:o < x.ev.length) (hf:f < x.ev.length) (hs:s < x.ev.length) (hn64:x.ev.length≤64) (w:World)
 (hab:w.cell? ⟨ab,0,none⟩=some (.map (some b))) (hcb:w.cell? ⟨cb,0,none⟩=some (.pointer (some ⟨q,0,none⟩))) (hp:Md.PSet w b n S) (hj:Md.JIn w q x) :
 Calls Tryz.prog 78 #[.int .i64 (o:Int),.int .i64 (f:Int),.int .i64 (s:Int),.pointer (some ⟨ab,0,none⟩),.pointer (some ⟨cb,0,none⟩)] w fun e w'=>e=.returned (.bool (Md.spoil x o f s))∧Below w.heap.size w w':=by
 obtain⟨e1,he1⟩:∃ e,x.ev[o]?=some e:=⟨_,List.getElem?_eq_getElem ho⟩
 obtain⟨e2,he2⟩:∃ e,x.ev[s]?=some e:=⟨_,List.getElem?_eq_getElem hs⟩
 obtain⟨g,of,eg,hc1⟩:=hj.xin.ev.at_ he1
 obtain⟨g',o',eg',hc2⟩:=hj.xin.ev.at_ he2
 rw [eg] at eg'
 obtain⟨rfl,rfl⟩:g=g'∧of=o':=by simpa using eg'
 have hl1:=hj.xin.ev.le;have hl2:=hj.xin.ev.max
 have hn1:=Ev.nth_some he1;have hn2:=Ev.nth_some he2
 have hai:(o:Int) < (x.ev.length:Int):=by omega
 have hbi:(s:Int) < (x.ev.length:Int):=by omega
 have c0:=hj.c0
 rw [eg] at c0
 obtain⟨v1,h1⟩:∃ v,Ev.isCo x (f:Int) (o:Int)=v:=⟨_,rfl⟩
 obtain⟨v2,h2⟩:∃ v,Ev.isCo x (o:Int) (s:Int)=v:=⟨_,rfl⟩
 obtain⟨v3,h3⟩:∃ v,(e1.h != e2.h)=v:=⟨_,rfl⟩
 have HR:=qH (show Md.spoil x o f s=(v1&&v2&&v3) by unfold Md.spoil;rw [hn1,hn2,h1,h2,h3])
 have L1:=qH (fun (z:Og.On w.heap.size w)=>lead_is ((Md.co_mem hS hf ho).trans h1) (by omega) (by omega) z.x (hp.kp z.b))
 have L2:=qH (fun (z:Og.On w.heap.size w)=>lead_is ((Md.co_mem hS ho hs).trans h2) (by omega) (by omega) z.x (hp.kp z.b))
 have q0:∀ z:Og.On w.heap.size w,z.x.cell? ⟨cb,0,none⟩=some (.pointer (some ⟨q,0,none⟩)):=fun z=>Og.cellB z hcb
 have q1:∀ z:Og.On w.heap.size w,z.x.cell? ⟨q,0,none⟩=some (.slice (some ⟨g,of,none⟩) x.ev.length x.ce):=fun z=>Og.cellB z c0
 have q2:∀ z:Og.On w.heap.size w,z.x.cell? ⟨ab,0,none⟩=some (.map (some b)):=fun z=>Og.cellB z hab
 have q4:∀ z:Og.On w.heap.size w,z.x.cell? ⟨g,of+o * 13,none⟩=some (.int .i64 e1.h):=fun z=>Og.cellB z (hc1 0 _ rfl)
 have q5:∀ z:Og.On w.heap.size w,z.x.cell? ⟨g,of+s * 13,none⟩=some (.int .i64 e2.h):=fun z=>Og.cellB z (hc2 0 _ rfl)
 rw [HR.out]
 have h3':=h3
 clear h1 h2 h3 hn1 hn2 he1 he2 hc1 hc2 eg eg' c0 hab hcb hp hj hS HR
 cases v1 <;> cases v2 <;> cases v3
 ·go_enter Tryz.func78,Tryz.ntmps78
  go_wp2
  refine Og.regionB (by kernel_rfl) (by kernel_rfl) ?_
  repeat (first
   | go_big_quiet_skip
   | (go_big_quiet_want
      first
       | (go_big_quiet_op
          first
           | go_big_quiet_on
           | (apply Exists.intro
              refine⟨fun z=>?_,?_⟩
              ·first
                | (with_reducible exact Og.callB (L1.out z))
                | (with_reducible exact Og.callB (L2.out z))
              go_big_quiet_on))))
  refine wpQuiet_nil ?_
  intro _ hw'
  obtain⟨q9,hw''⟩:=hw'
  subst hw''
  go_wp2
  go_ret
  exact⟨rfl,q9.b⟩
 ·go_enter Tryz.func78,Tryz.ntmps78
  go_wp2
  refine Og.regionB (by kernel_rfl) (by kernel_rfl) ?_
  repeat (first
   | go_big_quiet_skip
   | (go_big_quiet_want
      first
       | (go_big_quiet_op
          first
           | go_big_quiet_on
           | (apply Exists.intro
              refine⟨fun z=>?_,?_⟩
              ·first
                | (with_reducible exact Og.callB (L1.out z))
                | (with_reducible exact Og.callB (L2.out z))
              go_big_quiet_on))))
  refine wpQuiet_nil ?_
  intro _ hw'
  obtain⟨q9,hw''⟩:=hw'
  subst hw''
  go_wp2
  go_ret
  exact⟨rfl,q9.b⟩
 ·go_enter Tryz.func78,Tryz.ntmps78
  go_wp2
  refine Og.regionB (by kernel_rfl) (by kernel_rfl) ?_
  repeat (first
   | go_big_quiet_skip
   | (go_big_quiet_want
      first
       | (go_big_quiet_op
          first
           | go_big_quiet_on
           | (apply Exists.intro
              refine⟨fun z=>?_,?_⟩
              ·first
                | (with_reducible exact Og.callB (L1.out z))
                | (with_reducible exact Og.callB (L2.out z))
              go_big_quiet_on))))
  refine wpQuiet_nil ?_
  intro _ hw'
  obtain⟨q9,hw''⟩:=hw'
  subst hw''
  go_wp2
  go_ret
  exact⟨rfl,q9.b⟩
 ·go_enter Tryz.func78,Tryz.ntmps78
  go_wp2
  refine Og.regionB (by kernel_rfl) (by kernel_rfl) ?_
  repeat (first
   | go_big_quiet_skip
   | (go_big_quiet_want
      first
       | (go_big_quiet_op
          first
           | go_big_quiet_on
           | (apply Exists.intro
              refine⟨fun z=>?_,?_⟩
              ·first
                | (with_reducible exact Og.callB (L1.out z))
                | (with_reducible exact Og.callB (L2.out z))
              go_big_quiet_on))))
  refine wpQuiet_nil ?_
  intro _ hw'
  obtain⟨q9,hw''⟩:=hw'
  subst hw''
  go_wp2
  go_ret
  exact⟨rfl,q9.b⟩
 ·go_enter Tryz.func78,Tryz.ntmps78
  go_wp2
  refine Og.regionB (by kernel_rfl) (by kernel_rfl) ?_
  repeat (first
   | go_big_quiet_skip
   | (go_big_quiet_want
      first
       | (go_big_quiet_op
          first
           | go_big_quiet_on
           | (apply Exists.intro
              refine⟨fun z=>?_,?_⟩
              ·first
                | (with_reducible exact Og.callB (L1.out z))
                | (with_reducible exact Og.callB (L2.out z))
              go_big_quiet_on))))
  refine wpQuiet_nil ?_
  intro _ hw'
  obtain⟨q9,hw''⟩:=hw'
  subst hw''
  go_wp2
  go_ret
  exact⟨rfl,q9.b⟩
 ·go_enter Tryz.func78,Tryz.ntmps78
  go_wp2
  refine Og.regionB (by kernel_rfl) (by kernel_rfl) ?_
  repeat (first
   | go_big_quiet_skip
   | (go_big_quiet_want
      first
       | (go_big_quiet_op
          first
           | go_big_quiet_on
           | (apply Exists.intro
              refine⟨fun z=>?_,?_⟩
              ·first
                | (with_reducible exact Og.callB (L1.out z))
                | (with_reducible exact Og.callB (L2.out z))
              go_big_quiet_on))))
  refine wpQuiet_nil ?_
  intro _ hw'
  obtain⟨q9,hw''⟩:=hw'
  subst hw''
  go_wp2
  go_ret
  exact⟨rfl,q9.b⟩
 ·go_enter Tryz.func78,Tryz.ntmps78
  go_wp2
  refine Og.regionB (by kernel_rfl) (by kernel_rfl) ?_
  repeat (first
   | go_big_quiet_skip
   | (go_big_quiet_want
      first
       | (go_big_quiet_op
          first
           | go_big_quiet_on
           | (apply Exists.intro
              refine⟨fun z=>?_,?_⟩
              ·first
                | (with_reducible exact Og.callB (L1.out z))
                | (with_reducible exact Og.callB (L2.out z))
              go_big_quiet_on))))
  refine wpQuiet_nil ?_
  intro _ hw'
  obtain⟨q9,hw''⟩:=hw'
  subst hw''
  go_wp2
  go_ret
  exact⟨rfl,q9.b⟩
 ·go_enter Tryz.func78,Tryz.ntmps78
  go_wp2
  refine Og.regionB (by kernel_rfl) (by kernel_rfl) ?_
  repeat (first
   | go_big_quiet_skip
   | (go_big_quiet_want
      first
       | (go_big_quiet_op
          first
           | go_big_quiet_on
           | (apply Exists.intro
              refine⟨fun z=>?_,?_⟩
              ·first
                | (with_reducible exact Og.callB (L1.out z))
                | (with_reducible exact Og.callB (L2.out z))
              go_big_quiet_on))))
  refine wpQuiet_nil ?_
  intro _ hw'
  obtain⟨q9,hw''⟩:=hw'
  subst hw''
  go_wp2
  go_ret
  exact⟨rfl,q9.b⟩
theorem Md.rels1 {w:World} {s0:Md.PL} (h0:Md.Sm w s0):Md.RelsIn (w.alloc (.cells #[s0.v] 37)) (some ⟨w.heap.size,0,none⟩) 1 [s0]:=by
 have hb:Below w.heap.size w (w.alloc (.cells #[s0.v] 37)):=(Below.refl _ _).alloc (Nat.le_refl _) _
 refine⟨fun _=>⟨w.heap.size,0,rfl,fun j v hv i c hi=>?_⟩,fun r hr=>?_,by simp,by simp,by decide⟩
 ·rw [qC (heap_alloc_new w _)]
  have hj:=(List.getElem?_eq_some_iff.1 hv).1
  simp at hj
  obtain rfl:j=0:=by omega
  have hv:[s0.v]=v:=by simpa using hv
  rw [← hv] at hi
  cases i with
  | zero=>simp at hi;subst hi;rfl
  | succ i=>simp at hi
 ·simp at hr;subst hr
  exact⟨(h0.kp hb).hin,h0.len,h0.lt⟩
theorem Md.rowA_none {x:Ev.X} {n:Nat} (h:Md.loadO x n=none):Md.rowA x n=true:=by unfold Md.rowA;rw [h]
theorem Md.rowA_yes {x:Ev.X} {n r:Nat} (h:Md.loadO x n=some r) (k:∀ m,m < x.ev.length→Md.spoil x m (Ev.frAt x r).toNat n=false):Md.rowA x n=true:=by
 unfold Md.rowA;rw [h];exact List.all_eq_true.2 fun m hm=>by rw [k m (List.mem_range.1 hm)];rfl
theorem Md.atomA_no {x:Ev.X} {n r m:Nat} (hn:n < x.ev.length) (hm:m < x.ev.length) (h:Md.loadO x n=some r) (k:Md.spoil x m (Ev.frAt x r).toNat n=true):Md.atomA x=false:=by
 unfold Md.atomA
 rw [List.all_eq_false]
 refine⟨n,List.mem_range.2 hn,?_⟩
 unfold Md.rowA;rw [h]
 simp only [Bool.not_eq_true]
 rw [List.all_eq_false]
 exact⟨m,List.mem_range.2 hm,by rw [k];simp⟩
theorem Md.atomA_yes {x:Ev.X} (h:∀ n,n < x.ev.length→Md.rowA x n=true):Md.atomA x=true:=by
 unfold Md.atomA;exact List.all_eq_true.2 fun n hn=>h n (List.mem_range.1 hn)
structure Md.AtIn (x:Ev.X) (q b n ab cb:Nat) (S:List (Nat × Nat)) (w:World):Prop where
 cab:w.cell? ⟨ab,0,none⟩=some (.map (some b))
 ccb:w.cell? ⟨cb,0,none⟩=some (.pointer (some ⟨q,0,none⟩))
 set:Md.PSet w b n S
 j:Md.JIn w q x
theorem Md.AtIn.kp {x:Ev.X} {q b n ab cb:Nat} {S:List (Nat × Nat)} {w w':World} (h:Md.AtIn x q b n ab cb S w) (hb:Below w.heap.size w w'):Md.AtIn x q b n ab cb S w' :=
 ⟨Ev.kp_below hb _ _ h.cab,Ev.kp_below hb _ _ h.ccb,h.set.kp hb,h.j.kp hb⟩
theorem isAtomic_any (x:Ev.X) (q:Nat) (hc:Ev.check x=0) (w:World) (hj:Md.JIn w q x) :
 Calls Tryz.prog 50 #[.pointer (some ⟨q,0,none⟩)] w fun e w'=>e=.returned (.bool (Md.atomA x))∧Below w.heap.size w w':=by
 have hn64:=(Ev.check_order hc).2.2
 obtain⟨LC,hLC⟩:∃ l,Ev.pl (fun a b:Nat=>Ev.isCo x (a:Int) (b:Int)) x.ev.length x.ev.length=l:=⟨_,rfl⟩
 have HSL:=qH (show Md.Sml x.ev.length LC by rw [← hLC];exact Md.sml_pl hn64)
 have HP3:=qH (show ∀ W,Ev.XIn W x→Calls Tryz.prog 58 #[Ev.exV x] W fun e w'=>∃ a c,e=.returned (.slice a LC.length c)∧Ev.PairsIn w' a c LC∧Below W.heap.size W w' from fun W h=>by rw [← hLC,← Ev.co_eq hc];exact co_yes x W h hc)
 have HCS:=qH (show Md.CoS x (Md.flat [⟨none,0,LC⟩]) from fun p=>by rw [← hLC];simp [Md.flat])
 have HC:=qH hc
 have hl1:=hj.xin.ev.le;have hl2:=hj.xin.ev.max
 obtain⟨cb,hcb⟩:∃ cb,cb=w.heap.size:=⟨_,rfl⟩
 obtain⟨V,hV⟩:∃ V,V=w.alloc (.cells #[.pointer (some ⟨q,0,none⟩)] 64):=⟨_,rfl⟩
 have hb0:Below w.heap.size w V:=by rw [hV];exact(Below.refl _ _).alloc (Nat.le_refl _) _
 have rb:V.heap[cb]?=some (.cells #[.pointer (some ⟨q,0,none⟩)] 64 (0,0)):=by rw [hV,hcb];exact heap_alloc_new _ _
 have B0:=qH hb0
 have cj:V.cell? ⟨cb,0,none⟩=some (.pointer (some ⟨q,0,none⟩)):=by rw [qC rb];rfl
 have RJ:=qH (hj.kp hb0).row;have HJ:=qH (hj.kp hb0);have HCB0:=qH cj
 have HV:=qH hV;have HCBE:=qH hcb
 clear hc hLC hj hb0 rb hV hcb
 go_enter Tryz.func50,Tryz.ntmps50
 go_wp2_with (first
  | ((with_reducible refine qG 9 ?_);rw [← HV.out,← HCBE.out])
  | ((with_reducible refine qG 12 ?_);refine wpList_load_row rfl 26 (.tmp 11) rfl q (by kernel_rfl) 83 #[.slice x.ae x.ev.length x.ce,.slice x.fr.a x.fr.l.length x.fr.c,.slice x.ao x.od.length x.co] (0,0) _ RJ.out Tryz.underlying26 rfl (by kernel_rfl) ?_))
 refine(HP3.out V HJ.out.xin).mono ?_
 rintro e W1 ⟨a,c,rfl,hp,hbw⟩
 have HREL:=qH (Md.rels1 (s0:=⟨a,c,LC⟩) (HSL.out.sm hn64 hp))
 have BW1:=qH hbw
 clear hp hbw cj
 go_wp2_with fail
 refine(arrowsOf_any (some ⟨W1.heap.size,0,none⟩) 1 [⟨a,c,LC⟩] _ HREL.out).mono ?_
 rintro e W2 ⟨m,b,rfl,_,_,hps,hbw⟩
 have hps:Md.PSet W2 b m (Md.flat [⟨none,0,LC⟩]):=hps
 have HBW2:Below W1.heap.size W1 W2:=((Below.refl _ _).alloc (Nat.le_refl _) _).trans (hbw.mono (by simp))
 have BW2:=qH HBW2
 obtain⟨S,hSe⟩:∃ S,Md.flat [⟨none,0,LC⟩]=S:=⟨_,rfl⟩
 rw [hSe] at hps
 have HCS':=qH (hSe ▸ HCS.out)
 obtain⟨ab,hab⟩:∃ ab,ab=W2.heap.size:=⟨_,rfl⟩
 obtain⟨U,hU⟩:∃ U,U=W2.alloc (.cells #[.map (some b)] 77):=⟨_,rfl⟩
 have hbU:Below W2.heap.size W2 U:=by rw [hU];exact(Below.refl _ _).alloc (Nat.le_refl _) _
 have HAT:=qH (show Md.AtIn x q b m ab cb S U from
  ⟨by rw [hU,hab,qC (heap_alloc_new W2 _)];rfl,Ev.kp_below hbU _ _ (Ev.kp_below HBW2 _ _ (Ev.kp_below BW1.out _ _ HCB0.out)),hps.kp hbU,((HJ.out.kp BW1.out).kp HBW2).kp hbU⟩)
 have BU:=qH (((B0.out.trans (BW1.out.mono B0.out.size)).trans (HBW2.mono (Nat.le_trans B0.out.size BW1.out.size))).trans (hbU.mono (Nat.le_trans (Nat.le_trans B0.out.size BW1.out.size) HBW2.size)))
 have HU:=qH hU;have HAB:=qH hab
 clear hps hbw HBW2 hSe hab hU hbU
 have cb1:=HAT.out.ccb;have c01:=HAT.out.j.c0
 go_wp2_with (first
  | ((with_reducible refine qG 16 ?_);rw [← HU.out,← HAB.out])
  | ((with_reducible refine qG 17 ?_);rw [← HU.out,← HAB.out]))
 clear cb1 c01
 have HLO:=qH (fun (k:Nat) (hk:k < x.ev.length) (W:World) (hW:Md.JIn W q x)=>loadOf_any x q k hk HC.out W hW)
 go_loopw [5,6,7,8,23] (fun _ _ _ _ i wr=>∃ k:Nat,k≤x.ev.length∧i=.int .i64 (k:Int)∧Below U.heap.size U wr∧∀ n,n < k→Md.rowA x n=true) (fun _ _ _ _ i _=>x.ev.length - (intOf i).toNat)
 case atStart=>exact⟨0,Nat.zero_le _,rfl,Below.refl _ _,fun n hn=>absurd hn (by omega)⟩
 case round =>
  obtain⟨k,hk,rfl,hbr,hall⟩:=hrel
  obtain⟨wo,rfl⟩:∃ wo:World,wo=wr:=⟨_,rfl⟩
  have HBR:=qH hbr;have HALL:=qH hall
  have HA:=qH (HAT.out.kp hbr)
  clear hbr hall
  by_cases hlt:k < x.ev.length
  ·have hki:(k:Int) < (x.ev.length:Int):=by omega
   have cbw:=HA.out.ccb
   go_wp2_with fail
   refine(HLO.out k hlt _ HA.out.j).mono ?_
   rintro e W3 ⟨hb3,hr⟩
   have HB3:=qH (HBR.out.trans (hb3.mono HBR.out.size))
   have HA3:=qH (HA.out.kp hb3)
   clear hb3 cbw
   rcases hr with ⟨hn,rfl⟩ | ⟨r,hn,rfl⟩
   ·have HR:=qH (Md.rowA_none hn)
    clear hn
    go_wp2_with fail
    go_roundw
    case rel=>exact⟨k+1,by omega,by go_num,HB3.out,fun n h=>by rcases Nat.lt_or_eq_of_le (Nat.le_of_lt_succ h) with h | h;exact HALL.out n h;subst h;exact HR.out⟩
    case measure=>simp [intOf];omega
   ·have HN:=qH hn
    obtain⟨hrl,hld⟩:=Md.loadO_ld HC.out hlt hn
    obtain⟨f,hf,hf1,hf2⟩:=Ev.from_in HC.out hrl hld
    obtain⟨gf,of,ef,hcf⟩:=HA3.out.j.xin.fr.at_ hf1
    have hfl:=check_from HC.out
    have hfi:(r:Int) < (x.fr.l.length:Int):=by omega
    have hm1:=HA3.out.j.xin.fr.2.1;have hm2:=HA3.out.j.xin.fr.2.2.1
    have HF2:=qH hf2;have HCF:=qH hcf;have HEF:=qH ef
    have cb3:=HA3.out.ccb;have c03:=HA3.out.j.c0
    clear hn hld hf1 hf2 hcf ef hfl
    go_wp2_with fail
    clear cb3 c03
    go_loopw [8,40] (fun _ i wr=>∃ m:Nat,m≤x.ev.length∧i=.int .i64 (m:Int)∧Below W3.heap.size W3 wr∧∀ j,j < m→Md.spoil x j f k=false) (fun _ i _=>x.ev.length - (intOf i).toNat)
    case atStart=>exact⟨0,Nat.zero_le _,rfl,Below.refl _ _,fun n hn=>absurd hn (by omega)⟩
    case round =>
     obtain⟨m,hm,rfl,hbr,hall⟩:=hrel
     have HBR4:=qH hbr;have HALL4:=qH hall
     have HA4:=qH (HA3.out.kp hbr)
     clear hbr hall
     by_cases hml:m < x.ev.length
     ·have hmi:(m:Int) < (x.ev.length:Int):=by omega
      have cb4:=HA4.out.ccb;have c14:=HA4.out.j.c1
      rw [HEF.out] at c14
      have cf4:=Ev.kp_below HBR4.out _ _ HCF.out
      obtain⟨v,hv⟩:∃ v,Md.spoil x m f k=v:=⟨_,rfl⟩
      have HV4:=qH hv
      have HSP:=spoils_any x q b _ ab cb S HCS'.out m f k hml hf hlt hn64 wr HA4.out.cab HA4.out.ccb HA4.out.set HA4.out.j
      rw [hv] at HSP
      have HSP4:=qH HSP
      clear hv HSP
      go_wp2_with fail
      refine HSP4.out.mono ?_
      rintro e W5 ⟨rfl,hb5⟩
      have HB5:=qH (HBR4.out.trans (hb5.mono HBR4.out.size))
      clear hb5 cb4 c14 cf4
      cases v
      ·go_wp2_with fail
       go_roundw
       case rel=>exact⟨m+1,by omega,by go_num,HB5.out,fun n h=>by rcases Nat.lt_or_eq_of_le (Nat.le_of_lt_succ h) with h | h;exact HALL4.out n h;subst h;exact HV4.out⟩
       case measure=>simp [intOf];omega
      ·have HNO:=qH (Md.atomA_no hlt hml HN.out (by rw [HF2.out,Int.toNat_natCast];exact HV4.out))
       go_wp2_with fail
       go_ret
       exact⟨by rw [HNO.out];rfl,BU.out.trans ((HB3.out.trans (HB5.out.mono HB3.out.size)).mono BU.out.size)⟩
     ·have hmi:¬ (m:Int) < (x.ev.length:Int):=by omega
      have HR:=qH (Md.rowA_yes HN.out (fun j hj=>by rw [HF2.out,Int.toNat_natCast];exact HALL4.out j (by omega)))
      clear hml
      go_wp2_with fail
      go_roundw
      case rel=>exact⟨k+1,by omega,by go_num,HB3.out.trans (HBR4.out.mono HB3.out.size),fun n h=>by rcases Nat.lt_or_eq_of_le (Nat.le_of_lt_succ h) with h | h;exact HALL.out n h;subst h;exact HR.out⟩
      case measure=>simp [intOf];omega
  ·have hki:¬ (k:Int) < (x.ev.length:Int):=by omega
   have HYES:=qH (Md.atomA_yes (fun n hn=>HALL.out n (by omega)))
   clear hlt
   go_wp2_with fail
   go_ret
   exact⟨by rw [HYES.out];rfl,BU.out.trans (HBR.out.mono BU.out.size)⟩
end Go.Proofs.YtnjnpbabgefaeaaGreat
end
