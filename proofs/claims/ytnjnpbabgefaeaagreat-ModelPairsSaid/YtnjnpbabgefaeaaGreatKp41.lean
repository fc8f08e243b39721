import Derived.Test.YtnjnpbabgefaeaaGreatKp18
import Derived.Test.YtnjnpbabgefaeaaGreatKp40
import Derived.Test.YtnjnpbabgefaeaaGreatKpH
set_option maxRecDepth 100000
set_option maxHeartbeats 16000000
set_option linter.unusedVariables false
set_option linter.unusedSimpArgs false
section
namespace Go.Proofs.YtnjnpbabgefaeaaGreat
open Go.RowKit Go.Maps Go.WideElems
namespace Md
open Ev
structure PL where
 a:Option Addr
 c:Nat
 l:List (Nat × Nat)
def PL.v (s:PL):Value:=.slice s.a s.l.length s.c
structure RelsIn (w:World) (a:Option Addr) (c:Nat) (rs:List PL):Prop where
 rows:Ev.RowsIn w a 1 (rs.map fun s=>[s.v])
 ok:∀ r ∈ rs,PairsIn w r.a r.c r.l∧r.l.length≤8192∧∀ p ∈ r.l,p.1 < 64∧p.2 < 64
 len:rs.length≤8
 le:rs.length≤c
 max:c≤9223372036854775807
theorem PairsIn.kp {w w':World} {a c ps} (h:PairsIn w a c ps) (k:Kp w w'):PairsIn w' a c ps:=⟨h.rows.kp k,h.le,h.max⟩
theorem RelsIn.kp {w w':World} {a c rs} (h:RelsIn w a c rs) (k:Kp w w'):RelsIn w' a c rs:=⟨h.rows.kp k,fun r hr=>⟨PairsIn.kp (h.ok r hr).1 k,(h.ok r hr).2⟩,h.len,h.le,h.max⟩
theorem RelsIn.at_ {w:World} {a c rs} (h:RelsIn w a c rs) {k:Nat} {s:PL} (hk:rs[k]?=some s):∃ g o,a=some ⟨g,o,none⟩∧w.cell? ⟨g,o+k,none⟩=some (.slice s.a s.l.length s.c):=by
 have hl:=(List.getElem?_eq_some_iff.1 hk).1
 obtain⟨g,o,e,hc⟩:=h.rows (by simp;omega)
 exact⟨g,o,e,by have:=hc k [s.v] (by rw [List.getElem?_map,hk];rfl) 0 _ rfl;simpa [PL.v] using this⟩
theorem PairsIn.at_ {w:World} {a c ps} (h:PairsIn w a c ps) {k:Nat} {p:Nat × Nat} (hk:ps[k]?=some p) :
 ∃ g o,a=some ⟨g,o,none⟩∧(∀ i c,(pv p)[i]?=some c→w.cell? ⟨g,o+k * 2+i,none⟩=some c):=by
 have hl:=(List.getElem?_eq_some_iff.1 hk).1
 obtain⟨g,o,e,hc⟩:=h.rows (by simp;omega)
 exact⟨g,o,e,fun i c hi=>hc k (pv p) (by rw [List.getElem?_map,hk];rfl) i c hi⟩
def flat (rs:List PL):List (Nat × Nat):=rs.flatMap (·.l)
theorem flat_len {w:World} {a c rs} (h:RelsIn w a c rs) (k:Nat):(flat (rs.take k)).length≤65536:=by
 have:∀ l:List PL,(∀ r ∈ l,r.l.length≤8192)→(flat l).length≤l.length * 8192:=by
  intro l
  induction l with
  | nil=>simp [flat]
  | cons r t ih =>
    intro hl
    have h1:=hl r (by simp)
    have h2:=ih fun q hq=>hl q (by simp [hq])
    simp only [flat,List.flatMap_cons,List.length_append,List.length_cons] at h2 ⊢
    omega
 have h1:=this (rs.take k) fun r hr=>(h.ok r (List.mem_of_mem_take hr)).2.1
 have h2:=h.len
 have h3:(rs.take k).length≤rs.length:=by simp;omega
 omega
theorem flat_snoc {rs:List PL} {k:Nat} {s:PL} (h:rs[k]?=some s):flat (rs.take (k+1))=flat (rs.take k)++s.l:=by
 rw [List.take_add_one,h];simp [flat]
theorem take_snoc' {α:Type} {l:List α} {k:Nat} {p:α} (h:l[k]?=some p):l.take (k+1)=l.take k++[p]:=by rw [List.take_add_one,h];rfl
theorem pset_put {w' w:World} {b n:Nat} {S:List (Nat × Nat)} {q:Nat × Nat} {D:DataW Unit} (h:PSet w b n S) (ho:w.ownsMap Tryz.prog 72 unitElem b n D)
 (hD:(∀ p:Nat × Nat,p.1 < 64∧p.2 < 64→Maps.has D (plit p)=decide (p ∈ S))∧∀ l,Maps.has D l=true→∃ p ∈ S,l=plit p) (hq:q.1 < 64∧q.2 < 64)
 (hn:w'.ownsMap Tryz.prog 72 unitElem b (n+1) (D.put (plit q) (.agg []))):PSet w' b (n+1) (S++[q]) :=
 ⟨⟨_,hn,put_ok ho.isMap hD hq⟩,fun p hp=>by rcases List.mem_append.1 hp with h1 | h1;exact h.lt p h1;simp at h1;subst h1;exact hq⟩
end Md
theorem arrowsOf_any (a:Option Addr) (c:Nat) (rs:List Md.PL) (w:World) (hin:Md.RelsIn w a c rs) :
 Calls Tryz.prog 55 #[.slice a rs.length c] w fun e w'=>∃ n b,e=.returned (.map (some b))∧w.heap.size≤b∧n≤65536∧Md.PSet w' b n (Md.flat rs)∧Below w.heap.size w w':=by
 have hmax:=hin.max;have hle:=hin.le
 have HIN:=qH hin;clear hin
 have hmm:=@run_makeMap Tryz.prog
 go_enter Tryz.func55,Tryz.ntmps55
 go_wp2
 go_loopw [5,7,11,17] (fun _ _ i _ wr=>∃ k:Nat,k≤rs.length∧i=.int .i64 (k:Int)∧Md.PSet wr w.heap.size (Md.flat (rs.take k)).length (Md.flat (rs.take k))∧Below w.heap.size w wr) (fun _ _ i _ _=>rs.length - (intOf i).toNat)
 case atStart =>
  exact⟨0,Nat.zero_le _,rfl,Md.PSet.new w,(Below.refl _ _).alloc (Nat.le_refl _) _⟩
 case round =>
  obtain⟨k,hk,rfl,hps,hbr⟩:=hrel
  obtain⟨wo,rfl⟩:∃ wo:World,wo=wr:=⟨_,rfl⟩
  have HPS:=qH hps;have HBR:=qH hbr
  clear hps hbr
  by_cases hlt:k < rs.length
  ·obtain⟨s,hs⟩:∃ s,rs[k]?=some s:=⟨_,List.getElem?_eq_getElem hlt⟩
   obtain⟨g,o,ea,hcx⟩:=(HIN.out.kp (Ev.kp_below HBR.out)).at_ hs
   have hok:=HIN.out.ok s (List.mem_of_getElem? hs)
   have hsl:=hok.2.1
   have hsle:=hok.1.le;have hsmax:=hok.1.max
   have HOK:=qH hok
   have HFS:=qH (Md.flat_snoc hs)
   have HFL:=qH (Md.flat_len HIN.out k)
   have hki:(k:Int) < (rs.length:Int):=by omega
   clear hok hs
   rw [ea];clear ea
   go_wp2
   go_loopw [7,17] (fun _ i wr=>∃ m:Nat,m≤s.l.length∧i=.int .i64 (m:Int)∧Md.PSet wr w.heap.size ((Md.flat (rs.take k)).length+m) (Md.flat (rs.take k)++s.l.take m)∧Below w.heap.size w wr) (fun _ i _=>s.l.length - (intOf i).toNat)
   case atStart =>
    exact⟨0,Nat.zero_le _,rfl,by simpa using HPS.out,HBR.out⟩
   case round =>
    clear hcx
    obtain⟨m,hm,rfl,hps,hbr⟩:=hrel
    have HPS2:=qH hps;have HBR2:=qH hbr
    clear hps hbr
    by_cases hml:m < s.l.length
    ·obtain⟨p,hp⟩:∃ p,s.l[m]?=some p:=⟨_,List.getElem?_eq_getElem hml⟩
     obtain⟨g2,o2,ea2,hc2⟩:=Md.PairsIn.at_ (Md.PairsIn.kp HOK.out.1 (Ev.kp_below HBR2.out)) hp
     have hpb:=HOK.out.2.2 p (List.mem_of_getElem? hp)
     have HKEY:=qH (Md.key_mk hpb)
     have HPB:=qH hpb
     have HTS:=qH (Md.take_snoc' hp)
     have HC2:=qH hc2
     obtain⟨D,ho,hD⟩:=HPS2.out.ex
     have HO:=qH ho;have HD:=qH hD
     have hnl:(Md.flat (rs.take k)).length+m≤131072:=by have:=HFL.out;omega
     have HNL:=qH hnl
     have hmi:(m:Int) < (s.l.length:Int):=by omega
     clear hp hc2 hpb ho hD hnl
     rw [ea2];clear ea2
     go_wp2_with (first
      | ((with_reducible refine qG 20 ?_);refine wpList_load_at rfl 72 (.tmp 19) rfl g2 (o2+m * 2) (by kernel_rfl) [.int .i64 (p.1:Int),.int .i64 (p.2:Int)] _ HC2.out Tryz.underlying72 rfl (by kernel_rfl) ?_)
      | ((with_reducible show wpList _ _ _ (Oper.mk none (Op.store 72 _ _) _ _ _ _ :: _) _ _);refine wpList_store_own rfl 72 (.tmp 7) (.tmp 20) rfl wr.heap.size #[.int .i64 (p.1:Int),.int .i64 (p.2:Int)] rfl rfl 72 #[.int .i64 0,.int .i64 0] (heap_alloc_new _ _) (by kernel_rfl) (by kernel_rfl) (by kernel_rfl) ?_
         intro W1 HW1
         have B1:=qH (((Below.refl wr.heap.size wr).alloc (Nat.le_refl _) _).trans HW1.below)
         have RW1:=qH HW1.row
         clear HW1)
      | ((with_reducible refine qG 22 ?_);refine wpList_load_row rfl 72 (.tmp 7) rfl wr.heap.size (by kernel_rfl) 72 #[.int .i64 (p.1:Int),.int .i64 (p.2:Int)] (0,0) _ RW1.out Tryz.underlying72 rfl (by kernel_rfl) ?_)
      | (at_mapUpdate;refine wpList_mapUpdate_own _ rfl _ _ _ 77 rfl 72 94 Md.law_pair Tryz.underlying77 unitElem (w.heap.size) _ D rfl (HO.out.kept (row:=none) (World.grownBy.but_of B1.out) (by simp)) (by have:=HNL.out;unfold maxLen;omega) _ _ _ rfl rfl HKEY.out (.agg []) [] unitElem_mk ?_
         intro w1 hown1 hgrow1
         have HN:=qH hown1;have HG:=qH hgrow1
         clear hown1 hgrow1))
     try go_frame
     go_roundw
     case rel =>
      refine⟨m+1,by omega,by go_num,?_,(HBR2.out.trans (B1.out.mono HBR2.out.size)).grown HG.out (Nat.le_trans HBR2.out.size B1.out.size) (fun j hj=>by cases hj;omega)⟩
      rw [HTS.out,← List.append_assoc,← Nat.add_assoc]
      exact Md.pset_put (HPS2.out.kp B1.out) (HO.out.kept (row:=none) (World.grownBy.but_of B1.out) (by simp)) HD.out HPB.out HN.out
     case measure=>simp [intOf];omega
    ·have hmi:¬ (m:Int) < (s.l.length:Int):=by omega
     have HM:=qH (show m=s.l.length by omega)
     clear hml
     go_wp2
     go_roundw
     case rel =>
      refine⟨k+1,by omega,by go_num,?_,HBR2.out⟩
      have h:=HPS2.out
      rw [HM.out,List.take_length,← HFS.out] at h
      rw [HFS.out,List.length_append,← HFS.out]
      exact h
     case measure=>simp [intOf];omega
  ·have hki:¬ (k:Int) < (rs.length:Int):=by omega
   have HK:=qH (show k=rs.length by omega)
   clear hlt
   go_wp2
   go_ret
   have h:=HPS.out
   have hl:=Md.flat_len HIN.out k
   rw [HK.out,List.take_length] at h hl
   exact⟨_,_,rfl,Nat.le_refl _,hl,h,HBR.out⟩
end Go.Proofs.YtnjnpbabgefaeaaGreat
end
section
namespace Go.Proofs.YtnjnpbabgefaeaaGreat
open Go.RowKit
attribute [local go_sem] or_store_func
attribute [local go_sem] Oper.semAt_some
namespace Or
open Ev
def ppo (x:X) (a b:Nat):Bool:=!(hold x a b).isEmpty
def PpoR (x:X) (w:World) (r:Ending) (w':World):Prop:=Below w.heap.size w w' ∧
 ((check x≠0∧r=.returned (.tuple #[.slice none 0 0,.int .i64 (check x)])) ∨
  (check x=0∧∃ ad c,r=.returned (.tuple #[.slice ad (pl (ppo x) x.ev.length x.ev.length).length c,.int .i64 0])∧PairsIn w' ad c (pl (ppo x) x.ev.length x.ev.length)))
def MarksIn (n0:Nat) (Ds:List Nat) (W:World):Prop:=Ds.Nodup∧∀ D ∈ Ds,n0≤D∧W.heap[D]?=some (.deferred (some []))
theorem MarksIn.kp {n0:Nat} {Ds:List Nat} {W W':World} (h:MarksIn n0 Ds W) (hb:Below W.heap.size W W'):MarksIn n0 Ds W' :=
 ⟨h.1,fun D hD=>⟨(h.2 D hD).1,(hb.block D (Array.getElem?_eq_some_iff.1 (h.2 D hD).2).1).trans (h.2 D hD).2⟩⟩
theorem MarksIn.keeps {n0:Nat} {Ds:List Nat} {W W':World} (h:MarksIn n0 Ds W) (hk:KeepsOthers W W'):MarksIn n0 Ds W' :=
 ⟨h.1,fun D hD=>⟨(h.2 D hD).1,hk.same _ _ (h.2 D hD).2 rfl⟩⟩
theorem MarksIn.lt {n0:Nat} {Ds:List Nat} {W:World} (h:MarksIn n0 Ds W) {D:Nat} (hD:D ∈ Ds):D < W.heap.size:=(Array.getElem?_eq_some_iff.1 (h.2 D hD).2).1
theorem MarksIn.putObj {n0 l:Nat} {Ds:List Nat} {W:World} (h:MarksIn n0 Ds W) (o:Obj) (hl:∀ D ∈ Ds,D < l):MarksIn n0 Ds (W.putObj l o) :=
 ⟨h.1,fun D hD=>⟨(h.2 D hD).1,(World.putObj_heap_other (by have:=hl D hD;omega)).trans (h.2 D hD).2⟩⟩
theorem MarksIn.cons {n0 D:Nat} {Ds:List Nat} {W:World} (h:MarksIn n0 Ds W) (hl:∀ E ∈ Ds,E < D) (hn:n0≤D) (hd:W.heap[D]?=some (.deferred (some []))):MarksIn n0 (D :: Ds) W :=
 ⟨List.nodup_cons.2 ⟨fun hm=>by have:=hl D hm;omega,h.1⟩,fun E hE=>by
   rcases List.mem_cons.1 hE with rfl | hE
   ·exact⟨hn,hd⟩
   ·exact h.2 E hE⟩
structure Rnd (W1:World) (Es:List Nat) (x:X) (q k m pk pm c0 c1 c2:Nat) (L:List (Nat × Nat)) (Y:World):Prop where
 mrk:MarksIn W1.heap.size Es Y
 bk:Boxed Y pk 3 (.int .i64 (k:Int))
 bm:Boxed Y pm 3 (.int .i64 (m:Int))
 acc:Acc W1 W1.heap.size 37 72 2 L.length (L.flatMap pv) Y
 hin:Hin x q k m c0 c1 c2 Y
theorem kp_putObj {w:World} {l:Nat} {o:Obj} (o':Obj) (ho:w.heap[l]?=some o) (hc:o.isCells=false):Kp w (w.putObj l o'):=fun p v e=>by
 obtain⟨o2,ho2,hc2⟩:=cells_of_cell e
 exact(World.cell?_of_block (World.putObj_heap_other (fun e2=>by rw [e2,ho] at ho2;cases ho2;rw [hc] at hc2;cases hc2))).trans e
theorem Hin.kp {x:X} {q a b c0 c1 c2:Nat} {W W':World} (h:Hin x q a b c0 c1 c2 W) (hb:Below W.heap.size W W'):Hin x q a b c0 c1 c2 W':=⟨h.as_.kp hb,h.k0.kp hb,h.k1.kp hb,h.k2.kp hb⟩
theorem Hin.putObj {x:X} {q a b c0 c1 c2 l:Nat} {W:World} {o:Obj} (h:Hin x q a b c0 c1 c2 W) (o':Obj) (ho:W.heap[l]?=some o) (hc:o.isCells=false):Hin x q a b c0 c1 c2 (W.putObj l o') :=
 ⟨⟨(World.putObj_heap_other (fun e=>by subst e;rw [h.as_.row] at ho;cases ho;cases hc)).trans h.as_.row,h.as_.xin.kp (kp_putObj o' ho hc)⟩,box_putObj h.k0 o' ho hc,box_putObj h.k1 o' ho hc,box_putObj h.k2 o' ho hc⟩
theorem Rnd.kp {W1:World} {Es:List Nat} {x:X} {q k m pk pm c0 c1 c2:Nat} {L:List (Nat × Nat)} {Y Y':World} (h:Rnd W1 Es x q k m pk pm c0 c1 c2 L Y) (hb:Below Y.heap.size Y Y'):Rnd W1 Es x q k m pk pm c0 c1 c2 L Y' :=
 ⟨h.mrk.kp hb,(hb.block pk h.bk.lt).trans h.bk,(hb.block pm h.bm.lt).trans h.bm,h.acc.kp hb,h.hin.kp hb⟩
theorem Rnd.putObj {W1:World} {Es:List Nat} {x:X} {q k m pk pm c0 c1 c2 l:Nat} {L:List (Nat × Nat)} {Y:World} {o:Obj} (h:Rnd W1 Es x q k m pk pm c0 c1 c2 L Y) (o':Obj) (hl:W1.heap.size≤l) (hm:∀ D ∈ Es,D < l) (ho:Y.heap[l]?=some o) (hc:o.isCells=false):Rnd W1 Es x q k m pk pm c0 c1 c2 L (Y.putObj l o') :=
 ⟨h.mrk.putObj o' hm,box_putObj h.bk o' ho hc,box_putObj h.bm o' ho hc,h.acc.putObj o' hl ho hc,h.hin.putObj o' ho hc⟩
structure Nxt (W1:World) (Es:List Nat) (k pk:Nat) (L:List (Nat × Nat)) (Y:World):Prop where
 mrk:MarksIn W1.heap.size Es Y
 bk:Boxed Y pk 3 (.int .i64 (k:Int))
 acc:Acc W1 W1.heap.size 37 72 2 L.length (L.flatMap pv) Y
theorem Nxt.putObj {W1:World} {Es:List Nat} {k pk l:Nat} {L:List (Nat × Nat)} {Y:World} {o:Obj} (h:Nxt W1 Es k pk L Y) (o':Obj) (hl:W1.heap.size≤l) (hm:∀ D ∈ Es,D < l) (ho:Y.heap[l]?=some o) (hc:o.isCells=false):Nxt W1 Es k pk L (Y.putObj l o') :=
 ⟨h.mrk.putObj o' hm,box_putObj h.bk o' ho hc,h.acc.putObj o' hl ho hc⟩
end Or
theorem oppo_any (x:Ev.X) (w:World) (hin:Ev.XIn w x) :
 Calls Tryz.prog 54 #[.agg (Ev.xcells x).toArray] w (Or.PpoR x w):=by
 obtain⟨B,hB⟩:∃ B,B=w.alloc (.cells (Ev.xcells x).toArray 26):=⟨_,rfl⟩
 have HB:=qH hB
 have RX:=qH (show B.heap[w.heap.size]?=some (.cells (Ev.xcells x).toArray 26 (0,0)) by rw [hB];exact heap_alloc_new _ _)
 have B0:=qH (show Below w.heap.size w B by rw [hB];exact(Below.refl w.heap.size w).alloc (Nat.le_refl _) _)
 have HIN:=qH hin
 have hle:=hin.ev.le;have hmax:=hin.ev.max
 clear hB hin
 refine(callsIn_wide (n:=5)).1 ?_
 refine callsIn_of_wp_marks Tryz.func54 rfl trivial ?_ rfl
 simp only [Tryz.ntmps54,List.size_toArray,List.length_cons,List.length_nil,Nat.reduceAdd,Nat.reduceSub,Array.replicate_succ,Array.replicate_zero,List.push_toArray,List.append_toArray,List.nil_append,List.cons_append]
 refine wpIn_wide.2 ?_
 go_wp2_with (first
  | ((with_reducible refine qG 10 ?_);(try rw [show w.alloc (Obj.cells (Ev.xcells x).toArray 26)=B from HB.out.symm]);refine wpList_load_row rfl 26 (.tmp 1) rfl w.heap.size (by kernel_rfl) 26 (Ev.xcells x).toArray (0,0) _ RX.out Tryz.underlying26 rfl (by kernel_rfl) ?_))
 refine(ask_any x ⟨none,0,[]⟩ B (HIN.out.kp (Ev.kp_below B0.out)) (Ev.ints_none _)).mono ?_
 rintro r W1 ⟨hb1,(⟨h1,rfl⟩ | ⟨h1,h2,rfl⟩ | ⟨h1,h2,q,rfl,hq⟩)⟩
 ·have B1:=qH (B0.out.trans (hb1.mono B0.out.size));have H1:=qH h1
  have t0:(Ev.check x != 0)=true:=by simpa using h1
  clear h1 hb1
  go_wp2_with fail
  exact⟨_,results_tmp2 (fn:=Tryz.f54) rfl _ _ _,B1.out,.inl ⟨H1.out,rfl⟩⟩
 ·obtain⟨n,hn,_⟩:=h2;cases hn
 have B1:=qH (B0.out.trans (hb1.mono B0.out.size));have H1:=qH h1;have HQ:=qH hq
 clear h1 h2 hb1 hq
 obtain⟨V,hV⟩:∃ V,V=W1.alloc (.cells #[.slice none 0 0] 37):=⟨_,rfl⟩
 have HV:=qH hV
 have BV:=qH (show Below W1.heap.size W1 V by rw [hV];exact(Below.refl _ _).alloc (Nat.le_refl _) _)
 have HACC:=qH (show Or.Acc W1 W1.heap.size 37 72 2 0 [] V by rw [hV];exact⟨(Below.refl _ _).alloc (Nat.le_refl _) _,_,Boxed.new _ _ _,World.ownsRow_nil _ _ _ _⟩)
 have CX:=qH (show ∀ W,Below W1.heap.size W1 W→W.cell? ⟨q,0,none⟩=some (.slice x.ae x.ev.length x.ce) from fun W h=>(HQ.out.kp h).c0)
 have cx:=CX.out V BV.out
 have cx0:=CX.out _ ((Below.refl _ _).alloc (Nat.le_refl _) (.cells #[.slice none 0 0] 37))
 clear hV
 go_wp2_with fail
 have HFL:=qH (check_from H1.out)
 have h64:x.ev.length≤64:=(Ev.check_order H1.out).2.2
 obtain⟨i0,hi,hz0,hz1,hz2⟩:=info_pair
 have HI:=qH hi;have HZ0:=qH hz0;have HZ1:=qH hz1;have HZ2:=qH hz2;clear hi hz0 hz1 hz2
 refine wp_loop (fun (a:Act) (W:World)=>∃ (k:Nat) (Ds:List Nat) (c u7 u8 u24 u25 u26 u27 u28 u29 u30 u31 u32 u33 u34 u35 u36 u37 u38 u39 u40 u41 u42 u43 u44 u45 u46 u47:Value),a={ tmps:=#[.agg (Ev.xcells x).toArray,.pointer (some ⟨w.heap.size,0,none⟩),.slice none 0 0,.int .i64 0,.pointer (some ⟨q,0,none⟩),.int .i64 0,.pointer (some ⟨W1.heap.size,0,none⟩),u7,u8,.tuple #[.pointer (some ⟨q,0,none⟩),.int .i64 0],.agg (Ev.xcells x).toArray,.tuple #[.pointer (some ⟨q,0,none⟩),.int .i64 0],.pointer (some ⟨q,0,none⟩),.int .i64 0,.int .i64 0,.bool false,undef,.pointer (some ⟨q,0,none⟩),.pointer (some ⟨q,0,none⟩),.pointer (some ⟨q,0,none⟩),.pointer (some ⟨q,0,none⟩),.slice x.ae x.ev.length x.ce,.int .i64 (x.ev.length:Int),c,u24,u25,u26,u27,u28,u29,u30,u31,u32,u33,u34,u35,u36,u37,u38,u39,u40,u41,u42,u43,u44,u45,u46,u47,undef],defers:=Og.marks Ds }∧c=.int .i64 (k:Int)∧k≤x.ev.length∧Or.MarksIn W1.heap.size Ds W∧Or.Acc W1 W1.heap.size 37 72 2 (Ev.pl (Or.ppo x) x.ev.length k).length ((Ev.pl (Or.ppo x) x.ev.length k).flatMap Ev.pv) W) (fun (a:Act) (W:World)=>x.ev.length - (intOf (a.tmps.getD 23 undef)).toNat) ?_ ?_
 ·rw [show W1.alloc (Obj.cells #[.slice none 0 0] 37)=V from HV.out.symm]
  exact⟨0,[],_,undef,undef,undef,undef,undef,undef,undef,undef,undef,undef,undef,undef,undef,undef,undef,undef,undef,undef,undef,undef,undef,undef,undef,undef,undef,undef,rfl,rfl,Nat.zero_le _,⟨List.nodup_nil,fun D hD=>(by cases hD)⟩,HACC.out⟩
 clear HACC HV cx cx0
 rintro a W ⟨k,Ds,c,u7,u8,u24,u25,u26,u27,u28,u29,u30,u31,u32,u33,u34,u35,u36,u37,u38,u39,u40,u41,u42,u43,u44,u45,u46,u47,rfl,rfl,hk,hmk,hacc⟩
 have HMK:=qH hmk;have HACC:=qH hacc
 have cx:=CX.out W hacc.bel
 have HPK:=qH (show W1.heap.size < W.heap.size by obtain⟨_,_,h,_⟩:=hacc.form;exact h.lt)
 clear hmk hacc
 by_cases hlt:k < x.ev.length
 ·have hki:(k:Int) < (x.ev.length:Int):=by omega
  have al:Below W.heap.size W (W.alloc (Obj.cells #[Value.int .i64 (k:Int)] 3)):=(Below.refl _ _).alloc (Nat.le_refl _) _
  have HN1:=qH (show Or.Nxt W1 Ds k W.heap.size (Ev.pl (Or.ppo x) x.ev.length k++Ev.rowL (Or.ppo x) k (List.range 0)) (W.alloc (Obj.cells #[Value.int .i64 (k:Int)] 3)) from ⟨HMK.out.kp al,Boxed.new W 3 (.int .i64 (k:Int)),by simpa [Ev.rowL] using HACC.out.kp al⟩)
  have cx1:=CX.out _ HN1.out.acc.bel
  clear al
  go_wp2_with fail
  go_step3
  go_wp2_with fail
  go_step3
  go_wp2_with fail
  clear cx cx1
  refine wp_loop (fun (a:Act) (Z:World)=>∃ (m:Nat) (Es:List Nat) (c v8 v33 v34 v35 v36 v37 v38 v39 v40 v41 v42 v43 v44 v45 v46:Value),a={ tmps:=#[.agg (Ev.xcells x).toArray,.pointer (some ⟨w.heap.size,0,none⟩),.slice none 0 0,.int .i64 0,.pointer (some ⟨q,0,none⟩),.int .i64 0,.pointer (some ⟨W1.heap.size,0,none⟩),.pointer (some ⟨W.heap.size,0,none⟩),v8,.tuple #[.pointer (some ⟨q,0,none⟩),.int .i64 0],.agg (Ev.xcells x).toArray,.tuple #[.pointer (some ⟨q,0,none⟩),.int .i64 0],.pointer (some ⟨q,0,none⟩),.int .i64 0,.int .i64 0,.bool false,undef,.pointer (some ⟨q,0,none⟩),.pointer (some ⟨q,0,none⟩),.pointer (some ⟨q,0,none⟩),.pointer (some ⟨q,0,none⟩),.slice x.ae x.ev.length x.ce,.int .i64 (x.ev.length:Int),.int .i64 (k:Int),.bool true,.int .i64 (k:Int),.pointer (some ⟨q,0,none⟩),.pointer (some ⟨q,0,none⟩),.pointer (some ⟨q,0,none⟩),.pointer (some ⟨q,0,none⟩),.slice x.ae x.ev.length x.ce,.int .i64 (x.ev.length:Int),c,v33,v34,v35,v36,v37,v38,v39,v40,v41,v42,v43,v44,v45,v46,u47,undef],defers:=Og.marks Es }∧c=.int .i64 (m:Int)∧m≤x.ev.length∧Or.Nxt W1 Es k W.heap.size (Ev.pl (Or.ppo x) x.ev.length k++Ev.rowL (Or.ppo x) k (List.range m)) Z) (fun (a:Act) (Z:World)=>x.ev.length - (intOf (a.tmps.getD 32 undef)).toNat) ?_ ?_
  ·exact⟨0,Ds,_,u8,u33,u34,u35,u36,u37,u38,u39,u40,u41,u42,u43,u44,u45,u46,rfl,rfl,Nat.zero_le _,HN1.out⟩
  clear HN1
  rintro a Z ⟨m,Es,c,v8,v33,v34,v35,v36,v37,v38,v39,v40,v41,v42,v43,v44,v45,v46,rfl,rfl,hm,hnx⟩
  obtain⟨L,hL⟩:∃ L,L=(Ev.pl (Or.ppo x) x.ev.length k++Ev.rowL (Or.ppo x) k (List.range m)):=⟨_,rfl⟩
  have hlen:L.length≤4160:=by
   have hlen1:=Ev.pl_len (Or.ppo x) x.ev.length k
   have hlen2:=Ev.rowL_len (Or.ppo x) k m
   have hmul:k * x.ev.length≤64 * 64:=Nat.mul_le_mul (by omega) h64
   rw [hL,List.length_append];omega
  rw [← hL] at hnx
  have HNX:=qH hnx;have HL:=qH hL;have HLEN:=qH hlen
  clear hnx hL hlen
  by_cases hml:m < x.ev.length
  ·have hmi:(m:Int) < (x.ev.length:Int):=by omega
   have al:∀ (y:World) (o:Obj),Below y.heap.size y (y.alloc o):=fun y o=>(Below.refl _ _).alloc (Nat.le_refl _) _
   obtain⟨Y,hY⟩:∃ Y,Y=((((Z.alloc (Obj.cells #[Value.int .i64 (m:Int)] 3)).alloc (Obj.cells #[Value.pointer (some ⟨q,0,none⟩)] 112)).alloc (Obj.cells #[Value.int .i64 (k:Int)] 3)).alloc (Obj.cells #[Value.int .i64 (m:Int)] 3)):=⟨_,rfl⟩
   have HBY:=qH (show Below Z.heap.size Z Y by rw [hY];exact((((Below.refl _ _).alloc (Nat.le_refl _) _).alloc (by simp) _).alloc (by simp;omega) _).alloc (by simp;omega) _)
   have c7:=(show Boxed (Z.alloc (Obj.cells #[Value.int .i64 (m:Int)] 3)) W.heap.size 3 (.int .i64 (k:Int)) from HNX.out.bk.alloc _).cell
   have c8:=(Boxed.new Z 3 (.int .i64 (m:Int))).cell
   have HRND:=qH (show Or.Rnd W1 Es x q k m W.heap.size Z.heap.size (Z.heap.size+1) (Z.heap.size+1+1) (Z.heap.size+1+1+1) L Y from by
    refine⟨HNX.out.mrk.kp HBY.out,(HBY.out.block _ HNX.out.bk.lt).trans HNX.out.bk,?_,HNX.out.acc.kp HBY.out,(HQ.out.kp HNX.out.acc.bel).kp HBY.out,?_,?_,?_⟩
    ·rw [hY];exact(((Boxed.new Z 3 (.int .i64 (m:Int))).alloc _).alloc _).alloc _
    ·rw [hY];have h:=((Boxed.new (Z.alloc (Obj.cells #[Value.int .i64 (m:Int)] 3)) 112 (.pointer (some ⟨q,0,none⟩))).alloc (.cells #[.int .i64 (k:Int)] 3)).alloc (.cells #[.int .i64 (m:Int)] 3);simp only [World.size_alloc] at h;exact h
    ·rw [hY];have h:=(Boxed.new ((Z.alloc (Obj.cells #[Value.int .i64 (m:Int)] 3)).alloc (Obj.cells #[Value.pointer (some ⟨q,0,none⟩)] 112)) 3 (.int .i64 (k:Int))).alloc (.cells #[.int .i64 (m:Int)] 3);simp only [World.size_alloc] at h;exact h
    ·rw [hY];have h:=Boxed.new (((Z.alloc (Obj.cells #[Value.int .i64 (m:Int)] 3)).alloc (Obj.cells #[Value.pointer (some ⟨q,0,none⟩)] 112)).alloc (Obj.cells #[Value.int .i64 (k:Int)] 3)) 3 (.int .i64 (m:Int));simp only [World.size_alloc] at h;exact h)
   have HYS:=qH (show Y.heap.size=Z.heap.size+4 by rw [hY];simp)
   have HYY:=qH hY
   clear hY al
   go_wp2_with (go_at_call 82;refine(holding_any _ _ _ _).mono ?_;rintro r w9 ⟨rfl,rfl⟩)
   rw [show ((((Z.alloc (Obj.cells #[Value.int .i64 (m:Int)] 3)).alloc (Obj.cells #[Value.pointer (some ⟨q,0,none⟩)] 112)).alloc (Obj.cells #[Value.int .i64 (k:Int)] 3)).alloc (Obj.cells #[Value.int .i64 (m:Int)] 3))=Y from HYY.out.symm]
   try simp only [World.size_alloc]
   clear c7 c8 HYY
   refine(wpIn_wide (n:=5)).1 ?_
   refine Og.wpIn_rangeFunc_list (α:=Nat) rfl (by decide) (gf:=105) (lb:=#[.pointer (some ⟨Z.heap.size+1,0,none⟩),.pointer (some ⟨Z.heap.size+1+1,0,none⟩),.pointer (some ⟨Z.heap.size+1+1+1,0,none⟩)]) rfl trivial (enters_of Tryz.func105 (by kernel_rfl) rfl)
    (holding_iter 4 (by decide) x q k m _ _ _ hlt hml HFL.out) (fun _=>rfl)
    (fun j U=>j=0∧Or.Rnd W1 Es x q k m W.heap.size Z.heap.size (Z.heap.size+1) (Z.heap.size+1+1) (Z.heap.size+1+1+1) L U) (fun c U=>c=.exit 3∧Or.ppo x k m=true∧Or.Nxt W1 Es k W.heap.size (L++[(k,m)]) U)
    (fun j A A' h hb=>⟨h.1,h.2.kp hb⟩) (fun j A l o o' h hl ho hc=>⟨h.1,h.2.putObj o' (by have:=HNX.out.acc.bel.size;have:=HYS.out;omega) (fun D hD=>by have:=HNX.out.mrk.lt hD;have:=HYS.out;omega) ho hc⟩)
    (fun c A l o o' h hl ho hc=>⟨h.1,h.2.1,h.2.2.putObj o' (by have:=HNX.out.acc.bel.size;have:=HYS.out;omega) (fun D hD=>by have:=HNX.out.mrk.lt hD;have:=HYS.out;omega) ho hc⟩)
    (fun j A h=>h.2.hin) ⟨rfl,HRND.out⟩
    (fun s=>{ tmps:=#[.agg (Ev.xcells x).toArray,.pointer (some ⟨w.heap.size,0,none⟩),.slice none 0 0,.int .i64 0,.pointer (some ⟨q,0,none⟩),.int .i64 0,.pointer (some ⟨W1.heap.size,0,none⟩),.pointer (some ⟨W.heap.size,0,none⟩),.pointer (some ⟨Z.heap.size,0,none⟩),.tuple #[.pointer (some ⟨q,0,none⟩),.int .i64 0],.agg (Ev.xcells x).toArray,.tuple #[.pointer (some ⟨q,0,none⟩),.int .i64 0],.pointer (some ⟨q,0,none⟩),.int .i64 0,.int .i64 0,.bool false,undef,.pointer (some ⟨q,0,none⟩),.pointer (some ⟨q,0,none⟩),.pointer (some ⟨q,0,none⟩),.pointer (some ⟨q,0,none⟩),.slice x.ae x.ev.length x.ce,.int .i64 (x.ev.length:Int),.int .i64 (k:Int),.bool true,.int .i64 (k:Int),.pointer (some ⟨q,0,none⟩),.pointer (some ⟨q,0,none⟩),.pointer (some ⟨q,0,none⟩),.pointer (some ⟨q,0,none⟩),.slice x.ae x.ev.length x.ce,.int .i64 (x.ev.length:Int),.int .i64 (m:Int),.bool true,.int .i64 (m:Int),.pointer (some ⟨q,0,none⟩),.int .i64 (k:Int),.int .i64 (m:Int),.func (.func 105) #[] #[.pointer (some ⟨Z.heap.size+1,0,none⟩),.pointer (some ⟨Z.heap.size+1+1,0,none⟩),.pointer (some ⟨Z.heap.size+1+1+1,0,none⟩)],.int .i64 (s:Int),v40,v41,v42,v43,v44,v45,v46,u47,undef],defers:=[] })
    ?assign ?body ?done ?stop
   case assign =>
    rintro l s U K hK
    have HK:=qH hK;clear hK
    gi_wp2_with fail
    exact HK.out
   case body =>
    rintro l j s U hs ⟨rfl,hR⟩
    have HPP:=qH (show Or.ppo x k m=true by unfold Or.ppo;cases h:Or.hold x k m with | nil=>rw [h] at hs;simp at hs | cons _ _=>rfl)
    obtain⟨ad,cc,hv,hr⟩:=hR.acc.form
    have hlen:=HLEN.out
    have c2:=hv.cell;have c7:=hR.bk.cell;have c8:=hR.bm.cell
    have HV:=qH hv;have HRR:=qH hr;have HR:=qH hR
    clear hs hR hv hr
    gi_wp2_with (first
     | ((with_reducible show wpListIn _ _ _ _ _ (Oper.mk (some 45) _ _ _ _ _ :: _) _ _);refine wpListIn_append_own (U.alloc (.cells #[.int .i64 (k:Int),.int .i64 (m:Int)] 72)) rfl (.tmp 40) (.tmp 44) 37 rfl W1.heap.size 72 i0 (.agg #[.int .i64 0,.int .i64 0]) 2 16 Tryz.underlying37 HI.out HZ0.out HZ1.out HZ2.out rfl (by decide) _ _ _ rfl (HRR.out.alloc _) ⟨U.heap.size,0,none⟩ 1 1 (Ev.pv (k,m)) rfl rfl (fun j u hu=>World.news_of_block (heap_alloc_new U _) j u hu) (Ev.pv_one _) (by unfold maxLen;omega) (by omega) (by have:=HR.out.acc.bel.size;simp only [World.size_alloc];omega) ?_
        intro v' w3 hown hgrow _
        obtain⟨gb,cp',rfl⟩:=Or.row_succ hown
        obtain⟨f1,f2,f3,f4,f5⟩:=Boxed.appended HV.out (by decide) HRR.out HR.out.acc.bel.size (Nat.le_refl _) hown hgrow
        have hf1:=f1.cell;have hf2:=f1.frozen
        have F4:=qH f4;have F5:=qH (HR.out.acc.bel.trans f5)
        have FA:=qH (And.intro f2 f3)
        have FB:=qH (((HR.out.bk.alloc _).kept hgrow (HR.out.bk.not_row (by decide) HRR.out)).other (B':=W1.heap.size) (by have:=HPK.out;omega) (.slice (some ⟨gb,0,none⟩) (L.length+1) cp'))
        clear f1 f2 f3 f4 f5 hown hgrow c2 c7 c8))
    refine⟨F4.out,rfl,HPP.out,HR.out.mrk.keeps F4.out,FB.out,F5.out,_,FA.out.1,?_⟩
    have h:=FA.out.2
    rw [List.length_append,List.flatMap_append]
    simpa using h
   case done =>
    rintro D U hD ⟨hj,hR⟩ hK
    have HPP:=qH (show Or.ppo x k m=false by unfold Or.ppo;cases h:Or.hold x k m with | nil=>rfl | cons _ _=>rw [h] at hj;simp at hj)
    have HR:=qH hR;have HK:=qH hK;have HDD:=qH hD
    clear hj hR hK hD
    go_wp2_with fail
    refine⟨⟨m+1,D :: Es,_,_,_,_,_,_,_,_,_,_,_,_,_,_,_,_,rfl,by go_num,by omega,HR.out.mrk.cons (fun E hE=>by have:=HNX.out.mrk.lt hE;have:=HDD.out;have:=HYS.out;omega) (by have:=HNX.out.acc.bel.size;have:=HDD.out;have:=HYS.out;omega) HK.out,HR.out.bk,?_⟩,by simp [intOf];omega⟩
    have h:=HR.out.acc
    rw [Ev.rowL_succ,HPP.out,show(if false=true then [(k,m)] else [])=([]:List (Nat × Nat)) from rfl,List.append_nil,← HL.out]
    exact h
   case stop =>
    rintro D c U hD ⟨rfl,hpp,hN⟩ hK
    refine wpIn_wide.2 ?_
    have HPP:=qH hpp
    have HR:=qH hN;have HK:=qH hK;have HDD:=qH hD
    clear hpp hN hK hD
    go_wp2_with fail
    refine⟨⟨m+1,D :: Es,_,_,_,_,_,_,_,_,_,_,_,_,_,_,_,_,rfl,by go_num,by omega,HR.out.mrk.cons (fun E hE=>by have:=HNX.out.mrk.lt hE;have:=HDD.out;have:=HYS.out;omega) (by have:=HNX.out.acc.bel.size;have:=HDD.out;have:=HYS.out;omega) HK.out,HR.out.bk,?_⟩,by simp [intOf];omega⟩
    have h:=HR.out.acc
    rw [Ev.rowL_succ,HPP.out,show(if true=true then [(k,m)] else [])=[(k,m)] from rfl,← List.append_assoc,← HL.out]
    exact h
  ·have hmi:¬ (m:Int) < (x.ev.length:Int):=by omega
   have HM:=qH (show m=x.ev.length by omega)
   clear hml
   go_wp2_with fail
   refine⟨⟨k+1,Es,_,_,_,_,_,_,_,_,_,_,_,_,_,_,_,_,_,_,_,_,_,_,_,_,_,_,_,rfl,by go_num,by omega,HNX.out.mrk,?_⟩,by simp [intOf];omega⟩
   have h:=HNX.out.acc
   rw [HL.out,HM.out] at h
   rw [Ev.pl_succ]
   exact h
 ·have hki:¬ (k:Int) < (x.ev.length:Int):=by omega
  have HKN:=qH (show k=x.ev.length by omega)
  obtain⟨ad,cc,hv,hr⟩:=HACC.out.form
  have c6:=hv.cell
  have HRR:=qH hr
  clear hv hr hlt
  go_wp2_with fail
  refine Og.leaves_marks Ds W HMK.out.1 (fun D hD=>(HMK.out.2 D hD).2) (fun W' e1 e2 e3 e4 e5=>⟨_,results_tmp2 (fn:=Tryz.f54) rfl _ _ _,?_⟩)
  have hlow:Below W1.heap.size W W':=⟨e1,e2,e3,by rw [e4];exact Nat.le_refl _,fun j hj=>e5 j (fun hm=>by have:=(HMK.out.2 j hm).1;omega)⟩
  have hcells:∀ (j:Nat) (o:Obj),W.heap[j]?=some o→o.isCells=true→W'.heap[j]?=some o:=fun j o ho hc=>(e5 j (fun hm=>by have h:=(HMK.out.2 j hm).2;rw [ho] at h;cases h;cases hc)).trans ho
  have hrow:W'.ownsRow W1.heap.size 72 2 (.slice ad (Ev.pl (Or.ppo x) x.ev.length k).length cc) (Ev.pl (Or.ppo x) x.ev.length k).length ((Ev.pl (Or.ppo x) x.ev.length k).flatMap Ev.pv) :=
   ⟨HRR.out.1,HRR.out.2.imp id fun ⟨g,cap,cur,d1,d2,d3,r⟩=>⟨g,cap,cur,d1,d2,hcells g _ d3 rfl,r⟩⟩
  obtain⟨A,C,hAC,hp⟩:=Ev.pairs_of_row hrow
  rw [hAC]
  rw [HKN.out] at hp ⊢
  exact⟨B1.out.trans ((HACC.out.bel.trans hlow).mono B1.out.size),.inr ⟨H1.out,A,C,rfl,hp⟩⟩
end Go.Proofs.YtnjnpbabgefaeaaGreat
end
