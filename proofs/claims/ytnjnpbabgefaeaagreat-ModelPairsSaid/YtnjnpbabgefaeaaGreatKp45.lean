import Derived.Test.YtnjnpbabgefaeaaGreatKp44
import Derived.Test.YtnjnpbabgefaeaaGreatKp17
import Derived.Test.YtnjnpbabgefaeaaGreatKp43
import Derived.Deep.QuietTactic
import Derived.BigQuiet
import Derived.Test.YtnjnpbabgefaeaaGreatKp28
import Derived.Test.YtnjnpbabgefaeaaGreatKp42
import Derived.Test.YtnjnpbabgefaeaaGreatKp37
import Derived.Test.YtnjnpbabgefaeaaGreatKp03
import Derived.Test.YtnjnpbabgefaeaaGreatKp22
import Derived.Test.YtnjnpbabgefaeaaGreatKpH
set_option maxRecDepth 100000
set_option maxHeartbeats 8000000
set_option linter.unusedVariables false
set_option linter.unusedSimpArgs false
section
namespace Go.Proofs.YtnjnpbabgefaeaaGreat
open Go.RowKit
namespace Md
open Ev
def twoH (x:X) (p:Nat × Nat):Bool:=(nth x.ev (p.1:Int)).h != (nth x.ev (p.2:Int)).h
end Md
theorem ld_cell {w:World} {ty:TypeId} {p:Addr} {v:Value} (ha:∀ w,(isAgg ty).run Tryz.prog w=.ok false w) (hc:w.cell? p=some v):(loadVar ty p).run Tryz.prog w=.ok v w:=by
 unfold loadVar
 simp only [Sem.run_bind,ha,Result.andThen_ok]
 go_simp
 first | done | rw [hc]
theorem twoHarts_any (x:Ev.X) (q cb:Nat) (p:Nat × Nat) (ha:p.1 < x.ev.length) (hb:p.2 < x.ev.length) (w:World) (hcb:w.cell? ⟨cb,0,none⟩=some (.pointer (some ⟨q,0,none⟩))) (hj:Md.JIn w q x) :
 Calls Tryz.prog 53 #[Md.pkV p,.pointer (some ⟨cb,0,none⟩)] w fun e w'=>e=.returned (.bool (Md.twoH x p))∧Below w.heap.size w w':=by
 obtain⟨e1,he1⟩:∃ e,x.ev[p.1]?=some e:=⟨_,List.getElem?_eq_getElem ha⟩
 obtain⟨e2,he2⟩:∃ e,x.ev[p.2]?=some e:=⟨_,List.getElem?_eq_getElem hb⟩
 obtain⟨g,o,eg,hc1⟩:=hj.xin.ev.at_ he1
 obtain⟨g',o',eg',hc2⟩:=hj.xin.ev.at_ he2
 rw [eg] at eg'
 obtain⟨rfl,rfl⟩:g=g'∧o=o':=by simpa using eg'
 have hl1:=hj.xin.ev.le;have hl2:=hj.xin.ev.max
 obtain⟨V,hV⟩:∃ V,V=w.alloc (.cells #[.int .i64 (p.1:Int),.int .i64 (p.2:Int)] 72):=⟨_,rfl⟩
 have hb0:Below w.heap.size w V:=by rw [hV];exact(Below.refl _ _).alloc (Nat.le_refl _) _
 have rp:V.heap[w.heap.size]?=some (.cells #[.int .i64 (p.1:Int),.int .i64 (p.2:Int)] 72 (0,0)):=by rw [hV];exact heap_alloc_new _ _
 have cp0:V.cell? ⟨w.heap.size,0,none⟩=some (.int .i64 (p.1:Int)):=by rw [qC rp];rfl
 have cp1:V.cell? ⟨w.heap.size,1,none⟩=some (.int .i64 (p.2:Int)):=by rw [qC rp];rfl
 have k0:=Ev.kp_below hb0
 have cj:=k0 _ _ hcb;have ce:=k0 _ _ hj.c0
 rw [eg] at ce
 have hn1:=Ev.nth_some he1;have hn2:=Ev.nth_some he2
 have hai:(p.1:Int) < (x.ev.length:Int):=by omega
 have hbi:(p.2:Int) < (x.ev.length:Int):=by omega
 have ch1:V.cell? ⟨g,o+p.1 * 13,none⟩=some (.int .i64 e1.h):=k0 _ _ (hc1 0 _ rfl)
 have ch2:V.cell? ⟨g,o+p.2 * 13,none⟩=some (.int .i64 e2.h):=k0 _ _ (hc2 0 _ rfl)
 have HR:=qH (show Md.twoH x p=(e1.h != e2.h) by unfold Md.twoH;rw [hn1,hn2])
 rw [HR.out]
 have HB0:=qH hb0;have HV:=qH hV
 clear he1 he2 eg hc1 hc2 hV hb0 rp k0 hcb hj hn1 hn2 eg'
 unfold Md.pkV
 go_enter Tryz.func53,Tryz.ntmps53
 go_wp2
 rw [← HV.out]
 have q0:∀ z:Og.On V.heap.size V,z.x.cell? ⟨cb,0,none⟩=some (.pointer (some ⟨q,0,none⟩)):=fun z=>Og.cellB z cj
 have q1:∀ z:Og.On V.heap.size V,z.x.cell? ⟨q,0,none⟩=some (.slice (some ⟨g,o,none⟩) x.ev.length x.ce):=fun z=>Og.cellB z ce
 have q2:∀ z:Og.On V.heap.size V,z.x.cell? ⟨w.heap.size,0,none⟩=some (.int .i64 (p.1:Int)):=fun z=>Og.cellB z cp0
 have q3:∀ z:Og.On V.heap.size V,z.x.cell? ⟨w.heap.size,1,none⟩=some (.int .i64 (p.2:Int)):=fun z=>Og.cellB z cp1
 have q4:∀ z:Og.On V.heap.size V,z.x.cell? ⟨g,o+p.1 * 13,none⟩=some (.int .i64 e1.h):=fun z=>Og.cellB z ch1
 have q5:∀ z:Og.On V.heap.size V,z.x.cell? ⟨g,o+p.2 * 13,none⟩=some (.int .i64 e2.h):=fun z=>Og.cellB z ch2
 clear cj ce cp0 cp1 ch1 ch2
 refine Og.regionB (by kernel_rfl) (by kernel_rfl) ?_
 repeat (first
  | go_big_quiet_skip
  | (go_big_quiet_want
     first
      | (go_big_quiet_op
         first
          | go_big_quiet_on)))
 refine wpQuiet_nil ?_
 intro _ hw'
 obtain⟨q9,hw''⟩:=hw'
 subst hw''
 go_wp2
 go_ret
 exact⟨rfl,HB0.out.trans (q9.b.mono HB0.out.size)⟩
theorem oneAddress_any (x:Ev.X) (q cb:Nat) (p:Nat × Nat) (ha:p.1 < x.ev.length) (hb:p.2 < x.ev.length) (w:World) (hcb:w.cell? ⟨cb,0,none⟩=some (.pointer (some ⟨q,0,none⟩))) (hj:Md.JIn w q x) :
 Calls Tryz.prog 74 #[Md.pkV p,.pointer (some ⟨cb,0,none⟩)] w fun e w'=>e=.returned (.bool (Md.oneA x p))∧Below w.heap.size w w':=by
 obtain⟨e1,he1⟩:∃ e,x.ev[p.1]?=some e:=⟨_,List.getElem?_eq_getElem ha⟩
 obtain⟨e2,he2⟩:∃ e,x.ev[p.2]?=some e:=⟨_,List.getElem?_eq_getElem hb⟩
 obtain⟨g,o,eg,hc1⟩:=hj.xin.ev.at_ he1
 obtain⟨g',o',eg',hc2⟩:=hj.xin.ev.at_ he2
 rw [eg] at eg'
 obtain⟨rfl,rfl⟩:g=g'∧o=o':=by simpa using eg'
 have hl1:=hj.xin.ev.le;have hl2:=hj.xin.ev.max
 obtain⟨V,hV⟩:∃ V,V=w.alloc (.cells #[.int .i64 (p.1:Int),.int .i64 (p.2:Int)] 72):=⟨_,rfl⟩
 have hb0:Below w.heap.size w V:=by rw [hV];exact(Below.refl _ _).alloc (Nat.le_refl _) _
 have rp:V.heap[w.heap.size]?=some (.cells #[.int .i64 (p.1:Int),.int .i64 (p.2:Int)] 72 (0,0)):=by rw [hV];exact heap_alloc_new _ _
 have cp0:V.cell? ⟨w.heap.size,0,none⟩=some (.int .i64 (p.1:Int)):=by rw [qC rp];rfl
 have cp1:V.cell? ⟨w.heap.size,1,none⟩=some (.int .i64 (p.2:Int)):=by rw [qC rp];rfl
 have k0:=Ev.kp_below hb0
 have cj:=k0 _ _ hcb;have ce:=k0 _ _ hj.c0
 rw [eg] at ce
 have hn1:=Ev.nth_some he1;have hn2:=Ev.nth_some he2
 have hai:(p.1:Int) < (x.ev.length:Int):=by omega
 have hbi:(p.2:Int) < (x.ev.length:Int):=by omega
 have LC:=qH (fun (X:World) (hx:Og.Std V X)=>ld_cell Tryz.isAgg64 (Og.std_cell hx cj))
 have LB:=qH (fun (X:World) (hx:Og.Std V X)=>ld_cell Tryz.isAgg22 (Og.std_cell hx ce))
 have LP0:=qH (fun (X:World) (hx:Og.Std V X)=>ld_cell Tryz.isAgg3 (Og.std_cell hx cp0))
 have LP1:=qH (fun (X:World) (hx:Og.Std V X)=>ld_cell Tryz.isAgg3 (Og.std_cell hx cp1))
 have LX:=qH (fun (X:World) (hx:Og.Std V X)=>run_loadVar_at (P:=Tryz.prog) X g (o+p.1 * 13) 48 (Ev.cells e1) _ (fun i c hi=>Og.std_cell hx (k0 _ _ (hc1 i c hi))) Tryz.underlying48 rfl (by kernel_rfl))
 have LY:=qH (fun (X:World) (hx:Og.Std V X)=>run_loadVar_at (P:=Tryz.prog) X g (o+p.2 * 13) 48 (Ev.cells e2) _ (fun i c hi=>Og.std_cell hx (k0 _ _ (hc2 i c hi))) Tryz.underlying48 rfl (by kernel_rfl))
 have HR:=qH (show Md.oneA x p=(!(e1.k==4)&&!(e2.k==4)&&e1.a==e2.a) by unfold Md.oneA;rw [hn1,hn2])
 rw [HR.out]
 obtain⟨b1,hb1⟩:∃ b,(e1.k==4)=b:=⟨_,rfl⟩
 obtain⟨b2,hb2⟩:∃ b,(e2.k==4)=b:=⟨_,rfl⟩
 obtain⟨b3,hb3⟩:∃ b,(e1.a==e2.a)=b:=⟨_,rfl⟩
 have HF1:=qH hb1;have HF2:=qH hb2;have HF3:=qH hb3
 rw [hb1,hb2,hb3]
 clear hb1 hb2 hb3
 have HB0:=qH hb0;have HV:=qH hV
 clear he1 he2 eg hc1 hc2 hV hb0 rp k0 hcb hj hn1 hn2 eg' cj ce cp0 cp1
 unfold Md.pkV
 go_enter Tryz.func74,Tryz.ntmps74
 go_wp2
 rw [← HV.out]
 refine wp_region_held (S:=Og.Std V) (by kernel_rfl) ?_
 have S0:Og.Std V { V with drawn:=V.drawn+1 }:=⟨rfl,rfl,rfl,Nat.le_refl _,fun _ _=>rfl⟩
 refine Og.held_take 0 ({ dst:=some 6,op:=Go.Op.load 64 (Go.Operand.tmp 1),type:=64,pos:= "judged.go:29",after:=#[],guard:=none }) (.pointer (some ⟨q,0,none⟩)) _ rfl rfl (by kernel_rfl) (by kernel_rfl) (by kernel_rfl) (fun _ _ _ h=>h) S0 (fun x hx=>?_) (by simp only [Act.put,qa,qb,qc];rfl) ?_
 ·exact Og.load_run 64 (.tmp 1) rfl ⟨cb,0,none⟩ (by kernel_rfl) (LC.out _ hx)
 refine Og.held_take 1 ({ dst:=some 7,op:=Go.Op.nilCheck (Go.Operand.tmp 6),type:=0,pos:= "judged.go:29",after:=#[{ on:=0,ground:=Go.Ground.data }],guard:=none }) (.pointer (some ⟨q,0,none⟩)) _ rfl rfl (by kernel_rfl) (by kernel_rfl) (by kernel_rfl) (fun _ _ _ h=>h) S0 (fun x hx=>?_) (by simp only [Act.put,qa,qb,qc];rfl) ?_
 ·go_simp;try (with_reducible rfl)
 refine Og.held_take 2 ({ dst:=some 8,op:=Go.Op.fieldAddr 83 (Go.Operand.tmp 7) 0,type:=0,pos:= "judged.go:29",after:=#[{ on:=1,ground:=Go.Ground.data }],guard:=none }) (.pointer (some ⟨q,0,none⟩)) _ rfl rfl (by kernel_rfl) (by kernel_rfl) (by kernel_rfl) (fun _ _ _ h=>h) S0 (fun x hx=>?_) (by simp only [Act.put,qa,qb,qc];rfl) ?_
 ·go_simp;try (with_reducible rfl)
 refine Og.held_take 3 ({ dst:=some 9,op:=Go.Op.fieldAddr 26 (Go.Operand.tmp 8) 0,type:=0,pos:= "judged.go:29",after:=#[{ on:=2,ground:=Go.Ground.data }],guard:=none }) (.pointer (some ⟨q,0,none⟩)) _ rfl rfl (by kernel_rfl) (by kernel_rfl) (by kernel_rfl) (fun _ _ _ h=>h) S0 (fun x hx=>?_) (by simp only [Act.put,qa,qb,qc];rfl) ?_
 ·go_simp;try (with_reducible rfl)
 refine Og.held_take 4 ({ dst:=some 10,op:=Go.Op.load 22 (Go.Operand.tmp 9),type:=22,pos:= "judged.go:29",after:=#[{ on:=3,ground:=Go.Ground.data }],guard:=none }) (.slice (some ⟨g,o,none⟩) x.ev.length x.ce) _ rfl rfl (by kernel_rfl) (by kernel_rfl) (by kernel_rfl) (fun _ _ _ h=>h) S0 (fun x hx=>?_) (by simp only [Act.put,qa,qb,qc];rfl) ?_
 ·exact Og.load_run 22 (.tmp 9) rfl ⟨q,0,none⟩ (by kernel_rfl) (LB.out _ hx)
 refine Og.held_take 5 ({ dst:=some 11,op:=Go.Op.fieldAddr 72 (Go.Operand.tmp 2) 0,type:=0,pos:= "judged.go:29",after:=#[],guard:=none }) (.pointer (some ⟨w.heap.size,0,none⟩)) _ rfl rfl (by kernel_rfl) (by kernel_rfl) (by kernel_rfl) (fun _ _ _ h=>h) S0 (fun x hx=>?_) (by simp only [Act.put,qa,qb,qc];rfl) ?_
 ·go_simp;try (with_reducible rfl)
 refine Og.held_take 6 ({ dst:=some 12,op:=Go.Op.load 3 (Go.Operand.tmp 11),type:=3,pos:= "judged.go:29",after:=#[{ on:=5,ground:=Go.Ground.data }],guard:=none }) (.int .i64 (p.1:Int)) _ rfl rfl (by kernel_rfl) (by kernel_rfl) (by kernel_rfl) (fun _ _ _ h=>h) S0 (fun x hx=>?_) (by simp only [Act.put,qa,qb,qc];rfl) ?_
 ·exact Og.load_run 3 (.tmp 11) rfl ⟨w.heap.size,0,none⟩ (by kernel_rfl) (LP0.out _ hx)
 refine Og.held_take 7 ({ dst:=some 13,op:=Go.Op.indexAddr 22 (Go.Operand.tmp 10) (Go.Operand.tmp 12),type:=0,pos:= "judged.go:29",after:=#[{ on:=4,ground:=Go.Ground.data },{ on:=6,ground:=Go.Ground.data }],guard:=none }) (.pointer (some ⟨g,o+p.1 * 13,none⟩)) _ rfl rfl (by kernel_rfl) (by kernel_rfl) (by kernel_rfl) (fun _ _ _ h=>h) S0 (fun x hx=>?_) (by simp only [Act.put,qa,qb,qc];rfl) ?_
 ·go_simp;try (with_reducible rfl)
 refine Og.held_take 8 ({ dst:=some 14,op:=Go.Op.load 48 (Go.Operand.tmp 13),type:=48,pos:= "judged.go:29",after:=#[{ on:=7,ground:=Go.Ground.data }],guard:=none }) (.agg (Ev.cells e1).toArray) _ rfl rfl (by kernel_rfl) (by kernel_rfl) (by kernel_rfl) (fun _ _ _ h=>h) S0 (fun x hx=>?_) (by simp only [Act.put,qa,qb,qc];rfl) ?_
 ·exact Og.load_run 48 (.tmp 13) rfl ⟨g,o+p.1 * 13,none⟩ (by kernel_rfl) (LX.out _ hx)
 refine Og.held_take 9 ({ dst:=some 15,op:=Go.Op.load 64 (Go.Operand.tmp 1),type:=64,pos:= "judged.go:29",after:=#[{ on:=20,ground:=Go.Ground.gcOnly Go.Departure.lateStores }],guard:=none }) (.pointer (some ⟨q,0,none⟩)) _ rfl rfl (by kernel_rfl) (by kernel_rfl) (by kernel_rfl) (fun _ _ _ h=>h) S0 (fun x hx=>?_) (by simp only [Act.put,qa,qb,qc];rfl) ?_
 ·exact Og.load_run 64 (.tmp 1) rfl ⟨cb,0,none⟩ (by kernel_rfl) (LC.out _ hx)
 refine Og.held_take 10 ({ dst:=some 16,op:=Go.Op.nilCheck (Go.Operand.tmp 15),type:=0,pos:= "judged.go:29",after:=#[{ on:=9,ground:=Go.Ground.data },{ on:=20,ground:=Go.Ground.gcOnly Go.Departure.lateStores }],guard:=none }) (.pointer (some ⟨q,0,none⟩)) _ rfl rfl (by kernel_rfl) (by kernel_rfl) (by kernel_rfl) (fun _ _ _ h=>h) S0 (fun x hx=>?_) (by simp only [Act.put,qa,qb,qc];rfl) ?_
 ·go_simp;try (with_reducible rfl)
 refine Og.held_take 11 ({ dst:=some 17,op:=Go.Op.fieldAddr 83 (Go.Operand.tmp 16) 0,type:=0,pos:= "judged.go:29",after:=#[{ on:=10,ground:=Go.Ground.data },{ on:=20,ground:=Go.Ground.gcOnly Go.Departure.lateStores }],guard:=none }) (.pointer (some ⟨q,0,none⟩)) _ rfl rfl (by kernel_rfl) (by kernel_rfl) (by kernel_rfl) (fun _ _ _ h=>h) S0 (fun x hx=>?_) (by simp only [Act.put,qa,qb,qc];rfl) ?_
 ·go_simp;try (with_reducible rfl)
 refine Og.held_take 12 ({ dst:=some 18,op:=Go.Op.fieldAddr 26 (Go.Operand.tmp 17) 0,type:=0,pos:= "judged.go:29",after:=#[{ on:=11,ground:=Go.Ground.data },{ on:=20,ground:=Go.Ground.gcOnly Go.Departure.lateStores }],guard:=none }) (.pointer (some ⟨q,0,none⟩)) _ rfl rfl (by kernel_rfl) (by kernel_rfl) (by kernel_rfl) (fun _ _ _ h=>h) S0 (fun x hx=>?_) (by simp only [Act.put,qa,qb,qc];rfl) ?_
 ·go_simp;try (with_reducible rfl)
 refine Og.held_take 13 ({ dst:=some 19,op:=Go.Op.load 22 (Go.Operand.tmp 18),type:=22,pos:= "judged.go:29",after:=#[{ on:=12,ground:=Go.Ground.data },{ on:=20,ground:=Go.Ground.gcOnly Go.Departure.lateStores }],guard:=none }) (.slice (some ⟨g,o,none⟩) x.ev.length x.ce) _ rfl rfl (by kernel_rfl) (by kernel_rfl) (by kernel_rfl) (fun _ _ _ h=>h) S0 (fun x hx=>?_) (by simp only [Act.put,qa,qb,qc];rfl) ?_
 ·exact Og.load_run 22 (.tmp 18) rfl ⟨q,0,none⟩ (by kernel_rfl) (LB.out _ hx)
 refine Og.held_take 14 ({ dst:=some 20,op:=Go.Op.fieldAddr 72 (Go.Operand.tmp 2) 1,type:=0,pos:= "judged.go:29",after:=#[{ on:=20,ground:=Go.Ground.gcOnly Go.Departure.lateStores }],guard:=none }) (.pointer (some ⟨w.heap.size,1,none⟩)) _ rfl rfl (by kernel_rfl) (by kernel_rfl) (by kernel_rfl) (fun _ _ _ h=>h) S0 (fun x hx=>?_) (by simp only [Act.put,qa,qb,qc];rfl) ?_
 ·go_simp;try (with_reducible rfl)
 refine Og.held_take 15 ({ dst:=some 21,op:=Go.Op.load 3 (Go.Operand.tmp 20),type:=3,pos:= "judged.go:29",after:=#[{ on:=14,ground:=Go.Ground.data },{ on:=20,ground:=Go.Ground.gcOnly Go.Departure.lateStores }],guard:=none }) (.int .i64 (p.2:Int)) _ rfl rfl (by kernel_rfl) (by kernel_rfl) (by kernel_rfl) (fun _ _ _ h=>h) S0 (fun x hx=>?_) (by simp only [Act.put,qa,qb,qc];rfl) ?_
 ·exact Og.load_run 3 (.tmp 20) rfl ⟨w.heap.size,1,none⟩ (by kernel_rfl) (LP1.out _ hx)
 refine Og.held_take 16 ({ dst:=some 22,op:=Go.Op.indexAddr 22 (Go.Operand.tmp 19) (Go.Operand.tmp 21),type:=0,pos:= "judged.go:29",after:=#[{ on:=13,ground:=Go.Ground.data },{ on:=15,ground:=Go.Ground.data },{ on:=20,ground:=Go.Ground.gcOnly Go.Departure.lateStores }],guard:=none }) (.pointer (some ⟨g,o+p.2 * 13,none⟩)) _ rfl rfl (by kernel_rfl) (by kernel_rfl) (by kernel_rfl) (fun _ _ _ h=>h) S0 (fun x hx=>?_) (by simp only [Act.put,qa,qb,qc];rfl) ?_
 ·go_simp;try (with_reducible rfl)
 refine Og.held_take 17 ({ dst:=some 23,op:=Go.Op.load 48 (Go.Operand.tmp 22),type:=48,pos:= "judged.go:29",after:=#[{ on:=16,ground:=Go.Ground.data },{ on:=20,ground:=Go.Ground.gcOnly Go.Departure.lateStores }],guard:=none }) (.agg (Ev.cells e2).toArray) _ rfl rfl (by kernel_rfl) (by kernel_rfl) (by kernel_rfl) (fun _ _ _ h=>h) S0 (fun x hx=>?_) (by simp only [Act.put,qa,qb,qc];rfl) ?_
 ·exact Og.load_run 48 (.tmp 22) rfl ⟨g,o+p.2 * 13,none⟩ (by kernel_rfl) (LY.out _ hx)
 refine Og.four (p:=18) (q:=19) (s1:=20) (s2:=21) (dp:=4) (dq:=5) (x1:=14) (x2:=23) (T:=48) (Z:=(Ev.cells Ev.R0).toArray) (c1:=(Ev.cells e1).toArray) (c2:=(Ev.cells e2).toArray)
  ⟨⟨_,rfl,rfl,rfl,fun ρ w=>by kernel_rfl⟩,⟨_,rfl,rfl,rfl,fun ρ w=>by kernel_rfl⟩,⟨_,rfl,rfl,rfl,rfl⟩,⟨_,rfl,rfl,rfl,rfl⟩,(by kernel_rfl),(by kernel_rfl),(by kernel_rfl),(by kernel_rfl),(by kernel_rfl),(by kernel_rfl),(by kernel_rfl),(by kernel_rfl),(by kernel_rfl),(by kernel_rfl),(by kernel_rfl),of_decide_eq_true (by kernel_rfl),of_decide_eq_true (by kernel_rfl),(by decide),rfl,rfl,(by kernel_rfl),(by kernel_rfl),(by kernel_rfl),(by kernel_rfl)⟩ S0 ?_
 intro W g1 g2 HT
 simp only [Act.put,qa,qb,qc]
 have R1:=qH HT.r1;have R2:=qH HT.r2;have BT:=qH (HB0.out.trans (HT.below.mono HB0.out.size))
 clear HT LC LB LP0 LP1 LX LY
 go_wp2_with ((with_reducible refine qG 24 ?_);refine wpList_load_row rfl 48 (.tmp 4) rfl g1 (by kernel_rfl) 48 (Ev.cells e1).toArray (0,0) _ R1.out Tryz.underlying48 rfl (by kernel_rfl) ?_)
 have HI1:=isFence_any e1 W
 rw [HF1.out] at HI1
 refine HI1.mono ?_
 clear HI1
 rintro r W1 ⟨rfl,hbw⟩
 have B1:=qH (BT.out.trans (hbw.mono BT.out.size))
 have S1:=qH ((hbw.block _ (qL R1.out)).trans R1.out)
 have S2:=qH ((hbw.block _ (qL R2.out)).trans R2.out)
 clear hbw
 cases b1
 case true =>
  go_wp2_with fail
  go_ret
  exact⟨rfl,B1.out⟩
 go_wp2_with ((with_reducible refine qG 28 ?_);refine Ev.load_row_g 48 (.tmp 5) rfl rfl g2 (by kernel_rfl) 48 (Ev.cells e2).toArray (0,0) _ S2.out Tryz.underlying48 rfl (by kernel_rfl) ?_)
 have HI2:=isFence_any e2 W1
 rw [HF2.out] at HI2
 refine HI2.mono ?_
 clear HI2
 rintro r W2 ⟨rfl,hbw⟩
 have B2:=qH (B1.out.trans (hbw.mono B1.out.size))
 have ca1:W2.cell? ⟨g1,2,none⟩=some (.int .u32 e1.a):=by rw [qC ((hbw.block _ (qL S1.out)).trans S1.out)];rfl
 have ca2:W2.cell? ⟨g2,2,none⟩=some (.int .u32 e2.a):=by rw [qC ((hbw.block _ (qL S2.out)).trans S2.out)];rfl
 clear hbw
 cases b2
 case true =>
  go_wp2_with fail
  go_ret
  exact⟨rfl,B2.out⟩
 have hb3:=HF3.out
 cases b3
 all_goals
  go_wp2_with fail
  go_ret
  exact⟨rfl,B2.out⟩
end Go.Proofs.YtnjnpbabgefaeaaGreat
end
section
namespace Go.Proofs.YtnjnpbabgefaeaaGreat
open Go.RowKit
namespace Md
open Ev
def PrS (ps:List (Nat × Nat)) (v:Value) (w:World):Prop:=∃ a c,v=.slice a ps.length c∧PairsIn w a c ps
def SetS (S:List (Nat × Nat)) (v:Value) (w:World):Prop:=∃ b n,v=.map (some b)∧PSet w b n S
def RisS (S:List (Nat × Nat)) (v:Value) (w:World):Prop:=∃ a c L,v=.slice a L.length c∧Ris S L∧PairsIn w a c L
def BoolS (p:Prop) (v:Value) (_:World):Prop:=∃ b:Bool,v=.bool b∧(b=true↔p)
theorem psin {w:World} {a:Option Addr} {c:Nat} {L:List (Nat × Nat)} (h:PairsIn w a c L) (hlt:∀ p ∈ L,p.1 < 64∧p.2 < 64):PsIn w a c (gI L):=by
 refine⟨?_,?_,by simpa [gI] using h.le,h.max⟩
 ·have e:(gI L).map pz=L.map pv:=by unfold gI;rw [List.map_map];rfl
  rw [e];exact h.rows
 ·intro p hp
  obtain⟨q,hq,rfl⟩:=List.mem_map.1 hp
  have:=hlt q hq
  exact⟨⟨by simp <;> omega,by simp <;> omega⟩,⟨by simp <;> omega,by simp <;> omega⟩⟩
theorem rk_same {S L:List (Nat × Nat)} (h:∀ p,p ∈ L↔p ∈ S):Rk (gI L)↔Rk (gI S) :=
 ⟨fun k=>rk_sub (fun p hp=>by obtain⟨q,hq,e⟩:=List.mem_map.1 hp;exact List.mem_map.2 ⟨q,(h q).2 hq,e⟩) k,fun k=>rk_sub (fun p hp=>by obtain⟨q,hq,e⟩:=List.mem_map.1 hp;exact List.mem_map.2 ⟨q,(h q).1 hq,e⟩) k⟩
theorem acy_rk {N:Nat} {L:List (Nat × Nat)} {b:Bool} (hN:N≤64) (hL:∀ p ∈ L,p.1 < N∧p.2 < N) (h:AcyR N (gI L) b):b=true↔Rk (gI L):=by
 have hr:=inR_pl hN hL
 rcases h with ⟨rfl,hn⟩ | ⟨rfl,_,hc⟩ | ⟨rfl,_,ht⟩
 ·exact absurd hr hn
 ·exact⟨fun e=>(by cases e),fun k=>absurd hc (rk_no_cyc k)⟩
 ·exact⟨fun _=>(rk_tp hr).2 ht,fun _=>rfl⟩
theorem ris_len {S L:List (Nat × Nat)} (h:Ris S L) (hS:S.length≤65536):L.length≤65536:=by
 have hd:L.Nodup:=h.1.imp fun {a b} hab=>fun e=>by subst e;rw [ltP_iff] at hab;omega
 exact Nat.le_trans (nodup_le hd fun x hx=>(h.2 x).1 hx) hS
end Md
theorem noCircle_any (x:Ev.X) (q b n:Nat) (S:List (Nat × Nat)) (hS:S.length≤65536) (hN64:x.ev.length≤64) (hN:∀ p ∈ S,p.1 < x.ev.length∧p.2 < x.ev.length) (w:World) (hj:Md.JIn w q x) (hs:Md.PSet w b n S) :
 Calls Tryz.prog 76 #[.pointer (some ⟨q,0,none⟩),.map (some b)] w fun e w'=>∃ r:Bool,e=.returned (.bool r)∧(r=true↔Md.Rk (Md.gI S))∧Below w.heap.size w w':=by
 have HJ:=qH hj;have HS:=qH hs;have HN:=qH hN
 clear hj hs hN
 go_enter Tryz.func76,Tryz.ntmps76
 go_wp2
 refine Og.region3 (by kernel_rfl) (fun t=>([(5,0),(6,1),(7,2),(8,3),(9,4),(10,5),(11,6),(12,7),(13,8),(4,9)]:List (Nat × Nat)).lookup t)
  [.is (.pointer (some ⟨q,0,none⟩)),.is (.pointer (some ⟨q,0,none⟩)),.is (.pointer (some ⟨q,0,none⟩)),.is (.pointer (some ⟨q,0,none⟩)),.is (.slice x.ae x.ev.length x.ce),.is (.int .i64 (x.ev.length:Int)),.is (.map (some b)),.says (Md.RisS S),.says (Md.BoolS (Md.Rk (Md.gI S))),.says (Md.BoolS (Md.Rk (Md.gI S)))]
  [true,true,true,true,true,true,true,true,true,true] (by kernel_rfl) ?_ ?_
 ·refine⟨?_,?_,?_,?_,?_,?_,?_,?_,?_,?_,trivial⟩
  ·refine⟨rfl,fun ρ w1 hr hd=>?_⟩
   obtain⟨d0,_⟩:=hd
   have d0:ρ (.tmp 0)=.pointer (some ⟨q,0,none⟩):=d0
   refine(if_pos (by rfl)).mpr ?_
   refine Og.gives_is (.pointer (some ⟨q,0,none⟩)) ?_ (And.intro (Below.refl _ _) rfl)
   go_simp
  ·refine⟨rfl,fun ρ w1 hr hd=>?_⟩
   obtain⟨d0,_⟩:=hd
   have d0:ρ (.tmp 5)=.pointer (some ⟨q,0,none⟩):=d0
   refine(if_pos (by rfl)).mpr ?_
   refine Og.gives_is (.pointer (some ⟨q,0,none⟩)) ?_ (And.intro (Below.refl _ _) rfl)
   go_simp;try (with_reducible rfl)
  ·refine⟨rfl,fun ρ w1 hr hd=>?_⟩
   obtain⟨d0,_⟩:=hd
   have d0:ρ (.tmp 6)=.pointer (some ⟨q,0,none⟩):=d0
   refine(if_pos (by rfl)).mpr ?_
   refine Og.gives_is (.pointer (some ⟨q,0,none⟩)) ?_ (And.intro (Below.refl _ _) rfl)
   go_simp;try (with_reducible rfl)
  ·refine⟨rfl,fun ρ w1 hr hd=>?_⟩
   obtain⟨d0,_⟩:=hd
   have d0:ρ (.tmp 7)=.pointer (some ⟨q,0,none⟩):=d0
   refine(if_pos (by rfl)).mpr ?_
   refine Og.gives_is (.pointer (some ⟨q,0,none⟩)) ?_ (And.intro (Below.refl _ _) rfl)
   go_simp;try (with_reducible rfl)
  ·refine⟨rfl,fun ρ w1 hr hd=>?_⟩
   obtain⟨d0,_⟩:=hd
   have d0:ρ (.tmp 8)=.pointer (some ⟨q,0,none⟩):=d0
   refine(if_pos (by rfl)).mpr ?_
   refine Og.gives_is (.slice x.ae x.ev.length x.ce) ?_ (And.intro (Below.refl _ _) rfl)
   exact Og.load_run 22 (.tmp 8) rfl ⟨q,0,none⟩ d0 (ld_cell Tryz.isAgg22 ((HJ.out.kp (hr.mono (Nat.le_refl _))).c0))
  ·refine⟨rfl,fun ρ w1 hr hd=>?_⟩
   obtain⟨d0,_⟩:=hd
   have d0:ρ (.tmp 9)=.slice x.ae x.ev.length x.ce:=d0
   refine(if_pos (by rfl)).mpr ?_
   refine Og.gives_is (.int .i64 (x.ev.length:Int)) ?_ (And.intro (Below.refl _ _) rfl)
   go_simp;try (with_reducible rfl)
  ·refine⟨rfl,fun ρ w1 hr hd=>?_⟩
   obtain⟨d0,_⟩:=hd
   have d0:ρ (.tmp 1)=.map (some b):=d0
   refine(if_pos (by rfl)).mpr ?_
   refine Og.gives_is (.map (some b)) ?_ (And.intro (Below.refl _ _) rfl)
   go_simp
  ·refine⟨rfl,fun ρ w1 hr hd=>?_⟩
   obtain⟨d0,d1,_⟩:=hd
   have df:ρ (.func 41)=.func (.func 41) #[] #[]:=d0
   have d0:ρ (.tmp 11)=.map (some b):=d1
   refine(if_pos (by rfl)).mpr ?_
   refine Og.gives_call 41 #[.map (some b)] ?_ ?_
   ·go_simp
   ·refine(rising_any b n S hS w1 (HS.out.kp hr)).mono ?_
    rintro r w2 ⟨a,c,L,rfl,h1,h2,hb⟩
    exact⟨_,rfl,hb,w2,Below.refl _ _,a,c,L,rfl,h1,h2⟩
  ·refine⟨rfl,fun ρ w1 hr hd=>?_⟩
   obtain⟨d0,d1,d2,_⟩:=hd
   have df:ρ (.func 102)=.func (.func 102) #[] #[]:=d0
   have d0:ρ (.tmp 10)=.int .i64 (x.ev.length:Int):=d1
   have d1:∃ w1',Below w1'.heap.size w1' w1∧(Md.RisS S) (ρ (.tmp 12)) w1':=d2
   refine(if_pos (by rfl)).mpr ?_
   obtain⟨w0,hb0,a,c,L,hv,hris,hp⟩:=d1
   have hLS:=hris.2
   have hL:∀ p ∈ L,p.1 < x.ev.length∧p.2 < x.ev.length:=fun p hp=>HN.out p ((hLS p).1 hp)
   have hlen:L.length=(Md.gI L).length:=by simp [Md.gI]
   have hll:=Md.ris_len hris hS
   have hp2:=(Md.psin (Md.PairsIn.kp hp (Ev.kp_below hb0)) (fun p hp=>by have:=hL p hp;omega))
   refine Og.gives_call 102 #[.int .i64 (x.ev.length:Int),.slice a L.length c] ?_ ?_
   ·go_simp
   ·refine(hlen ▸ acyclic_any (x.ev.length:Int) ⟨by omega,by omega⟩ a c (Md.gI L) (by rw [← hlen];omega) w1 hp2).mono ?_
    rintro r w2 ⟨r0,rfl,hR,hb⟩
    exact⟨_,rfl,hb,w2,Below.refl _ _,r0,rfl,(Md.acy_rk hN64 hL hR).trans (Md.rk_same hLS)⟩
  ·refine⟨rfl,fun ρ w1 hr hd=>?_⟩
   obtain⟨d0,_⟩:=hd
   have d0:∃ w1',Below w1'.heap.size w1' w1∧(Md.BoolS (Md.Rk (Md.gI S))) (ρ (.tmp 13)) w1':=d0
   refine(if_pos (by rfl)).mpr ?_
   obtain⟨v0,hv0⟩:∃ v,ρ (.tmp 13)=v:=⟨_,rfl⟩
   rw [hv0] at d0
   refine Og.gives_is v0 ?_ (And.intro (Below.refl _ _) d0)
   go_simp
 ·intro vs w1 hbz hall
  have hend:∃ w1',Below w1'.heap.size w1' w1∧(Md.BoolS (Md.Rk (Md.gI S))) (vs 9) w1':=hall 9 _ 4 rfl rfl
  obtain⟨w0,hb0,r0,e0,h0⟩:=hend
  simp only [Og.putAll,Act.put,List.setIfInBounds_toArray,List.set_cons_zero,List.set_cons_succ,Nat.zero_add,Nat.reduceAdd,e0]
  have H0:=qH h0
  clear hall h0 e0
  go_wp2
  go_ret
  exact⟨r0,rfl,H0.out,hbz⟩
end Go.Proofs.YtnjnpbabgefaeaaGreat
end
