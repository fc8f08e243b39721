import Derived.Test.YtnjnpbabgefaeaaGreatKp10
import Derived.Deep.QuietTactic
import Derived.Laws.Rows
import Derived.Test.YtnjnpbabgefaeaaGreatKp01
import Derived.Test.YtnjnpbabgefaeaaGreatKpH
set_option maxRecDepth 100000
set_option maxHeartbeats 4000000
set_option linter.unusedVariables false
set_option linter.unusedSimpArgs false
section
namespace Go.Proofs.YtnjnpbabgefaeaaGreat
open Go.RowKit
theorem bare5_p (w:World) (h:Int) (a:Int) (v:Int) (r:Int) (q:Bool) (l:Bool) (p:Int) (s:Int) (z:Bool) (d1:Ev.Sl) (d2:Ev.Sl) (d3:Ev.Sl) (tp:decide (p < 0)=false) (tp3:decide (3 < p)=false) (ts:decide (s < 0)=false) (ts3:decide (3 < s)=false) (t:(p != 0)=true):Calls Tryz.prog 29 #[Ev.evV (⟨h,5,a,v,r,q,l,p,s,z,d1,d2,d3⟩:Ev.R)] w fun e w'=>e=.returned (.bool false)∧Below w.heap.size w w':=by
 have R0:=qH (heap_alloc_new w (.cells (Ev.cells (⟨h,5,a,v,r,q,l,p,s,z,d1,d2,d3⟩:Ev.R)).toArray 48))
 have B0:=qH ((Below.refl w.heap.size w).alloc (Nat.le_refl _) (.cells (Ev.cells (⟨h,5,a,v,r,q,l,p,s,z,d1,d2,d3⟩:Ev.R)).toArray 48))
 unfold Ev.evV Ev.cells
 go_enter Tryz.func29,Tryz.ntmps29
 go_wp2
 go_ret
 exact⟨rfl,B0.out⟩
theorem bare5_s (w:World) (h:Int) (a:Int) (v:Int) (r:Int) (q:Bool) (l:Bool) (s:Int) (z:Bool) (d1:Ev.Sl) (d2:Ev.Sl) (d3:Ev.Sl) (ts:decide (s < 0)=false) (ts3:decide (3 < s)=false) (t:(s != 0)=true):Calls Tryz.prog 29 #[Ev.evV (⟨h,5,a,v,r,q,l,0,s,z,d1,d2,d3⟩:Ev.R)] w fun e w'=>e=.returned (.bool false)∧Below w.heap.size w w':=by
 have R0:=qH (heap_alloc_new w (.cells (Ev.cells (⟨h,5,a,v,r,q,l,0,s,z,d1,d2,d3⟩:Ev.R)).toArray 48))
 have B0:=qH ((Below.refl w.heap.size w).alloc (Nat.le_refl _) (.cells (Ev.cells (⟨h,5,a,v,r,q,l,0,s,z,d1,d2,d3⟩:Ev.R)).toArray 48))
 unfold Ev.evV Ev.cells
 go_enter Tryz.func29,Tryz.ntmps29
 go_wp2
 go_ret
 exact⟨rfl,B0.out⟩
theorem bare5_q (w:World) (h:Int) (a:Int) (v:Int) (r:Int) (l:Bool) (z:Bool) (d1:Ev.Sl) (d2:Ev.Sl) (d3:Ev.Sl) :Calls Tryz.prog 29 #[Ev.evV (⟨h,5,a,v,r,true,l,0,0,z,d1,d2,d3⟩:Ev.R)] w fun e w'=>e=.returned (.bool false)∧Below w.heap.size w w':=by
 have R0:=qH (heap_alloc_new w (.cells (Ev.cells (⟨h,5,a,v,r,true,l,0,0,z,d1,d2,d3⟩:Ev.R)).toArray 48))
 have B0:=qH ((Below.refl w.heap.size w).alloc (Nat.le_refl _) (.cells (Ev.cells (⟨h,5,a,v,r,true,l,0,0,z,d1,d2,d3⟩:Ev.R)).toArray 48))
 unfold Ev.evV Ev.cells
 go_enter Tryz.func29,Tryz.ntmps29
 go_wp2
 go_ret
 exact⟨rfl,B0.out⟩
theorem bare5_l (w:World) (h:Int) (a:Int) (v:Int) (r:Int) (z:Bool) (d1:Ev.Sl) (d2:Ev.Sl) (d3:Ev.Sl) :Calls Tryz.prog 29 #[Ev.evV (⟨h,5,a,v,r,false,true,0,0,z,d1,d2,d3⟩:Ev.R)] w fun e w'=>e=.returned (.bool false)∧Below w.heap.size w w':=by
 have R0:=qH (heap_alloc_new w (.cells (Ev.cells (⟨h,5,a,v,r,false,true,0,0,z,d1,d2,d3⟩:Ev.R)).toArray 48))
 have B0:=qH ((Below.refl w.heap.size w).alloc (Nat.le_refl _) (.cells (Ev.cells (⟨h,5,a,v,r,false,true,0,0,z,d1,d2,d3⟩:Ev.R)).toArray 48))
 unfold Ev.evV Ev.cells
 go_enter Tryz.func29,Tryz.ntmps29
 go_wp2
 go_ret
 exact⟨rfl,B0.out⟩
theorem bare5_z (w:World) (h:Int) (a:Int) (v:Int) (r:Int) (d1:Ev.Sl) (d2:Ev.Sl) (d3:Ev.Sl) :Calls Tryz.prog 29 #[Ev.evV (⟨h,5,a,v,r,false,false,0,0,true,d1,d2,d3⟩:Ev.R)] w fun e w'=>e=.returned (.bool false)∧Below w.heap.size w w':=by
 have R0:=qH (heap_alloc_new w (.cells (Ev.cells (⟨h,5,a,v,r,false,false,0,0,true,d1,d2,d3⟩:Ev.R)).toArray 48))
 have B0:=qH ((Below.refl w.heap.size w).alloc (Nat.le_refl _) (.cells (Ev.cells (⟨h,5,a,v,r,false,false,0,0,true,d1,d2,d3⟩:Ev.R)).toArray 48))
 unfold Ev.evV Ev.cells
 go_enter Tryz.func29,Tryz.ntmps29
 go_wp2
 go_ret
 exact⟨rfl,B0.out⟩
theorem bare5_r (w:World) (h:Int) (a:Int) (v:Int) (r:Int) (d1:Ev.Sl) (d2:Ev.Sl) (d3:Ev.Sl) (t:(r != 0)=true):Calls Tryz.prog 29 #[Ev.evV (⟨h,5,a,v,r,false,false,0,0,false,d1,d2,d3⟩:Ev.R)] w fun e w'=>e=.returned (.bool false)∧Below w.heap.size w w':=by
 have R0:=qH (heap_alloc_new w (.cells (Ev.cells (⟨h,5,a,v,r,false,false,0,0,false,d1,d2,d3⟩:Ev.R)).toArray 48))
 have B0:=qH ((Below.refl w.heap.size w).alloc (Nat.le_refl _) (.cells (Ev.cells (⟨h,5,a,v,r,false,false,0,0,false,d1,d2,d3⟩:Ev.R)).toArray 48))
 unfold Ev.evV Ev.cells
 go_enter Tryz.func29,Tryz.ntmps29
 go_wp2_with (with_reducible show wpList _ _ _ (Oper.mk (some 72) _ _ _ _ _ :: _) _ _;refine wpList_load_row rfl 48 (.tmp 1) rfl w.heap.size rfl 48 (Ev.cells (⟨h,5,a,v,r,false,false,0,0,false,d1,d2,d3⟩:Ev.R)).toArray (0,0) _ R0.out Tryz.underlying48 rfl (by kernel_rfl) ?_)
 refine(rstores_is (x:=(⟨h,5,a,v,r,false,false,0,0,false,d1,d2,d3⟩:Ev.R)) (b:=true) rfl _).mono ?_
 rintro e W2 ⟨rfl,hb⟩
 have R2:=qH ((hb.block w.heap.size (by simp only [World.size_alloc];omega)).trans R0.out)
 have B2:=qH (B0.out.trans (hb.mono (by simp only [World.size_alloc];omega)));clear hb
 have c2:W2.cell? ⟨w.heap.size,2,none⟩=some (.int .u32 a):=by rw [qC R2.out];rfl
 have c3:W2.cell? ⟨w.heap.size,3,none⟩=some (.int .u32 v):=by rw [qC R2.out];rfl
 have c4:W2.cell? ⟨w.heap.size,4,none⟩=some (.int .u32 r):=by rw [qC R2.out];rfl
 have c10:W2.cell? ⟨w.heap.size,10,none⟩=some (.slice d1.a d1.l.length d1.c):=by rw [qC R2.out];rfl
 have c11:W2.cell? ⟨w.heap.size,11,none⟩=some (.slice d2.a d2.l.length d2.c):=by rw [qC R2.out];rfl
 have c12:W2.cell? ⟨w.heap.size,12,none⟩=some (.slice d3.a d3.l.length d3.c):=by rw [qC R2.out];rfl
 have c0:W2.cell? ⟨w.heap.size,0,none⟩=some (.int .i64 h):=by rw [qC R2.out];rfl
 go_wp2_with (with_reducible show wpList _ _ _ (Oper.mk (some 81) _ _ _ _ _ :: _) _ _;refine Ev.load_row_g 48 (.tmp 1) rfl rfl w.heap.size rfl 48 (Ev.cells (⟨h,5,a,v,r,false,false,0,0,false,d1,d2,d3⟩:Ev.R)).toArray (0,0) _ R2.out Tryz.underlying48 rfl (by kernel_rfl) ?_)
 refine(rloads_is (x:=(⟨h,5,a,v,r,false,false,0,0,false,d1,d2,d3⟩:Ev.R)) (b:=false) rfl _).mono ?_
 rintro e W3 ⟨rfl,hb⟩
 have R3:=qH ((hb.block w.heap.size (qL R2.out)).trans R2.out)
 have B3:=qH (B2.out.trans (hb.mono B2.out.size));clear hb c0 c2 c3 c4 c10 c11 c12
 have c2:W3.cell? ⟨w.heap.size,2,none⟩=some (.int .u32 a):=by rw [qC R3.out];rfl
 have c3:W3.cell? ⟨w.heap.size,3,none⟩=some (.int .u32 v):=by rw [qC R3.out];rfl
 have c4:W3.cell? ⟨w.heap.size,4,none⟩=some (.int .u32 r):=by rw [qC R3.out];rfl
 have c10:W3.cell? ⟨w.heap.size,10,none⟩=some (.slice d1.a d1.l.length d1.c):=by rw [qC R3.out];rfl
 have c11:W3.cell? ⟨w.heap.size,11,none⟩=some (.slice d2.a d2.l.length d2.c):=by rw [qC R3.out];rfl
 have c12:W3.cell? ⟨w.heap.size,12,none⟩=some (.slice d3.a d3.l.length d3.c):=by rw [qC R3.out];rfl
 have c0:W3.cell? ⟨w.heap.size,0,none⟩=some (.int .i64 h):=by rw [qC R3.out];rfl
 go_wp2
 go_ret
 exact⟨rfl,B3.out⟩
theorem bare5_d2 (w:World) (h:Int) (a:Int) (v:Int) (d1:Ev.Sl) (d2:Ev.Sl) (d3:Ev.Sl) (t:((d2.l.length:Int)==0)=false):Calls Tryz.prog 29 #[Ev.evV (⟨h,5,a,v,0,false,false,0,0,false,d1,d2,d3⟩:Ev.R)] w fun e w'=>e=.returned (.bool false)∧Below w.heap.size w w':=by
 have R0:=qH (heap_alloc_new w (.cells (Ev.cells (⟨h,5,a,v,0,false,false,0,0,false,d1,d2,d3⟩:Ev.R)).toArray 48))
 have B0:=qH ((Below.refl w.heap.size w).alloc (Nat.le_refl _) (.cells (Ev.cells (⟨h,5,a,v,0,false,false,0,0,false,d1,d2,d3⟩:Ev.R)).toArray 48))
 unfold Ev.evV Ev.cells
 go_enter Tryz.func29,Tryz.ntmps29
 go_wp2_with (with_reducible show wpList _ _ _ (Oper.mk (some 72) _ _ _ _ _ :: _) _ _;refine wpList_load_row rfl 48 (.tmp 1) rfl w.heap.size rfl 48 (Ev.cells (⟨h,5,a,v,0,false,false,0,0,false,d1,d2,d3⟩:Ev.R)).toArray (0,0) _ R0.out Tryz.underlying48 rfl (by kernel_rfl) ?_)
 refine(rstores_is (x:=(⟨h,5,a,v,0,false,false,0,0,false,d1,d2,d3⟩:Ev.R)) (b:=true) rfl _).mono ?_
 rintro e W2 ⟨rfl,hb⟩
 have R2:=qH ((hb.block w.heap.size (by simp only [World.size_alloc];omega)).trans R0.out)
 have B2:=qH (B0.out.trans (hb.mono (by simp only [World.size_alloc];omega)));clear hb
 have c2:W2.cell? ⟨w.heap.size,2,none⟩=some (.int .u32 a):=by rw [qC R2.out];rfl
 have c3:W2.cell? ⟨w.heap.size,3,none⟩=some (.int .u32 v):=by rw [qC R2.out];rfl
 have c4:W2.cell? ⟨w.heap.size,4,none⟩=some (.int .u32 0):=by rw [qC R2.out];rfl
 have c10:W2.cell? ⟨w.heap.size,10,none⟩=some (.slice d1.a d1.l.length d1.c):=by rw [qC R2.out];rfl
 have c11:W2.cell? ⟨w.heap.size,11,none⟩=some (.slice d2.a d2.l.length d2.c):=by rw [qC R2.out];rfl
 have c12:W2.cell? ⟨w.heap.size,12,none⟩=some (.slice d3.a d3.l.length d3.c):=by rw [qC R2.out];rfl
 have c0:W2.cell? ⟨w.heap.size,0,none⟩=some (.int .i64 h):=by rw [qC R2.out];rfl
 go_wp2_with (with_reducible show wpList _ _ _ (Oper.mk (some 81) _ _ _ _ _ :: _) _ _;refine Ev.load_row_g 48 (.tmp 1) rfl rfl w.heap.size rfl 48 (Ev.cells (⟨h,5,a,v,0,false,false,0,0,false,d1,d2,d3⟩:Ev.R)).toArray (0,0) _ R2.out Tryz.underlying48 rfl (by kernel_rfl) ?_)
 refine(rloads_is (x:=(⟨h,5,a,v,0,false,false,0,0,false,d1,d2,d3⟩:Ev.R)) (b:=false) rfl _).mono ?_
 rintro e W3 ⟨rfl,hb⟩
 have R3:=qH ((hb.block w.heap.size (qL R2.out)).trans R2.out)
 have B3:=qH (B2.out.trans (hb.mono B2.out.size));clear hb c0 c2 c3 c4 c10 c11 c12
 have c2:W3.cell? ⟨w.heap.size,2,none⟩=some (.int .u32 a):=by rw [qC R3.out];rfl
 have c3:W3.cell? ⟨w.heap.size,3,none⟩=some (.int .u32 v):=by rw [qC R3.out];rfl
 have c4:W3.cell? ⟨w.heap.size,4,none⟩=some (.int .u32 0):=by rw [qC R3.out];rfl
 have c10:W3.cell? ⟨w.heap.size,10,none⟩=some (.slice d1.a d1.l.length d1.c):=by rw [qC R3.out];rfl
 have c11:W3.cell? ⟨w.heap.size,11,none⟩=some (.slice d2.a d2.l.length d2.c):=by rw [qC R3.out];rfl
 have c12:W3.cell? ⟨w.heap.size,12,none⟩=some (.slice d3.a d3.l.length d3.c):=by rw [qC R3.out];rfl
 have c0:W3.cell? ⟨w.heap.size,0,none⟩=some (.int .i64 h):=by rw [qC R3.out];rfl
 go_wp2
 go_ret
 exact⟨rfl,B3.out⟩
theorem bare5_d1 (w:World) (h:Int) (a:Int) (v:Int) (d1:Ev.Sl) (d2a:Option Addr) (d2c:Nat) (d3:Ev.Sl) (t:((d1.l.length:Int)==0)=false):Calls Tryz.prog 29 #[Ev.evV (⟨h,5,a,v,0,false,false,0,0,false,d1,⟨d2a,d2c,[]⟩,d3⟩:Ev.R)] w fun e w'=>e=.returned (.bool false)∧Below w.heap.size w w':=by
 have R0:=qH (heap_alloc_new w (.cells (Ev.cells (⟨h,5,a,v,0,false,false,0,0,false,d1,⟨d2a,d2c,[]⟩,d3⟩:Ev.R)).toArray 48))
 have B0:=qH ((Below.refl w.heap.size w).alloc (Nat.le_refl _) (.cells (Ev.cells (⟨h,5,a,v,0,false,false,0,0,false,d1,⟨d2a,d2c,[]⟩,d3⟩:Ev.R)).toArray 48))
 unfold Ev.evV Ev.cells
 go_enter Tryz.func29,Tryz.ntmps29
 go_wp2_with (with_reducible show wpList _ _ _ (Oper.mk (some 72) _ _ _ _ _ :: _) _ _;refine wpList_load_row rfl 48 (.tmp 1) rfl w.heap.size rfl 48 (Ev.cells (⟨h,5,a,v,0,false,false,0,0,false,d1,⟨d2a,d2c,[]⟩,d3⟩:Ev.R)).toArray (0,0) _ R0.out Tryz.underlying48 rfl (by kernel_rfl) ?_)
 refine(rstores_is (x:=(⟨h,5,a,v,0,false,false,0,0,false,d1,⟨d2a,d2c,[]⟩,d3⟩:Ev.R)) (b:=true) rfl _).mono ?_
 rintro e W2 ⟨rfl,hb⟩
 have R2:=qH ((hb.block w.heap.size (by simp only [World.size_alloc];omega)).trans R0.out)
 have B2:=qH (B0.out.trans (hb.mono (by simp only [World.size_alloc];omega)));clear hb
 have c2:W2.cell? ⟨w.heap.size,2,none⟩=some (.int .u32 a):=by rw [qC R2.out];rfl
 have c3:W2.cell? ⟨w.heap.size,3,none⟩=some (.int .u32 v):=by rw [qC R2.out];rfl
 have c4:W2.cell? ⟨w.heap.size,4,none⟩=some (.int .u32 0):=by rw [qC R2.out];rfl
 have c10:W2.cell? ⟨w.heap.size,10,none⟩=some (.slice d1.a d1.l.length d1.c):=by rw [qC R2.out];rfl
 have c11:W2.cell? ⟨w.heap.size,11,none⟩=some (.slice d2a 0 d2c):=by rw [qC R2.out];rfl
 have c12:W2.cell? ⟨w.heap.size,12,none⟩=some (.slice d3.a d3.l.length d3.c):=by rw [qC R2.out];rfl
 have c0:W2.cell? ⟨w.heap.size,0,none⟩=some (.int .i64 h):=by rw [qC R2.out];rfl
 go_wp2_with (with_reducible show wpList _ _ _ (Oper.mk (some 81) _ _ _ _ _ :: _) _ _;refine Ev.load_row_g 48 (.tmp 1) rfl rfl w.heap.size rfl 48 (Ev.cells (⟨h,5,a,v,0,false,false,0,0,false,d1,⟨d2a,d2c,[]⟩,d3⟩:Ev.R)).toArray (0,0) _ R2.out Tryz.underlying48 rfl (by kernel_rfl) ?_)
 refine(rloads_is (x:=(⟨h,5,a,v,0,false,false,0,0,false,d1,⟨d2a,d2c,[]⟩,d3⟩:Ev.R)) (b:=false) rfl _).mono ?_
 rintro e W3 ⟨rfl,hb⟩
 have R3:=qH ((hb.block w.heap.size (qL R2.out)).trans R2.out)
 have B3:=qH (B2.out.trans (hb.mono B2.out.size));clear hb c0 c2 c3 c4 c10 c11 c12
 have c2:W3.cell? ⟨w.heap.size,2,none⟩=some (.int .u32 a):=by rw [qC R3.out];rfl
 have c3:W3.cell? ⟨w.heap.size,3,none⟩=some (.int .u32 v):=by rw [qC R3.out];rfl
 have c4:W3.cell? ⟨w.heap.size,4,none⟩=some (.int .u32 0):=by rw [qC R3.out];rfl
 have c10:W3.cell? ⟨w.heap.size,10,none⟩=some (.slice d1.a d1.l.length d1.c):=by rw [qC R3.out];rfl
 have c11:W3.cell? ⟨w.heap.size,11,none⟩=some (.slice d2a 0 d2c):=by rw [qC R3.out];rfl
 have c12:W3.cell? ⟨w.heap.size,12,none⟩=some (.slice d3.a d3.l.length d3.c):=by rw [qC R3.out];rfl
 have c0:W3.cell? ⟨w.heap.size,0,none⟩=some (.int .i64 h):=by rw [qC R3.out];rfl
 go_wp2
 go_ret
 exact⟨rfl,B3.out⟩
theorem bare5_d3 (w:World) (h:Int) (a:Int) (v:Int) (d1a:Option Addr) (d1c:Nat) (d2a:Option Addr) (d2c:Nat) (d3:Ev.Sl) (t:((d3.l.length:Int)==0)=false):Calls Tryz.prog 29 #[Ev.evV (⟨h,5,a,v,0,false,false,0,0,false,⟨d1a,d1c,[]⟩,⟨d2a,d2c,[]⟩,d3⟩:Ev.R)] w fun e w'=>e=.returned (.bool false)∧Below w.heap.size w w':=by
 have R0:=qH (heap_alloc_new w (.cells (Ev.cells (⟨h,5,a,v,0,false,false,0,0,false,⟨d1a,d1c,[]⟩,⟨d2a,d2c,[]⟩,d3⟩:Ev.R)).toArray 48))
 have B0:=qH ((Below.refl w.heap.size w).alloc (Nat.le_refl _) (.cells (Ev.cells (⟨h,5,a,v,0,false,false,0,0,false,⟨d1a,d1c,[]⟩,⟨d2a,d2c,[]⟩,d3⟩:Ev.R)).toArray 48))
 unfold Ev.evV Ev.cells
 go_enter Tryz.func29,Tryz.ntmps29
 go_wp2_with (with_reducible show wpList _ _ _ (Oper.mk (some 72) _ _ _ _ _ :: _) _ _;refine wpList_load_row rfl 48 (.tmp 1) rfl w.heap.size rfl 48 (Ev.cells (⟨h,5,a,v,0,false,false,0,0,false,⟨d1a,d1c,[]⟩,⟨d2a,d2c,[]⟩,d3⟩:Ev.R)).toArray (0,0) _ R0.out Tryz.underlying48 rfl (by kernel_rfl) ?_)
 refine(rstores_is (x:=(⟨h,5,a,v,0,false,false,0,0,false,⟨d1a,d1c,[]⟩,⟨d2a,d2c,[]⟩,d3⟩:Ev.R)) (b:=true) rfl _).mono ?_
 rintro e W2 ⟨rfl,hb⟩
 have R2:=qH ((hb.block w.heap.size (by simp only [World.size_alloc];omega)).trans R0.out)
 have B2:=qH (B0.out.trans (hb.mono (by simp only [World.size_alloc];omega)));clear hb
 have c2:W2.cell? ⟨w.heap.size,2,none⟩=some (.int .u32 a):=by rw [qC R2.out];rfl
 have c3:W2.cell? ⟨w.heap.size,3,none⟩=some (.int .u32 v):=by rw [qC R2.out];rfl
 have c4:W2.cell? ⟨w.heap.size,4,none⟩=some (.int .u32 0):=by rw [qC R2.out];rfl
 have c10:W2.cell? ⟨w.heap.size,10,none⟩=some (.slice d1a 0 d1c):=by rw [qC R2.out];rfl
 have c11:W2.cell? ⟨w.heap.size,11,none⟩=some (.slice d2a 0 d2c):=by rw [qC R2.out];rfl
 have c12:W2.cell? ⟨w.heap.size,12,none⟩=some (.slice d3.a d3.l.length d3.c):=by rw [qC R2.out];rfl
 have c0:W2.cell? ⟨w.heap.size,0,none⟩=some (.int .i64 h):=by rw [qC R2.out];rfl
 go_wp2_with (with_reducible show wpList _ _ _ (Oper.mk (some 81) _ _ _ _ _ :: _) _ _;refine Ev.load_row_g 48 (.tmp 1) rfl rfl w.heap.size rfl 48 (Ev.cells (⟨h,5,a,v,0,false,false,0,0,false,⟨d1a,d1c,[]⟩,⟨d2a,d2c,[]⟩,d3⟩:Ev.R)).toArray (0,0) _ R2.out Tryz.underlying48 rfl (by kernel_rfl) ?_)
 refine(rloads_is (x:=(⟨h,5,a,v,0,false,false,0,0,false,⟨d1a,d1c,[]⟩,⟨d2a,d2c,[]⟩,d3⟩:Ev.R)) (b:=false) rfl _).mono ?_
 rintro e W3 ⟨rfl,hb⟩
 have R3:=qH ((hb.block w.heap.size (qL R2.out)).trans R2.out)
 have B3:=qH (B2.out.trans (hb.mono B2.out.size));clear hb c0 c2 c3 c4 c10 c11 c12
 have c2:W3.cell? ⟨w.heap.size,2,none⟩=some (.int .u32 a):=by rw [qC R3.out];rfl
 have c3:W3.cell? ⟨w.heap.size,3,none⟩=some (.int .u32 v):=by rw [qC R3.out];rfl
 have c4:W3.cell? ⟨w.heap.size,4,none⟩=some (.int .u32 0):=by rw [qC R3.out];rfl
 have c10:W3.cell? ⟨w.heap.size,10,none⟩=some (.slice d1a 0 d1c):=by rw [qC R3.out];rfl
 have c11:W3.cell? ⟨w.heap.size,11,none⟩=some (.slice d2a 0 d2c):=by rw [qC R3.out];rfl
 have c12:W3.cell? ⟨w.heap.size,12,none⟩=some (.slice d3.a d3.l.length d3.c):=by rw [qC R3.out];rfl
 have c0:W3.cell? ⟨w.heap.size,0,none⟩=some (.int .i64 h):=by rw [qC R3.out];rfl
 go_wp2
 go_ret
 exact⟨rfl,B3.out⟩
theorem bare5_h (w:World) (h:Int) (a:Int) (v:Int) (d1a:Option Addr) (d1c:Nat) (d2a:Option Addr) (d2c:Nat) (d3a:Option Addr) (d3c:Nat) (t:(h==-1)=false):Calls Tryz.prog 29 #[Ev.evV (⟨h,5,a,v,0,false,false,0,0,false,⟨d1a,d1c,[]⟩,⟨d2a,d2c,[]⟩,⟨d3a,d3c,[]⟩⟩:Ev.R)] w fun e w'=>e=.returned (.bool false)∧Below w.heap.size w w':=by
 have R0:=qH (heap_alloc_new w (.cells (Ev.cells (⟨h,5,a,v,0,false,false,0,0,false,⟨d1a,d1c,[]⟩,⟨d2a,d2c,[]⟩,⟨d3a,d3c,[]⟩⟩:Ev.R)).toArray 48))
 have B0:=qH ((Below.refl w.heap.size w).alloc (Nat.le_refl _) (.cells (Ev.cells (⟨h,5,a,v,0,false,false,0,0,false,⟨d1a,d1c,[]⟩,⟨d2a,d2c,[]⟩,⟨d3a,d3c,[]⟩⟩:Ev.R)).toArray 48))
 unfold Ev.evV Ev.cells
 go_enter Tryz.func29,Tryz.ntmps29
 go_wp2_with (with_reducible show wpList _ _ _ (Oper.mk (some 72) _ _ _ _ _ :: _) _ _;refine wpList_load_row rfl 48 (.tmp 1) rfl w.heap.size rfl 48 (Ev.cells (⟨h,5,a,v,0,false,false,0,0,false,⟨d1a,d1c,[]⟩,⟨d2a,d2c,[]⟩,⟨d3a,d3c,[]⟩⟩:Ev.R)).toArray (0,0) _ R0.out Tryz.underlying48 rfl (by kernel_rfl) ?_)
 refine(rstores_is (x:=(⟨h,5,a,v,0,false,false,0,0,false,⟨d1a,d1c,[]⟩,⟨d2a,d2c,[]⟩,⟨d3a,d3c,[]⟩⟩:Ev.R)) (b:=true) rfl _).mono ?_
 rintro e W2 ⟨rfl,hb⟩
 have R2:=qH ((hb.block w.heap.size (by simp only [World.size_alloc];omega)).trans R0.out)
 have B2:=qH (B0.out.trans (hb.mono (by simp only [World.size_alloc];omega)));clear hb
 have c2:W2.cell? ⟨w.heap.size,2,none⟩=some (.int .u32 a):=by rw [qC R2.out];rfl
 have c3:W2.cell? ⟨w.heap.size,3,none⟩=some (.int .u32 v):=by rw [qC R2.out];rfl
 have c4:W2.cell? ⟨w.heap.size,4,none⟩=some (.int .u32 0):=by rw [qC R2.out];rfl
 have c10:W2.cell? ⟨w.heap.size,10,none⟩=some (.slice d1a 0 d1c):=by rw [qC R2.out];rfl
 have c11:W2.cell? ⟨w.heap.size,11,none⟩=some (.slice d2a 0 d2c):=by rw [qC R2.out];rfl
 have c12:W2.cell? ⟨w.heap.size,12,none⟩=some (.slice d3a 0 d3c):=by rw [qC R2.out];rfl
 have c0:W2.cell? ⟨w.heap.size,0,none⟩=some (.int .i64 h):=by rw [qC R2.out];rfl
 go_wp2_with (with_reducible show wpList _ _ _ (Oper.mk (some 81) _ _ _ _ _ :: _) _ _;refine Ev.load_row_g 48 (.tmp 1) rfl rfl w.heap.size rfl 48 (Ev.cells (⟨h,5,a,v,0,false,false,0,0,false,⟨d1a,d1c,[]⟩,⟨d2a,d2c,[]⟩,⟨d3a,d3c,[]⟩⟩:Ev.R)).toArray (0,0) _ R2.out Tryz.underlying48 rfl (by kernel_rfl) ?_)
 refine(rloads_is (x:=(⟨h,5,a,v,0,false,false,0,0,false,⟨d1a,d1c,[]⟩,⟨d2a,d2c,[]⟩,⟨d3a,d3c,[]⟩⟩:Ev.R)) (b:=false) rfl _).mono ?_
 rintro e W3 ⟨rfl,hb⟩
 have R3:=qH ((hb.block w.heap.size (qL R2.out)).trans R2.out)
 have B3:=qH (B2.out.trans (hb.mono B2.out.size));clear hb c0 c2 c3 c4 c10 c11 c12
 have c2:W3.cell? ⟨w.heap.size,2,none⟩=some (.int .u32 a):=by rw [qC R3.out];rfl
 have c3:W3.cell? ⟨w.heap.size,3,none⟩=some (.int .u32 v):=by rw [qC R3.out];rfl
 have c4:W3.cell? ⟨w.heap.size,4,none⟩=some (.int .u32 0):=by rw [qC R3.out];rfl
 have c10:W3.cell? ⟨w.heap.size,10,none⟩=some (.slice d1a 0 d1c):=by rw [qC R3.out];rfl
 have c11:W3.cell? ⟨w.heap.size,11,none⟩=some (.slice d2a 0 d2c):=by rw [qC R3.out];rfl
 have c12:W3.cell? ⟨w.heap.size,12,none⟩=some (.slice d3a 0 d3c):=by rw [qC R3.out];rfl
 have c0:W3.cell? ⟨w.heap.size,0,none⟩=some (.int .i64 h):=by rw [qC R3.out];rfl
 go_wp2
 go_ret
 exact⟨rfl,B3.out⟩
theorem bare5_ok (w:World) (a:Int) (v:Int) (d1a:Option Addr) (d1c:Nat) (d2a:Option Addr) (d2c:Nat) (d3a:Option Addr) (d3c:Nat) :Calls Tryz.prog 29 #[Ev.evV (⟨(-1),5,a,v,0,false,false,0,0,false,⟨d1a,d1c,[]⟩,⟨d2a,d2c,[]⟩,⟨d3a,d3c,[]⟩⟩:Ev.R)] w fun e w'=>e=.returned (.bool true)∧Below w.heap.size w w':=by
 have R0:=qH (heap_alloc_new w (.cells (Ev.cells (⟨(-1),5,a,v,0,false,false,0,0,false,⟨d1a,d1c,[]⟩,⟨d2a,d2c,[]⟩,⟨d3a,d3c,[]⟩⟩:Ev.R)).toArray 48))
 have B0:=qH ((Below.refl w.heap.size w).alloc (Nat.le_refl _) (.cells (Ev.cells (⟨(-1),5,a,v,0,false,false,0,0,false,⟨d1a,d1c,[]⟩,⟨d2a,d2c,[]⟩,⟨d3a,d3c,[]⟩⟩:Ev.R)).toArray 48))
 unfold Ev.evV Ev.cells
 go_enter Tryz.func29,Tryz.ntmps29
 go_wp2_with (with_reducible show wpList _ _ _ (Oper.mk (some 72) _ _ _ _ _ :: _) _ _;refine wpList_load_row rfl 48 (.tmp 1) rfl w.heap.size rfl 48 (Ev.cells (⟨(-1),5,a,v,0,false,false,0,0,false,⟨d1a,d1c,[]⟩,⟨d2a,d2c,[]⟩,⟨d3a,d3c,[]⟩⟩:Ev.R)).toArray (0,0) _ R0.out Tryz.underlying48 rfl (by kernel_rfl) ?_)
 refine(rstores_is (x:=(⟨(-1),5,a,v,0,false,false,0,0,false,⟨d1a,d1c,[]⟩,⟨d2a,d2c,[]⟩,⟨d3a,d3c,[]⟩⟩:Ev.R)) (b:=true) rfl _).mono ?_
 rintro e W2 ⟨rfl,hb⟩
 have R2:=qH ((hb.block w.heap.size (by simp only [World.size_alloc];omega)).trans R0.out)
 have B2:=qH (B0.out.trans (hb.mono (by simp only [World.size_alloc];omega)));clear hb
 have c2:W2.cell? ⟨w.heap.size,2,none⟩=some (.int .u32 a):=by rw [qC R2.out];rfl
 have c3:W2.cell? ⟨w.heap.size,3,none⟩=some (.int .u32 v):=by rw [qC R2.out];rfl
 have c4:W2.cell? ⟨w.heap.size,4,none⟩=some (.int .u32 0):=by rw [qC R2.out];rfl
 have c10:W2.cell? ⟨w.heap.size,10,none⟩=some (.slice d1a 0 d1c):=by rw [qC R2.out];rfl
 have c11:W2.cell? ⟨w.heap.size,11,none⟩=some (.slice d2a 0 d2c):=by rw [qC R2.out];rfl
 have c12:W2.cell? ⟨w.heap.size,12,none⟩=some (.slice d3a 0 d3c):=by rw [qC R2.out];rfl
 have c0:W2.cell? ⟨w.heap.size,0,none⟩=some (.int .i64 (-1)):=by rw [qC R2.out];rfl
 go_wp2_with (with_reducible show wpList _ _ _ (Oper.mk (some 81) _ _ _ _ _ :: _) _ _;refine Ev.load_row_g 48 (.tmp 1) rfl rfl w.heap.size rfl 48 (Ev.cells (⟨(-1),5,a,v,0,false,false,0,0,false,⟨d1a,d1c,[]⟩,⟨d2a,d2c,[]⟩,⟨d3a,d3c,[]⟩⟩:Ev.R)).toArray (0,0) _ R2.out Tryz.underlying48 rfl (by kernel_rfl) ?_)
 refine(rloads_is (x:=(⟨(-1),5,a,v,0,false,false,0,0,false,⟨d1a,d1c,[]⟩,⟨d2a,d2c,[]⟩,⟨d3a,d3c,[]⟩⟩:Ev.R)) (b:=false) rfl _).mono ?_
 rintro e W3 ⟨rfl,hb⟩
 have R3:=qH ((hb.block w.heap.size (qL R2.out)).trans R2.out)
 have B3:=qH (B2.out.trans (hb.mono B2.out.size));clear hb c0 c2 c3 c4 c10 c11 c12
 have c2:W3.cell? ⟨w.heap.size,2,none⟩=some (.int .u32 a):=by rw [qC R3.out];rfl
 have c3:W3.cell? ⟨w.heap.size,3,none⟩=some (.int .u32 v):=by rw [qC R3.out];rfl
 have c4:W3.cell? ⟨w.heap.size,4,none⟩=some (.int .u32 0):=by rw [qC R3.out];rfl
 have c10:W3.cell? ⟨w.heap.size,10,none⟩=some (.slice d1a 0 d1c):=by rw [qC R3.out];rfl
 have c11:W3.cell? ⟨w.heap.size,11,none⟩=some (.slice d2a 0 d2c):=by rw [qC R3.out];rfl
 have c12:W3.cell? ⟨w.heap.size,12,none⟩=some (.slice d3a 0 d3c):=by rw [qC R3.out];rfl
 have c0:W3.cell? ⟨w.heap.size,0,none⟩=some (.int .i64 (-1)):=by rw [qC R3.out];rfl
 go_wp2
 go_ret
 exact⟨rfl,B3.out⟩
end Go.Proofs.YtnjnpbabgefaeaaGreat
end
section
namespace Go.Proofs.YtnjnpbabgefaeaaGreat
open Go.RowKit
namespace Ev
def strong (x:R):Bool:=(x.q||x.l)&&(x.k==3||x.z)
def inSet (n:Int) (x:R):Bool:=n.tmod 2==1&&stores x.k||decide (2≤n)&&loads x.k
end Ev
theorem rstrong_any (x:Ev.R) (w:World):Calls Tryz.prog 91 #[Ev.evV x] w fun e w'=>e=.returned (.bool (Ev.strong x))∧Below w.heap.size w w':=by
 have B0:=qH ((Below.refl w.heap.size w).alloc (Nat.le_refl _) (.cells (Ev.cells x).toArray 48))
 obtain⟨h,k,a,v,r,q,l,p,s,z,d1,d2,d3⟩:=x
 unfold Ev.evV Ev.cells Ev.strong
 have HB:=B0
 unfold Ev.cells at B0
 by_cases hk:k=3
 ·have tk:(k==3)=true:=by simpa using hk
  rw [show ((⟨h,k,a,v,r,q,l,p,s,z,d1,d2,d3⟩:Ev.R).k==3)=true from tk]
  clear hk
  cases q <;> cases l <;> cases z
  all_goals
   go_enter Tryz.func91,Tryz.ntmps91
   go_wp2
   go_ret
   exact⟨rfl,B0.out⟩
 ·have tk:(k==3)=false:=by simpa using hk
  rw [show ((⟨h,k,a,v,r,q,l,p,s,z,d1,d2,d3⟩:Ev.R).k==3)=false from tk]
  clear hk
  cases q <;> cases l <;> cases z
  all_goals
   go_enter Tryz.func91,Tryz.ntmps91
   go_wp2
   go_ret
   exact⟨rfl,B0.out⟩
theorem rin_any (n:Int) (x:Ev.R) (w:World):Calls Tryz.prog 92 #[.int .i64 n,Ev.evV x] w fun e w'=>e=.returned (.bool (Ev.inSet n x))∧Below w.heap.size w w':=by
 obtain⟨B,hB⟩:∃ B,B=w.alloc (Obj.cells (Ev.cells x).toArray 48):=⟨_,rfl⟩
 have HB:=qH hB
 have B0:=qH (show Below w.heap.size w B by rw [hB];exact(Below.refl w.heap.size w).alloc (Nat.le_refl _) _)
 have RX:=qH (show B.heap[w.heap.size]?=some (.cells (Ev.cells x).toArray 48 (0,0)) by rw [hB];exact heap_alloc_new _ _)
 obtain⟨s,hs⟩:∃ s,Ev.stores x.k=s:=⟨_,rfl⟩
 obtain⟨l,hl⟩:∃ s,Ev.loads x.k=s:=⟨_,rfl⟩
 obtain⟨t,ht⟩:∃ t,(n.tmod 2==1)=t:=⟨_,rfl⟩
 obtain⟨u,hu⟩:∃ t,decide (2≤n)=t:=⟨_,rfl⟩
 have HS:=qH hs;have HL:=qH hl
 have HRES:=qH (show Ev.inSet n x=(t&&s||u&&l) by unfold Ev.inSet;rw [hs,hl,ht,hu])
 clear hB hs hl
 unfold Ev.evV
 cases t
 ·cases u
  ·go_enter Tryz.func92,Tryz.ntmps92
   go_wp2
   go_ret
   exact⟨by rw [HRES.out];try rfl,by rw [← HB.out];exact B0.out⟩
  ·go_enter Tryz.func92,Tryz.ntmps92
   go_wp2_with ((with_reducible refine qG 16 ?_);(try rw [show w.alloc (Obj.cells (Ev.cells x).toArray 48)=B from HB.out.symm]);refine Ev.load_row_g 48 (.tmp 3) rfl rfl w.heap.size (by kernel_rfl) 48 (Ev.cells x).toArray (0,0) _ RX.out Tryz.underlying48 rfl (by kernel_rfl) ?_)
   refine(rloads_is HL.out _).mono ?_
   rintro e W9 ⟨rfl,hb⟩
   have HEND:=qH ((B0.out).trans (hb.mono (B0.out).size));clear hb
   go_wp2_with fail
   go_ret
   exact⟨by rw [HRES.out];try rfl,HEND.out⟩
 ·go_enter Tryz.func92,Tryz.ntmps92
  go_wp2_with ((with_reducible refine qG 9 ?_);(try rw [show w.alloc (Obj.cells (Ev.cells x).toArray 48)=B from HB.out.symm]);refine Ev.load_row_g 48 (.tmp 3) rfl rfl w.heap.size (by kernel_rfl) 48 (Ev.cells x).toArray (0,0) _ RX.out Tryz.underlying48 rfl (by kernel_rfl) ?_)
  refine(rstores_is HS.out _).mono ?_
  rintro e W1 ⟨rfl,hb⟩
  have R1:=qH ((hb.block w.heap.size (qL RX.out)).trans RX.out)
  have B1:=qH (B0.out.trans (hb.mono B0.out.size));clear hb
  cases s
  ·cases u
   ·go_wp2_with fail
    go_ret
    exact⟨by rw [HRES.out];try rfl,B1.out⟩
   ·go_wp2_with ((with_reducible refine qG 16 ?_);(try rw [show w.alloc (Obj.cells (Ev.cells x).toArray 48)=B from HB.out.symm]);refine Ev.load_row_g 48 (.tmp 3) rfl rfl w.heap.size (by kernel_rfl) 48 (Ev.cells x).toArray (0,0) _ R1.out Tryz.underlying48 rfl (by kernel_rfl) ?_)
    refine(rloads_is HL.out _).mono ?_
    rintro e W9 ⟨rfl,hb⟩
    have HEND:=qH ((B1.out).trans (hb.mono (B1.out).size));clear hb
    go_wp2_with fail
    go_ret
    exact⟨by rw [HRES.out];try rfl,HEND.out⟩
  ·go_wp2_with fail
   go_ret
   exact⟨by rw [HRES.out];try rfl,B1.out⟩
end Go.Proofs.YtnjnpbabgefaeaaGreat
end
