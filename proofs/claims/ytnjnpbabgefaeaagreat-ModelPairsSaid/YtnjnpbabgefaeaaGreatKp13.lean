import Derived.Test.YtnjnpbabgefaeaaGreatKp10
import Derived.Deep.QuietTactic
import Derived.Laws.Rows
import Derived.Test.YtnjnpbabgefaeaaGreatKpH
set_option maxRecDepth 100000
set_option maxHeartbeats 4000000
set_option linter.unusedVariables false
set_option linter.unusedSimpArgs false
section
namespace Go.Proofs.YtnjnpbabgefaeaaGreat
open Go.RowKit
theorem bare4_q (w:World) (h:Int) (a:Int) (v:Int) (r:Int) (l:Bool) (p:Int) (s:Int) (z:Bool) (d1:Ev.Sl) (d2:Ev.Sl) (d3:Ev.Sl) (tp:decide (p < 0)=false) (tp3:decide (3 < p)=false) (ts:decide (s < 0)=false) (ts3:decide (3 < s)=false):Calls Tryz.prog 29 #[Ev.evV (⟨h,4,a,v,r,true,l,p,s,z,d1,d2,d3⟩:Ev.R)] w fun e w'=>e=.returned (.bool false)∧Below w.heap.size w w':=by
 have R0:=qH (heap_alloc_new w (.cells (Ev.cells (⟨h,4,a,v,r,true,l,p,s,z,d1,d2,d3⟩:Ev.R)).toArray 48))
 have B0:=qH ((Below.refl w.heap.size w).alloc (Nat.le_refl _) (.cells (Ev.cells (⟨h,4,a,v,r,true,l,p,s,z,d1,d2,d3⟩:Ev.R)).toArray 48))
 unfold Ev.evV Ev.cells
 go_enter Tryz.func29,Tryz.ntmps29
 go_wp2
 go_ret
 exact⟨rfl,B0.out⟩
theorem bare4_l (w:World) (h:Int) (a:Int) (v:Int) (r:Int) (p:Int) (s:Int) (z:Bool) (d1:Ev.Sl) (d2:Ev.Sl) (d3:Ev.Sl) (tp:decide (p < 0)=false) (tp3:decide (3 < p)=false) (ts:decide (s < 0)=false) (ts3:decide (3 < s)=false):Calls Tryz.prog 29 #[Ev.evV (⟨h,4,a,v,r,false,true,p,s,z,d1,d2,d3⟩:Ev.R)] w fun e w'=>e=.returned (.bool false)∧Below w.heap.size w w':=by
 have R0:=qH (heap_alloc_new w (.cells (Ev.cells (⟨h,4,a,v,r,false,true,p,s,z,d1,d2,d3⟩:Ev.R)).toArray 48))
 have B0:=qH ((Below.refl w.heap.size w).alloc (Nat.le_refl _) (.cells (Ev.cells (⟨h,4,a,v,r,false,true,p,s,z,d1,d2,d3⟩:Ev.R)).toArray 48))
 unfold Ev.evV Ev.cells
 go_enter Tryz.func29,Tryz.ntmps29
 go_wp2
 go_ret
 exact⟨rfl,B0.out⟩
theorem bare4_z (w:World) (h:Int) (a:Int) (v:Int) (r:Int) (p:Int) (s:Int) (d1:Ev.Sl) (d2:Ev.Sl) (d3:Ev.Sl) (tp:decide (p < 0)=false) (tp3:decide (3 < p)=false) (ts:decide (s < 0)=false) (ts3:decide (3 < s)=false):Calls Tryz.prog 29 #[Ev.evV (⟨h,4,a,v,r,false,false,p,s,true,d1,d2,d3⟩:Ev.R)] w fun e w'=>e=.returned (.bool false)∧Below w.heap.size w w':=by
 have R0:=qH (heap_alloc_new w (.cells (Ev.cells (⟨h,4,a,v,r,false,false,p,s,true,d1,d2,d3⟩:Ev.R)).toArray 48))
 have B0:=qH ((Below.refl w.heap.size w).alloc (Nat.le_refl _) (.cells (Ev.cells (⟨h,4,a,v,r,false,false,p,s,true,d1,d2,d3⟩:Ev.R)).toArray 48))
 unfold Ev.evV Ev.cells
 go_enter Tryz.func29,Tryz.ntmps29
 go_wp2
 go_ret
 exact⟨rfl,B0.out⟩
theorem bare4_v (w:World) (h:Int) (a:Int) (v:Int) (r:Int) (p:Int) (s:Int) (d1:Ev.Sl) (d2:Ev.Sl) (d3:Ev.Sl) (tp:decide (p < 0)=false) (tp3:decide (3 < p)=false) (ts:decide (s < 0)=false) (ts3:decide (3 < s)=false) (t:(v != 0)=true):Calls Tryz.prog 29 #[Ev.evV (⟨h,4,a,v,r,false,false,p,s,false,d1,d2,d3⟩:Ev.R)] w fun e w'=>e=.returned (.bool false)∧Below w.heap.size w w':=by
 have R0:=qH (heap_alloc_new w (.cells (Ev.cells (⟨h,4,a,v,r,false,false,p,s,false,d1,d2,d3⟩:Ev.R)).toArray 48))
 have B0:=qH ((Below.refl w.heap.size w).alloc (Nat.le_refl _) (.cells (Ev.cells (⟨h,4,a,v,r,false,false,p,s,false,d1,d2,d3⟩:Ev.R)).toArray 48))
 unfold Ev.evV Ev.cells
 go_enter Tryz.func29,Tryz.ntmps29
 go_wp2_with (with_reducible show wpList _ _ _ (Oper.mk (some 72) _ _ _ _ _ :: _) _ _;refine wpList_load_row rfl 48 (.tmp 1) rfl w.heap.size rfl 48 (Ev.cells (⟨h,4,a,v,r,false,false,p,s,false,d1,d2,d3⟩:Ev.R)).toArray (0,0) _ R0.out Tryz.underlying48 rfl (by kernel_rfl) ?_)
 refine(rstores_is (x:=(⟨h,4,a,v,r,false,false,p,s,false,d1,d2,d3⟩:Ev.R)) (b:=false) rfl _).mono ?_
 rintro e W2 ⟨rfl,hb⟩
 have R2:=qH ((hb.block w.heap.size (by simp only [World.size_alloc];omega)).trans R0.out)
 have B2:=qH (B0.out.trans (hb.mono (by simp only [World.size_alloc];omega)));clear hb
 have c2:W2.cell? ⟨w.heap.size,2,none⟩=some (.int .u32 a):=by rw [qC R2.out];rfl
 have c3:W2.cell? ⟨w.heap.size,3,none⟩=some (.int .u32 v):=by rw [qC R2.out];rfl
 have c4:W2.cell? ⟨w.heap.size,4,none⟩=some (.int .u32 r):=by rw [qC R2.out];rfl
 have c10:W2.cell? ⟨w.heap.size,10,none⟩=some (.slice d1.a d1.l.length d1.c):=by rw [qC R2.out];rfl
 have c11:W2.cell? ⟨w.heap.size,11,none⟩=some (.slice d2.a d2.l.length d2.c):=by rw [qC R2.out];rfl
 have c12:W2.cell? ⟨w.heap.size,12,none⟩=some (.slice d3.a d3.l.length d3.c):=by rw [qC R2.out];rfl
 have c0:W2.cell? ⟨w.heap.size,0,none⟩=some (.int .i64 h):=by rw [qC R2.out];rfl
 go_wp2
 go_ret
 exact⟨rfl,B2.out⟩
theorem bare4_r (w:World) (h:Int) (a:Int) (r:Int) (p:Int) (s:Int) (d1:Ev.Sl) (d2:Ev.Sl) (d3:Ev.Sl) (tp:decide (p < 0)=false) (tp3:decide (3 < p)=false) (ts:decide (s < 0)=false) (ts3:decide (3 < s)=false) (t:(r != 0)=true):Calls Tryz.prog 29 #[Ev.evV (⟨h,4,a,0,r,false,false,p,s,false,d1,d2,d3⟩:Ev.R)] w fun e w'=>e=.returned (.bool false)∧Below w.heap.size w w':=by
 have R0:=qH (heap_alloc_new w (.cells (Ev.cells (⟨h,4,a,0,r,false,false,p,s,false,d1,d2,d3⟩:Ev.R)).toArray 48))
 have B0:=qH ((Below.refl w.heap.size w).alloc (Nat.le_refl _) (.cells (Ev.cells (⟨h,4,a,0,r,false,false,p,s,false,d1,d2,d3⟩:Ev.R)).toArray 48))
 unfold Ev.evV Ev.cells
 go_enter Tryz.func29,Tryz.ntmps29
 go_wp2_with (with_reducible show wpList _ _ _ (Oper.mk (some 72) _ _ _ _ _ :: _) _ _;refine wpList_load_row rfl 48 (.tmp 1) rfl w.heap.size rfl 48 (Ev.cells (⟨h,4,a,0,r,false,false,p,s,false,d1,d2,d3⟩:Ev.R)).toArray (0,0) _ R0.out Tryz.underlying48 rfl (by kernel_rfl) ?_)
 refine(rstores_is (x:=(⟨h,4,a,0,r,false,false,p,s,false,d1,d2,d3⟩:Ev.R)) (b:=false) rfl _).mono ?_
 rintro e W2 ⟨rfl,hb⟩
 have R2:=qH ((hb.block w.heap.size (by simp only [World.size_alloc];omega)).trans R0.out)
 have B2:=qH (B0.out.trans (hb.mono (by simp only [World.size_alloc];omega)));clear hb
 have c2:W2.cell? ⟨w.heap.size,2,none⟩=some (.int .u32 a):=by rw [qC R2.out];rfl
 have c3:W2.cell? ⟨w.heap.size,3,none⟩=some (.int .u32 0):=by rw [qC R2.out];rfl
 have c4:W2.cell? ⟨w.heap.size,4,none⟩=some (.int .u32 r):=by rw [qC R2.out];rfl
 have c10:W2.cell? ⟨w.heap.size,10,none⟩=some (.slice d1.a d1.l.length d1.c):=by rw [qC R2.out];rfl
 have c11:W2.cell? ⟨w.heap.size,11,none⟩=some (.slice d2.a d2.l.length d2.c):=by rw [qC R2.out];rfl
 have c12:W2.cell? ⟨w.heap.size,12,none⟩=some (.slice d3.a d3.l.length d3.c):=by rw [qC R2.out];rfl
 have c0:W2.cell? ⟨w.heap.size,0,none⟩=some (.int .i64 h):=by rw [qC R2.out];rfl
 go_wp2_with (with_reducible show wpList _ _ _ (Oper.mk (some 81) _ _ _ _ _ :: _) _ _;refine Ev.load_row_g 48 (.tmp 1) rfl rfl w.heap.size rfl 48 (Ev.cells (⟨h,4,a,0,r,false,false,p,s,false,d1,d2,d3⟩:Ev.R)).toArray (0,0) _ R2.out Tryz.underlying48 rfl (by kernel_rfl) ?_)
 refine(rloads_is (x:=(⟨h,4,a,0,r,false,false,p,s,false,d1,d2,d3⟩:Ev.R)) (b:=false) rfl _).mono ?_
 rintro e W3 ⟨rfl,hb⟩
 have R3:=qH ((hb.block w.heap.size (qL R2.out)).trans R2.out)
 have B3:=qH (B2.out.trans (hb.mono B2.out.size));clear hb c0 c2 c3 c4 c10 c11 c12
 have c2:W3.cell? ⟨w.heap.size,2,none⟩=some (.int .u32 a):=by rw [qC R3.out];rfl
 have c3:W3.cell? ⟨w.heap.size,3,none⟩=some (.int .u32 0):=by rw [qC R3.out];rfl
 have c4:W3.cell? ⟨w.heap.size,4,none⟩=some (.int .u32 r):=by rw [qC R3.out];rfl
 have c10:W3.cell? ⟨w.heap.size,10,none⟩=some (.slice d1.a d1.l.length d1.c):=by rw [qC R3.out];rfl
 have c11:W3.cell? ⟨w.heap.size,11,none⟩=some (.slice d2.a d2.l.length d2.c):=by rw [qC R3.out];rfl
 have c12:W3.cell? ⟨w.heap.size,12,none⟩=some (.slice d3.a d3.l.length d3.c):=by rw [qC R3.out];rfl
 have c0:W3.cell? ⟨w.heap.size,0,none⟩=some (.int .i64 h):=by rw [qC R3.out];rfl
 go_wp2
 go_ret
 exact⟨rfl,B3.out⟩
theorem bare4_a (w:World) (h:Int) (a:Int) (p:Int) (s:Int) (d1:Ev.Sl) (d2:Ev.Sl) (d3:Ev.Sl) (tp:decide (p < 0)=false) (tp3:decide (3 < p)=false) (ts:decide (s < 0)=false) (ts3:decide (3 < s)=false) (t:(a != 0)=true):Calls Tryz.prog 29 #[Ev.evV (⟨h,4,a,0,0,false,false,p,s,false,d1,d2,d3⟩:Ev.R)] w fun e w'=>e=.returned (.bool false)∧Below w.heap.size w w':=by
 have R0:=qH (heap_alloc_new w (.cells (Ev.cells (⟨h,4,a,0,0,false,false,p,s,false,d1,d2,d3⟩:Ev.R)).toArray 48))
 have B0:=qH ((Below.refl w.heap.size w).alloc (Nat.le_refl _) (.cells (Ev.cells (⟨h,4,a,0,0,false,false,p,s,false,d1,d2,d3⟩:Ev.R)).toArray 48))
 unfold Ev.evV Ev.cells
 go_enter Tryz.func29,Tryz.ntmps29
 go_wp2_with (with_reducible show wpList _ _ _ (Oper.mk (some 72) _ _ _ _ _ :: _) _ _;refine wpList_load_row rfl 48 (.tmp 1) rfl w.heap.size rfl 48 (Ev.cells (⟨h,4,a,0,0,false,false,p,s,false,d1,d2,d3⟩:Ev.R)).toArray (0,0) _ R0.out Tryz.underlying48 rfl (by kernel_rfl) ?_)
 refine(rstores_is (x:=(⟨h,4,a,0,0,false,false,p,s,false,d1,d2,d3⟩:Ev.R)) (b:=false) rfl _).mono ?_
 rintro e W2 ⟨rfl,hb⟩
 have R2:=qH ((hb.block w.heap.size (by simp only [World.size_alloc];omega)).trans R0.out)
 have B2:=qH (B0.out.trans (hb.mono (by simp only [World.size_alloc];omega)));clear hb
 have c2:W2.cell? ⟨w.heap.size,2,none⟩=some (.int .u32 a):=by rw [qC R2.out];rfl
 have c3:W2.cell? ⟨w.heap.size,3,none⟩=some (.int .u32 0):=by rw [qC R2.out];rfl
 have c4:W2.cell? ⟨w.heap.size,4,none⟩=some (.int .u32 0):=by rw [qC R2.out];rfl
 have c10:W2.cell? ⟨w.heap.size,10,none⟩=some (.slice d1.a d1.l.length d1.c):=by rw [qC R2.out];rfl
 have c11:W2.cell? ⟨w.heap.size,11,none⟩=some (.slice d2.a d2.l.length d2.c):=by rw [qC R2.out];rfl
 have c12:W2.cell? ⟨w.heap.size,12,none⟩=some (.slice d3.a d3.l.length d3.c):=by rw [qC R2.out];rfl
 have c0:W2.cell? ⟨w.heap.size,0,none⟩=some (.int .i64 h):=by rw [qC R2.out];rfl
 go_wp2_with (with_reducible show wpList _ _ _ (Oper.mk (some 81) _ _ _ _ _ :: _) _ _;refine Ev.load_row_g 48 (.tmp 1) rfl rfl w.heap.size rfl 48 (Ev.cells (⟨h,4,a,0,0,false,false,p,s,false,d1,d2,d3⟩:Ev.R)).toArray (0,0) _ R2.out Tryz.underlying48 rfl (by kernel_rfl) ?_)
 refine(rloads_is (x:=(⟨h,4,a,0,0,false,false,p,s,false,d1,d2,d3⟩:Ev.R)) (b:=false) rfl _).mono ?_
 rintro e W3 ⟨rfl,hb⟩
 have R3:=qH ((hb.block w.heap.size (qL R2.out)).trans R2.out)
 have B3:=qH (B2.out.trans (hb.mono B2.out.size));clear hb c0 c2 c3 c4 c10 c11 c12
 have c2:W3.cell? ⟨w.heap.size,2,none⟩=some (.int .u32 a):=by rw [qC R3.out];rfl
 have c3:W3.cell? ⟨w.heap.size,3,none⟩=some (.int .u32 0):=by rw [qC R3.out];rfl
 have c4:W3.cell? ⟨w.heap.size,4,none⟩=some (.int .u32 0):=by rw [qC R3.out];rfl
 have c10:W3.cell? ⟨w.heap.size,10,none⟩=some (.slice d1.a d1.l.length d1.c):=by rw [qC R3.out];rfl
 have c11:W3.cell? ⟨w.heap.size,11,none⟩=some (.slice d2.a d2.l.length d2.c):=by rw [qC R3.out];rfl
 have c12:W3.cell? ⟨w.heap.size,12,none⟩=some (.slice d3.a d3.l.length d3.c):=by rw [qC R3.out];rfl
 have c0:W3.cell? ⟨w.heap.size,0,none⟩=some (.int .i64 h):=by rw [qC R3.out];rfl
 go_wp2
 go_ret
 exact⟨rfl,B3.out⟩
theorem bare4_d2 (w:World) (h:Int) (p:Int) (s:Int) (d1:Ev.Sl) (d2:Ev.Sl) (d3:Ev.Sl) (tp:decide (p < 0)=false) (tp3:decide (3 < p)=false) (ts:decide (s < 0)=false) (ts3:decide (3 < s)=false) (t:((d2.l.length:Int)==0)=false):Calls Tryz.prog 29 #[Ev.evV (⟨h,4,0,0,0,false,false,p,s,false,d1,d2,d3⟩:Ev.R)] w fun e w'=>e=.returned (.bool false)∧Below w.heap.size w w':=by
 have R0:=qH (heap_alloc_new w (.cells (Ev.cells (⟨h,4,0,0,0,false,false,p,s,false,d1,d2,d3⟩:Ev.R)).toArray 48))
 have B0:=qH ((Below.refl w.heap.size w).alloc (Nat.le_refl _) (.cells (Ev.cells (⟨h,4,0,0,0,false,false,p,s,false,d1,d2,d3⟩:Ev.R)).toArray 48))
 unfold Ev.evV Ev.cells
 go_enter Tryz.func29,Tryz.ntmps29
 go_wp2_with (with_reducible show wpList _ _ _ (Oper.mk (some 72) _ _ _ _ _ :: _) _ _;refine wpList_load_row rfl 48 (.tmp 1) rfl w.heap.size rfl 48 (Ev.cells (⟨h,4,0,0,0,false,false,p,s,false,d1,d2,d3⟩:Ev.R)).toArray (0,0) _ R0.out Tryz.underlying48 rfl (by kernel_rfl) ?_)
 refine(rstores_is (x:=(⟨h,4,0,0,0,false,false,p,s,false,d1,d2,d3⟩:Ev.R)) (b:=false) rfl _).mono ?_
 rintro e W2 ⟨rfl,hb⟩
 have R2:=qH ((hb.block w.heap.size (by simp only [World.size_alloc];omega)).trans R0.out)
 have B2:=qH (B0.out.trans (hb.mono (by simp only [World.size_alloc];omega)));clear hb
 have c2:W2.cell? ⟨w.heap.size,2,none⟩=some (.int .u32 0):=by rw [qC R2.out];rfl
 have c3:W2.cell? ⟨w.heap.size,3,none⟩=some (.int .u32 0):=by rw [qC R2.out];rfl
 have c4:W2.cell? ⟨w.heap.size,4,none⟩=some (.int .u32 0):=by rw [qC R2.out];rfl
 have c10:W2.cell? ⟨w.heap.size,10,none⟩=some (.slice d1.a d1.l.length d1.c):=by rw [qC R2.out];rfl
 have c11:W2.cell? ⟨w.heap.size,11,none⟩=some (.slice d2.a d2.l.length d2.c):=by rw [qC R2.out];rfl
 have c12:W2.cell? ⟨w.heap.size,12,none⟩=some (.slice d3.a d3.l.length d3.c):=by rw [qC R2.out];rfl
 have c0:W2.cell? ⟨w.heap.size,0,none⟩=some (.int .i64 h):=by rw [qC R2.out];rfl
 go_wp2_with (with_reducible show wpList _ _ _ (Oper.mk (some 81) _ _ _ _ _ :: _) _ _;refine Ev.load_row_g 48 (.tmp 1) rfl rfl w.heap.size rfl 48 (Ev.cells (⟨h,4,0,0,0,false,false,p,s,false,d1,d2,d3⟩:Ev.R)).toArray (0,0) _ R2.out Tryz.underlying48 rfl (by kernel_rfl) ?_)
 refine(rloads_is (x:=(⟨h,4,0,0,0,false,false,p,s,false,d1,d2,d3⟩:Ev.R)) (b:=false) rfl _).mono ?_
 rintro e W3 ⟨rfl,hb⟩
 have R3:=qH ((hb.block w.heap.size (qL R2.out)).trans R2.out)
 have B3:=qH (B2.out.trans (hb.mono B2.out.size));clear hb c0 c2 c3 c4 c10 c11 c12
 have c2:W3.cell? ⟨w.heap.size,2,none⟩=some (.int .u32 0):=by rw [qC R3.out];rfl
 have c3:W3.cell? ⟨w.heap.size,3,none⟩=some (.int .u32 0):=by rw [qC R3.out];rfl
 have c4:W3.cell? ⟨w.heap.size,4,none⟩=some (.int .u32 0):=by rw [qC R3.out];rfl
 have c10:W3.cell? ⟨w.heap.size,10,none⟩=some (.slice d1.a d1.l.length d1.c):=by rw [qC R3.out];rfl
 have c11:W3.cell? ⟨w.heap.size,11,none⟩=some (.slice d2.a d2.l.length d2.c):=by rw [qC R3.out];rfl
 have c12:W3.cell? ⟨w.heap.size,12,none⟩=some (.slice d3.a d3.l.length d3.c):=by rw [qC R3.out];rfl
 have c0:W3.cell? ⟨w.heap.size,0,none⟩=some (.int .i64 h):=by rw [qC R3.out];rfl
 go_wp2
 go_ret
 exact⟨rfl,B3.out⟩
theorem bare4_d1 (w:World) (h:Int) (p:Int) (s:Int) (d1:Ev.Sl) (d2a:Option Addr) (d2c:Nat) (d3:Ev.Sl) (tp:decide (p < 0)=false) (tp3:decide (3 < p)=false) (ts:decide (s < 0)=false) (ts3:decide (3 < s)=false) (t:((d1.l.length:Int)==0)=false):Calls Tryz.prog 29 #[Ev.evV (⟨h,4,0,0,0,false,false,p,s,false,d1,⟨d2a,d2c,[]⟩,d3⟩:Ev.R)] w fun e w'=>e=.returned (.bool false)∧Below w.heap.size w w':=by
 have R0:=qH (heap_alloc_new w (.cells (Ev.cells (⟨h,4,0,0,0,false,false,p,s,false,d1,⟨d2a,d2c,[]⟩,d3⟩:Ev.R)).toArray 48))
 have B0:=qH ((Below.refl w.heap.size w).alloc (Nat.le_refl _) (.cells (Ev.cells (⟨h,4,0,0,0,false,false,p,s,false,d1,⟨d2a,d2c,[]⟩,d3⟩:Ev.R)).toArray 48))
 unfold Ev.evV Ev.cells
 go_enter Tryz.func29,Tryz.ntmps29
 go_wp2_with (with_reducible show wpList _ _ _ (Oper.mk (some 72) _ _ _ _ _ :: _) _ _;refine wpList_load_row rfl 48 (.tmp 1) rfl w.heap.size rfl 48 (Ev.cells (⟨h,4,0,0,0,false,false,p,s,false,d1,⟨d2a,d2c,[]⟩,d3⟩:Ev.R)).toArray (0,0) _ R0.out Tryz.underlying48 rfl (by kernel_rfl) ?_)
 refine(rstores_is (x:=(⟨h,4,0,0,0,false,false,p,s,false,d1,⟨d2a,d2c,[]⟩,d3⟩:Ev.R)) (b:=false) rfl _).mono ?_
 rintro e W2 ⟨rfl,hb⟩
 have R2:=qH ((hb.block w.heap.size (by simp only [World.size_alloc];omega)).trans R0.out)
 have B2:=qH (B0.out.trans (hb.mono (by simp only [World.size_alloc];omega)));clear hb
 have c2:W2.cell? ⟨w.heap.size,2,none⟩=some (.int .u32 0):=by rw [qC R2.out];rfl
 have c3:W2.cell? ⟨w.heap.size,3,none⟩=some (.int .u32 0):=by rw [qC R2.out];rfl
 have c4:W2.cell? ⟨w.heap.size,4,none⟩=some (.int .u32 0):=by rw [qC R2.out];rfl
 have c10:W2.cell? ⟨w.heap.size,10,none⟩=some (.slice d1.a d1.l.length d1.c):=by rw [qC R2.out];rfl
 have c11:W2.cell? ⟨w.heap.size,11,none⟩=some (.slice d2a 0 d2c):=by rw [qC R2.out];rfl
 have c12:W2.cell? ⟨w.heap.size,12,none⟩=some (.slice d3.a d3.l.length d3.c):=by rw [qC R2.out];rfl
 have c0:W2.cell? ⟨w.heap.size,0,none⟩=some (.int .i64 h):=by rw [qC R2.out];rfl
 go_wp2_with (with_reducible show wpList _ _ _ (Oper.mk (some 81) _ _ _ _ _ :: _) _ _;refine Ev.load_row_g 48 (.tmp 1) rfl rfl w.heap.size rfl 48 (Ev.cells (⟨h,4,0,0,0,false,false,p,s,false,d1,⟨d2a,d2c,[]⟩,d3⟩:Ev.R)).toArray (0,0) _ R2.out Tryz.underlying48 rfl (by kernel_rfl) ?_)
 refine(rloads_is (x:=(⟨h,4,0,0,0,false,false,p,s,false,d1,⟨d2a,d2c,[]⟩,d3⟩:Ev.R)) (b:=false) rfl _).mono ?_
 rintro e W3 ⟨rfl,hb⟩
 have R3:=qH ((hb.block w.heap.size (qL R2.out)).trans R2.out)
 have B3:=qH (B2.out.trans (hb.mono B2.out.size));clear hb c0 c2 c3 c4 c10 c11 c12
 have c2:W3.cell? ⟨w.heap.size,2,none⟩=some (.int .u32 0):=by rw [qC R3.out];rfl
 have c3:W3.cell? ⟨w.heap.size,3,none⟩=some (.int .u32 0):=by rw [qC R3.out];rfl
 have c4:W3.cell? ⟨w.heap.size,4,none⟩=some (.int .u32 0):=by rw [qC R3.out];rfl
 have c10:W3.cell? ⟨w.heap.size,10,none⟩=some (.slice d1.a d1.l.length d1.c):=by rw [qC R3.out];rfl
 have c11:W3.cell? ⟨w.heap.size,11,none⟩=some (.slice d2a 0 d2c):=by rw [qC R3.out];rfl
 have c12:W3.cell? ⟨w.heap.size,12,none⟩=some (.slice d3.a d3.l.length d3.c):=by rw [qC R3.out];rfl
 have c0:W3.cell? ⟨w.heap.size,0,none⟩=some (.int .i64 h):=by rw [qC R3.out];rfl
 go_wp2
 go_ret
 exact⟨rfl,B3.out⟩
theorem bare4_ok (w:World) (h:Int) (p:Int) (s:Int) (d1a:Option Addr) (d1c:Nat) (d2a:Option Addr) (d2c:Nat) (d3:Ev.Sl) (tp:decide (p < 0)=false) (tp3:decide (3 < p)=false) (ts:decide (s < 0)=false) (ts3:decide (3 < s)=false):Calls Tryz.prog 29 #[Ev.evV (⟨h,4,0,0,0,false,false,p,s,false,⟨d1a,d1c,[]⟩,⟨d2a,d2c,[]⟩,d3⟩:Ev.R)] w fun e w'=>e=.returned (.bool true)∧Below w.heap.size w w':=by
 have R0:=qH (heap_alloc_new w (.cells (Ev.cells (⟨h,4,0,0,0,false,false,p,s,false,⟨d1a,d1c,[]⟩,⟨d2a,d2c,[]⟩,d3⟩:Ev.R)).toArray 48))
 have B0:=qH ((Below.refl w.heap.size w).alloc (Nat.le_refl _) (.cells (Ev.cells (⟨h,4,0,0,0,false,false,p,s,false,⟨d1a,d1c,[]⟩,⟨d2a,d2c,[]⟩,d3⟩:Ev.R)).toArray 48))
 unfold Ev.evV Ev.cells
 go_enter Tryz.func29,Tryz.ntmps29
 go_wp2_with (with_reducible show wpList _ _ _ (Oper.mk (some 72) _ _ _ _ _ :: _) _ _;refine wpList_load_row rfl 48 (.tmp 1) rfl w.heap.size rfl 48 (Ev.cells (⟨h,4,0,0,0,false,false,p,s,false,⟨d1a,d1c,[]⟩,⟨d2a,d2c,[]⟩,d3⟩:Ev.R)).toArray (0,0) _ R0.out Tryz.underlying48 rfl (by kernel_rfl) ?_)
 refine(rstores_is (x:=(⟨h,4,0,0,0,false,false,p,s,false,⟨d1a,d1c,[]⟩,⟨d2a,d2c,[]⟩,d3⟩:Ev.R)) (b:=false) rfl _).mono ?_
 rintro e W2 ⟨rfl,hb⟩
 have R2:=qH ((hb.block w.heap.size (by simp only [World.size_alloc];omega)).trans R0.out)
 have B2:=qH (B0.out.trans (hb.mono (by simp only [World.size_alloc];omega)));clear hb
 have c2:W2.cell? ⟨w.heap.size,2,none⟩=some (.int .u32 0):=by rw [qC R2.out];rfl
 have c3:W2.cell? ⟨w.heap.size,3,none⟩=some (.int .u32 0):=by rw [qC R2.out];rfl
 have c4:W2.cell? ⟨w.heap.size,4,none⟩=some (.int .u32 0):=by rw [qC R2.out];rfl
 have c10:W2.cell? ⟨w.heap.size,10,none⟩=some (.slice d1a 0 d1c):=by rw [qC R2.out];rfl
 have c11:W2.cell? ⟨w.heap.size,11,none⟩=some (.slice d2a 0 d2c):=by rw [qC R2.out];rfl
 have c12:W2.cell? ⟨w.heap.size,12,none⟩=some (.slice d3.a d3.l.length d3.c):=by rw [qC R2.out];rfl
 have c0:W2.cell? ⟨w.heap.size,0,none⟩=some (.int .i64 h):=by rw [qC R2.out];rfl
 go_wp2_with (with_reducible show wpList _ _ _ (Oper.mk (some 81) _ _ _ _ _ :: _) _ _;refine Ev.load_row_g 48 (.tmp 1) rfl rfl w.heap.size rfl 48 (Ev.cells (⟨h,4,0,0,0,false,false,p,s,false,⟨d1a,d1c,[]⟩,⟨d2a,d2c,[]⟩,d3⟩:Ev.R)).toArray (0,0) _ R2.out Tryz.underlying48 rfl (by kernel_rfl) ?_)
 refine(rloads_is (x:=(⟨h,4,0,0,0,false,false,p,s,false,⟨d1a,d1c,[]⟩,⟨d2a,d2c,[]⟩,d3⟩:Ev.R)) (b:=false) rfl _).mono ?_
 rintro e W3 ⟨rfl,hb⟩
 have R3:=qH ((hb.block w.heap.size (qL R2.out)).trans R2.out)
 have B3:=qH (B2.out.trans (hb.mono B2.out.size));clear hb c0 c2 c3 c4 c10 c11 c12
 have c2:W3.cell? ⟨w.heap.size,2,none⟩=some (.int .u32 0):=by rw [qC R3.out];rfl
 have c3:W3.cell? ⟨w.heap.size,3,none⟩=some (.int .u32 0):=by rw [qC R3.out];rfl
 have c4:W3.cell? ⟨w.heap.size,4,none⟩=some (.int .u32 0):=by rw [qC R3.out];rfl
 have c10:W3.cell? ⟨w.heap.size,10,none⟩=some (.slice d1a 0 d1c):=by rw [qC R3.out];rfl
 have c11:W3.cell? ⟨w.heap.size,11,none⟩=some (.slice d2a 0 d2c):=by rw [qC R3.out];rfl
 have c12:W3.cell? ⟨w.heap.size,12,none⟩=some (.slice d3.a d3.l.length d3.c):=by rw [qC R3.out];rfl
 have c0:W3.cell? ⟨w.heap.size,0,none⟩=some (.int .i64 h):=by rw [qC R3.out];rfl
 go_wp2
 go_ret
 exact⟨rfl,B3.out⟩
end Go.Proofs.YtnjnpbabgefaeaaGreat
end
